import Derived.Test.YtbnelaoeblhndaaGreatDoorRefOne4
namespace Go.Proofs.YtbnelaoeblhndaaGreatDoor
open Go.RowKit
set_option maxRecDepth 100000
set_option maxHeartbeats 2000000 in
theorem one_sign (s:ByteArray)(a:Nat)(w:World)(hs:s.size≤200)(ha:a<s.size)(c:Int)
  (h1:(s[a].toNat:Int)=c) (hc:c=61∨c=60∨c=62∨c=40∨c=41∨c=44) (g0:((Doc.rest s a).take 2==[33,61])=false) (g1:((Doc.rest s a).take 2==[60,61])=false) (g2:((Doc.rest s a).take 2==[62,61])=false):
  Calls Tryz.prog 131 #[.string s,.int .i64 a] w fun e w'=>e=.returned (.tuple #[.agg #[.int .u8 103,.string (s.extract a (a+1)),.int .i64 0,.int .i64 a],.int .i64 ((a+1:Nat):Int)])∧Below w.heap.size w w':=by
 by_cases hz:2<s.size-a
 ·
  have ha0:(((s.extract a s.size).extract 0 2).toList==[33,61])=false:=by rw[two_listA];exact g0
  have ha1:(((s.extract a s.size).extract 0 2).toList==[60,61])=false:=by rw[two_listA];exact g1
  have ha2:(((s.extract a s.size).extract 0 2).toList==[62,61])=false:=by rw[two_listA];exact g2
  clear g0 g1 g2
  rcases hc with hc|hc|hc|hc|hc|hc
  all_goals
   subst hc
   go_enter Tryz.func131,Tryz.ntmps131
   go_wp2
   exact bodyPost_ret (v:=.tuple #[.agg #[.int .u8 103,.string (s.extract a (a+1)),.int .i64 0,.int .i64 a],.int .i64 ((a+1:Nat):Int)]) (by simp[results,Tryz.results131,go_sem]) rfl ⟨rfl,(Below.refl _ _).alloc (Nat.le_refl _) _⟩
 ·
  have ha0:((s.extract a s.size).toList==[33,61])=false:=by rw[two_listB s a (by omega)];exact g0
  have ha1:((s.extract a s.size).toList==[60,61])=false:=by rw[two_listB s a (by omega)];exact g1
  have ha2:((s.extract a s.size).toList==[62,61])=false:=by rw[two_listB s a (by omega)];exact g2
  clear g0 g1 g2
  rcases hc with hc|hc|hc|hc|hc|hc
  all_goals
   subst hc
   go_enter Tryz.func131,Tryz.ntmps131
   go_wp2
   exact bodyPost_ret (v:=.tuple #[.agg #[.int .u8 103,.string (s.extract a (a+1)),.int .i64 0,.int .i64 a],.int .i64 ((a+1:Nat):Int)]) (by simp[results,Tryz.results131,go_sem]) rfl ⟨rfl,(Below.refl _ _).alloc (Nat.le_refl _) _⟩
set_option maxHeartbeats 2000000 in
theorem one_wrong (s:ByteArray)(a:Nat)(w:World)(_hs:s.size≤200)(ha:a<s.size)
  (hl:(s[a].toNat:Int)<48∨(57<(s[a].toNat:Int)∧(s[a].toNat:Int)<97)∨122<(s[a].toNat:Int))
  (k0:((s[a].toNat:Int)==45)=false) (k1:((s[a].toNat:Int)==34)=false) (k2:((s[a].toNat:Int)==61)=false) (k3:((s[a].toNat:Int)==60)=false) (k4:((s[a].toNat:Int)==62)=false) (k5:((s[a].toNat:Int)==40)=false) (k6:((s[a].toNat:Int)==41)=false) (k7:((s[a].toNat:Int)==44)=false) (g0:((Doc.rest s a).take 2==[33,61])=false) (g1:((Doc.rest s a).take 2==[60,61])=false) (g2:((Doc.rest s a).take 2==[62,61])=false):
  Calls Tryz.prog 131 #[.string s,.int .i64 a] w fun e w'=>e=.returned (.tuple #[.agg #[.int .u8 120,.string ByteArray.empty,.int .i64 0,.int .i64 a],.int .i64 (s.size:Int)])∧Below w.heap.size w w':=by
 by_cases hz:2<s.size-a
 ·
  have ha0:(((s.extract a s.size).extract 0 2).toList==[33,61])=false:=by rw[two_listA];exact g0
  have ha1:(((s.extract a s.size).extract 0 2).toList==[60,61])=false:=by rw[two_listA];exact g1
  have ha2:(((s.extract a s.size).extract 0 2).toList==[62,61])=false:=by rw[two_listA];exact g2
  clear g0 g1 g2
  rcases hl with hl|⟨hl,hl'⟩|hl
  all_goals
   go_enter Tryz.func131,Tryz.ntmps131
   go_wp2
   exact bodyPost_ret (v:=.tuple #[.agg #[.int .u8 120,.string ByteArray.empty,.int .i64 0,.int .i64 a],.int .i64 (s.size:Int)]) (by simp[results,Tryz.results131,go_sem];try rfl) rfl ⟨rfl,(Below.refl _ _).alloc (Nat.le_refl _) _⟩
 ·
  have ha0:((s.extract a s.size).toList==[33,61])=false:=by rw[two_listB s a (by omega)];exact g0
  have ha1:((s.extract a s.size).toList==[60,61])=false:=by rw[two_listB s a (by omega)];exact g1
  have ha2:((s.extract a s.size).toList==[62,61])=false:=by rw[two_listB s a (by omega)];exact g2
  clear g0 g1 g2
  rcases hl with hl|⟨hl,hl'⟩|hl
  all_goals
   go_enter Tryz.func131,Tryz.ntmps131
   go_wp2
   exact bodyPost_ret (v:=.tuple #[.agg #[.int .u8 120,.string ByteArray.empty,.int .i64 0,.int .i64 a],.int .i64 (s.size:Int)]) (by simp[results,Tryz.results131,go_sem];try rfl) rfl ⟨rfl,(Below.refl _ _).alloc (Nat.le_refl _) _⟩
end Go.Proofs.YtbnelaoeblhndaaGreatDoor
