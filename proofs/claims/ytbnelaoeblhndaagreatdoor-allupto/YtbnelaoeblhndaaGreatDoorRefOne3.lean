import Derived.Test.YtbnelaoeblhndaaGreatDoorRefOne2
namespace Go.Proofs.YtbnelaoeblhndaaGreatDoor
open Go.RowKit
set_option maxRecDepth 100000
theorem inside_here (s:ByteArray)(k:Nat)(h:k<s.size)(e:(s[k].toNat:Int)=34):Doc.inside (Doc.rest s k)=0:=by
 unfold Doc.rest;rw[drop_at s k h,show s[k]=34 from UInt8.toNat_inj.1 (by simpa using(by omega:s[k].toNat=34))];exact Doc.inside_hit
theorem inside_on (s:ByteArray)(k:Nat)(h:k<s.size)(e:(s[k].toNat:Int)≠34):Doc.inside (Doc.rest s k)=Doc.inside (Doc.rest s (k+1))+1:=by
 unfold Doc.rest;rw[drop_at s k h,Doc.inside_go];intro h';rw[h'] at e;exact e rfl
set_option maxHeartbeats 800000 in
theorem one_quote (s:ByteArray)(a r:Nat)(w:World)(hs:s.size≤200)(ha:a<s.size)(hr:Doc.inside (Doc.rest s (a+1))=r)
  (h1:(s[a].toNat:Int)=34) (h12:r≤12) (hend:a+1+r<s.size):
  Calls Tryz.prog 131 #[.string s,.int .i64 a] w fun e w'=>
   e=.returned (.tuple #[.agg #[.int .u8 115,.string (s.extract (a+1) (a+1+r)),.int .i64 0,.int .i64 a],.int .i64 ((a+r+2:Nat):Int)])∧Below w.heap.size w w':=by
 have HR:Hid (Doc.inside (Doc.rest s (a+1))=r):=hr
 clear hr
 go_enter Tryz.func131,Tryz.ntmps131
 go_wp2
 all_goals
  go_loop [12] (fun i=>∃k:Nat,k≤s.size∧i=.int .i64 k∧Hid (k+Doc.inside (Doc.rest s k)=a+1+r)) (fun i=>s.size-(intOf i).toNat)
  case atStart=>exact⟨a+1,by omega,by go_num,by show _=_;rw[HR.out]⟩
  case round=>
   obtain⟨k,hk,rfl,H⟩:=hrel
   have hkr:k≤a+1+r:=by have:=H.out;omega
   by_cases hlt:k<a+1+r
   ·have hb:((s[k].toNat:Int)==34)=false:=by
     rw[beq_eq_false_iff_ne];intro h;have:=inside_here s k (by omega) h;have:=H.out;omega
    have H2:Hid (k+1+Doc.inside (Doc.rest s (k+1))=a+1+r):=by
     have:=inside_on s k (by omega) (by rw[beq_eq_false_iff_ne] at hb;exact hb);have:=H.out;show _=_;omega
    clear H
    go_wp2
    go_round
    case rel=>exact⟨k+1,by omega,by go_num,H2⟩
    case measure=>simp[intOf];omega
   ·have hkk:k=a+1+r:=by omega
    subst hkk
    have hb:((s[a+1+r].toNat:Int)==34)=true:=by
     rw[beq_iff_eq];refine Classical.byContradiction fun h=>?_;have:=inside_on s (a+1+r) (by omega) h;have:=H.out;omega
    clear H
    go_wp2
    exact bodyPost_ret (v:=.tuple #[.agg #[.int .u8 115,.string (s.extract (a+1) (a+1+r)),.int .i64 0,.int .i64 a],.int .i64 ((a+r+2:Nat):Int)]) (by simp[results,Tryz.results131,go_sem];try omega) rfl ⟨rfl,(Below.refl _ _).alloc (Nat.le_refl _) _⟩
set_option maxHeartbeats 800000 in
theorem one_quote_long (s:ByteArray)(a r:Nat)(w:World)(hs:s.size≤200)(ha:a<s.size)(hr:Doc.inside (Doc.rest s (a+1))=r)
  (h1:(s[a].toNat:Int)=34) (h12:12<r) (hend:a+1+r<s.size):
  Calls Tryz.prog 131 #[.string s,.int .i64 a] w fun e w'=>
   e=.returned (.tuple #[.agg #[.int .u8 120,.string ByteArray.empty,.int .i64 0,.int .i64 a],.int .i64 (s.size:Int)])∧Below w.heap.size w w':=by
 have HR:Hid (Doc.inside (Doc.rest s (a+1))=r):=hr
 clear hr
 go_enter Tryz.func131,Tryz.ntmps131
 go_wp2
 all_goals
  go_loop [12] (fun i=>∃k:Nat,k≤s.size∧i=.int .i64 k∧Hid (k+Doc.inside (Doc.rest s k)=a+1+r)) (fun i=>s.size-(intOf i).toNat)
  case atStart=>exact⟨a+1,by omega,by go_num,by show _=_;rw[HR.out]⟩
  case round=>
   obtain⟨k,hk,rfl,H⟩:=hrel
   have hkr:k≤a+1+r:=by have:=H.out;omega
   by_cases hlt:k<a+1+r
   ·have hb:((s[k].toNat:Int)==34)=false:=by
     rw[beq_eq_false_iff_ne];intro h;have:=inside_here s k (by omega) h;have:=H.out;omega
    have H2:Hid (k+1+Doc.inside (Doc.rest s (k+1))=a+1+r):=by
     have:=inside_on s k (by omega) (by rw[beq_eq_false_iff_ne] at hb;exact hb);have:=H.out;show _=_;omega
    clear H
    go_wp2
    go_round
    case rel=>exact⟨k+1,by omega,by go_num,H2⟩
    case measure=>simp[intOf];omega
   ·have hkk:k=a+1+r:=by omega
    subst hkk
    have hb:((s[a+1+r].toNat:Int)==34)=true:=by
     rw[beq_iff_eq];refine Classical.byContradiction fun h=>?_;have:=inside_on s (a+1+r) (by omega) h;have:=H.out;omega
    clear H
    go_wp2
    exact bodyPost_ret (v:=.tuple #[.agg #[.int .u8 120,.string ByteArray.empty,.int .i64 0,.int .i64 a],.int .i64 (s.size:Int)]) (by simp[results,Tryz.results131,go_sem];try rfl) rfl ⟨rfl,(Below.refl _ _).alloc (Nat.le_refl _) _⟩
set_option maxHeartbeats 800000 in
theorem one_quote_open (s:ByteArray)(a r:Nat)(w:World)(hs:s.size≤200)(ha:a<s.size)(hr:Doc.inside (Doc.rest s (a+1))=r)
  (h1:(s[a].toNat:Int)=34) (hend:a+1+r=s.size):
  Calls Tryz.prog 131 #[.string s,.int .i64 a] w fun e w'=>
   e=.returned (.tuple #[.agg #[.int .u8 120,.string ByteArray.empty,.int .i64 0,.int .i64 a],.int .i64 (s.size:Int)])∧Below w.heap.size w w':=by
 have HR:Hid (Doc.inside (Doc.rest s (a+1))=r):=hr
 have HE:Hid (a+1+r=s.size):=hend
 clear hr hend
 go_enter Tryz.func131,Tryz.ntmps131
 go_wp2
 all_goals
  go_loop [12] (fun i=>∃k:Nat,k≤s.size∧i=.int .i64 k∧Hid (k+Doc.inside (Doc.rest s k)=a+1+r)) (fun i=>s.size-(intOf i).toNat)
  case atStart=>exact⟨a+1,by omega,by go_num,by show _=_;rw[HR.out]⟩
  case round=>
   obtain⟨k,hk,rfl,H⟩:=hrel
   by_cases hlt:k<s.size
   ·have hb:((s[k].toNat:Int)==34)=false:=by
     rw[beq_eq_false_iff_ne];intro h;have:=inside_here s k (by omega) h;have:=H.out;have:=HE.out;omega
    have H2:Hid (k+1+Doc.inside (Doc.rest s (k+1))=a+1+r):=by
     have:=inside_on s k (by omega) (by rw[beq_eq_false_iff_ne] at hb;exact hb);have:=H.out;show _=_;omega
    clear H
    go_wp2
    go_round
    case rel=>exact⟨k+1,by omega,by go_num,H2⟩
    case measure=>simp[intOf];omega
   ·clear H
    go_wp2
    exact bodyPost_ret (v:=.tuple #[.agg #[.int .u8 120,.string ByteArray.empty,.int .i64 0,.int .i64 a],.int .i64 (s.size:Int)]) (by simp[results,Tryz.results131,go_sem];try rfl) rfl ⟨rfl,(Below.refl _ _).alloc (Nat.le_refl _) _⟩
end Go.Proofs.YtbnelaoeblhndaaGreatDoor
