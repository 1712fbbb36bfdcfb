import Derived.Test.YtbnelaoeblhndaaGreatDoorRefOne2
namespace Go.Proofs.YtbnelaoeblhndaaGreatDoor
open Go.RowKit
set_option maxRecDepth 100000
theorem ba_ext {a b:ByteArray}(h:a.data.toList=b.data.toList):a=b:=by
 cases a;cases b;simp_all
theorem extract_list (s:ByteArray)(a b:Nat):(s.extract a b).data.toList=(s.data.toList.drop a).take (b-a):=by
 simp
theorem two_long (s:ByteArray)(a:Nat)(h:2<s.size-a):(s.extract a s.size).extract 0 2=s.extract a (a+2):=by
 apply ba_ext
 rw[extract_list,extract_list,extract_list,List.drop_zero,List.take_take]
 congr 1
 omega
theorem two_all (s:ByteArray)(a:Nat)(h:s.size≤a+2):s.extract a s.size=s.extract a (a+2):=by
 apply ba_ext
 rw[extract_list,extract_list,List.take_of_length_le (by simp),List.take_of_length_le (by simp;omega)]
theorem ba_toList (s:ByteArray):s.toList=s.data.toList:=by
 exact ByteArray.toList_eq s
theorem two_listA (s:ByteArray)(a:Nat):((s.extract a s.size).extract 0 2).toList=(Doc.rest s a).take 2:=by
 rw[ba_toList,extract_list,extract_list,List.drop_zero,List.take_take,Doc.rest]
 by_cases h:2≤s.size-a
 ·congr 1;omega
 ·rw[List.take_of_length_le (by simp;omega),List.take_of_length_le (by simp;omega)]
theorem two_listB (s:ByteArray)(a:Nat)(h:s.size-a≤2):(s.extract a s.size).toList=(Doc.rest s a).take 2:=by
 rw[ba_toList,extract_list,Doc.rest,List.take_of_length_le (by simp),List.take_of_length_le (by simp;omega)]
set_option maxHeartbeats 800000 in
theorem one_bang (s:ByteArray)(a:Nat)(w:World)(hs:s.size≤200)(ha:a+1<s.size)
  (h1:(s[a].toNat:Int)=33) (h2:(Doc.rest s a).take 2=[33,61]):
  Calls Tryz.prog 131 #[.string s,.int .i64 a] w fun e w'=>e=.returned (.tuple #[.agg #[.int .u8 103,.string (s.extract a (a+2)),.int .i64 0,.int .i64 a],.int .i64 ((a+2:Nat):Int)])∧Below w.heap.size w w':=by
 by_cases hz:2<s.size-a
 ·have he:Hid ((s.extract a s.size).extract 0 2=s.extract a (a+2)):=two_long s a hz
  have ha0:(((s.extract a s.size).extract 0 2).toList==[33,61])=true:=by rw[two_listA,h2];rfl
  clear h2
  go_enter Tryz.func131,Tryz.ntmps131
  go_wp2
  exact bodyPost_ret (v:=.tuple #[.agg #[.int .u8 103,.string (s.extract a (a+2)),.int .i64 0,.int .i64 a],.int .i64 ((a+2:Nat):Int)]) (by simp[results,Tryz.results131,go_sem,he.out]) rfl ⟨rfl,(Below.refl _ _).alloc (Nat.le_refl _) _⟩
 ·have he:Hid (s.extract a s.size=s.extract a (a+2)):=two_all s a (by omega)
  have ha0:((s.extract a s.size).toList==[33,61])=true:=by rw[two_listB s a (by omega),h2];rfl
  clear h2
  go_enter Tryz.func131,Tryz.ntmps131
  go_wp2
  exact bodyPost_ret (v:=.tuple #[.agg #[.int .u8 103,.string (s.extract a (a+2)),.int .i64 0,.int .i64 a],.int .i64 ((a+2:Nat):Int)]) (by simp[results,Tryz.results131,go_sem,he.out]) rfl ⟨rfl,(Below.refl _ _).alloc (Nat.le_refl _) _⟩
set_option maxHeartbeats 800000 in
theorem one_less (s:ByteArray)(a:Nat)(w:World)(hs:s.size≤200)(ha:a+1<s.size)
  (h1:(s[a].toNat:Int)=60) (h2:(Doc.rest s a).take 2=[60,61]):
  Calls Tryz.prog 131 #[.string s,.int .i64 a] w fun e w'=>e=.returned (.tuple #[.agg #[.int .u8 103,.string (s.extract a (a+2)),.int .i64 0,.int .i64 a],.int .i64 ((a+2:Nat):Int)])∧Below w.heap.size w w':=by
 by_cases hz:2<s.size-a
 ·have he:Hid ((s.extract a s.size).extract 0 2=s.extract a (a+2)):=two_long s a hz
  have ha0:(((s.extract a s.size).extract 0 2).toList==[33,61])=false:=by rw[two_listA,h2];rfl
  have ha1:(((s.extract a s.size).extract 0 2).toList==[60,61])=true:=by rw[two_listA,h2];rfl
  clear h2
  go_enter Tryz.func131,Tryz.ntmps131
  go_wp2
  exact bodyPost_ret (v:=.tuple #[.agg #[.int .u8 103,.string (s.extract a (a+2)),.int .i64 0,.int .i64 a],.int .i64 ((a+2:Nat):Int)]) (by simp[results,Tryz.results131,go_sem,he.out]) rfl ⟨rfl,(Below.refl _ _).alloc (Nat.le_refl _) _⟩
 ·have he:Hid (s.extract a s.size=s.extract a (a+2)):=two_all s a (by omega)
  have ha0:((s.extract a s.size).toList==[33,61])=false:=by rw[two_listB s a (by omega),h2];rfl
  have ha1:((s.extract a s.size).toList==[60,61])=true:=by rw[two_listB s a (by omega),h2];rfl
  clear h2
  go_enter Tryz.func131,Tryz.ntmps131
  go_wp2
  exact bodyPost_ret (v:=.tuple #[.agg #[.int .u8 103,.string (s.extract a (a+2)),.int .i64 0,.int .i64 a],.int .i64 ((a+2:Nat):Int)]) (by simp[results,Tryz.results131,go_sem,he.out]) rfl ⟨rfl,(Below.refl _ _).alloc (Nat.le_refl _) _⟩
set_option maxHeartbeats 800000 in
theorem one_more (s:ByteArray)(a:Nat)(w:World)(hs:s.size≤200)(ha:a+1<s.size)
  (h1:(s[a].toNat:Int)=62) (h2:(Doc.rest s a).take 2=[62,61]):
  Calls Tryz.prog 131 #[.string s,.int .i64 a] w fun e w'=>e=.returned (.tuple #[.agg #[.int .u8 103,.string (s.extract a (a+2)),.int .i64 0,.int .i64 a],.int .i64 ((a+2:Nat):Int)])∧Below w.heap.size w w':=by
 by_cases hz:2<s.size-a
 ·have he:Hid ((s.extract a s.size).extract 0 2=s.extract a (a+2)):=two_long s a hz
  have ha0:(((s.extract a s.size).extract 0 2).toList==[33,61])=false:=by rw[two_listA,h2];rfl
  have ha1:(((s.extract a s.size).extract 0 2).toList==[60,61])=false:=by rw[two_listA,h2];rfl
  have ha2:(((s.extract a s.size).extract 0 2).toList==[62,61])=true:=by rw[two_listA,h2];rfl
  clear h2
  go_enter Tryz.func131,Tryz.ntmps131
  go_wp2
  exact bodyPost_ret (v:=.tuple #[.agg #[.int .u8 103,.string (s.extract a (a+2)),.int .i64 0,.int .i64 a],.int .i64 ((a+2:Nat):Int)]) (by simp[results,Tryz.results131,go_sem,he.out]) rfl ⟨rfl,(Below.refl _ _).alloc (Nat.le_refl _) _⟩
 ·have he:Hid (s.extract a s.size=s.extract a (a+2)):=two_all s a (by omega)
  have ha0:((s.extract a s.size).toList==[33,61])=false:=by rw[two_listB s a (by omega),h2];rfl
  have ha1:((s.extract a s.size).toList==[60,61])=false:=by rw[two_listB s a (by omega),h2];rfl
  have ha2:((s.extract a s.size).toList==[62,61])=true:=by rw[two_listB s a (by omega),h2];rfl
  clear h2
  go_enter Tryz.func131,Tryz.ntmps131
  go_wp2
  exact bodyPost_ret (v:=.tuple #[.agg #[.int .u8 103,.string (s.extract a (a+2)),.int .i64 0,.int .i64 a],.int .i64 ((a+2:Nat):Int)]) (by simp[results,Tryz.results131,go_sem,he.out]) rfl ⟨rfl,(Below.refl _ _).alloc (Nat.le_refl _) _⟩
end Go.Proofs.YtbnelaoeblhndaaGreatDoor
