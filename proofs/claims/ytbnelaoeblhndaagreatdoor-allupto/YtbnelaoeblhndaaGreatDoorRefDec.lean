import Derived.Test.YtbnelaoeblhndaaGreatDoorRefOne2
namespace Go.Proofs.YtbnelaoeblhndaaGreatDoor
open Go.RowKit
set_option maxRecDepth 100000
theorem digs_at (k:Nat)(h:k<10):(⟨#[48,49,50,51,52,53,54,55,56,57]⟩:ByteArray).extract k (k+1)=⟨[UInt8.ofNat (48+k)].toArray⟩:=by
 rcases(show k=0∨k=1∨k=2∨k=3∨k=4∨k=5∨k=6∨k=7∨k=8∨k=9 by omega) with rfl|rfl|rfl|rfl|rfl|rfl|rfl|rfl|rfl|rfl<;>rfl
theorem digitsF_len (f n:Nat):(Doc.digitsF f n).length≤f+1:=by
 induction f generalizing n with
 |zero=>simp[Doc.digitsF]
 |succ f ih=>
  unfold Doc.digitsF
  split
  ·simp
  ·have:=ih (n / 10);simp;omega
theorem ret_str {a b:ByteArray}(h:a=b):Ending.returned (.string a)=.returned (.string b):=by rw[h]
set_option maxHeartbeats 1000000 in
theorem dec_nat:∀(f n:Nat) (w:World),n<10 ^ (f+1)→n≤9999999→f≤7→
  Calls Tryz.prog 87 #[.int .i64 n] w fun e w'=>e=.returned (.string ⟨(Doc.digitsF f n).toArray⟩)∧w'=w:=by
 intro f
 induction f with
 |zero=>
  intro n w h1 h2 _
  have h1:n<10:=by simpa using h1
  go_enter Tryz.func87,Tryz.ntmps87
  go_wp2_with fail
  go_ret
  exact⟨ret_str (digs_at (n % 10) (by omega)),rfl⟩
 |succ f ih=>
  intro n w h1 h2 h7
  by_cases h3:n<10
  ·go_enter Tryz.func87,Tryz.ntmps87
   go_wp2_with fail
   go_ret
   refine⟨ret_str ((digs_at (n % 10) (by omega)).trans ?_),rfl⟩
   rw[Doc.digitsF,if_pos (by omega),show n % 10=n by omega]
  ·have H:Hid (∀w,Calls Tryz.prog 87 #[.int .i64 ((n:Int) / 10)] w fun e w'=>∃D,Hid (D=(⟨(Doc.digitsF f (n / 10)).toArray⟩:ByteArray))∧D.size≤20∧e=.returned (.string D)∧w'=w):=fun w=>
    (ih (n / 10) w (by rw[Nat.pow_succ] at h1;omega) (by omega) (by omega)).mono fun _ _ h=>⟨_,rfl,by have:=digitsF_len f (n / 10);simp[ByteArray.size];omega,h.1,h.2⟩
   clear ih
   go_enter Tryz.func87,Tryz.ntmps87
   go_wp2_with fail
   refine(H.out w).mono ?_
   rintro e w2 ⟨D,HD,hD,rfl,rfl⟩
   go_wp2_with fail
   go_ret
   refine⟨ret_str ?_,rfl⟩
   rw[HD.out,digs_at (n % 10) (by omega),ByteArray.mk_append_mk,Doc.digitsF,if_neg (by omega)]
set_option maxHeartbeats 1000000 in
theorem dec_any (n:Int)(w:World)(h1: -9999999≤n)(h2:n≤9999999):
  Calls Tryz.prog 87 #[.int .i64 n] w fun e w'=>e=.returned (.string ⟨(Doc.decimal n).toArray⟩)∧w'=w:=by
 by_cases h:n<0
 ·have H:Hid (∀w,Calls Tryz.prog 87 #[.int .i64 (-n)] w fun e w'=>∃D,Hid (D=(⟨(Doc.digitsF 7 n.natAbs).toArray⟩:ByteArray))∧D.size≤20∧e=.returned (.string D)∧w'=w):=fun w=>by
   have:=(dec_nat 7 n.natAbs w (by omega) (by omega) (by omega))
   rw[show((n.natAbs:Nat):Int)= -n by omega] at this
   exact this.mono fun _ _ h=>⟨_,rfl,by have:=digitsF_len 7 n.natAbs;simp[ByteArray.size];omega,h.1,h.2⟩
  go_enter Tryz.func87,Tryz.ntmps87
  go_wp2_with fail
  refine(H.out w).mono ?_
  rintro e w2 ⟨D,HD,hD,rfl,rfl⟩
  go_wp2_with fail
  go_ret
  refine⟨ret_str ?_,rfl⟩
  rw[HD.out,Doc.decimal,if_pos (by omega)]
  exact ByteArray.mk_append_mk [45] _
 ·have:=dec_nat 7 n.natAbs w (by omega) (by omega) (by omega)
  rw[show((n.natAbs:Nat):Int)=n by omega] at this
  rw[Doc.decimal,if_neg h]
  exact this
end Go.Proofs.YtbnelaoeblhndaaGreatDoor
