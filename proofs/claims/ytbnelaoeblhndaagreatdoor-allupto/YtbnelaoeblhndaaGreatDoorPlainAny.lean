import Derived.Test.YtbnelaoeblhndaaGreatDoorSynPart6
import Derived.Test.YtbnelaoeblhndaaGreatDoorSynWr7
namespace Go.Proofs.YtbnelaoeblhndaaGreatDoor
def answerV (x:List UInt8×Nat×Nat):Value:=.tuple #[.string ⟨x.1.toArray⟩,.int .i64 x.2.1,.int .i64 x.2.2]
open Go.RowKit
set_option maxRecDepth 100000
structure Laid (w:World):Prop where
 sg:Signs w
 tens:Tens w
 g1:1<w.heap.size
 g2:3<w.heap.size
theorem Laid.below {w w':World}(h:Laid w)(hb:Below w.heap.size w w'):Laid w':=
 ⟨h.sg.below hb h.g1,h.tens.below hb h.g2,Nat.lt_of_lt_of_le h.g1 hb.size,Nat.lt_of_lt_of_le h.g2 hb.size⟩
set_option maxHeartbeats 2000000 in
theorem plain_err (s:ByteArray)(w:World)(e q:Nat)(he:0<e)(he2:e<100)(HC:Calls Tryz.prog 33 #[.string s] w (ReadPost w (.err e q))):
  Calls Tryz.prog 12 #[.string s] w fun r w'=>r=.returned (answerV ([],e,q))∧Below w.heap.size w w':=by
 have HC':Hid _:=HC
 clear HC
 go_enter Tryz.func12,Tryz.ntmps12
 go_wp2_with fail
 refine Calls.mono HC'.out ?_
 rintro r w1 ⟨rfl,hb1⟩
 have hz:((e:Int)==0)=false:=by rw[beq_eq_false_iff_ne];omega
 go_wp2_with fail
 go_ret3
 exact⟨rfl,hb1.alloc hb1.size _⟩
set_option maxHeartbeats 2000000 in
theorem plain_ok (s:ByteArray)(w:World)(hL:Laid w)(a:Doc.Ast)(j:Nat)(hev:Doc.Every Doc.TestOk a)(hl:(Doc.plain a).length≤80000)(HC:Calls Tryz.prog 33 #[.string s] w (ReadPost w (.ok a j))):
  Calls Tryz.prog 12 #[.string s] w fun r w'=>r=.returned (answerV (Doc.plain a,0,0))∧Below w.heap.size w w':=by
 have HC':Hid _:=HC
 have HL:Hid (Laid w):=hL
 have HV:Hid (Doc.Every Doc.TestOk a):=hev
 clear HC hL hev
 go_enter Tryz.func12,Tryz.ntmps12
 go_wp2_with fail
 refine Calls.mono HC'.out ?_
 rintro r w1 ⟨cs,rfl,hrep,hb1⟩
 obtain⟨b1,n1,m1,s1,s2,na1,na2,b2,n2,m2,hcs⟩:=(hrep.five rfl).has
 have hcs':cs= #[.int .i64 (kindOf a),.slice b1 n1 m1,.string s1,.int .i64 na1,.string s2,.int .i64 na2,.slice b2 n2 m2]:=Array.ext' (by rw[hcs])
 subst hcs'
 have HRP:Hid _:=hrep
 clear hrep hcs
 go_wp2_with fail
 have hl1:=(HL.out.below hb1).below ((Below.refl _ _).alloc (Nat.le_refl _) (.cells #[.int .i64 (kindOf a),.slice b1 n1 m1,.string s1,.int .i64 na1,.string s2,.int .i64 na2,.slice b2 n2 m2] 69))
 refine(treePlain_any (cs:=[.int .i64 (kindOf a),.slice b1 n1 m1,.string s1,.int .i64 na1,.string s2,.int .i64 na2,.slice b2 n2 m2]) (HRP.out.kept (F':=fun _=>True) (fun k o _ ho=>(heap_alloc_old _ _ (lt_block ho)).trans ho) (fun _ _ _=>trivial)) HV.out (by omega) hl1.tens hl1.g2).mono ?_
 rintro r w2 ⟨rfl,hb2⟩
 go_wp2_with fail
 go_ret3
 exact⟨rfl,(hb1.alloc hb1.size _).trans (hb2.mono (by have:=hb1.size;simp;omega))⟩
theorem plain_any (s:ByteArray)(w:World)(hL:Laid w):
  Calls Tryz.prog 12 #[.string s] w fun r w'=>r=.returned (answerV (Doc.answer s))∧Below w.heap.size w w':=by
 by_cases hs:200<s.size
 ·rw[show Doc.answer s=([],5,0) by unfold Doc.answer;rw[if_pos hs]]
  exact plain_err s w 5 0 (by decide) (by decide) (read_long s hs w)
 ·have hs2:s.size≤200:=by omega
  have hr:=read_any s hs2 w hL.sg hL.g1
  unfold Doc.answer
  rw[if_neg hs]
  cases hp:Doc.parse (Doc.toks s 0) with
  |ok a j=>
   rw[hp] at hr
   have H:=Doc.ok_toks s hs2
   exact plain_ok s w hL a j (Doc.parse_ok H hp) (Doc.parse_fine H (Doc.toks_pos s) hp).2 hr
  |err e q=>
   rw[hp] at hr
   have hpos:=Doc.parse_pos (Doc.ok_toks s hs2) (Doc.toks_pos s)
   rw[hp] at hpos
   obtain⟨h1,h2⟩:=hpos
   exact plain_err s w e q h1 h2 hr
end Go.Proofs.YtbnelaoeblhndaaGreatDoor
