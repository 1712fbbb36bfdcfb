import Derived.Test.YtbnelaoeblhndaaGreatDoorThLaw5
namespace Go.Proofs.YtbnelaoeblhndaaGreatDoor
open Go.RowKit
set_option maxRecDepth 100000
structure In (w:World)(sv:Value)(n:Nat)(cs:List Value):Prop where
 sl:Sl w sv n cs
 form:sv=.slice none 0 0∨∃a c,sv=.slice (some a) n c
theorem In.below {w w':World}{sv:Value}{n:Nat}{cs:List Value}(h:In w sv n cs)(hb:Below w.heap.size w w'):In w' sv n cs:=⟨h.sl.below hb,h.form⟩
theorem Sl.own {w w':World}{sv:Value}{n:Nat}{cs:List Value}(h:Sl w sv n cs)(hs:w.heap.size≤w'.heap.size)(hk:0<n→∀k,sv.ownBlock=some k→k<w.heap.size→w'.heap[k]? =w.heap[k]?):Sl w' sv n cs:=by
 rcases h.has with h|⟨h0,b,off,cap,rfl,hc,hl,hr⟩
 ·exact⟨.inl h⟩
 ·have hb:=hk h0 b rfl hl
  exact⟨.inr ⟨h0,b,off,cap,rfl,hc,Nat.lt_of_lt_of_le hl hs,fun j u hj=>by have:=hr j u hj;simp only[World.cell?,hb] at this ⊢;exact this⟩⟩
section
variable {w:World}
theorem lent_any (l:List Int)(hl:l.length≤1000000000)(sv:Value)(h:In w sv l.length (intC l)):
  Calls Tryz.prog 91 #[sv] w (Lent w 3 (intC l) l.length [.int .i64 77,.int .i64 78]):=by
 rcases h.form with rfl|⟨a,c,rfl⟩
 ·rcases h.sl.has with⟨h0,_⟩|⟨_,b,off,cap,e,_⟩
  ·obtain rfl:=List.eq_nil_of_length_eq_zero h0
   exact lent_nil
  ·cases e
 ·rcases h.sl.has with⟨h0,_⟩|⟨_,b,off,cap,e,_,hlt,hr⟩
  ·obtain rfl:=List.eq_nil_of_length_eq_zero h0
   exact lent_core [] (by simp) a c (fun j u hj=>by simp[intC] at hj) (fun h=>absurd rfl h)
  ·simp only[Value.slice.injEq,Option.some.injEq] at e
   obtain⟨rfl,_,rfl⟩:=e
   exact lent_core l (by omega) _ c (fun j u hj=>by rw[addr_add2];exact hr j u hj) (fun _=>hlt)
theorem lentV_any (l:List Doc.Val)(hl:l.length≤1000000000)(sv:Value)(h:In w sv l.length (valsC l)):
  Calls Tryz.prog 92 #[sv] w (Lent w 94 (valsC l) l.length (zV 77++zV 78)):=by
 rcases h.form with rfl|⟨a,c,rfl⟩
 ·rcases h.sl.has with⟨h0,_⟩|⟨_,b,off,cap,e,_⟩
  ·obtain rfl:=List.eq_nil_of_length_eq_zero h0
   exact lentV_nil
  ·cases e
 ·rcases h.sl.has with⟨h0,_⟩|⟨_,b,off,cap,e,_,hlt,hr⟩
  ·obtain rfl:=List.eq_nil_of_length_eq_zero h0
   exact lentV_core [] (by simp) a c (fun j u hj=>by simp[valsC] at hj) (fun h=>absurd rfl h)
  ·simp only[Value.slice.injEq,Option.some.injEq] at e
   obtain⟨rfl,_,rfl⟩:=e
   exact lentV_core l (by omega) _ c (fun j u hj=>by rw[addr_add2];exact hr j u hj) (fun _=>hlt)
theorem lentF_any (l:List Doc.Fld)(hl:l.length≤1000000000)(sv:Value)(h:In w sv l.length (fldsC l)):
  Calls Tryz.prog 88 #[sv] w (Lent w 92 (fldsC l) l.length (zF 77++zF 78)):=by
 rcases h.form with rfl|⟨a,c,rfl⟩
 ·rcases h.sl.has with⟨h0,_⟩|⟨_,b,off,cap,e,_⟩
  ·obtain rfl:=List.eq_nil_of_length_eq_zero h0
   exact lentF_nil
  ·cases e
 ·rcases h.sl.has with⟨h0,_⟩|⟨_,b,off,cap,e,_,hlt,hr⟩
  ·obtain rfl:=List.eq_nil_of_length_eq_zero h0
   exact lentF_core [] (by simp) a c (fun j u hj=>by simp[fldsC] at hj) (fun h=>absurd rfl h)
  ·simp only[Value.slice.injEq,Option.some.injEq] at e
   obtain⟨rfl,_,rfl⟩:=e
   exact lentF_core l (by omega) _ c (fun j u hj=>by rw[addr_add2];exact hr j u hj) (fun _=>hlt)
theorem Lent.sl {w:World}{T:TypeId}{cs:List Value}{n:Nat}{tail:List Value}{e:Ending}{w':World}(h:Lent w T cs n tail e w'):
  ∃b c,e=.returned (.tuple #[.slice (some ⟨w.heap.size,0,none⟩) (n+2) (n+2),.slice b n c])∧w'.heap[w.heap.size]? =some (.cells (cs++tail).toArray T (0,0))∧(∀k,(Value.slice b n c).ownBlock=some k→k=w.heap.size)∧Sl w' (.slice b n c) n cs∧Below w.heap.size w w':=by
 obtain⟨sv,rfl,h1,h2,h3⟩:=h.has
 rcases h2 with⟨rfl,rfl⟩|rfl
 ·exact⟨none,0,rfl,h1,fun k e=>(by cases e),⟨.inl ⟨rfl,_,_,rfl⟩⟩,h3⟩
 ·refine⟨some ⟨w.heap.size,0,none⟩,n+2,rfl,h1,fun k e=>(by cases e;rfl),?_,h3⟩
  by_cases h0:n=0
  ·subst h0;exact⟨.inl ⟨rfl,_,_,rfl⟩⟩
  ·refine⟨.inr ⟨by omega,w.heap.size,0,n+2,rfl,by omega,lt_block h1,fun j u hj=>?_⟩⟩
   rw[Nat.zero_add]
   exact blkl_cell h1 j u (by rw[List.getElem?_append_left (List.getElem?_eq_some_iff.1 hj).1];exact hj)
set_option maxHeartbeats 4000000 in
theorem puts_walk {FX FY:Nat→Prop}(xb yb:Nat)(fs:List Doc.Fld)(space id:Int)(th':Has)(ts':List Doc.Thg)(E:Int)(wb:Nat)(s0 s1:Int)(s2:ByteArray)(Fb:Option Addr)(Fn Fc:Nat)
  (spot:List Int) (vals:List Doc.Val) (hsl:spot.length≤1000000000) (hvl:vals.length≤1000000000) (Lv Vv:Value) (hL:In w Lv spot.length (intC spot)) (hV:In w Vv vals.length (valsC vals))
  (hX:∀W sv vv,Below w.heap.size w W→Sl W sv spot.length (intC spot)→Sl W vv vals.length (valsC vals)→Calls Tryz.prog 28 #[.pointer (some ⟨xb,0,none⟩),.int .i64 id,sv,vv] W (PTurn fs space xb th' E W FX))
  (hY:∀W0 W,Below w.heap.size w W0→Md FX W0 W→Calls Tryz.prog 93 #[.pointer (some ⟨yb,0,none⟩),.int .i64 id,Lv,Vv] W (RTurn fs space yb ts' E W FY))
  (hLf:0<spot.length→∀k,Lv.ownBlock=some k→k<w.heap.size∧¬FX k∧¬FY k) (hVf:0<vals.length→∀k,Vv.ownBlock=some k→k<w.heap.size∧¬FX k∧¬FY k) (hFX:∀k,FX k→k<w.heap.size) (hFY:∀k,FY k→k<w.heap.size):
  Calls Tryz.prog 56 #[.pointer (some ⟨wb,0,none⟩),.agg #[.pointer (some ⟨xb,0,none⟩),.pointer (some ⟨yb,0,none⟩)],.agg #[.int .i64 s0,.int .i64 s1,.int .i64 id,.string s2,.slice Fb Fn Fc,Lv,Vv]] w fun e w'=>e=.returned (.bool true)∧∃W2 W3 W4,Below w.heap.size w W2∧(∃e3,PTurn fs space xb th' E W2 FX e3 W3)∧(∃e4,RTurn fs space yb ts' E W3 FY e4 W4)∧Md (fun k=>w.heap.size≤k∧k<W2.heap.size) W4 w':=by
 obtain⟨Lb,Lc,e1⟩:=hL.sl.slice
 obtain⟨Vb,Vc,e2⟩:=hV.sl.slice
 subst e1 e2
 obtain⟨W0,HW0⟩:∃W0,Hid (W0=(w.alloc (.cells #[.pointer (some ⟨xb,0,none⟩),.pointer (some ⟨yb,0,none⟩)] 140)).alloc (.cells #[.int .i64 s0,.int .i64 s1,.int .i64 id,.string s2,.slice Fb Fn Fc,.slice Lb spot.length Lc,.slice Vb vals.length Vc] 87)):=⟨_,rfl⟩
 have hb0:Below w.heap.size w W0:=by rw[HW0.out];exact((Below.refl _ _).alloc (Nat.le_refl _) _).alloc (by simp) _
 have qp:W0.heap[w.heap.size]? =some (.cells #[.pointer (some ⟨xb,0,none⟩),.pointer (some ⟨yb,0,none⟩)] 140 (0,0)):=by rw[HW0.out];exact heap_alloc2_old w _ _
 have qs:W0.heap[w.heap.size+1]? =some (.cells #[.int .i64 s0,.int .i64 s1,.int .i64 id,.string s2,.slice Fb Fn Fc,.slice Lb spot.length Lc,.slice Vb vals.length Vc] 87 (0,0)):=by rw[HW0.out];exact heap_alloc2_new w _ _
 have hz0:W0.heap.size=w.heap.size+2:=by rw[HW0.out];simp
 have c5:W0.cell? ⟨w.heap.size+1,5,none⟩=some (.slice Lb spot.length Lc):=blk_cell qs 5 _ rfl
 have HLA:Hid _:=lent_any spot hsl _ (hL.below hb0)
 have HX:Hid _:=hX
 have HY:Hid _:=hY
 have HB0:Hid _:=hb0
 have HIL:Hid _:=hL
 have HIV:Hid _:=hV
 have HLF:Hid _:=hLf
 have HVF:Hid _:=hVf
 have QP:Hid _:=qp
 have QS:Hid _:=qs
 have HZ0:Hid _:=hz0
 clear hX hY hL hV hLf hVf qp qs hb0 hz0
 go_enter Tryz.func56,Tryz.ntmps56
 go_wp2_with fail
 rw[←HW0.out]
 refine Calls.mono HLA.out ?_
 rintro e w1 hl1
 obtain⟨b1,c1,rfl,g1,o1,s1',hb1⟩:=hl1.sl
 have HB1:Hid _:=Below.callB HB0.out (Nat.le_refl _) hb1
 have HS1:Hid _:=s1'
 have HG1:Hid _:=g1
 have HO1:Hid _:=o1
 have QP1:Hid _:=(hb1.block w.heap.size (by rw[HZ0.out];omega)).trans QP.out
 have QS1:Hid _:=(hb1.block (w.heap.size+1) (by rw[HZ0.out];omega)).trans QS.out
 have c6:w1.cell? ⟨w.heap.size+1,6,none⟩=some (.slice Vb vals.length Vc):=blk_cell QS1.out 6 _ rfl
 have HLV:Hid _:=lentV_any vals hvl _ (HIV.out.below HB1.out)
 have hz1:=hb1.size
 have HZ1:Hid _:=hz1
 clear hl1 s1' g1 o1 hb1 c5 HLA hz1
 go_wp2_with fail
 refine Calls.mono HLV.out ?_
 rintro e w2 hl2
 obtain⟨b2,c2,rfl,g2,o2,s2',hb2⟩:=hl2.sl
 have HB2:Hid _:=Below.callB HB1.out (Nat.le_refl _) hb2
 have HS2:Hid _:=s2'
 have HS1':Hid _:=HS1.out.below hb2
 have HG2:Hid _:=g2
 have HG1':Hid _:=(hb2.block W0.heap.size (lt_block HG1.out)).trans HG1.out
 have hz2:=hb2.size
 have HZ2:Hid _:=hz2
 have QP2:Hid _:=(hb2.block w.heap.size (lt_block QP1.out)).trans QP1.out
 have QS2:Hid _:=(hb2.block (w.heap.size+1) (lt_block QS1.out)).trans QS1.out
 have d0:w2.cell? ⟨w.heap.size,0,none⟩=some (.pointer (some ⟨xb,0,none⟩)):=blk_cell QP2.out 0 _ rfl
 have d2:w2.cell? ⟨w.heap.size+1,2,none⟩=some (.int .i64 id):=blk_cell QS2.out 2 _ rfl
 have HCX:Hid _:=HX.out w2 _ _ HB2.out HS1'.out HS2.out
 clear hl2 s2' g2 o2 hb2 c6 HLV hz2
 go_wp2_with fail
 refine Calls.mono HCX.out ?_
 rintro e w3 ⟨rfl,hp3,hd3⟩
 have HP3:Hid _:=hp3
 have HD3:Hid _:=hd3
 have hz2w:w.heap.size+4≤w2.heap.size:=by
  have a0:=HZ0.out
  have a1:=lt_block HG1.out
  have a2:=lt_block HG2.out
  omega
 have hn3:∀k,w.heap.size≤k→k<w2.heap.size→w3.heap[k]? =w2.heap[k]? :=fun k h1 h2=>hd3.only k h2 (fun h=>by have:=hFX k h;omega)
 have QP3:Hid _:=(hn3 w.heap.size (by omega) (by omega)).trans QP2.out
 have QS3:Hid _:=(hn3 (w.heap.size+1) (by omega) (by omega)).trans QS2.out
 have hz3:=hd3.size
 have HG1'':Hid _:=(hn3 W0.heap.size (by rw[HZ0.out];omega) (lt_block HG1'.out)).trans HG1'.out
 have HG2':Hid _:=(hn3 w1.heap.size (by have:=HZ1.out;have:=HZ0.out;omega) (lt_block HG2.out)).trans HG2.out
 have e1':w3.cell? ⟨w.heap.size,1,none⟩=some (.pointer (some ⟨yb,0,none⟩)):=blk_cell QP3.out 1 _ rfl
 have e2:w3.cell? ⟨w.heap.size+1,2,none⟩=some (.int .i64 id):=blk_cell QS3.out 2 _ rfl
 have e5:w3.cell? ⟨w.heap.size+1,5,none⟩=some (.slice Lb spot.length Lc):=blk_cell QS3.out 5 _ rfl
 have e6:w3.cell? ⟨w.heap.size+1,6,none⟩=some (.slice Vb vals.length Vc):=blk_cell QS3.out 6 _ rfl
 have HCY:Hid _:=HY.out w2 w3 HB2.out hd3
 clear hp3 hd3 d0 d2 HCX hn3
 go_wp2_with fail
 refine Calls.mono HCY.out ?_
 rintro e w4 ⟨rfl,hr4,hd4⟩
 have HR4:Hid _:=hr4
 have HD4:Hid _:=hd4
 have hz4:=hd4.size
 have hn4:∀k,w.heap.size≤k→k<w3.heap.size→w4.heap[k]? =w3.heap[k]? :=fun k h1 h2=>hd4.only k h2 (fun h=>by have:=hFY k h;omega)
 have QS4:Hid _:=(hn4 (w.heap.size+1) (by omega) (by omega)).trans QS3.out
 have HG14:Hid _:=(hn4 W0.heap.size (by rw[HZ0.out];omega) (lt_block HG1''.out)).trans HG1''.out
 have HG24:Hid _:=(hn4 w1.heap.size (by have:=HZ1.out;have:=HZ0.out;omega) (lt_block HG2'.out)).trans HG2'.out
 have e7:w4.cell? ⟨w.heap.size+1,5,none⟩=some (.slice Lb spot.length Lc):=blk_cell QS4.out 5 _ rfl
 have arg:∀{sv:Value} {n:Nat} {cs:List Value},Sl w sv n cs→(0<n→∀k,sv.ownBlock=some k→k<w.heap.size∧¬FX k∧¬FY k)→Sl w4 sv n cs:=fun {sv n cs} hs hf=>hs.own (by have:=HB2.out.size;omega) (fun h0 k ek hk=>by
  obtain⟨h1,h2,h3⟩:=hf h0 k ek
  have:=HB2.out.size
  rw[HD4.out.only k (by omega) h3,HD3.out.only k (by omega) h2,HB2.out.block k hk])
 have HSL4:Hid _:=arg HIL.out.sl HLF.out
 have HSV4:Hid _:=arg HIV.out.sl HVF.out
 have HST:Hid _:=still_any spot (by omega) _ HSL4.out W0.heap.size HG14.out
 clear hr4 hd4 e1' e2 e5 e6 HCY hn4 arg
 go_wp2_with fail
 refine Calls.mono HST.out ?_
 rintro e w5 ⟨rfl,hd5⟩
 have HD5:Hid _:=hd5
 have hz5:=hd5.size
 have hn5:∀k,k≠W0.heap.size→k<w4.heap.size→w5.heap[k]? =w4.heap[k]? :=fun k h1 h2=>hd5.only k h2 h1
 have QS5:Hid _:=(hn5 (w.heap.size+1) (by rw[HZ0.out];omega) (lt_block QS4.out)).trans QS4.out
 have HG25:Hid _:=(hn5 w1.heap.size (by have:=lt_block HG1.out;omega) (lt_block HG24.out)).trans HG24.out
 have e8:w5.cell? ⟨w.heap.size+1,6,none⟩=some (.slice Vb vals.length Vc):=blk_cell QS5.out 6 _ rfl
 have HSV5:Hid _:=HSV4.out.own (w':=w5) hz5 (fun h0 k ek hk=>hn5 k (by have:=(HVF.out h0 k ek).1;have:=HZ0.out;omega) hk)
 have HSTV:Hid _:=stillV_any vals (by omega) _ HSV5.out w1.heap.size HG25.out
 clear hd5 e7 HST hn5
 go_wp2_with fail
 refine Calls.mono HSTV.out ?_
 rintro e w6 ⟨rfl,hd6⟩
 have HD6:Hid _:=hd6
 clear hd6 e8 HSTV
 go_wp2_with fail
 refine(num_any' E w6).mono ?_
 rintro e w6' ⟨rfl,hw6⟩
 subst hw6
 go_wp2_with fail
 go_ret
 have hw1l:=lt_block HG1'.out
 refine⟨by simp,w2,w3,w4,HB2.out,⟨_,rfl,HP3.out,HD3.out⟩,⟨_,rfl,HR4.out,HD4.out⟩,(HD5.out.mono (fun k hk=>?_)).trans (HD6.out.mono (fun k hk=>?_))⟩
 ·have:=HZ0.out;subst hk;exact⟨by omega,hw1l⟩
 ·have:=HZ0.out;have:=HZ1.out;subst hk;exact⟨by omega,lt_block HG2.out⟩
end
theorem prsC_set (ps:List Pr)(i:Nat)(hi:i<ps.length)(ts':List Doc.Thg):prsC (ps.set i {ps[i] with ts:=ts'})=prsC ps:=by
 induction ps generalizing i with
 |nil=>rfl
 |cons a r ih=>
  cases i with
  |zero=>simp[prsC,prC]
  |succ i=>
   have:=ih i (by simpa using hi)
   simp only[prsC,List.set_cons_succ,List.flatMap_cons,List.getElem_cons_succ] at this ⊢
   rw[this]
section
variable {B:Nat}{w:World}{own:Nat→Nat}{wb:Nat}{ps:List Pr}{lv nsv knv vsv kvv hsv khv:Value}{rows:List Value}{marks:List Int}{vrows:List Value}{vmarks:List Int}{hrows:List Value}{hmarks:List Int}
theorem law_turn (hA:LawAt B w own wb ps lv nsv knv vsv kvv hsv khv rows marks vrows vmarks hrows hmarks)(i:Nat)(hi:i<ps.length)(ts':List Doc.Thg)(hu:Uniq ts'){w':World}{own':Nat→Nat}(hs:w.heap.size≤w'.heap.size)(ho:∀k,k<w.heap.size→own' k=own k)
  (hk:∀k,B≤k→k<w.heap.size→own k≠2*i+4→own k≠2*i+5→w'.heap[k]? =w.heap[k]?)
  (hP:ProgSt w' (Cl B w'.heap.size own' (2*i+4)) ps[i].xb ps[i].fs ps[i].space (hasOf ts')) (hR:RefSt w' (Cl B w'.heap.size own' (2*i+5)) ps[i].yb ps[i].fs ps[i].space ts'):
  LawAt B w' own' wb (ps.set i {ps[i] with ts:=ts'}) lv nsv knv vsv kvv hsv khv rows marks vrows vmarks hrows hmarks:=by
 have kc:∀c,c≠2*i+4→c≠2*i+5→∀k,Cl B w.heap.size own c k→k<w.heap.size→w'.heap[k]? =w.heap[k]? :=fun c h1 h2 k h hkl=>hk k h.1 hkl (by rw[h.2.2];exact h1) (by rw[h.2.2];exact h2)
 have mv:∀c k,Cl B w.heap.size own c k→k<w.heap.size→Cl B w'.heap.size own' c k:=fun c k h _=>h.mono hs ho
 refine⟨(kc 0 (by omega) (by omega) wb hA.wbc hA.wbc.2.1).trans hA.blk,hA.wbc.mono hs ho,?_,fun k e=>(hA.prc k e).mono hs ho,hA.bkn.kept (kc 1 (by omega) (by omega)) (mv 1),hA.bkv.kept (kc 2 (by omega) (by omega)) (mv 2),hA.bkh.kept (kc 3 (by omega) (by omega)) (mv 3),fun j hj=>?_⟩
 ·rw[prsC_set ps i hi,List.length_set]
  exact rowKept hA.prs (fun k _ ek ho'=>(kc 0 (by omega) (by omega) k (hA.prc k ek) (ownLt hA.prs ek)).trans ho')
 ·have hj':j<ps.length:=by simpa using hj
  by_cases e:i=j
  ·subst e
   rw[List.getElem_set_self]
   exact⟨hP,hR,hu⟩
  ·rw[List.getElem_set_ne e]
   obtain⟨h1,h2,h3⟩:=hA.sts j hj'
   exact⟨h1.kept (kc _ (by omega) (by omega)) (mv _),h2.kept' (kc _ (by omega) (by omega)) (mv _),h3⟩
theorem law_both (hB:B≤w.heap.size)(hA:LawAt B w own wb ps lv nsv knv vsv kvv hsv khv rows marks vrows vmarks hrows hmarks)(i:Nat)(hi:i<ps.length)(ts':List Doc.Thg)(hu:Uniq ts')(E:Int){W2 W3 W4 w':World}{e3 e4:Ending}(h2:Below w.heap.size w W2)
  (h3:PTurn ps[i].fs ps[i].space ps[i].xb (hasOf ts') E W2 (Cl B w.heap.size own (2*i+4)) e3 W3) (h4:RTurn ps[i].fs ps[i].space ps[i].yb ts' E W3 (Cl B w.heap.size own (2*i+5)) e4 W4) (h5:Md (fun k=>w.heap.size≤k∧k<W2.heap.size) W4 w'):
  Below B w w'∧∃own',LawAt B w' own' wb (ps.set i {ps[i] with ts:=ts'}) lv nsv knv vsv kvv hsv khv rows marks vrows vmarks hrows hmarks:=by
 obtain⟨_,p3,d3⟩:=h3
 obtain⟨_,r4,d4⟩:=h4
 have s2:=h2.size
 have s3:=d3.size
 have s4:=d4.size
 have s5:=h5.size
 refine⟨⟨h5.below.os.trans (d4.below.os.trans (d3.below.os.trans h2.os)),h5.below.tape.trans (d4.below.tape.trans (d3.below.tape.trans h2.tape)),h5.below.output.trans (d4.below.output.trans (d3.below.output.trans h2.output)),by omega,fun k hk=>?_⟩,?_⟩
 ·rw[h5.only k (by omega) (fun h=>by have:=h.1;omega),d4.only k (by omega) (fun h=>by have:=h.1;omega),d3.only k (by omega) (fun h=>by have:=h.1;omega),h2.block k (by omega)]
 obtain⟨own',ho1,ho2,ho3⟩:∃own':Nat→Nat,(∀k,k<w.heap.size→own' k=own k)∧(∀k,W2.heap.size≤k→k<W3.heap.size→own' k=2*i+4)∧(∀k,W3.heap.size≤k→k<W4.heap.size→own' k=2*i+5):=by
  refine⟨fun k=>if k<w.heap.size then own k else if k<W2.heap.size then 0 else if k<W3.heap.size then 2*i+4 else 2*i+5,fun k hk=>by simp[hk],fun k h1 h2=>?_,fun k h1 h2=>?_⟩
  ·simp[show ¬k<w.heap.size by omega,show ¬k<W2.heap.size by omega,h2]
  ·simp[show ¬k<w.heap.size by omega,show ¬k<W2.heap.size by omega,show ¬k<W3.heap.size by omega]
 refine⟨own',law_turn hA i hi ts' hu (by omega) ho1 (fun k h1 h2' h3' h4'=>?_) (p3.kept (fun k h hk=>?_) (fun k h hk=>?_)) (r4.kept' (fun k h hk=>?_) (fun k h hk=>?_))⟩
 ·rw[h5.only k (by omega) (fun h=>by have:=h.1;omega),d4.only k (by omega) (fun h=>h4' h.2.2),d3.only k (by omega) (fun h=>h3' h.2.2),h2.block k h2']
 ·rw[h5.only k (by omega) (fun h'=>by rcases h with h|h;have:=h.2.1;omega;omega),d4.only k hk (fun h'=>by rcases h with h|h;have:=h.2.2;have:=h'.2.2;omega;have:=h'.2.1;omega)]
 ·rcases h with h|h
  ·exact h.mono (by omega) ho1
  ·exact⟨by omega,by omega,ho2 k h hk⟩
 ·rw[h5.only k hk (fun h'=>by rcases h with h|h;have:=h.2.1;omega;omega)]
 ·rcases h with h|h
  ·exact h.mono (by omega) ho1
  ·exact⟨by omega,by omega,ho3 k h hk⟩
theorem puts_any (hB:B≤w.heap.size)(hA:LawAt B w own wb ps lv nsv knv vsv kvv hsv khv rows marks vrows vmarks hrows hmarks)(i:Nat)(hi:i<ps.length)(id:Int)(s0 s1:Int)(s2:ByteArray)(Fb:Option Addr)(Fn Fc:Nat)
  (spot:List Int) (vals:List Doc.Val) (hsl:spot.length≤1000000000) (hvl:vals.length≤1000000000) (Lv Vv:Value) (hL:In w Lv spot.length (intC spot)) (hV:In w Vv vals.length (valsC vals))
  (hLf:0<spot.length→∀k,Lv.ownBlock=some k→k<w.heap.size∧(k<B∨own k=0)) (hVf:0<vals.length→∀k,Vv.ownBlock=some k→k<w.heap.size∧(k<B∨own k=0)):
  Calls Tryz.prog 56 #[.pointer (some ⟨wb,0,none⟩),.agg #[.pointer (some ⟨ps[i].xb,0,none⟩),.pointer (some ⟨ps[i].yb,0,none⟩)],.agg #[.int .i64 s0,.int .i64 s1,.int .i64 id,.string s2,.slice Fb Fn Fc,Lv,Vv]] w fun e w'=>e=.returned (.bool true)∧Below B w w'∧∃own' ps',ps'.length=ps.length∧LawAt B w' own' wb ps' lv nsv knv vsv kvv hsv khv rows marks vrows vmarks hrows hmarks:=by
 obtain⟨q1,q2,q3⟩:=hA.sts i hi
 obtain⟨E,ts',hu,hX,hY⟩:=put_both ps[i].fs ps[i].space id ps[i].ts q3 q1 spot vals (by omega)
 have free:∀{v:Value},(∀k,v.ownBlock=some k→k<w.heap.size∧(k<B∨own k=0))→∀k,v.ownBlock=some k→k<w.heap.size∧¬Cl B w.heap.size own (2*i+4) k∧¬Cl B w.heap.size own (2*i+5) k:=fun {v} hf k ek=>by
  obtain⟨h1,h2⟩:=hf k ek
  refine⟨h1,fun h=>?_,fun h=>?_⟩
  ·have a:=h.1;have b:=h.2.2;omega
  ·have a:=h.1;have b:=h.2.2;omega
 refine(puts_walk (FX:=Cl B w.heap.size own (2*i+4)) (FY:=Cl B w.heap.size own (2*i+5)) ps[i].xb ps[i].yb ps[i].fs ps[i].space id (hasOf ts') ts' E wb s0 s1 s2 Fb Fn Fc spot vals hsl hvl Lv Vv hL hV (fun W sv vv hW h1 h2=>hX W _ _ sv vv (q1.kept (fun k _ hk=>hW.block k hk) (fun k h _=>h)) h1 h2)
  (fun W0 W hW0 hd=>hY W _ _ Lv Vv (q2.kept' (fun k h hk=>?_) (fun k h _=>h)) (hL.sl.own ?_ (fun h0 k ek hk=>?_)) (hV.sl.own ?_ (fun h0 k ek hk=>?_))) (fun h0=>free (hLf h0)) (fun h0=>free (hVf h0)) (fun k h=>h.2.1) (fun k h=>h.2.1)).mono ?_
 ·have:=hW0.size
  rw[hd.only k (by omega) (fun h'=>by have a:=h.2.2;have b:=h'.2.2;omega),hW0.block k hk]
 ·have:=hW0.size;have:=hd.size;omega
 ·have:=hW0.size
  rw[hd.only k (by omega) (free (hLf h0) k ek).2.1,hW0.block k hk]
 ·have:=hW0.size;have:=hd.size;omega
 ·have:=hW0.size
  rw[hd.only k (by omega) (free (hVf h0) k ek).2.1,hW0.block k hk]
 ·rintro e w' ⟨rfl,W2,W3,W4,h2,⟨e3,h3⟩,⟨e4,h4⟩,h5⟩
  obtain⟨hb,own',hl⟩:=law_both hB hA i hi ts' hu E h2 h3 h4 h5
  exact⟨rfl,hb,own',_,by simp,hl⟩
end
def PNew (fs:List Doc.Fld)(space E:Int)(W:World)(e:Ending)(w':World):Prop:=Below W.heap.size W w'∧((E≠0∧e=.returned (.tuple #[.pointer none,.int .i64 E]))∨(E=0∧∃xb,e=.returned (.tuple #[.pointer (some ⟨xb,0,none⟩),.int .i64 0])∧ProgSt w' (fun k=>W.heap.size≤k) xb fs space noneT))
def RNew (fs:List Doc.Fld)(space E:Int)(W:World)(e:Ending)(w':World):Prop:=Below W.heap.size W w'∧((E≠0∧e=.returned (.tuple #[.pointer none,.int .i64 E]))∨(E=0∧∃yb,e=.returned (.tuple #[.pointer (some ⟨yb,0,none⟩),.int .i64 0])∧RefSt w' (fun k=>W.heap.size≤k) yb fs space []))
def Doc.newOK (fs:List Doc.Fld)(space:Int):Prop:=¬Doc.newArg fs space∧(∀j (h:j<fs.length),Doc.kindB fs[j].kind=true)∧∀j (h:j<fs.length),(Doc.nameB fs[j].name && !Doc.hasB (fs.take j) fs[j].name)=true
theorem new_both (fs:List Doc.Fld)(space:Int)(hnm:∀j (h:j<fs.length),fs[j].name.size≤140737488351232):
  ∃E:Int,(Doc.newOK fs space→E=0)∧(∀(W:World) (sv:Value),Signs W→1<W.heap.size→Sl W sv fs.length (fldsC fs)→Calls Tryz.prog 39 #[sv,.int .i64 space] W (PNew fs space E W))∧
   (∀(W:World) (sv:Value),Sl W sv fs.length (fldsC fs)→Calls Tryz.prog 89 #[sv,.int .i64 space] W (RNew fs space E W)):=by
 by_cases ha:Doc.newArg fs space
 ·refine⟨1,fun h=>absurd ha h.1,fun W sv _ _ hs=>?_,fun W sv hs=>?_⟩
  ·refine(pnew_bad sv space 1 (by decide) ((cnew_arg fs sv hs space ha).mono ?_)).mono ?_
   ·rintro e w' ⟨rfl,rfl⟩;exact⟨rfl,Below.refl _ _⟩
   ·rintro e w' ⟨rfl,hb⟩;exact⟨hb,.inl ⟨by decide,rfl⟩⟩
  ·refine(rnew_arg fs sv hs space ha).mono ?_
   rintro e w' ⟨rfl,rfl⟩;exact⟨Below.refl _ _,.inl ⟨by decide,rfl⟩⟩
 ·have hk:1≤fs.length∧fs.length≤4∧1≤space∧space≤4:=by
   unfold Doc.newArg at ha
   by_cases a1:fs.length<1
   ·exact absurd (.inl a1) ha
   by_cases a2:4<fs.length
   ·exact absurd (.inr (.inl ⟨by omega,a2⟩)) ha
   by_cases a3:space<1
   ·exact absurd (.inr (.inr (.inl ⟨by omega,by omega,a3⟩))) ha
   by_cases a4:4<space
   ·exact absurd (.inr (.inr (.inr ⟨by omega,by omega,by omega,a4⟩))) ha
   omega
  obtain⟨k1,k2,k3,k4⟩:=hk
  by_cases hkd:∀j (h:j<fs.length),Doc.kindB fs[j].kind=true
  ·by_cases hn:∀j (h:j<fs.length),(Doc.nameB fs[j].name && !Doc.hasB (fs.take j) fs[j].name)=true
   ·refine⟨0,fun _=>rfl,fun W sv hsg hg hs=>?_,fun W sv hs=>?_⟩
    ·refine(pnew_ok hsg hg fs sv hs space k1 k2 k3 k4 hnm hkd hn).mono ?_
     rintro e w' ⟨xb,rfl,hp,hb⟩;exact⟨hb,.inr ⟨rfl,xb,rfl,hp⟩⟩
    ·refine(rnew_any fs sv hs space k1 k2 k3 k4 hnm).mono ?_
     rintro e w' (⟨_,_,j,h,hbad⟩|⟨_,_,_,j,h,hbad⟩|⟨_,_,rfl,hr,hb⟩)
     ·rw[hkd j h] at hbad;cases hbad
     ·rw[nameAt_eq fs j h,hn j h] at hbad;cases hbad
     ·exact⟨hb,.inr ⟨rfl,_,rfl,hr⟩⟩
   ·refine⟨2,fun h=>absurd h.2.2 hn,fun W sv hsg hg hs=>?_,fun W sv hs=>?_⟩
    ·refine(pnew_bad sv space 2 (by decide) ((cnew_any hsg hg fs sv hs space k1 k2 k3 k4 hnm).mono ?_)).mono ?_
     ·rintro e w' ⟨hb,⟨_,j,h,hbad⟩|⟨_,rfl,_⟩|⟨_,hall,_⟩⟩
      ·rw[hkd j h] at hbad;cases hbad
      ·exact⟨rfl,hb⟩
      ·exact absurd hall hn
     ·rintro e w' ⟨rfl,hb⟩;exact⟨hb,.inl ⟨by decide,rfl⟩⟩
    ·refine(rnew_any fs sv hs space k1 k2 k3 k4 hnm).mono ?_
     rintro e w' (⟨_,_,j,h,hbad⟩|⟨_,rfl,hb,_⟩|⟨_,hall,_⟩)
     ·rw[hkd j h] at hbad;cases hbad
     ·exact⟨hb,.inl ⟨by decide,rfl⟩⟩
     ·exact absurd (fun j h=>by rw[←nameAt_eq fs j h];exact hall j h) hn
  ·refine⟨1,fun h=>absurd h.2.1 hkd,fun W sv hsg hg hs=>?_,fun W sv hs=>?_⟩
   ·refine(pnew_bad sv space 1 (by decide) ((cnew_any hsg hg fs sv hs space k1 k2 k3 k4 hnm).mono ?_)).mono ?_
    ·rintro e w' ⟨hb,⟨rfl,_⟩|⟨hall,_⟩|⟨hall,_⟩⟩
     ·exact⟨rfl,hb⟩
     ·exact absurd hall hkd
     ·exact absurd hall hkd
    ·rintro e w' ⟨rfl,hb⟩;exact⟨hb,.inl ⟨by decide,rfl⟩⟩
   ·refine(rnew_any fs sv hs space k1 k2 k3 k4 hnm).mono ?_
    rintro e w' (⟨rfl,hb,_⟩|⟨hall,_⟩|⟨hall,_⟩)
    ·exact⟨hb,.inl ⟨by decide,rfl⟩⟩
    ·exact absurd hall hkd
    ·exact absurd hall hkd
theorem Tryz.infoPr:(Tryz.prog.info? 140).map (fun i=>(i.zero,i.size,i.bytes))=some (some (.agg #[.pointer none,.pointer none]),2,16):=by kernel_rfl
section
variable {w:World}
set_option maxHeartbeats 4000000 in
theorem more_bad (fs:List Doc.Fld)(space E:Int)(hE:E≠0)(hfl:fs.length≤1000000000)(Fv:Value)(hF:In w Fv fs.length (fldsC fs))(wb:Nat)
  (hX:∀W sv,Below w.heap.size w W→Sl W sv fs.length (fldsC fs)→Calls Tryz.prog 39 #[sv,.int .i64 space] W (PNew fs space E W))
  (hY:∀W,Below w.heap.size w W→Calls Tryz.prog 89 #[Fv,.int .i64 space] W (RNew fs space E W)):
  Calls Tryz.prog 54 #[.pointer (some ⟨wb,0,none⟩),Fv,.int .i64 space] w fun e w'=>e=.returned (.bool true)∧Md (fun k=>w.heap.size≤k) w w':=by
 obtain⟨Fb,Fc,e1⟩:=hF.sl.slice
 subst e1
 have HLA:Hid _:=lentF_any fs hfl _ hF
 have HX:Hid _:=hX
 have HY:Hid _:=hY
 have HIF:Hid _:=hF
 clear hX hY hF
 go_enter Tryz.func54,Tryz.ntmps54
 go_wp2_with fail
 refine Calls.mono HLA.out ?_
 rintro e w1 hl1
 obtain⟨b1,c1,rfl,g1,o1,s1,hb1⟩:=hl1.sl
 have HB1:Hid _:=hb1
 have HG1:Hid _:=g1
 have HCX:Hid _:=HX.out w1 _ hb1 s1
 clear hl1 g1 o1 s1 hb1 HLA
 go_wp2_with fail
 refine Calls.mono HCX.out ?_
 rintro e w2 ⟨hb2,he⟩
 obtain rfl:e=.returned (.tuple #[.pointer none,.int .i64 E]):=by
  rcases he with⟨_,h⟩|⟨h,_⟩
  ·exact h
  ·exact absurd h hE
 have HB2:Hid _:=Below.callB HB1.out (Nat.le_refl _) hb2
 have HG2:Hid _:=(hb2.block w.heap.size (lt_block HG1.out)).trans HG1.out
 have HCY:Hid _:=HY.out w2 HB2.out
 clear he hb2 HCX
 go_wp2_with fail
 refine Calls.mono HCY.out ?_
 rintro e w3 ⟨hb3,he⟩
 obtain rfl:e=.returned (.tuple #[.pointer none,.int .i64 E]):=by
  rcases he with⟨_,h⟩|⟨h,_⟩
  ·exact h
  ·exact absurd h hE
 have HB3:Hid _:=Below.callB HB2.out (Nat.le_refl _) hb3
 have HG3:Hid _:=(hb3.block w.heap.size (lt_block HG2.out)).trans HG2.out
 have HST:Hid _:=stillF_any fs hfl _ (HIF.out.sl.below HB3.out) w.heap.size HG3.out
 clear he hb3 HCY
 go_wp2_with fail
 refine Calls.mono HST.out ?_
 rintro e w4 ⟨rfl,hd4⟩
 have HD4:Hid _:=hd4
 clear hd4 HST
 go_wp2_with fail
 refine(num_any' E w4).mono ?_
 rintro e w4' ⟨rfl,hw4⟩
 subst hw4
 go_wp2_with fail
 go_ret
 exact⟨rfl,(Md.ofBelow HB3.out).trans (HD4.out.mono (fun k hk=>by subst hk;exact Nat.le_refl _))⟩
end
section
variable {w:World}
set_option maxHeartbeats 4000000 in
theorem more_ok (fs:List Doc.Fld)(space:Int)(hfl:fs.length≤1000000000)(Fv:Value)(hF:In w Fv fs.length (fldsC fs))(wb:Nat)(ps:List Pr)(hpl:ps.length≤1000000000)(lv nsv knv vsv kvv hsv khv:Value)(hw:w.heap[wb]? =some (worldO lv nsv knv vsv kvv hsv khv))(hlv:w.ownsRow 0 140 2 lv ps.length (prsC ps))
  (hX:∀W sv,Below w.heap.size w W→Sl W sv fs.length (fldsC fs)→Calls Tryz.prog 39 #[sv,.int .i64 space] W (PNew fs space 0 W))
  (hY:∀W,Below w.heap.size w W→Calls Tryz.prog 89 #[Fv,.int .i64 space] W (RNew fs space 0 W)):
  Calls Tryz.prog 54 #[.pointer (some ⟨wb,0,none⟩),Fv,.int .i64 space] w fun e w'=>e=.returned (.bool true)∧∃W1 W2 W3 xb yb lv',Below w.heap.size w W1∧Below W1.heap.size W1 W2∧ProgSt W2 (fun k=>W1.heap.size≤k) xb fs space noneT∧Below W2.heap.size W2 W3∧RefSt W3 (fun k=>W2.heap.size≤k) yb fs space []∧
   w'.heap[wb]? =some (worldO lv' nsv knv vsv kvv hsv khv)∧w'.ownsRow 0 140 2 lv' (ps.length+1) (prsC ps++prC ⟨xb,yb,fs,space,[]⟩)∧(∀k,lv'.ownBlock=some k→lv.ownBlock=some k∨W3.heap.size≤k)∧Md (fun k=>k=wb∨lv.ownBlock=some k∨k=w.heap.size) W3 w'∧w.heap.size<W1.heap.size:=by
 obtain⟨Fb,Fc,e1⟩:=hF.sl.slice
 subst e1
 obtain⟨Lb,Lc,e2⟩:=row_slice hlv
 subst e2
 obtain⟨i0,hi,hz0,hz1,hz2⟩:=info_parts Tryz.infoPr
 have HLA:Hid _:=lentF_any fs hfl _ hF
 have HX:Hid _:=hX
 have HY:Hid _:=hY
 have HIF:Hid _:=hF
 have HW:Hid _:=hw
 have HLV:Hid _:=hlv
 clear hX hY hF hw hlv
 go_enter Tryz.func54,Tryz.ntmps54
 go_wp2_with fail
 refine Calls.mono HLA.out ?_
 rintro e w1 hl1
 obtain⟨b1,c1,rfl,g1,o1,s1,hb1⟩:=hl1.sl
 have HB1:Hid _:=hb1
 have HG1:Hid _:=g1
 have HCX:Hid _:=HX.out w1 _ hb1 s1
 clear hl1 g1 o1 s1 hb1 HLA
 go_wp2_with fail
 refine Calls.mono HCX.out ?_
 rintro e w2 ⟨hb2,he⟩
 obtain⟨xb,rfl,hp2⟩:∃xb,e=.returned (.tuple #[.pointer (some ⟨xb,0,none⟩),.int .i64 0])∧ProgSt w2 (fun k=>w1.heap.size≤k) xb fs space noneT:=by
  rcases he with⟨h,_⟩|⟨_,h⟩
  ·exact absurd rfl h
  ·exact h
 have HP2:Hid _:=hp2
 have HB12:Hid _:=hb2
 have HB2:Hid _:=Below.callB HB1.out (Nat.le_refl _) hb2
 have HG2:Hid _:=(hb2.block w.heap.size (lt_block HG1.out)).trans HG1.out
 have HCY:Hid _:=HY.out w2 HB2.out
 clear he hb2 HCX hp2
 go_wp2_with fail
 refine Calls.mono HCY.out ?_
 rintro e w3 ⟨hb3,he⟩
 obtain⟨yb,rfl,hr3⟩:∃yb,e=.returned (.tuple #[.pointer (some ⟨yb,0,none⟩),.int .i64 0])∧RefSt w3 (fun k=>w2.heap.size≤k) yb fs space []:=by
  rcases he with⟨h,_⟩|⟨_,h⟩
  ·exact absurd rfl h
  ·exact h
 have HR3:Hid _:=hr3
 have HB23:Hid _:=hb3
 have HB3:Hid _:=Below.callB HB2.out (Nat.le_refl _) hb3
 have HG3:Hid _:=(hb3.block w.heap.size (lt_block HG2.out)).trans HG2.out
 have HST:Hid _:=stillF_any fs hfl _ (HIF.out.sl.below HB3.out) w.heap.size HG3.out
 clear he hb3 HCY hr3
 go_wp2_with fail
 refine Calls.mono HST.out ?_
 rintro e w4 ⟨rfl,hd4⟩
 have HD4:Hid _:=hd4
 have hn4:∀k,k<w.heap.size→w4.heap[k]? =w.heap[k]? :=fun k hk=>(hd4.only k (by have:=HB3.out.size;omega) (by omega)).trans (HB3.out.block k hk)
 have hw4:w4.heap[wb]? =some (worldO (.slice Lb ps.length Lc) nsv knv vsv kvv hsv khv):=(hn4 wb (lt_block HW.out)).trans HW.out
 have HW4:Hid _:=hw4
 have d0:w4.cell? ⟨wb,0,none⟩=some (.slice Lb ps.length Lc):=blk_cell hw4 0 _ rfl
 have HLV4:Hid _:=rowKept (w':=w4) HLV.out (fun k _ ek ho=>(hn4 k (ownLt HLV.out ek)).trans ho)
 have hwl4:=lt_block hw4
 clear hd4 HST hn4 hw4
 go_wp2_with fail
 refine(num_any' 0 w4).mono ?_
 rintro e w4' ⟨rfl,hw4⟩
 subst hw4
 go_wp2_with (at_builtin;refine wpList_append_or _ rfl _ _ 76 rfl 0 140 i0 _ 2 16 Tryz.underlying76 hi hz0 hz1 hz2 rfl (by decide) _ _ _ rfl (row_below HLV4.out ((Below.refl _ _).alloc (Nat.le_refl _) _)) ⟨w4'.heap.size,0,none⟩ 1 1 [.pointer (some ⟨xb,0,none⟩),.pointer (some ⟨yb,0,none⟩)] rfl (by decide) rfl ?c1 ?c2 ?c3 ?c4 ?c5 ?_)
 case c1=>exact cells_new_at _ [.pointer (some ⟨xb,0,none⟩),.pointer (some ⟨yb,0,none⟩)] _ _ (by simp)
 case c2=>intro u hu;simp only[List.mem_cons,List.not_mem_nil,or_false] at hu;rcases hu with rfl|rfl<;>rfl
 case c3=>unfold maxLen;omega
 case c4=>omega
 case c5=>omega
 intro g5 p5 w5 own5 or5
 obtain⟨D5,E5⟩:=orMd (n:=ps.length) (by simp) or5
 have hw5:w5.heap[wb]? =some (worldO (.slice Lb ps.length Lc) nsv knv vsv kvv hsv khv):=by
  rw[D5.only wb (by simp;omega) (fun e=>?_),Below.heap_alloc _ _ _ hwl4]
  ·exact HW4.out
  ·obtain⟨_,cs',t⟩:=own_type HLV4.out e
   rw[HW4.out] at t;cases t
 have d5:=blk_cell hw5 0 _ rfl
 have f5:=blk_free hw5 0
 have hwl5:=lt_block hw5
 have HW5:Hid _:=hw5
 have HO5:Hid _:=own5
 have HD5:Hid _:=D5
 have HE5:Hid _:=E5
 clear own5 or5 D5 E5 hw5 d0
 go_wp2_with fail
 go_ret
 have s3:=HB3.out.size
 have s4:=HD4.out.size
 refine⟨rfl,w1,w2,w3,xb,yb,.slice (some ⟨g5,0,none⟩) (ps.length+1) p5,HB1.out,HB12.out,HP2.out,HB23.out,HR3.out,set_blk' HW5.out 0 _,rowKept HO5.out (fun k _ ek ho=>?_),fun k ek=>?_,?_,lt_block HG1.out⟩
 ·obtain⟨_,cs',t⟩:=own_type HO5.out ek
  rw[Below.heap_setCell _ _ _ _ (by rintro rfl;rw[HW5.out] at t;cases t)];exact ho
 ·obtain rfl:g5=k:=by cases ek;rfl
  rcases HE5.out with h|h
  ·exact .inl h
  ·exact .inr (by simp at h;omega)
 ·exact(((HD4.out.mono (fun k hk=>.inr (.inr hk))).alloc _).trans (HD5.out.mono (fun k hk=>.inr (.inl hk)))).set _ (.inl (.inl rfl))
end
section
variable {B:Nat}{w:World}{own:Nat→Nat}{wb:Nat}{ps:List Pr}{lv nsv knv vsv kvv hsv khv:Value}{rows:List Value}{marks:List Int}{vrows:List Value}{vmarks:List Int}{hrows:List Value}{hmarks:List Int}
theorem law_same (hA:LawAt B w own wb ps lv nsv knv vsv kvv hsv khv rows marks vrows vmarks hrows hmarks){w':World}(hd:Md (fun k=>w.heap.size≤k) w w'):LawAt B w' (fun k=>if k<w.heap.size then own k else 0) wb ps lv nsv knv vsv kvv hsv khv rows marks vrows vmarks hrows hmarks:=by
 have ho:∀k,k<w.heap.size→(fun k=>if k<w.heap.size then own k else 0) k=own k:=fun k hk=>by simp[hk]
 have kc:∀c k,Cl B w.heap.size own c k→k<w.heap.size→w'.heap[k]? =w.heap[k]? :=fun c k _ hk=>hd.only k hk (by omega)
 have mv:∀c k,Cl B w.heap.size own c k→k<w.heap.size→Cl B w'.heap.size (fun k=>if k<w.heap.size then own k else 0) c k:=fun c k h _=>h.mono hd.size ho
 refine⟨(kc 0 wb hA.wbc hA.wbc.2.1).trans hA.blk,hA.wbc.mono hd.size ho,rowKept hA.prs (fun k _ ek ho'=>(kc 0 k (hA.prc k ek) (ownLt hA.prs ek)).trans ho'),fun k e=>(hA.prc k e).mono hd.size ho,hA.bkn.kept (kc 1) (mv 1),hA.bkv.kept (kc 2) (mv 2),hA.bkh.kept (kc 3) (mv 3),fun j hj=>?_⟩
 obtain⟨h1,h2,h3⟩:=hA.sts j hj
 exact⟨h1.kept (kc _) (mv _),h2.kept' (kc _) (mv _),h3⟩
theorem hasOf_nil:hasOf []=noneT:=rfl
theorem more_any (hB:B≤w.heap.size)(hA:LawAt B w own wb ps lv nsv knv vsv kvv hsv khv rows marks vrows vmarks hrows hmarks)(hpl:ps.length≤1000000000)(hsg:Signs w)(hg0:1<w.heap.size)(fs:List Doc.Fld)(space:Int)(hnm:∀j (h:j<fs.length),fs[j].name.size≤140737488351232)(hfl:fs.length≤1000000000)(Fv:Value)(hF:In w Fv fs.length (fldsC fs)):
  Calls Tryz.prog 54 #[.pointer (some ⟨wb,0,none⟩),Fv,.int .i64 space] w fun e w'=>e=.returned (.bool true)∧Below B w w'∧∃own' ps' lv',ps.length≤ps'.length∧ps'.length≤ps.length+1∧(Doc.newOK fs space→ps'.length=ps.length+1)∧LawAt B w' own' wb ps' lv' nsv knv vsv kvv hsv khv rows marks vrows vmarks hrows hmarks:=by
 obtain⟨E,hOK,hX,hY⟩:=new_both fs space hnm
 by_cases hE:E=0
 ·subst hE
  refine(more_ok fs space hfl Fv hF wb ps hpl lv nsv knv vsv kvv _ _ hA.blk hA.prs (fun W sv hW hs=>hX W sv (hsg.below hW hg0) (Nat.lt_of_lt_of_le hg0 hW.size) hs) (fun W hW=>hY W Fv (hF.sl.below hW))).mono ?_
  rintro e w' ⟨rfl,W1,W2,W3,xb,yb,lv',h1,h2,p2,h3,r3,hw',hl',hlb,hd,hlt⟩
  have s1:=h1.size
  have s2:=h2.size
  have s3:=h3.size
  have s4:=hd.size
  obtain⟨wb1,wb2,wb3⟩:=hA.wbc
  have hlold:∀k,lv.ownBlock=some k→k<w.heap.size∧own k=0∧B≤k:=fun k e=>⟨(hA.prc k e).2.1,(hA.prc k e).2.2,(hA.prc k e).1⟩
  have old3:∀k,k<w.heap.size→W3.heap[k]? =w.heap[k]? :=fun k hk=>(h3.block k (by omega)).trans ((h2.block k (by omega)).trans (h1.block k hk))
  have keep:∀k,k<W3.heap.size→k≠wb→lv.ownBlock≠some k→k≠w.heap.size→w'.heap[k]? =W3.heap[k]? :=fun k hk a b c=>hd.only k hk (by rintro(h|h|h);exact a h;exact b h;exact c h)
  have old:∀k,k<w.heap.size→own k≠0→w'.heap[k]? =w.heap[k]? :=fun k hk h0=>(keep k (by omega) (by rintro rfl;exact h0 wb3) (fun e=>h0 (hlold k e).2.1) (by omega)).trans (old3 k hk)
  refine⟨rfl,⟨hd.below.os.trans (h3.os.trans (h2.os.trans h1.os)),hd.below.tape.trans (h3.tape.trans (h2.tape.trans h1.tape)),hd.below.output.trans (h3.output.trans (h2.output.trans h1.output)),by omega,fun k hk=>(keep k (by omega) (by omega) (fun e=>by have:=(hlold k e).2.2;omega) (by omega)).trans (old3 k (by omega))⟩,?_⟩
  obtain⟨own',ho,ho2,ho3,ho4⟩:∃own':Nat→Nat,(∀k,k<w.heap.size→own' k=own k)∧(∀k,W1.heap.size≤k→k<W2.heap.size→own' k=2*ps.length+4)∧(∀k,W2.heap.size≤k→k<W3.heap.size→own' k=2*ps.length+5)∧(∀k,W3.heap.size≤k→own' k=0):=by
   refine⟨fun k=>if k<w.heap.size then own k else if k<W1.heap.size then 0 else if k<W2.heap.size then 2*ps.length+4 else if k<W3.heap.size then 2*ps.length+5 else 0,fun k hk=>by simp[hk],fun k a b=>?_,fun k a b=>?_,fun k a=>?_⟩
   ·simp[show ¬k<w.heap.size by omega,show ¬k<W1.heap.size by omega,b]
   ·simp[show ¬k<w.heap.size by omega,show ¬k<W1.heap.size by omega,show ¬k<W2.heap.size by omega,b]
   ·simp[show ¬k<w.heap.size by omega,show ¬k<W1.heap.size by omega,show ¬k<W2.heap.size by omega,show ¬k<W3.heap.size by omega]
  have hN:w.heap.size≤w'.heap.size:=by omega
  have kc:∀c,c≠0→∀k,Cl B w.heap.size own c k→k<w.heap.size→w'.heap[k]? =w.heap[k]? :=fun c hc k h hk=>old k hk (by rw[h.2.2];exact hc)
  have mv:∀c k,Cl B w.heap.size own c k→k<w.heap.size→Cl B w'.heap.size own' c k:=fun c k h _=>h.mono hN ho
  refine⟨own',ps++[⟨xb,yb,fs,space,[]⟩],lv',by simp,by simp,fun _=>by simp,⟨hw',hA.wbc.mono hN ho,?_,fun k e=>?_,hA.bkn.kept (kc 1 (by omega)) (mv 1),hA.bkv.kept (kc 2 (by omega)) (mv 2),hA.bkh.kept (kc 3 (by omega)) (mv 3),fun j hj=>?_⟩⟩
  ·rw[List.length_append,show prsC (ps++[⟨xb,yb,fs,space,[]⟩])=prsC ps++prC ⟨xb,yb,fs,space,[]⟩ by simp[prsC]]
   exact hl'
  ·rcases hlb k e with h|h
   ·exact(hA.prc k h).mono hN ho
   ·exact⟨by omega,ownLt hl' e,ho4 k h⟩
  ·by_cases hj':j<ps.length
   ·rw[List.getElem_append_left hj']
    obtain⟨a1,a2,a3⟩:=hA.sts j hj'
    exact⟨a1.kept (kc _ (by omega)) (mv _),a2.kept' (kc _ (by omega)) (mv _),a3⟩
   ·have hje:j=ps.length:=by simp at hj;omega
    subst hje
    rw[List.getElem_append_right (Nat.le_refl _)]
    simp only[Nat.sub_self,List.getElem_cons_zero]
    refine⟨?_,r3.kept' (fun k h hk=>keep k hk (by omega) (fun e=>by have:=(hlold k e).1;omega) (by omega)) (fun k h hk=>⟨by omega,by omega,ho3 k h hk⟩),List.Pairwise.nil⟩
    rw[hasOf_nil]
    exact p2.kept (fun k h hk=>(keep k (by omega) (by omega) (fun e=>by have:=(hlold k e).1;omega) (by omega)).trans (h3.block k hk)) (fun k h hk=>⟨by omega,by omega,ho2 k h hk⟩)
 ·refine(more_bad fs space E hE hfl Fv hF wb (fun W sv hW hs=>hX W sv (hsg.below hW hg0) (Nat.lt_of_lt_of_le hg0 hW.size) hs) (fun W hW=>hY W Fv (hF.sl.below hW))).mono ?_
  rintro e w' ⟨rfl,hd⟩
  refine⟨rfl,⟨hd.below.os,hd.below.tape,hd.below.output,hd.size,fun k hk=>hd.only k (by omega) (by omega)⟩,_,ps,lv,Nat.le_refl _,by omega,fun h=>absurd (hOK h) hE,law_same hA hd⟩
end
section
variable {w:World}{wb:Nat}
set_option maxHeartbeats 4000000 in
theorem selects_walk (xb yb:Nat)(s:ByteArray)(l:List Int)(E p:Int)(hll:l.length≤1000000)
  (hX:∀W,Below w.heap.size w W→Calls Tryz.prog 40 #[.pointer (some ⟨xb,0,none⟩),.string s] W fun e w'=>∃v,e=.returned (.tuple #[v,.int .i64 E,.int .i64 p])∧w'.ownsRow W.heap.size 3 1 v l.length (intC l)∧Below W.heap.size W w')
  (hY:∀W,Below w.heap.size w W→Calls Tryz.prog 101 #[.pointer (some ⟨yb,0,none⟩),.string s] W fun e w'=>∃v,e=.returned (.tuple #[v,.int .i64 E,.int .i64 p])∧Sl w' v l.length (intC l)∧Below W.heap.size W w')
  (R:World→World→Prop)
  (hN:∀W v,Below w.heap.size w W→W.ownsRow w.heap.size 3 1 v l.length (intC l)→Calls Tryz.prog 99 #[.pointer (some ⟨wb,1,none⟩),v] W fun e w1=>e=.returned (.tuple #[])∧R W w1):
  Calls Tryz.prog 59 #[.pointer (some ⟨wb,0,none⟩),.agg #[.pointer (some ⟨xb,0,none⟩),.pointer (some ⟨yb,0,none⟩)],.string s] w fun e w'=>e=.returned (.bool true)∧∃W,Below w.heap.size w W∧R W w':=by
 have hba:Below w.heap.size w (w.alloc (.cells #[.pointer (some ⟨xb,0,none⟩),.pointer (some ⟨yb,0,none⟩)] 140)):=(Below.refl _ _).alloc (Nat.le_refl _) _
 have HX:Hid _:=hX
 have HY:Hid _:=hY
 have HN:Hid _:=hN
 have HBA:Hid _:=hba
 clear hX hY hN
 go_enter Tryz.func59,Tryz.ntmps59
 go_wp2_with fail
 refine(HX.out _ HBA.out).mono ?_
 rintro e w1 ⟨v1,rfl,r1,hb1⟩
 obtain⟨b1,c1,rfl⟩:=row_slice r1
 have q1:=(hb1.block w.heap.size (by simp)).trans (heap_alloc_new w _)
 have y1:=blk_cell q1 1 _ rfl
 have HB1:Hid _:=Below.callB HBA.out (Nat.le_refl _) hb1
 have R1:Hid _:=own_less r1 (by simp:w.heap.size≤_)
 clear r1 hb1 q1 hba
 go_wp2_with fail
 refine(HY.out w1 HB1.out).mono ?_
 rintro e w2 ⟨u1,rfl,s1,hb2⟩
 obtain⟨b3,c3,rfl⟩:=s1.slice
 have R3:Hid _:=row_below R1.out hb2
 have HB2:Hid _:=Below.callB HB1.out (Nat.le_refl _) hb2
 have HSA:Hid _:=same_any l (by omega) _ _ (rowSl R3.out) s1
 clear s1 hb2 y1
 go_wp2_with fail
 refine Calls.mono HSA.out ?_
 rintro e w3 ⟨rfl,hb3⟩
 have R5:Hid _:=row_below R3.out hb3
 have HB3:Hid _:=Below.callB HB2.out (Nat.le_refl _) hb3
 have HNV:Hid _:=HN.out w3 _ HB3.out R5.out
 clear hb3
 go_wp2_with fail
 refine Calls.mono HNV.out ?_
 rintro e w5 ⟨rfl,hv5⟩
 have HV5:Hid _:=hv5
 clear hv5
 go_wp2_with fail
 refine(num_any' E w5).mono ?_
 rintro e w5' ⟨rfl,hw5⟩
 subst hw5
 go_wp2_with fail
 go_ret
 exact⟨by simp,w3,HB3.out,HV5.out⟩
set_option maxHeartbeats 8000000 in
theorem nearest_walk (xb yb:Nat)(s0 s1:Int)(s:ByteArray)(Fb Vb:Option Addr)(Fn Fc Vn Vc:Nat)(spot:List Int)(hsl:spot.length≤1000000000)(Lv:Value)(hL:In w Lv spot.length (intC spot))(most:Int)(hs:List (Int×Int))(hhl:hs.length≤1000000)(E p:Int)
  (hX:∀W sv,Below w.heap.size w W→Sl W sv spot.length (intC spot)→Calls Tryz.prog 31 #[.pointer (some ⟨xb,0,none⟩),.string s,sv,.int .i64 most] W fun e w'=>∃v,e=.returned (.tuple #[v,.int .i64 E,.int .i64 p])∧w'.ownsRow W.heap.size 61 2 v hs.length (hitsC hs)∧Below W.heap.size W w')
  (hY:∀W,Below w.heap.size w W→Calls Tryz.prog 102 #[.pointer (some ⟨yb,0,none⟩),.string s,Lv,.int .i64 most] W fun e w'=>∃v,e=.returned (.tuple #[v,.int .i64 E,.int .i64 p])∧w'.ownsRow W.heap.size 61 2 v hs.length (hitsC hs)∧Below W.heap.size W w')
  (hLf:0<spot.length→∀k,Lv.ownBlock=some k→k<w.heap.size)
  (R:World→World→Prop)
  (hN:∀W v,Below w.heap.size w W→W.ownsRow w.heap.size 61 2 v hs.length (hitsC hs)→Calls Tryz.prog 103 #[.pointer (some ⟨wb,1,none⟩),v] W fun e w1=>e=.returned (.tuple #[])∧R W w1):
  Calls Tryz.prog 60 #[.pointer (some ⟨wb,0,none⟩),.agg #[.pointer (some ⟨xb,0,none⟩),.pointer (some ⟨yb,0,none⟩)],.agg #[.int .i64 s0,.int .i64 s1,.int .i64 most,.string s,.slice Fb Fn Fc,Lv,.slice Vb Vn Vc]] w fun e w'=>e=.returned (.bool true)∧∃W,Below w.heap.size w W∧R W w':=by
 obtain⟨Lb,Lc,e1⟩:=hL.sl.slice
 subst e1
 obtain⟨W0,HW0⟩:∃W0,Hid (W0=(w.alloc (.cells #[.pointer (some ⟨xb,0,none⟩),.pointer (some ⟨yb,0,none⟩)] 140)).alloc (.cells #[.int .i64 s0,.int .i64 s1,.int .i64 most,.string s,.slice Fb Fn Fc,.slice Lb spot.length Lc,.slice Vb Vn Vc] 87)):=⟨_,rfl⟩
 have hb0:Below w.heap.size w W0:=by rw[HW0.out];exact((Below.refl _ _).alloc (Nat.le_refl _) _).alloc (by simp) _
 have qp:W0.heap[w.heap.size]? =some (.cells #[.pointer (some ⟨xb,0,none⟩),.pointer (some ⟨yb,0,none⟩)] 140 (0,0)):=by rw[HW0.out];exact heap_alloc2_old w _ _
 have qs:W0.heap[w.heap.size+1]? =some (.cells #[.int .i64 s0,.int .i64 s1,.int .i64 most,.string s,.slice Fb Fn Fc,.slice Lb spot.length Lc,.slice Vb Vn Vc] 87 (0,0)):=by rw[HW0.out];exact heap_alloc2_new w _ _
 have hz0:W0.heap.size=w.heap.size+2:=by rw[HW0.out];simp
 have c5:W0.cell? ⟨w.heap.size+1,5,none⟩=some (.slice Lb spot.length Lc):=blk_cell qs 5 _ rfl
 have HLA:Hid _:=lent_any spot hsl _ (hL.below hb0)
 have HX:Hid _:=hX
 have HY:Hid _:=hY
 have HN:Hid _:=hN
 have HB0:Hid _:=hb0
 have HIL:Hid _:=hL
 have HLF:Hid _:=hLf
 have QP:Hid _:=qp
 have QS:Hid _:=qs
 have HZ0:Hid _:=hz0
 clear hX hY hN hL hLf qp qs hb0 hz0
 go_enter Tryz.func60,Tryz.ntmps60
 go_wp2_with fail
 rw[←HW0.out]
 refine Calls.mono HLA.out ?_
 rintro e w1 hl1
 obtain⟨b1,c1,rfl,g1,o1,s1',hb1⟩:=hl1.sl
 have HB1:Hid _:=Below.callB HB0.out (Nat.le_refl _) hb1
 have HG1:Hid _:=g1
 have QP1:Hid _:=(hb1.block w.heap.size (by rw[HZ0.out];omega)).trans QP.out
 have QS1:Hid _:=(hb1.block (w.heap.size+1) (by rw[HZ0.out];omega)).trans QS.out
 have d0:w1.cell? ⟨w.heap.size,0,none⟩=some (.pointer (some ⟨xb,0,none⟩)):=blk_cell QP1.out 0 _ rfl
 have d2:w1.cell? ⟨w.heap.size+1,2,none⟩=some (.int .i64 most):=blk_cell QS1.out 2 _ rfl
 have d3:w1.cell? ⟨w.heap.size+1,3,none⟩=some (.string s):=blk_cell QS1.out 3 _ rfl
 have HCX:Hid _:=HX.out w1 _ HB1.out s1'
 clear hl1 s1' g1 o1 hb1 c5 HLA
 go_wp2_with fail
 refine Calls.mono HCX.out ?_
 rintro e w2 ⟨v1,rfl,r2,hb2⟩
 obtain⟨b2,c2,rfl⟩:=row_slice r2
 have HB2:Hid _:=Below.callB HB1.out (Nat.le_refl _) hb2
 have R2:Hid _:=r2
 have HG2:Hid _:=(hb2.block W0.heap.size (lt_block HG1.out)).trans HG1.out
 have QP2:Hid _:=(hb2.block w.heap.size (lt_block QP1.out)).trans QP1.out
 have QS2:Hid _:=(hb2.block (w.heap.size+1) (lt_block QS1.out)).trans QS1.out
 have e1':w2.cell? ⟨w.heap.size,1,none⟩=some (.pointer (some ⟨yb,0,none⟩)):=blk_cell QP2.out 1 _ rfl
 have e2:w2.cell? ⟨w.heap.size+1,2,none⟩=some (.int .i64 most):=blk_cell QS2.out 2 _ rfl
 have e3:w2.cell? ⟨w.heap.size+1,3,none⟩=some (.string s):=blk_cell QS2.out 3 _ rfl
 have e5:w2.cell? ⟨w.heap.size+1,5,none⟩=some (.slice Lb spot.length Lc):=blk_cell QS2.out 5 _ rfl
 have HCY:Hid _:=HY.out w2 HB2.out
 have hz2:=hb2.size
 clear r2 hb2 d0 d2 d3 HCX
 go_wp2_with fail
 refine Calls.mono HCY.out ?_
 rintro e w3 ⟨u1,rfl,r3,hb3⟩
 obtain⟨b3,c3,rfl⟩:=row_slice r3
 have HB3:Hid _:=Below.callB HB2.out (Nat.le_refl _) hb3
 have R3:Hid _:=row_below R2.out hb3
 have S3:Hid _:=r3
 have HG3:Hid _:=(hb3.block W0.heap.size (lt_block HG2.out)).trans HG2.out
 have QS3:Hid _:=(hb3.block (w.heap.size+1) (lt_block QS2.out)).trans QS2.out
 have e7:w3.cell? ⟨w.heap.size+1,5,none⟩=some (.slice Lb spot.length Lc):=blk_cell QS3.out 5 _ rfl
 have HST:Hid _:=still_any spot (by omega) _ (HIL.out.sl.below HB3.out) W0.heap.size HG3.out
 have hz3:=hb3.size
 clear r3 hb3 e1' e2 e3 e5 HCY
 go_wp2_with fail
 refine Calls.mono HST.out ?_
 rintro e w4 ⟨rfl,hd4⟩
 have hg1l:=lt_block HG1.out
 have HB4:Hid (Below w.heap.size w w4):=⟨hd4.below.os.trans HB3.out.os,hd4.below.tape.trans HB3.out.tape,hd4.below.output.trans HB3.out.output,Nat.le_trans HB3.out.size hd4.size,fun k hk=>(hd4.only k (Nat.lt_of_lt_of_le hk HB3.out.size) (by have:=HZ0.out;omega)).trans (HB3.out.block k hk)⟩
 have R4:Hid (w4.ownsRow w.heap.size 61 2 (.slice b2 hs.length c2) hs.length (hitsC hs)):=by
  have h1:w4.ownsRow w1.heap.size 61 2 (.slice b2 hs.length c2) hs.length (hitsC hs):=rowKept R3.out (fun k _ ek ho=>(hd4.only k (ownLt R3.out ek) (by have:=own_ge R3.out ek;omega)).trans ho)
  exact own_less h1 HB1.out.size
 have S4:Hid (w4.ownsRow w2.heap.size 61 2 (.slice b3 hs.length c3) hs.length (hitsC hs)):=rowKept S3.out (fun k _ ek ho=>(hd4.only k (ownLt S3.out ek) (by have:=own_ge S3.out ek;omega)).trans ho)
 clear hd4 e7 HST
 go_wp2_with fail
 refine(num_any' E w4).mono ?_
 rintro e w4' ⟨rfl,hw4⟩
 subst hw4
 go_wp2_with fail
 go_loopw [15,16] (fun ok i wr=>ok=.bool true∧∃k:Nat,k≤hs.length∧i=.int .i64 k∧Below w4'.heap.size w4' wr) (fun _ i _=>hs.length-(intOf i).toNat)
 case atStart=>exact⟨by first|rfl|simp,0,Nat.zero_le _,rfl,Below.refl _ _⟩
 case round=>
  obtain⟨rfl,k,hk,rfl,hb⟩:=hrel
  by_cases hk2:k<hs.length
  ·have hrow:=rowSl (row_below R4.out hb)
   have hsl2:=rowSl (row_below S4.out hb)
   rcases hrow.has with⟨h0,_⟩|⟨_,g,o1,cp1,he1,_,_,hr1⟩
   ·omega
   rcases hsl2.has with⟨h0,_⟩|⟨_,b,off,cp2,he2,_,_,hr2⟩
   ·omega
   simp only[Value.slice.injEq] at he1 he2
   obtain⟨rfl,_,rfl⟩:=he1
   obtain⟨rfl,_,rfl⟩:=he2
   obtain⟨x,HX2⟩:∃x,Hid (x=hs[k]):=⟨hs[k],rfl⟩
   have hv:∀c,c<2→(hitsC hs)[k*2+c]? =(encH x)[c]? :=fun c hc=>by unfold hitsC;rw[flat_at encH 2 (fun _=>rfl) hs k hk2 c hc,HX2.out]
   have a0:=hr1 (k*2+0) (.int .i64 x.1) (hv 0 (by omega))
   have a1:=hr1 (k*2+1) (.int .i64 x.2) (hv 1 (by omega))
   have d0:=hr2 (k*2+0) (.int .i64 x.1) (hv 0 (by omega))
   have d1:=hr2 (k*2+1) (.int .i64 x.2) (hv 1 (by omega))
   rw[Nat.add_zero] at a0 d0
   rw[←Nat.add_assoc] at a1 d1
   clear hr1 hr2 hv hrow hsl2
   go_wp2_with fail
   go_quiet (fail)
   go_wp2_with fail
   exact⟨⟨by first|rfl|simp,k+1,by omega,by go_num,below_drewN hb⟩,by simp[intOf];omega⟩
  ·obtain rfl:k=hs.length:=by omega
   have HBW:Hid _:=Below.callB HB4.out (Nat.le_refl _) hb
   have HNV:Hid _:=HN.out wr _ HBW.out (row_below R4.out hb)
   go_wp2_with fail
   refine Calls.mono HNV.out ?_
   rintro e w5 ⟨rfl,hv5⟩
   go_wp2_with fail
   go_ret
   exact⟨rfl,wr,HBW.out,hv5⟩
end
end Go.Proofs.YtbnelaoeblhndaaGreatDoor
