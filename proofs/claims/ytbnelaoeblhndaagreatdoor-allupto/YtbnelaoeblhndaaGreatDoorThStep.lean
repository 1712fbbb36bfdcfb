import Derived.Test.YtbnelaoeblhndaaGreatDoorRefText2
import Derived.Test.YtbnelaoeblhndaaGreatDoorPlainAny
import Derived.Test.YtbnelaoeblhndaaGreatDoorAlLaw2
namespace Go.Proofs.YtbnelaoeblhndaaGreatDoor
open Go.RowKit
set_option maxRecDepth 100000
theorem text_all:∀a:Doc.Ast,Doc.Fine a→TextC a:=by
 intro a
 induction a with
 |test name ask lits=>
  intro hf B w fb Lv L at_ op Nv nodes E p k h hn hrep hlen
  cases hrep with
  |test h1 h2 h3=>exact text_test h hn h1 h2 h3 hf.1 hf.2 hlen
 |not a ih=>
  intro hf B w fb Lv L at_ op Nv nodes E p k h hn hrep hlen
  cases hrep with
  |not h1 h2 h3 h4 h5=>exact text_not (@ih hf) h hn h1 h2 h3 h4 h5 hlen
 |and a b iha ihb=>
  intro hf B w fb Lv L at_ op Nv nodes E p k h hn hrep hlen
  cases hrep with
  |and h1 h2 h3 h4 h5 h6 h7=>exact text_and (@iha hf.1) (@ihb hf.2) h hn h1 h2 h3 h4 h5 h6 h7 hlen
 |or a b iha ihb=>
  intro hf B w fb Lv L at_ op Nv nodes E p k h hn hrep hlen
  cases hrep with
  |or h1 h2 h3 h4 h5 h6 h7=>exact text_or (@iha hf.1) (@ihb hf.2) h hn h1 h2 h3 h4 h5 h6 h7 hlen
set_option maxHeartbeats 1000000 in
theorem ref_plain (s:ByteArray)(w:World):
  Calls Tryz.prog 35 #[.string s] w fun e w'=>e=.returned (answerV (Doc.answer s))∧Below w.heap.size w w':=by
 by_cases hs:200<s.size
 ·have HA:Hid (Doc.answer s=([],5,0)):=by show _=_;unfold Doc.answer;rw[if_pos hs]
  go_enter Tryz.func35,Tryz.ntmps35
  go_wp2_with fail
  refine(parse_long s _ hs).mono ?_
  rintro e w1 ⟨rfl,rfl⟩
  go_wp2_with fail
  go_ret3
  rw[HA.out]
  exact⟨rfl,Below.refl _ _⟩
 ·have hs':s.size≤200:=by omega
  have hok:=Doc.ok_toks s hs'
  have hpos:=Doc.toks_pos s
  cases hres:Doc.parse (Doc.toks s 0) with
  |err er p=>
   have HA:Hid (Doc.answer s=([],er,p)):=by show _=_;unfold Doc.answer;rw[if_neg hs,hres]
   have HC:=parse_any s w hs'
   rw[hres] at HC
   have HC':Hid (Calls Tryz.prog 52 #[.string s] w (PPost w (Doc.toks s 0) (.err er p))):=HC
   clear HC hres hok hpos
   go_enter Tryz.func35,Tryz.ntmps35
   go_wp2_with fail
   refine HC'.out.mono ?_
   rintro e w1 ⟨rfl,her,hb⟩
   have hz:((er:Int) != 0)=true:=by rw[bne_iff_ne];omega
   go_wp2_with fail
   go_ret3
   rw[HA.out]
   exact⟨rfl,hb⟩
  |ok a j=>
   have HA:Hid (Doc.answer s=(Doc.plain a,0,0)):=by show _=_;unfold Doc.answer;rw[if_neg hs,hres]
   have hf:=Doc.parse_fine hok hpos hres
   have HT:Hid (TextC a):=@text_all a hf.1
   have HC:=parse_any s w hs'
   rw[hres] at HC
   have HC':Hid (Calls Tryz.prog 52 #[.string s] w (PPost w (Doc.toks s 0) (.ok a j))):=HC
   have HL:Hid ((Doc.plain a).length≤80000):=hf.2
   clear HC hres hok hpos hf
   go_enter Tryz.func35,Tryz.ntmps35
   go_wp2_with fail
   refine HC'.out.mono ?_
   rintro e w1 ⟨fb,k,Lv,Nv,nodes,rfl,h1,hrep,hn,_,hb⟩
   have c1:=h1.c1
   go_wp2_with fail
   refine(HT.out h1 hn hrep.1 HL.out).mono ?_
   rintro e w2 ⟨D,HD,hD,rfl,hb2⟩
   go_wp2_with fail
   go_ret3
   rw[HA.out]
   exact⟨by rw[HD.out];rfl,hb.trans (hb2.mono hb.size)⟩
set_option maxHeartbeats 1000000 in
theorem num_any (e:Int)(w:World):Calls Tryz.prog 13 #[.int .i64 e] w fun r w'=>r=.returned (.int .i64 e)∧w'=w:=by
 go_enter Tryz.func13,Tryz.ntmps13
 go_wp2_with fail
 go_ret
 exact⟨rfl,rfl⟩
set_option maxHeartbeats 1000000 in
theorem plains_one (s:ByteArray)(w:World)(hL:Laid w):
  Calls Tryz.prog 14 #[.string s] w fun r w'=>r=.returned (.bool true)∧Below w.heap.size w w':=by
 obtain⟨X,E,P,HA⟩:∃(X:ByteArray) (E P:Int),Hid (answerV (Doc.answer s)=.tuple #[.string X,.int .i64 E,.int .i64 P]):=⟨_,_,_,rfl⟩
 have HL:Hid (Laid w):=hL
 clear hL
 go_enter Tryz.func14,Tryz.ntmps14
 go_wp2_with fail
 refine(plain_any s _ HL.out).mono ?_
 rw[HA.out]
 rintro r w1 ⟨rfl,hb1⟩
 go_wp2_with fail
 refine(ref_plain s _).mono ?_
 rw[HA.out]
 rintro r w2 ⟨rfl,hb2⟩
 go_wp2_with fail
 refine(num_any E _).mono ?_
 rintro r w3 ⟨rfl,rfl⟩
 go_wp2_with fail
 go_ret
 exact⟨by simp,hb1.trans (hb2.mono hb1.size)⟩
section
variable {B:Nat}{w:World}{own:Nat→Nat}{wb:Nat}{ps:List Pr}{lv nsv knv vsv kvv hsv khv:Value}{rows:List Value}{marks:List Int}{vrows:List Value}{vmarks:List Int}{hrows:List Value}{hmarks:List Int}
theorem sel_book (hA:LawAt B w own wb ps lv nsv knv vsv kvv hsv khv rows marks vrows vmarks hrows hmarks)(hr1:rows.length≤1000000000)(xs:List Int)(hsl:xs.length≤1000000)(W:World)(l:Value)(hW:Below w.heap.size w W)
  (hl:W.ownsRow w.heap.size 3 1 l xs.length (intC xs)) (hB:B≤w.heap.size):
  Calls Tryz.prog 99 #[.pointer (some ⟨wb,1,none⟩),l] W fun e w1=>e=.returned (.tuple #[])∧(Below B w w1∧∃own' a' b' rows' marks',LawAt B w1 own' wb ps lv a' b' vsv kvv hsv khv rows' marks' vrows vmarks hrows hmarks∧rows'.length=rows.length+4):=by
 obtain⟨wb1,wb2,wb3⟩:=hA.wbc
 have hWs:=hW.size
 have hwW:W.heap[wb]? =some (worldO lv nsv knv vsv kvv hsv khv):=(hW.block wb wb2).trans hA.blk
 have hlt:∀k,l.ownBlock=some k→w.heap.size≤k∧k<W.heap.size:=fun k e=>⟨own_ge hl e,ownLt hl e⟩
 refine(numbers_any hwW (hA.bkn.kept (w':=W) (fun k _ hk=>hW.block k hk) (fun k h _=>h)) (fun h=>by have:=h.2.2;omega) hr1 xs l (own_less hl (Nat.zero_le _)) (by omega) (fun k e h=>by have:=(hlt k e).1;have:=h.2.1;omega)).mono ?_
 rintro e w1 ⟨rfl,a',b',rows',marks',hw1,bN1,hl1,hd1⟩
 have hs1:=hd1.size
 have keep1:∀k,k<W.heap.size→k≠wb→¬Cl B w.heap.size own 1 k→l.ownBlock≠some k→w1.heap[k]? =W.heap[k]? :=fun k hk h1 h2 h3=>hd1.only k hk (by rintro(h|h|h);exact h1 h;exact h2 h;exact h3 h)
 have old1:∀k,k<w.heap.size→k≠wb→own k≠1→w1.heap[k]? =w.heap[k]? :=fun k hk h1 h2=>(keep1 k (by omega) h1 (fun h=>h2 h.2.2) (fun e=>by have:=(hlt k e).1;omega)).trans (hW.block k hk)
 refine⟨rfl,?_,?_⟩
 ·refine⟨hd1.below.os.trans hW.os,hd1.below.tape.trans hW.tape,hd1.below.output.trans hW.output,by omega,fun k hk=>?_⟩
  refine(hd1.only k (by omega) ?_).trans (hW.block k (by omega))
  rintro(h|h|h)
  ·omega
  ·have:=h.1;omega
  ·have:=(hlt k h).1;omega
 obtain⟨own',ho1,ho2,ho4⟩:∃own':Nat→Nat,(∀k,k<w.heap.size→own' k=own k)∧(∀k,l.ownBlock=some k→own' k=1)∧(∀k,W.heap.size≤k→own' k=1):=by
  refine⟨fun k=>if k<w.heap.size then own k else if l.ownBlock=some k then 1 else if k<W.heap.size then 0 else 1,fun k hk=>?_,fun k e=>?_,fun k h1=>?_⟩
  ·simp[hk]
  ·have:=hlt k e
   simp[e,show ¬k<w.heap.size by omega]
  ·have h3:l.ownBlock≠some k:=fun e1=>by have:=hlt k e1;omega
   simp[h3,show ¬k<w.heap.size by omega,show ¬k<W.heap.size by omega]
 have hN:w.heap.size≤w1.heap.size:=by omega
 refine⟨own',a',b',rows',marks',⟨hw1,hA.wbc.mono hN ho1,rowKept hA.prs (fun k _ ek ho=>?_),fun k e=>(hA.prc k e).mono hN ho1,?_,hA.bkv.kept (fun k h hk=>old1 k hk (by rintro rfl;have:=h.2.2;omega) (by have:=h.2.2;omega)) (fun k h _=>h.mono hN ho1),hA.bkh.kept (fun k h hk=>old1 k hk (by rintro rfl;have:=h.2.2;omega) (by have:=h.2.2;omega)) (fun k h _=>h.mono hN ho1),fun i hi=>?_⟩,hl1⟩
 ·obtain⟨_,c,t⟩:=own_type hA.prs ek
  have hc:=hA.prc k ek
  exact(old1 k hc.2.1 (by rintro rfl;rw[hA.blk] at t;cases t) (by have:=hc.2.2;omega)).trans ho
 ·refine bN1.kept (fun k h hk=>rfl) (fun k h hk=>?_)
  rcases h with h|h|h
  ·exact h.mono hN ho1
  ·have:=hlt k h;exact⟨by omega,by omega,ho2 k h⟩
  ·exact⟨by omega,by omega,ho4 k h⟩
 ·obtain⟨h1,h2,h3⟩:=hA.sts i hi
  exact⟨h1.kept (fun k h hk=>old1 k hk (by rintro rfl;have:=h.2.2;omega) (by have:=h.2.2;omega)) (fun k h _=>h.mono hN ho1),h2.kept' (fun k h hk=>old1 k hk (by rintro rfl;have:=h.2.2;omega) (by have:=h.2.2;omega)) (fun k h _=>h.mono hN ho1),h3⟩
theorem near_book (hA:LawAt B w own wb ps lv nsv knv vsv kvv hsv khv rows marks vrows vmarks hrows hmarks)(hr1:hrows.length≤1000000000)(xs:List (Int×Int))(hsl:xs.length≤1000000)(W:World)(l:Value)(hW:Below w.heap.size w W)
  (hl:W.ownsRow w.heap.size 61 2 l xs.length (hitsC xs)) (hB:B≤w.heap.size):
  Calls Tryz.prog 103 #[.pointer (some ⟨wb,1,none⟩),l] W fun e w1=>e=.returned (.tuple #[])∧(Below B w w1∧∃own' a' b' rows' marks',LawAt B w1 own' wb ps lv nsv knv vsv kvv a' b' rows marks vrows vmarks rows' marks'∧rows'.length=hrows.length+4):=by
 obtain⟨wb1,wb2,wb3⟩:=hA.wbc
 have hWs:=hW.size
 have hwW:W.heap[wb]? =some (worldO lv nsv knv vsv kvv hsv khv):=(hW.block wb wb2).trans hA.blk
 have hlt:∀k,l.ownBlock=some k→w.heap.size≤k∧k<W.heap.size:=fun k e=>⟨own_ge hl e,ownLt hl e⟩
 refine(hitsB_any hwW (hA.bkh.kept (w':=W) (fun k _ hk=>hW.block k hk) (fun k h _=>h)) (fun h=>by have:=h.2.2;omega) hr1 xs l (own_less hl (Nat.zero_le _)) (by omega) (fun k e h=>by have:=(hlt k e).1;have:=h.2.1;omega)).mono ?_
 rintro e w1 ⟨rfl,a',b',rows',marks',hw1,bN1,hl1,hd1⟩
 have hs1:=hd1.size
 have keep1:∀k,k<W.heap.size→k≠wb→¬Cl B w.heap.size own 3 k→l.ownBlock≠some k→w1.heap[k]? =W.heap[k]? :=fun k hk h1 h2 h3=>hd1.only k hk (by rintro(h|h|h);exact h1 h;exact h2 h;exact h3 h)
 have old1:∀k,k<w.heap.size→k≠wb→own k≠3→w1.heap[k]? =w.heap[k]? :=fun k hk h1 h2=>(keep1 k (by omega) h1 (fun h=>h2 h.2.2) (fun e=>by have:=(hlt k e).1;omega)).trans (hW.block k hk)
 refine⟨rfl,?_,?_⟩
 ·refine⟨hd1.below.os.trans hW.os,hd1.below.tape.trans hW.tape,hd1.below.output.trans hW.output,by omega,fun k hk=>?_⟩
  refine(hd1.only k (by omega) ?_).trans (hW.block k (by omega))
  rintro(h|h|h)
  ·omega
  ·have:=h.1;omega
  ·have:=(hlt k h).1;omega
 obtain⟨own',ho1,ho2,ho4⟩:∃own':Nat→Nat,(∀k,k<w.heap.size→own' k=own k)∧(∀k,l.ownBlock=some k→own' k=3)∧(∀k,W.heap.size≤k→own' k=3):=by
  refine⟨fun k=>if k<w.heap.size then own k else if l.ownBlock=some k then 3 else if k<W.heap.size then 0 else 3,fun k hk=>?_,fun k e=>?_,fun k h1=>?_⟩
  ·simp[hk]
  ·have:=hlt k e
   simp[e,show ¬k<w.heap.size by omega]
  ·have h3:l.ownBlock≠some k:=fun e1=>by have:=hlt k e1;omega
   simp[h3,show ¬k<w.heap.size by omega,show ¬k<W.heap.size by omega]
 have hN:w.heap.size≤w1.heap.size:=by omega
 refine⟨own',a',b',rows',marks',⟨hw1,hA.wbc.mono hN ho1,rowKept hA.prs (fun k _ ek ho=>?_),fun k e=>(hA.prc k e).mono hN ho1,hA.bkn.kept (fun k h hk=>old1 k hk (by rintro rfl;have:=h.2.2;omega) (by have:=h.2.2;omega)) (fun k h _=>h.mono hN ho1),hA.bkv.kept (fun k h hk=>old1 k hk (by rintro rfl;have:=h.2.2;omega) (by have:=h.2.2;omega)) (fun k h _=>h.mono hN ho1),?_,fun i hi=>?_⟩,hl1⟩
 ·obtain⟨_,c,t⟩:=own_type hA.prs ek
  have hc:=hA.prc k ek
  exact(old1 k hc.2.1 (by rintro rfl;rw[hA.blk] at t;cases t) (by have:=hc.2.2;omega)).trans ho
 ·refine bN1.kept (fun k h hk=>rfl) (fun k h hk=>?_)
  rcases h with h|h|h
  ·exact h.mono hN ho1
  ·have:=hlt k h;exact⟨by omega,by omega,ho2 k h⟩
  ·exact⟨by omega,by omega,ho4 k h⟩
 ·obtain⟨h1,h2,h3⟩:=hA.sts i hi
  exact⟨h1.kept (fun k h hk=>old1 k hk (by rintro rfl;have:=h.2.2;omega) (by have:=h.2.2;omega)) (fun k h _=>h.mono hN ho1),h2.kept' (fun k h hk=>old1 k hk (by rintro rfl;have:=h.2.2;omega) (by have:=h.2.2;omega)) (fun k h _=>h.mono hN ho1),h3⟩
structure LaidA (w:World):Prop where
 pl:Laid w
 tab:Tab64 w
 g3:0<w.heap.size
theorem LaidA.below {w w':World}(h:LaidA w)(hb:Below w.heap.size w w'):LaidA w':=⟨h.pl.below hb,h.tab.below hb h.g3,Nat.lt_of_lt_of_le h.g3 hb.size⟩
theorem selects_any (hB:B≤w.heap.size)(hA:LawAt B w own wb ps lv nsv knv vsv kvv hsv khv rows marks vrows vmarks hrows hmarks)(hL:LaidA w)(hr1:rows.length≤1000000000)(i:Nat)(hi:i<ps.length)(s:ByteArray):
  Calls Tryz.prog 59 #[.pointer (some ⟨wb,0,none⟩),.agg #[.pointer (some ⟨ps[i].xb,0,none⟩),.pointer (some ⟨ps[i].yb,0,none⟩)],.string s] w fun e w'=>e=.returned (.bool true)∧Below B w w'∧∃own' a' b' rows' marks',LawAt B w' own' wb ps lv a' b' vsv kvv hsv khv rows' marks' vrows vmarks hrows hmarks∧rows'.length=rows.length+4:=by
 obtain⟨s1,s2,s3⟩:=hA.sts i hi
 obtain⟨l,E,p,hS⟩:=select_both (yb:=ps[i].yb) s3 s1 s
 have hn:(l.map Int.ofNat).length=l.length:=List.length_map _
 refine(selects_walk (wb:=wb) ps[i].xb ps[i].yb s (l.map Int.ofNat) E p (by have:=hS.len;omega) (fun W hW=>?_) (fun W hW=>?_) (fun _ w2=>Below B w w2∧∃own' a' b' rows' marks',LawAt B w2 own' wb ps lv a' b' vsv kvv hsv khv rows' marks' vrows vmarks hrows hmarks∧rows'.length=rows.length+4) (fun W v hW hv=>sel_book hA hr1 _ (by have:=hS.len;omega) W v hW hv hB)).mono ?_
 ·have hLW:=hL.below hW
  rw[hn]
  exact hS.prog W _ (s1.kept (fun k _ hk=>hW.block k hk) (fun k h _=>h)) hLW.pl.sg hLW.pl.g1 hLW.tab hLW.g3
 ·rw[hn]
  exact(hS.ref W _ (s2.kept' (fun k _ hk=>hW.block k hk) (fun k h _=>h))).mono fun _ _ ⟨v,e,r,b⟩=>⟨v,e,rowSl r,b⟩
 ·rintro e w' ⟨rfl,W,_,hR⟩
  exact⟨rfl,hR⟩
theorem nearest_any (hB:B≤w.heap.size)(hA:LawAt B w own wb ps lv nsv knv vsv kvv hsv khv rows marks vrows vmarks hrows hmarks)(hL:LaidA w)(hr1:hrows.length≤1000000000)(i:Nat)(hi:i<ps.length)(s0 s1:Int)(s:ByteArray)(Fb Vb:Option Addr)(Fn Fc Vn Vc:Nat)(spot:List Int)(hsl:spot.length≤1000000000)(Lv:Value)(hLi:In w Lv spot.length (intC spot))(hLf:0<spot.length→∀k,Lv.ownBlock=some k→k<w.heap.size)(most:Int)(hm:most≤9223372036854775807):
  Calls Tryz.prog 60 #[.pointer (some ⟨wb,0,none⟩),.agg #[.pointer (some ⟨ps[i].xb,0,none⟩),.pointer (some ⟨ps[i].yb,0,none⟩)],.agg #[.int .i64 s0,.int .i64 s1,.int .i64 most,.string s,.slice Fb Fn Fc,Lv,.slice Vb Vn Vc]] w fun e w'=>e=.returned (.bool true)∧Below B w w'∧∃own' a' b' rows' marks',LawAt B w' own' wb ps lv nsv knv vsv kvv a' b' rows marks vrows vmarks rows' marks'∧rows'.length=hrows.length+4:=by
 obtain⟨q1,q2,q3⟩:=hA.sts i hi
 obtain⟨hs,E,p,hS⟩:=near_both (yb:=ps[i].yb) q3 q1 s spot hsl most hm
 refine(nearest_walk (wb:=wb) ps[i].xb ps[i].yb s0 s1 s Fb Vb Fn Fc Vn Vc spot hsl Lv hLi most hs (by have:=hS.len;omega) E p (fun W sv hW hsv=>?_) (fun W hW=>?_) hLf (fun _ w2=>Below B w w2∧∃own' a' b' rows' marks',LawAt B w2 own' wb ps lv nsv knv vsv kvv a' b' rows marks vrows vmarks rows' marks'∧rows'.length=hrows.length+4) (fun W v hW hv=>near_book hA hr1 _ (by have:=hS.len;omega) W v hW hv hB)).mono ?_
 ·have hLW:=hL.below hW
  exact hS.prog W _ sv (q1.kept (fun k _ hk=>hW.block k hk) (fun k h _=>h)) hLW.pl.sg hLW.pl.g1 hLW.tab hLW.g3 hsv
 ·exact hS.ref W _ Lv (q2.kept' (fun k _ hk=>hW.block k hk) (fun k h _=>h)) (hLi.sl.below hW)
 ·rintro e w' ⟨rfl,W,_,hR⟩
  exact⟨rfl,hR⟩
end
def Stepped (B:Nat)(w:World)(wb n g:Nat)(e:Ending)(w':World):Prop:=e=.returned (.bool true)∧Below B w w'∧∃n' g',n≤n'∧n'≤n+1∧g≤g'∧g'≤g+1∧LawSt B w' wb n' g'
section
variable {B:Nat}{w:World}{own:Nat→Nat}{wb:Nat}{ps:List Pr}{lv nsv knv vsv kvv hsv khv:Value}{rows:List Value}{marks:List Int}{vrows:List Value}{vmarks:List Int}{hrows:List Value}{hmarks:List Int}{g:Nat}
theorem pr_at (ps:List Pr)(j:Nat)(hj:j<ps.length)(c:Nat)(hc:c<2):(prsC ps)[j*2+c]? =(prC ps[j])[c]? :=flat_at prC 2 (fun _=>rfl) ps j hj c hc
theorem law_below (hA:LawAt B w own wb ps lv nsv knv vsv kvv hsv khv rows marks vrows vmarks hrows hmarks){w':World}(hb:Below w.heap.size w w'):LawAt B w' (fun k=>if k<w.heap.size then own k else 0) wb ps lv nsv knv vsv kvv hsv khv rows marks vrows vmarks hrows hmarks:=
 law_same hA (Md.ofBelow hb)
set_option maxHeartbeats 2000000 in
theorem step_plain (hB:B≤w.heap.size)(hA:LawAt B w own wb ps lv nsv knv vsv kvv hsv khv rows marks vrows vmarks hrows hmarks)(h1:rows.length≤4*g)(h2:vrows.length≤4*g)(hq3:hrows.length≤4*g)(hL:LaidA w)(e a:Int)(s:ByteArray)(Fb Lb Vb:Option Addr)(Fn Fc Ln Lc Vn Vc:Nat):
  Calls Tryz.prog 37 #[.pointer (some ⟨wb,0,none⟩),.agg #[.int .i64 1,.int .i64 e,.int .i64 a,.string s,.slice Fb Fn Fc,.slice Lb Ln Lc,.slice Vb Vn Vc]] w (Stepped B w wb ps.length g):=by
 have HA:Hid _:=hA
 have HL:Hid _:=hL
 clear hA hL
 go_enter Tryz.func37,Tryz.ntmps37
 go_wp2_with fail
 have hb0:Below w.heap.size w (w.alloc (.cells #[.int .i64 1,.int .i64 e,.int .i64 a,.string s,.slice Fb Fn Fc,.slice Lb Ln Lc,.slice Vb Vn Vc] 87)):=(Below.refl _ _).alloc (Nat.le_refl _) _
 refine(plains_one s _ (HL.out.pl.below hb0)).mono ?_
 rintro r w1 ⟨rfl,hb1⟩
 have hb2:=Below.callB hb0 (Nat.le_refl _) hb1
 have HB2:Hid _:=hb2
 clear hb0 hb1 hb2
 go_wp2_with fail
 go_ret
 exact⟨rfl,HB2.out.mono hB,ps.length,g,Nat.le_refl _,by omega,Nat.le_refl _,by omega,_,ps,lv,nsv,knv,vsv,kvv,hsv,khv,rows,marks,vrows,vmarks,hrows,hmarks,law_below HA.out HB2.out,rfl,h1,h2,hq3⟩
set_option maxHeartbeats 2000000 in
theorem step_new (hB:B≤w.heap.size)(hA:LawAt B w own wb ps lv nsv knv vsv kvv hsv khv rows marks vrows vmarks hrows hmarks)(h1:rows.length≤4*g)(h2:vrows.length≤4*g)(hq3:hrows.length≤4*g)(hpl:ps.length≤100000000)(hL:LaidA w)(e a:Int)(s:ByteArray)(fs:List Doc.Fld)(Fv:Value)(hnm:∀j (h:j<fs.length),fs[j].name.size≤140737488351232)(hfl:fs.length≤1000000000)(hF:In w Fv fs.length (fldsC fs))(Lb Vb:Option Addr)(Ln Lc Vn Vc:Nat):
  Calls Tryz.prog 37 #[.pointer (some ⟨wb,0,none⟩),.agg #[.int .i64 2,.int .i64 e,.int .i64 a,.string s,Fv,.slice Lb Ln Lc,.slice Vb Vn Vc]] w (Stepped B w wb ps.length g):=by
 obtain⟨Fb,Fc,e1⟩:=hF.sl.slice
 subst e1
 have hb0:Below w.heap.size w (w.alloc (.cells #[.int .i64 2,.int .i64 e,.int .i64 a,.string s,.slice Fb fs.length Fc,.slice Lb Ln Lc,.slice Vb Vn Vc] 87)):=(Below.refl _ _).alloc (Nat.le_refl _) _
 have hL0:=hL.pl.below hb0
 have HM:Hid _:=more_any (Nat.le_trans hB hb0.size) (law_below hA hb0) (by omega) hL0.sg hL0.g1 fs a hnm hfl _ (hF.below hb0)
 have HB0:Hid _:=hb0
 clear hA hL hb0 hL0 hF
 go_enter Tryz.func37,Tryz.ntmps37
 go_wp2_with fail
 refine Calls.mono HM.out ?_
 rintro r w1 ⟨rfl,hb1,own',ps',lv',q1,q2,_,hA'⟩
 have HB1:Hid _:=hb1
 have HA':Hid _:=hA'
 clear hb1 hA'
 go_wp2_with fail
 go_ret
 exact⟨rfl,(HB0.out.mono hB).trans HB1.out,ps'.length,g,q1,q2,Nat.le_refl _,by omega,own',ps',lv',nsv,knv,vsv,kvv,hsv,khv,rows,marks,vrows,vmarks,hrows,hmarks,HA'.out,rfl,h1,h2,hq3⟩
set_option maxHeartbeats 4000000 in
theorem step_pair (hA:LawAt B w own wb ps lv nsv knv vsv kvv hsv khv rows marks vrows vmarks hrows hmarks)(h0:0<ps.length)(hpl:ps.length≤100000000)(k e a:Int)(hk1:k≠1)(hk2:k≠2)(hk5:k≤7)(he1: -9223372036854775808≤e)(he2:e≤9223372036854775807)(s:ByteArray)(Fb Lb Vb:Option Addr)(Fn Fc Ln Lc Vn Vc:Nat)
  (R:Ending→World→Prop)
  (hput:k=3→∀i (hi:i<ps.length) W,Below w.heap.size w W→Calls Tryz.prog 56 #[.pointer (some ⟨wb,0,none⟩),.agg #[.pointer (some ⟨ps[i].xb,0,none⟩),.pointer (some ⟨ps[i].yb,0,none⟩)],.agg #[.int .i64 k,.int .i64 e,.int .i64 a,.string s,.slice Fb Fn Fc,.slice Lb Ln Lc,.slice Vb Vn Vc]] W fun e w'=>e=.returned (.bool true)∧R (.returned (.bool true)) w')
  (hget:k=5→∀i (hi:i<ps.length) W,Below w.heap.size w W→Calls Tryz.prog 58 #[.pointer (some ⟨wb,0,none⟩),.agg #[.pointer (some ⟨ps[i].xb,0,none⟩),.pointer (some ⟨ps[i].yb,0,none⟩)],.int .i64 a] W fun e w'=>e=.returned (.bool true)∧R (.returned (.bool true)) w')
  (hdrop:k=4→∀i (hi:i<ps.length),∃E:Int,∀W,Below w.heap.size w W→Calls Tryz.prog 22 #[.pointer (some ⟨ps[i].xb,0,none⟩),.int .i64 a] W fun e w1=>e=.returned (.int .i64 E)∧(∀j,w.heap.size≤j→j<W.heap.size→w1.heap[j]? =W.heap[j]?)∧W.heap.size≤w1.heap.size∧Calls Tryz.prog 57 #[.pointer (some ⟨ps[i].yb,0,none⟩),.int .i64 a] w1 fun e w2=>e=.returned (.int .i64 E)∧R (.returned (.bool true)) w2)
  (hsel:k=6→∀i (hi:i<ps.length) W,Below w.heap.size w W→Calls Tryz.prog 59 #[.pointer (some ⟨wb,0,none⟩),.agg #[.pointer (some ⟨ps[i].xb,0,none⟩),.pointer (some ⟨ps[i].yb,0,none⟩)],.string s] W fun e w'=>e=.returned (.bool true)∧R (.returned (.bool true)) w')
  (hnear:k=7→∀i (hi:i<ps.length) W,Below w.heap.size w W→Calls Tryz.prog 60 #[.pointer (some ⟨wb,0,none⟩),.agg #[.pointer (some ⟨ps[i].xb,0,none⟩),.pointer (some ⟨ps[i].yb,0,none⟩)],.agg #[.int .i64 k,.int .i64 e,.int .i64 a,.string s,.slice Fb Fn Fc,.slice Lb Ln Lc,.slice Vb Vn Vc]] W fun e w'=>e=.returned (.bool true)∧R (.returned (.bool true)) w')
  (helse:k≠3→k≠4→k≠5→k≠6→k≠7→∀W,Below w.heap.size w W→R (.returned (.bool true)) W):
  Calls Tryz.prog 37 #[.pointer (some ⟨wb,0,none⟩),.agg #[.int .i64 k,.int .i64 e,.int .i64 a,.string s,.slice Fb Fn Fc,.slice Lb Ln Lc,.slice Vb Vn Vc]] w R:=by
 obtain⟨lb,lc,e1⟩:=own_slice' hA.prs h0
 subst e1
 obtain⟨W0,HW0⟩:∃W0,Hid (W0=w.alloc (.cells #[.int .i64 k,.int .i64 e,.int .i64 a,.string s,.slice Fb Fn Fc,.slice Lb Ln Lc,.slice Vb Vn Vc] 87)):=⟨_,rfl⟩
 have hb0:Below w.heap.size w W0:=by rw[HW0.out];exact(Below.refl _ _).alloc (Nat.le_refl _) _
 have qs:W0.heap[w.heap.size]? =some (.cells #[.int .i64 k,.int .i64 e,.int .i64 a,.string s,.slice Fb Fn Fc,.slice Lb Ln Lc,.slice Vb Vn Vc] 87 (0,0)):=by rw[HW0.out];exact heap_alloc_new w _
 have hz0:W0.heap.size=w.heap.size+1:=by rw[HW0.out];simp
 have hwbl:=hA.wbc.2.1
 have hB1:w.heap.size+1≤W0.heap.size:=by omega
 have c0:W0.cell? ⟨wb,0,none⟩=some (.slice (some ⟨lb,0,none⟩) ps.length lc):=blk_cell ((hb0.block wb hwbl).trans hA.blk) 0 _ rfl
 have hlbl:=ownLt hA.prs (k:=lb) rfl
 have HPR:Hid (∀r (hr:r<ps.length),W0.cell? ⟨lb,r*2,none⟩=some (.pointer (some ⟨ps[r].xb,0,none⟩))∧W0.cell? ⟨lb,r*2+1,none⟩=some (.pointer (some ⟨ps[r].yb,0,none⟩))):=by
  intro r hr
  have h:=fun c u hc=>World.ownsRow.cells hA.prs (g:=lb) rfl (r*2+c) u hc
  have h1:=h 0 _ ((pr_at ps r hr 0 (by omega)).trans rfl)
  have h2:=h 1 _ ((pr_at ps r hr 1 (by omega)).trans rfl)
  rw[addr_add2,Nat.zero_add] at h1 h2
  exact⟨(hb0.cell (p:=⟨lb,r*2,none⟩) hlbl).trans h1,(hb0.cell (p:=⟨lb,r*2+1,none⟩) hlbl).trans h2⟩
 have HSB:Hid (∀w':World,Below (w.heap.size+1) W0 w'→Below (w.heap.size+1) W0 w'∧w'.cell? ⟨wb,0,none⟩=some (.slice (some ⟨lb,0,none⟩) ps.length lc)∧w'.cell? ⟨w.heap.size,1,none⟩=some (.int .i64 e)∧(∀r (hr:r<ps.length),w'.cell? ⟨lb,r*2,none⟩=some (.pointer (some ⟨ps[r].xb,0,none⟩)))∧(∀r (hr:r<ps.length),w'.cell? ⟨lb,r*2+1,none⟩=some (.pointer (some ⟨ps[r].yb,0,none⟩)))):=by
  intro w' h'
  have q:=(h'.block w.heap.size (by omega)).trans qs
  exact⟨h',(h'.cell (p:=⟨wb,0,none⟩) (by show wb<_;omega)).trans c0,blk_cell q 1 _ rfl,fun r hr=>(h'.cell (p:=⟨lb,r*2,none⟩) (by show lb<_;omega)).trans (HPR.out r hr).1,fun r hr=>(h'.cell (p:=⟨lb,r*2+1,none⟩) (by show lb<_;omega)).trans (HPR.out r hr).2⟩
 have hlb0:lb<W0.heap.size:=by omega
 have hk1':(k==1)=false:=by simpa using hk1
 have hk2':(k==2)=false:=by simpa using hk2
 have HB0:Hid _:=hb0
 have QS:Hid _:=qs
 have HZ0:Hid _:=hz0
 have HP:Hid _:=hput
 have HG:Hid _:=hget
 have HD:Hid _:=hdrop
 have HE:Hid _:=helse
 have HSE:Hid _:=hsel
 have HNE:Hid _:=hnear
 have kk:W0.cell? ⟨w.heap.size,0,none⟩=some (.int .i64 k):=blk_cell qs 0 _ rfl
 clear hb0 qs hz0 hput hget hdrop hsel hnear helse hA
 go_enter Tryz.func37,Tryz.ntmps37
 go_wp2_with fail
 rw[←HW0.out]
 go_cut [5] (fun v wx=>∃(g r:Nat) (hr:r<ps.length),v=.pointer (some ⟨g,0,none⟩)∧Below (w.heap.size+1) W0 wx∧wx.heap[g]? =some (.cells #[.pointer (some ⟨ps[r].xb,0,none⟩),.pointer (some ⟨ps[r].yb,0,none⟩)] 140 (0,0))∧w.heap.size+1≤g)
 case first=>
  (first|go_region_held3 (fun w'=>Below (w.heap.size+1) W0 w'∧w'.cell? ⟨wb,0,none⟩=some (.slice (some ⟨lb,0,none⟩) ps.length lc)∧w'.cell? ⟨w.heap.size,1,none⟩=some (.int .i64 e)∧(∀r (hr:r<ps.length),w'.cell? ⟨lb,r*2,none⟩=some (.pointer (some ⟨ps[r].xb,0,none⟩)))∧(∀r (hr:r<ps.length),w'.cell? ⟨lb,r*2+1,none⟩=some (.pointer (some ⟨ps[r].yb,0,none⟩)))) (first|(refine HSB.out _ ?_;repeat (first|exact Below.refl _ _|refine Below.drew ?_|refine Below.allocB ?_ hB1 _))) (first|(go_at_call 55;refine(pick_any e he1 he2 ps.length h0 (by omega)).mono ?_;rintro r w2 ⟨⟨r,hr,rfl⟩,rfl⟩;have hr0:(0:Int)≤(r:Int):=Int.natCast_nonneg r;have hr1:(r:Int)<(ps.length:Int):=Int.ofNat_lt.2 hr)))
  all_goals (go_wp2_with fail)
  all_goals go_meet
  all_goals exact⟨W0.heap.size,r,hr,rfl,(Below.allocB (Below.refl _ _) hB1 _).drew,heap_alloc_new W0 _,hB1⟩
 case rest=>
  obtain⟨g,r,hr,rfl,hbx,hg,hgg⟩:=hcut
  have hq:=(hbx.block w.heap.size (by omega)).trans QS.out
  have hbW:Below w.heap.size w wc:=HB0.out.trans (hbx.mono (by omega))
  have x0:wc.cell? ⟨w.heap.size,0,none⟩=some (.int .i64 k):=blk_cell hq 0 _ rfl
  have x1:wc.cell? ⟨w.heap.size,1,none⟩=some (.int .i64 e):=blk_cell hq 1 _ rfl
  have x2:wc.cell? ⟨w.heap.size,2,none⟩=some (.int .i64 a):=blk_cell hq 2 _ rfl
  have x3:wc.cell? ⟨w.heap.size,3,none⟩=some (.string s):=blk_cell hq 3 _ rfl
  have x4:wc.cell? ⟨w.heap.size,4,none⟩=some (.slice Fb Fn Fc):=blk_cell hq 4 _ rfl
  have x5:wc.cell? ⟨w.heap.size,5,none⟩=some (.slice Lb Ln Lc):=blk_cell hq 5 _ rfl
  have x6:wc.cell? ⟨w.heap.size,6,none⟩=some (.slice Vb Vn Vc):=blk_cell hq 6 _ rfl
  have y0:wc.cell? ⟨g,0,none⟩=some (.pointer (some ⟨ps[r].xb,0,none⟩)):=blk_cell hg 0 _ rfl
  have y1:wc.cell? ⟨g,1,none⟩=some (.pointer (some ⟨ps[r].yb,0,none⟩)):=blk_cell hg 1 _ rfl
  have HBW:Hid _:=hbW
  have HQ:Hid _:=hq
  have HGG:Hid _:=hg
  clear hbx hg hq hbW kk c0
  by_cases k3:k=3
  ·subst k3
   have HC:Hid _:=HP.out rfl r hr wc HBW.out
   clear hk1' hk2' hk1 hk2
   go_wp2_with fail
   refine Calls.mono HC.out ?_
   rintro e' w' ⟨rfl,hR⟩
   go_wp2_with fail
   exact hR
  by_cases k4:k=4
  ·subst k4
   obtain⟨E,hE⟩:=HD.out rfl r hr
   have HC:Hid _:=hE wc HBW.out
   clear hE hk1' hk2' hk1 hk2 k3
   go_wp2_with fail
   refine Calls.mono HC.out ?_
   rintro e' w1 ⟨rfl,hkp,hsz,hc⟩
   have hg1:=(hkp g (by omega) (lt_block HGG.out)).trans HGG.out
   have hq1:=(hkp w.heap.size (Nat.le_refl _) (lt_block HQ.out)).trans HQ.out
   have z1:w1.cell? ⟨g,1,none⟩=some (.pointer (some ⟨ps[r].yb,0,none⟩)):=blk_cell hg1 1 _ rfl
   have z2:w1.cell? ⟨w.heap.size,2,none⟩=some (.int .i64 a):=blk_cell hq1 2 _ rfl
   have HC2:Hid _:=hc
   clear hc hkp hg1 hq1 HC
   go_wp2_with fail
   refine Calls.mono HC2.out ?_
   rintro e' w2 ⟨rfl,hR⟩
   have HR:Hid _:=hR
   clear hR HC2
   go_wp2_with fail
   refine(num_any' E w2).mono ?_
   rintro e' w2' ⟨rfl,hw2⟩
   subst hw2
   go_wp2_with fail
   simpa using HR.out
  by_cases k5:k=5
  ·subst k5
   have HC:Hid _:=HG.out rfl r hr wc HBW.out
   clear hk1' hk2' hk1 hk2 k3 k4
   go_wp2_with fail
   refine Calls.mono HC.out ?_
   rintro e' w' ⟨rfl,hR⟩
   go_wp2_with fail
   exact hR
  by_cases k6:k=6
  ·subst k6
   have HC:Hid _:=HSE.out rfl r hr wc HBW.out
   clear hk1' hk2' hk1 hk2 k3 k4 k5
   go_wp2_with fail
   refine Calls.mono HC.out ?_
   rintro e' w' ⟨rfl,hR⟩
   go_wp2_with fail
   exact hR
  by_cases k7:k=7
  ·subst k7
   have HC:Hid _:=HNE.out rfl r hr wc HBW.out
   clear hk1' hk2' hk1 hk2 k3 k4 k5 k6
   go_wp2_with fail
   refine Calls.mono HC.out ?_
   rintro e' w' ⟨rfl,hR⟩
   go_wp2_with fail
   exact hR
  have HC:Hid _:=HE.out k3 k4 k5 k6 k7 wc HBW.out
  have b3:(k==3)=false:=by simpa using k3
  have b4:(k==4)=false:=by simpa using k4
  have b5:(k==5)=false:=by simpa using k5
  have b6:(k==6)=false:=by simpa using k6
  have b7:(k==7)=false:=by simpa using k7
  clear hk1 hk2 k3 k4 k5 k6 k7
  go_wp2_with fail
  exact HC.out
theorem step_any (hB:B≤w.heap.size)(hA:LawAt B w own wb ps lv nsv knv vsv kvv hsv khv rows marks vrows vmarks hrows hmarks)(h1:rows.length≤4*g)(h2:vrows.length≤4*g)(hq3:hrows.length≤4*g)(hg:g≤200000000)(h0:0<ps.length)(hpl:ps.length≤100000000)(hL:LaidA w)(k e a:Int)(hk5:k≤7)(he1: -9223372036854775808≤e)(he2:e≤9223372036854775807)(ha1: -9223372036854775808≤a)(ha2:a≤9223372036854775807)(s:ByteArray)
  (fs:List Doc.Fld) (Fv:Value) (hnm:∀j (h:j<fs.length),fs[j].name.size≤140737488351232) (hfl:fs.length≤1000000000) (hF:In w Fv fs.length (fldsC fs))
  (spot:List Int) (Lv:Value) (hsl:spot.length≤1000000000) (hLi:In w Lv spot.length (intC spot)) (hLf:0<spot.length→∀k,Lv.ownBlock=some k→k<w.heap.size∧(k<B∨own k=0))
  (vals:List Doc.Val) (Vv:Value) (hvl:vals.length≤1000000000) (hVi:In w Vv vals.length (valsC vals)) (hVf:0<vals.length→∀k,Vv.ownBlock=some k→k<w.heap.size∧(k<B∨own k=0)):
  Calls Tryz.prog 37 #[.pointer (some ⟨wb,0,none⟩),.agg #[.int .i64 k,.int .i64 e,.int .i64 a,.string s,Fv,Lv,Vv]] w (Stepped B w wb ps.length g):=by
 obtain⟨Fb,Fc,e1⟩:=hF.sl.slice
 obtain⟨Lb,Lc,e2⟩:=hLi.sl.slice
 obtain⟨Vb,Vc,e3⟩:=hVi.sl.slice
 subst e1 e2 e3
 by_cases k1:k=1
 ·subst k1;exact step_plain hB hA h1 h2 hq3 hL e a s Fb Lb Vb _ _ _ _ _ _
 by_cases k2:k=2
 ·subst k2;exact step_new hB hA h1 h2 hq3 hpl hL e a s fs _ hnm hfl hF Lb Vb _ _ _ _
 refine step_pair hA h0 hpl k e a k1 k2 hk5 he1 he2 s Fb Lb Vb _ _ _ _ _ _ (Stepped B w wb ps.length g) (fun hk i hi W hW=>?_) (fun hk i hi W hW=>?_) (fun hk i hi=>?_) (fun hk i hi W hW=>?_) (fun hk i hi W hW=>?_) (fun _ _ _ _ _ W hW=>?_)
 ·have hBW:B≤W.heap.size:=Nat.le_trans hB hW.size
  have free:∀{v:Value},(∀k,v.ownBlock=some k→k<w.heap.size∧(k<B∨own k=0))→∀k,v.ownBlock=some k→k<W.heap.size∧(k<B∨(fun k=>if k<w.heap.size then own k else 0) k=0):=fun {v} hf k ek=>by
   obtain⟨q1,q2⟩:=hf k ek
   refine⟨Nat.lt_of_lt_of_le q1 hW.size,?_⟩
   simpa[q1] using q2
  refine(puts_any hBW (law_below hA hW) i hi a k e s Fb _ Fc spot vals hsl hvl _ _ (hLi.below hW) (hVi.below hW) (fun h0=>free (hLf h0)) (fun h0=>free (hVf h0))).mono ?_
  rintro e' w' ⟨rfl,hb,own',ps',hpl',hA'⟩
  exact⟨rfl,rfl,(hW.mono hB).trans hb,ps.length,g,Nat.le_refl _,by omega,Nat.le_refl _,by omega,own',ps',lv,nsv,knv,vsv,kvv,hsv,khv,rows,marks,vrows,vmarks,hrows,hmarks,hA',hpl',h1,h2,hq3⟩
 ·have hBW:B≤W.heap.size:=Nat.le_trans hB hW.size
  refine(gets_any hBW (law_below hA hW) (by omega) (by omega) i hi a ha1 ha2).mono ?_
  rintro e' w' ⟨rfl,hb,own',nsv',knv',vsv',kvv',rows',marks',vrows',vmarks',hA',hr1,hr2⟩
  exact⟨rfl,rfl,(hW.mono hB).trans hb,ps.length,g+1,Nat.le_refl _,by omega,by omega,Nat.le_refl _,own',ps,lv,nsv',knv',vsv',kvv',hsv,khv,rows',marks',vrows',vmarks',hrows,hmarks,hA',rfl,by omega,by omega,by omega⟩
 ·obtain⟨s1,s2,s3⟩:=hA.sts i hi
  obtain⟨E,ts',hu,hX,hY⟩:=drop_both ps[i].fs ps[i].space a ha1 ha2 ps[i].ts s3 s1
  refine⟨E,fun W hW=>?_⟩
  have hBW:B≤W.heap.size:=Nat.le_trans hB hW.size
  have hAW:=law_below hA hW
  obtain⟨q1,q2,q3⟩:=hAW.sts i hi
  refine(hX W _ _ q1).mono ?_
  intro e' w1 h3
  have hd:=h3.2.2
  refine⟨h3.1,fun j hj1 hj2=>hd.only j hj2 (fun h=>by have:=h.2.2;simp[show ¬j<w.heap.size by omega] at this),hd.size,?_⟩
  refine(hY w1 _ _ (q2.kept' (w':=w1) (fun j h hj=>hd.only j hj (fun h'=>by have a:=h.2.2;have b:=h'.2.2;omega)) (fun j h _=>h))).mono ?_
  intro e2 w2 h4
  obtain⟨hb,own',hA'⟩:=law_both hBW hAW i hi ts' hu E (Below.refl _ _) h3 h4 (Md.refl _ _)
  exact⟨h4.1,rfl,(hW.mono hB).trans hb,ps.length,g,Nat.le_refl _,by omega,Nat.le_refl _,by omega,own',_,lv,nsv,knv,vsv,kvv,hsv,khv,rows,marks,vrows,vmarks,hrows,hmarks,hA',by simp,h1,h2,hq3⟩
 ·have hBW:B≤W.heap.size:=Nat.le_trans hB hW.size
  refine(selects_any hBW (law_below hA hW) (hL.below hW) (by omega) i hi s).mono ?_
  rintro e' w' ⟨rfl,hb,own',a',b',rows',marks',hA',hr1⟩
  exact⟨rfl,rfl,(hW.mono hB).trans hb,ps.length,g+1,Nat.le_refl _,by omega,by omega,Nat.le_refl _,own',ps,lv,a',b',vsv,kvv,hsv,khv,rows',marks',vrows,vmarks,hrows,hmarks,hA',rfl,by omega,by omega,by omega⟩
 ·have hBW:B≤W.heap.size:=Nat.le_trans hB hW.size
  refine(nearest_any hBW (law_below hA hW) (hL.below hW) (by omega) i hi k e s Fb Vb _ _ _ _ spot hsl _ (hLi.below hW) (fun h0 k ek=>Nat.lt_of_lt_of_le (hLf h0 k ek).1 hW.size) a (by omega)).mono ?_
  rintro e' w' ⟨rfl,hb,own',a',b',rows',marks',hA',hr1⟩
  exact⟨rfl,rfl,(hW.mono hB).trans hb,ps.length,g+1,Nat.le_refl _,by omega,by omega,Nat.le_refl _,own',ps,lv,nsv,knv,vsv,kvv,a',b',rows,marks,vrows,vmarks,rows',marks',hA',rfl,by omega,by omega,by omega⟩
 ·exact⟨rfl,hW.mono hB,ps.length,g,Nat.le_refl _,by omega,Nat.le_refl _,by omega,_,ps,lv,nsv,knv,vsv,kvv,hsv,khv,rows,marks,vrows,vmarks,hrows,hmarks,law_below hA hW,rfl,h1,h2,hq3⟩
end
end Go.Proofs.YtbnelaoeblhndaaGreatDoor
