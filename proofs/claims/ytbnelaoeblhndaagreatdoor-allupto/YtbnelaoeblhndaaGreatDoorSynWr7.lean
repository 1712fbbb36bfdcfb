import Derived.Test.YtbnelaoeblhndaaGreatDoorSynWr4
namespace Go.Proofs.YtbnelaoeblhndaaGreatDoor
open Go.RowKit
set_option maxRecDepth 100000
def TreeC (a:Doc.Ast):Prop:=∀{B:Nat} {w:World} {wb:Nat} {q:Option Addr} {v:Value} {l:List UInt8} {tight:Bool} {cs:List Value},
 WSt B w wb q v l tight→RepT w (fun k=>k<B) 0 cs a→l.length+(Doc.plain a).length+10≤800000→Tens w→3<B→
 Calls Tryz.prog 50 #[.pointer (some ⟨wb,0,none⟩),.agg cs.toArray] w (Wrote B wb w l (sepB tight++Doc.plain a))
theorem RepT.wm {B wb:Nat}{w w':World}{k:Nat}{cs:List Value}{a:Doc.Ast}(h:RepT w (fun k=>k<B) k cs a)(hb:WM B wb w w'):RepT w' (fun k=>k<B) k cs a:=
 h.kept (fun k _ hF ho=>(hb.below.block k hF).trans ho) (fun _ hF _=>hF)
section
variable {B:Nat}{w:World}{wb:Nat}{q:Option Addr}{v:Value}{l:List UInt8}{tight:Bool}
set_option maxHeartbeats 1000000 in
theorem wpart_plain {a:Doc.Ast}(ih:TreeC a)(kd:Int)(hk:kd≤kindOf a)(h:WSt B w wb q v l tight){cs:List Value}(hr:RepT w (fun k=>k<B) 0 cs a)(hl:l.length+(Doc.plain a).length+10≤800000)(hT:Tens w)(hG:3<B):
  Calls Tryz.prog 80 #[.pointer (some ⟨wb,0,none⟩),.int .i64 kd,.agg cs.toArray] w (Wrote B wb w l (sepB tight++Doc.plain a)):=by
 obtain⟨b1,n1,m1,s1,s2,na1,na2,b2,n2,m2,rfl⟩:=(hr.five rfl).has
 have HI:Hid (TreeC a):=ih
 have HR:Hid _:=hr
 have HT:Hid (Tens w):=hT
 obtain⟨x,hx⟩:∃x:Int,x=kindOf a:=⟨_,rfl⟩
 rw[←hx] at hk
 have hb0:=h.Ble
 have HX:Hid (x=kindOf a):=hx
 clear ih hr hT hx
 show Calls Tryz.prog 80 #[.pointer (some ⟨wb,0,none⟩),.int .i64 kd,.agg #[.int .i64 (kindOf a),.slice b1 n1 m1,.string s1,.int .i64 na1,.string s2,.int .i64 na2,.slice b2 n2 m2]] w _
 rw[←HX.out]
 go_enter Tryz.func80,Tryz.ntmps80
 go_wp2_with fail
 refine Calls.mono (HI.out (cs:=[.int .i64 x,.slice b1 n1 m1,.string s1,.int .i64 na1,.string s2,.int .i64 na2,.slice b2 n2 m2]) (h.alloc _) (by rw[HX.out];exact HR.out.wm ((WM.refl B wb w).alloc hb0 _)) hl (HT.out.below ((Below.refl _ _).alloc hb0 _) hG) hG) ?_
 rintro e w1 ⟨rfl,⟨q1,v1,h1⟩,c1⟩
 go_wp2_with fail
 first
  |go_end0
  |refine bodyPost_ret (results_none rfl _ _ _) rfl ?_
 exact⟨rfl,⟨q1,v1,h1⟩,((WM.refl B wb w).alloc hb0 _).trans c1⟩
set_option maxHeartbeats 1000000 in
theorem wpart_round {a:Doc.Ast}(ih:TreeC a)(kd:Int)(hk:kindOf a<kd)(h:WSt B w wb q v l tight){cs:List Value}(hr:RepT w (fun k=>k<B) 0 cs a)(hl:l.length+(40::(Doc.plain a++[41])).length+10≤800000)(hT:Tens w)(hG:3<B):
  Calls Tryz.prog 80 #[.pointer (some ⟨wb,0,none⟩),.int .i64 kd,.agg cs.toArray] w (Wrote B wb w l (sepB tight++(40::(Doc.plain a++[41])))):=by
 obtain⟨b1,n1,m1,s1,s2,na1,na2,b2,n2,m2,rfl⟩:=(hr.five rfl).has
 have HI:Hid (TreeC a):=ih
 have HR:Hid _:=hr
 have HT:Hid (Tens w):=hT
 obtain⟨x,hx⟩:∃x:Int,x=kindOf a:=⟨_,rfl⟩
 rw[←hx] at hk
 have hb0:=h.Ble
 have hlt:=h.lt
 have HX:Hid (x=kindOf a):=hx
 simp only[List.length_append,List.length_cons,List.length_nil] at hl
 have hsl:(sepB tight).length≤1:=by cases tight<;>simp[sepB]
 have hst:(sepB true).length=0:=rfl
 clear ih hr hT hx
 show Calls Tryz.prog 80 #[.pointer (some ⟨wb,0,none⟩),.int .i64 kd,.agg #[.int .i64 (kindOf a),.slice b1 n1 m1,.string s1,.int .i64 na1,.string s2,.int .i64 na2,.slice b2 n2 m2]] w _
 rw[←HX.out]
 go_enter Tryz.func80,Tryz.ntmps80
 go_wp2_with fail
 refine(token_open (h.alloc _) (by omega)).mono ?_
 rintro e w1 ⟨rfl,q1,v1,h1,c1⟩
 have b1':=c1.blk (heap_alloc_new w _) (by decide) (by omega)
 obtain⟨d0,d1,d2,d3,d4,d5,d6⟩:=fv_cells b1'
 have kk:WM B wb w w1:=((WM.refl B wb w).alloc hb0 _).trans c1
 go_wp2_with fail
 refine Calls.mono (HI.out (cs:=[.int .i64 x,.slice b1 n1 m1,.string s1,.int .i64 na1,.string s2,.int .i64 na2,.slice b2 n2 m2]) h1 (by rw[HX.out];exact HR.out.wm kk) (by simp only[List.length_append,List.length_cons,List.length_nil];omega) (HT.out.below kk.below hG) hG) ?_
 rintro e w2 ⟨rfl,⟨q2,v2,h2⟩,c2⟩
 go_wp2_with fail
 refine(token_tail h2 (by simp only[List.length_append,List.length_cons,List.length_nil];omega) 41 (.inl rfl)).mono ?_
 rintro e w3 ⟨rfl,⟨q3,v3,h3⟩,c3⟩
 go_wp2_with fail
 first
  |go_end0
  |refine bodyPost_ret (results_none rfl _ _ _) rfl ?_
 exact⟨rfl,⟨q3,v3,by simpa[sepB] using h3⟩,(kk.trans c2).trans c3⟩
def PartW (kd:Int)(m:Doc.Ast→List UInt8)(a:Doc.Ast):Prop:=∀{B:Nat} {w:World} {wb:Nat} {q:Option Addr} {v:Value} {l:List UInt8} {tight:Bool} {cs:List Value},
 WSt B w wb q v l tight→RepT w (fun k=>k<B) 0 cs a→l.length+(m a).length+10≤800000→Tens w→3<B→
 Calls Tryz.prog 80 #[.pointer (some ⟨wb,0,none⟩),.int .i64 kd,.agg cs.toArray] w (Wrote B wb w l (sepB tight++m a))
theorem partW_or {a:Doc.Ast}(ih:TreeC a):PartW 0 Doc.plain a:=by
 intro B w wb q v l tight cs h hr hl hT hG
 exact wpart_plain @ih 0 (by cases a<;>simp[kindOf]) h hr hl hT hG
theorem partW_and {a:Doc.Ast}(ih:TreeC a):PartW 1 Doc.mAll a:=by
 intro B w wb q v l tight cs h hr hl hT hG
 cases ho:Doc.isOr a with
 |true=>
  have e:Doc.mAll a=40::(Doc.plain a++[41]):=by unfold Doc.mAll Doc.round;rw[ho];rfl
  rw[e] at hl ⊢
  exact wpart_round @ih 1 (by cases a<;>simp[kindOf,Doc.isOr] at ho ⊢) h hr hl hT hG
 |false=>
  have e:Doc.mAll a=Doc.plain a:=by unfold Doc.mAll Doc.round;rw[ho];rfl
  rw[e] at hl ⊢
  exact wpart_plain @ih 1 (by cases a<;>simp[kindOf,Doc.isOr] at ho ⊢) h hr hl hT hG
theorem partW_not {a:Doc.Ast}(ih:TreeC a):PartW 2 Doc.mPart a:=by
 intro B w wb q v l tight cs h hr hl hT hG
 cases ho:(Doc.isAnd a || Doc.isOr a) with
 |true=>
  have e:Doc.mPart a=40::(Doc.plain a++[41]):=by unfold Doc.mPart Doc.round;rw[ho];rfl
  rw[e] at hl ⊢
  exact wpart_round @ih 2 (by cases a<;>simp[kindOf,Doc.isOr,Doc.isAnd] at ho ⊢) h hr hl hT hG
 |false=>
  have e:Doc.mPart a=Doc.plain a:=by unfold Doc.mPart Doc.round;rw[ho];rfl
  rw[e] at hl ⊢
  exact wpart_plain @ih 2 (by cases a<;>simp[kindOf,Doc.isOr,Doc.isAnd] at ho ⊢) h hr hl hT hG
end
theorem side_cells {w:World}{gs:List (List Value×Doc.Ast)}{pg n cap m:Nat}(h:w.ownsRow m 69 7 (.slice (some ⟨pg,0,none⟩) n cap) gs.length (gs.flatMap (·.1)))(h5:∀g∈gs,g.1.length=7)(j:Nat)(hj:j<gs.length){c0 c1 c2 c3 c4 c5 c6:Value}(hg:gs[j].1=[c0,c1,c2,c3,c4,c5,c6]):
  w.cell? ⟨pg,j*7,none⟩=some c0∧w.cell? ⟨pg,j*7+1,none⟩=some c1∧w.cell? ⟨pg,j*7+2,none⟩=some c2∧w.cell? ⟨pg,j*7+3,none⟩=some c3∧w.cell? ⟨pg,j*7+4,none⟩=some c4∧w.cell? ⟨pg,j*7+5,none⟩=some c5∧w.cell? ⟨pg,j*7+6,none⟩=some c6:=by
 have key:∀(ls:List (List Value×Doc.Ast)) (_:∀g∈ls,g.1.length=7) (j:Nat) (hj:j<ls.length) (c:Nat),c<7→(ls.flatMap (·.1))[j*7+c]? =(ls[j].1)[c]? :=by
  intro ls
  induction ls with
  |nil=>intro _ j hj;simp at hj
  |cons a r ih=>
   intro h5 j hj c hc
   have ha:=h5 a (by simp)
   rw[List.flatMap_cons]
   cases j with
   |zero=>rw[List.getElem?_append_left (by omega)];simp
   |succ j=>
    rw[List.getElem?_append_right (by omega)]
    rw[show(j+1)*7+c-a.1.length=j*7+c by omega]
    exact ih (fun g hg=>h5 g (by simp[hg])) j (by simpa using hj) c hc
 have hc:=h.cells (g:=pg) rfl
 have one:∀c v,c<7→(gs[j].1)[c]? =some v→w.cell? ⟨pg,j*7+c,none⟩=some v:=by
  intro c v hc5 hv
  have:=hc (j*7+c) v (by rw[key gs h5 j hj c hc5];exact hv)
  rw[addr_add] at this;exact this
 exact⟨one 0 c0 (by omega) (by rw[hg];rfl),one 1 c1 (by omega) (by rw[hg];rfl),one 2 c2 (by omega) (by rw[hg];rfl),one 3 c3 (by omega) (by rw[hg];rfl),one 4 c4 (by omega) (by rw[hg];rfl),one 5 c5 (by omega) (by rw[hg];rfl),one 6 c6 (by omega) (by rw[hg];rfl)⟩
def preT (tight:Bool)(T:List UInt8):Nat→List UInt8|0=>[]|_+1=>sepB tight++T
def preZ (tight:Bool):Nat→Bool|0=>tight|_+1=>false
section
variable {B:Nat}{w:World}{wb:Nat}{q:Option Addr}{v:Value}{l:List UInt8}{tight:Bool}
set_option maxHeartbeats 4000000 in
theorem wchain_any (kd:Int)(wd:List UInt8)(hwd:Doc.Wide ⟨wd.toArray⟩)(m:Doc.Ast→List UInt8){gs:List (List Value×Doc.Ast)}(hne:gs≠[])(HP:∀g∈gs,PartW kd m g.2)
  {pg cap:Nat} (ho:w.ownsRow 0 69 7 (.slice (some ⟨pg,0,none⟩) gs.length cap) gs.length (gs.flatMap (·.1))) (hg:pg<B) (h:WSt B w wb q v l tight) (hr:∀g∈gs,RepT w (fun k=>k<B) 0 g.1 g.2)
  (hl:l.length+(Doc.jn m wd (gs.map (·.2))).length+10≤800000) (hT:Tens w) (hG:3<B):
  Calls Tryz.prog 78 #[.pointer (some ⟨wb,0,none⟩),.string ⟨wd.toArray⟩,.agg #[.int .i64 kd,.slice (some ⟨pg,0,none⟩) gs.length cap,.string ⟨#[]⟩,.int .i64 0,.string ⟨#[]⟩,.int .i64 0,.slice none 0 0]] w (Wrote B wb w l (sepB tight++Doc.jn m wd (gs.map (·.2)))):=by
 have HT:Hid (Tens w):=hT
 have HR:Hid (∀g∈gs,RepT w (fun k=>k<B) 0 g.1 g.2):=hr
 have HPP:Hid (∀g∈gs,PartW kd m g.2):=HP
 have HO:Hid (w.ownsRow 0 69 7 (.slice (some ⟨pg,0,none⟩) gs.length cap) gs.length (gs.flatMap (·.1))):=ho
 have H5:Hid (∀g∈gs,g.1.length=7):=fun g hg=>((hr g hg).five rfl).one.2
 have hcap:gs.length≤cap∧cap≤maxLen:=by
  obtain⟨_,h2⟩:=ho
  rcases h2 with⟨e,_⟩|⟨g',cap',cur,e,_,_,hc,hm,_⟩
  ·cases e
  ·cases e;exact⟨hc,hm⟩
 have hcap1:=hcap.1
 have hcap2:=hcap.2
 unfold maxLen at hcap2
 have hlt:=h.lt
 have hb0:=h.Ble
 have hsl:(sepB tight).length≤1:=by cases tight<;>simp[sepB]
 have hsf:(sepB false).length=1:=rfl
 obtain⟨W,HW⟩:∃W:ByteArray,Hid (W=⟨wd.toArray⟩):=⟨⟨wd.toArray⟩,rfl⟩
 rw[←HW.out] at hwd ⊢
 have HWd:Hid (W.data.toList=wd):=by show _=_;rw[HW.out]
 clear hT hr HP ho hcap
 go_enter Tryz.func78,Tryz.ntmps78
 go_wp2_with fail
 go_loopw [11] (fun iv wx=>∃k:Nat,k≤gs.length∧iv=.int .i64 k∧(∃q' v',WSt B wx wb q' v' (l++preT tight (Doc.jn m wd ((gs.map (·.2)).take k)) k) (preZ tight k))∧WM B wb (w.alloc (.cells #[.int .i64 kd,.slice (some ⟨pg,0,none⟩) gs.length cap,.string ⟨#[]⟩,.int .i64 0,.string ⟨#[]⟩,.int .i64 0,.slice none 0 0] 69)) wx) (fun iv _=>gs.length-(intOf iv).toNat)
 case atStart=>exact⟨0,Nat.zero_le _,rfl,⟨q,v,by simpa[preT,preZ] using h.alloc _⟩,WM.refl _ _ _⟩
 case round=>
  obtain⟨k,hk,rfl,⟨qx,vx,hx⟩,kx⟩:=hrel
  have kw:WM B wb w wr:=((WM.refl B wb w).alloc hb0 _).trans kx
  have hbox:=kx.blk (heap_alloc_new w _) (by decide) (by omega)
  obtain⟨t0,t1,t2,t3,t4,t5,t6⟩:=fv_cells hbox
  have hboxl:=lt_block hbox
  have hwbx:=hx.lt
  have hbx:=hx.Ble
  have hlen:=Doc.jn_take m wd (gs.map (·.2)) k
  by_cases hk2:k<gs.length
  ·have hmem:=List.getElem_mem hk2
   have hrep:=(HR.out gs[k] hmem).wm kw
   obtain⟨b1,n1,m1,s1,s2,na1,na2,b2,n2,m2,hcs⟩:=(hrep.five rfl).has
   obtain⟨x,HX⟩:∃x:Int,Hid (x=kindOf gs[k].2):=⟨kindOf gs[k].2,rfl⟩
   rw[←HX.out] at hcs
   have hO':=own_kept HO.out (fun k o hk hb=>(kw.below.block k (by cases hk;exact hg)).trans hb)
   obtain⟨r0,r1,r2,r3,r4,r5,r6⟩:=side_cells hO' H5.out k hk2 hcs
   have HRep:Hid (RepT wr (fun k=>k<B) 0 [.int .i64 x,.slice b1 n1 m1,.string s1,.int .i64 na1,.string s2,.int .i64 na2,.slice b2 n2 m2] gs[k].2):=by show RepT _ _ _ _ _;rw[←hcs];exact hrep
   have HPk:Hid (PartW kd m gs[k].2):=HPP.out gs[k] hmem
   have hpgx:pg<wr.heap.size:=by omega
   have hlen1:=Doc.jn_take m wd (gs.map (·.2)) (k+1)
   obtain⟨A,HA⟩:∃A,Hid (A=gs[k].2):=⟨gs[k].2,rfl⟩
   have HTk:Hid ((gs.map (·.2)).take (k+1)=(gs.map (·.2)).take k++[A]):=by
    show _=_
    rw[HA.out,List.take_add_one]
    simp[hk2]
   clear hrep hcs hmem hO'
   rw[←HA.out] at HRep HPk
   rcases Nat.eq_zero_or_pos k with h0|h0
   ·subst h0
    have e1:Doc.jn m wd ((gs.map (·.2)).take (0+1))=m A:=by rw[HTk.out];simp[Doc.jn]
    have hmA:(m A).length≤(Doc.jn m wd (gs.map (·.2))).length:=by rw[e1] at hlen1;exact hlen1
    have E1:Hid (Doc.jn m wd ((gs.map (·.2)).take (0+1))=m A):=e1
    clear e1 hlen1 hlen
    simp only[preT,preZ,List.append_nil] at hx
    go_wp2_with fail
    refine Calls.mono (HPk.out (cs:=[.int .i64 x,.slice b1 n1 m1,.string s1,.int .i64 na1,.string s2,.int .i64 na2,.slice b2 n2 m2]) (hx.alloc _) (HRep.out.wm ((WM.refl B wb wr).alloc hbx _)) (by omega) (HT.out.below (kw.below.trans ((Below.refl _ _).alloc hbx _)) hG) hG) ?_
    rintro e w2 ⟨rfl,⟨q2,v2,h2⟩,c2⟩
    go_wp2_with fail
    go_roundw
    case rel=>
     refine⟨0+1,by omega,by go_num,⟨q2,v2,?_⟩,(kx.alloc hbx _).trans c2⟩
     show WSt B w2 wb q2 v2 (l++(sepB tight++Doc.jn m wd ((gs.map (·.2)).take (0+1)))) false
     rw[E1.out]
     exact h2
    case measure=>simp[intOf];omega
   ·obtain⟨k',rfl⟩:∃k',k=k'+1:=⟨k-1,by omega⟩
    have hnil:(gs.map (·.2)).take (k'+1)≠[]:=by
     intro e
     have:=congrArg List.length e
     rw[List.length_take,List.length_map,List.length_nil] at this
     omega
    have e1:Doc.jn m wd ((gs.map (·.2)).take (k'+1+1))=Doc.jn m wd ((gs.map (·.2)).take (k'+1))++[32]++wd++[32]++m A:=by rw[HTk.out,Doc.jn_snoc _ _ hnil]
    have hmA:(Doc.jn m wd ((gs.map (·.2)).take (k'+1))).length+2+wd.length+(m A).length≤(Doc.jn m wd (gs.map (·.2))).length:=by
     rw[e1] at hlen1
     simp only[List.length_append,List.length_cons,List.length_nil] at hlen1
     omega
    have E1:Hid (Doc.jn m wd ((gs.map (·.2)).take (k'+1+1))=Doc.jn m wd ((gs.map (·.2)).take (k'+1))++[32]++wd++[32]++m A):=e1
    clear e1 hlen1 hlen hnil
    have hx:WSt B wr wb qx vx (l++(sepB tight++Doc.jn m wd ((gs.map (·.2)).take (k'+1)))) false:=hx
    have hWl:W.data.toList.length=wd.length:=by rw[HWd.out]
    go_wp2_with fail
    refine(token_wide (hx.alloc _) (by simp only[List.length_append];omega) W hwd).mono ?_
    rintro e w2 ⟨rfl,⟨q2,v2,h2⟩,c2⟩
    have b2':=c2.blk (heap_alloc_new wr _) (by decide) (by omega)
    obtain⟨d0,d1,d2,d3,d4,d5,d6⟩:=fv_cells b2'
    have b3':=(((WM.refl B wb wr).alloc hbx _).trans c2).blk hbox (by decide) (by omega)
    obtain⟨f0,f1,f2,f3,f4,f5,f6⟩:=fv_cells b3'
    have kk:WM B wb wr w2:=((WM.refl B wb wr).alloc hbx _).trans c2
    go_wp2_with fail
    refine Calls.mono (HPk.out (cs:=[.int .i64 x,.slice b1 n1 m1,.string s1,.int .i64 na1,.string s2,.int .i64 na2,.slice b2 n2 m2]) h2 (HRep.out.wm kk) (by simp only[List.length_append];omega) (HT.out.below (kw.below.trans kk.below) hG) hG) ?_
    rintro e w3 ⟨rfl,⟨q3,v3,h3⟩,c3⟩
    go_wp2_with fail
    go_roundw
    case rel=>
     refine⟨k'+1+1,by omega,by go_num,⟨q3,v3,?_⟩,(kx.trans kk).trans c3⟩
     show WSt B w3 wb q3 v3 (l++(sepB tight++Doc.jn m wd ((gs.map (·.2)).take (k'+1+1)))) false
     rw[E1.out]
     rw[HWd.out] at h3
     simpa[sepB] using h3
    case measure=>simp[intOf];omega
  ·obtain rfl:k=gs.length:=by omega
   go_wp2_with fail
   go_end0
   refine⟨rfl,⟨qx,vx,?_⟩,kw⟩
   obtain⟨n',hn'⟩:∃n',gs.length=n'+1:=⟨gs.length-1,by have:gs.length≠0:=fun e=>hne (List.eq_nil_of_length_eq_zero e);omega⟩
   rw[hn'] at hx
   have hx:WSt B wr wb qx vx (l++(sepB tight++Doc.jn m wd ((gs.map (·.2)).take (n'+1)))) false:=hx
   rw[List.take_of_length_le (by rw[List.length_map];omega)] at hx
   exact hx
end
theorem own_len {w:World}{m e size n:Nat}{v:Value}{xs:List Value}(h:w.ownsRow m e size v n xs):xs.length=n*size:=h.1
theorem own_slice_side {w:World}{m e size n:Nat}{v:Value}{xs:List Value}(h:w.ownsRow m e size v n xs)(hn:n≠0):∃g cap,v=.slice (some ⟨g,0,none⟩) n cap:=by
 obtain⟨_,h2⟩:=h
 rcases h2 with⟨_,hz⟩|⟨g,cap,cur,hv,_⟩
 ·exact absurd hz hn
 ·exact⟨g,cap,hv⟩
theorem Side.len {w:World}{F:Nat→Prop}{m:Doc.Ast→List UInt8}{wd:List UInt8}{cs:List Value}{a:Doc.Ast}{text:List UInt8}{gs:List (List Value×Doc.Ast)}(h:Side w F m wd cs a text gs):cs.length=gs.length*7:=by
 rw[h.cells]
 have:∀ls:List (List Value×Doc.Ast),(∀g∈ls,g.1.length=7)→(ls.flatMap (·.1)).length=ls.length*7:=by
  intro ls
  induction ls with
  |nil=>intro _;rfl
  |cons a r ih=>
   intro h5
   rw[List.flatMap_cons,List.length_append,ih (fun g hg=>h5 g (by simp[hg])),h5 a (by simp),List.length_cons]
   omega
 exact this gs (fun g hg=>((h.each g hg).1.five rfl).one.2)
theorem side_and {w:World}{F:Nat→Prop}{l cs:List Value}{a b:Doc.Ast}(h1:RepT w F 1 l a)(h2:RepT w F 0 cs b):∃gs,Side w F Doc.mAll Doc.wAnd (l++cs) (.and a b) (Doc.mAll (.and a b)) gs∧∀g∈gs,SizeOf.sizeOf g.2<SizeOf.sizeOf (Doc.Ast.and a b):=by
 obtain⟨gs,hg⟩:=h1.side.1 rfl
 refine⟨gs++[(cs,b)],⟨?_,by simp,?_,?_⟩,?_⟩
 ·rw[hg.cells];simp
 ·intro g hm
  rcases List.mem_append.1 hm with hm|hm
  ·obtain⟨e1,e2,e3⟩:=hg.each g hm
   exact⟨e1,by simp only[Doc.Ast.and.sizeOf_spec];omega,fun Q h=>e3 Q h.1⟩
  ·obtain rfl:=List.mem_singleton.1 hm
   exact⟨h2,by simp only[Doc.Ast.and.sizeOf_spec];omega,fun Q h=>h.2⟩
 ·rw[List.map_append,List.map_singleton,Doc.jn_snoc _ _ (by simpa using hg.ne),hg.text]
  rfl
 ·intro g hm
  rcases List.mem_append.1 hm with hm|hm
  ·obtain⟨_,e2,_⟩:=hg.each g hm
   simp only[Doc.Ast.and.sizeOf_spec];omega
  ·obtain rfl:=List.mem_singleton.1 hm
   simp only[Doc.Ast.and.sizeOf_spec];omega
theorem side_or {w:World}{F:Nat→Prop}{l cs:List Value}{a b:Doc.Ast}(h1:RepT w F 2 l a)(h2:RepT w F 0 cs b):∃gs,Side w F Doc.plain Doc.wOr (l++cs) (.or a b) (Doc.plain (.or a b)) gs∧∀g∈gs,SizeOf.sizeOf g.2<SizeOf.sizeOf (Doc.Ast.or a b):=by
 obtain⟨gs,hg⟩:=h1.side.2 rfl
 refine⟨gs++[(cs,b)],⟨?_,by simp,?_,?_⟩,?_⟩
 ·rw[hg.cells];simp
 ·intro g hm
  rcases List.mem_append.1 hm with hm|hm
  ·obtain⟨e1,e2,e3⟩:=hg.each g hm
   exact⟨e1,by simp only[Doc.Ast.or.sizeOf_spec];omega,fun Q h=>e3 Q h.1⟩
  ·obtain rfl:=List.mem_singleton.1 hm
   exact⟨h2,by simp only[Doc.Ast.or.sizeOf_spec];omega,fun Q h=>h.2⟩
 ·rw[List.map_append,List.map_singleton,Doc.jn_snoc _ _ (by simpa using hg.ne),hg.text]
  rfl
 ·intro g hm
  rcases List.mem_append.1 hm with hm|hm
  ·obtain⟨_,e2,_⟩:=hg.each g hm
   simp only[Doc.Ast.or.sizeOf_spec];omega
  ·obtain rfl:=List.mem_singleton.1 hm
   simp only[Doc.Ast.or.sizeOf_spec];omega
section
variable {B:Nat}{w:World}{wb:Nat}{q:Option Addr}{v:Value}{l:List UInt8}{tight:Bool}
set_option maxHeartbeats 1000000 in
theorem wtree_test (h:WSt B w wb q v l tight){n o:Doc.Tok}{lits:List Doc.Tok}(hq:Doc.TestOk n o lits)(hl:l.length+(Doc.plain (.test n o lits)).length+10≤800000)(hT:Tens w)(hG:3<B)
  {lv:Value} (ho:w.ownsRow 0 230 4 lv lits.length (litsC lits)) (hg:∀k,lv.ownBlock=some k→k<B):
  Calls Tryz.prog 50 #[.pointer (some ⟨wb,0,none⟩),.agg #[.int .i64 3,.slice none 0 0,.string n.S,.int .i64 n.at_,.string o.S,.int .i64 o.at_,lv]] w (Wrote B wb w l (sepB tight++Doc.plain (.test n o lits))):=by
 have hb0:=h.Ble
 have HC:Hid (∀w',WSt B w' wb q v l tight→WM B wb w w'→Calls Tryz.prog 81 #[.pointer (some ⟨wb,0,none⟩),.agg #[.int .i64 3,.slice none 0 0,.string n.S,.int .i64 n.at_,.string o.S,.int .i64 o.at_,lv]] w' (Wrote B wb w' l (sepB tight++Doc.plain (.test n o lits)))):=
  fun w' h' k'=>wtest_any h' hq hl (hT.below k'.below hG) hG (own_kept ho (fun k x hk hb=>(k'.below.block k (hg k hk)).trans hb)) hg
 obtain⟨lb,lk,lc,rfl⟩:=own_sl ho
 clear hT ho hg hq hl
 go_enter Tryz.func50,Tryz.ntmps50
 go_wp2_with fail
 refine Calls.mono (HC.out _ (h.alloc _) ((WM.refl B wb w).alloc hb0 _)) ?_
 rintro e w1 ⟨rfl,⟨q1,v1,h1⟩,c1⟩
 go_wp2_with fail
 go_end0
 exact⟨rfl,⟨q1,v1,h1⟩,((WM.refl B wb w).alloc hb0 _).trans c1⟩
set_option maxHeartbeats 1000000 in
theorem wtree_chain (kd:Int)(wd:List UInt8)(hkd:(kd=0∧wd=[111,114])∨(kd=1∧wd=[97,110,100]))(T:List UInt8){vp:Value}(h:WSt B w wb q v l tight)(hv:∃b k c,vp=.slice b k c)
  (HC:∀w',WSt B w' wb q v l tight→WM B wb w w'→Calls Tryz.prog 78 #[.pointer (some ⟨wb,0,none⟩),.string ⟨wd.toArray⟩,.agg #[.int .i64 kd,vp,.string ⟨#[]⟩,.int .i64 0,.string ⟨#[]⟩,.int .i64 0,.slice none 0 0]] w' (Wrote B wb w' l T)):
  Calls Tryz.prog 50 #[.pointer (some ⟨wb,0,none⟩),.agg #[.int .i64 kd,vp,.string ⟨#[]⟩,.int .i64 0,.string ⟨#[]⟩,.int .i64 0,.slice none 0 0]] w (Wrote B wb w l T):=by
 have hb0:=h.Ble
 obtain⟨lb,lk,lc,rfl⟩:=hv
 rcases hkd with⟨rfl,rfl⟩|⟨rfl,rfl⟩
 all_goals
  have HC':Hid _:=HC
  clear HC
  go_enter Tryz.func50,Tryz.ntmps50
  go_wp2_with fail
  refine Calls.mono (HC'.out _ (h.alloc _) ((WM.refl B wb w).alloc hb0 _)) ?_
  rintro e w1 ⟨rfl,⟨q1,v1,h1⟩,c1⟩
  go_wp2_with fail
  go_end0
  exact⟨rfl,⟨q1,v1,h1⟩,((WM.refl B wb w).alloc hb0 _).trans c1⟩
set_option maxHeartbeats 1000000 in
theorem wtree_not {a:Doc.Ast}(ih:TreeC a)(h:WSt B w wb q v l tight){cs:List Value}{vp:Value}(hr:RepT w (fun k=>k<B) 0 cs a)(ho:w.ownsRow 0 69 7 vp 1 cs)(hg:∀k,vp.ownBlock=some k→k<B)
  (hl:l.length+(Doc.plain (.not a)).length+10≤800000) (hT:Tens w) (hG:3<B):
  Calls Tryz.prog 50 #[.pointer (some ⟨wb,0,none⟩),.agg #[.int .i64 2,vp,.string ⟨#[]⟩,.int .i64 0,.string ⟨#[]⟩,.int .i64 0,.slice none 0 0]] w (Wrote B wb w l (sepB tight++Doc.plain (.not a))):=by
 have hb0:=h.Ble
 have hlt:=h.lt
 obtain⟨pg,cap,rfl⟩:=own_slice_side ho (by decide)
 have hgB:=hg pg rfl
 have hcap:1≤cap:=by
  obtain⟨_,h2⟩:=ho
  rcases h2 with⟨e,_⟩|⟨g',cap',cur,e,_,_,hc,_⟩
  ·cases e
  ·cases e;exact hc
 have HO:Hid (w.ownsRow 0 69 7 (.slice (some ⟨pg,0,none⟩) 1 cap) [(cs,a)].length ([(cs,a)].flatMap (·.1))):=by
  show World.ownsRow _ _ _ _ _ _ _
  simpa using ho
 have H5:Hid (∀g∈[(cs,a)],g.1.length=7):=by
  intro g hg;obtain rfl:=List.mem_singleton.1 hg;exact(hr.five rfl).one.2
 have HPW:Hid (PartW 2 Doc.mPart a):=partW_not @ih
 have HR:Hid (RepT w (fun k=>k<B) 0 cs a):=hr
 have HT:Hid (Tens w):=hT
 have e1:Doc.plain (.not a)=Doc.wNot++[32]++Doc.mPart a:=rfl
 rw[e1] at hl
 simp only[List.length_append,List.length_cons,List.length_nil,Doc.wNot] at hl
 have hsl:(sepB tight).length≤1:=by cases tight<;>simp[sepB]
 clear ih hr ho hg hT e1
 go_enter Tryz.func50,Tryz.ntmps50
 go_wp2_with fail
 refine(token_wide (h.alloc _) (by omega) ⟨#[110,111,116]⟩ (wide_list (l:=[110,111,116]) rfl (by decide) (by decide) (by decide) (by decide))).mono ?_
 rintro e w1 ⟨rfl,⟨q1,v1,h1⟩,c1⟩
 have b1':=c1.blk (heap_alloc_new w _) (by decide) (by omega)
 obtain⟨d0,d1,d2,d3,d4,d5,d6⟩:=fv_cells b1'
 have kk:WM B wb w w1:=((WM.refl B wb w).alloc hb0 _).trans c1
 have hrep:=HR.out.wm kk
 obtain⟨b1,n1,m1,s1,s2,na1,na2,b2,n2,m2,hcs⟩:=(hrep.five rfl).has
 obtain⟨x,HX⟩:∃x:Int,Hid (x=kindOf a):=⟨kindOf a,rfl⟩
 rw[←HX.out] at hcs
 subst hcs
 obtain⟨r0,r1,r2,r3,r4,r5,r6⟩:=side_cells (own_kept HO.out (fun k o hk hb=>(kk.below.block k (by cases hk;exact hgB)).trans hb)) H5.out 0 (by simp) rfl
 simp only[Nat.zero_mul,Nat.zero_add] at r0 r1 r2 r3 r4 r5 r6
 have HRep:Hid _:=hrep
 clear hrep
 go_wp2_with fail
 refine Calls.mono (HPW.out h1 HRep.out (by simp only[List.length_append,List.length_cons,List.length_nil];omega) (HT.out.below kk.below hG) hG) ?_
 rintro e w2 ⟨rfl,⟨q2,v2,h2⟩,c2⟩
 go_wp2_with fail
 go_end0
 refine⟨rfl,⟨q2,v2,?_⟩,kk.trans c2⟩
 rw[show Doc.plain (.not a)=[110,111,116]++[32]++Doc.mPart a from rfl]
 simpa[sepB] using h2
end
theorem wide_or:Doc.Wide ⟨Doc.wOr.toArray⟩:=wide_list (l:=Doc.wOr) rfl (by decide) (by decide) (by decide) (by decide)
theorem wide_and:Doc.Wide ⟨Doc.wAnd.toArray⟩:=wide_list (l:=Doc.wAnd) rfl (by decide) (by decide) (by decide) (by decide)
theorem tree_all:∀(N:Nat) (a:Doc.Ast),SizeOf.sizeOf a<N→Doc.Every Doc.TestOk a→TreeC a:=by
 intro N
 induction N with
 |zero=>intro a h;omega
 |succ N ih=>
  intro a hN hev B w wb q v l tight cs h hr hl hT hG
  cases hr with
  |test h1 h2=>exact wtree_test h hev hl hT hG h1 h2
  | @not cs a v' hr0 h1 h2=>
    exact wtree_not (@ih a (by simp only[Doc.Ast.not.sizeOf_spec] at hN;omega) hev) h hr0 h1 h2 hl hT hG
  |one _ h1=>omega
  | @and l' cs' a b n v' hr1 hr2 h1 h2=>
    obtain⟨gs,hg,hsz⟩:=side_and hr1 hr2
    have hlen:=hg.len
    have hn:=own_len h1
    have hng:n=gs.length:=by omega
    subst hng
    have hne:gs.length≠0:=fun e=>hg.ne (List.eq_nil_of_length_eq_zero e)
    obtain⟨pg,cap,rfl⟩:=own_slice_side h1 hne
    rw[hg.cells] at h1
    have e1:Doc.plain (.and a b)=Doc.jn Doc.mAll Doc.wAnd (gs.map (·.2)):=by rw[hg.text];rfl
    rw[e1] at hl ⊢
    refine wtree_chain 1 Doc.wAnd (.inr ⟨rfl,rfl⟩) _ h ⟨_,_,_,rfl⟩ (fun w' h' k'=>?_)
    refine wchain_any 1 Doc.wAnd wide_and Doc.mAll hg.ne (fun g hm=>?_) (own_kept h1 (fun k o hk hb=>(k'.below.block k (h2 k hk)).trans hb)) (h2 pg rfl) h' (fun g hm=>(hg.each g hm).1.wm k') hl (hT.below k'.below hG) hG
    exact partW_and (@ih g.2 (by have:=hsz g hm;omega) ((hg.each g hm).2.2 _ hev))
  | @or l' cs' a b n v' hr1 hr2 h1 h2=>
    obtain⟨gs,hg,hsz⟩:=side_or hr1 hr2
    have hlen:=hg.len
    have hn:=own_len h1
    have hng:n=gs.length:=by omega
    subst hng
    have hne:gs.length≠0:=fun e=>hg.ne (List.eq_nil_of_length_eq_zero e)
    obtain⟨pg,cap,rfl⟩:=own_slice_side h1 hne
    rw[hg.cells] at h1
    have e1:Doc.plain (.or a b)=Doc.jn Doc.plain Doc.wOr (gs.map (·.2)):=by rw[hg.text]
    rw[e1] at hl ⊢
    refine wtree_chain 0 Doc.wOr (.inl ⟨rfl,rfl⟩) _ h ⟨_,_,_,rfl⟩ (fun w' h' k'=>?_)
    refine wchain_any 0 Doc.wOr wide_or Doc.plain hg.ne (fun g hm=>?_) (own_kept h1 (fun k o hk hb=>(k'.below.block k (h2 k hk)).trans hb)) (h2 pg rfl) h' (fun g hm=>(hg.each g hm).1.wm k') hl (hT.below k'.below hG) hG
    exact partW_or (@ih g.2 (by have:=hsz g hm;omega) ((hg.each g hm).2.2 _ hev))
theorem plain_ne (a:Doc.Ast):Doc.plain a≠[]:=by
 cases a with
 |test n o l=>rw[test_plain];simp
 |not a=>simp[Doc.plain,Doc.wNot]
 |and a b=>simp[Doc.plain,Doc.wAnd]
 |or a b=>simp[Doc.plain,Doc.wOr]
set_option maxHeartbeats 1000000 in
theorem treePlain_any {w:World}{F:Nat→Prop}{cs:List Value}{a:Doc.Ast}(hr:RepT w F 0 cs a)(hev:Doc.Every Doc.TestOk a)(hl:(Doc.plain a).length≤700000)(hT:Tens w)(hG:3<w.heap.size):
  Calls Tryz.prog 34 #[.agg cs.toArray] w fun e w'=>e=.returned (.string ⟨(Doc.plain a).toArray⟩)∧Below w.heap.size w w':=by
 have HR0:=hr.kept (w':=w) (F':=fun k=>k<w.heap.size) (fun k o _ ho=>ho) (fun k _ hk=>hk)
 obtain⟨b1,n1,m1,s1,s2,na1,na2,b2,n2,m2,hcs⟩:=(hr.five rfl).has
 obtain⟨x,HX⟩:∃x:Int,Hid (x=kindOf a):=⟨kindOf a,rfl⟩
 rw[←HX.out] at hcs
 subst hcs
 have HR:Hid (RepT w (fun k=>k<w.heap.size) 0 [.int .i64 x,.slice b1 n1 m1,.string s1,.int .i64 na1,.string s2,.int .i64 na2,.slice b2 n2 m2] a):=HR0
 have HI:Hid (TreeC a):=tree_all _ a (Nat.lt_succ_self _) hev
 have HT:Hid (Tens w):=hT
 have HN:Hid (Doc.plain a≠[]):=plain_ne a
 clear hr HR0 hev hT
 go_enter Tryz.func34,Tryz.ntmps34
 go_wp2_with fail
 have hst:WSt w.heap.size ((w.alloc (.cells #[.int .i64 x,.slice b1 n1 m1,.string s1,.int .i64 na1,.string s2,.int .i64 na2,.slice b2 n2 m2] 69)).alloc (.cells #[.pointer none,.slice none 0 0,.bool true] 128)) (w.heap.size+1) none (.slice none 0 0) [] true:=by
  refine⟨?_,World.ownsRow_nil _ _ _ _,by omega,.inl rfl⟩
  have:=heap_alloc_new (w.alloc (.cells #[.int .i64 x,.slice b1 n1 m1,.string s1,.int .i64 na1,.string s2,.int .i64 na2,.slice b2 n2 m2] 69)) (.cells #[.pointer none,.slice none 0 0,.bool true] 128)
  rwa [show(w.alloc (.cells #[.int .i64 x,.slice b1 n1 m1,.string s1,.int .i64 na1,.string s2,.int .i64 na2,.slice b2 n2 m2] 69)).heap.size=w.heap.size+1 by simp] at this
 have hb0:Below w.heap.size w ((w.alloc (.cells #[.int .i64 x,.slice b1 n1 m1,.string s1,.int .i64 na1,.string s2,.int .i64 na2,.slice b2 n2 m2] 69)).alloc (.cells #[.pointer none,.slice none 0 0,.bool true] 128)):=((Below.refl _ _).alloc (Nat.le_refl _) _).alloc (by simp) _
 refine Calls.mono (HI.out (cs:=[.int .i64 x,.slice b1 n1 m1,.string s1,.int .i64 na1,.string s2,.int .i64 na2,.slice b2 n2 m2]) hst (HR.out.kept (fun k o hF ho=>(hb0.block k hF).trans ho) (fun k hF _=>hF)) (by simp;omega) (HT.out.below hb0 hG) hG) ?_
 rintro e w1 ⟨rfl,⟨q1,v1,h1⟩,c1⟩
 have h1:WSt w.heap.size w1 (w.heap.size+1) q1 v1 (Doc.plain a) false:=h1
 go_wp2_with fail
 refine(string_any h1 (by omega) HN.out).mono ?_
 rintro e w2 ⟨rfl,hb2⟩
 go_wp2_with fail
 go_ret
 exact⟨rfl,(hb0.trans c1.below).trans hb2⟩
end Go.Proofs.YtbnelaoeblhndaaGreatDoor
