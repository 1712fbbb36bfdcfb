import Derived.Test.YtbnelaoeblhndaaGreatDoorFiM2
import Derived.Test.YtbnelaoeblhndaaGreatDoorSynPart6
namespace Go.Proofs.YtbnelaoeblhndaaGreatDoor
open Go.RowKit
set_option maxRecDepth 100000
def TestIn (fs:List Doc.Fld)(n o:Doc.Tok)(l:List Doc.Tok):Prop:=Doc.TestOk n o l∧∃k,Doc.idxF fs n.S=some k
theorem check_in {fs:List Doc.Fld}:∀{a:Doc.Ast},Doc.Every Doc.TestOk a→Doc.check fs a=(0,0)→Doc.Every (TestIn fs) a
 | .test n o l,h,hc=>by
   refine⟨h,?_⟩
   change Doc.checkT fs n o l=(0,0) at hc
   unfold Doc.checkT at hc
   cases hk:Doc.idxF fs n.S with
   |none=>rw[hk] at hc;simp at hc
   |some k=>exact⟨k,rfl⟩
 | .not a,h,hc=>check_in (a:=a) h hc
 | .and a b,h,hc=>by
   change (bif (Doc.check fs a).1==0 then Doc.check fs b else Doc.check fs a)=(0,0) at hc
   cases hx:((Doc.check fs a).1==0)
   ·rw[hx] at hc;simp only[cond_false] at hc;rw[hc] at hx;cases hx
   ·rw[hx] at hc;exact⟨check_in h.1 (Doc.check_zero hx),check_in h.2 hc⟩
 | .or a b,h,hc=>by
   change (bif (Doc.check fs a).1==0 then Doc.check fs b else Doc.check fs a)=(0,0) at hc
   cases hx:((Doc.check fs a).1==0)
   ·rw[hx] at hc;simp only[cond_false] at hc;rw[hc] at hx;cases hx
   ·rw[hx] at hc;exact⟨check_in h.1 (Doc.check_zero hx),check_in h.2 hc⟩
section
variable {w:World}{vb:Nat}{fs:List Doc.Fld}{fv:Value}{hb mt mh:Nat}{th:Has}{F:Nat→Prop}{pos:Int→Value×Value}{all:Bits}
theorem layings_and (w:World):Calls Tryz.prog 173 #[.int .i64 1] w fun e w'=>e=.returned (.tuple #[.func (.func 197) #[] #[],.func (.func 198) #[] #[]])∧w'=w:=by
 go_enter Tryz.func173,Tryz.ntmps173
 go_wp2_with fail
 go_ret2
 exact⟨rfl,rfl⟩
theorem layings_or (w:World):Calls Tryz.prog 173 #[.int .i64 0] w fun e w'=>e=.returned (.tuple #[.func (.func 198) #[] #[],.func (.func 197) #[] #[]])∧w'=w:=by
 go_enter Tryz.func173,Tryz.ntmps173
 go_wp2_with fail
 go_ret2
 exact⟨rfl,rfl⟩
set_option maxHeartbeats 400000 in
theorem run_tail (pg n cap:Nat)(h1:2≤n)(h2:n≤cap)(o:Oper)(x:Operand)(ho:o.op=Op.slice 66 x (some (.const (.int .i64 1))) none none)(ev:Operand→Value)(hx:ev x=.slice (some ⟨pg,0,none⟩) n cap)(h3:ev (.const (.int .i64 1))=.int .i64 1)(w:World):
  (execOp ev o).run Tryz.prog w=.ok (.value (.slice (some ⟨pg,7,none⟩) (n-1) (cap-1))) w:=by
 unfold execOp
 simp only[ho,hx,h3,Option.map]
 simp[Instr.sliceAt,Instr.slice,Instr.sliceBounds,run_underlying Tryz.underlying66]
 rw[run_sliceBound (k:=.i64) (i:=1) (y:=n) (h0:=by omega) (h1:=by omega)]
 simp[show cap≠1 by omega,Addr.add]
def JudgeC (vb:Nat)(fs:List Doc.Fld)(fv:Value)(hb mt mh:Nat)(th:Has)(F:Nat→Prop)(pos:Int→Value×Value)(all:Bits)(a:Doc.Ast):Prop:=∀(w:World) (cs:List Value),SieveAt w vb fs fv hb mt mh th F pos all→RepT w (fun k=>k<w.heap.size) 0 cs a→Doc.Every (TestIn fs) a→
 Calls Tryz.prog 114 #[.pointer (some ⟨vb,0,none⟩),.agg cs.toArray] w fun e w'=>∃ys ns,e=.returned (.agg (twoC ys ns))∧Says fs th a ys ns∧Below w.heap.size w w'
set_option maxHeartbeats 8000000 in
theorem chain_core (h:SieveAt w vb fs fv hb mt mh th F pos all)(kd:Int)(fY fN:FuncId)(bY bN:Bits→Bits→Bits)(mk:Doc.Ast→Doc.Ast→Doc.Ast)
  (hcY:∀xs w,Sem.run Tryz.prog (callFunc fY xs) w=.ok (.enter fY xs) w) (hcN:∀xs w,Sem.run Tryz.prog (callFunc fN xs) w=.ok (.enter fN xs) w)
  (hY:∀y1 y2 w,Calls Tryz.prog fY #[.agg (setC y1),.agg (setC y2)] w fun e w'=>e=.returned (.agg (setC (bY y1 y2)))∧Below w.heap.size w w')
  (hN:∀y1 y2 w,Calls Tryz.prog fN #[.agg (setC y1),.agg (setC y2)] w fun e w'=>e=.returned (.agg (setC (bN y1 y2)))∧Below w.heap.size w w')
  (hL:∀w,Calls Tryz.prog 173 #[.int .i64 kd] w fun e w'=>e=.returned (.tuple #[.func (.func fY) #[] #[],.func (.func fN) #[] #[]])∧w'=w)
  (hM:∀{a b y1 n1 y2 n2},Says fs th a y1 n1→Says fs th b y2 n2→Says fs th (mk a b) (bY y1 y2) (bN n1 n2))
  (a:Doc.Ast) (v:Value) (gs:List (List Value×Doc.Ast)) (hp:Parts w (fun k=>k<w.heap.size) a v gs) (hj:Doc.joined mk (gs.map (·.2))=some a) (hev:Doc.Every (TestIn fs) a)
  (ih:∀g∈gs,JudgeC vb fs fv hb mt mh th F pos all g.2):
  Calls Tryz.prog 146 #[.pointer (some ⟨vb,0,none⟩),.agg #[.int .i64 kd,v,.string ⟨#[]⟩,.int .i64 0,.string ⟨#[]⟩,.int .i64 0,.slice none 0 0]] w fun e w'=>∃ys ns,e=.returned (.agg (twoC ys ns))∧Says fs th a ys ns∧Below w.heap.size w w':=by
 obtain⟨ZZ,hzz,HZZ⟩:∃Z,(∀w,(zeroValue 214).run Tryz.prog w=.ok (.agg Z) w)∧Hid (Z=twoC zeroB zeroB):=⟨_,zero_verdict,rfl⟩
 have hne:gs.length≠0:=fun e=>hp.ne (List.eq_nil_of_length_eq_zero e)
 obtain⟨pg,cap,hv⟩:=own_slice_side hp.owns hne
 subst hv
 have hpg:pg<w.heap.size:=hp.ours pg rfl
 have hgs2:2≤gs.length:=by
  rcases Nat.lt_or_ge 1 gs.length with h1|h1
  ·exact h1
  ·exfalso
   obtain⟨g,rfl⟩:=List.length_eq_one_iff.1 (show gs.length=1 by omega)
   have hs:=(hp.each g (by simp)).2.1
   simp only[List.map_cons,List.map_nil,Doc.joined,List.foldl_nil,Option.some.injEq] at hj
   rw[hj] at hs;omega
 have hcap:gs.length≤cap∧cap≤maxLen:=by
  obtain⟨_,h2⟩:=hp.owns
  rcases h2 with⟨e,_⟩|⟨g',cap',cur,e,_,_,hc,hm,_⟩
  ·cases e
  ·cases e;exact⟨hc,hm⟩
 have hcap1:=hcap.1
 have hcap2:=hcap.2
 unfold maxLen at hcap2
 have HO:Hid _:=hp.owns
 have HR:Hid (∀g∈gs,RepT w (fun k=>k<w.heap.size) 0 g.1 g.2):=fun g hg=>(hp.each g hg).1
 have HE:Hid (∀g∈gs,Doc.Every (TestIn fs) g.2):=fun g hg=>(hp.each g hg).2.2 _ hev
 have H5:Hid (∀g∈gs,g.1.length=7):=fun g hg=>((hp.each g hg).1.five rfl).one.2
 have H:Hid _:=h
 have hvt:=h.lt
 have HPART:Hid (∀(W:World) (j:Nat) (hj:j<gs.length),Below w.heap.size w W→∃c0 c1 c2 c3 c4 c5 c6,W.cell? ⟨pg,j*7,none⟩=some c0∧W.cell? ⟨pg,j*7+1,none⟩=some c1∧W.cell? ⟨pg,j*7+2,none⟩=some c2∧W.cell? ⟨pg,j*7+3,none⟩=some c3∧W.cell? ⟨pg,j*7+4,none⟩=some c4∧W.cell? ⟨pg,j*7+5,none⟩=some c5∧W.cell? ⟨pg,j*7+6,none⟩=some c6∧(∃x b1 n1 m1 s1 na1 s2 na2 b2 n2 m2,c0=.int .i64 x∧c1=.slice b1 n1 m1∧c2=.string s1∧c3=.int .i64 na1∧c4=.string s2∧c5=.int .i64 na2∧c6=.slice b2 n2 m2)∧
   ∀W',Below W.heap.size W W'→Calls Tryz.prog 114 #[.pointer (some ⟨vb,0,none⟩),.agg #[c0,c1,c2,c3,c4,c5,c6]] W' fun e w'=>∃ys ns,e=.returned (.agg (twoC ys ns))∧Says fs th gs[j].2 ys ns∧Below W'.heap.size W' w'):=by
  intro W j hj hW
  have hmem:=List.getElem_mem hj
  have hrep:=(HR.out gs[j] hmem).belowS hW
  obtain⟨b1,n1,m1,s1,s2,na1,na2,b2,n2,m2,hcs⟩:=(hrep.five rfl).has
  have hO':=own_kept HO.out (fun k o hk ho=>(hW.block k (by cases hk;exact hpg)).trans ho)
  obtain⟨r0,r1,r2,r3,r4,r5,r6⟩:=side_cells hO' H5.out j hj hcs
  refine⟨_,_,_,_,_,_,_,r0,r1,r2,r3,r4,r5,r6,⟨_,_,_,_,_,_,_,_,_,_,_,rfl,rfl,rfl,rfl,rfl,rfl,rfl⟩,fun W' hW'=>?_⟩
  have hrep2:=hrep.belowS hW'
  rw[hcs] at hrep2
  exact ih gs[j] hmem W' _ (H.out.below (hW.trans (hW'.mono hW.size))) hrep2 (HE.out gs[j] hmem)
 obtain⟨t0,tr,HAS⟩:∃t0 tr,Hid (gs.map (·.2)=t0::tr):=by
  cases hgs:gs with
  |nil=>exact absurd hgs hp.ne
  |cons g r=>exact⟨_,_,rfl⟩
 have h0l:0<gs.length:=by omega
 have HGA0:Hid (gs[0].2=t0):=by
  have:(gs.map (·.2))[0]? =some t0:=by rw[HAS.out];rfl
  rw[List.getElem?_map,List.getElem?_eq_getElem h0l] at this
  exact Option.some.inj this
 have HTL:Hid (tr.length+1=gs.length):=by
  have:=congrArg List.length HAS.out
  simp only[List.length_map,List.length_cons] at this
  exact this.symm
 have HGA:Hid (∀j (hj:j+1<gs.length) (hj':j<tr.length),gs[j+1].2=tr[j]):=fun j hj hj'=>by
  have:(gs.map (·.2))[j+1]? =some tr[j]:=by rw[HAS.out];simp[hj']
  rw[List.getElem?_map,List.getElem?_eq_getElem hj] at this
  exact Option.some.inj this
 have HJ:Hid (tr.foldl mk t0=a):=by
  have:=hj
  rw[HAS.out] at this
  exact Option.some.inj this
 have HTWO:Hid (∀ys ns,(Tryz.prog.info? 214).map (·.size)=some (twoC ys ns).size∧(twoC ys ns).all (·.oneCell')=true∧ZZ.size=(twoC ys ns).size):=fun ys ns=>⟨twoC_info ys ns,twoC_one ys ns,by rw[HZZ.out,twoC_size,twoC_size]⟩
 have HL:Hid _:=hL
 have HY:Hid _:=hY
 have HN:Hid _:=hN
 have HM:Hid (∀{a b y1 n1 y2 n2},Says fs th a y1 n1→Says fs th b y2 n2→Says fs th (mk a b) (bY y1 y2) (bN n1 n2)):=@hM
 obtain⟨W0,HW0⟩:∃W0,Hid (W0=(w.alloc (.cells #[.int .i64 kd,.slice (some ⟨pg,0,none⟩) gs.length cap,.string ⟨#[]⟩,.int .i64 0,.string ⟨#[]⟩,.int .i64 0,.slice none 0 0] 69)).alloc (.cells ZZ 214)):=⟨_,rfl⟩
 have hb0:Below w.heap.size w W0:=by rw[HW0.out];exact((Below.refl _ _).alloc (Nat.le_refl _) _).alloc (by simp) _
 have q0:W0.heap[w.heap.size]? =some (.cells #[.int .i64 kd,.slice (some ⟨pg,0,none⟩) gs.length cap,.string ⟨#[]⟩,.int .i64 0,.string ⟨#[]⟩,.int .i64 0,.slice none 0 0] 69 (0,0)):=by rw[HW0.out];exact heap_alloc2_old w _ _
 have HQ1:Hid (W0.heap[w.heap.size+1]? =some (.cells ZZ 214 (0,0))):=by rw[HW0.out];exact heap_alloc2_new w _ _
 have hz0:W0.heap.size=w.heap.size+2:=by rw[HW0.out];simp
 have e0:W0.cell? ⟨w.heap.size,0,none⟩=some (.int .i64 kd):=blk_cell q0 0 _ rfl
 have e1:W0.cell? ⟨w.heap.size,1,none⟩=some (.slice (some ⟨pg,0,none⟩) gs.length cap):=blk_cell q0 1 _ rfl
 have HE1:Hid _:=e1
 have HB0:Hid _:=hb0
 obtain⟨c0,c1,c2,c3,c4,c5,c6,r0,r1,r2,r3,r4,r5,r6,⟨x,b1,n1,m1,s1,na1,s2,na2,b2,n2,m2,x0,x1,x2,x3,x4,x5,x6⟩,hcall⟩:=HPART.out W0 0 h0l hb0
 have HC0:Hid _:=hcall W0 (Below.refl _ _)
 subst x0 x1 x2 x3 x4 x5 x6
 rw[Nat.zero_mul] at r0
 rw[Nat.zero_mul,Nat.zero_add] at r1 r2 r3 r4 r5 r6
 have hpg0:pg<W0.heap.size:=by omega
 clear h hp hj hY hN hL hM hev ih hcap hb0 q0 hcall
 go_enter Tryz.func146,Tryz.ntmps146
 go_wp2_with fail
 rw[←HW0.out]
 refine(HL.out _).mono ?_
 rintro r w1 ⟨rfl,hw1⟩
 rw[hw1]
 clear hw1
 go_wp2_with fail
 refine Calls.mono HC0.out ?_
 rintro e w2 ⟨ys0,ns0,rfl,hsay0,hb2⟩
 have HB2:Hid (Below w.heap.size w w2):=HB0.out.trans (hb2.mono HB0.out.size)
 have HSAY0:Hid (Says fs th t0 ys0 ns0):=by rw[←HGA0.out];exact hsay0
 obtain⟨V0,HV0⟩:∃V,Hid (twoC ys0 ns0=V):=⟨_,rfl⟩
 rw[HV0.out]
 obtain⟨i1,i2,i3⟩:=HTWO.out ys0 ns0
 rw[HV0.out] at i1 i2 i3
 have I1:Hid _:=i1
 have I2:Hid _:=i2
 have I3:Hid _:=i3
 obtain⟨W3,HW3⟩:∃W3,Hid (W3=(w2.alloc (.cells ZZ 214)).setRow w2.heap.size V0):=⟨_,rfl⟩
 have hw3:Below w2.heap.size w2 W3:=by rw[HW3.out];exact Below.setRow ((Below.refl _ _).alloc (Nat.le_refl _) _) (Nat.le_refl _) _
 have hb3:Below w.heap.size w W3:=HB2.out.trans (hw3.mono HB2.out.size)
 have f1:W3.cell? ⟨w.heap.size,1,none⟩=some (.slice (some ⟨pg,0,none⟩) gs.length cap):=((hw3.cell (p:=⟨w.heap.size,1,none⟩) (by show w.heap.size<_;have:=hb2.size;omega)).trans (hb2.cell (p:=⟨w.heap.size,1,none⟩) (by show w.heap.size<_;omega))).trans HE1.out
 have HG7:Hid (W3.heap[w2.heap.size]? =some (.cells (twoC ys0 ns0) 214 (0,0))):=by rw[HV0.out,HW3.out];exact setRow_heap _ _ ZZ _ _ _ (heap_alloc_new w2 _)
 have HG4:Hid (W3.heap[w.heap.size+1]? =some (.cells ZZ 214 (0,0))):=((hw3.block (w.heap.size+1) (by have:=hb2.size;omega)).trans (hb2.block (w.heap.size+1) (by omega))).trans HQ1.out
 have hw2l:w.heap.size+2≤w2.heap.size:=by have:=hb2.size;omega
 have HB3:Hid _:=hb3
 have hlen1:(1:Int)≤(gs.length:Int):=by omega
 clear i1 i2 i3 hw3 hb3 hb2 hsay0 r0 r1 r2 r3 r4 r5 r6 e0 e1 HC0 hpg0
 go_wp2_with (first|(refine wpList_store_row rfl 214 _ _ rfl w2.heap.size rfl V0 rfl 214 ZZ (heap_alloc_new w2 _) I1.out I3.out I2.out ?_;rw[←HW3.out])|(refine wpList_val rfl (.slice (some ⟨pg,7,none⟩) (gs.length-1) (cap-1)) (run_tail pg gs.length cap hgs2 hcap1 _ _ rfl _ rfl rfl _) ?_))
 obtain⟨m,HMG⟩:∃m,Hid (m=gs.length-1):=⟨_,rfl⟩
 obtain⟨c2,HC2⟩:∃m,Hid (m=cap-1):=⟨_,rfl⟩
 rw[←HMG.out,←HC2.out]
 have hml:m+1=gs.length:=by have:=HMG.out;omega
 have hmc:m≤c2:=by have:=HMG.out;have:=HC2.out;omega
 have hc2m:c2≤9223372036854775807:=by have:=HC2.out;omega
 have HML:Hid (m=tr.length):=by have:=HTL.out;show m=_;omega
 have HML2:Hid _:=hml
 clear hlen1 hcap1 hcap2 hgs2 hne hml
 go_loopw [27] (fun i wr=>∃(j:Nat) (ys ns:Bits),j≤m∧i=.int .i64 j∧Below w.heap.size w wr∧Hid (wr.heap[w2.heap.size]? =some (.cells (twoC ys ns) 214 (0,0)))∧Hid (wr.heap[w.heap.size+1]? =some (.cells ZZ 214 (0,0)))∧Hid (Says fs th ((tr.take j).foldl mk t0) ys ns)) (fun i _=>m-(intOf i).toNat)
 case atStart=>exact⟨0,ys0,ns0,Nat.zero_le _,rfl,HB3.out,HG7,HG4,HSAY0⟩
 case round=>
  obtain⟨j,ys,ns,hjm,rfl,hB,HR7,HR4,HSY⟩:=hrel
  have hsz:=hB.size
  obtain⟨V,HVV⟩:∃V,Hid (twoC ys ns=V):=⟨_,rfl⟩
  rw[HVV.out] at HR7
  obtain⟨i1,i2,i3⟩:=HTWO.out ys ns
  rw[HVV.out] at i1 i2 i3
  have J1:Hid _:=i1
  have J2:Hid _:=i2
  have J3:Hid _:=i3
  clear i1 i2 i3
  have h7l:=lt_block HR7.out
  by_cases hj2:j<m
  ·obtain⟨c0,c1,c2',c3,c4,c5,c6,r0,r1,r2,r3,r4,r5,r6,⟨x,b1,n1,m1,s1,na1,s2,na2,b2,n2,m2,x0,x1,x2,x3,x4,x5,x6⟩,hcall⟩:=HPART.out wr (j+1) (by have:=HML2.out;omega) hB
   subst x0 x1 x2 x3 x4 x5 x6
   rw[show(j+1)*7=7+j*7 by omega] at r0 r1 r2 r3 r4 r5 r6
   have hba:Below wr.heap.size wr (wr.alloc (.cells #[.int .i64 x,.slice b1 n1 m1,.string s1,.int .i64 na1,.string s2,.int .i64 na2,.slice b2 n2 m2] 69)):=(Below.refl _ _).alloc (Nat.le_refl _) _
   have HCALL:Hid _:=hcall _ hba
   have HBA:Hid _:=hba
   have hpgx:pg<wr.heap.size:=by omega
   have HGJ:Hid (∀h,(gs[j+1]'h).2=tr[j]'(by have:=HML.out;omega)):=fun h=>HGA.out j h (by have:=HML.out;omega)
   clear hcall hba
   go_wp2_with fail
   refine Calls.mono HCALL.out ?_
   rintro e w3 ⟨ys1,ns1,rfl,hsay1,hb3⟩
   rw[HGJ.out] at hsay1
   have HS1:Hid _:=hsay1
   have HB3':Hid (Below wr.heap.size wr w3):=HBA.out.trans (hb3.mono (by simp))
   obtain⟨V1,HV1⟩:∃V,Hid (twoC ys1 ns1=V):=⟨_,rfl⟩
   rw[HV1.out]
   obtain⟨i1,i2,i3⟩:=HTWO.out ys1 ns1
   rw[HV1.out] at i1 i2 i3
   have K1:Hid _:=i1
   have K2:Hid _:=i2
   have K3:Hid _:=i3
   obtain⟨W5,HW5⟩:∃W5,Hid (W5=(w3.alloc (.cells ZZ 214)).setRow w3.heap.size V1):=⟨_,rfl⟩
   clear i1 i2 i3 hsay1 hb3 r0 r1 r2 r3 r4 r5 r6
   go_wp2_with (first|(refine wpList_store_row rfl 214 _ _ rfl w3.heap.size rfl V1 rfl 214 ZZ (heap_alloc_new w3 _) K1.out K3.out K2.out ?_;rw[←HW5.out]))
   go_frame
   have hw5:Below w3.heap.size w3 W5:=by rw[HW5.out];exact Below.setRow ((Below.refl _ _).alloc (Nat.le_refl _) _) (Nat.le_refl _) _
   have hb5:Below wr.heap.size wr W5:=HB3'.out.trans (hw5.mono HB3'.out.size)
   have hg10:W5.heap[w3.heap.size]? =some (.cells V1 214 (0,0)):=by rw[HW5.out];exact setRow_heap _ _ ZZ _ _ _ (heap_alloc_new w3 _)
   have h10l:=lt_block hg10
   have h3l:=HB3'.out.size
   have HS5:Hid (∀w':World,Below W5.heap.size W5 w'→w'.heap[w2.heap.size]? =some (.cells V 214 (0,0))∧w'.heap[w3.heap.size]? =some (.cells V1 214 (0,0))∧w'.heap[w.heap.size+1]? =some (.cells ZZ 214 (0,0))∧Below w.heap.size w w'):=fun w' h'=>by
    have hbw:=hb5.trans (h'.mono hb5.size)
    exact⟨(hbw.block _ h7l).trans HR7.out,(h'.block _ h10l).trans hg10,(hbw.block _ (lt_block HR4.out)).trans HR4.out,hB.trans (hbw.mono hB.size)⟩
   obtain⟨Y,HYC⟩:∃Y,Hid (setC ys=Y):=⟨_,rfl⟩
   obtain⟨N,HNC⟩:∃Y,Hid (setC ns=Y):=⟨_,rfl⟩
   obtain⟨Y1,HY1C⟩:∃Y,Hid (setC ys1=Y):=⟨_,rfl⟩
   obtain⟨N1,HN1C⟩:∃Y,Hid (setC ns1=Y):=⟨_,rfl⟩
   obtain⟨RY,HRY⟩:∃Y,Hid (setC (bY ys ys1)=Y):=⟨_,rfl⟩
   obtain⟨RN,HRN⟩:∃Y,Hid (setC (bN ns ns1)=Y):=⟨_,rfl⟩
   obtain⟨VR,HVR⟩:∃V,Hid (twoC (bY ys ys1) (bN ns ns1)=V):=⟨_,rfl⟩
   have HYI:Hid ((Tryz.prog.info? 107).map (·.size)=some Y.size):=by rw[←HYC.out];exact setC_info _
   have HNI:Hid ((Tryz.prog.info? 107).map (·.size)=some N.size):=by rw[←HNC.out];exact setC_info _
   have HY1I:Hid ((Tryz.prog.info? 107).map (·.size)=some Y1.size):=by rw[←HY1C.out];exact setC_info _
   have HN1I:Hid ((Tryz.prog.info? 107).map (·.size)=some N1.size):=by rw[←HN1C.out];exact setC_info _
   have HPY:Hid (∀j v,Y[j]? =some v→V[0+j]? =some v):=by rw[←HYC.out,←HVV.out];exact twoC_yes ys ns
   have HPN:Hid (∀j v,N[j]? =some v→V[64+j]? =some v):=by rw[←HNC.out,←HVV.out];exact twoC_no ys ns
   have HPY1:Hid (∀j v,Y1[j]? =some v→V1[0+j]? =some v):=by rw[←HY1C.out,←HV1.out];exact twoC_yes ys1 ns1
   have HPN1:Hid (∀j v,N1[j]? =some v→V1[64+j]? =some v):=by rw[←HN1C.out,←HV1.out];exact twoC_no ys1 ns1
   have HCY:Hid (∀W:World,Calls Tryz.prog fY #[.agg Y,.agg Y1] W fun e w'=>e=.returned (.agg RY)∧Below W.heap.size W w'):=by rw[←HYC.out,←HY1C.out,←HRY.out];exact HY.out ys ys1
   have HCN:Hid (∀W:World,Calls Tryz.prog fN #[.agg N,.agg N1] W fun e w'=>e=.returned (.agg RN)∧Below W.heap.size W w'):=by rw[←HNC.out,←HN1C.out,←HRN.out];exact HN.out ns ns1
   have HBU:Hid (∀w,(Instr.build 214 #[(0,.agg RY),(1,.agg RN)]).run Tryz.prog w=.ok (.agg VR) w):=by rw[←HRY.out,←HRN.out,←HVR.out];exact run_build_two _ _
   obtain⟨i1,i2,i3⟩:=HTWO.out (bY ys ys1) (bN ns ns1)
   rw[HVR.out] at i1 i2 i3
   have L1:Hid _:=i1
   have L2:Hid _:=i2
   have L3:Hid (V.size=VR.size):=J3.out.symm.trans i3
   have HS0:Hid (Below W5.heap.size W5 W5.drew):=Below.drew (Below.refl _ _)
   clear i1 i2 i3 hw5 hb5 hg10
   refine wp_region_M 13 (fun w'=>Below W5.heap.size W5 w') (by kernel_rfl) ?_
   refine anyM_t (i:=0) (v:=.func (.func fY) #[] #[]) rfl (by kernel_rfl) (fun _ _ _ h=>h) rfl rfl HS0.out (fun w' hSw=>by go_simp) ?_
   simp only[takes]
   refine anyM_t (i:=1) (v:=.pointer (some ⟨w2.heap.size,0,none⟩)) rfl (by kernel_rfl) (fun _ _ _ h=>h) rfl rfl HS0.out (fun w' hSw=>by go_simp) ?_
   simp only[takes]
   refine anyM_t (i:=2) (v:=.agg Y) rfl (by kernel_rfl) (fun _ _ _ h=>h) rfl rfl HS0.out (fun w' hSw=>run_load_off 107 _ rfl w2.heap.size 0 rfl 214 V Y (0,0) _ (HS5.out w' hSw).1 HPY.out Tryz.underlying107 rfl HYI.out) ?_
   simp only[takes]
   refine anyM_t (i:=3) (v:=.pointer (some ⟨w3.heap.size,0,none⟩)) rfl (by kernel_rfl) (fun _ _ _ h=>h) rfl rfl HS0.out (fun w' hSw=>by go_simp) ?_
   simp only[takes]
   refine anyM_t (i:=4) (v:=.agg Y1) rfl (by kernel_rfl) (fun _ _ _ h=>h) rfl rfl HS0.out (fun w' hSw=>run_load_off 107 _ rfl w3.heap.size 0 rfl 214 V1 Y1 (0,0) _ (HS5.out w' hSw).2.1 HPY1.out Tryz.underlying107 rfl HY1I.out) ?_
   simp only[takes]
   refine anyM_t (i:=6) (v:=.func (.func fN) #[] #[]) rfl (by kernel_rfl) (fun _ _ _ h=>h) rfl rfl HS0.out (fun w' hSw=>by go_simp) ?_
   simp only[takes]
   refine anyM_t (i:=7) (v:=.pointer (some ⟨w2.heap.size,64,none⟩)) rfl (by kernel_rfl) (fun _ _ _ h=>h) rfl rfl HS0.out (fun w' hSw=>by go_simp) ?_
   simp only[takes]
   refine anyM_t (i:=8) (v:=.agg N) rfl (by kernel_rfl) (fun _ _ _ h=>h) rfl rfl HS0.out (fun w' hSw=>run_load_off 107 _ rfl w2.heap.size 64 rfl 214 V N (0,0) _ (HS5.out w' hSw).1 HPN.out Tryz.underlying107 rfl HNI.out) ?_
   simp only[takes]
   refine anyM_t (i:=9) (v:=.pointer (some ⟨w3.heap.size,64,none⟩)) rfl (by kernel_rfl) (fun _ _ _ h=>h) rfl rfl HS0.out (fun w' hSw=>by go_simp) ?_
   simp only[takes]
   refine anyM_t (i:=10) (v:=.agg N1) rfl (by kernel_rfl) (fun _ _ _ h=>h) rfl rfl HS0.out (fun w' hSw=>run_load_off 107 _ rfl w3.heap.size 64 rfl 214 V1 N1 (0,0) _ (HS5.out w' hSw).2.1 HPN1.out Tryz.underlying107 rfl HN1I.out) ?_
   simp only[takes]
   refine anyM_one (i:=5) (by kernel_rfl) rfl rfl (fun K hK=>?_)
   go_simp
   refine(HCY.out _).mono ?_
   rintro r w6 ⟨rfl,hb6⟩
   have hq6:Below W5.heap.size W5 w6:=Below.callB (Below.drew (Below.refl _ _)) (Nat.le_refl _) hb6
   refine hK.out _ _ (fun _=>hq6) ?_
   clear hK K
   try simp only[Act.put,takes]
   refine anyM_one (i:=11) (by kernel_rfl) rfl rfl (fun K hK=>?_)
   go_simp
   refine(HCN.out _).mono ?_
   rintro r w7 ⟨rfl,hb7⟩
   have hq7:Below W5.heap.size W5 w7:=Below.callB hq6 (Nat.le_refl _) hb7
   refine hK.out _ _ (fun _=>hq7) ?_
   clear hK K
   try simp only[Act.put,takes]
   refine anyM_t (i:=12) (v:=.agg VR) rfl (by kernel_rfl) (fun _ _ _ h=>h) rfl rfl hq7 (fun w' hSw=>run_build_op 214 _ rfl (.agg VR) #[(0,.agg RY),(1,.agg RN)] (by simp[Act.eval]) (HBU.out _)) ?_
   simp only[takes]
   refine anyM_one (i:=13) (by kernel_rfl) rfl rfl (fun K hK=>?_)
   refine wp_store_off 214 _ _ rfl w2.heap.size 0 rfl VR rfl 214 V (HS5.out w7 hq7).1 L1.out (by have:=L3.out;omega) L2.out rfl rfl ?_
   refine hK.out _ _ (fun h=>absurd rfl h) ?_
   clear hK K
   rw[lay_whole L3.out]
   refine anyM_done (by kernel_rfl) ?_
   have HF:Hid _:=HS5.out w7 hq7
   clear hq6 hq7 hb6 hb7
   go_wp2_with fail
   go_roundw
   case rel=>
    refine⟨j+1,bY ys ys1,bN ns ns1,by omega,by go_num,Below.setRow HF.out.2.2.2 (by omega) _,by rw[HVR.out];exact setRow_heap _ _ V _ _ _ HF.out.1,(setRow_other _ _ _ _ (by omega)).trans HF.out.2.2.1,?_⟩
    show Says _ _ _ _ _
    have hjt:j<tr.length:=by have:=HML.out;omega
    rw[List.take_add_one,List.getElem?_eq_getElem hjt,Option.toList_some,List.foldl_append]
    exact HM.out HSY.out HS1.out
   case measure=>simp[intOf];omega
  ·obtain rfl:j=m:=by omega
   have HFS:Hid (Says fs th a ys ns):=by
    have:=HSY.out
    rw[HML.out,List.take_length,HJ.out] at this
    exact this
   go_wp2_with (first|(refine wpList_load_row rfl 214 _ rfl w2.heap.size rfl 214 V (0,0) _ HR7.out Tryz.underlying214 rfl J1.out ?_)|(refine wpList_store_row rfl 214 _ _ rfl (w.heap.size+1) rfl V rfl 214 ZZ HR4.out J1.out J3.out J2.out ?_))
   refine bodyPost_ret (v:=.agg V) (results_cell_row rfl _ _ (w.heap.size+1) 214 V (0,0) _ rfl (setRow_heap _ _ ZZ _ _ _ HR4.out) Tryz.underlying214 rfl J1.out) rfl ⟨ys,ns,by rw[HVV.out],HFS.out,Below.setRow hB (by omega) _⟩
end
section
variable {w:World}{vb:Nat}{fs:List Doc.Fld}{fv:Value}{hb mt mh:Nat}{th:Has}{F:Nat→Prop}{pos:Int→Value×Value}{all:Bits}
set_option maxHeartbeats 8000000 in
theorem judge_step (hfl:fs.length≤4)(a:Doc.Ast)(ih:∀b:Doc.Ast,SizeOf.sizeOf b<SizeOf.sizeOf a→JudgeC vb fs fv hb mt mh th F pos all b):JudgeC vb fs fv hb mt mh th F pos all a:=by
 intro w cs h hr hev
 obtain⟨ZZ,hzz,HZZ⟩:∃Z,(∀w,(zeroValue 214).run Tryz.prog w=.ok (.agg Z) w)∧Hid (Z=twoC zeroB zeroB):=⟨_,zero_verdict,rfl⟩
 have HTWO:Hid (∀ys ns,(Tryz.prog.info? 214).map (·.size)=some (twoC ys ns).size∧(twoC ys ns).all (·.oneCell')=true∧ZZ.size=(twoC ys ns).size):=fun ys ns=>⟨twoC_info ys ns,twoC_one ys ns,by rw[HZZ.out,twoC_size,twoC_size]⟩
 have H:Hid _:=h
 have hvt:=h.lt
 rcases hr.parts with⟨n,o,lits,v,rfl,rfl,ho,hF⟩|⟨v,gs,rfl,hp⟩
 ·obtain⟨va,vc,hvv⟩:=(rowSl ho).slice
  subst hvv
  obtain⟨hok,k,hk⟩:=hev
  obtain⟨W0,HW0⟩:∃W0,Hid (W0=(w.alloc (.cells #[.int .i64 3,.slice none 0 0,.string n.S,.int .i64 n.at_,.string o.S,.int .i64 o.at_,.slice va lits.length vc] 69)).alloc (.cells ZZ 214)):=⟨_,rfl⟩
  have hb0:Below w.heap.size w W0:=by rw[HW0.out];exact((Below.refl _ _).alloc (Nat.le_refl _) _).alloc (by simp) _
  have HQ1:Hid (W0.heap[w.heap.size+1]? =some (.cells ZZ 214 (0,0))):=by rw[HW0.out];exact heap_alloc2_new w _ _
  have hz0:W0.heap.size=w.heap.size+2:=by rw[HW0.out];simp
  have HC:Hid _:=stest_any (H.out.below hb0) hfl n o lits hok k hk _ ((rowSl ho).below hb0)
  have HB0:Hid _:=hb0
  clear h hr hok hk ho hF hb0 ih
  go_enter Tryz.func114,Tryz.ntmps114
  go_wp2_with fail
  rw[←HW0.out]
  refine Calls.mono HC.out ?_
  rintro e w1 ⟨ys,ns,rfl,hsay,hb1⟩
  have HSAY:Hid _:=hsay
  obtain⟨V,HVV⟩:∃V,Hid (twoC ys ns=V):=⟨_,rfl⟩
  rw[HVV.out]
  obtain⟨i1,i2,i3⟩:=HTWO.out ys ns
  rw[HVV.out] at i1 i2 i3
  have J1:Hid _:=i1
  have J2:Hid _:=i2
  have J3:Hid _:=i3
  have HG:Hid (w1.heap[w.heap.size+1]? =some (.cells ZZ 214 (0,0))):=(hb1.block _ (by omega)).trans HQ1.out
  have HB1:Hid (Below w.heap.size w w1):=HB0.out.trans (hb1.mono HB0.out.size)
  clear i1 i2 i3 hsay hb1
  go_wp2_with (first|(refine wpList_store_row rfl 214 _ _ rfl (w.heap.size+1) rfl V rfl 214 ZZ HG.out J1.out J3.out J2.out ?_))
  refine bodyPost_ret (v:=.agg V) (results_cell_row rfl _ _ (w.heap.size+1) 214 V (0,0) _ rfl (setRow_heap _ _ ZZ _ _ _ HG.out) Tryz.underlying214 rfl J1.out) rfl ⟨ys,ns,by rw[HVV.out],HSAY.out,Below.setRow HB1.out (by omega) _⟩
 ·have hk3:=hp.kind
  obtain⟨kd,HKD⟩:∃kd,Hid (kindOf a=kd):=⟨_,rfl⟩
  rw[HKD.out] at hk3 ⊢
  have hne:gs.length≠0:=fun e=>hp.ne (List.eq_nil_of_length_eq_zero e)
  obtain⟨pg,cap,hv⟩:=own_slice_side hp.owns hne
  subst hv
  have hpg:pg<w.heap.size:=hp.ours pg rfl
  obtain⟨W0,HW0⟩:∃W0,Hid (W0=(w.alloc (.cells #[.int .i64 kd,.slice (some ⟨pg,0,none⟩) gs.length cap,.string ⟨#[]⟩,.int .i64 0,.string ⟨#[]⟩,.int .i64 0,.slice none 0 0] 69)).alloc (.cells ZZ 214)):=⟨_,rfl⟩
  have hb0:Below w.heap.size w W0:=by rw[HW0.out];exact((Below.refl _ _).alloc (Nat.le_refl _) _).alloc (by simp) _
  have q0:W0.heap[w.heap.size]? =some (.cells #[.int .i64 kd,.slice (some ⟨pg,0,none⟩) gs.length cap,.string ⟨#[]⟩,.int .i64 0,.string ⟨#[]⟩,.int .i64 0,.slice none 0 0] 69 (0,0)):=by rw[HW0.out];exact heap_alloc2_old w _ _
  have HQ1:Hid (W0.heap[w.heap.size+1]? =some (.cells ZZ 214 (0,0))):=by rw[HW0.out];exact heap_alloc2_new w _ _
  have hz0:W0.heap.size=w.heap.size+2:=by rw[HW0.out];simp
  have HB0:Hid _:=hb0
  by_cases hk2:(kd==2)=true
  ·obtain⟨x,hax,hgx⟩:∃x,a=.not x∧gs.map (·.2)=[x]:=by
    rcases hp.how with⟨_,x,e1,e2⟩|⟨e,_⟩|⟨e,_⟩
    ·exact⟨x,e1,e2⟩
    ·rw[HKD.out] at e;rw[e] at hk2;cases hk2
    ·rw[HKD.out] at e;rw[e] at hk2;cases hk2
   obtain⟨g,rfl⟩:∃g,gs=[g]:=by
    cases gs with
    |nil=>cases hgx
    |cons g r=>cases r with
     |nil=>exact⟨g,rfl⟩
     |cons=>simp at hgx
   obtain rfl:g.2=x:=by simpa using hgx
   subst hax
   have hmem:g∈[g]:=by simp
   have hrep:=((hp.each g hmem).1).belowS hb0
   obtain⟨b1,n1,m1,s1,s2,na1,na2,b2,n2,m2,hcs⟩:=(hrep.five rfl).has
   have hO':=hp.owns
   obtain⟨r0,r1,r2,r3,r4,r5,r6⟩:=side_cells hO' (fun g hg=>((hp.each g hg).1.five rfl).one.2) 0 (by simp) hcs
   rw[Nat.zero_mul] at r0
   rw[Nat.zero_mul,Nat.zero_add] at r1 r2 r3 r4 r5 r6
   obtain⟨y,HY⟩:∃y:Int,Hid (y=kindOf g.2):=⟨_,rfl⟩
   rw[←HY.out] at r0 hcs
   have hrep2:=hrep
   rw[hcs] at hrep2
   have HC:Hid _:=ih g.2 (by simp) W0 _ (H.out.below hb0) hrep2 hev
   have e0:W0.cell? ⟨w.heap.size,0,none⟩=some (.int .i64 kd):=blk_cell q0 0 _ rfl
   have e1:W0.cell? ⟨w.heap.size,1,none⟩=some (.slice (some ⟨pg,0,none⟩) 1 cap):=blk_cell q0 1 _ rfl
   have hcap:1≤cap:=by
    obtain⟨_,h2⟩:=hp.owns
    rcases h2 with⟨e,_⟩|⟨g',cap',cur,e,_,_,hc,hm,_⟩
    ·cases e
    ·cases e;exact hc
   have hpgl:pg<W0.heap.size:=by omega
   simp only[List.length_cons,List.length_nil,Nat.zero_add] at HW0 ⊢
   clear h hr hp hrep hrep2 hcs hO' hev ih hmem q0 hne hb0 hgx
   go_enter Tryz.func114,Tryz.ntmps114
   go_wp2_with fail
   rw[←HW0.out]
   refine Calls.mono HC.out ?_
   rintro e w1 ⟨ys,ns,rfl,hsay,hb1⟩
   have HSAY:Hid _:=hsay.not
   obtain⟨V,HVV⟩:∃V,Hid (twoC ys ns=V):=⟨_,rfl⟩
   rw[HVV.out]
   obtain⟨i1,i2,i3⟩:=HTWO.out ys ns
   rw[HVV.out] at i1 i2 i3
   have J1:Hid _:=i1
   have J2:Hid _:=i2
   have J3:Hid _:=i3
   obtain⟨W5,HW5⟩:∃W5,Hid (W5=(w1.alloc (.cells ZZ 214)).setRow w1.heap.size V):=⟨_,rfl⟩
   have hw5:Below w1.heap.size w1 W5:=by rw[HW5.out];exact Below.setRow ((Below.refl _ _).alloc (Nat.le_refl _) _) (Nat.le_refl _) _
   have HB5:Hid (Below W0.heap.size W0 W5):=hb1.trans (hw5.mono hb1.size)
   have HG5:Hid (W5.heap[w1.heap.size]? =some (.cells V 214 (0,0))):=by rw[HW5.out];exact setRow_heap _ _ ZZ _ _ _ (heap_alloc_new w1 _)
   have HG4:Hid (W5.heap[w.heap.size+1]? =some (.cells ZZ 214 (0,0))):=(HB5.out.block _ (by omega)).trans HQ1.out
   obtain⟨Y,HYC⟩:∃Y,Hid (setC ys=Y):=⟨_,rfl⟩
   obtain⟨N,HNC⟩:∃Y,Hid (setC ns=Y):=⟨_,rfl⟩
   obtain⟨VR,HVR⟩:∃V,Hid (twoC ns ys=V):=⟨_,rfl⟩
   have HYI:Hid ((Tryz.prog.info? 107).map (·.size)=some Y.size):=by rw[←HYC.out];exact setC_info _
   have HNI:Hid ((Tryz.prog.info? 107).map (·.size)=some N.size):=by rw[←HNC.out];exact setC_info _
   have HPY:Hid (∀j v,Y[j]? =some v→V[0+j]? =some v):=by rw[←HYC.out,←HVV.out];exact twoC_yes ys ns
   have HPN:Hid (∀j v,N[j]? =some v→V[64+j]? =some v):=by rw[←HNC.out,←HVV.out];exact twoC_no ys ns
   have HBU:Hid (∀w,(Instr.build 214 #[(0,.agg N),(1,.agg Y)]).run Tryz.prog w=.ok (.agg VR) w):=by rw[←HYC.out,←HNC.out,←HVR.out];exact run_build_two _ _
   obtain⟨k1,k2,k3⟩:=HTWO.out ns ys
   rw[HVR.out] at k1 k2 k3
   have L1:Hid _:=k1
   have L2:Hid _:=k2
   have L3:Hid _:=k3
   have HBF:Hid (Below w.heap.size w W5):=HB0.out.trans (HB5.out.mono HB0.out.size)
   clear i1 i2 i3 k1 k2 k3 hsay hb1 hw5 r0 r1 r2 r3 r4 r5 r6
   go_wp2_with (first|(refine wpList_store_row rfl 214 _ _ rfl w1.heap.size rfl V rfl 214 ZZ (heap_alloc_new w1 _) J1.out J3.out J2.out ?_;rw[←HW5.out])|(refine wpList_load_off rfl 107 _ rfl w1.heap.size 64 rfl 214 V N (0,0) _ HG5.out HPN.out Tryz.underlying107 rfl HNI.out ?_)|(refine wpList_load_off rfl 107 _ rfl w1.heap.size 0 rfl 214 V Y (0,0) _ HG5.out HPY.out Tryz.underlying107 rfl HYI.out ?_)|(refine wpList_build_is rfl 214 _ rfl (.agg VR) #[(0,.agg N),(1,.agg Y)] (by simp[Act.eval,Act.put]) (HBU.out _) ?_)|(refine wpList_store_row rfl 214 _ _ rfl (w.heap.size+1) rfl VR rfl 214 ZZ HG4.out L1.out L3.out L2.out ?_))
   refine bodyPost_ret (v:=.agg VR) (results_cell_row rfl _ _ (w.heap.size+1) 214 VR (0,0) _ rfl (setRow_heap _ _ ZZ _ _ _ HG4.out) Tryz.underlying214 rfl L1.out) rfl ⟨ns,ys,by rw[HVR.out],HSAY.out,Below.setRow HBF.out (by omega) _⟩
  ·have hk2:(kd==2)=false:=by simpa using hk2
   have hpp:Parts W0 (fun k=>k<W0.heap.size) a (.slice (some ⟨pg,0,none⟩) gs.length cap) gs:=⟨own_kept hp.owns (fun k o hk ho=>(hb0.block k (by cases hk;exact hpg)).trans ho),fun k e=>(by cases e;show pg<W0.heap.size;omega),hp.ne,fun g hg=>⟨(hp.each g hg).1.belowS hb0,(hp.each g hg).2⟩,hp.how⟩
   have hih:∀g∈gs,JudgeC vb fs fv hb mt mh th F pos all g.2:=fun g hg=>ih g.2 (hp.each g hg).2.1
   have HC:Hid (Calls Tryz.prog 146 #[.pointer (some ⟨vb,0,none⟩),.agg #[.int .i64 kd,.slice (some ⟨pg,0,none⟩) gs.length cap,.string ⟨#[]⟩,.int .i64 0,.string ⟨#[]⟩,.int .i64 0,.slice none 0 0]] W0 fun e w'=>∃ys ns,e=.returned (.agg (twoC ys ns))∧Says fs th a ys ns∧Below W0.heap.size W0 w'):=by
    rcases hp.how with⟨e,_⟩|⟨e,hj⟩|⟨e,hj⟩
    ·rw[HKD.out] at e;rw[e] at hk2;cases hk2
    ·rw[HKD.out] at e
     subst e
     exact chain_core (H.out.below hb0) 1 197 198 andB orB .and Tryz.call197 Tryz.call198 and_any or_any layings_and (fun h1 h2=>h1.and h2) a _ gs hpp hj hev hih
    ·rw[HKD.out] at e
     subst e
     exact chain_core (H.out.below hb0) 0 198 197 orB andB .or Tryz.call198 Tryz.call197 or_any and_any layings_or (fun h1 h2=>h1.or h2) a _ gs hpp hj hev hih
   clear h hr hp hpp hih hev ih q0 hne hb0
   go_enter Tryz.func114,Tryz.ntmps114
   go_wp2_with fail
   rw[←HW0.out]
   refine Calls.mono HC.out ?_
   rintro e w1 ⟨ys,ns,rfl,hsay,hb1⟩
   have HSAY:Hid _:=hsay
   obtain⟨V,HVV⟩:∃V,Hid (twoC ys ns=V):=⟨_,rfl⟩
   rw[HVV.out]
   obtain⟨i1,i2,i3⟩:=HTWO.out ys ns
   rw[HVV.out] at i1 i2 i3
   have J1:Hid _:=i1
   have J2:Hid _:=i2
   have J3:Hid _:=i3
   have HG:Hid (w1.heap[w.heap.size+1]? =some (.cells ZZ 214 (0,0))):=(hb1.block _ (by omega)).trans HQ1.out
   have HB1:Hid (Below w.heap.size w w1):=HB0.out.trans (hb1.mono HB0.out.size)
   clear i1 i2 i3 hsay hb1
   go_wp2_with (first|(refine wpList_store_row rfl 214 _ _ rfl (w.heap.size+1) rfl V rfl 214 ZZ HG.out J1.out J3.out J2.out ?_))
   refine bodyPost_ret (v:=.agg V) (results_cell_row rfl _ _ (w.heap.size+1) 214 V (0,0) _ rfl (setRow_heap _ _ ZZ _ _ _ HG.out) Tryz.underlying214 rfl J1.out) rfl ⟨ys,ns,by rw[HVV.out],HSAY.out,Below.setRow HB1.out (by omega) _⟩
theorem judge_all (hfl:fs.length≤4):∀a:Doc.Ast,JudgeC vb fs fv hb mt mh th F pos all a:=by
 have:∀(n:Nat) (a:Doc.Ast),SizeOf.sizeOf a<n→JudgeC vb fs fv hb mt mh th F pos all a:=by
  intro n
  induction n with
  |zero=>intro a h;omega
  |succ n ih=>intro a h;exact judge_step hfl a (fun b hb=>ih b (by omega))
 exact fun a=>this _ a (Nat.lt_succ_self _)
end
section
variable {w:World}{fs:List Doc.Fld}{fv:Value}{hb mt mh:Nat}{th:Has}{F:Nat→Prop}{pos:Int→Value×Value}
set_option maxHeartbeats 4000000 in
theorem sift_any (h:ShelfAt w F hb th mt mh pos)(hs:Sl w fv fs.length (fldsC fs))(hfl:fs.length≤4)(hfit:Fits fs th)(a:Doc.Ast)(cs:List Value)(hr:RepT w (fun k=>k<w.heap.size) 0 cs a)(hev:Doc.Every (TestIn fs) a):
  Calls Tryz.prog 71 #[.agg cs.toArray,fv,.pointer (some ⟨hb,0,none⟩)] w fun e w'=>∃ys,e=.returned (.agg (setC ys))∧(∀j,j<4096→memB ys j=saysY fs th a j)∧Below w.heap.size w w':=by
 obtain⟨Z,hz,HZ⟩:∃Z,(∀w,(zeroValue 107).run Tryz.prog w=.ok (.agg Z) w)∧Hid (Z=setC zeroB):=⟨_,zero_set,rfl⟩
 obtain⟨b1,n1,m1,s1,s2,na1,na2,b2,n2,m2,hcs⟩:=(hr.five rfl).has
 obtain⟨x,HX⟩:∃x:Int,Hid (x=kindOf a):=⟨_,rfl⟩
 rw[←HX.out] at hcs
 subst hcs
 obtain⟨fa,fc,hfv⟩:=hs.slice
 subst hfv
 obtain⟨W0,HW0⟩:∃W0,Hid (W0=(w.alloc (.cells #[.int .i64 x,.slice b1 n1 m1,.string s1,.int .i64 na1,.string s2,.int .i64 na2,.slice b2 n2 m2] 69)).alloc (.cells Z 107)):=⟨_,rfl⟩
 have hb0:Below w.heap.size w W0:=by rw[HW0.out];exact((Below.refl _ _).alloc (Nat.le_refl _) _).alloc (by simp) _
 have q0:W0.heap[w.heap.size]? =some (.cells #[.int .i64 x,.slice b1 n1 m1,.string s1,.int .i64 na1,.string s2,.int .i64 na2,.slice b2 n2 m2] 69 (0,0)):=by rw[HW0.out];exact heap_alloc2_old w _ _
 have HQ0:Hid _:=q0
 have HQ1:Hid (W0.heap[w.heap.size+1]? =some (.cells Z 107 (0,0))):=by rw[HW0.out];exact heap_alloc2_new w _ _
 have hz0:W0.heap.size=w.heap.size+2:=by rw[HW0.out];simp
 have HA:Hid _:=all_any (h.kept (w':=W0) (F':=F) (fun k _ hk=>hb0.block k hk) (fun _ hk _=>hk))
 have HB0:Hid _:=hb0
 have H:Hid _:=h
 have HS:Hid _:=hs
 have HFIT:Hid _:=hfit
 have HR:Hid _:=hr
 have HEV:Hid _:=hev
 clear h hs hfit hr hev hb0 q0
 go_enter Tryz.func71,Tryz.ntmps71
 go_wp2_with fail
 rw[←HW0.out]
 refine Calls.mono HA.out ?_
 rintro e w1 ⟨all,rfl,hall,hb1⟩
 have HALL:Hid _:=hall
 have HB1:Hid (Below w.heap.size w w1):=HB0.out.trans (hb1.mono HB0.out.size)
 obtain⟨A,HAC⟩:∃A,Hid (setC all=A):=⟨_,rfl⟩
 obtain⟨SV,HSV⟩:∃A,Hid (sieveC (.slice fa fs.length fc) hb all=A):=⟨_,rfl⟩
 rw[HAC.out]
 have HBU:Hid (∀w,(Instr.build 212 #[(0,.slice fa fs.length fc),(1,.pointer (some ⟨hb,0,none⟩)),(2,.agg A)]).run Tryz.prog w=.ok (.agg SV) w):=by rw[←HAC.out,←HSV.out];exact run_build_sieve _ _ _ _ _
 have hW1:w1.heap[w.heap.size]? =some (.cells #[.int .i64 x,.slice b1 n1 m1,.string s1,.int .i64 na1,.string s2,.int .i64 na2,.slice b2 n2 m2] 69 (0,0)):=(hb1.block _ (by omega)).trans HQ0.out
 have HG1:Hid (w1.heap[w.heap.size+1]? =some (.cells Z 107 (0,0))):=(hb1.block _ (by omega)).trans HQ1.out
 have hw1l:w.heap.size+2≤w1.heap.size:=by have:=hb1.size;omega
 clear hall hb1
 obtain⟨W2,HW2⟩:∃W2,Hid (W2=w1.alloc (.cells SV 212)):=⟨_,rfl⟩
 have hb2:Below w1.heap.size w1 W2:=by rw[HW2.out];exact(Below.refl _ _).alloc (Nat.le_refl _) _
 have hbw:Below w.heap.size w W2:=HB1.out.trans (hb2.mono HB1.out.size)
 have q2:=(hb2.block w.heap.size (by omega)).trans hW1
 have t0:=blk_cell q2 0 _ rfl
 have t1:=blk_cell q2 1 _ rfl
 have t2:=blk_cell q2 2 _ rfl
 have t3:=blk_cell q2 3 _ rfl
 have t4:=blk_cell q2 4 _ rfl
 have t5:=blk_cell q2 5 _ rfl
 have t6:=blk_cell q2 6 _ rfl
 have hG2:W2.heap[w1.heap.size]? =some (.cells SV 212 (0,0)):=by rw[HW2.out];exact heap_alloc_new w1 _
 have HSI:Hid (SieveAt W2 w1.heap.size fs (.slice fa fs.length fc) hb mt mh th F pos all):=⟨by rw[HSV.out];exact hG2,HS.out.below hbw,H.out.kept (fun k _ hk=>hbw.block k hk) (fun _ hk _=>hk),HFIT.out,HALL.out⟩
 have HC:Hid _:=judge_all hfl a W2 _ HSI.out (HR.out.belowS hbw) HEV.out
 have HG2:Hid (W2.heap[w.heap.size+1]? =some (.cells Z 107 (0,0))):=(hb2.block _ (by omega)).trans HG1.out
 have HBW:Hid _:=hbw
 have hw2l:w.heap.size+2≤W2.heap.size:=by have:=hb2.size;omega
 clear hb2 hbw q2 hG2 hW1
 go_wp2_with (first|(refine wpList_build_is rfl 212 _ rfl (.agg SV) #[(0,.slice fa fs.length fc),(1,.pointer (some ⟨hb,0,none⟩)),(2,.agg A)] (by simp[Act.eval,Act.put]) (HBU.out _) ?_)|(refine wpList_box_is rfl 212 _ rfl SV (by simp[Act.eval,Act.put]) ?_;rw[←HW2.out]))
 refine Calls.mono HC.out ?_
 rintro e w3 ⟨ys,ns,rfl,hsay,hb3⟩
 have HSAY:Hid _:=hsay
 obtain⟨V,HVV⟩:∃V,Hid (twoC ys ns=V):=⟨_,rfl⟩
 obtain⟨Y,HYC⟩:∃Y,Hid (setC ys=Y):=⟨_,rfl⟩
 have hfy:∀w,(Instr.field 214 (.agg V) 0).run Tryz.prog w=.ok (.agg Y) w:=by rw[←HVV.out,←HYC.out];exact run_field_yes ys ns
 rw[HVV.out]
 have HYI:Hid ((Tryz.prog.info? 107).map (·.size)=some Y.size):=by rw[←HYC.out];exact setC_info _
 have HY1:Hid (Y.all (·.oneCell')=true):=by rw[←HYC.out];exact setC_one _
 have HYS:Hid (Z.size=Y.size):=by rw[←HYC.out,HZ.out];show _=_;rw[setC_size,setC_size]
 have HG3:Hid (w3.heap[w.heap.size+1]? =some (.cells Z 107 (0,0))):=(hb3.block _ (by omega)).trans HG2.out
 have HB3:Hid (Below w.heap.size w w3):=HBW.out.trans (hb3.mono HBW.out.size)
 clear hsay hb3 t0 t1 t2 t3 t4 t5 t6
 go_wp2_with (first|(refine wpList_store_row rfl 107 _ _ rfl (w.heap.size+1) rfl Y rfl 107 Z HG3.out HYI.out HYS.out HY1.out ?_))
 refine bodyPost_ret (v:=.agg Y) (results_cell_row rfl _ _ (w.heap.size+1) 107 Y (0,0) _ rfl (setRow_heap _ _ Z _ _ _ HG3.out) Tryz.underlying107 rfl HYI.out) rfl ⟨ys,by rw[HYC.out],fun j hj=>(HSAY.out j hj).1,Below.setRow HB3.out (by omega) _⟩
end
theorem every_len {a:Doc.Ast}(h:Doc.Every Doc.TestOk a):Doc.Every (fun _ _ l=>l.length≤1000000) a:=by
 induction a with
 |test n o l=>exact Nat.le_trans h.len (by decide)
 |not a ih=>exact ih h
 |and a b iha ihb=>exact⟨iha h.1,ihb h.2⟩
 |or a b iha ihb=>exact⟨iha h.1,ihb h.2⟩
section
variable {w:World}{F:Nat→Prop}{sb:Nat}{fs:List Doc.Fld}{space:Int}{th:Has}{fv:Value}{hb mt mh:Nat}{pos:Int→Value×Value}
set_option maxHeartbeats 4000000 in
theorem find_ok (h:ProgAt w F sb fs space th fv hb mt mh pos)(hsg:Signs w)(hg0:1<w.heap.size)(s:ByteArray)(hs:s.size≤200)(a:Doc.Ast)(j:Nat)(hp:Doc.parse (Doc.toks s 0)=.ok a j)(hev:Doc.Every Doc.TestOk a)(hc:Doc.check fs a=(0,0)):
  Calls Tryz.prog 45 #[.pointer (some ⟨sb,0,none⟩),.string s] w fun e w'=>∃ys,e=.returned (.tuple #[.agg (setC ys),.int .i64 0,.int .i64 0])∧(∀j,j<4096→memB ys j=saysY fs th a j)∧Below w.heap.size w w':=by
 obtain⟨Z,hz,HZ⟩:∃Z,(∀w,(zeroValue 107).run Tryz.prog w=.ok (.agg Z) w)∧Hid (Z=setC zeroB):=⟨_,zero_set,rfl⟩
 have hlt:=h.lt
 have H:Hid _:=h
 have hb0:Below w.heap.size w (w.alloc (.cells Z 107)):=(Below.refl _ _).alloc (Nat.le_refl _) _
 have HRD:Hid _:=read_any s hs (w.alloc (.cells Z 107)) (hsg.below hb0 hg0) (by simp;omega)
 rw[hp] at HRD
 have HEV:Hid _:=hev
 have HC:Hid _:=hc
 clear h hp hev hc hsg
 go_enter Tryz.func45,Tryz.ntmps45
 go_wp2_with fail
 refine Calls.mono HRD.out ?_
 rintro e w1 ⟨cs0,rfl,hrep,hb1⟩
 obtain⟨b1,n1,m1,s1,s2,na1,na2,b2,n2,m2,hcs⟩:=(hrep.five rfl).has
 obtain⟨x,HX⟩:∃x:Int,Hid (x=kindOf a):=⟨_,rfl⟩
 rw[←HX.out] at hcs
 obtain rfl:cs0= #[.int .i64 x,.slice b1 n1 m1,.string s1,.int .i64 na1,.string s2,.int .i64 na2,.slice b2 n2 m2]:=by
  apply Array.toList_inj.1;exact hcs
 have hrep:RepT w1 (fun k=>k<w1.heap.size) 0 [.int .i64 x,.slice b1 n1 m1,.string s1,.int .i64 na1,.string s2,.int .i64 na2,.slice b2 n2 m2] a:=RepT.kept (F':=fun k=>k<w1.heap.size) hrep (fun k o _ ho=>ho) (fun k _ hk=>hk)
 obtain⟨W2,HW2⟩:∃W2,Hid (W2=w1.alloc (.cells #[.int .i64 x,.slice b1 n1 m1,.string s1,.int .i64 na1,.string s2,.int .i64 na2,.slice b2 n2 m2] 69)):=⟨_,rfl⟩
 have hb2:Below w1.heap.size w1 W2:=by rw[HW2.out];exact(Below.refl _ _).alloc (Nat.le_refl _) _
 have hbw:Below w.heap.size w W2:=(hb0.trans (hb1.mono (by simp))).trans (hb2.mono (by have:=hb1.size;simp at this;omega))
 have hrep2:=hrep.belowS hb2
 have hq:W2.heap[w1.heap.size]? =some (.cells #[.int .i64 x,.slice b1 n1 m1,.string s1,.int .i64 na1,.string s2,.int .i64 na2,.slice b2 n2 m2] 69 (0,0)):=by rw[HW2.out];exact heap_alloc_new w1 _
 have hz:w1.heap.size<W2.heap.size:=lt_block hq
 have hgz:W2.heap[w.heap.size]? =some (.cells Z 107 (0,0)):=((hb2.block _ (by have:=hb1.size;simp at this;omega)).trans (hb1.block _ (by simp))).trans (heap_alloc_new w _)
 have HSB:Hid (∀w':World,Below W2.heap.size W2 w'→w'.heap[w1.heap.size]? =some (.cells #[.int .i64 x,.slice b1 n1 m1,.string s1,.int .i64 na1,.string s2,.int .i64 na2,.slice b2 n2 m2] 69 (0,0))∧w'.cell? ⟨sb,0,none⟩=some fv∧w'.cell? ⟨sb,2,none⟩=some (.pointer (some ⟨hb,0,none⟩))∧w'.heap[w.heap.size]? =some (.cells Z 107 (0,0))∧Below w.heap.size w w'∧RepT w' (fun k=>k<w'.heap.size) 0 [.int .i64 x,.slice b1 n1 m1,.string s1,.int .i64 na1,.string s2,.int .i64 na2,.slice b2 n2 m2] a):=by
  intro w' h'
  have hbb:=hbw.trans (h'.mono hbw.size)
  exact⟨(h'.block _ hz).trans hq,(hbb.cell (p:=⟨sb,0,none⟩) hlt).trans H.out.cells.1,(hbb.cell (p:=⟨sb,2,none⟩) hlt).trans H.out.cells.2.2,(h'.block _ (lt_block hgz)).trans hgz,hbb,hrep2.belowS h'⟩
 obtain⟨fa,fc,hfv⟩:=(rowSl H.out.fld).slice
 subst hfv
 have hf4:=H.out.len.2
 have HCH:Hid (∀W:World,Below W2.heap.size W2 W→Calls Tryz.prog 70 #[.agg #[.int .i64 x,.slice b1 n1 m1,.string s1,.int .i64 na1,.string s2,.int .i64 na2,.slice b2 n2 m2],.slice fa fs.length fc] W fun e w'=>e=.returned (.tuple #[.int .i64 0,.int .i64 0])∧Below W.heap.size W w'):=by
  intro W hW
  obtain⟨_,_,_,_,p1,p2⟩:=HSB.out W hW
  have:=check_all fs (by omega) _ a W _ ((rowSl H.out.fld).below p1) p2 (every_len HEV.out)
  rw[HC.out] at this
  exact this
 have HSF:Hid (∀W:World,Below W2.heap.size W2 W→Calls Tryz.prog 71 #[.agg #[.int .i64 x,.slice b1 n1 m1,.string s1,.int .i64 na1,.string s2,.int .i64 na2,.slice b2 n2 m2],.slice fa fs.length fc,.pointer (some ⟨hb,0,none⟩)] W fun e w'=>∃ys,e=.returned (.agg (setC ys))∧(∀j,j<4096→memB ys j=saysY fs th a j)∧Below W.heap.size W w'):=by
  intro W hW
  obtain⟨_,_,_,_,p1,p2⟩:=HSB.out W hW
  exact sift_any (H.out.shf.kept (fun k _ hk=>p1.block k hk) (fun _ hk _=>hk)) ((rowSl H.out.fld).below p1) hf4 (fun id t ht=>(H.out.fits id t ht).2) a _ p2 (check_in HEV.out HC.out)
 have HS0:Hid (Below W2.heap.size W2 W2.drew):=Below.drew (Below.refl _ _)
 clear hb0 hb1 hb2 hbw hrep hrep2 hq hgz hcs
 go_wp2_with fail
 rw[←HW2.out]
 have HTI:Hid ((Tryz.prog.info? 69).map (·.size)=some (#[Value.int .i64 x,.slice b1 n1 m1,.string s1,.int .i64 na1,.string s2,.int .i64 na2,.slice b2 n2 m2]:Array Value).size):=(by kernel_rfl:(Tryz.prog.info? 69).map (·.size)=some 7)
 refine wp_region_M 10 (fun w'=>Below W2.heap.size W2 w') (by kernel_rfl) ?_
 refine anyM_t (i:=0) (v:=.agg #[.int .i64 x,.slice b1 n1 m1,.string s1,.int .i64 na1,.string s2,.int .i64 na2,.slice b2 n2 m2]) rfl (by kernel_rfl) (fun _ _ _ h=>h) rfl rfl HS0.out (fun w' hSw=>by obtain⟨p0,p1,p2,p3,p4,p5⟩:=HSB.out w' hSw;exact run_load_all 69 _ rfl w1.heap.size rfl 69 _ (0,0) _ p0 Tryz.underlying69 rfl HTI.out) ?_
 simp only[takes]
 refine anyM_t (i:=1) (v:=.pointer (some ⟨sb,0,none⟩)) rfl (by kernel_rfl) (fun _ _ _ h=>h) rfl rfl HS0.out (fun w' hSw=>by obtain⟨p0,p1,p2,p3,p4,p5⟩:=HSB.out w' hSw;go_simp) ?_
 simp only[takes]
 refine anyM_t (i:=2) (v:=.pointer (some ⟨sb,0,none⟩)) rfl (by kernel_rfl) (fun _ _ _ h=>h) rfl rfl HS0.out (fun w' hSw=>by obtain⟨p0,p1,p2,p3,p4,p5⟩:=HSB.out w' hSw;go_simp) ?_
 simp only[takes]
 refine anyM_t (i:=3) (v:=.pointer (some ⟨sb,0,none⟩)) rfl (by kernel_rfl) (fun _ _ _ h=>h) rfl rfl HS0.out (fun w' hSw=>by obtain⟨p0,p1,p2,p3,p4,p5⟩:=HSB.out w' hSw;go_simp) ?_
 simp only[takes]
 refine anyM_t (i:=4) (v:=.slice fa fs.length fc) rfl (by kernel_rfl) (fun _ _ _ h=>h) rfl rfl HS0.out (fun w' hSw=>by obtain⟨p0,p1,p2,p3,p4,p5⟩:=HSB.out w' hSw;go_simp) ?_
 simp only[takes]
 refine anyM_one (i:=5) (by kernel_rfl) rfl rfl (fun K hK=>?_)
 go_simp
 refine(HCH.out _ HS0.out).mono ?_
 rintro r w3 ⟨rfl,hb3⟩
 have hq3:Below W2.heap.size W2 w3:=Below.callB (Below.drew (Below.refl _ _)) (Nat.le_refl _) hb3
 refine hK.out _ _ (fun _=>hq3) ?_
 clear hK K
 try simp only[Act.put,takes]
 refine anyM_t (i:=6) (v:=.tuple #[.int .i64 0,.int .i64 0]) rfl (by kernel_rfl) (fun _ _ _ h=>h) rfl rfl hq3 (fun w' hSw=>by go_simp) ?_
 simp only[takes]
 refine anyM_t (i:=7) (v:=.int .i64 0) rfl (by kernel_rfl) (fun _ _ _ h=>h) rfl rfl hq3 (fun w' hSw=>by go_simp) ?_
 simp only[takes]
 refine anyM_t (i:=8) (v:=.int .i64 0) rfl (by kernel_rfl) (fun _ _ _ h=>h) rfl rfl hq3 (fun w' hSw=>by go_simp) ?_
 simp only[takes]
 refine anyM_t (i:=9) (v:=.int .i64 0) rfl (by kernel_rfl) (fun _ _ _ h=>h) rfl rfl hq3 (fun w' hSw=>by go_simp) ?_
 simp only[takes]
 refine anyM_one (i:=10) (by kernel_rfl) rfl rfl (fun K hK=>?_)
 go_simp
 refine hK.out _ _ (fun _=>hq3) ?_
 clear hK K
 refine anyM_done (by kernel_rfl) ?_
 have HQ3:Hid _:=hq3
 clear hb3 hq3
 go_wp2_with fail
 obtain⟨Y0,HY0⟩:∃u:Nat,Hid (u=w.heap.size):=⟨_,rfl⟩
 have HS7:Hid (∀w':World,(∀k,k<w3.heap.size→k≠w.heap.size→w'.heap[k]? =w3.heap[k]?)→w'.heap[w1.heap.size]? =some (.cells #[.int .i64 x,.slice b1 n1 m1,.string s1,.int .i64 na1,.string s2,.int .i64 na2,.slice b2 n2 m2] 69 (0,0))∧w'.cell? ⟨sb,0,none⟩=some (.slice fa fs.length fc)∧w'.cell? ⟨sb,2,none⟩=some (.pointer (some ⟨hb,0,none⟩))):=by
  intro w' h'
  obtain⟨p0,p1,p2,p3,p4,p5⟩:=HSB.out w3 HQ3.out
  have hc:∀i,w'.cell? ⟨sb,i,none⟩=w3.cell? ⟨sb,i,none⟩:=fun i=>by simp[World.cell?,h' sb (by have:=p4.size;omega) (by omega)]
  refine⟨(h' _ (lt_block p0) ?_).trans p0,(hc 0).trans p1,(hc 2).trans p2⟩
  intro e
  rw[e,p3] at p0
  cases p0
 have HS0':Hid (∀k,k<w3.heap.size→k≠w.heap.size→w3.drew.heap[k]? =w3.heap[k]?):=fun _ _ _=>rfl
 clear HS0
 have HS0:=HS0'
 clear HS0' HY0
 refine wp_region_M 10 (fun w'=>∀k,k<w3.heap.size→k≠w.heap.size→w'.heap[k]? =w3.heap[k]?) (by kernel_rfl) ?_
 refine anyM_t (i:=0) (v:=.agg #[.int .i64 x,.slice b1 n1 m1,.string s1,.int .i64 na1,.string s2,.int .i64 na2,.slice b2 n2 m2]) rfl (by kernel_rfl) (fun _ _ _ h=>h) rfl rfl HS0.out (fun w' hSw=>by obtain⟨p0,p1,p2⟩:=HS7.out w' hSw;exact run_load_all 69 _ rfl w1.heap.size rfl 69 _ (0,0) _ p0 Tryz.underlying69 rfl HTI.out) ?_
 simp only[takes]
 refine anyM_t (i:=1) (v:=.pointer (some ⟨sb,0,none⟩)) rfl (by kernel_rfl) (fun _ _ _ h=>h) rfl rfl HS0.out (fun w' hSw=>by go_simp) ?_
 simp only[takes]
 refine anyM_t (i:=2) (v:=.pointer (some ⟨sb,0,none⟩)) rfl (by kernel_rfl) (fun _ _ _ h=>h) rfl rfl HS0.out (fun w' hSw=>by go_simp) ?_
 simp only[takes]
 refine anyM_t (i:=3) (v:=.pointer (some ⟨sb,0,none⟩)) rfl (by kernel_rfl) (fun _ _ _ h=>h) rfl rfl HS0.out (fun w' hSw=>by go_simp) ?_
 simp only[takes]
 refine anyM_t (i:=4) (v:=.slice fa fs.length fc) rfl (by kernel_rfl) (fun _ _ _ h=>h) rfl rfl HS0.out (fun w' hSw=>by obtain⟨p0,p1,p2⟩:=HS7.out w' hSw;go_simp) ?_
 simp only[takes]
 refine anyM_t (i:=5) (v:=.pointer (some ⟨sb,0,none⟩)) rfl (by kernel_rfl) (fun _ _ _ h=>h) rfl rfl HS0.out (fun w' hSw=>by go_simp) ?_
 simp only[takes]
 refine anyM_t (i:=6) (v:=.pointer (some ⟨sb,0,none⟩)) rfl (by kernel_rfl) (fun _ _ _ h=>h) rfl rfl HS0.out (fun w' hSw=>by go_simp) ?_
 simp only[takes]
 refine anyM_t (i:=7) (v:=.pointer (some ⟨sb,2,none⟩)) rfl (by kernel_rfl) (fun _ _ _ h=>h) rfl rfl HS0.out (fun w' hSw=>by go_simp) ?_
 simp only[takes]
 refine anyM_t (i:=8) (v:=.pointer (some ⟨hb,0,none⟩)) rfl (by kernel_rfl) (fun _ _ _ h=>h) rfl rfl HS0.out (fun w' hSw=>by obtain⟨p0,p1,p2⟩:=HS7.out w' hSw;go_simp) ?_
 simp only[takes]
 refine anyM_one (i:=9) (by kernel_rfl) rfl rfl (fun K hK=>?_)
 go_simp
 refine(HSF.out _ HQ3.out.drew).mono ?_
 rintro r w4 ⟨ys,rfl,hys,hb4⟩
 have hq4:Below W2.heap.size W2 w4:=Below.callB HQ3.out.drew (Nat.le_refl _) hb4
 have HYS:Hid _:=hys
 obtain⟨Y,HYC⟩:∃Y,Hid (setC ys=Y):=⟨_,rfl⟩
 rw[HYC.out]
 have HYI:Hid ((Tryz.prog.info? 107).map (·.size)=some Y.size):=by rw[←HYC.out];exact setC_info _
 have HY1:Hid (Y.all (·.oneCell')=true):=by rw[←HYC.out];exact setC_one _
 have HYZ:Hid (Z.size=Y.size):=by rw[←HYC.out,HZ.out];show _=_;rw[setC_size,setC_size]
 have HF:Hid _:=HSB.out w4 hq4
 have hS4:∀k,k<w3.heap.size→k≠w.heap.size→w4.heap[k]? =w3.heap[k]? :=fun k hk _=>hb4.block k hk
 have hS5:∀k,k<w3.heap.size→k≠w.heap.size→(w4.setRow w.heap.size Y).heap[k]? =w3.heap[k]? :=fun k hk hk2=>(setRow_other _ _ _ _ hk2).trans (hS4 k hk hk2)
 refine hK.out _ _ (fun _=>hS4) ?_
 clear hK K
 try simp only[Act.put,takes]
 refine anyM_one (i:=10) (by kernel_rfl) rfl rfl (fun K hK=>?_)
 refine wp_store_off 107 _ _ rfl w.heap.size 0 rfl Y rfl 107 Z HF.out.2.2.2.1 HYI.out (by have:=HYZ.out;omega) HY1.out rfl rfl ?_
 refine hK.out _ _ (fun h=>absurd rfl h) ?_
 clear hK K
 rw[lay_whole HYZ.out]
 refine anyM_one (i:=11) (by kernel_rfl) rfl rfl (fun K hK=>?_)
 go_simp
 refine hK.out _ _ (fun _=>hS5) ?_
 clear hK K
 try simp only[Act.put,takes]
 refine anyM_one (i:=12) (by kernel_rfl) rfl rfl (fun K hK=>?_)
 go_simp
 refine hK.out _ _ (fun _=>hS5) ?_
 clear hK K
 refine anyM_done (by kernel_rfl) ?_
 clear hS4 hS5 hys hb4 hq4
 go_wp2_with fail
 have hrv:=run_loadVar_row (P:=Tryz.prog) (w4.setRow w.heap.size Y) w.heap.size 107 107 Y (0,0) _ (setRow_heap _ _ Z _ _ _ HF.out.2.2.2.1) Tryz.underlying107 rfl HYI.out
 refine bodyPost_ret (v:=.tuple #[.agg Y,.int .i64 0,.int .i64 0]) (by simp[results,Tryz.results45,asAddr,hrv]) rfl ⟨ys,by rw[HYC.out],HYS.out,Below.setRow HF.out.2.2.2.2.1 (Nat.le_refl _) _⟩
set_option maxHeartbeats 4000000 in
theorem select_ok (h:ProgAt w F sb fs space th fv hb mt mh pos)(hsg:Signs w)(hg0:1<w.heap.size)(hT:Tab64 w)(hG:0<w.heap.size)(s:ByteArray)(hs:s.size≤200)(a:Doc.Ast)(j:Nat)(hp:Doc.parse (Doc.toks s 0)=.ok a j)(hev:Doc.Every Doc.TestOk a)(hc:Doc.check fs a=(0,0)):
  Calls Tryz.prog 40 #[.pointer (some ⟨sb,0,none⟩),.string s] w fun e w'=>∃v ys,e=.returned (.tuple #[v,.int .i64 0,.int .i64 0])∧(∀j,j<4096→memB ys j=saysY fs th a j)∧w'.ownsRow w.heap.size 3 1 v (nums ys).length (natC (nums ys))∧Below w.heap.size w w':=by
 obtain⟨Z,hz,HZ⟩:∃Z,(∀w,(zeroValue 107).run Tryz.prog w=.ok (.agg Z) w)∧Hid (Z=setC zeroB):=⟨_,zero_set,rfl⟩
 have HFD:Hid _:=find_ok h hsg hg0 s hs a j hp hev hc
 have HT:Hid (Tab64 w):=hT
 clear h hsg hp hev hc hT
 go_enter Tryz.func40,Tryz.ntmps40
 go_wp2_with fail
 refine Calls.mono HFD.out ?_
 rintro e w1 ⟨ys,rfl,hys,hb1⟩
 have HYS:Hid _:=hys
 obtain⟨Y,HYC⟩:∃Y,Hid (setC ys=Y):=⟨_,rfl⟩
 rw[HYC.out]
 have HYI:Hid ((Tryz.prog.info? 107).map (·.size)=some Y.size):=by rw[←HYC.out];exact setC_info _
 have HY1:Hid (Y.all (·.oneCell')=true):=by rw[←HYC.out];exact setC_one _
 have HYZ:Hid (Z.size=Y.size):=by rw[←HYC.out,HZ.out];show _=_;rw[setC_size,setC_size]
 obtain⟨W2,HW2⟩:∃W2,Hid (W2=(w1.alloc (.cells Z 107)).setRow w1.heap.size Y):=⟨_,rfl⟩
 have hb2:Below w1.heap.size w1 W2:=by rw[HW2.out];exact Below.setRow ((Below.refl _ _).alloc (Nat.le_refl _) _) (Nat.le_refl _) _
 have hbw:Below w.heap.size w W2:=hb1.trans (hb2.mono hb1.size)
 have HG2:Hid (W2.heap[w1.heap.size]? =some (.cells Y 107 (0,0))):=by rw[HW2.out];exact setRow_heap _ _ Z _ _ _ (heap_alloc_new w1 _)
 have HNM:Hid _:=nums_any ys W2 (HT.out.below hbw hG) (Nat.lt_of_lt_of_le hG hbw.size)
 rw[HYC.out] at HNM
 have HBW:Hid _:=hbw
 clear hys hb1 hb2 hbw
 go_wp2_with (first|(refine wpList_store_row rfl 107 _ _ rfl w1.heap.size rfl Y rfl 107 Z (heap_alloc_new w1 _) HYI.out HYZ.out HY1.out ?_;rw[←HW2.out])|(refine wpList_load_row rfl 107 _ rfl w1.heap.size rfl 107 Y (0,0) _ HG2.out Tryz.underlying107 rfl HYI.out ?_))
 refine Calls.mono HNM.out ?_
 rintro e w3 ⟨v,rfl,hown,hb3⟩
 obtain⟨vb,vc,rfl⟩:=row_slice hown
 have HO:Hid _:=own_less hown HBW.out.size
 have HB3:Hid (Below w.heap.size w w3):=HBW.out.trans (hb3.mono HBW.out.size)
 clear hown hb3
 go_wp2_with fail
 go_ret3
 exact⟨_,ys,rfl,HYS.out,HO.out,HB3.out⟩
end
end Go.Proofs.YtbnelaoeblhndaaGreatDoor
