import Derived.Test.YtbnelaoeblhndaaGreatDoorFiM1
namespace Go.Proofs.YtbnelaoeblhndaaGreatDoor
open Go.RowKit
set_option maxRecDepth 100000
structure SieveAt (w:World)(vb:Nat)(fs:List Doc.Fld)(fv:Value)(hb mt mh:Nat)(th:Has)(F:Nat→Prop)(pos:Int→Value×Value)(all:Bits):Prop where
 blk:w.heap[vb]? =some (.cells (sieveC fv hb all) 212 (0,0))
 fld:Sl w fv fs.length (fldsC fs)
 shf:ShelfAt w F hb th mt mh pos
 fit:Fits fs th
 alls:∀j,j<4096→(memB all j=true↔∃t,th (j:Int)=some t)
section
variable {w w':World}{vb:Nat}{fs:List Doc.Fld}{fv:Value}{hb mt mh:Nat}{th:Has}{F:Nat→Prop}{pos:Int→Value×Value}{all:Bits}
theorem SieveAt.lt (h:SieveAt w vb fs fv hb mt mh th F pos all):vb<w.heap.size:=lt_block h.blk
theorem SieveAt.below (h:SieveAt w vb fs fv hb mt mh th F pos all)(hB:Below w.heap.size w w'):SieveAt w' vb fs fv hb mt mh th F pos all:=
 ⟨(hB.block _ h.lt).trans h.blk,h.fld.below hB,h.shf.kept (fun k _ hk=>hB.block k hk) (fun _ hk _=>hk),h.fit,h.alls⟩
theorem SieveAt.cells (h:SieveAt w vb fs fv hb mt mh th F pos all):w.cell? ⟨vb,0,none⟩=some fv∧w.cell? ⟨vb,1,none⟩=some (.pointer (some ⟨hb,0,none⟩)):=by
 refine⟨blk_cell h.blk 0 _ ?_,blk_cell h.blk 1 _ ?_⟩
 ·rw[sieveC,Array.getElem?_append_left (by simp)];rfl
 ·rw[sieveC,Array.getElem?_append_left (by simp)];rfl
theorem lit_fine {t:Doc.Tok}(h:Doc.LitOk t):Fine (Doc.litV t):=by
 refine⟨?_,h.lo,h.hi,h.sz⟩
 show litK t=0∨litK t=1∨litK t=2
 unfold litK
 split
 ·exact .inr (.inr rfl)
 ·exact .inr (.inl rfl)
set_option maxHeartbeats 4000000 in
theorem havingOne_any (h:SieveAt w vb fs fv hb mt mh th F pos all)(f:Nat)(hf:f<4)(lits:List Doc.Tok)(hll:lits.length≤1000000)(hok:∀t∈lits,Doc.LitOk t)(lv:Value)(hv:Sl w lv lits.length (litsC lits)):
  Calls Tryz.prog 191 #[.pointer (some ⟨vb,0,none⟩),.int .i64 f,lv] w fun e w'=>∃ws:Bits,e=.returned (.agg (setC ws))∧(∀j,j<4096→(memB ws j=true↔∃t∈lits,Hof th j f (Doc.litV t)))∧Below w.heap.size w w':=by
 obtain⟨Z,hz,HZ⟩:∃Z,(∀w,(zeroValue 107).run Tryz.prog w=.ok (.agg Z) w)∧Hid (Z=setC zeroB):=⟨_,zero_set,rfl⟩
 obtain⟨c0,c1⟩:=h.cells
 have hlt:=h.lt
 have H:Hid _:=h
 have HV:Hid _:=hv
 have HOK:Hid _:=hok
 have HSZ:Hid (∀ws:Bits,Z.size=(setC ws).size):=fun ws=>by rw[HZ.out,setC_size,setC_size]
 obtain⟨la,lc,hlv⟩:=hv.slice
 subst hlv
 clear h hv hok
 go_enter Tryz.func191,Tryz.ntmps191
 go_wp2_with fail
 go_loopw [12] (fun i wr=>∃(k:Nat) (ws:Bits),k≤lits.length∧i=.int .i64 k∧Below w.heap.size w wr∧Hid (wr.heap[w.heap.size+1]? =some (.cells (setC ws) 107 (0,0)))∧Hid (wr.heap[w.heap.size]? =some (.cells Z 107 (0,0)))∧Hid (∀j,j<4096→(memB ws j=true↔∃t∈lits.take k,Hof th j f (Doc.litV t)))) (fun i _=>lits.length-(intOf i).toNat)
 case atStart=>exact⟨0,zeroB,Nat.zero_le _,rfl,((Below.refl _ _).alloc (Nat.le_refl _) _).alloc (by simp) _,by show _=_;rw[heap_alloc2_new,HZ.out],heap_alloc2_old w _ _,fun j hj=>by simp[memB_zero]⟩
 case round=>
  obtain⟨k,ws,hk,rfl,hB,HG1,HG0,HWS⟩:=hrel
  have hsz:=hB.size
  by_cases hk2:k<lits.length
  ·rcases HV.out.has with⟨h0',_⟩|⟨_,lb,lo,lcap,elv,hc2,hlt2,hr2⟩
   ·omega
   cases elv
   obtain⟨x,HX⟩:∃x,Hid (x=lits[k]):=⟨lits[k],rfl⟩
   have rr:∀i (_:i<4),wr.cell? ⟨lb,lo+k*4+i,none⟩=(litC x)[i]? :=fun i hi=>by
    have hf:=flat_at litC 4 litC_len lits k hk2 i hi
    have hlc:((litC lits[k])[i]?).isSome=true:=by
     rw[List.getElem?_eq_getElem (by rw[litC_len];exact hi)];rfl
    obtain⟨u,hu⟩:=Option.isSome_iff_exists.1 hlc
    rw[hB.cell (p:=⟨lb,lo+k*4+i,none⟩) hlt2,HX.out,hu,Nat.add_assoc]
    exact hr2 (k*4+i) u (by unfold litsC;rw[hf,hu])
   have r0:wr.cell? ⟨lb,lo+k*4,none⟩=some (.int .i64 (litK x)):=rr 0 (by omega)
   have r1:wr.cell? ⟨lb,lo+k*4+1,none⟩=some (.int .i64 x.N):=rr 1 (by omega)
   have r2:wr.cell? ⟨lb,lo+k*4+2,none⟩=some (.string x.S):=rr 2 (by omega)
   have r3:wr.cell? ⟨lb,lo+k*4+3,none⟩=some (.int .i64 x.at_):=rr 3 (by omega)
   clear rr hr2
   have HFX:Hid (Fine (Doc.litV x)):=lit_fine (HOK.out x (by rw[HX.out];exact List.getElem_mem hk2))
   obtain⟨vs,HVS⟩:∃vs,Hid (∀j,j<4096→(memB vs j=true↔Hof th j f (Doc.litV x))):=exists_set (fun j=>Hof th j f (Doc.litV x))
   obtain⟨D,HD⟩:∃D,Hid (setC vs=D):=⟨_,rfl⟩
   obtain⟨C,HC⟩:∃C,Hid (setC ws=C):=⟨_,rfl⟩
   obtain⟨R,HR⟩:∃R,Hid (setC (orB ws vs)=R):=⟨_,rfl⟩
   have HHV:Hid (∀W,Below w.heap.size w W→Calls Tryz.prog 170 #[.pointer (some ⟨hb,0,none⟩),.int .i64 f,.agg #[.int .i64 (litK x),.int .i64 x.N,.string x.S]] W fun e w'=>e=.returned (.agg D)∧Below W.heap.size W w'):=by
    intro W hW
    refine(having_any (H.out.below hW).shf f hf (Doc.litV x) HFX.out).mono ?_
    rintro e w2 ⟨us,rfl,hus,hb2⟩
    refine⟨?_,hb2⟩
    rw[←HD.out,setC_ext (fun j hj=>Bool.eq_iff_iff.2 ((hus j hj).trans (HVS.out j hj).symm))]
   have HOR:Hid (∀w:World,Calls Tryz.prog 198 #[.agg C,.agg D] w fun e w'=>e=.returned (.agg R)∧Below w.heap.size w w'):=by
    rw[←HC.out,←HD.out,←HR.out];exact or_any ws vs
   have HCI:Hid ((Tryz.prog.info? 107).map (·.size)=some C.size):=by rw[←HC.out];exact setC_info _
   have HRI:Hid ((Tryz.prog.info? 107).map (·.size)=some R.size):=by rw[←HR.out];exact setC_info _
   have HR1:Hid (R.all (·.oneCell')=true):=by rw[←HR.out];exact setC_one _
   have HRS:Hid (C.size=R.size):=by show _=_;rw[←HC.out,←HR.out,setC_size,setC_size]
   obtain⟨W0,HW0⟩:∃W0,Hid (W0=wr.alloc (.cells #[.int .i64 (litK x),.int .i64 x.N,.string x.S,.int .i64 x.at_] 230)):=⟨_,rfl⟩
   have hb0:Below w.heap.size w W0:=by rw[HW0.out];exact hB.alloc hsz _
   have hbox:W0.heap[wr.heap.size]? =some (.cells #[.int .i64 (litK x),.int .i64 x.N,.string x.S,.int .i64 x.at_] 230 (0,0)):=by rw[HW0.out];exact heap_alloc_new wr _
   have hrow:W0.heap[w.heap.size+1]? =some (.cells C 107 (0,0)):=by
    rw[HW0.out,heap_alloc_old _ _ (lt_block HG1.out),←HC.out];exact HG1.out
   have hz0:W0.heap.size=wr.heap.size+1:=by rw[HW0.out];simp
   have hgl:=lt_block HG1.out
   have HSB:Hid (∀w':World,Below W0.heap.size W0 w'→w'.heap[w.heap.size+1]? =some (.cells C 107 (0,0))∧w'.cell? ⟨vb,1,none⟩=some (.pointer (some ⟨hb,0,none⟩))∧w'.cell? ⟨wr.heap.size,0,none⟩=some (.int .i64 (litK x))∧w'.cell? ⟨wr.heap.size,1,none⟩=some (.int .i64 x.N)∧w'.cell? ⟨wr.heap.size,2,none⟩=some (.string x.S)):=by
    intro w' h'
    have q:=(h'.block wr.heap.size (by omega)).trans hbox
    exact⟨(h'.block (w.heap.size+1) (by omega)).trans hrow,((h'.cell (p:=⟨vb,1,none⟩) (by show vb<_;omega)).trans (hb0.cell (p:=⟨vb,1,none⟩) hlt)).trans c1,blk_cell q 0 _ rfl,blk_cell q 1 _ rfl,blk_cell q 2 _ rfl⟩
   have HB0:Hid _:=hb0
   have HS0:Hid (Below W0.heap.size W0 W0.drew):=Below.drew (Below.refl _ _)
   clear hrow hbox
   go_wp2_with fail
   rw[←HW0.out]
   refine wp_region_M 10 (fun w'=>Below W0.heap.size W0 w') (by kernel_rfl) ?_
   refine anyM_t (i:=0) (v:=.agg C) rfl (by kernel_rfl) (fun _ _ _ h=>h) rfl rfl HS0.out (fun w' hSw=>run_load_all 107 _ rfl (w.heap.size+1) rfl 107 C (0,0) _ (HSB.out w' hSw).1 Tryz.underlying107 rfl HCI.out) ?_
   simp only[takes]
   refine anyM_t (i:=1) (v:=.pointer (some ⟨vb,0,none⟩)) rfl (by kernel_rfl) (fun _ _ _ h=>h) rfl rfl HS0.out (fun w' hSw=>by obtain⟨_,d1,d2,d3,d4⟩:=HSB.out w' hSw;go_simp) ?_
   simp only[takes]
   refine anyM_t (i:=2) (v:=.pointer (some ⟨vb,0,none⟩)) rfl (by kernel_rfl) (fun _ _ _ h=>h) rfl rfl HS0.out (fun w' hSw=>by obtain⟨_,d1,d2,d3,d4⟩:=HSB.out w' hSw;go_simp) ?_
   simp only[takes]
   refine anyM_t (i:=3) (v:=.pointer (some ⟨vb,1,none⟩)) rfl (by kernel_rfl) (fun _ _ _ h=>h) rfl rfl HS0.out (fun w' hSw=>by obtain⟨_,d1,d2,d3,d4⟩:=HSB.out w' hSw;go_simp) ?_
   simp only[takes]
   refine anyM_t (i:=4) (v:=.pointer (some ⟨hb,0,none⟩)) rfl (by kernel_rfl) (fun _ _ _ h=>h) rfl rfl HS0.out (fun w' hSw=>by obtain⟨_,d1,d2,d3,d4⟩:=HSB.out w' hSw;go_simp) ?_
   simp only[takes]
   refine anyM_t (i:=5) (v:=.int .i64 f) rfl (by kernel_rfl) (fun _ _ _ h=>h) rfl rfl HS0.out (fun w' hSw=>by obtain⟨_,d1,d2,d3,d4⟩:=HSB.out w' hSw;go_simp) ?_
   simp only[takes]
   refine anyM_t (i:=6) (v:=.pointer (some ⟨wr.heap.size,0,none⟩)) rfl (by kernel_rfl) (fun _ _ _ h=>h) rfl rfl HS0.out (fun w' hSw=>by obtain⟨_,d1,d2,d3,d4⟩:=HSB.out w' hSw;go_simp) ?_
   simp only[takes]
   refine anyM_t (i:=7) (v:=.agg #[.int .i64 (litK x),.int .i64 x.N,.string x.S]) rfl (by kernel_rfl) (fun _ _ _ h=>h) rfl rfl HS0.out (fun w' hSw=>by obtain⟨_,d1,d2,d3,d4⟩:=HSB.out w' hSw;go_simp) ?_
   simp only[takes]
   refine anyM_one (i:=8) (by kernel_rfl) rfl rfl (fun K hK=>?_)
   go_simp
   refine(HHV.out _ (Below.drew HB0.out)).mono ?_
   rintro r w2 ⟨rfl,hb2⟩
   have hq2:Below W0.heap.size W0 w2:=Below.callB (Below.drew (Below.refl _ _)) (Nat.le_refl _) hb2
   refine hK.out _ _ (fun _=>hq2) ?_
   clear hK K
   try simp only[Act.put,takes]
   refine anyM_one (i:=9) (by kernel_rfl) rfl rfl (fun K hK=>?_)
   go_simp
   refine(HOR.out _).mono ?_
   rintro r w3 ⟨rfl,hb3⟩
   have hq3:Below W0.heap.size W0 w3:=Below.callB hq2 (Nat.le_refl _) hb3
   refine hK.out _ _ (fun _=>hq3) ?_
   clear hK K
   try simp only[Act.put,takes]
   refine anyM_one (i:=10) (by kernel_rfl) rfl rfl (fun K hK=>?_)
   refine wp_store_off 107 _ _ rfl (w.heap.size+1) 0 rfl R rfl 107 C (HSB.out w3 hq3).1 HRI.out (by have:=HRS.out;omega) HR1.out rfl rfl ?_
   refine hK.out _ _ (fun h=>absurd rfl h) ?_
   clear hK K
   rw[lay_whole HRS.out]
   refine anyM_done (by kernel_rfl) ?_
   have HB3:Hid (Below w.heap.size w w3):=HB0.out.trans (hq3.mono HB0.out.size)
   have HG0':Hid (w3.heap[w.heap.size]? =some (.cells Z 107 (0,0))):=by
    have h1:=hq3.block w.heap.size (by omega)
    rw[HW0.out,heap_alloc_old _ _ (by omega)] at h1
    exact h1.trans HG0.out
   have HG3:Hid (w3.heap[w.heap.size+1]? =some (.cells C 107 (0,0))):=(HSB.out w3 hq3).1
   clear hq2 hq3 hb2 hb3
   go_wp2_with fail
   go_roundw
   case rel=>
    refine⟨k+1,orB ws vs,by omega,by go_num,Below.setRow HB3.out (by omega) _,?_,(setRow_other _ _ _ _ (by omega)).trans HG0'.out,fun j hj=>?_⟩
    ·show _=_
     rw[HR.out];exact setRow_heap _ _ C _ _ _ HG3.out
    ·rw[memB_or,Bool.or_eq_true,HWS.out j hj,HVS.out j hj,List.take_add_one,List.getElem?_eq_getElem hk2,←HX.out]
     simp only[Option.toList_some,List.mem_append,List.mem_singleton]
     constructor
     ·rintro(⟨t,h1,h2⟩|h2)
      ·exact⟨t,.inl h1,h2⟩
      ·exact⟨x,.inr rfl,h2⟩
     ·rintro⟨t,h1|rfl,h2⟩
      ·exact .inl ⟨t,h1,h2⟩
      ·exact .inr h2
   case measure=>simp[intOf];omega
  ·obtain rfl:k=lits.length:=by omega
   obtain⟨C,HC⟩:∃C,Hid (setC ws=C):=⟨_,rfl⟩
   rw[HC.out] at HG1
   have HCI:Hid ((Tryz.prog.info? 107).map (·.size)=some C.size):=by rw[←HC.out];exact setC_info ws
   have HC1:Hid (C.all (·.oneCell')=true):=by rw[←HC.out];exact setC_one ws
   have HCS:Hid (Z.size=C.size):=by rw[←HC.out];exact HSZ.out ws
   go_wp2_with (first|(refine wpList_load_row rfl 107 _ rfl (w.heap.size+1) rfl 107 C (0,0) _ HG1.out Tryz.underlying107 rfl HCI.out ?_)|(refine wpList_store_row rfl 107 _ _ rfl w.heap.size rfl C rfl 107 Z HG0.out HCI.out HCS.out HC1.out ?_))
   refine bodyPost_ret (v:=.agg C) (results_cell_row rfl _ _ w.heap.size 107 C (0,0) _ rfl (setRow_heap _ _ Z _ _ _ HG0.out) Tryz.underlying107 rfl HCI.out) rfl ⟨ws,by rw[HC.out],fun j hj=>?_,Below.setRow hB (Nat.le_refl _) _⟩
   rw[HWS.out j hj,List.take_length]
end
section
variable {w:World}
theorem like_any (lb:Nat)(k n:Int)(s:ByteArray)(T:TypeId)(hl:w.heap[lb]? =some (.cells #[.int .i64 k,.int .i64 n,.string s] T (0,0)))(hs:s.size≤200)(x:Doc.Val)(hx:Fine x):
  Calls Tryz.prog 193 #[.agg #[.int .i64 x.k,.int .i64 x.n,.string x.s],.pointer (some ⟨lb,0,none⟩)] w fun e w'=>e=.returned (.bool (hasP x.s s))∧Below w.heap.size w w':=by
 have c2:w.cell? ⟨lb,2,none⟩=some (.string s):=blk_cell hl 2 _ rfl
 have hlt:=lt_block hl
 have hxs:=hx.2.2.2
 have HP:Hid (∀W:World,Calls Tryz.prog 160 #[.string x.s,.string s] W fun e w'=>e=.returned (.bool (hasP x.s s))∧w'=W):=fun W=>HasPrefix_any x.s s W (by omega) hs
 obtain⟨r,HR⟩:∃r,Hid (hasP x.s s=r):=⟨_,rfl⟩
 rw[HR.out] at HP ⊢
 clear hl hx
 go_enter Tryz.func193,Tryz.ntmps193
 go_wp2_with fail
 refine Calls.mono (HP.out _) ?_
 rintro e w1 ⟨rfl,rfl⟩
 go_wp2_with fail
 go_ret
 exact⟨rfl,(Below.refl _ _).alloc (Nat.le_refl _) _⟩
set_option maxHeartbeats 2000000 in
theorem order_any (lb tb:Nat)(l:Doc.Val)(T:TypeId)(hl:w.heap[lb]? =some (.cells #[.int .i64 l.k,.int .i64 l.n,.string l.s] T (0,0)))(sg:ByteArray)(ht:w.cell? ⟨tb,4,none⟩=some (.string sg))(htl:tb<w.heap.size)(x:Doc.Val):
  Calls Tryz.prog 194 #[.agg #[.int .i64 x.k,.int .i64 x.n,.string x.s],.pointer (some ⟨lb,0,none⟩),.pointer (some ⟨tb,0,none⟩)] w fun e w'=>e=.returned (.bool (Doc.standsB (Doc.cmpV x l) sg.toList))∧Below w.heap.size w w':=by
 have hlt:=lt_block hl
 obtain⟨W0,HW0⟩:∃W0,Hid (W0=w.alloc (.cells #[.int .i64 x.k,.int .i64 x.n,.string x.s] 94)):=⟨_,rfl⟩
 have hb0:Below w.heap.size w W0:=by rw[HW0.out];exact(Below.refl _ _).alloc (Nat.le_refl _) _
 have hbox:W0.heap[w.heap.size]? =some (.cells #[.int .i64 x.k,.int .i64 x.n,.string x.s] 94 (0,0)):=by rw[HW0.out];exact heap_alloc_new w _
 have hz0:W0.heap.size=w.heap.size+1:=by rw[HW0.out];simp
 have HSB:Hid (∀w':World,Below W0.heap.size W0 w'→w'.cell? ⟨w.heap.size,0,none⟩=some (.int .i64 x.k)∧w'.cell? ⟨w.heap.size,1,none⟩=some (.int .i64 x.n)∧w'.cell? ⟨w.heap.size,2,none⟩=some (.string x.s)∧w'.cell? ⟨lb,0,none⟩=some (.int .i64 l.k)∧w'.cell? ⟨lb,1,none⟩=some (.int .i64 l.n)∧w'.cell? ⟨lb,2,none⟩=some (.string l.s)∧w'.cell? ⟨tb,4,none⟩=some (.string sg)):=by
  intro w' h'
  have q:=(h'.block w.heap.size (by omega)).trans hbox
  have q1:=(h'.block lb (by omega)).trans ((hb0.block lb hlt).trans hl)
  exact⟨blk_cell q 0 _ rfl,blk_cell q 1 _ rfl,blk_cell q 2 _ rfl,blk_cell q1 0 _ rfl,blk_cell q1 1 _ rfl,blk_cell q1 2 _ rfl,((h'.cell (p:=⟨tb,4,none⟩) (by show tb<_;omega)).trans (hb0.cell (p:=⟨tb,4,none⟩) htl)).trans ht⟩
 obtain⟨o,HO⟩:∃o,Hid (Doc.cmpV x l=o):=⟨_,rfl⟩
 obtain⟨r,HR⟩:∃r,Hid (Doc.standsB o sg.toList=r):=⟨_,rfl⟩
 have HCM:Hid (∀W:World,Calls Tryz.prog 196 #[.agg #[.int .i64 x.k,.int .i64 x.n,.string x.s],.agg #[.int .i64 l.k,.int .i64 l.n,.string l.s]] W fun e w'=>e=.returned (.int .i64 o)∧Below W.heap.size W w'):=fun W=>by rw[←HO.out];exact compare_any x l
 have HST:Hid (∀W:World,Calls Tryz.prog 195 #[.int .i64 o,.string sg] W fun e w'=>e=.returned (.bool r)∧w'=W):=fun W=>by rw[←HR.out];exact stands_any o sg
 rw[HO.out,HR.out]
 have HS0:Hid (Below W0.heap.size W0 W0.drew):=Below.drew (Below.refl _ _)
 have HB0:Hid _:=hb0
 clear hl ht hbox
 go_enter Tryz.func194,Tryz.ntmps194
 go_wp2_with fail
 rw[←HW0.out]
 refine wp_region_M 6 (fun w'=>Below W0.heap.size W0 w') (by kernel_rfl) ?_
 refine anyM_t (i:=0) (v:=.agg #[.int .i64 x.k,.int .i64 x.n,.string x.s]) rfl (by kernel_rfl) (fun _ _ _ h=>h) rfl rfl HS0.out (fun w' hSw=>by obtain⟨d1,d2,d3,d4,d5,d6,d7⟩:=HSB.out w' hSw;go_simp) ?_
 simp only[takes]
 refine anyM_t (i:=1) (v:=.agg #[.int .i64 l.k,.int .i64 l.n,.string l.s]) rfl (by kernel_rfl) (fun _ _ _ h=>h) rfl rfl HS0.out (fun w' hSw=>by obtain⟨d1,d2,d3,d4,d5,d6,d7⟩:=HSB.out w' hSw;go_simp) ?_
 simp only[takes]
 refine anyM_t (i:=3) (v:=.pointer (some ⟨tb,4,none⟩)) rfl (by kernel_rfl) (fun _ _ _ h=>h) rfl rfl HS0.out (fun w' hSw=>by obtain⟨d1,d2,d3,d4,d5,d6,d7⟩:=HSB.out w' hSw;go_simp) ?_
 simp only[takes]
 refine anyM_t (i:=4) (v:=.string sg) rfl (by kernel_rfl) (fun _ _ _ h=>h) rfl rfl HS0.out (fun w' hSw=>by obtain⟨d1,d2,d3,d4,d5,d6,d7⟩:=HSB.out w' hSw;go_simp) ?_
 simp only[takes]
 refine anyM_one (i:=2) (by kernel_rfl) rfl rfl (fun K hK=>?_)
 go_simp
 refine(HCM.out _).mono ?_
 rintro r w2 ⟨rfl,hb2⟩
 have hq2:Below W0.heap.size W0 w2:=Below.callB (Below.drew (Below.refl _ _)) (Nat.le_refl _) hb2
 refine hK.out _ _ (fun _=>hq2) ?_
 clear hK K
 try simp only[Act.put,takes]
 refine anyM_one (i:=5) (by kernel_rfl) rfl rfl (fun K hK=>?_)
 go_simp
 refine(HST.out _).mono ?_
 rintro r w3 ⟨rfl,hw3⟩
 rw[hw3]
 refine hK.out _ _ (fun _=>hq2) ?_
 clear hK K
 try simp only[Act.put,takes]
 refine anyM_one (i:=6) (by kernel_rfl) rfl rfl (fun K hK=>?_)
 go_simp
 refine hK.out _ _ (fun _=>hq2) ?_
 clear hK K
 refine anyM_done (by kernel_rfl) ?_
 have HB3:Hid (Below w.heap.size w w2):=HB0.out.trans (hq2.mono HB0.out.size)
 go_wp2_with fail
 go_ret
 exact⟨rfl,HB3.out⟩
end
section
variable {w:World}{vb:Nat}{fs:List Doc.Fld}{fv:Value}{hb mt mh:Nat}{th:Has}{F:Nat→Prop}{pos:Int→Value×Value}{all:Bits}
theorem lit_ne {t:Doc.Tok}:((Doc.litV t).k==0)=false:=by
 show(litK t==0)=false
 unfold litK;split<;>rfl
theorem one_meets {o:Doc.Tok}{lits:List Doc.Tok}(h:(o.S.toList==[61] || o.S.toList==[105,110])=true)(j f:Nat):(∃t∈lits,Hof th j f (Doc.litV t))↔∃x,Hof th j f x∧(x.k==0)=false∧Doc.meetV x o lits=true:=by
 unfold Doc.meetV
 rw[h]
 simp only[cond_true,List.any_eq_true]
 constructor
 ·rintro⟨t,ht,h1⟩;exact⟨_,h1,lit_ne,t,ht,Doc.eqV_iff.2 rfl⟩
 ·rintro⟨x,h1,_,t,ht,h2⟩
  obtain rfl:=Doc.eqV_iff.1 h2
  exact⟨t,ht,h1⟩
set_option maxHeartbeats 4000000 in
theorem meeting_any (h:SieveAt w vb fs fv hb mt mh th F pos all)(f:Nat)(hf:f<4)(n o:Doc.Tok)(lits:List Doc.Tok)(hok:Doc.TestOk n o lits)(his:(o.S.toList==[105,115])=false)(lv:Value)(hv:Sl w lv lits.length (litsC lits)):
  Calls Tryz.prog 172 #[.pointer (some ⟨vb,0,none⟩),.int .i64 f,.agg #[.int .i64 3,.slice none 0 0,.string n.S,.int .i64 n.at_,.string o.S,.int .i64 o.at_,lv]] w fun e w'=>∃ws:Bits,e=.returned (.agg (setC ws))∧(∀j,j<4096→(memB ws j=true↔∃x,Hof th j f x∧(x.k==0)=false∧Doc.meetV x o lits=true))∧Below w.heap.size w w':=by
 obtain⟨Z,hz,HZ⟩:∃Z,(∀w,(zeroValue 107).run Tryz.prog w=.ok (.agg Z) w)∧Hid (Z=setC zeroB):=⟨_,zero_set,rfl⟩
 obtain⟨c0,c1⟩:=h.cells
 have hlt:=h.lt
 have hne:lits≠[]:=by
  rcases hok.which with⟨_,_,h⟩|⟨_,h,_⟩|⟨_,_,t,rfl⟩
  ·exact h
  ·rw[show Doc.wIs=[105,115] from rfl,his] at h;cases h
  ·simp
 have hpos:0<lits.length:=List.length_pos_iff.2 hne
 have hlen:=hok.len
 obtain⟨x,HX⟩:∃x,Hid (x=lits[0]):=⟨lits[0],rfl⟩
 have HTK:Hid (Doc.tk lits 0=x):=by show _=_;rw[HX.out,Doc.tk_eq hpos]
 have HLX:Hid (Doc.LitOk x):=hok.lits x (by rw[HX.out];exact List.getElem_mem hpos)
 have HOKL:Hid _:=hok.lits
 have H:Hid _:=h
 have HV:Hid _:=hv
 rcases hv.has with⟨h0',_⟩|⟨_,lb,lo,lcap,elv,hc2,hlt2,hr2⟩
 ·omega
 have rr:∀i (_:i<4),w.cell? ⟨lb,lo+i,none⟩=(litC x)[i]? :=fun i hi=>by
  have hf:=flat_at litC 4 litC_len lits 0 hpos i hi
  have hlc:((litC lits[0])[i]?).isSome=true:=by
   rw[List.getElem?_eq_getElem (by rw[litC_len];exact hi)];rfl
  obtain⟨u,hu⟩:=Option.isSome_iff_exists.1 hlc
  rw[HX.out,hu]
  exact hr2 i u (by rw[Nat.zero_mul,Nat.zero_add] at hf;unfold litsC;rw[hf,hu])
 have r0:w.cell? ⟨lb,lo,none⟩=some (.int .i64 (litK x)):=rr 0 (by omega)
 have r1:w.cell? ⟨lb,lo+1,none⟩=some (.int .i64 x.N):=rr 1 (by omega)
 have r2:w.cell? ⟨lb,lo+2,none⟩=some (.string x.S):=rr 2 (by omega)
 subst elv
 obtain⟨W0,HW0⟩:∃W0,Hid (W0=((w.alloc (.cells #[.int .i64 3,.slice none 0 0,.string n.S,.int .i64 n.at_,.string o.S,.int .i64 o.at_,.slice (some ⟨lb,lo,none⟩) lits.length lcap] 69)).alloc (.cells Z 107)).alloc (.cells #[.int .i64 (litK x),.int .i64 x.N,.string x.S] 94)):=⟨_,rfl⟩
 have hb0:Below w.heap.size w W0:=by rw[HW0.out];exact(((Below.refl _ _).alloc (Nat.le_refl _) _).alloc (by simp) _).alloc (by simp;omega) _
 have q0:W0.heap[w.heap.size]? =some (.cells #[.int .i64 3,.slice none 0 0,.string n.S,.int .i64 n.at_,.string o.S,.int .i64 o.at_,.slice (some ⟨lb,lo,none⟩) lits.length lcap] 69 (0,0)):=by rw[HW0.out];exact heap_alloc3_0 w _ _ _
 have q1:W0.heap[w.heap.size+1]? =some (.cells Z 107 (0,0)):=by rw[HW0.out];exact heap_alloc3_1 w _ _ _
 have q2:W0.heap[w.heap.size+1+1]? =some (.cells #[.int .i64 (litK x),.int .i64 x.N,.string x.S] 94 (0,0)):=by rw[HW0.out];exact heap_alloc3_2 w _ _ _
 have e4:W0.cell? ⟨w.heap.size,4,none⟩=some (.string o.S):=blk_cell q0 4 _ rfl
 have e6:W0.cell? ⟨w.heap.size,6,none⟩=some (.slice (some ⟨lb,lo,none⟩) lits.length lcap):=blk_cell q0 6 _ rfl
 have v1:W0.cell? ⟨vb,1,none⟩=some (.pointer (some ⟨hb,0,none⟩)):=(hb0.cell (p:=⟨vb,1,none⟩) hlt).trans c1
 have v1r:=v1
 rw[HW0.out] at v1r
 have hz0:W0.heap.size=w.heap.size+3:=by rw[HW0.out];simp
 have HB0:Hid _:=hb0
 have HQ1:Hid _:=q1
 have HQ2:Hid _:=q2
 have HE4:Hid _:=e4
 have hcf1:=Tryz.call193
 have hcf2:=Tryz.call194
 have HFIN:Hid (∀(ws:Bits) (w1:World),Below W0.heap.size W0 w1→(∀j,j<4096→(memB ws j=true↔∃x,Hof th j f x∧(x.k==0)=false∧Doc.meetV x o lits=true))→w1.heap[w.heap.size+1]? =some (.cells Z 107 (0,0))∧Below w.heap.size w w1):=fun ws w1 h1 _=>⟨(h1.block _ (by omega)).trans HQ1.out,HB0.out.trans (h1.mono HB0.out.size)⟩
 clear h hv hok hne q0 q1 q2 rr hr2 hb0
 by_cases k1:(o.S.toList==[61] || o.S.toList==[105,110])=true
 ·have HCALL:Hid _:=havingOne_any (H.out.below HB0.out) f hf lits (by omega) HOKL.out _ (HV.out.below HB0.out)
  have hsp:(o.S.toList==[61])=true∨((o.S.toList==[61])=false∧(o.S.toList==[105,110])=true):=by
   cases e:(o.S.toList==[61])
   ·rw[e] at k1;exact .inr ⟨rfl,k1⟩
   ·exact .inl rfl
  have K1:Hid _:=k1
  clear k1 HE4
  rcases hsp with k2|⟨k2,k3⟩<;>(
   go_enter Tryz.func172,Tryz.ntmps172
   go_wp2_with fail
   rw[←HW0.out]
   refine Calls.mono HCALL.out ?_
   rintro e w1 ⟨ws,rfl,hws,hb1⟩
   obtain⟨C,HC⟩:∃C,Hid (setC ws=C):=⟨_,rfl⟩
   rw[HC.out]
   have HCI:Hid ((Tryz.prog.info? 107).map (·.size)=some C.size):=by rw[←HC.out];exact setC_info ws
   have HC1:Hid (C.all (·.oneCell')=true):=by rw[←HC.out];exact setC_one ws
   have HCS:Hid (Z.size=C.size):=by rw[←HC.out,HZ.out];show _=_;rw[setC_size,setC_size]
   have HWS:Hid _:=(show ∀j,j<4096→(memB ws j=true↔∃x,Hof th j f x∧(x.k==0)=false∧Doc.meetV x o lits=true) from fun j hj=>(hws j hj).trans (one_meets K1.out j f))
   have HF:Hid _:=HFIN.out ws w1 hb1 HWS.out
   clear hws
   go_wp2_with (first|(refine wpList_store_row rfl 107 _ _ rfl (w.heap.size+1) rfl C rfl 107 Z HF.out.1 HCI.out HCS.out HC1.out ?_))
   refine bodyPost_ret (v:=.agg C) (results_cell_row rfl _ _ (w.heap.size+1) 107 C (0,0) _ rfl (setRow_heap _ _ Z _ _ _ HF.out.1) Tryz.underlying107 rfl HCI.out) rfl ⟨ws,by rw[HC.out],HWS.out,Below.setRow HF.out.2 (by omega) _⟩)
 ·have k1:(o.S.toList==[61] || o.S.toList==[105,110])=false:=by simpa using k1
  have k2:(o.S.toList==[61])=false:=by rw[Bool.or_eq_false_iff] at k1;exact k1.1
  have k3:(o.S.toList==[105,110])=false:=by rw[Bool.or_eq_false_iff] at k1;exact k1.2
  by_cases k4:(o.S.toList==[108,105,107,101])=true
  ·have HM:Hid (∀y,Doc.meetV y o lits=hasP y.s x.S):=by intro y;unfold Doc.meetV;rw[k1,k4,HTK.out];rfl
   have HCALL:Hid _:=where_any (H.out.below HB0.out).shf f 193 #[.pointer (some ⟨w.heap.size+1+1,0,none⟩)] (fun y=>Doc.meetV y o lits) hcf1 (fun w' y hB hy _=>by
    have h1:=like_any (w:=w') (w.heap.size+1+1) _ _ _ _ ((hB.block _ (by omega)).trans HQ2.out) HLX.out.sz y hy
    rw[←HM.out] at h1
    exact h1)
   clear k1
   go_enter Tryz.func172,Tryz.ntmps172
   go_wp2_with fail
   rw[←HW0.out]
   refine Calls.mono HCALL.out ?_
   rintro e w1 ⟨ws,rfl,hws,hb1⟩
   obtain⟨C,HC⟩:∃C,Hid (setC ws=C):=⟨_,rfl⟩
   rw[HC.out]
   have HCI:Hid ((Tryz.prog.info? 107).map (·.size)=some C.size):=by rw[←HC.out];exact setC_info ws
   have HC1:Hid (C.all (·.oneCell')=true):=by rw[←HC.out];exact setC_one ws
   have HCS:Hid (Z.size=C.size):=by rw[←HC.out,HZ.out];show _=_;rw[setC_size,setC_size]
   have HWS:Hid _:=hws
   have HF:Hid _:=HFIN.out ws w1 hb1 HWS.out
   clear hws
   go_wp2_with (first|(refine wpList_store_row rfl 107 _ _ rfl (w.heap.size+1) rfl C rfl 107 Z HF.out.1 HCI.out HCS.out HC1.out ?_))
   refine bodyPost_ret (v:=.agg C) (results_cell_row rfl _ _ (w.heap.size+1) 107 C (0,0) _ rfl (setRow_heap _ _ Z _ _ _ HF.out.1) Tryz.underlying107 rfl HCI.out) rfl ⟨ws,by rw[HC.out],HWS.out,Below.setRow HF.out.2 (by omega) _⟩
  ·have k4:(o.S.toList==[108,105,107,101])=false:=by simpa using k4
   have HM:Hid (∀y,Doc.meetV y o lits=Doc.standsB (Doc.cmpV y (Doc.litV x)) o.S.toList):=by intro y;unfold Doc.meetV;rw[k1,k4,HTK.out];rfl
   have HCALL:Hid _:=where_any (H.out.below HB0.out).shf f 194 #[.pointer (some ⟨w.heap.size+1+1,0,none⟩),.pointer (some ⟨w.heap.size,0,none⟩)] (fun y=>Doc.meetV y o lits) hcf2 (fun w' y hB hy _=>by
    have h1:=order_any (w:=w') (w.heap.size+1+1) w.heap.size (Doc.litV x) _ ((hB.block _ (by omega)).trans HQ2.out) o.S ((hB.cell (p:=⟨w.heap.size,4,none⟩) (by show w.heap.size<_;omega)).trans HE4.out) (by have:=hB.size;omega) y
    rw[←HM.out] at h1
    exact h1)
   clear k1
   go_enter Tryz.func172,Tryz.ntmps172
   go_wp2_with fail
   rw[←HW0.out]
   refine Calls.mono HCALL.out ?_
   rintro e w1 ⟨ws,rfl,hws,hb1⟩
   obtain⟨C,HC⟩:∃C,Hid (setC ws=C):=⟨_,rfl⟩
   rw[HC.out]
   have HCI:Hid ((Tryz.prog.info? 107).map (·.size)=some C.size):=by rw[←HC.out];exact setC_info ws
   have HC1:Hid (C.all (·.oneCell')=true):=by rw[←HC.out];exact setC_one ws
   have HCS:Hid (Z.size=C.size):=by rw[←HC.out,HZ.out];show _=_;rw[setC_size,setC_size]
   have HWS:Hid _:=hws
   have HF:Hid _:=HFIN.out ws w1 hb1 HWS.out
   clear hws
   go_wp2_with (first|(refine wpList_store_row rfl 107 _ _ rfl (w.heap.size+1) rfl C rfl 107 Z HF.out.1 HCI.out HCS.out HC1.out ?_))
   refine bodyPost_ret (v:=.agg C) (results_cell_row rfl _ _ (w.heap.size+1) 107 C (0,0) _ rfl (setRow_heap _ _ Z _ _ _ HF.out.1) Tryz.underlying107 rfl HCI.out) rfl ⟨ws,by rw[HC.out],HWS.out,Below.setRow HF.out.2 (by omega) _⟩
end
section
variable {w:World}{vb:Nat}{fs:List Doc.Fld}{fv:Value}{hb mt mh:Nat}{th:Has}{F:Nat→Prop}{pos:Int→Value×Value}{all:Bits}
set_option maxHeartbeats 8000000 in
theorem stest_any (h:SieveAt w vb fs fv hb mt mh th F pos all)(hfl:fs.length≤4)(n o:Doc.Tok)(lits:List Doc.Tok)(hok:Doc.TestOk n o lits)(k:Nat)(hk:Doc.idxF fs n.S=some k)(lv:Value)(hv:Sl w lv lits.length (litsC lits)):
  Calls Tryz.prog 145 #[.pointer (some ⟨vb,0,none⟩),.agg #[.int .i64 3,.slice none 0 0,.string n.S,.int .i64 n.at_,.string o.S,.int .i64 o.at_,lv]] w fun e w'=>∃ys ns:Bits,e=.returned (.agg (twoC ys ns))∧Says fs th (.test n o lits) ys ns∧Below w.heap.size w w':=by
 obtain⟨Z,hz,HZ⟩:∃Z,(∀w,(zeroValue 107).run Tryz.prog w=.ok (.agg Z) w)∧Hid (Z=setC zeroB):=⟨_,zero_set,rfl⟩
 obtain⟨ZZ,hzz,HZZ⟩:∃Z,(∀w,(zeroValue 214).run Tryz.prog w=.ok (.agg Z) w)∧Hid (Z=twoC zeroB zeroB):=⟨_,zero_verdict,rfl⟩
 obtain⟨c0,c1⟩:=h.cells
 have hlt:=h.lt
 have hkl:k<fs.length:=idxF_lt hk
 have hk4:k<4:=by omega
 have H:Hid _:=h
 have HV:Hid _:=hv
 have HOK:Hid _:=hok
 have HK:Hid _:=hk
 obtain⟨fa,fc,hfv⟩:=h.fld.slice
 obtain⟨la,lc,hlv⟩:=hv.slice
 subst hlv
 subst hfv
 have HPL:Hid (∀W:World,Below w.heap.size w W→Calls Tryz.prog 144 #[.string n.S,.slice fa fs.length fc] W fun e w'=>e=.returned (.int .i64 (k:Int))∧Below W.heap.size W w'):=by
  intro W hW
  have:=place_any fs (by omega) _ (H.out.fld.below hW) n.S
  rw[HK.out] at this
  exact this
 obtain⟨nulls,HN⟩:∃ws,Hid (∀j,j<4096→(memB ws j=true↔Hof th j k Doc.nullV)):=exists_set (fun j=>Hof th j k Doc.nullV)
 obtain⟨N,HNC⟩:∃N:List Value,Hid (N.toArray=setC nulls):=⟨(setC nulls).toList,Array.toArray_toList⟩
 have HHV:Hid (∀W:World,Below w.heap.size w W→Calls Tryz.prog 170 #[.pointer (some ⟨hb,0,none⟩),.int .i64 (k:Int),.agg #[.int .i64 0,.int .i64 0,.string ⟨#[]⟩]] W fun e w'=>e=.returned (.agg N.toArray)∧Below W.heap.size W w'):=by
  intro W hW
  refine(having_any (H.out.below hW).shf k hk4 Doc.nullV ⟨.inl rfl,by decide,by decide,by decide⟩).mono ?_
  rintro e w2 ⟨us,rfl,hus,hb2⟩
  refine⟨?_,hb2⟩
  rw[HNC.out,setC_ext (fun j hj=>Bool.eq_iff_iff.2 ((hus j hj).trans (HN.out j hj).symm))]
 obtain⟨A,HAC⟩:∃A:List Value,Hid (A.toArray=setC all):=⟨(setC all).toList,Array.toArray_toList⟩
 obtain⟨M,HMC⟩:∃M:List Value,Hid (M.toArray=setC (minusB all nulls)):=⟨(setC (minusB all nulls)).toList,Array.toArray_toList⟩
 have HMN:Hid (∀W:World,Calls Tryz.prog 171 #[.agg A.toArray,.agg N.toArray] W fun e w'=>e=.returned (.agg M.toArray)∧Below W.heap.size W w'):=by
  rw[HAC.out,HNC.out,HMC.out];exact minus_any all nulls
 have hset:∀(L:List Value) (ws:Bits),L.toArray=setC ws→L.length=64∧(∀v,v∈L→v.oneCell'=true):=fun L ws e=>by
  refine⟨by rw[←setC_size ws,←e];simp,?_⟩
  have:=setC_one ws
  rw[←e,Array.all_eq_true_iff_forall_mem] at this
  intro v hv
  exact this v (by simpa using hv)
 obtain⟨hNl,hN1⟩:=hset N _ HNC.out
 obtain⟨hAl,hA1⟩:=hset A _ HAC.out
 obtain⟨hMl,hM1⟩:=hset M _ HMC.out
 have hinf:∀L:List Value,L.length=64→(Tryz.prog.info? 107).map (·.size)=some L.length:=fun L e=>by rw[e];exact(zero_of_info Tryz.infoSet).2
 have hNI:=hinf N hNl
 have hAI:=hinf A hAl
 have hMI:=hinf M hMl
 have hzs:Z.size=64:=by rw[HZ.out,setC_size]
 obtain⟨W0,HW0⟩:∃W0,Hid (W0=(w.alloc (.cells #[.int .i64 3,.slice none 0 0,.string n.S,.int .i64 n.at_,.string o.S,.int .i64 o.at_,.slice la lits.length lc] 69)).alloc (.cells ZZ 214)):=⟨_,rfl⟩
 have hb0:Below w.heap.size w W0:=by rw[HW0.out];exact((Below.refl _ _).alloc (Nat.le_refl _) _).alloc (by simp) _
 have q0:W0.heap[w.heap.size]? =some (.cells #[.int .i64 3,.slice none 0 0,.string n.S,.int .i64 n.at_,.string o.S,.int .i64 o.at_,.slice la lits.length lc] 69 (0,0)):=by rw[HW0.out];exact heap_alloc2_old w _ _
 have q1:W0.heap[w.heap.size+1]? =some (.cells ZZ 214 (0,0)):=by rw[HW0.out];exact heap_alloc2_new w _ _
 have hz0:W0.heap.size=w.heap.size+2:=by rw[HW0.out];simp
 have HSB:Hid (∀w':World,Below W0.heap.size W0 w'→w'.cell? ⟨w.heap.size,2,none⟩=some (.string n.S)∧w'.cell? ⟨w.heap.size,4,none⟩=some (.string o.S)∧w'.cell? ⟨vb,0,none⟩=some (.slice fa fs.length fc)∧w'.cell? ⟨vb,1,none⟩=some (.pointer (some ⟨hb,0,none⟩))∧w'.heap[w.heap.size]? =some (.cells #[.int .i64 3,.slice none 0 0,.string n.S,.int .i64 n.at_,.string o.S,.int .i64 o.at_,.slice la lits.length lc] 69 (0,0))∧w'.heap[w.heap.size+1]? =some (.cells ZZ 214 (0,0))∧w'.rangeAt vb 2 A):=by
  intro w' h'
  have p0:=(h'.block w.heap.size (by omega)).trans q0
  have p1:=(h'.block (w.heap.size+1) (by omega)).trans q1
  have p2:=(h'.block vb (by omega)).trans ((hb0.block vb hlt).trans H.out.blk)
  have p3:SieveAt w' vb fs (.slice fa fs.length fc) hb mt mh th F pos all:=H.out.below (hb0.trans (h'.mono hb0.size))
  refine⟨blk_cell p0 2 _ rfl,blk_cell p0 4 _ rfl,p3.cells.1,p3.cells.2,p0,p1,fun j v hj=>?_⟩
  rw[cell_of_row _ _ _ _ _ _ p2]
  refine sieveC_all _ _ _ j v ?_
  rw[←HAC.out];simpa using hj
 have HB0:Hid _:=hb0
 have HS0:Hid (Below W0.heap.size W0 W0.drew):=Below.drew (Below.refl _ _)
 clear h hv hok hk q0 q1 hset hinf c0 c1 hb0
 go_enter Tryz.func145,Tryz.ntmps145
 go_wp2_with fail
 rw[←HW0.out]
 refine wp_region_M 7 (fun w'=>Below W0.heap.size W0 w') (by kernel_rfl) ?_
 refine anyM_t (i:=0) (v:=.pointer (some ⟨w.heap.size,2,none⟩)) rfl (by kernel_rfl) (fun _ _ _ h=>h) rfl rfl HS0.out (fun w' hSw=>by obtain⟨d1,d2,d3,d4,d5,d6,d7⟩:=HSB.out w' hSw;go_simp) ?_
 simp only[takes]
 refine anyM_t (i:=1) (v:=.string n.S) rfl (by kernel_rfl) (fun _ _ _ h=>h) rfl rfl HS0.out (fun w' hSw=>by obtain⟨d1,d2,d3,d4,d5,d6,d7⟩:=HSB.out w' hSw;go_simp) ?_
 simp only[takes]
 refine anyM_t (i:=2) (v:=.pointer (some ⟨vb,0,none⟩)) rfl (by kernel_rfl) (fun _ _ _ h=>h) rfl rfl HS0.out (fun w' hSw=>by obtain⟨d1,d2,d3,d4,d5,d6,d7⟩:=HSB.out w' hSw;go_simp) ?_
 simp only[takes]
 refine anyM_t (i:=3) (v:=.pointer (some ⟨vb,0,none⟩)) rfl (by kernel_rfl) (fun _ _ _ h=>h) rfl rfl HS0.out (fun w' hSw=>by obtain⟨d1,d2,d3,d4,d5,d6,d7⟩:=HSB.out w' hSw;go_simp) ?_
 simp only[takes]
 refine anyM_t (i:=4) (v:=.pointer (some ⟨vb,0,none⟩)) rfl (by kernel_rfl) (fun _ _ _ h=>h) rfl rfl HS0.out (fun w' hSw=>by obtain⟨d1,d2,d3,d4,d5,d6,d7⟩:=HSB.out w' hSw;go_simp) ?_
 simp only[takes]
 refine anyM_t (i:=5) (v:=.slice fa fs.length fc) rfl (by kernel_rfl) (fun _ _ _ h=>h) rfl rfl HS0.out (fun w' hSw=>by obtain⟨d1,d2,d3,d4,d5,d6,d7⟩:=HSB.out w' hSw;go_simp) ?_
 simp only[takes]
 refine anyM_one (i:=6) (by kernel_rfl) rfl rfl (fun K hK=>?_)
 go_simp
 refine(HPL.out _ HB0.out.drew).mono ?_
 rintro r w1 ⟨rfl,hb1⟩
 have hq1:Below W0.heap.size W0 w1:=Below.callB (Below.drew (Below.refl _ _)) (Nat.le_refl _) hb1
 refine hK.out _ _ (fun _=>hq1) ?_
 clear hK K
 try simp only[Act.put,takes]
 refine anyM_one (i:=7) (by kernel_rfl) rfl rfl (fun K hK=>?_)
 go_simp
 refine hK.out _ _ (fun _=>hq1) ?_
 clear hK K
 refine anyM_done (by kernel_rfl) ?_
 have HW1:Hid (Below w.heap.size w w1):=HB0.out.trans (hq1.mono HB0.out.size)
 have HQ1:Hid _:=hq1
 obtain⟨d1,d2,d3,d4,d5,d6,d7⟩:=HSB.out w1 hq1
 clear hb1 hq1 d7 d6 d5
 go_wp2_with fail
 refine(HHV.out _ HW1.out).mono ?_
 rintro r w2 ⟨rfl,hb2⟩
 have HQ2:Hid (Below W0.heap.size W0 w2):=Below.callB HQ1.out (Nat.le_refl _) hb2
 obtain⟨W3,HW3⟩:∃W3,Hid (W3=(w2.alloc (.cells Z 107)).setRow w2.heap.size N.toArray):=⟨_,rfl⟩
 have HNI:Hid ((Tryz.prog.info? 107).map (·.size)=some N.toArray.size):=by rw[List.size_toArray];exact hNI
 have HN1:Hid (N.toArray.all (·.oneCell')=true):=by rw[HNC.out];exact setC_one _
 have HNS:Hid (Z.size=N.toArray.size):=by show _=_;rw[hzs];simp[hNl]
 go_wp2_with (first|(refine wpList_store_row rfl 107 _ _ rfl w2.heap.size rfl N.toArray rfl 107 Z (heap_alloc_new w2 _) HNI.out HNS.out HN1.out ?_;rw[←HW3.out]))
 go_frame
 have HW3B:Hid (Below w2.heap.size w2 W3):=by rw[HW3.out];exact Below.setRow ((Below.refl _ _).alloc (Nat.le_refl _) _) (Nat.le_refl _) _
 have HQ3:Hid (Below W0.heap.size W0 W3):=HQ2.out.trans (HW3B.out.mono HQ2.out.size)
 have HG6:Hid (W3.heap[w2.heap.size]? =some (.cells N.toArray 107 (0,0))):=by rw[HW3.out];exact setRow_heap _ _ Z _ _ _ (heap_alloc_new w2 _)
 have hz3:W3.heap.size=w2.heap.size+1:=by rw[HW3.out];simp
 have HS3:Hid (∀w':World,Below W3.heap.size W3 w'→Below W0.heap.size W0 w'∧w'.heap[w2.heap.size]? =some (.cells N.toArray 107 (0,0))):=fun w' h'=>⟨HQ3.out.trans (h'.mono HQ3.out.size),(h'.block _ (by omega)).trans HG6.out⟩
 have HAT:Hid ((Tryz.prog.info? 107).map (·.size)=some A.toArray.size):=by rw[List.size_toArray];exact hAI
 have HMT:Hid ((Tryz.prog.info? 107).map (·.size)=some M.toArray.size):=by rw[List.size_toArray];exact hMI
 have HM1:Hid (M.toArray.all (·.oneCell')=true):=by rw[HMC.out];exact setC_one _
 have HMS:Hid (Z.size=M.toArray.size):=by show _=_;rw[hzs];simp[hMl]
 have HAV:Hid (∀w':World,Below W0.heap.size W0 w'→∃cs,w'.heap[vb]? =some (.cells cs 212 (0,0))∧∀j v,A.toArray[j]? =some v→cs[2+j]? =some v):=by
  intro w' h'
  refine⟨_,(H.out.below (HB0.out.trans (h'.mono HB0.out.size))).blk,fun j v hj=>sieveC_all _ _ _ j v ?_⟩
  rw[←HAC.out];exact hj
 have HZ3:Hid _:=hz3
 clear hz3
 have HS0':Hid (Below W3.heap.size W3 W3.drew):=Below.drew (Below.refl _ _)
 clear HS0
 have HS0:=HS0'
 clear hNI hAI hMI hN1 hA1 hM1 hb2 hNl hAl hMl
 go_cut [7] (fun v wx=>∃g,v=.pointer (some ⟨g,0,none⟩)∧Below W3.heap.size W3 wx∧wx.heap[g]? =some (.cells M.toArray 107 (0,0))∧W3.heap.size≤g)
 case first=>
  refine wp_region_M 7 (fun w'=>Below W3.heap.size W3 w') (by kernel_rfl) ?_
  refine anyM_t (i:=0) (v:=.pointer (some ⟨vb,0,none⟩)) rfl (by kernel_rfl) (fun _ _ _ h=>h) rfl rfl HS0.out (fun w' hSw=>by go_simp) ?_
  simp only[takes]
  refine anyM_t (i:=1) (v:=.pointer (some ⟨vb,0,none⟩)) rfl (by kernel_rfl) (fun _ _ _ h=>h) rfl rfl HS0.out (fun w' hSw=>by go_simp) ?_
  simp only[takes]
  refine anyM_t (i:=2) (v:=.pointer (some ⟨vb,2,none⟩)) rfl (by kernel_rfl) (fun _ _ _ h=>h) rfl rfl HS0.out (fun w' hSw=>by go_simp) ?_
  simp only[takes]
  refine anyM_t (i:=3) (v:=.agg A.toArray) rfl (by kernel_rfl) (fun _ _ _ h=>h) rfl rfl HS0.out (fun w' hSw=>by obtain⟨cs,u1,u2⟩:=HAV.out w' (HS3.out w' hSw).1;exact run_load_off 107 _ rfl vb 2 rfl 212 cs A.toArray (0,0) _ u1 u2 Tryz.underlying107 rfl HAT.out) ?_
  simp only[takes]
  refine anyM_t (i:=4) (v:=.agg N.toArray) rfl (by kernel_rfl) (fun _ _ _ h=>h) rfl rfl HS0.out (fun w' hSw=>run_load_all 107 _ rfl w2.heap.size rfl 107 N.toArray (0,0) _ (HS3.out w' hSw).2 Tryz.underlying107 rfl HNI.out) ?_
  simp only[takes]
  refine anyM_two (i:=5) (j:=6) (by kernel_rfl) rfl rfl rfl rfl (fun K hK=>?_) (fun K hK=>?_)
  ·go_simp
   refine(HMN.out _).mono ?_
   rintro r w3 ⟨rfl,hb3⟩
   have hq3:Below W3.heap.size W3 w3:=Below.callB (Below.drew (Below.refl _ _)) (Nat.le_refl _) hb3
   refine hK.out _ _ (fun _=>hq3) ?_
   clear hK K
   try simp only[Act.put,takes]
   refine anyM_one (i:=6) (by kernel_rfl) rfl rfl (fun K hK=>?_)
   go_simp
   have hq4:Below W3.heap.size W3 (w3.alloc (.cells Z 107)):=hq3.alloc hq3.size _
   refine hK.out _ _ (fun _=>hq4) ?_
   clear hK K
   try simp only[Act.put,takes]
   refine anyM_one (i:=7) (by kernel_rfl) rfl rfl (fun K hK=>?_)
   refine wp_store_off 107 _ _ rfl w3.heap.size 0 rfl M.toArray rfl 107 Z (heap_alloc_new w3 _) HMT.out (by have:=HMS.out;omega) HM1.out rfl rfl ?_
   refine hK.out _ _ (fun h=>absurd rfl h) ?_
   clear hK K
   rw[lay_whole HMS.out]
   refine anyM_done (by kernel_rfl) ?_
   go_wp2_with fail
   go_meet
   exact⟨_,rfl,Below.setRow hq4 hq3.size _,setRow_heap _ _ Z _ _ _ (heap_alloc_new w3 _),hq3.size⟩
  ·go_simp
   have hq4:Below W3.heap.size W3 (W3.drew.alloc (.cells Z 107)):=HS0.out.alloc HS0.out.size _
   refine hK.out _ _ (fun _=>hq4) ?_
   clear hK K
   try simp only[Act.put,takes]
   refine anyM_one (i:=5) (by kernel_rfl) rfl rfl (fun K hK=>?_)
   go_simp
   refine(HMN.out _).mono ?_
   rintro r w3 ⟨rfl,hb3⟩
   have hq3:Below W3.heap.size W3 w3:=Below.callB hq4 (Nat.le_refl _) hb3
   have hg3:w3.heap[W3.heap.size]? =some (.cells Z 107 (0,0)):=(hb3.block W3.heap.size (by simp)).trans (heap_alloc_new W3.drew _)
   refine hK.out _ _ (fun _=>hq3) ?_
   clear hK K
   try simp only[Act.put,takes]
   refine anyM_one (i:=7) (by kernel_rfl) rfl rfl (fun K hK=>?_)
   refine wp_store_off 107 _ _ rfl W3.heap.size 0 rfl M.toArray rfl 107 Z hg3 HMT.out (by have:=HMS.out;omega) HM1.out rfl rfl ?_
   refine hK.out _ _ (fun h=>absurd rfl h) ?_
   clear hK K
   rw[lay_whole HMS.out]
   refine anyM_done (by kernel_rfl) ?_
   go_wp2_with fail
   go_meet
   exact⟨_,rfl,Below.setRow hq3 (Nat.le_refl _) _,setRow_heap _ _ Z _ _ _ hg3,Nat.le_refl _⟩
 case rest=>
  obtain⟨g,rfl,hq4,hg7,hgl⟩:=hcut
  have HG7:Hid _:=hg7
  obtain⟨hq5,hg6'⟩:=HS3.out wc hq4
  have HG6':Hid _:=hg6'
  have HQ5:Hid _:=hq5
  obtain⟨d1,d2,d3,d4,d5,d6,d7⟩:=HSB.out wc hq5
  have HD6:Hid _:=d6
  have HWC:Hid (Below w.heap.size w wc):=HB0.out.trans (hq5.mono HB0.out.size)
  have hsz:=HWC.out.size
  have hgt:=lt_block hg7
  have h6t:=lt_block hg6'
  have HTWO:Hid (∀ys ns,(Tryz.prog.info? 214).map (·.size)=some (twoC ys ns).size∧(twoC ys ns).all (·.oneCell')=true∧ZZ.size=(twoC ys ns).size):=fun ys ns=>⟨twoC_info ys ns,twoC_one ys ns,by rw[HZZ.out,twoC_size,twoC_size]⟩
  clear hg7 hg6' hq4 hq5 d1 d3 d6 d7 hzs
  cases his:(o.S.toList==[105,115]) with
  |true=>
   have HSAY:Hid _:=(says_test (yes:=zeroB) (lits:=lits) H.out.fit HK.out HN.out H.out.alls).1 his
   obtain⟨V,HV2⟩:∃V,Hid (twoC nulls (minusB all nulls)=V):=⟨_,rfl⟩
   have HBU:Hid (∀w,(Instr.build 214 #[(0,.agg N.toArray),(1,.agg M.toArray)]).run Tryz.prog w=.ok (.agg V) w):=by
    rw[HNC.out,HMC.out,←HV2.out];exact run_build_two nulls (minusB all nulls)
   obtain⟨i1,i2,i3⟩:=HTWO.out nulls (minusB all nulls)
   rw[HV2.out] at i1 i2 i3
   have I1:Hid _:=i1
   have I2:Hid _:=i2
   have I3:Hid _:=i3
   clear i1 i2 i3
   go_wp2_with (first|(refine wpList_build_is rfl 214 _ rfl (.agg V) #[(0,.agg N.toArray),(1,.agg M.toArray)] (by simp[Act.eval,Act.put]) (HBU.out _) ?_)|(refine wpList_load_row rfl 107 _ rfl w2.heap.size rfl 107 N.toArray (0,0) _ HG6'.out Tryz.underlying107 rfl HNI.out ?_)|(refine wpList_load_row rfl 107 _ rfl g rfl 107 M.toArray (0,0) _ HG7.out Tryz.underlying107 rfl HMT.out ?_)|(refine wpList_store_row rfl 214 _ _ rfl (w.heap.size+1) rfl V rfl 214 ZZ HD6.out I1.out I3.out I2.out ?_))
   refine bodyPost_ret (v:=.agg V) (results_cell_row rfl _ _ (w.heap.size+1) 214 V (0,0) _ rfl (setRow_heap _ _ ZZ _ _ _ HD6.out) Tryz.underlying214 rfl I1.out) rfl ⟨nulls,minusB all nulls,by rw[HV2.out],HSAY.out,Below.setRow HWC.out (by omega) _⟩
  |false=>
   have HME:Hid _:=meeting_any (H.out.below HWC.out) k hk4 n o lits HOK.out his _ (HV.out.below HWC.out)
   have HIS:Hid _:=his
   have t0:=blk_cell d5 0 _ rfl
   have t1:=blk_cell d5 1 _ rfl
   have t2:=blk_cell d5 2 _ rfl
   have t3:=blk_cell d5 3 _ rfl
   have t4:=blk_cell d5 4 _ rfl
   have t5:=blk_cell d5 5 _ rfl
   have t6:=blk_cell d5 6 _ rfl
   clear d5
   go_wp2_with fail
   refine Calls.mono HME.out ?_
   rintro e w4 ⟨ys,rfl,hys,hb4⟩
   have HSAY:Hid _:=(says_test (yes:=ys) H.out.fit HK.out HN.out H.out.alls).2 HIS.out hys
   obtain⟨Y,HYC⟩:∃Y,Hid (setC ys=Y):=⟨_,rfl⟩
   rw[HYC.out]
   have HYI:Hid ((Tryz.prog.info? 107).map (·.size)=some Y.size):=by rw[←HYC.out];exact setC_info ys
   have HY1:Hid (Y.all (·.oneCell')=true):=by rw[←HYC.out];exact setC_one ys
   have HYS:Hid (Z.size=Y.size):=by rw[←HYC.out,HZ.out];show _=_;rw[setC_size,setC_size]
   obtain⟨W5,HW5⟩:∃W5,Hid (W5=(w4.alloc (.cells Z 107)).setRow w4.heap.size Y):=⟨_,rfl⟩
   clear hys
   go_wp2_with (first|(refine wpList_store_row rfl 107 _ _ rfl w4.heap.size rfl Y rfl 107 Z (heap_alloc_new w4 _) HYI.out HYS.out HY1.out ?_;rw[←HW5.out]))
   go_frame
   have hw5:Below w4.heap.size w4 W5:=by rw[HW5.out];exact Below.setRow ((Below.refl _ _).alloc (Nat.le_refl _) _) (Nat.le_refl _) _
   have HB5:Hid (Below wc.heap.size wc W5):=hb4.trans (hw5.mono hb4.size)
   have hg8:W5.heap[w4.heap.size]? =some (.cells Y 107 (0,0)):=by rw[HW5.out];exact setRow_heap _ _ Z _ _ _ (heap_alloc_new w4 _)
   have h8t:=lt_block hg8
   have HS5:Hid (∀w':World,Below W5.heap.size W5 w'→w'.heap[w4.heap.size]? =some (.cells Y 107 (0,0))∧w'.heap[g]? =some (.cells M.toArray 107 (0,0))∧w'.heap[w.heap.size+1]? =some (.cells ZZ 214 (0,0))∧Below w.heap.size w w'):=fun w' h'=>by
    have hbw:=HB5.out.trans (h'.mono HB5.out.size)
    exact⟨(h'.block _ h8t).trans hg8,(hbw.block _ hgt).trans HG7.out,(hbw.block _ (lt_block HD6.out)).trans HD6.out,HWC.out.trans (hbw.mono HWC.out.size)⟩
   obtain⟨R,HR⟩:∃R,Hid (setC (minusB (minusB all nulls) ys)=R):=⟨_,rfl⟩
   have HMR:Hid (∀W:World,Calls Tryz.prog 171 #[.agg M.toArray,.agg Y] W fun e w'=>e=.returned (.agg R)∧Below W.heap.size W w'):=by
    rw[HMC.out,←HYC.out,←HR.out];exact minus_any _ _
   obtain⟨V,HV2⟩:∃V,Hid (twoC ys (minusB (minusB all nulls) ys)=V):=⟨_,rfl⟩
   have HBU:Hid (∀w,(Instr.build 214 #[(0,.agg Y),(1,.agg R)]).run Tryz.prog w=.ok (.agg V) w):=by
    rw[←HYC.out,←HR.out,←HV2.out];exact run_build_two _ _
   obtain⟨i1,i2,i3⟩:=HTWO.out ys (minusB (minusB all nulls) ys)
   rw[HV2.out] at i1 i2 i3
   have I1:Hid _:=i1
   have I2:Hid _:=i2
   have I3:Hid _:=i3
   have HS5':Hid (Below W5.heap.size W5 W5.drew):=Below.drew (Below.refl _ _)
   clear HS0 i1 i2 i3
   have HS0:=HS5'
   clear HS5' hw5 hg8 hb4
   refine wp_region_M 5 (fun w'=>Below W5.heap.size W5 w') (by kernel_rfl) ?_
   refine anyM_t (i:=0) (v:=.agg Y) rfl (by kernel_rfl) (fun _ _ _ h=>h) rfl rfl HS0.out (fun w' hSw=>run_load_all 107 _ rfl w4.heap.size rfl 107 Y (0,0) _ (HS5.out w' hSw).1 Tryz.underlying107 rfl HYI.out) ?_
   simp only[takes]
   refine anyM_t (i:=1) (v:=.agg M.toArray) rfl (by kernel_rfl) (fun _ _ _ h=>h) rfl rfl HS0.out (fun w' hSw=>run_load_all 107 _ rfl g rfl 107 M.toArray (0,0) _ (HS5.out w' hSw).2.1 Tryz.underlying107 rfl HMT.out) ?_
   simp only[takes]
   refine anyM_t (i:=2) (v:=.agg Y) rfl (by kernel_rfl) (fun _ _ _ h=>h) rfl rfl HS0.out (fun w' hSw=>run_load_all 107 _ rfl w4.heap.size rfl 107 Y (0,0) _ (HS5.out w' hSw).1 Tryz.underlying107 rfl HYI.out) ?_
   simp only[takes]
   refine anyM_one (i:=3) (by kernel_rfl) rfl rfl (fun K hK=>?_)
   go_simp
   refine(HMR.out _).mono ?_
   rintro r w6 ⟨rfl,hb6⟩
   have hq6:Below W5.heap.size W5 w6:=Below.callB (Below.drew (Below.refl _ _)) (Nat.le_refl _) hb6
   refine hK.out _ _ (fun _=>hq6) ?_
   clear hK K
   try simp only[Act.put,takes]
   refine anyM_t (i:=4) (v:=.agg V) rfl (by kernel_rfl) (fun _ _ _ h=>h) rfl rfl hq6 (fun w' hSw=>run_build_op 214 _ rfl (.agg V) #[(0,.agg Y),(1,.agg R)] (by simp[Act.eval]) (HBU.out _)) ?_
   simp only[takes]
   refine anyM_one (i:=5) (by kernel_rfl) rfl rfl (fun K hK=>?_)
   refine wp_store_off 214 _ _ rfl (w.heap.size+1) 0 rfl V rfl 214 ZZ (HS5.out w6 hq6).2.2.1 I1.out (by have:=I3.out;omega) I2.out rfl rfl ?_
   refine hK.out _ _ (fun h=>absurd rfl h) ?_
   clear hK K
   rw[lay_whole I3.out]
   refine anyM_done (by kernel_rfl) ?_
   have HF:Hid _:=HS5.out w6 hq6
   clear hq6 hb6
   go_wp2_with fail
   refine bodyPost_ret (v:=.agg V) (results_cell_row rfl _ _ (w.heap.size+1) 214 V (0,0) _ rfl (setRow_heap _ _ ZZ _ _ _ HF.out.2.2.1) Tryz.underlying214 rfl I1.out) rfl ⟨ys,minusB (minusB all nulls) ys,by rw[HV2.out],HSAY.out,Below.setRow HF.out.2.2.2 (by omega) _⟩
end
end Go.Proofs.YtbnelaoeblhndaaGreatDoor
