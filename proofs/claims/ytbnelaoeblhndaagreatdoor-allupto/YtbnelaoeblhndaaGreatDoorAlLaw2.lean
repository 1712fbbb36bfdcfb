import Derived.Test.YtbnelaoeblhndaaGreatDoorAlLaw1
import Derived.Test.YtbnelaoeblhndaaGreatDoorAlRef4
namespace Go.Proofs.YtbnelaoeblhndaaGreatDoor
open Go.RowKit
set_option maxRecDepth 100000
section
variable {w:World}{F:Nat→Prop}{sb:Nat}{fs:List Doc.Fld}{space:Int}{th:Has}{fv:Value}{hb mt mh:Nat}{pos:Int→Value×Value}
set_option maxHeartbeats 4000000 in
theorem find_read (_hlt:sb<w.heap.size)(s:ByteArray)(er p:Nat)(hne:er≠0)(hRD:∀W:World,Below w.heap.size w W→Calls Tryz.prog 33 #[.string s] W (ReadPost W (.err er p))):
  Calls Tryz.prog 45 #[.pointer (some ⟨sb,0,none⟩),.string s] w fun e w'=>e=.returned (.tuple #[.agg (setC zeroB),.int .i64 er,.int .i64 p])∧Below w.heap.size w w':=by
 obtain⟨Z,hz,HZ⟩:∃Z,(∀w,(zeroValue 107).run Tryz.prog w=.ok (.agg Z) w)∧Hid (Z=setC zeroB):=⟨_,zero_set,rfl⟩
 rw[←HZ.out]
 have HZI:Hid ((Tryz.prog.info? 107).map (·.size)=some Z.size):=by rw[HZ.out];exact setC_info _
 have HZ1:Hid (Z.all (·.oneCell')=true):=by rw[HZ.out];exact setC_one _
 have hbz:∀W:World,(Instr.build 107 #[]).run Tryz.prog W=.ok (.agg Z) W:=fun W=>by
  unfold Instr.build
  simp[hz,go_sem]
 have hb0:Below w.heap.size w (w.alloc (.cells Z 107)):=(Below.refl _ _).alloc (Nat.le_refl _) _
 have HRD:Hid _:=hRD _ hb0
 have HB0:Hid _:=hb0
 have hne2:((er:Int) != 0)=true:=by simp;omega
 clear hRD hb0
 go_enter Tryz.func45,Tryz.ntmps45
 go_wp2_with fail
 refine Calls.mono HRD.out ?_
 rintro e w1 ⟨rfl,hb1⟩
 obtain⟨W2,HW2⟩:∃W2,Hid (W2=w1.alloc (.cells #[.int .i64 0,.slice none 0 0,.string ⟨#[]⟩,.int .i64 0,.string ⟨#[]⟩,.int .i64 0,.slice none 0 0] 69)):=⟨_,rfl⟩
 have hsz:=hb1.size
 have hg1:w1.heap[w.heap.size]? =some (.cells Z 107 (0,0)):=(hb1.block _ (by simp)).trans (heap_alloc_new w _)
 have HG2:Hid (W2.heap[w.heap.size]? =some (.cells Z 107 (0,0))):=by rw[HW2.out];exact(Below.heap_alloc _ _ _ (lt_block hg1)).trans hg1
 have HB2:Hid (Below w.heap.size w W2):=by
  rw[HW2.out]
  have h1:Below w.heap.size w w1:=HB0.out.trans (hb1.mono (by simp))
  exact h1.alloc h1.size _
 clear hb1 hg1
 go_wp2_with (first|(refine wpList_build_is rfl 107 #[] rfl (.agg Z) #[] rfl (hbz _) ?_)|(rw[←HW2.out];refine wpList_store_row rfl 107 _ _ rfl w.heap.size rfl Z rfl 107 Z HG2.out HZI.out rfl HZ1.out ?_))
 have hrv:=run_loadVar_row (P:=Tryz.prog) (W2.setRow w.heap.size Z) w.heap.size 107 107 Z (0,0) _ (setRow_heap _ _ Z _ _ _ HG2.out) Tryz.underlying107 rfl HZI.out
 exact bodyPost_ret (v:=.tuple #[.agg Z,.int .i64 er,.int .i64 p]) (by simp[results,Tryz.results45,asAddr,hrv]) rfl ⟨rfl,Below.setRow HB2.out (Nat.le_refl _) _⟩
set_option maxHeartbeats 4000000 in
theorem find_check (h:ProgAt w F sb fs space th fv hb mt mh pos)(hsg:Signs w)(hg0:1<w.heap.size)(s:ByteArray)(hs:s.size≤200)(a:Doc.Ast)(j:Nat)(hp:Doc.parse (Doc.toks s 0)=.ok a j)(hev:Doc.Every Doc.TestOk a)(e1 e2:Int)(hne:e1≠0)(hc:Doc.check fs a=(e1,e2)):
  Calls Tryz.prog 45 #[.pointer (some ⟨sb,0,none⟩),.string s] w fun e w'=>e=.returned (.tuple #[.agg (setC zeroB),.int .i64 e1,.int .i64 e2])∧Below w.heap.size w w':=by
 obtain⟨Z,hz,HZ⟩:∃Z,(∀w,(zeroValue 107).run Tryz.prog w=.ok (.agg Z) w)∧Hid (Z=setC zeroB):=⟨_,zero_set,rfl⟩
 rw[←HZ.out]
 have HZI:Hid ((Tryz.prog.info? 107).map (·.size)=some Z.size):=by rw[HZ.out];exact setC_info _
 have HZ1:Hid (Z.all (·.oneCell')=true):=by rw[HZ.out];exact setC_one _
 have hbz:∀W:World,(Instr.build 107 #[]).run Tryz.prog W=.ok (.agg Z) W:=fun W=>by
  unfold Instr.build
  simp[hz,go_sem]
 have hne2:(e1 != 0)=true:=by simp[hne]
 have hlt:=h.lt
 have H:Hid _:=h
 have hb0:Below w.heap.size w (w.alloc (.cells Z 107)):=(Below.refl _ _).alloc (Nat.le_refl _) _
 have HRD:Hid _:=read_any s hs (w.alloc (.cells Z 107)) (hsg.below hb0 hg0) (by simp;omega)
 rw[hp] at HRD
 have HEV:Hid _:=hev
 have HC:Hid _:=hc
 clear h hp hev hc hsg
 go_enter Tryz.func45,Tryz.ntmps45
 go_wp2_with fail
 refine Calls.mono HRD.out ?_
 rintro e w1 ⟨cs0,rfl,hrep,hb1⟩
 obtain⟨b1,n1,m1,s1,s2,na1,na2,b2,n2,m2,hcs⟩:=(hrep.five rfl).has
 obtain⟨x,HX⟩:∃x:Int,Hid (x=kindOf a):=⟨_,rfl⟩
 rw[←HX.out] at hcs
 obtain rfl:cs0= #[.int .i64 x,.slice b1 n1 m1,.string s1,.int .i64 na1,.string s2,.int .i64 na2,.slice b2 n2 m2]:=by
  apply Array.toList_inj.1;exact hcs
 have hrep:RepT w1 (fun k=>k<w1.heap.size) 0 [.int .i64 x,.slice b1 n1 m1,.string s1,.int .i64 na1,.string s2,.int .i64 na2,.slice b2 n2 m2] a:=RepT.kept (F':=fun k=>k<w1.heap.size) hrep (fun k o _ ho=>ho) (fun k _ hk=>hk)
 obtain⟨W2,HW2⟩:∃W2,Hid (W2=w1.alloc (.cells #[.int .i64 x,.slice b1 n1 m1,.string s1,.int .i64 na1,.string s2,.int .i64 na2,.slice b2 n2 m2] 69)):=⟨_,rfl⟩
 have hb2:Below w1.heap.size w1 W2:=by rw[HW2.out];exact(Below.refl _ _).alloc (Nat.le_refl _) _
 have hbw:Below w.heap.size w W2:=(hb0.trans (hb1.mono (by simp))).trans (hb2.mono (by have:=hb1.size;simp at this;omega))
 have hrep2:=hrep.belowS hb2
 have hq:W2.heap[w1.heap.size]? =some (.cells #[.int .i64 x,.slice b1 n1 m1,.string s1,.int .i64 na1,.string s2,.int .i64 na2,.slice b2 n2 m2] 69 (0,0)):=by rw[HW2.out];exact heap_alloc_new w1 _
 have hz:w1.heap.size<W2.heap.size:=lt_block hq
 have hgz:W2.heap[w.heap.size]? =some (.cells Z 107 (0,0)):=((hb2.block _ (by have:=hb1.size;simp at this;omega)).trans (hb1.block _ (by simp))).trans (heap_alloc_new w _)
 have HSB:Hid (∀w':World,Below W2.heap.size W2 w'→w'.heap[w1.heap.size]? =some (.cells #[.int .i64 x,.slice b1 n1 m1,.string s1,.int .i64 na1,.string s2,.int .i64 na2,.slice b2 n2 m2] 69 (0,0))∧w'.cell? ⟨sb,0,none⟩=some fv∧w'.cell? ⟨sb,2,none⟩=some (.pointer (some ⟨hb,0,none⟩))∧w'.heap[w.heap.size]? =some (.cells Z 107 (0,0))∧Below w.heap.size w w'∧RepT w' (fun k=>k<w'.heap.size) 0 [.int .i64 x,.slice b1 n1 m1,.string s1,.int .i64 na1,.string s2,.int .i64 na2,.slice b2 n2 m2] a):=by
  intro w' h'
  have hbb:=hbw.trans (h'.mono hbw.size)
  exact⟨(h'.block _ hz).trans hq,(hbb.cell (p:=⟨sb,0,none⟩) hlt).trans H.out.cells.1,(hbb.cell (p:=⟨sb,2,none⟩) hlt).trans H.out.cells.2.2,(h'.block _ (lt_block hgz)).trans hgz,hbb,hrep2.belowS h'⟩
 obtain⟨fa,fc,hfv⟩:=(rowSl H.out.fld).slice
 subst hfv
 have hf4:=H.out.len.2
 have HCH:Hid (∀W:World,Below W2.heap.size W2 W→Calls Tryz.prog 70 #[.agg #[.int .i64 x,.slice b1 n1 m1,.string s1,.int .i64 na1,.string s2,.int .i64 na2,.slice b2 n2 m2],.slice fa fs.length fc] W fun e w'=>e=.returned (.tuple #[.int .i64 e1,.int .i64 e2])∧Below W.heap.size W w'):=by
  intro W hW
  obtain⟨_,_,_,_,p1,p2⟩:=HSB.out W hW
  have:=check_all fs (by omega) _ a W _ ((rowSl H.out.fld).below p1) p2 (every_len HEV.out)
  rw[HC.out] at this
  exact this
 have HS0:Hid (Below W2.heap.size W2 W2.drew):=Below.drew (Below.refl _ _)
 clear hb0 hb1 hb2 hbw hrep hrep2 hq hgz hcs
 go_wp2_with fail
 rw[←HW2.out]
 have HTI:Hid ((Tryz.prog.info? 69).map (·.size)=some (#[Value.int .i64 x,.slice b1 n1 m1,.string s1,.int .i64 na1,.string s2,.int .i64 na2,.slice b2 n2 m2]:Array Value).size):=(by kernel_rfl:(Tryz.prog.info? 69).map (·.size)=some 7)
 refine wp_region_M 10 (fun w'=>Below W2.heap.size W2 w') (by kernel_rfl) ?_
 refine anyM_t (i:=0) (v:=.agg #[.int .i64 x,.slice b1 n1 m1,.string s1,.int .i64 na1,.string s2,.int .i64 na2,.slice b2 n2 m2]) rfl (by kernel_rfl) (fun _ _ _ h=>h) rfl rfl HS0.out (fun w' hSw=>by obtain⟨p0,p1,p2,p3,p4,p5⟩:=HSB.out w' hSw;exact run_load_all 69 _ rfl w1.heap.size rfl 69 _ (0,0) _ p0 Tryz.underlying69 rfl HTI.out) ?_
 simp only[takes]
 refine anyM_t (i:=1) (v:=.pointer (some ⟨sb,0,none⟩)) rfl (by kernel_rfl) (fun _ _ _ h=>h) rfl rfl HS0.out (fun w' hSw=>by obtain⟨p0,p1,p2,p3,p4,p5⟩:=HSB.out w' hSw;go_simp) ?_
 simp only[takes]
 refine anyM_t (i:=2) (v:=.pointer (some ⟨sb,0,none⟩)) rfl (by kernel_rfl) (fun _ _ _ h=>h) rfl rfl HS0.out (fun w' hSw=>by obtain⟨p0,p1,p2,p3,p4,p5⟩:=HSB.out w' hSw;go_simp) ?_
 simp only[takes]
 refine anyM_t (i:=3) (v:=.pointer (some ⟨sb,0,none⟩)) rfl (by kernel_rfl) (fun _ _ _ h=>h) rfl rfl HS0.out (fun w' hSw=>by obtain⟨p0,p1,p2,p3,p4,p5⟩:=HSB.out w' hSw;go_simp) ?_
 simp only[takes]
 refine anyM_t (i:=4) (v:=.slice fa fs.length fc) rfl (by kernel_rfl) (fun _ _ _ h=>h) rfl rfl HS0.out (fun w' hSw=>by obtain⟨p0,p1,p2,p3,p4,p5⟩:=HSB.out w' hSw;go_simp) ?_
 simp only[takes]
 refine anyM_one (i:=5) (by kernel_rfl) rfl rfl (fun K hK=>?_)
 go_simp
 refine(HCH.out _ HS0.out).mono ?_
 rintro r w3 ⟨rfl,hb3⟩
 have hq3:Below W2.heap.size W2 w3:=Below.callB (Below.drew (Below.refl _ _)) (Nat.le_refl _) hb3
 refine hK.out _ _ (fun _=>hq3) ?_
 clear hK K
 try simp only[Act.put,takes]
 refine anyM_t (i:=6) (v:=.tuple #[.int .i64 e1,.int .i64 e2]) rfl (by kernel_rfl) (fun _ _ _ h=>h) rfl rfl hq3 (fun w' hSw=>by go_simp) ?_
 simp only[takes]
 refine anyM_t (i:=7) (v:=.int .i64 e1) rfl (by kernel_rfl) (fun _ _ _ h=>h) rfl rfl hq3 (fun w' hSw=>by go_simp) ?_
 simp only[takes]
 refine anyM_t (i:=8) (v:=.int .i64 e2) rfl (by kernel_rfl) (fun _ _ _ h=>h) rfl rfl hq3 (fun w' hSw=>by go_simp) ?_
 simp only[takes]
 refine anyM_t (i:=9) (v:=.int .i64 e1) rfl (by kernel_rfl) (fun _ _ _ h=>h) rfl rfl hq3 (fun w' hSw=>by go_simp) ?_
 simp only[takes]
 refine anyM_one (i:=10) (by kernel_rfl) rfl rfl (fun K hK=>?_)
 go_simp
 refine hK.out _ _ (fun _=>hq3) ?_
 clear hK K
 refine anyM_done (by kernel_rfl) ?_
 have HQ3:Hid _:=hq3
 clear hb3 hq3
 have HF:Hid _:=HSB.out w3 HQ3.out
 go_wp2_with (first|(refine wpList_build_is rfl 107 #[] rfl (.agg Z) #[] rfl (hbz _) ?_)|(refine wpList_store_row rfl 107 _ _ rfl w.heap.size rfl Z rfl 107 Z HF.out.2.2.2.1 HZI.out rfl HZ1.out ?_))
 have hrv:=run_loadVar_row (P:=Tryz.prog) (w3.setRow w.heap.size Z) w.heap.size 107 107 Z (0,0) _ (setRow_heap _ _ Z _ _ _ HF.out.2.2.2.1) Tryz.underlying107 rfl HZI.out
 exact bodyPost_ret (v:=.tuple #[.agg Z,.int .i64 e1,.int .i64 e2]) (by simp[results,Tryz.results45,asAddr,hrv]) rfl ⟨rfl,Below.setRow HF.out.2.2.2.2.1 (Nat.le_refl _) _⟩
theorem select_bad (e1 e2:Int)(hne:e1≠0)(s:ByteArray)(hF:Calls Tryz.prog 45 #[.pointer (some ⟨sb,0,none⟩),.string s] w fun e w'=>e=.returned (.tuple #[.agg (setC zeroB),.int .i64 e1,.int .i64 e2])∧Below w.heap.size w w'):
  Calls Tryz.prog 40 #[.pointer (some ⟨sb,0,none⟩),.string s] w fun e w'=>e=.returned (.tuple #[.slice none 0 0,.int .i64 e1,.int .i64 e2])∧Below w.heap.size w w':=by
 obtain⟨Z,hz,HZ⟩:∃Z,(∀w,(zeroValue 107).run Tryz.prog w=.ok (.agg Z) w)∧Hid (Z=setC zeroB):=⟨_,zero_set,rfl⟩
 rw[←HZ.out] at hF
 have HFD:Hid _:=hF
 have HZI:Hid ((Tryz.prog.info? 107).map (·.size)=some Z.size):=by rw[HZ.out];exact setC_info _
 have HZ1:Hid (Z.all (·.oneCell')=true):=by rw[HZ.out];exact setC_one _
 have hne2:(e1 != 0)=true:=by simp[hne]
 clear hF
 go_enter Tryz.func40,Tryz.ntmps40
 go_wp2_with fail
 refine Calls.mono HFD.out ?_
 rintro e w1 ⟨rfl,hb1⟩
 go_wp2_with (refine wpList_store_row rfl 107 _ _ rfl w1.heap.size rfl Z rfl 107 Z (heap_alloc_new w1 _) HZI.out rfl HZ1.out ?_)
 go_ret3
 exact⟨rfl,Below.setRow (hb1.alloc hb1.size _) hb1.size _⟩
theorem nearest_bad (e1 e2:Int)(hne:e1≠0)(s:ByteArray)(c1:w.cell? ⟨sb,1,none⟩=some (.int .i64 space))(p:List Int)(hpl:p.length≤9223372036854775807)(pv:Value)(hpv:Sl w pv p.length (intC p))(hsp:Doc.spotB space p=true)(most:Int)(hm:0≤most)(hF:Calls Tryz.prog 45 #[.pointer (some ⟨sb,0,none⟩),.string s] w fun e w'=>e=.returned (.tuple #[.agg (setC zeroB),.int .i64 e1,.int .i64 e2])∧Below w.heap.size w w'):
  Calls Tryz.prog 31 #[.pointer (some ⟨sb,0,none⟩),.string s,pv,.int .i64 most] w fun e w'=>e=.returned (.tuple #[.slice none 0 0,.int .i64 e1,.int .i64 e2])∧Below w.heap.size w w':=by
 obtain⟨Z,hz,HZ⟩:∃Z,(∀w,(zeroValue 107).run Tryz.prog w=.ok (.agg Z) w)∧Hid (Z=setC zeroB):=⟨_,zero_set,rfl⟩
 rw[←HZ.out] at hF
 have HFD:Hid _:=hF
 have HZI:Hid ((Tryz.prog.info? 107).map (·.size)=some Z.size):=by rw[HZ.out];exact setC_info _
 have HZ1:Hid (Z.all (·.oneCell')=true):=by rw[HZ.out];exact setC_one _
 have hne2:(e1 != 0)=true:=by simp[hne]
 have HIS:Hid _:=isSpot_any (w:=w) space p hpl pv hpv
 rw[hsp] at HIS
 have hm0:decide (most<0)=false:=decide_eq_false (by omega)
 obtain⟨pa,pc,hpe⟩:=hpv.slice
 subst hpe
 clear hF hpv hsp
 go_enter Tryz.func31,Tryz.ntmps31
 go_wp2_with fail
 refine Calls.mono HIS.out ?_
 rintro e w0 ⟨rfl,hw0⟩
 rw[hw0]
 clear hw0 w0
 go_wp2_with fail
 refine Calls.mono HFD.out ?_
 rintro e w1 ⟨rfl,hb1⟩
 go_wp2_with (refine wpList_store_row rfl 107 _ _ rfl w1.heap.size rfl Z rfl 107 Z (heap_alloc_new w1 _) HZI.out rfl HZ1.out ?_)
 go_ret3
 exact⟨rfl,Below.setRow (hb1.alloc hb1.size _) hb1.size _⟩
theorem nearest_arg (s:ByteArray)(c1:w.cell? ⟨sb,1,none⟩=some (.int .i64 space))(p:List Int)(hpl:p.length≤9223372036854775807)(pv:Value)(hpv:Sl w pv p.length (intC p))(most:Int)(hbad:Doc.spotB space p=false∨most<0):
  Calls Tryz.prog 31 #[.pointer (some ⟨sb,0,none⟩),.string s,pv,.int .i64 most] w fun e w'=>e=.returned (.tuple #[.slice none 0 0,.int .i64 1,.int .i64 0])∧Below w.heap.size w w':=by
 have HIS:Hid _:=isSpot_any (w:=w) space p hpl pv hpv
 obtain⟨pa,pc,hpe⟩:=hpv.slice
 subst hpe
 cases hsb:Doc.spotB space p
 ·rw[hsb] at HIS
  go_enter Tryz.func31,Tryz.ntmps31
  go_wp2_with fail
  refine Calls.mono HIS.out ?_
  rintro e w0 ⟨rfl,hw0⟩
  rw[hw0]
  clear hw0 w0
  go_wp2_with fail
  go_ret3
  exact⟨rfl,Below.refl _ _⟩
 ·rw[hsb] at HIS
  have hm0:decide (most<0)=true:=by
   rcases hbad with h|h
   ·rw[hsb] at h;cases h
   ·exact decide_eq_true h
  go_enter Tryz.func31,Tryz.ntmps31
  go_wp2_with fail
  refine Calls.mono HIS.out ?_
  rintro e w0 ⟨rfl,hw0⟩
  rw[hw0]
  clear hw0 w0
  go_wp2_with fail
  go_ret3
  exact⟨rfl,Below.refl _ _⟩
end
theorem nums_sel {fs:List Doc.Fld}{th:Has}{a:Doc.Ast}{ys:Bits}(h:∀j,j<4096→memB ys j=saysY fs th a j):nums ys=selTo fs th a 4096:=by
 unfold selTo
 refine Eq.trans (b:=(List.range 4096).filter (memB ys)) ?_ (List.filter_congr fun j hj=>h j (List.mem_range.1 hj))
 rfl
theorem has_is (ts:List Doc.Thg):HasIs ts (hasOf ts):=⟨fun _ h=>has_none h,fun _ _ h=>by obtain⟨hk,_,h2⟩:=has_some h;exact⟨hk,h2⟩⟩
structure SelBoth (xb yb:Nat)(fs:List Doc.Fld)(space:Int)(ts:List Doc.Thg)(s:ByteArray)(l:List Nat)(E p:Int):Prop where
 len:l.length≤4096
 asc:l.Pairwise (· < ·)
 has:∀j∈l,∃t,hasOf ts (j:Int)=some t
 zero:E=0→p=0
 nil:E≠0→l=[]
 find:E≠0→∀W F,ProgSt W F xb fs space (hasOf ts)→Signs W→1<W.heap.size→Calls Tryz.prog 45 #[.pointer (some ⟨xb,0,none⟩),.string s] W fun e w'=>e=.returned (.tuple #[.agg (setC zeroB),.int .i64 E,.int .i64 p])∧Below W.heap.size W w'
 refE:E≠0→∀W G,RefSt W G yb fs space ts→Calls Tryz.prog 101 #[.pointer (some ⟨yb,0,none⟩),.string s] W fun e w'=>e=.returned (.tuple #[.slice none 0 0,.int .i64 E,.int .i64 p])∧Below W.heap.size W w'
 ok:E=0→s.size≤200∧∃a j,Doc.parse (Doc.toks s 0)=.ok a j∧Doc.Every Doc.TestOk a∧Doc.check fs a=(0,0)∧l=selTo fs (hasOf ts) a 4096
 prog:∀W F,ProgSt W F xb fs space (hasOf ts)→Signs W→1<W.heap.size→Tab64 W→0<W.heap.size→Calls Tryz.prog 40 #[.pointer (some ⟨xb,0,none⟩),.string s] W fun e w'=>∃v,e=.returned (.tuple #[v,.int .i64 E,.int .i64 p])∧w'.ownsRow W.heap.size 3 1 v l.length (natC l)∧Below W.heap.size W w'
 ref:∀W G,RefSt W G yb fs space ts→Calls Tryz.prog 101 #[.pointer (some ⟨yb,0,none⟩),.string s] W fun e w'=>∃v,e=.returned (.tuple #[v,.int .i64 E,.int .i64 p])∧w'.ownsRow W.heap.size 3 1 v l.length (natC l)∧Below W.heap.size W w'
set_option maxHeartbeats 1000000 in
theorem select_both {w:World}{F:Nat→Prop}{xb yb:Nat}{fs:List Doc.Fld}{space:Int}{ts:List Doc.Thg}(hu:Uniq ts)(hP:ProgSt w F xb fs space (hasOf ts))(s:ByteArray):
  ∃(l:List Nat) (E p:Int),SelBoth xb yb fs space ts s l E p:=by
 obtain⟨hlen,_⟩:=ref_rng hP rfl hu
 obtain⟨fv,hb,mt,mh,pos,h⟩:=hP
 have hK:Doc.KindsOk fs:=fun f hf=>by
  obtain⟨k,hk,rfl⟩:=List.getElem_of_mem hf
  exact h.kind k hk
 have hfl:=h.len.2
 have bad:∀(E p:Int),E≠0→(∀W F,ProgSt W F xb fs space (hasOf ts)→Signs W→1<W.heap.size→Calls Tryz.prog 45 #[.pointer (some ⟨xb,0,none⟩),.string s] W fun e w'=>e=.returned (.tuple #[.agg (setC zeroB),.int .i64 E,.int .i64 p])∧Below W.heap.size W w')→
   (∀W G,RefSt W G yb fs space ts→Calls Tryz.prog 101 #[.pointer (some ⟨yb,0,none⟩),.string s] W fun e w'=>e=.returned (.tuple #[.slice none 0 0,.int .i64 E,.int .i64 p])∧Below W.heap.size W w')→∃(l:List Nat) (E p:Int),SelBoth xb yb fs space ts s l E p:=fun E p hE h1 h2=>
  ⟨[],E,p,Nat.zero_le _,List.Pairwise.nil,(fun j hj=>by cases hj),(fun e=>absurd e hE),(fun _=>rfl),(fun _=>h1),(fun _=>h2),(fun e=>absurd e hE),(fun W F hW hsg hg0 _ _=>(select_bad E p hE s (h1 W F hW hsg hg0)).mono fun _ _ ⟨e,hb⟩=>⟨_,e,World.ownsRow_nil _ _ _ _,hb⟩),(fun W G hW=>(h2 W G hW).mono fun _ _ ⟨e,hb⟩=>⟨_,e,World.ownsRow_nil _ _ _ _,hb⟩)⟩
 by_cases hs:200<s.size
 ·refine bad 5 0 (by decide) (fun W F hW hsg hg0=>?_) (fun W G hW=>?_)
  ·obtain⟨_,_,_,_,_,hA⟩:=hW
   exact find_read hA.lt s 5 0 (by decide) (fun W' _=>read_long s hs W')
  ·exact rselect_read s 5 0 (by decide) ((parse_long s W hs).mono fun _ _ ⟨e,hw⟩=>⟨e,by rw[hw];exact Below.refl _ _⟩)
 have hs':s.size≤200:=by omega
 cases hp:Doc.parse (Doc.toks s 0) with
 |err er q=>
  have hne:0<er:=by
   have h0:=Doc.parse_pos (Doc.ok_toks s hs') (Doc.toks_pos s)
   rw[hp] at h0
   exact h0.1
  refine bad er q (by omega) (fun W F hW hsg hg0=>?_) (fun W G hW=>?_)
  ·obtain⟨_,_,_,_,_,hA⟩:=hW
   refine find_read hA.lt s er q (by omega) (fun W' hW'=>?_)
   have:=read_any s hs' W' (hsg.below hW' hg0) (Nat.lt_of_lt_of_le hg0 hW'.size)
   rw[hp] at this
   exact this
  ·have:=parse_any s W hs'
   rw[hp] at this
   exact rselect_read s er q (by omega) (this.mono fun _ _ ⟨e,_,hb⟩=>⟨e,hb⟩)
 |ok a j=>
  have hev:=Doc.parse_ok (Doc.ok_toks s hs') hp
  have hix:=Doc.parse_ix hp
  obtain⟨e1,e2,hc⟩:∃e1 e2,Doc.check fs a=(e1,e2):=⟨_,_,rfl⟩
  by_cases he:e1=0
  ·have hc0:Doc.check fs a=(0,0):=Doc.check_zero (by rw[hc,he];rfl)
   refine⟨selTo fs (hasOf ts) a 4096,0,0,selTo_len _ _ _ _,?_,fun j hj=>?_,fun _=>rfl,fun h=>absurd rfl h,fun h=>absurd rfl h,fun h=>absurd rfl h,fun _=>⟨hs',a,j,hp,hev,hc0,rfl⟩,fun W F hW hsg hg0 hT hG=>?_,fun W G hW=>?_⟩
   ·exact List.Pairwise.filter _ List.pairwise_lt_range
   ·have:=(List.mem_filter.1 hj).2
    unfold saysY at this
    cases e:hasOf ts (j:Int) with
    |none=>rw[e] at this;cases this
    |some t=>exact⟨t,rfl⟩
   ·obtain⟨_,_,_,_,_,hA⟩:=hW
    refine(select_ok hA hsg hg0 hT hG s hs' a j hp hev hc0).mono ?_
    rintro e w' ⟨v,ys,rfl,hys,hr,hb⟩
    rw[nums_sel hys] at hr
    exact⟨v,rfl,hr,hb⟩
   ·obtain⟨_,_,_,hA⟩:=hW
    refine rselect_ok hA hlen hfl (has_is ts) s a (fun t ht=>?_) (fun fa fc e=>parses_ok (parsed_ok hs' hp hK hfl (by rw[←e];exact rowSl hA.fld) hc0))
    obtain⟨_,f2,f3⟩:=h.fits t.id _ (has_mem hu ht)
    exact Doc.say_ok f2 f3 hev (Doc.ix_lits hix) (Doc.ix_ops hix) hc0
  ·refine bad e1 e2 he (fun W F hW hsg hg0=>?_) (fun W G hW=>?_)
   ·obtain⟨_,_,_,_,_,hA⟩:=hW
    exact find_check hA hsg hg0 s hs' a j hp hev e1 e2 he hc
   ·obtain⟨_,_,_,hA⟩:=hW
    exact rselect_check hA s a e1 e2 he (fun fa fc e=>parsed_ok hs' hp hK hfl (by rw[←e];exact rowSl hA.fld) hc)
structure NearBoth (xb yb:Nat)(fs:List Doc.Fld)(space:Int)(ts:List Doc.Thg)(s:ByteArray)(spot:List Int)(most:Int)(hs:List (Int×Int))(E p:Int):Prop where
 len:hs.length≤4096
 prog:∀W F sv,ProgSt W F xb fs space (hasOf ts)→Signs W→1<W.heap.size→Tab64 W→0<W.heap.size→Sl W sv spot.length (intC spot)→Calls Tryz.prog 31 #[.pointer (some ⟨xb,0,none⟩),.string s,sv,.int .i64 most] W fun e w'=>∃v,e=.returned (.tuple #[v,.int .i64 E,.int .i64 p])∧w'.ownsRow W.heap.size 61 2 v hs.length (hitsC hs)∧Below W.heap.size W w'
 ref:∀W G sv,RefSt W G yb fs space ts→Sl W sv spot.length (intC spot)→Calls Tryz.prog 102 #[.pointer (some ⟨yb,0,none⟩),.string s,sv,.int .i64 most] W fun e w'=>∃v,e=.returned (.tuple #[v,.int .i64 E,.int .i64 p])∧w'.ownsRow W.heap.size 61 2 v hs.length (hitsC hs)∧Below W.heap.size W w'
theorem take_min' {α:Type}(l:List α)(m:Nat):l.take m=l.take (min m l.length):=by
 by_cases h:m≤l.length
 ·rw[Nat.min_eq_left h]
 ·rw[Nat.min_eq_right (by omega),List.take_of_length_le (by omega),List.take_length]
set_option maxHeartbeats 1000000 in
theorem near_both {w:World}{F:Nat→Prop}{xb yb:Nat}{fs:List Doc.Fld}{space:Int}{ts:List Doc.Thg}(hu:Uniq ts)(hP:ProgSt w F xb fs space (hasOf ts))(s:ByteArray)(spot:List Int)(hsl:spot.length≤1000000000)(most:Int)(hm:most≤9223372036854775807):
  ∃(hs:List (Int×Int)) (E p:Int),NearBoth xb yb fs space ts s spot most hs E p:=by
 obtain⟨l,E,p,hB⟩:=select_both (yb:=yb) hu hP s
 obtain⟨hlen,_⟩:=ref_rng hP rfl hu
 obtain⟨fv,hb,mt,mh,pos,h⟩:=hP
 by_cases hbad:Doc.spotB space spot=false∨most<0
 ·refine⟨[],1,0,Nat.zero_le _,fun W F sv hW hsg hg0 hT hG hsv=>?_,fun W G sv hW hsv=>?_⟩
  ·obtain⟨_,_,_,_,_,hA⟩:=hW
   refine(nearest_arg s hA.cells.2.1 spot (by omega) sv hsv most hbad).mono ?_
   rintro e w' ⟨rfl,hb⟩
   exact⟨_,rfl,World.ownsRow_nil _ _ _ _,hb⟩
  ·obtain⟨_,_,_,hA⟩:=hW
   refine(rnearest_arg s (st_cells hA.blk).2.1 spot (by omega) sv hsv most hbad).mono ?_
   rintro e w' ⟨rfl,hb⟩
   exact⟨_,rfl,World.ownsRow_nil _ _ _ _,hb⟩
 have hsp:Doc.spotB space spot=true:=by
  cases e:Doc.spotB space spot
  ·exact absurd (.inl e) hbad
  ·rfl
 obtain⟨m,rfl⟩:∃m:Nat,most=(m:Int):=⟨most.toNat,by
  have:¬most<0:=fun h=>hbad (.inr h)
  omega⟩
 by_cases hE:E=0
 ·subst hE
  obtain rfl:=hB.zero rfl
  obtain⟨hs',a,j,hp,hev,hc,hl⟩:=hB.ok rfl
  refine⟨(hitsK (hasOf ts) spot l).take (min m l.length),0,0,?_,fun W F sv hW hsg hg0 hT hG hsv=>?_,fun W G sv hW hsv=>?_⟩
  ·rw[List.length_take,hitsK_len];have:=hB.len;omega
  ·obtain⟨_,_,_,_,_,hA⟩:=hW
   refine(nearest_row hA hsg hg0 hT hG s hs' a j hp hev hc spot sv hsv hsp (by omega) m (by omega)).mono ?_
   rintro e w' ⟨v,ys,rfl,hys,_,hb,hr⟩
   rw[nums_sel hys,←hl] at hr
   refine⟨v,rfl,?_,hb⟩
   rw[List.length_take,hitsK_len,show min (min m l.length) l.length=min m l.length by omega]
   exact hr
  ·obtain⟨_,_,_,hA⟩:=hW
   refine(rnearest_ok (th:=hasOf ts) hA hlen s l hB.len hB.asc spot (by have:=spot_len hsp;have:=h.spc;omega) (fun k hk=>?_) (hB.ref W _ ⟨_,_,_,hA⟩) sv hsv hsp m).mono ?_
   ·obtain⟨t,ht⟩:=hB.has k hk
    cases hi:Doc.idxT ts (k:Int) with
    |none=>rw[has_none hi] at ht;cases ht
    |some q=>
     obtain⟨hq,_,h2⟩:=has_some hi
     obtain⟨f1,_,_⟩:=h.fits _ _ h2
     have l1:(ts[q].spot.length:Int)=space:=spot_len f1
     have l2:=spot_len hsp
     refine⟨q,hq,rfl,by omega,Doc.spot_near f1,?_⟩
     unfold farK
     rw[h2]
   ·rintro e w' ⟨v,rfl,hr,hb⟩
    refine⟨v,rfl,?_,hb⟩
    rw[take_min',hitsK_len] at hr
    rw[List.length_take,hitsK_len,show min (min m l.length) l.length=min m l.length by omega]
    exact hr
 ·obtain rfl:=hB.nil hE
  refine⟨[],E,p,Nat.zero_le _,fun W F sv hW hsg hg0 hT hG hsv=>?_,fun W G sv hW hsv=>?_⟩
  ·have hf:=hB.find hE W F hW hsg hg0
   obtain⟨_,_,_,_,_,hA⟩:=hW
   refine(nearest_bad E p hE s hA.cells.2.1 spot (by omega) sv hsv hsp m (by omega) hf).mono ?_
   rintro e w' ⟨rfl,hb⟩
   exact⟨_,rfl,World.ownsRow_nil _ _ _ _,hb⟩
  ·have hf:=hB.refE hE W G hW
   obtain⟨_,_,_,hA⟩:=hW
   refine(rnearest_bad s (st_cells hA.blk).2.1 spot (by omega) sv hsv hsp m (by omega) E p hE hf).mono ?_
   rintro e w' ⟨rfl,hb⟩
   exact⟨_,rfl,World.ownsRow_nil _ _ _ _,hb⟩
end Go.Proofs.YtbnelaoeblhndaaGreatDoor
