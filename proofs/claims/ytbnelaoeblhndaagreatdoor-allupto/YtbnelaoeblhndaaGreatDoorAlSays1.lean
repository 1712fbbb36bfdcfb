import Derived.Test.YtbnelaoeblhndaaGreatDoorFiM1
import Derived.BigQuiet
namespace Go.Proofs.YtbnelaoeblhndaaGreatDoor
open Go.RowKit
set_option maxRecDepth 100000
namespace Doc
def ordI (x:Val)(t:Tok):Int:=bif t.kind==110 then x.n-t.N else cmpS x.s.toList t.S.toList
def ordB (z:Int)(o:List UInt8):Bool:=
 bif o==[33,61] then z != 0 else bif o==[60] then decide (z<0) else bif o==[60,61] then decide (z≤0) else bif o==[62] then decide (z > 0) else bif o==[62,61] then decide (z≥0) else z==0
def refB (x:Val)(o:Tok)(lits:List Tok):Bool:=
 bif o.S.toList==[108,105,107,101] then hasP x.s (tk lits 0).S else lits.any fun t=>ordB (ordI x t) o.S.toList
end Doc
section
variable {w:World}
theorem rorder_any (x:Doc.Val)(t:Doc.Tok)(hx: -9999999≤x.n∧x.n≤9999999)(ht: -9999999≤t.N∧t.N≤9999999):
  Calls Tryz.prog 190 #[.agg #[.int .i64 x.k,.int .i64 x.n,.string x.s],.agg #[.int .u8 t.kind.toNat,.string t.S,.int .i64 t.N,.int .i64 t.at_]] w fun e w'=>e=.returned (.int .i64 (Doc.ordI x t))∧Below w.heap.size w w':=by
 obtain⟨r,HR⟩:∃r,Hid (Doc.ordI x t=r):=⟨_,rfl⟩
 rw[HR.out]
 have HBW:Hid (∀A B:Obj,Below w.heap.size w ((w.alloc A).alloc B)):=fun A B=>((Below.refl _ _).alloc (Nat.le_refl _) _).alloc (by simp) _
 by_cases h1:t.kind=110
 ·have e1:((t.kind.toNat:Int)==110)=true:=by rw[h1];rfl
  have hr:x.n-t.N=r:=by rw[←HR.out];unfold Doc.ordI;rw[h1];rfl
  have hw:wrap64 (x.n-t.N)=r:=by rw[←hr];unfold wrap64;omega
  have HRR:Hid _:=hr
  clear hr
  go_enter Tryz.func190,Tryz.ntmps190
  go_wp2_with fail
  go_ret
  refine⟨?_,HBW.out _ _⟩
  first|rfl|(rw[←HRR.out];rfl)
 ·have e0:(t.kind==110)=false:=by simp[h1]
  have e1:((t.kind.toNat:Int)==110)=false:=by rw[←e0];exact(u8_int t.kind 110 (by omega)).symm
  have hr:Doc.cmpS x.s.toList t.S.toList=r:=by rw[←HR.out];unfold Doc.ordI;rw[e0];rfl
  cases h2:Op.bytesLess x.s.toList t.S.toList
  ·cases h3:(x.s.toList==t.S.toList)
   ·have hr2:r=1:=by rw[←hr,Doc.cmpS,h2,h3];rfl
    subst hr2
    clear HR hr
    go_enter Tryz.func190,Tryz.ntmps190
    go_wp2_with fail
    go_ret
    exact⟨rfl,HBW.out _ _⟩
   ·have hr2:r=0:=by rw[←hr,Doc.cmpS,h2,h3];rfl
    subst hr2
    clear HR hr
    go_enter Tryz.func190,Tryz.ntmps190
    go_wp2_with fail
    go_ret
    exact⟨rfl,HBW.out _ _⟩
  ·have hr2:r= -1:=by rw[←hr,Doc.cmpS,h2];rfl
   subst hr2
   clear HR hr
   go_enter Tryz.func190,Tryz.ntmps190
   go_wp2_with fail
   go_ret
   exact⟨rfl,HBW.out _ _⟩
theorem any_none {α:Type}{p:α→Bool}{l:List α}(h:∀j (hj:j<l.length),p l[j]=false):l.any p=false:=by
 rw[List.any_eq_false]
 intro a ha
 obtain⟨i,hi,rfl⟩:=List.getElem_of_mem ha
 rw[h i hi];exact Bool.false_ne_true
theorem any_here {α:Type}{p:α→Bool}{l:List α}{j:Nat}(hj:j<l.length)(h:p l[j]=true):l.any p=true:=List.any_eq_true.2 ⟨_,List.getElem_mem hj,h⟩
set_option maxHeartbeats 8000000 in
theorem rsays_any (n:NodeR)(x:Doc.Val)(lits:List Doc.Tok)(la:Option Addr)(lc:Nat)(hv:Sl w (.slice la lits.length lc) lits.length (toksC lits))(hll:lits.length≤300)(hx: -9999999≤x.n∧x.n≤9999999)(ht:∀t∈lits, -9999999≤t.N∧t.N≤9999999)(hlike:(n.ask.S.toList==[108,105,107,101])=true→lits≠[]):
  Calls Tryz.prog 169 #[.agg #[.int .u8 n.kind.toNat,.int .i64 n.A,.int .i64 n.B,.int .u8 n.name.kind.toNat,.string n.name.S,.int .i64 n.name.N,.int .i64 n.name.at_,.int .u8 n.ask.kind.toNat,.string n.ask.S,.int .i64 n.ask.N,.int .i64 n.ask.at_,.slice la lits.length lc],.agg #[.int .i64 x.k,.int .i64 x.n,.string x.s]] w fun e w'=>e=.returned (.bool (Doc.refB x n.ask lits))∧Below w.heap.size w w':=by
 obtain⟨W0,HW0⟩:∃W0,Hid (W0=(w.alloc (.cells #[.int .u8 n.kind.toNat,.int .i64 n.A,.int .i64 n.B,.int .u8 n.name.kind.toNat,.string n.name.S,.int .i64 n.name.N,.int .i64 n.name.at_,.int .u8 n.ask.kind.toNat,.string n.ask.S,.int .i64 n.ask.N,.int .i64 n.ask.at_,.slice la lits.length lc] 178)).alloc (.cells #[.int .i64 x.k,.int .i64 x.n,.string x.s] 94)):=⟨_,rfl⟩
 have hb0:Below w.heap.size w W0:=by rw[HW0.out];exact((Below.refl _ _).alloc (Nat.le_refl _) _).alloc (by simp) _
 have hn0:W0.heap[w.heap.size]? =some (.cells #[.int .u8 n.kind.toNat,.int .i64 n.A,.int .i64 n.B,.int .u8 n.name.kind.toNat,.string n.name.S,.int .i64 n.name.N,.int .i64 n.name.at_,.int .u8 n.ask.kind.toNat,.string n.ask.S,.int .i64 n.ask.N,.int .i64 n.ask.at_,.slice la lits.length lc] 178 (0,0)):=by rw[HW0.out];exact heap_alloc2_old w _ _
 have hx0:W0.heap[w.heap.size+1]? =some (.cells #[.int .i64 x.k,.int .i64 x.n,.string x.s] 94 (0,0)):=by rw[HW0.out];exact heap_alloc2_new w _ _
 have HB0:Hid _:=hb0
 have HN0:Hid _:=hn0
 have HX0:Hid _:=hx0
 have HV:Hid _:=hv
 have HT:Hid _:=ht
 obtain⟨b,HB⟩:∃b,Hid (Doc.refB x n.ask lits=b):=⟨_,rfl⟩
 rw[HB.out]
 clear hb0 hn0 hx0 hv ht
 cases hk:(n.ask.S.toList==[108,105,107,101])
 ·go_enter Tryz.func169,Tryz.ntmps169
  go_wp2_with fail
  rw[←HW0.out]
  have HREF:Hid (b=lits.any fun t=>Doc.ordB (Doc.ordI x t) n.ask.S.toList):=by show _=_;rw[←HB.out];unfold Doc.refB;rw[hk];rfl
  go_loopw [6] (fun i wr=>∃j:Nat,j≤lits.length∧i=.int .i64 j∧Below W0.heap.size W0 wr∧Hid (∀q (_:q<j) (hq:q<lits.length),Doc.ordB (Doc.ordI x lits[q]) n.ask.S.toList=false)) (fun i _=>lits.length-(intOf i).toNat)
  case atStart=>exact⟨0,Nat.zero_le _,rfl,Below.refl _ _,fun q h=>by omega⟩
  case round=>
   obtain⟨j,hj,rfl,hB,HNO⟩:=hrel
   have hsz:=hB.size
   have hl0:=lt_block HN0.out
   have hl1:=lt_block HX0.out
   have hn1:=(hB.block _ hl0).trans HN0.out
   have c8:=blk_cell hn1 8 _ rfl
   have c11:=blk_cell hn1 11 _ rfl
   by_cases hj2:j<lits.length
   ·rcases HV.out.has with⟨h0',_⟩|⟨_,lb,lo,lc',ev,hlc,hlt,hr⟩
    ·omega
    cases ev
    obtain⟨t,HTT⟩:∃t,Hid (lits[j]=t):=⟨lits[j],rfl⟩
    have htb:=HT.out t (by rw[←HTT.out];exact List.getElem_mem hj2)
    have HBW:Hid (Below w.heap.size w wr):=HB0.out.trans (hB.mono HB0.out.size)
    have HCT:Hid (∀W:World,Below wr.heap.size wr W→W.cell? ⟨lb,lo+j*4,none⟩=some (.int .u8 t.kind.toNat)∧W.cell? ⟨lb,lo+j*4+1,none⟩=some (.string t.S)∧W.cell? ⟨lb,lo+j*4+2,none⟩=some (.int .i64 t.N)∧W.cell? ⟨lb,lo+j*4+3,none⟩=some (.int .i64 t.at_)):=fun W hW=>by
     have hWw:Below w.heap.size w W:=HBW.out.trans (hW.mono HBW.out.size)
     have rr:∀i (_:i<4),W.cell? ⟨lb,lo+j*4+i,none⟩=(tokC lits[j])[i]? :=fun i hi=>by
      have hf:=flat_at tokC 4 (fun _=>rfl) lits j hj2 i hi
      have hlc:((tokC lits[j])[i]?).isSome=true:=by rw[List.getElem?_eq_getElem (by exact hi)];rfl
      obtain⟨u,hu⟩:=Option.isSome_iff_exists.1 hlc
      rw[hWw.cell (p:=⟨lb,lo+j*4+i,none⟩) hlt,hu,Nat.add_assoc]
      exact hr (j*4+i) u (by unfold toksC;rw[hf,hu])
     rw[HTT.out] at rr
     exact⟨rr 0 (by omega),rr 1 (by omega),rr 2 (by omega),rr 3 (by omega)⟩
    have HNB:Hid (∀W:World,Below wr.heap.size wr W→W.cell? ⟨w.heap.size,11,none⟩=some (.slice (some ⟨lb,lo,none⟩) lits.length lc)∧W.heap[w.heap.size+1]? =some (.cells #[.int .i64 x.k,.int .i64 x.n,.string x.s] 94 (0,0))):=fun W hW=>
     ⟨blk_cell ((hW.block _ (by omega)).trans hn1) 11 _ rfl,(hW.block _ (by omega)).trans ((hB.block _ hl1).trans HX0.out)⟩
    obtain⟨z,HZ⟩:∃z,Hid (Doc.ordI x t=z):=⟨_,rfl⟩
    have HOR:Hid (∀W:World,Calls Tryz.prog 190 #[.agg #[.int .i64 x.k,.int .i64 x.n,.string x.s],.agg #[.int .u8 t.kind.toNat,.string t.S,.int .i64 t.N,.int .i64 t.at_]] W fun e w'=>e=.returned (.int .i64 z)∧Below W.heap.size W w'):=fun W=>by rw[←HZ.out];exact rorder_any x t hx htb
    have HNX:Hid (∀q (_:q<j+1) (hq:q<lits.length),Doc.ordB z n.ask.S.toList=false→Doc.ordB (Doc.ordI x lits[q]) n.ask.S.toList=false):=fun q h3 h4 h5=>by
     by_cases e:q=j
     ·subst e;rw[HTT.out,HZ.out];exact h5
     ·exact HNO.out q (by omega) h4
    have HYES:Hid (Doc.ordB z n.ask.S.toList=true→b=true):=fun h=>by
     rw[HREF.out]
     exact any_here hj2 (by rw[HTT.out,HZ.out];exact h)
    have HS0:Hid (Below wr.heap.size wr wr.drew):=Below.drew (Below.refl _ _)
    have HQB:Hid _:=hB
    clear hr hB htb hn1
    go_wp2_with fail
    refine wp_region_M 7 (fun w'=>Below wr.heap.size wr w') (by kernel_rfl) ?_
    refine anyM_t (i:=0) (v:=.agg #[.int .i64 x.k,.int .i64 x.n,.string x.s]) rfl (by kernel_rfl) (fun _ _ _ h=>h) rfl rfl HS0.out (fun w' hSw=>run_load_all 94 _ rfl (w.heap.size+1) rfl 94 _ (0,0) _ (HNB.out w' hSw).2 Tryz.underlying94 rfl (by kernel_rfl)) ?_
    simp only[takes]
    refine anyM_t (i:=1) (v:=.pointer (some ⟨w.heap.size,11,none⟩)) rfl (by kernel_rfl) (fun _ _ _ h=>h) rfl rfl HS0.out (fun w' hSw=>by go_simp) ?_
    simp only[takes]
    refine anyM_t (i:=2) (v:=.slice (some ⟨lb,lo,none⟩) lits.length lc) rfl (by kernel_rfl) (fun _ _ _ h=>h) rfl rfl HS0.out (fun w' hSw=>by have c:=(HNB.out w' hSw).1;go_simp) ?_
    simp only[takes]
    refine anyM_t (i:=3) (v:=.int .i64 (j:Int)) rfl (by kernel_rfl) (fun _ _ _ h=>h) rfl rfl HS0.out (fun w' hSw=>by go_simp) ?_
    simp only[takes]
    refine anyM_t (i:=4) (v:=.pointer (some ⟨lb,lo+j*4,none⟩)) rfl (by kernel_rfl) (fun _ _ _ h=>h) rfl rfl HS0.out (fun w' hSw=>by go_simp) ?_
    simp only[takes]
    refine anyM_t (i:=5) (v:=.agg #[.int .u8 t.kind.toNat,.string t.S,.int .i64 t.N,.int .i64 t.at_]) rfl (by kernel_rfl) (fun _ _ _ h=>h) rfl rfl HS0.out (fun w' hSw=>by obtain⟨y0,y1,y2,y3⟩:=HCT.out w' hSw;go_simp) ?_
    simp only[takes]
    refine anyM_one (i:=6) (by kernel_rfl) rfl rfl (fun K hK=>?_)
    go_simp
    refine(HOR.out _).mono ?_
    rintro r w3 ⟨rfl,hb3⟩
    have hq3:Below wr.heap.size wr w3:=Below.callB HS0.out (Nat.le_refl _) hb3
    refine hK.out _ _ (fun _=>hq3) ?_
    clear hK K
    try simp only[Act.put,takes]
    refine anyM_one (i:=7) (by kernel_rfl) rfl rfl (fun K hK=>?_)
    go_simp
    refine hK.out _ _ (fun _=>hq3) ?_
    clear hK K
    refine anyM_done (by kernel_rfl) ?_
    have HB4:Hid (Below W0.heap.size W0 w3):=HQB.out.trans (hq3.mono HQB.out.size)
    have c8':=blk_cell ((HB4.out.block _ hl0).trans HN0.out) 8 _ rfl
    clear hb3 hq3 c8 c11
    cases h1:(n.ask.S.toList==[33,61])
    ·cases h2:(n.ask.S.toList==[60])
     ·cases h3:(n.ask.S.toList==[60,61])
      ·cases h4:(n.ask.S.toList==[62])
       ·cases h5:(n.ask.S.toList==[62,61])
        ·obtain⟨bq,hq⟩:∃b,(z==0)=b:=⟨_,rfl⟩
         have hob:Doc.ordB z n.ask.S.toList=bq:=by unfold Doc.ordB;simp only[*,cond_false]
         have HOB:Hid _:=hob
         clear hob
         cases bq
         ·go_wp2_with fail
          go_roundw
          case rel=>exact⟨j+1,by omega,by go_num,HB4.out,fun i h3 h4=>HNX.out i h3 h4 HOB.out⟩
          case measure=>simp[intOf];omega
         ·go_wp2_with fail
          go_ret
          exact⟨by rw[HYES.out HOB.out];rfl,HB0.out.trans (HB4.out.mono HB0.out.size)⟩
        ·obtain⟨bq,hq⟩:∃b,(decide (z≥0))=b:=⟨_,rfl⟩
         have hob:Doc.ordB z n.ask.S.toList=bq:=by unfold Doc.ordB;simp only[*,cond_true,cond_false]
         have HOB:Hid _:=hob
         clear hob
         cases bq
         ·go_wp2_with fail
          go_roundw
          case rel=>exact⟨j+1,by omega,by go_num,HB4.out,fun i h3 h4=>HNX.out i h3 h4 HOB.out⟩
          case measure=>simp[intOf];omega
         ·go_wp2_with fail
          go_ret
          exact⟨by rw[HYES.out HOB.out];rfl,HB0.out.trans (HB4.out.mono HB0.out.size)⟩
       ·obtain⟨bq,hq⟩:∃b,(decide (z > 0))=b:=⟨_,rfl⟩
        have hob:Doc.ordB z n.ask.S.toList=bq:=by unfold Doc.ordB;simp only[*,cond_true,cond_false]
        have HOB:Hid _:=hob
        clear hob
        cases bq
        ·go_wp2_with fail
         go_roundw
         case rel=>exact⟨j+1,by omega,by go_num,HB4.out,fun i h3 h4=>HNX.out i h3 h4 HOB.out⟩
         case measure=>simp[intOf];omega
        ·go_wp2_with fail
         go_ret
         exact⟨by rw[HYES.out HOB.out];rfl,HB0.out.trans (HB4.out.mono HB0.out.size)⟩
      ·obtain⟨bq,hq⟩:∃b,(decide (z≤0))=b:=⟨_,rfl⟩
       have hob:Doc.ordB z n.ask.S.toList=bq:=by unfold Doc.ordB;simp only[*,cond_true,cond_false]
       have HOB:Hid _:=hob
       clear hob
       cases bq
       ·go_wp2_with fail
        go_roundw
        case rel=>exact⟨j+1,by omega,by go_num,HB4.out,fun i h3 h4=>HNX.out i h3 h4 HOB.out⟩
        case measure=>simp[intOf];omega
       ·go_wp2_with fail
        go_ret
        exact⟨by rw[HYES.out HOB.out];rfl,HB0.out.trans (HB4.out.mono HB0.out.size)⟩
     ·obtain⟨bq,hq⟩:∃b,(decide (z<0))=b:=⟨_,rfl⟩
      have hob:Doc.ordB z n.ask.S.toList=bq:=by unfold Doc.ordB;simp only[*,cond_true,cond_false]
      have HOB:Hid _:=hob
      clear hob
      cases bq
      ·go_wp2_with fail
       go_roundw
       case rel=>exact⟨j+1,by omega,by go_num,HB4.out,fun i h3 h4=>HNX.out i h3 h4 HOB.out⟩
       case measure=>simp[intOf];omega
      ·go_wp2_with fail
       go_ret
       exact⟨by rw[HYES.out HOB.out];rfl,HB0.out.trans (HB4.out.mono HB0.out.size)⟩
    ·obtain⟨bq,hq⟩:∃b,(z != 0)=b:=⟨_,rfl⟩
     have hob:Doc.ordB z n.ask.S.toList=bq:=by unfold Doc.ordB;simp only[*,cond_true]
     have HOB:Hid _:=hob
     clear hob
     cases bq
     ·go_wp2_with fail
      go_roundw
      case rel=>exact⟨j+1,by omega,by go_num,HB4.out,fun i h3 h4=>HNX.out i h3 h4 HOB.out⟩
      case measure=>simp[intOf];omega
     ·go_wp2_with fail
      go_ret
      exact⟨by rw[HYES.out HOB.out];rfl,HB0.out.trans (HB4.out.mono HB0.out.size)⟩
   ·obtain rfl:j=lits.length:=by omega
    have hbf:b=false:=by
     rw[HREF.out]
     exact any_none (fun q hq=>HNO.out q hq hq)
    subst hbf
    go_wp2_with fail
    go_ret
    exact⟨rfl,HB0.out.trans (hB.mono HB0.out.size)⟩
 ·have hne:=hlike hk
  have hl1:0<lits.length:=List.length_pos_iff.2 hne
  rcases HV.out.has with⟨h0',_⟩|⟨_,lb,lo,lc',ev,hlc,hlt,hr⟩
  ·omega
  cases ev
  obtain⟨t,HTT⟩:∃t,Hid (lits[0]=t):=⟨lits[0],rfl⟩
  have HTK:Hid (Doc.tk lits 0=t):=by
   show _=_
   rw[←HTT.out]
   unfold Doc.tk
   rw[List.getD_eq_getElem?_getD,List.getElem?_eq_getElem hl1]
   rfl
  have y1:W0.cell? ⟨lb,lo+1,none⟩=some (.string t.S):=by
   rw[HB0.out.cell (p:=⟨lb,lo+1,none⟩) hlt]
   have hf:=flat_at tokC 4 (fun _=>rfl) lits 0 hl1 1 (by omega)
   refine hr 1 _ ?_
   unfold toksC
   rw[Nat.zero_mul,Nat.zero_add] at hf
   rw[hf,HTT.out]
   rfl
  have HREF:Hid (b=hasP x.s t.S):=by show _=_;rw[←HB.out];unfold Doc.refB;rw[hk,HTK.out];rfl
  rw[HW0.out] at y1
  clear hr
  by_cases hp:t.S.size≤x.s.size
  ·have hd:decide ((t.S.size:Int)≤(x.s.size:Int))=true:=decide_eq_true (by omega)
   go_enter Tryz.func169,Tryz.ntmps169
   have HBV:Hid (b=((x.s.extract 0 t.S.size).toList==t.S.toList)):=by show _=_;rw[HREF.out];unfold hasP;rw[decide_eq_true hp];rfl
   go_wp2_with fail
   go_ret
   rw[←HW0.out]
   exact⟨by rw[HBV.out];rfl,HB0.out⟩
  ·have hd:decide ((t.S.size:Int)≤(x.s.size:Int))=false:=decide_eq_false (by omega)
   have hbf:b=false:=by rw[HREF.out];unfold hasP;rw[decide_eq_false hp];rfl
   subst hbf
   go_enter Tryz.func169,Tryz.ntmps169
   go_wp2_with fail
   go_ret
   rw[←HW0.out]
   exact⟨rfl,HB0.out⟩
end
end Go.Proofs.YtbnelaoeblhndaaGreatDoor
