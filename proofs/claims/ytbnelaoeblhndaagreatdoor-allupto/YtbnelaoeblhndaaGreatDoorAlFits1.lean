import Derived.Test.YtbnelaoeblhndaaGreatDoorAlSays2
namespace Go.Proofs.YtbnelaoeblhndaaGreatDoor
open Go.RowKit
set_option maxRecDepth 100000
namespace Doc
def fitLit (kd:Int)(st:Int×Int)(t:Tok):Int×Int:=bif ((t.kind==115) != (kd==2)) && decide ((t.at_:Int)<st.2) then (3,(t.at_:Int)) else st
def fitAsk (kd:Int)(o:Tok)(st:Int×Int):Int×Int:=bif (o.S.toList==[108,105,107,101]) && (kd != 2) && decide ((o.at_:Int)<st.2) then (3,(o.at_:Int)) else st
def fitT (fs:List Fld)(st:Int×Int)(n o:Tok)(l:List Tok):Int×Int:=
 match idxF fs n.S with
 |none=>bif decide ((n.at_:Int)<st.2) then (2,(n.at_:Int)) else st
 |some k=>match fs[k]? with
  |none=>st
  |some f=>l.foldl (fitLit f.kind) (fitAsk f.kind o st)
def fitO (fs:List Fld)(st:Int×Int):Option (Tok×Tok×List Tok)→Int×Int
 |none=>st
 |some (n,o,l)=>fitT fs st n o l
def fitAll (fs:List Fld)(T:List (Option (Tok×Tok×List Tok))):Int×Int:=T.foldl (fitO fs) (0,1000)
end Doc
def NodesAre (B:Nat)(w:World)(nodes:List NodeR)(T:List (Option (Doc.Tok×Doc.Tok×List Doc.Tok))):Prop:=
 T.length=nodes.length∧∀(k:Nat) (n:NodeR),nodes[k]? =some n→(n.kind=116∧∃lits:List Doc.Tok,T[k]? =some (some (n.name,n.ask,lits))∧w.ownsRow B 175 4 n.lits lits.length (toksC lits)∧lits.length≤300)∨(n.kind≠116∧n.lits=.slice none 0 0∧T[k]? =some none)
section
variable {B:Nat}{w:World}{fb:Nat}{Lv:Value}{L:List Doc.Tok}{at_ op:Nat}{Nv:Value}{nodes:List NodeR}{E p:Nat}{fs:List Doc.Fld}{fa:Option Addr}{fc:Nat}{T:List (Option (Doc.Tok×Doc.Tok×List Doc.Tok))}
set_option maxHeartbeats 16000000 in
theorem fits_walk (h:RSt B w fb Lv L at_ op Nv nodes E p)(hn:nodes.length≤300)(hT:NodesAre B w nodes T)(hfl:fs.length≤4)(hf:Sl w (.slice fa fs.length fc) fs.length (fldsC fs)):
  Calls Tryz.prog 139 #[.pointer (some ⟨fb,0,none⟩),.slice fa fs.length fc] w fun e w'=>∃e1 e2,e=.returned (.tuple #[.int .i64 e1,.int .i64 e2])∧Hid ((e1,e2)=(bif (Doc.fitAll fs T).1==0 then (0,0) else Doc.fitAll fs T))∧Below w.heap.size w w':=by
 have H:Hid _:=h
 have HT:Hid _:=hT
 have HF:Hid _:=hf
 obtain⟨na,nc,hnv⟩:=row_slice h.nds
 subst hnv
 have c3:=h.c3
 have hlt:=h.lt
 clear h hT hf
 go_enter Tryz.func139,Tryz.ntmps139
 go_wp2_with fail
 go_loopw [6,7,8] (fun ev pv i wr=>∃(e pl:Int) (j:Nat),j≤nodes.length∧ev=.int .i64 e∧pv=.int .i64 pl∧i=.int .i64 j∧Hid ((e,pl)=(T.take j).foldl (Doc.fitO fs) (0,1000))∧Below w.heap.size w wr) (fun _ _ i _=>nodes.length-(intOf i).toNat)
 case atStart=>exact⟨0,1000,0,Nat.zero_le _,rfl,rfl,rfl,rfl,Below.refl _ _⟩
 case round=>
  obtain⟨e,pl,j,hj,rfl,rfl,rfl,HST,hB⟩:=hrel
  have c3':wr.cell? ⟨fb,3,none⟩=some (.slice na nodes.length nc):=(hB.cell (p:=⟨fb,3,none⟩) hlt).trans c3
  by_cases hj2:j<nodes.length
  ·obtain⟨n,hnj⟩:∃n,nodes[j]? =some n:=⟨_,List.getElem?_eq_getElem hj2⟩
   have hr:=H.out.below hB
   obtain⟨g,cap,hgv,hcap,hkl,hg,d0,d1,d2,d3,d4,d5,d6,d7,d8,d9,d10,d11⟩:=Rep.cells hr hnj
   cases hgv
   have HNX:Hid (∀o,T[j]? =some o→(T.take (j+1)).foldl (Doc.fitO fs) (0,1000)=Doc.fitO fs (e,pl) o):=fun o ho=>by
    rw[List.take_add_one,ho,Option.toList_some,List.foldl_append,←HST.out]
    rfl
   have HB:Hid _:=hB
   rcases HT.out.2 j n hnj with⟨hk,lits,hTj,hrow,hl3⟩|⟨hk,hlv,hTj⟩
   ·have HTJ:Hid _:=HNX.out _ hTj
    rw[hk] at d0
    obtain⟨la,lc,hlv⟩:=row_slice hrow
    have hls:=rowSl hrow
    rw[hlv] at d11 hls
    have HLS:Hid _:=hls
    obtain⟨W1,HW1⟩:∃W1,Hid (W1=wr.alloc (.cells #[.int .u8 116,.int .i64 n.A,.int .i64 n.B,.int .u8 n.name.kind.toNat,.string n.name.S,.int .i64 n.name.N,.int .i64 n.name.at_,.int .u8 n.ask.kind.toNat,.string n.ask.S,.int .i64 n.ask.N,.int .i64 n.ask.at_,.slice la lits.length lc] 178)):=⟨_,rfl⟩
    have hq1:W1.heap[wr.heap.size]? =some (.cells #[.int .u8 116,.int .i64 n.A,.int .i64 n.B,.int .u8 n.name.kind.toNat,.string n.name.S,.int .i64 n.name.N,.int .i64 n.name.at_,.int .u8 n.ask.kind.toNat,.string n.ask.S,.int .i64 n.ask.N,.int .i64 n.ask.at_,.slice la lits.length lc] 178 (0,0)):=by rw[HW1.out];exact heap_alloc_new wr _
    have HQ1:Hid _:=hq1
    have HB1:Hid (Below w.heap.size w W1):=by rw[HW1.out];exact hB.alloc hB.size _
    have HFD:Hid _:=field_any (w:=W1) fs (by omega) (.slice fa fs.length fc) (HF.out.below HB1.out) n.name.S
    clear hq1 hls hrow hr hB hTj hnj
    cases hidx:Doc.idxF fs n.name.S with
    |none=>
     rw[hidx] at HFD
     have hft:Doc.fitO fs (e,pl) (some (n.name,n.ask,lits))=bif decide ((n.name.at_:Int)<pl) then (2,(n.name.at_:Int)) else (e,pl):=by
      simp only[Doc.fitO,Doc.fitT,hidx]
     have HFT:Hid _:=HTJ.out.trans hft
     clear hft
     go_wp2_with fail
     rw[←HW1.out]
     refine Calls.mono HFD.out ?_
     rintro r w2 ⟨rfl,hw2⟩
     rw[hw2]
     clear hw2 w2
     simp only[Doc.placeI]
     have q6:=blk_cell HQ1.out 6 _ rfl
     cases hd:decide ((n.name.at_:Int)<pl)
     ·go_wp2_with fail
      go_roundw
      case rel=>exact⟨e,pl,j+1,by omega,rfl,rfl,by go_num,by show _=_;rw[HFT.out,hd];rfl,HB1.out⟩
      case measure=>simp[intOf];omega
     ·go_wp2_with fail
      go_roundw
      case rel=>exact⟨2,n.name.at_,j+1,by omega,rfl,rfl,by go_num,by show _=_;rw[HFT.out,hd];rfl,HB1.out⟩
      case measure=>simp[intOf];omega
    |some k=>
     rw[hidx] at HFD
     have hkl:=idxF_lt hidx
     obtain⟨kd,HKD⟩:∃kd,Hid (fs[k].kind=kd):=⟨fs[k].kind,rfl⟩
     have hft:Doc.fitO fs (e,pl) (some (n.name,n.ask,lits))=lits.foldl (Doc.fitLit kd) (Doc.fitAsk kd n.ask (e,pl)):=by
      simp only[Doc.fitO,Doc.fitT,hidx,List.getElem?_eq_getElem hkl,HKD.out]
     have HFT:Hid _:=HTJ.out.trans hft
     rcases HF.out.has with⟨h0',_⟩|⟨_,ub,uo,uc,ev,huc,hult,hur⟩
     ·omega
     cases ev
     have hkc:w.cell? ⟨ub,uo+k*2+1,none⟩=some (.int .i64 kd):=by
      have hf:=flat_at fldC 2 fldC_len fs k hkl 1 (by omega)
      rw[Nat.add_assoc]
      refine hur (k*2+1) _ ?_
      unfold fldsC
      rw[hf,←HKD.out]
      rfl
     clear hft hur
     go_wp2_with fail
     rw[←HW1.out]
     refine Calls.mono HFD.out ?_
     rintro r w2 ⟨rfl,hw2⟩
     rw[hw2]
     clear hw2 w2
     simp only[Doc.placeI]
     have q8:=blk_cell HQ1.out 8 _ rfl
     have q10:=blk_cell HQ1.out 10 _ rfl
     have kc1:W1.cell? ⟨ub,uo+k*2+1,none⟩=some (.int .i64 kd):=(HB1.out.cell (p:=⟨ub,uo+k*2+1,none⟩) hult).trans hkc
     obtain⟨w9,hw9⟩:∃W,W=wr:=⟨wr,rfl⟩
     subst hw9
     cases hlk:(n.ask.S.toList==[108,105,107,101])
     ·have HASK:Hid (Doc.fitAsk kd n.ask (e,pl)=(e,pl)):=by show _=_;unfold Doc.fitAsk;rw[hlk];rfl
      go_wp2_with fail
      go_loopw [6,7,11] (fun ev pv i wx=>∃(e1 pl1:Int) (q:Nat),q≤lits.length∧ev=.int .i64 e1∧pv=.int .i64 pl1∧i=.int .i64 q∧Hid ((e1,pl1)=(lits.take q).foldl (Doc.fitLit kd) (e,pl))∧Below W1.heap.size W1 wx) (fun _ _ i _=>lits.length-(intOf i).toNat)
      case atStart=>exact⟨_,_,0,Nat.zero_le _,rfl,rfl,rfl,rfl,Below.refl _ _⟩
      case round=>
       obtain⟨e1,pl1,q,hq,rfl,rfl,rfl,HSI,hBi⟩:=hrel
       have hqq:=(hBi.block _ (lt_block HQ1.out)).trans HQ1.out
       have m11:=blk_cell hqq 11 _ rfl
       by_cases hq2:q<lits.length
       ·rcases HLS.out.has with⟨h0',_⟩|⟨_,lb,lo,lc',ev,hlc,hllt,hlr⟩
        ·omega
        cases ev
        obtain⟨t,HTT⟩:∃t,Hid (lits[q]=t):=⟨lits[q],rfl⟩
        have hBw:Below w.heap.size w wr:=HB1.out.trans (hBi.mono HB1.out.size)
        have rr:∀i (_:i<4),wr.cell? ⟨lb,lo+q*4+i,none⟩=(tokC lits[q])[i]? :=fun i hi=>by
         have hf:=flat_at tokC 4 (fun _=>rfl) lits q hq2 i hi
         have hlc:((tokC lits[q])[i]?).isSome=true:=by rw[List.getElem?_eq_getElem (by exact hi)];rfl
         obtain⟨u,hu⟩:=Option.isSome_iff_exists.1 hlc
         rw[hBw.cell (p:=⟨lb,lo+q*4+i,none⟩) hllt,hu,Nat.add_assoc]
         exact hlr (q*4+i) u (by unfold toksC;rw[hf,hu])
        rw[HTT.out] at rr
        have y0:wr.cell? ⟨lb,lo+q*4,none⟩=some (.int .u8 t.kind.toNat):=rr 0 (by omega)
        have y3:wr.cell? ⟨lb,lo+q*4+3,none⟩=some (.int .i64 t.at_):=rr 3 (by omega)
        have k1':wr.cell? ⟨ub,uo+k*2+1,none⟩=some (.int .i64 kd):=(hBw.cell (p:=⟨ub,uo+k*2+1,none⟩) hult).trans hkc
        have HSTEP:Hid ((lits.take (q+1)).foldl (Doc.fitLit kd) (e,pl)=Doc.fitLit kd (e1,pl1) t):=by
         show _=_
         rw[List.take_add_one,List.getElem?_eq_getElem hq2,Option.toList_some,List.foldl_append,←HSI.out,HTT.out]
         rfl
        have HBI:Hid (∀nq,Below W1.heap.size W1 (wr.drewN nq)):=fun nq=>⟨hBi.os,hBi.tape,hBi.output,hBi.size,hBi.block⟩
        have HB1K:Hid ((t.kind==115)=((t.kind.toNat:Int)==115)):=u8_int t.kind 115 (by omega)
        clear rr hlr hBw hBi hqq
        cases hb1:((t.kind.toNat:Int)==115)
        ·cases hb2:(kd==2)
         ·go_wp2_with fail
          go_quiet (fail)
          go_wp2_with fail
          go_roundw
          case rel=>exact⟨e1,pl1,q+1,by omega,rfl,rfl,by go_num,by show _=_;rw[HSTEP.out];unfold Doc.fitLit;rw[HB1K.out];simp[*],HBI.out _⟩
          case measure=>simp[intOf];omega
         ·cases hd3:decide ((t.at_:Int)<pl1)
          ·go_wp2_with fail
           go_quiet (fail)
           go_wp2_with fail
           go_roundw
           case rel=>exact⟨e1,pl1,q+1,by omega,rfl,rfl,by go_num,by show _=_;rw[HSTEP.out];unfold Doc.fitLit;rw[HB1K.out];simp[*],HBI.out _⟩
           case measure=>simp[intOf];omega
          ·go_wp2_with fail
           go_quiet (fail)
           go_wp2_with fail
           go_roundw
           case rel=>exact⟨3,t.at_,q+1,by omega,rfl,rfl,by go_num,by show _=_;rw[HSTEP.out];unfold Doc.fitLit;rw[HB1K.out];simp[*],HBI.out _⟩
           case measure=>simp[intOf];omega
        ·cases hb2:(kd==2)
         ·cases hd3:decide ((t.at_:Int)<pl1)
          ·go_wp2_with fail
           go_quiet (fail)
           go_wp2_with fail
           go_roundw
           case rel=>exact⟨e1,pl1,q+1,by omega,rfl,rfl,by go_num,by show _=_;rw[HSTEP.out];unfold Doc.fitLit;rw[HB1K.out];simp[*],HBI.out _⟩
           case measure=>simp[intOf];omega
          ·go_wp2_with fail
           go_quiet (fail)
           go_wp2_with fail
           go_roundw
           case rel=>exact⟨3,t.at_,q+1,by omega,rfl,rfl,by go_num,by show _=_;rw[HSTEP.out];unfold Doc.fitLit;rw[HB1K.out];simp[*],HBI.out _⟩
           case measure=>simp[intOf];omega
         ·go_wp2_with fail
          go_quiet (fail)
          go_wp2_with fail
          go_roundw
          case rel=>exact⟨e1,pl1,q+1,by omega,rfl,rfl,by go_num,by show _=_;rw[HSTEP.out];unfold Doc.fitLit;rw[HB1K.out];simp[*],HBI.out _⟩
          case measure=>simp[intOf];omega
       ·have hql:q=lits.length:=by omega
        have HEE:Hid ((e1,pl1)=lits.foldl (Doc.fitLit kd) (e,pl)):=by
         have h1:=HSI.out
         rw[hql,List.take_length] at h1
         exact h1
        subst hql
        have HBF:Hid (Below w.heap.size w wr):=HB1.out.trans (hBi.mono HB1.out.size)
        go_wp2_with fail
        go_roundw
        case rel=>exact⟨e1,pl1,j+1,by omega,rfl,rfl,by go_num,by show _=_;rw[HFT.out,HEE.out,HASK.out],HBF.out⟩
        case measure=>simp[intOf];omega
     ·cases hkn:(kd != 2)
      ·have HASK:Hid (Doc.fitAsk kd n.ask (e,pl)=(e,pl)):=by show _=_;unfold Doc.fitAsk;rw[hlk,hkn];rfl
       go_wp2_with fail
       go_loopw [6,7,11] (fun ev pv i wx=>∃(e1 pl1:Int) (q:Nat),q≤lits.length∧ev=.int .i64 e1∧pv=.int .i64 pl1∧i=.int .i64 q∧Hid ((e1,pl1)=(lits.take q).foldl (Doc.fitLit kd) (e,pl))∧Below W1.heap.size W1 wx) (fun _ _ i _=>lits.length-(intOf i).toNat)
       case atStart=>exact⟨_,_,0,Nat.zero_le _,rfl,rfl,rfl,rfl,Below.refl _ _⟩
       case round=>
        obtain⟨e1,pl1,q,hq,rfl,rfl,rfl,HSI,hBi⟩:=hrel
        have hqq:=(hBi.block _ (lt_block HQ1.out)).trans HQ1.out
        have m11:=blk_cell hqq 11 _ rfl
        by_cases hq2:q<lits.length
        ·rcases HLS.out.has with⟨h0',_⟩|⟨_,lb,lo,lc',ev,hlc,hllt,hlr⟩
         ·omega
         cases ev
         obtain⟨t,HTT⟩:∃t,Hid (lits[q]=t):=⟨lits[q],rfl⟩
         have hBw:Below w.heap.size w wr:=HB1.out.trans (hBi.mono HB1.out.size)
         have rr:∀i (_:i<4),wr.cell? ⟨lb,lo+q*4+i,none⟩=(tokC lits[q])[i]? :=fun i hi=>by
          have hf:=flat_at tokC 4 (fun _=>rfl) lits q hq2 i hi
          have hlc:((tokC lits[q])[i]?).isSome=true:=by rw[List.getElem?_eq_getElem (by exact hi)];rfl
          obtain⟨u,hu⟩:=Option.isSome_iff_exists.1 hlc
          rw[hBw.cell (p:=⟨lb,lo+q*4+i,none⟩) hllt,hu,Nat.add_assoc]
          exact hlr (q*4+i) u (by unfold toksC;rw[hf,hu])
         rw[HTT.out] at rr
         have y0:wr.cell? ⟨lb,lo+q*4,none⟩=some (.int .u8 t.kind.toNat):=rr 0 (by omega)
         have y3:wr.cell? ⟨lb,lo+q*4+3,none⟩=some (.int .i64 t.at_):=rr 3 (by omega)
         have k1':wr.cell? ⟨ub,uo+k*2+1,none⟩=some (.int .i64 kd):=(hBw.cell (p:=⟨ub,uo+k*2+1,none⟩) hult).trans hkc
         have HSTEP:Hid ((lits.take (q+1)).foldl (Doc.fitLit kd) (e,pl)=Doc.fitLit kd (e1,pl1) t):=by
          show _=_
          rw[List.take_add_one,List.getElem?_eq_getElem hq2,Option.toList_some,List.foldl_append,←HSI.out,HTT.out]
          rfl
         have HBI:Hid (∀nq,Below W1.heap.size W1 (wr.drewN nq)):=fun nq=>⟨hBi.os,hBi.tape,hBi.output,hBi.size,hBi.block⟩
         have HB1K:Hid ((t.kind==115)=((t.kind.toNat:Int)==115)):=u8_int t.kind 115 (by omega)
         clear rr hlr hBw hBi hqq
         cases hb1:((t.kind.toNat:Int)==115)
         ·cases hb2:(kd==2)
          ·go_wp2_with fail
           go_quiet (fail)
           go_wp2_with fail
           go_roundw
           case rel=>exact⟨e1,pl1,q+1,by omega,rfl,rfl,by go_num,by show _=_;rw[HSTEP.out];unfold Doc.fitLit;rw[HB1K.out];simp[*],HBI.out _⟩
           case measure=>simp[intOf];omega
          ·cases hd3:decide ((t.at_:Int)<pl1)
           ·go_wp2_with fail
            go_quiet (fail)
            go_wp2_with fail
            go_roundw
            case rel=>exact⟨e1,pl1,q+1,by omega,rfl,rfl,by go_num,by show _=_;rw[HSTEP.out];unfold Doc.fitLit;rw[HB1K.out];simp[*],HBI.out _⟩
            case measure=>simp[intOf];omega
           ·go_wp2_with fail
            go_quiet (fail)
            go_wp2_with fail
            go_roundw
            case rel=>exact⟨3,t.at_,q+1,by omega,rfl,rfl,by go_num,by show _=_;rw[HSTEP.out];unfold Doc.fitLit;rw[HB1K.out];simp[*],HBI.out _⟩
            case measure=>simp[intOf];omega
         ·cases hb2:(kd==2)
          ·cases hd3:decide ((t.at_:Int)<pl1)
           ·go_wp2_with fail
            go_quiet (fail)
            go_wp2_with fail
            go_roundw
            case rel=>exact⟨e1,pl1,q+1,by omega,rfl,rfl,by go_num,by show _=_;rw[HSTEP.out];unfold Doc.fitLit;rw[HB1K.out];simp[*],HBI.out _⟩
            case measure=>simp[intOf];omega
           ·go_wp2_with fail
            go_quiet (fail)
            go_wp2_with fail
            go_roundw
            case rel=>exact⟨3,t.at_,q+1,by omega,rfl,rfl,by go_num,by show _=_;rw[HSTEP.out];unfold Doc.fitLit;rw[HB1K.out];simp[*],HBI.out _⟩
            case measure=>simp[intOf];omega
          ·go_wp2_with fail
           go_quiet (fail)
           go_wp2_with fail
           go_roundw
           case rel=>exact⟨e1,pl1,q+1,by omega,rfl,rfl,by go_num,by show _=_;rw[HSTEP.out];unfold Doc.fitLit;rw[HB1K.out];simp[*],HBI.out _⟩
           case measure=>simp[intOf];omega
        ·have hql:q=lits.length:=by omega
         have HEE:Hid ((e1,pl1)=lits.foldl (Doc.fitLit kd) (e,pl)):=by
          have h1:=HSI.out
          rw[hql,List.take_length] at h1
          exact h1
         subst hql
         have HBF:Hid (Below w.heap.size w wr):=HB1.out.trans (hBi.mono HB1.out.size)
         go_wp2_with fail
         go_roundw
         case rel=>exact⟨e1,pl1,j+1,by omega,rfl,rfl,by go_num,by show _=_;rw[HFT.out,HEE.out,HASK.out],HBF.out⟩
         case measure=>simp[intOf];omega
      ·cases hdl:decide ((n.ask.at_:Int)<pl)
       ·have HASK:Hid (Doc.fitAsk kd n.ask (e,pl)=(e,pl)):=by show _=_;unfold Doc.fitAsk;rw[hlk,hkn,hdl];rfl
        go_wp2_with fail
        go_loopw [6,7,11] (fun ev pv i wx=>∃(e1 pl1:Int) (q:Nat),q≤lits.length∧ev=.int .i64 e1∧pv=.int .i64 pl1∧i=.int .i64 q∧Hid ((e1,pl1)=(lits.take q).foldl (Doc.fitLit kd) (e,pl))∧Below W1.heap.size W1 wx) (fun _ _ i _=>lits.length-(intOf i).toNat)
        case atStart=>exact⟨_,_,0,Nat.zero_le _,rfl,rfl,rfl,rfl,Below.refl _ _⟩
        case round=>
         obtain⟨e1,pl1,q,hq,rfl,rfl,rfl,HSI,hBi⟩:=hrel
         have hqq:=(hBi.block _ (lt_block HQ1.out)).trans HQ1.out
         have m11:=blk_cell hqq 11 _ rfl
         by_cases hq2:q<lits.length
         ·rcases HLS.out.has with⟨h0',_⟩|⟨_,lb,lo,lc',ev,hlc,hllt,hlr⟩
          ·omega
          cases ev
          obtain⟨t,HTT⟩:∃t,Hid (lits[q]=t):=⟨lits[q],rfl⟩
          have hBw:Below w.heap.size w wr:=HB1.out.trans (hBi.mono HB1.out.size)
          have rr:∀i (_:i<4),wr.cell? ⟨lb,lo+q*4+i,none⟩=(tokC lits[q])[i]? :=fun i hi=>by
           have hf:=flat_at tokC 4 (fun _=>rfl) lits q hq2 i hi
           have hlc:((tokC lits[q])[i]?).isSome=true:=by rw[List.getElem?_eq_getElem (by exact hi)];rfl
           obtain⟨u,hu⟩:=Option.isSome_iff_exists.1 hlc
           rw[hBw.cell (p:=⟨lb,lo+q*4+i,none⟩) hllt,hu,Nat.add_assoc]
           exact hlr (q*4+i) u (by unfold toksC;rw[hf,hu])
          rw[HTT.out] at rr
          have y0:wr.cell? ⟨lb,lo+q*4,none⟩=some (.int .u8 t.kind.toNat):=rr 0 (by omega)
          have y3:wr.cell? ⟨lb,lo+q*4+3,none⟩=some (.int .i64 t.at_):=rr 3 (by omega)
          have k1':wr.cell? ⟨ub,uo+k*2+1,none⟩=some (.int .i64 kd):=(hBw.cell (p:=⟨ub,uo+k*2+1,none⟩) hult).trans hkc
          have HSTEP:Hid ((lits.take (q+1)).foldl (Doc.fitLit kd) (e,pl)=Doc.fitLit kd (e1,pl1) t):=by
           show _=_
           rw[List.take_add_one,List.getElem?_eq_getElem hq2,Option.toList_some,List.foldl_append,←HSI.out,HTT.out]
           rfl
          have HBI:Hid (∀nq,Below W1.heap.size W1 (wr.drewN nq)):=fun nq=>⟨hBi.os,hBi.tape,hBi.output,hBi.size,hBi.block⟩
          have HB1K:Hid ((t.kind==115)=((t.kind.toNat:Int)==115)):=u8_int t.kind 115 (by omega)
          clear rr hlr hBw hBi hqq
          cases hb1:((t.kind.toNat:Int)==115)
          ·cases hb2:(kd==2)
           ·go_wp2_with fail
            go_quiet (fail)
            go_wp2_with fail
            go_roundw
            case rel=>exact⟨e1,pl1,q+1,by omega,rfl,rfl,by go_num,by show _=_;rw[HSTEP.out];unfold Doc.fitLit;rw[HB1K.out];simp[*],HBI.out _⟩
            case measure=>simp[intOf];omega
           ·cases hd3:decide ((t.at_:Int)<pl1)
            ·go_wp2_with fail
             go_quiet (fail)
             go_wp2_with fail
             go_roundw
             case rel=>exact⟨e1,pl1,q+1,by omega,rfl,rfl,by go_num,by show _=_;rw[HSTEP.out];unfold Doc.fitLit;rw[HB1K.out];simp[*],HBI.out _⟩
             case measure=>simp[intOf];omega
            ·go_wp2_with fail
             go_quiet (fail)
             go_wp2_with fail
             go_roundw
             case rel=>exact⟨3,t.at_,q+1,by omega,rfl,rfl,by go_num,by show _=_;rw[HSTEP.out];unfold Doc.fitLit;rw[HB1K.out];simp[*],HBI.out _⟩
             case measure=>simp[intOf];omega
          ·cases hb2:(kd==2)
           ·cases hd3:decide ((t.at_:Int)<pl1)
            ·go_wp2_with fail
             go_quiet (fail)
             go_wp2_with fail
             go_roundw
             case rel=>exact⟨e1,pl1,q+1,by omega,rfl,rfl,by go_num,by show _=_;rw[HSTEP.out];unfold Doc.fitLit;rw[HB1K.out];simp[*],HBI.out _⟩
             case measure=>simp[intOf];omega
            ·go_wp2_with fail
             go_quiet (fail)
             go_wp2_with fail
             go_roundw
             case rel=>exact⟨3,t.at_,q+1,by omega,rfl,rfl,by go_num,by show _=_;rw[HSTEP.out];unfold Doc.fitLit;rw[HB1K.out];simp[*],HBI.out _⟩
             case measure=>simp[intOf];omega
           ·go_wp2_with fail
            go_quiet (fail)
            go_wp2_with fail
            go_roundw
            case rel=>exact⟨e1,pl1,q+1,by omega,rfl,rfl,by go_num,by show _=_;rw[HSTEP.out];unfold Doc.fitLit;rw[HB1K.out];simp[*],HBI.out _⟩
            case measure=>simp[intOf];omega
         ·have hql:q=lits.length:=by omega
          have HEE:Hid ((e1,pl1)=lits.foldl (Doc.fitLit kd) (e,pl)):=by
           have h1:=HSI.out
           rw[hql,List.take_length] at h1
           exact h1
          subst hql
          have HBF:Hid (Below w.heap.size w wr):=HB1.out.trans (hBi.mono HB1.out.size)
          go_wp2_with fail
          go_roundw
          case rel=>exact⟨e1,pl1,j+1,by omega,rfl,rfl,by go_num,by show _=_;rw[HFT.out,HEE.out,HASK.out],HBF.out⟩
          case measure=>simp[intOf];omega
       ·have HASK:Hid (Doc.fitAsk kd n.ask (e,pl)=(3,(n.ask.at_:Int))):=by show _=_;unfold Doc.fitAsk;rw[hlk,hkn,hdl];rfl
        go_wp2_with fail
        go_loopw [6,7,11] (fun ev pv i wx=>∃(e1 pl1:Int) (q:Nat),q≤lits.length∧ev=.int .i64 e1∧pv=.int .i64 pl1∧i=.int .i64 q∧Hid ((e1,pl1)=(lits.take q).foldl (Doc.fitLit kd) (3,(n.ask.at_:Int)))∧Below W1.heap.size W1 wx) (fun _ _ i _=>lits.length-(intOf i).toNat)
        case atStart=>exact⟨_,_,0,Nat.zero_le _,rfl,rfl,rfl,rfl,Below.refl _ _⟩
        case round=>
         obtain⟨e1,pl1,q,hq,rfl,rfl,rfl,HSI,hBi⟩:=hrel
         have hqq:=(hBi.block _ (lt_block HQ1.out)).trans HQ1.out
         have m11:=blk_cell hqq 11 _ rfl
         by_cases hq2:q<lits.length
         ·rcases HLS.out.has with⟨h0',_⟩|⟨_,lb,lo,lc',ev,hlc,hllt,hlr⟩
          ·omega
          cases ev
          obtain⟨t,HTT⟩:∃t,Hid (lits[q]=t):=⟨lits[q],rfl⟩
          have hBw:Below w.heap.size w wr:=HB1.out.trans (hBi.mono HB1.out.size)
          have rr:∀i (_:i<4),wr.cell? ⟨lb,lo+q*4+i,none⟩=(tokC lits[q])[i]? :=fun i hi=>by
           have hf:=flat_at tokC 4 (fun _=>rfl) lits q hq2 i hi
           have hlc:((tokC lits[q])[i]?).isSome=true:=by rw[List.getElem?_eq_getElem (by exact hi)];rfl
           obtain⟨u,hu⟩:=Option.isSome_iff_exists.1 hlc
           rw[hBw.cell (p:=⟨lb,lo+q*4+i,none⟩) hllt,hu,Nat.add_assoc]
           exact hlr (q*4+i) u (by unfold toksC;rw[hf,hu])
          rw[HTT.out] at rr
          have y0:wr.cell? ⟨lb,lo+q*4,none⟩=some (.int .u8 t.kind.toNat):=rr 0 (by omega)
          have y3:wr.cell? ⟨lb,lo+q*4+3,none⟩=some (.int .i64 t.at_):=rr 3 (by omega)
          have k1':wr.cell? ⟨ub,uo+k*2+1,none⟩=some (.int .i64 kd):=(hBw.cell (p:=⟨ub,uo+k*2+1,none⟩) hult).trans hkc
          have HSTEP:Hid ((lits.take (q+1)).foldl (Doc.fitLit kd) (3,(n.ask.at_:Int))=Doc.fitLit kd (e1,pl1) t):=by
           show _=_
           rw[List.take_add_one,List.getElem?_eq_getElem hq2,Option.toList_some,List.foldl_append,←HSI.out,HTT.out]
           rfl
          have HBI:Hid (∀nq,Below W1.heap.size W1 (wr.drewN nq)):=fun nq=>⟨hBi.os,hBi.tape,hBi.output,hBi.size,hBi.block⟩
          have HB1K:Hid ((t.kind==115)=((t.kind.toNat:Int)==115)):=u8_int t.kind 115 (by omega)
          clear rr hlr hBw hBi hqq
          cases hb1:((t.kind.toNat:Int)==115)
          ·cases hb2:(kd==2)
           ·go_wp2_with fail
            go_quiet (fail)
            go_wp2_with fail
            go_roundw
            case rel=>exact⟨e1,pl1,q+1,by omega,rfl,rfl,by go_num,by show _=_;rw[HSTEP.out];unfold Doc.fitLit;rw[HB1K.out];simp[*],HBI.out _⟩
            case measure=>simp[intOf];omega
           ·cases hd3:decide ((t.at_:Int)<pl1)
            ·go_wp2_with fail
             go_quiet (fail)
             go_wp2_with fail
             go_roundw
             case rel=>exact⟨e1,pl1,q+1,by omega,rfl,rfl,by go_num,by show _=_;rw[HSTEP.out];unfold Doc.fitLit;rw[HB1K.out];simp[*],HBI.out _⟩
             case measure=>simp[intOf];omega
            ·go_wp2_with fail
             go_quiet (fail)
             go_wp2_with fail
             go_roundw
             case rel=>exact⟨3,t.at_,q+1,by omega,rfl,rfl,by go_num,by show _=_;rw[HSTEP.out];unfold Doc.fitLit;rw[HB1K.out];simp[*],HBI.out _⟩
             case measure=>simp[intOf];omega
          ·cases hb2:(kd==2)
           ·cases hd3:decide ((t.at_:Int)<pl1)
            ·go_wp2_with fail
             go_quiet (fail)
             go_wp2_with fail
             go_roundw
             case rel=>exact⟨e1,pl1,q+1,by omega,rfl,rfl,by go_num,by show _=_;rw[HSTEP.out];unfold Doc.fitLit;rw[HB1K.out];simp[*],HBI.out _⟩
             case measure=>simp[intOf];omega
            ·go_wp2_with fail
             go_quiet (fail)
             go_wp2_with fail
             go_roundw
             case rel=>exact⟨3,t.at_,q+1,by omega,rfl,rfl,by go_num,by show _=_;rw[HSTEP.out];unfold Doc.fitLit;rw[HB1K.out];simp[*],HBI.out _⟩
             case measure=>simp[intOf];omega
           ·go_wp2_with fail
            go_quiet (fail)
            go_wp2_with fail
            go_roundw
            case rel=>exact⟨e1,pl1,q+1,by omega,rfl,rfl,by go_num,by show _=_;rw[HSTEP.out];unfold Doc.fitLit;rw[HB1K.out];simp[*],HBI.out _⟩
            case measure=>simp[intOf];omega
         ·have hql:q=lits.length:=by omega
          have HEE:Hid ((e1,pl1)=lits.foldl (Doc.fitLit kd) (3,(n.ask.at_:Int))):=by
           have h1:=HSI.out
           rw[hql,List.take_length] at h1
           exact h1
          subst hql
          have HBF:Hid (Below w.heap.size w wr):=HB1.out.trans (hBi.mono HB1.out.size)
          go_wp2_with fail
          go_roundw
          case rel=>exact⟨e1,pl1,j+1,by omega,rfl,rfl,by go_num,by show _=_;rw[HFT.out,HEE.out,HASK.out],HBF.out⟩
          case measure=>simp[intOf];omega
   ·have HTJ:Hid _:=HNX.out _ hTj
    have hk2:((n.kind.toNat:Int)==116)=false:=by
     have h1:(n.kind==116)=false:=by simp[hk]
     rw[←h1];exact(u8_int n.kind 116 (by omega)).symm
    rw[hlv] at d11
    clear hr hB
    go_wp2_with fail
    go_roundw
    case rel=>exact⟨e,pl,j+1,by omega,rfl,rfl,by go_num,HTJ.out.symm,HB.out.alloc HB.out.size _⟩
    case measure=>simp[intOf];omega
  ·have hjn:j=nodes.length:=by omega
   have HEN:Hid ((e,pl)=Doc.fitAll fs T):=by
    have h1:=HST.out
    rw[hjn,←HT.out.1,List.take_length] at h1
    exact h1
   subst hjn
   cases he:(e==0)
   ·go_wp2_with fail
    go_ret2
    exact⟨e,pl,rfl,by show _=_;rw[←HEN.out,he];rfl,hB⟩
   ·go_wp2_with fail
    go_ret2
    exact⟨0,0,rfl,by show _=_;rw[←HEN.out,he];rfl,hB⟩
end
end Go.Proofs.YtbnelaoeblhndaaGreatDoor
