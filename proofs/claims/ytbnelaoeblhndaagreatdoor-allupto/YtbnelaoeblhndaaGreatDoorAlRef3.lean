import Derived.Test.YtbnelaoeblhndaaGreatDoorAlRef2
import Derived.Test.YtbnelaoeblhndaaGreatDoorAlNearP
namespace Go.Proofs.YtbnelaoeblhndaaGreatDoor
open Go.RowKit
set_option maxRecDepth 100000
def sliceLen:Value→Nat | .slice _ n _=>n|_=>0
theorem wp_append_at {P:Program}{w:World}{o:Oper}{a:Act}{Q:Exit→Act→World→Prop}{K:Act→World→Prop}(s x:Operand)(t:TypeId)
  (ho:o.op=.call {callee:=.builtin .append,args:=#[s,x],argTypes:=#[t,t]})
  (base:Nat) (e:TypeId) (i:TypeInfo) (z:Value) (size bytes:Nat) (ht:P.underlying t=some (.slice e)) (hi:P.info? e=some i) (hz:i.zero=some z)
  (hsize:i.size=size) (hby:i.bytes=bytes) (hzs:z.cells.size=size) (hsz:0<size)
  (v:Value) (n:Nat) (xs:List Value) (hs:a.eval s=v) (hown:w.ownsRow base e size v n xs)
  (ad:Addr) (m c:Nat) (news:List Value) (hx:a.eval x=.slice (some ad) m c) (hl:news.length=m*size) (hnews:∀j u,news[j]? =some u→w.cell? (ad.add j)=some u) (h1:∀u∈news,u.oneCell'=true)
  (h63:n+m≤maxLen) (hbytes:(n+m)*bytes≤140737488355328) (hbase:base≤w.heap.size)
  (h:∀v' w',w'.ownsRow base e size v' (n+m) (xs++news)→w.grownBy w' v.ownBlock→(v'.ownBlock=v.ownBlock∨v'.ownBlock=some w.heap.size)→K (a.put o.dst v') w'):Oper.wp P o a w K Q:=by
 obtain⟨v',w',hr,h2,h3,_,h5⟩:=Go.run_append_own_at (P:=P) w base t o.type e i z size bytes ht hi hz hsize hby hzs hsz v n xs hown ad m c news hl hnews h1 h63 hbytes hbase
 unfold Oper.wp execOp
 simp only[ho,resolve,invoke,builtin,Sem.run_bind,Sem.run_pure,Result.andThen_ok,List.map_toArray,List.map_cons,List.map_nil,hs,hx,hr]
 exact h v' w' h2 h3 h5
section
variable {w:World}{F:Nat→Prop}{sb:Nat}{fs:List Doc.Fld}{space:Int}{ts:List Doc.Thg}{fv tv:Value}{ps:List (Value×Value)}{th:Has}
set_option maxHeartbeats 16000000 in
theorem rnearest_ok (h:RefAt w F sb fs space ts fv tv ps)(hl:ts.length≤4096)(s:ByteArray)(l:List Nat)(hll:l.length≤4096)(hasc:l.Pairwise (· < ·))(p:List Int)(hp4:p.length≤4)
  (hin:∀j∈l,∃(q:Nat) (hq:q<ts.length),Doc.idxT ts (j:Int)=some q∧ts[q].spot.length=p.length∧Doc.Near ts[q].spot∧farK th p j=Doc.far ts[q].spot p)
  (HSEL:Calls Tryz.prog 101 #[.pointer (some ⟨sb,0,none⟩),.string s] w fun e w'=>∃v,e=.returned (.tuple #[v,.int .i64 0,.int .i64 0])∧w'.ownsRow w.heap.size 3 1 v l.length (natC l)∧Below w.heap.size w w')
  (pv:Value) (hpv:Sl w pv p.length (intC p)) (hsp:Doc.spotB space p=true) (most:Nat):
  Calls Tryz.prog 102 #[.pointer (some ⟨sb,0,none⟩),.string s,pv,.int .i64 (most:Int)] w fun e w'=>∃v,e=.returned (.tuple #[v,.int .i64 0,.int .i64 0])∧w'.ownsRow w.heap.size 61 2 v (min most l.length) (hitsC ((hitsK th p l).take most))∧Below w.heap.size w w':=by
 obtain⟨i0,hi,hz0,hz1,hz2⟩:=info_parts Tryz.infoIntT
 obtain⟨i1,hj,hy0,hy1,hy2⟩:=info_parts Tryz.infoHitT
 obtain⟨c0,c1,c2⟩:=st_cells h.blk
 have HSPT:Hid _:=rspot_any (w:=w) sb space c1 p (by omega) pv hpv
 rw[hsp] at HSPT
 have HSL:Hid _:=HSEL
 have H:Hid _:=h
 have HPV:Hid _:=hpv
 have HIN:Hid _:=hin
 have HPN:Hid _:=Doc.spot_near hsp
 have HASC:Hid _:=hasc
 have HND:Hid (l.Nodup):=hasc.imp (fun h e=>by omega)
 have hm0:decide ((most:Int)<0)=false:=decide_eq_false (by omega)
 obtain⟨pa,pc,hpe⟩:=hpv.slice
 subst hpe
 clear h hpv hin hasc HSEL hsp c0 c1 c2
 go_enter Tryz.func102,Tryz.ntmps102
 go_wp2_with fail
 refine Calls.mono HSPT.out ?_
 rintro e w0 ⟨rfl,hw0⟩
 rw[hw0]
 clear hw0 w0
 go_wp2_with fail
 refine Calls.mono HSL.out ?_
 rintro e w1 ⟨lv,rfl,hown,hb1⟩
 obtain⟨la,lc,hlv⟩:=row_slice hown
 subst hlv
 have HLS:Hid _:=rowSl hown
 have HB1:Hid _:=hb1
 obtain⟨n,HN⟩:∃n,Hid (l.length=n):=⟨_,rfl⟩
 rw[HN.out] at hll HLS ⊢
 clear hown hb1
 go_wp2_with fail
 go_loopw [15,16] (fun v i wr=>∃k:Nat,k≤n∧i=.int .i64 k∧Below w1.heap.size w1 wr∧Hid (wr.ownsRow w1.heap.size 3 1 v k (intC ((l.take k).map (farK th p))))) (fun _ i _=>n-(intOf i).toNat)
 case atStart=>exact⟨0,Nat.zero_le _,rfl,Below.refl _ _,World.ownsRow_nil _ _ _ _⟩
 case round=>
  obtain⟨k,hk,rfl,hB,HO⟩:=hrel
  have hsz:=hB.size
  obtain⟨vb,vc,hvs⟩:=row_slice HO.out
  subst hvs
  by_cases hk2:k<n
  ·rcases HLS.out.has with⟨h0',_⟩|⟨_,ab,ao,ac,ev,hc2,hlt2,hr2⟩
   ·omega
   cases ev
   obtain⟨x,hx⟩:∃x,l[k]? =some x:=⟨l[k]'(by rw[HN.out];exact hk2),List.getElem?_eq_getElem _⟩
   have d0:wr.cell? ⟨ab,ao+k,none⟩=some (.int .i64 (x:Int)):=(hB.cell (p:=⟨ab,ao+k,none⟩) hlt2).trans (hr2 k _ (by unfold natC intC;rw[List.getElem?_map,List.getElem?_map,hx];rfl))
   obtain⟨q,hq,hidx,hsl,hnr,hfk⟩:=HIN.out x (List.mem_of_getElem? hx)
   obtain⟨f,HF⟩:∃f,Hid (farK th p x=f):=⟨_,rfl⟩
   have HFA:Hid (Calls Tryz.prog 141 #[.pointer (some ⟨sb,0,none⟩),.int .i64 (x:Int),.slice pa p.length pc] wr fun e w'=>e=.returned (.int .i64 f)∧Below wr.heap.size wr w'):=by
    have hW:Below w.heap.size w wr:=HB1.out.trans (hB.mono HB1.out.size)
    have h1:=rfar_any (H.out.kept (w':=wr) (F':=F) (fun k o _ ho=>(hW.block k (lt_block ho)).trans ho) (fun k hk _=>hk)) hl (x:Int) q hidx hq p (.slice pa p.length pc) (HPV.out.below hW) hsl hp4 hnr HPN.out
    rw[←hfk,HF.out] at h1
    exact h1
   have HTK:Hid (intC ((l.take (k+1)).map (farK th p))=intC ((l.take k).map (farK th p))++[.int .i64 f]):=by
    show _=_
    rw[List.take_add_one,hx,Option.toList_some,List.map_append]
    unfold intC
    rw[List.map_append,←HF.out]
    rfl
   have HB:Hid _:=hB
   clear hr2 hx hB hidx hfk
   go_wp2_with fail
   refine Calls.mono HFA.out ?_
   rintro e w2 ⟨rfl,hb2⟩
   have HB2:Hid (Below w1.heap.size w1 w2):=HB.out.trans (hb2.mono HB.out.size)
   have HO2:Hid (w2.ownsRow w1.heap.size 3 1 (.slice vb k vc) k (intC ((l.take k).map (farK th p)))):=row_below HO.out hb2
   have hsz2:=hb2.size
   clear hb2
   go_wp2_with (at_builtin;refine wpList_append_own _ rfl (.tmp 54) (.tmp 56) 33 rfl w1.heap.size 3 i0 _ 1 8 Tryz.underlying33 hi hz0 hz1 hz2 rfl (by decide) _ _ _ rfl (World.ownsRow.alloc HO2.out _) ⟨w2.heap.size,0,none⟩ 1 1 [.int .i64 f] rfl rfl ?c1 ?c2 ?c3 ?c4 ?c5 ?_)
   case c1=>exact cells_new_at _ [.int .i64 f] _ _ (by simp)
   case c2=>intro u hu;simp only[List.mem_cons,List.not_mem_nil,or_false] at hu;rw[hu];rfl
   case c3=>unfold maxLen;omega
   case c4=>omega
   case c5=>simp;omega
   intro v3 w3 hown3 hgrow3 _
   obtain⟨g3,cap3,rfl⟩:=own_slice hown3
   have HB3:Hid (Below w1.heap.size w1 w3):=(HB2.out.alloc HB2.out.size _).grown hgrow3 (by have:=HB2.out.size;simp;omega) (fun j ej=>own_ge HO2.out ej)
   have HO3:Hid (w3.ownsRow w1.heap.size 3 1 (.slice (some ⟨g3,0,none⟩) (k+1) cap3) (k+1) (intC ((l.take (k+1)).map (farK th p)))):=by
    show World.ownsRow _ _ _ _ _ _ _
    rw[HTK.out,List.map_take]
    exact hown3
   clear hown3 hgrow3
   go_wp2_with fail
   go_roundw
   case rel=>exact⟨k+1,by omega,by go_num,HB3.out,HO3⟩
   case measure=>simp[intOf];omega
  ·have hkn:n=k:=by omega
   subst hkn
   obtain⟨w4,hw4⟩:∃W,W=wr:=⟨wr,rfl⟩
   subst hw4
   have HBW:Hid (Below w.heap.size w w4):=HB1.out.trans (hB.mono HB1.out.size)
   rw[show l.take n=l by rw[←HN.out];exact List.take_length] at HO
   by_cases hn0:n=0
   ·subst hn0
    have HSF:Hid (w4.ownsRow w.heap.size 61 2 (.slice none 0 0) (min most l.length) (hitsC ((hitsK th p l).take most))):=by
     rw[HN.out,Nat.min_zero,List.eq_nil_of_length_eq_zero (l:=hitsK th p l) (by rw[hitsK_len,HN.out]),List.take_nil]
     exact World.ownsRow_nil _ _ _ _
    clear hB
    go_wp2_with fail
    go_loopw [18] (fun v wx=>v=.slice none 0 0∧wx=w4) (fun _ _=>0)
    case atStart=>exact⟨rfl,rfl⟩
    case round=>
     obtain⟨rfl,rfl⟩:=hrel
     cases hd:decide ((0:Int)<(most:Int))
     ·go_wp2_with fail
      all_goals go_ret3
      all_goals exact⟨_,rfl,HSF.out,HBW.out⟩
     ·go_wp2_with fail
      all_goals go_ret3
      all_goals exact⟨_,rfl,HSF.out,HBW.out⟩
   ·obtain⟨_,hrow⟩:=HO.out
    rcases hrow with⟨_,h0⟩|⟨gb,cap,cur0,hv,hgb,hgh,hcap,hmax,hcsz,hctk⟩
    ·omega
    cases hv
    have HC0:Hid (∀i (h:i<n) (h':i<l.length),cur0[i]? =some (.int .i64 (farK th p l[i]))):=fun i h h'=>by
     have h1:(cur0.toList.take (n*1))[i]? =(intC (l.map (farK th p)))[i]? :=by rw[hctk]
     rw[List.getElem?_take_of_lt (by omega),Array.getElem?_toList] at h1
     rw[h1]
     unfold intC
     rw[List.getElem?_map,List.getElem?_map,List.getElem?_eq_getElem h']
     rfl
    have hgl:=lt_block hgh
    have HGH:Hid _:=hgh
    have hcur0:n≤cur0.size:=by omega
    have hBsz:=hB.size
    have HQ1:Hid _:=hB
    clear hB hgh hctk
    go_wp2_with fail
    go_loopw [18] (fun v wx=>∃(c:Nat) (g:List Int) (cur:Array Value),c≤n∧c≤most∧Hid (FarSt th p l c g)∧Hid (wx.heap[gb]? =some (.cells cur 3 (0,0))∧n≤cur.size∧∀i (h:i<n) (h':i<g.length),cur[i]? =some (.int .i64 g[i]))∧Hid (wx.ownsRow w4.heap.size 61 2 v c (hitsC ((hitsK th p l).take c)))∧Hid (∀k,k<w4.heap.size→k≠gb→wx.heap[k]? =w4.heap[k]?)∧Hid (Below w.heap.size w wx)∧w4.heap.size≤wx.heap.size) (fun v _=>n-sliceLen v)
    case atStart=>exact⟨0,l.map (farK th p),cur0,Nat.zero_le _,Nat.zero_le _,FarSt.start th p l,⟨HGH.out,hcur0,fun i h h'=>by rw[List.getElem_map];exact HC0.out i h (by rw[HN.out];exact h)⟩,World.ownsRow_nil _ _ _ _,fun _ _ _=>rfl,HBW,Nat.le_refl _⟩
    case round=>
     obtain⟨c,g,cur,hcn,hcm,HFS,HCU,HOUT,HOT,HBX,hszx⟩:=hrel
     obtain⟨ob,oc,hov⟩:=row_slice HOUT.out
     subst hov
     by_cases hgo:c<most∧c<n
     ·obtain⟨hgm,hgn⟩:=hgo
      have hd1:decide ((c:Int)<(most:Int))=true:=decide_eq_true (by omega)
      have hd2:decide ((c:Int)<(n:Int))=true:=decide_eq_true (by omega)
      obtain⟨w5,hw5⟩:∃W,W=wr:=⟨wr,rfl⟩
      subst hw5
      obtain⟨hcu1,hcu2,hcu3⟩:=HCU.out
      have hglen:g.length=n:=by rw[HFS.out.len,HN.out]
      have HBG:Hid (∀W:World,Below w5.heap.size w5 W→∀i (h:i<g.length),W.cell? ⟨gb,i,none⟩=some (.int .i64 g[i])):=fun W hW i h=>by
       rw[hW.cell (p:=⟨gb,i,none⟩) (lt_block hcu1),cell_of_row _ _ _ _ _ _ hcu1]
       exact hcu3 i (by omega) h
      have HCW:Hid _:=hcu1
      have HCC:Hid _:=hcu3
      clear hcu1 hcu3
      go_wp2_with fail
      go_loopw [19,20] (fun bv i wx=>∃(k:Nat) (o:Option Nat),k≤n∧i=.int .i64 k∧bv=.int .i64 (Doc.placeI o)∧Hid (Best g k o)∧Below w5.heap.size w5 wx) (fun _ i _=>n-(intOf i).toNat)
      case atStart=>exact⟨0,none,Nat.zero_le _,rfl,rfl,fun i h h2=>by omega,Below.refl _ _⟩
      case round=>
       obtain⟨k,o,hk3,rfl,rfl,HBE,hBi⟩:=hrel
       by_cases hk4:k<n
       ·have hkg:k<g.length:=by omega
        obtain⟨gk,HGK⟩:∃z,Hid (g[k]=z):=⟨g[k],rfl⟩
        have d0:=HBG.out wr hBi k hkg
        rw[HGK.out] at d0
        have HBI:Hid (∀nq,Below w5.heap.size w5 (wr.drewN nq)):=fun nq=>⟨hBi.os,hBi.tape,hBi.output,hBi.size,hBi.block⟩
        by_cases hneg:gk<0
        ·have e1:decide (0≤gk)=false:=decide_eq_false (by omega)
         clear hBi
         go_wp2_with fail
         go_quiet (fail)
         go_wp2_with fail
         go_roundw
         case rel=>exact⟨k+1,o,by omega,by go_num,rfl,HBE.out.skip hkg (by rw[HGK.out];exact hneg),HBI.out _⟩
         case measure=>simp[intOf];omega
        ·have e1:decide (0≤gk)=true:=decide_eq_true (by omega)
         cases o with
         |none=>
          simp only[Doc.placeI]
          clear hBi
          go_wp2_with fail
          go_quiet (fail)
          go_wp2_with fail
          go_roundw
          case rel=>exact⟨k+1,some k,by omega,by go_num,rfl,HBE.out.first hkg (by rw[HGK.out];omega),HBI.out _⟩
          case measure=>simp[intOf];omega
         |some b=>
          obtain⟨hbg,hbk,_,_⟩:=HBE.out
          obtain⟨gv,HGV⟩:∃z,Hid (g[b]=z):=⟨g[b],rfl⟩
          have d1:=HBG.out wr hBi b hbg
          rw[HGV.out] at d1
          have e2:decide ((b:Int)<0)=false:=decide_eq_false (by omega)
          simp only[Doc.placeI]
          clear hBi
          cases e3:decide (gk<gv)
          ·go_wp2_with fail
           go_quiet (fail)
           go_wp2_with fail
           go_roundw
           case rel=>exact⟨k+1,some b,by omega,by go_num,rfl,HBE.out.stay hkg hbg (by rw[HGK.out,HGV.out];have:=of_decide_eq_false e3;omega),HBI.out _⟩
           case measure=>simp[intOf];omega
          ·go_wp2_with fail
           go_quiet (fail)
           go_wp2_with fail
           go_roundw
           case rel=>exact⟨k+1,some k,by omega,by go_num,rfl,HBE.out.better hkg (by rw[HGK.out];omega) hbg (by rw[HGK.out,HGV.out];exact of_decide_eq_true e3),HBI.out _⟩
           case measure=>simp[intOf];omega
       ·have hkn:n=k:=by omega
        subst hkn
        obtain⟨b,hob,hbl,hHb,hgbf,hFS2⟩:=best_next HND.out HASC.out HFS.out (by rw[HN.out];exact hgn) (by rw[HN.out];exact HBE.out)
        subst hob
        simp only[Doc.placeI]
        have hbn:b<n:=by rw[←HN.out];exact hbl
        obtain⟨x,HX⟩:∃x,Hid (l[b]=x):=⟨l[b],rfl⟩
        rw[HX.out] at hHb hgbf
        obtain⟨f,HF⟩:∃f,Hid (farK th p x=f):=⟨_,rfl⟩
        rw[HF.out] at hHb hgbf
        rcases HLS.out.has with⟨h0',_⟩|⟨_,ab,ao,ac,ev,hc2,hlt2,hr2⟩
        ·omega
        cases ev
        have hgw1:w1.heap.size≤gb:=hgb
        have habg:ab≠gb:=by omega
        have HHB:Hid _:=hHb
        have HFS2:Hid _:=hFS2
        have HTK:Hid (hitsC ((hitsK th p l).take (c+1))=hitsC ((hitsK th p l).take c)++[.int .i64 (x:Int),.int .i64 f]):=by
         show _=_
         rw[List.take_add_one,HHB.out,Option.toList_some,hitsC_snoc]
        have HLB:Hid (w5.cell? ⟨ab,ao+b,none⟩=some (.int .i64 (x:Int))):=by
         have h1:w5.heap[ab]? =w1.heap[ab]? :=(HOT.out ab (by omega) habg).trans (HQ1.out.block ab hlt2)
         have h2:w5.cell? ⟨ab,ao+b,none⟩=w1.cell? ⟨ab,ao+b,none⟩:=World.cell?_of_block h1
         show _=_
         rw[h2]
         refine hr2 b _ ?_
         unfold natC intC
         rw[List.getElem?_map,List.getElem?_map,List.getElem?_eq_getElem hbl,HX.out]
         rfl
        have hgl5:=lt_block HCW.out
        have hal5:ab<w5.heap.size:=by omega
        have HGB:Hid (w5.cell? ⟨gb,b,none⟩=some (.int .i64 f)):=by
         have h1:=HBG.out w5 (Below.refl _ _) b (by omega)
         rw[hgbf (by omega)] at h1
         exact h1
        have HS0:Hid (wr.drew.cell? ⟨ab,ao+b,none⟩=some (.int .i64 (x:Int))∧wr.drew.cell? ⟨gb,b,none⟩=some (.int .i64 f)):=
         ⟨(hBi.cell (p:=⟨ab,ao+b,none⟩) hal5).trans HLB.out,(hBi.cell (p:=⟨gb,b,none⟩) hgl5).trans HGB.out⟩
        have HBI:Hid _:=hBi
        have hszi:=hBi.size
        have HOW:Hid (wr.ownsRow w4.heap.size 61 2 (.slice ob c oc) c (hitsC ((hitsK th p l).take c))):=row_below HOUT.out hBi
        clear hr2 hHb hFS2 hgbf hBi
        go_wp2_with fail
        refine wp_region_M 12 (fun w'=>w'.cell? ⟨ab,ao+b,none⟩=some (.int .i64 (x:Int))∧w'.cell? ⟨gb,b,none⟩=some (.int .i64 f)) (by kernel_rfl) ?_
        refine anyM_t (i:=0) (v:=.slice ob c oc) rfl (by kernel_rfl) (fun _ _ _ h=>h) rfl rfl HS0.out (fun w' hSw=>by go_simp) ?_
        simp only[takes]
        refine anyM_t (i:=1) (v:=.slice (some ⟨ab,ao,none⟩) n lc) rfl (by kernel_rfl) (fun _ _ _ h=>h) rfl rfl HS0.out (fun w' hSw=>by go_simp) ?_
        simp only[takes]
        refine anyM_t (i:=2) (v:=.int .i64 (b:Int)) rfl (by kernel_rfl) (fun _ _ _ h=>h) rfl rfl HS0.out (fun w' hSw=>by go_simp) ?_
        simp only[takes]
        refine anyM_t (i:=3) (v:=.pointer (some ⟨ab,ao+b,none⟩)) rfl (by kernel_rfl) (fun _ _ _ h=>h) rfl rfl HS0.out (fun w' hSw=>by go_simp) ?_
        simp only[takes]
        refine anyM_t (i:=4) (v:=.int .i64 (x:Int)) rfl (by kernel_rfl) (fun _ _ _ h=>h) rfl rfl HS0.out (fun w' hSw=>by have c:=hSw.1;go_simp) ?_
        simp only[takes]
        refine anyM_t (i:=5) (v:=.slice (some ⟨gb,0,none⟩) n vc) rfl (by kernel_rfl) (fun _ _ _ h=>h) rfl rfl HS0.out (fun w' hSw=>by go_simp) ?_
        simp only[takes]
        refine anyM_t (i:=6) (v:=.int .i64 (b:Int)) rfl (by kernel_rfl) (fun _ _ _ h=>h) rfl rfl HS0.out (fun w' hSw=>by go_simp) ?_
        simp only[takes]
        refine anyM_t (i:=7) (v:=.pointer (some ⟨gb,b,none⟩)) rfl (by kernel_rfl) (fun _ _ _ h=>h) rfl rfl HS0.out (fun w' hSw=>by go_simp) ?_
        simp only[takes]
        refine anyM_t (i:=8) (v:=.int .i64 f) rfl (by kernel_rfl) (fun _ _ _ h=>h) rfl rfl HS0.out (fun w' hSw=>by have c:=hSw.2;go_simp) ?_
        simp only[takes]
        refine anyM_t (i:=9) (v:=.agg #[.int .i64 (x:Int),.int .i64 f]) rfl (by kernel_rfl) (fun _ _ _ h=>h) rfl rfl HS0.out (fun w' hSw=>by go_simp) ?_
        simp only[takes]
        refine anyM_one (i:=10) (by kernel_rfl) rfl rfl (fun K hK=>?_)
        go_simp
        obtain⟨W6,HW6⟩:∃W6,Hid (W6=(wr.alloc (.cells #[.int .i64 (x:Int),.int .i64 f] 61)).drew):=⟨_,rfl⟩
        have hb6:Below wr.heap.size wr W6:=by rw[HW6.out];exact((Below.refl _ _).alloc (Nat.le_refl _) _).drew
        have HB6:Hid _:=hb6
        have HS6:Hid (W6.cell? ⟨ab,ao+b,none⟩=some (.int .i64 (x:Int))∧W6.cell? ⟨gb,b,none⟩=some (.int .i64 f)):=
         ⟨(hb6.cell (p:=⟨ab,ao+b,none⟩) (by show ab<wr.heap.size;omega)).trans HS0.out.1,(hb6.cell (p:=⟨gb,b,none⟩) (by show gb<wr.heap.size;omega)).trans HS0.out.2⟩
        have HN6:Hid (W6.heap[wr.heap.size]? =some (.cells #[.int .i64 (x:Int),.int .i64 f] 61 (0,0))):=by rw[HW6.out];exact heap_alloc_new wr _
        have hs6:=hb6.size
        rw[←HW6.out]
        refine hK.out _ _ (fun _=>HS6.out) ?_
        clear hK K
        try simp only[Act.put,takes]
        refine anyM_one (i:=11) (by kernel_rfl) rfl rfl (fun K hK=>?_)
        refine wp_append_at (.tmp 96) (.tmp 106) 57 rfl w4.heap.size 61 i1 _ 2 16 Tryz.underlying57 hj hy0 hy1 hy2 rfl (by decide) (.slice ob c oc) c (hitsC ((hitsK th p l).take c)) rfl (row_below HOW.out HB6.out) ⟨wr.heap.size,0,none⟩ 1 1 [.int .i64 (x:Int),.int .i64 f] rfl rfl (fun j u hu=>?_) (fun u hu=>?_) (by unfold maxLen;omega) (by omega) (by omega) (fun v7 w7 hown7 hgrow7 hwh7=>?_)
        ·rw[add_off,Nat.zero_add,cell_of_row _ _ _ _ _ _ HN6.out]
         simpa using hu
        ·simp only[List.mem_cons,List.not_mem_nil,or_false] at hu
         rcases hu with rfl|rfl<;>rfl
        obtain⟨g7,cap7,rfl⟩:=own_slice hown7
        have hoge:∀k,(Value.slice ob c oc).ownBlock=some k→w4.heap.size≤k:=fun k ek=>own_ge HOW.out ek
        have hk7:∀k,k<W6.heap.size→k<w4.heap.size→w7.heap[k]? =W6.heap[k]? :=fun k h1 h2=>hgrow7.block k h1 (fun e=>by have:=hoge k e.symm;omega)
        have HS7:Hid (w7.cell? ⟨ab,ao+b,none⟩=some (.int .i64 (x:Int))∧w7.cell? ⟨gb,b,none⟩=some (.int .i64 f)):=by
         have h1:w7.cell? ⟨ab,ao+b,none⟩=W6.cell? ⟨ab,ao+b,none⟩:=World.cell?_of_block (hk7 ab (by omega) (by omega))
         have h2:w7.cell? ⟨gb,b,none⟩=W6.cell? ⟨gb,b,none⟩:=World.cell?_of_block (hk7 gb (by omega) (by omega))
         exact⟨h1.trans HS6.out.1,h2.trans HS6.out.2⟩
        refine hK.out _ _ (fun _=>HS7.out) ?_
        clear hK K
        try simp only[Act.put,takes]
        refine anyM_one (i:=12) (by kernel_rfl) rfl rfl (fun K hK=>?_)
        go_simp
        refine hK.out _ _ (fun _=>HS7.out) ?_
        clear hK K
        refine anyM_done (by kernel_rfl) ?_
        have hgh7:w7.heap[gb]? =some (.cells cur 3 (0,0)):=(hk7 gb (by omega) (by omega)).trans ((hb6.block gb (by omega)).trans ((HBI.out.block gb hgl5).trans HCW.out))
        have hfz:=blk_free hgh7 b
        have hce:=HS7.out.2
        have hsz7:=hgrow7.size
        have HG7:Hid _:=hgh7
        have HO7:Hid (w7.ownsRow w4.heap.size 61 2 (.slice (some ⟨g7,0,none⟩) (c+1) cap7) (c+1) (hitsC ((hitsK th p l).take (c+1)))):=by
         show World.ownsRow _ _ _ _ _ _ _
         rw[HTK.out]
         exact hown7
        have HK7:Hid (∀k,k<w4.heap.size→k≠gb→w7.heap[k]? =w4.heap[k]?):=fun k h1 h2=>
         (hk7 k (by omega) h1).trans ((hb6.block k (by omega)).trans ((HBI.out.block k (by omega)).trans (HOT.out k h1 h2)))
        have HB7:Hid (Below w.heap.size w w7):=by
         have h1:Below w.heap.size w wr:=HBX.out.trans (HBI.out.mono HBX.out.size)
         have h2:Below w.heap.size w W6:=h1.trans (hb6.mono h1.size)
         have h3:=HBW.out.size
         exact h2.trans ((Below.refl _ _).grown hgrow7 (by omega) (fun k ek=>by have:=hoge k ek;omega))
        clear hown7 hgrow7 hwh7 hgh7 hb6 hk7
        go_wp2_with fail
        go_roundw
        case rel=>
         have hb9:g7≠gb:=by
          have:=own_ge HO7.out (k:=g7) rfl
          omega
         refine⟨c+1,g.set b (-1),cur.setIfInBounds b (.int .i64 (-1)),by omega,by omega,HFS2,⟨set_blk' HG7.out b _,by simpa using hcu2,fun i h1 h2=>?_⟩,?_,fun k h1 h2=>?_,?_,?_⟩
         ·rw[List.length_set] at h2
          rw[List.getElem_set,Array.getElem?_setIfInBounds]
          by_cases e:b=i
          ·subst e
           rw[if_pos rfl,if_pos rfl,if_pos (by omega)]
          ·rw[if_neg e,if_neg e]
           exact HCC.out i h1 h2
         ·refine rowKept HO7.out (fun k o ek ho=>?_)
          have hk8:g7=k:=by simpa[Value.ownBlock] using ek
          subst hk8
          rw[Below.heap_setCell _ _ _ _ hb9]
          exact ho
         ·rw[Below.heap_setCell _ _ _ _ h2]
          exact HK7.out k h1 h2
         ·have h3:=HB1.out.size
          exact HB7.out.setCell (by show w.heap.size≤gb;omega) _
         ·have h3:(w7.setCell ⟨gb,b,none⟩ (.int .i64 (-1))).heap.size=w7.heap.size:=by simp[World.setCell]
          rw[h3]
          omega
        case measure=>simp only[sliceLen];omega
     ·have HCM:Hid (c=min most n):=by show _=_;omega
      have HSF:Hid (wr.ownsRow w.heap.size 61 2 (.slice ob c oc) (min most l.length) (hitsC ((hitsK th p l).take most))):=by
       rw[HN.out,←HCM.out]
       have h1:=own_less HOUT.out HBW.out.size
       have h2:(hitsK th p l).take c=(hitsK th p l).take most:=by
        have hcm2:=HCM.out
        by_cases e:c=most
        ·rw[e]
        ·rw[List.take_of_length_le (by rw[hitsK_len,HN.out];omega),List.take_of_length_le (by rw[hitsK_len,HN.out];omega)]
       rw[h2] at h1
       exact h1
      cases hd:decide ((c:Int)<(most:Int))
      ·go_wp2_with fail
       all_goals go_ret3
       all_goals exact⟨_,rfl,HSF.out,HBX.out⟩
      ·have hd2:decide ((c:Int)<(n:Int))=false:=decide_eq_false (by have:=of_decide_eq_true hd;omega)
       go_wp2_with fail
       all_goals go_ret3
       all_goals exact⟨_,rfl,HSF.out,HBX.out⟩
end
end Go.Proofs.YtbnelaoeblhndaaGreatDoor
