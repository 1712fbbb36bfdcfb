import Derived.Test.YtbnelaoeblhndaaGreatDoorThStill
import Derived.Test.YtbnelaoeblhndaaGreatDoorThKept
namespace Go.Proofs.YtbnelaoeblhndaaGreatDoor
open Go.RowKit
set_option maxRecDepth 100000
theorem made_drop2 (z0 z1:Value)(n:Nat):(madeCells #[z0,z1] ((n+2)*2)).toList.drop (n*2)=[z0,z1,z0,z1]:=by
 apply List.ext_getElem
 ·simp[madeCells];omega
 ·intro i h1 h2
  have h2':i<4:=by simpa using h2
  have hm:(n*2+i) % 2=i % 2:=by omega
  simp only[List.getElem_drop,madeCells,Array.getElem_toList,Array.getElem_map,Array.getElem_range]
  have hs:#[z0,z1].size=2:=rfl
  rw[hs,hm]
  match i,h2' with
  |0,_=>rfl
  |1,_=>rfl
  |2,_=>rfl
  |3,_=>rfl
theorem run_slf_nil (a:Addr)(n c:Nat)(w:World):Sem.run Tryz.prog (binOp BinOp.eql 85 (.slice (some a) n c) (.slice none 0 0)) w=.ok (.bool false) w:=by rfl
theorem run_nil_slf (w:World):Sem.run Tryz.prog (binOp BinOp.eql 85 (.slice none 0 0) (.slice none 0 0)) w=.ok (.bool true) w:=by rfl
def zF (k:Int):List Value:=[.string ⟨#[]⟩,.int .i64 k]
theorem lent_end4 {wc:World}{g n:Nat}{cs:List Value}{T:TypeId}{u0 u1 v0 v1 z0 z1 z2 z3:Value}(h:wc.heap[g]? =some (.cells (cs++[z0,z1,z2,z3]).toArray T (0,0)))(hn:cs.length=n*2):
  ((((wc.setCell ⟨g,n*2,none⟩ u0).setCell ⟨g,n*2+1,none⟩ u1).setCell ⟨g,(n+1)*2,none⟩ v0).setCell ⟨g,(n+1)*2+1,none⟩ v1).heap[g]? =some (.cells (cs++[u0,u1,v0,v1]).toArray T (0,0)):=by
 have e3:(n+1)*2=n*2+2:=by omega
 have e:((((cs++[z0,z1,z2,z3]).set (n*2) u0).set (n*2+1) u1).set ((n+1)*2) v0).set ((n+1)*2+1) v1=cs++[u0,u1,v0,v1]:=by
  rw[e3,←hn,List.set_append_right _ _ (Nat.le_refl _),List.set_append_right _ _ (by omega),List.set_append_right _ _ (by omega),List.set_append_right _ _ (by omega)]
  rw[Nat.sub_self,Nat.add_sub_cancel_left,Nat.add_sub_cancel_left,Nat.add_assoc,Nat.add_sub_cancel_left]
  rfl
 have h6:=set_blk' (set_blk' (set_blk' (set_blk' h (n*2) u0) (n*2+1) u1) ((n+1)*2) v0) ((n+1)*2+1) v1
 simp only[List.setIfInBounds_toArray] at h6
 rw[e] at h6
 exact h6
theorem below4 {B g o0 o1 o2 o3:Nat}{w wc:World}(h:Below B w wc)(hg:B≤g)(u0 u1 u2 u3:Value):
  Below B w ((((wc.setCell ⟨g,o0,none⟩ u0).setCell ⟨g,o1,none⟩ u1).setCell ⟨g,o2,none⟩ u2).setCell ⟨g,o3,none⟩ u3):=
 (((h.setCell (p:=⟨g,o0,none⟩) hg u0).setCell (p:=⟨g,o1,none⟩) hg u1).setCell (p:=⟨g,o2,none⟩) hg u2).setCell (p:=⟨g,o3,none⟩) hg u3
theorem fldsC_len2 (l:List Doc.Fld):(fldsC l).length=l.length*2:=by
 induction l with
 |nil=>rfl
 |cons a r ih=>unfold fldsC at ih ⊢;rw[List.flatMap_cons,List.length_append,ih];simp[fldC];omega
theorem fldsC_one2 (l:List Doc.Fld):∀u∈fldsC l,u.oneCell'=true:=by
 intro u hu
 obtain⟨v,_,hv⟩:=List.mem_flatMap.1 hu
 simp only[fldC,List.mem_cons,List.not_mem_nil,or_false] at hv
 rcases hv with rfl|rfl<;>rfl
section
variable {w:World}
set_option maxHeartbeats 2000000 in
theorem lentF_core (l:List Doc.Fld)(hl:l.length≤1000000000)(a:Addr)(cap:Nat)(hsrc:∀j u,(fldsC l)[j]? =some u→w.cell? (a.add j)=some u)(hab:l≠[]→a.block<w.heap.size):
  Calls Tryz.prog 88 #[.slice (some a) l.length cap] w (Lent w 92 (fldsC l) l.length (zF 77++zF 78)):=by
 obtain⟨i0,hi,hz0,hz1,hz2⟩:=info_parts Tryz.infoFldT
 have hmk:(Instr.makeSlice 85 (.int .i64 ((l.length:Int)+2)) (.int .i64 ((l.length:Int)+2))).run Tryz.prog w=.ok (.slice (some ⟨w.heap.size,0,none⟩) (l.length+2) (l.length+2)) (w.alloc (.cells (madeCells #[Value.string ⟨#[]⟩,.int .i64 0] ((l.length+2)*2)) 92)):=by
  have:=run_make (P:=Tryz.prog) w 85 92 i0 _ Tryz.underlying85 hi hz0 .i64 .i64 ((l.length:Int)+2) ((l.length:Int)+2) (by omega) (Int.le_refl _) (by rw[hz2];omega) (by omega)
  rw[hz1,show((l.length:Int)+2).toNat=l.length+2 by omega] at this
  exact this
 have hblk0:=heap_alloc_new w (.cells (madeCells #[Value.string ⟨#[]⟩,.int .i64 0] ((l.length+2)*2)) 92)
 obtain⟨wa,hwa⟩:∃wa,wa=w.alloc (.cells (madeCells #[Value.string ⟨#[]⟩,.int .i64 0] ((l.length+2)*2)) 92):=⟨_,rfl⟩
 have hba:Below w.heap.size w wa:=by rw[hwa];exact(Below.refl _ _).alloc (Nat.le_refl _) _
 rw[←hwa] at hmk hblk0
 have hcp:∃wc,(Builtin.copy_ #[85,85] 3 #[.slice (some ⟨w.heap.size,0,none⟩) (l.length+2) (l.length+2),.slice (some a) l.length cap]).run Tryz.prog wa=.ok (.int .i64 l.length) wc∧
   wc.heap[w.heap.size]? =some (.cells (fldsC l++[Value.string ⟨#[]⟩,.int .i64 0,.string ⟨#[]⟩,.int .i64 0]).toArray 92 (0,0))∧Below w.heap.size w wc:=by
  have:=run_copy_wide (P:=Tryz.prog) wa 85 85 3 92 w.heap.size (l.length+2) (l.length+2) a l.length cap (madeCells #[Value.string ⟨#[]⟩,.int .i64 0] ((l.length+2)*2)) 92 (fldsC l) 2 l.length Tryz.underlying85 (by rw[hi];simp[hz1]) hblk0 (by simp) (fldsC_len2 l) (fun j u hj=>by
   have hb:=hab (by rintro rfl;simp[fldsC] at hj)
   refine(hba.cell (p:=a.add j) ?_).trans (hsrc j u hj)
   cases j<;>simpa[Addr.add] using hb) (by rw[fldsC_len2];simp[madeCells];omega) (fldsC_one2 l)
  refine⟨_,this,?_,below_setRow hba (Nat.le_refl _) _⟩
  rw[setRow_blk hblk0,fldsC_len2,made_drop2]
 obtain⟨wc,hcp,hblk,hbc⟩:=hcp
 have hcs:∀c (hc:c<4),wc.cell? ⟨w.heap.size,l.length*2+c,none⟩=some ([Value.string ⟨#[]⟩,.int .i64 0,.string ⟨#[]⟩,.int .i64 0][c]):=fun c hc=>blk_cell hblk _ _ (by
  rw[List.getElem?_toArray,List.getElem?_append_right (by rw[fldsC_len2];omega),fldsC_len2,Nat.add_sub_cancel_left,List.getElem?_eq_getElem hc])
 have e3:(l.length+1)*2=l.length*2+2:=by omega
 have c0:wc.cell? ⟨w.heap.size,l.length*2,none⟩=some (.string ⟨#[]⟩):=hcs 0 (by omega)
 have c1:wc.cell? ⟨w.heap.size,l.length*2+1,none⟩=some (.int .i64 0):=hcs 1 (by omega)
 have c3:wc.cell? ⟨w.heap.size,(l.length+1)*2,none⟩=some (.string ⟨#[]⟩):=by rw[e3];exact hcs 2 (by omega)
 have c4:wc.cell? ⟨w.heap.size,(l.length+1)*2+1,none⟩=some (.int .i64 0):=by rw[e3];exact hcs 3 (by omega)
 have f0:=blk_free hblk (l.length*2)
 have f1:=blk_free hblk (l.length*2+1)
 have f3:=blk_free hblk ((l.length+1)*2)
 have f4:=blk_free hblk ((l.length+1)*2+1)
 have hfin:=lent_end4 (u0:=.string ⟨#[]⟩) (u1:=.int .i64 77) (v0:=.string ⟨#[]⟩) (v1:=.int .i64 78) hblk (n:=l.length) (fldsC_len2 l)
 have HF:Hid _:=hfin
 have HBC:Hid _:=hbc
 have hnil:=run_slf_nil
 clear hsrc hblk hblk0 hwa hba hfin hbc hcs e3
 go_enter Tryz.func88,Tryz.ntmps88
 go_wp2_with fail
 first|go_region|fail "stands"
 all_goals
  go_wp2_with fail
  go_ret2
  refine⟨_,rfl,?_,.inr rfl,?_⟩
  ·rw[show zF 77++zF 78=[Value.string ⟨#[]⟩,.int .i64 77,.string ⟨#[]⟩,.int .i64 78] from rfl]
   exact drew_blk HF.out
  ·exact Below.drew (below4 HBC.out (Nat.le_refl _) _ _ _ _)
set_option maxHeartbeats 2000000 in
theorem lentF_nil:
  Calls Tryz.prog 88 #[.slice none 0 0] w (Lent w 92 [] 0 (zF 77++zF 78)):=by
 obtain⟨i0,hi,hz0,hz1,hz2⟩:=info_parts Tryz.infoFldT
 have hmk:(Instr.makeSlice 85 (.int .i64 2) (.int .i64 2)).run Tryz.prog w=.ok (.slice (some ⟨w.heap.size,0,none⟩) 2 2) (w.alloc (.cells #[.string ⟨#[]⟩,.int .i64 0,.string ⟨#[]⟩,.int .i64 0] 92)):=by
  have:=run_make (P:=Tryz.prog) w 85 92 i0 _ Tryz.underlying85 hi hz0 .i64 .i64 2 2 (by omega) (Int.le_refl _) (by rw[hz2];omega) (by omega)
  rw[hz1,show madeCells (Value.agg #[Value.string ⟨#[]⟩,.int .i64 0]).cells (Int.toNat 2*2)= #[.string ⟨#[]⟩,.int .i64 0,.string ⟨#[]⟩,.int .i64 0] from Array.ext' (made_drop2 _ _ 0)] at this
  exact this
 have hcp:=run_copy_nil (P:=Tryz.prog) (w.alloc (.cells #[.string ⟨#[]⟩,.int .i64 0,.string ⟨#[]⟩,.int .i64 0] 92)) 85 85 3 92 ⟨w.heap.size,0,none⟩ 2 2 Tryz.underlying85 (by rw[hi];rfl)
 have hnil:=run_nil_slf
 go_enter Tryz.func88,Tryz.ntmps88
 go_wp2_with fail
 go_ret2
 exact⟨_,rfl,heap_alloc_new _ _,.inl ⟨rfl,rfl⟩,(Below.refl _ _).alloc (Nat.le_refl _) _⟩
end
section
variable {w:World}
theorem blkl_cell {w:World}{g:Nat}{xs:List Value}{T:TypeId}(h:w.heap[g]? =some (.cells xs.toArray T (0,0)))(i:Nat)(v:Value)(hv:xs[i]? =some v):w.cell? ⟨g,i,none⟩=some v:=blk_cell h i v (by simpa using hv)
set_option maxHeartbeats 2000000 in
theorem stillV_any (l:List Doc.Val)(hl:l.length≤1000000000)(lv:Value)(hs:Sl w lv l.length (valsC l))(g:Nat)(hg:w.heap[g]? =some (.cells (valsC l++(zV 77++zV 78)).toArray 94 (0,0))):
  Calls Tryz.prog 95 #[.slice (some ⟨g,0,none⟩) (l.length+2) (l.length+2),lv] w fun e w'=>e=.returned (.bool true)∧Md (fun k=>k=g) w w':=by
 have hgl:=lt_block hg
 have hc:∀c u,(zV 77++zV 78)[c]? =some u→w.cell? ⟨g,l.length*3+c,none⟩=some u:=fun c u hu=>blkl_cell hg _ _ (by rw[List.getElem?_append_right (by rw[valsC_len];omega),valsC_len,Nat.add_sub_cancel_left];exact hu)
 have e3:(l.length+1)*3=l.length*3+3:=by omega
 have c0:w.cell? ⟨g,l.length*3,none⟩=some (.int .i64 77):=hc 0 _ rfl
 have c1:w.cell? ⟨g,l.length*3+1,none⟩=some (.int .i64 0):=hc 1 _ rfl
 have c2:w.cell? ⟨g,l.length*3+2,none⟩=some (.string ⟨#[]⟩):=hc 2 _ rfl
 have c3:w.cell? ⟨g,(l.length+1)*3,none⟩=some (.int .i64 78):=by rw[e3];exact hc 3 _ rfl
 have c4:w.cell? ⟨g,(l.length+1)*3+1,none⟩=some (.int .i64 0):=by rw[e3];exact hc 4 _ rfl
 have c5:w.cell? ⟨g,(l.length+1)*3+2,none⟩=some (.string ⟨#[]⟩):=by rw[e3];exact hc 5 _ rfl
 obtain⟨lb,lc,rfl⟩:=hs.slice
 have HS:Hid _:=hs
 have HG:Hid _:=hg
 clear hs hg hc e3
 go_enter Tryz.func95,Tryz.ntmps95
 go_wp2_with fail
 go_loopw [5,6] (fun ok i wr=>ok=.bool true∧∃k:Nat,k≤l.length∧i=.int .i64 k∧Below w.heap.size w wr) (fun _ i _=>l.length-(intOf i).toNat)
 case atStart=>exact⟨rfl,0,Nat.zero_le _,rfl,Below.refl _ _⟩
 case round=>
  obtain⟨rfl,k,hk,rfl,hb⟩:=hrel
  by_cases hk2:k<l.length
  ·rcases HS.out.has with⟨h0,_⟩|⟨_,b,off,cap,he,hc,hlt,hr⟩
   ·omega
   simp only[Value.slice.injEq] at he
   obtain⟨rfl,_,rfl⟩:=he
   obtain⟨x,HX⟩:∃x,Hid (x=l[k]):=⟨l[k],rfl⟩
   have hv:∀c,c<3→(valsC l)[k*3+c]? =(valC x)[c]? :=fun c hc=>by unfold valsC;rw[flat_at valC 3 valC_len l k hk2 c hc,HX.out]
   have ha:∀c u,c<3→(valC x)[c]? =some u→wr.cell? ⟨b,off+(k*3+c),none⟩=some u:=fun c u hc hu=>(hb.cell (p:=⟨b,off+(k*3+c),none⟩) hlt).trans (hr _ u ((hv c hc).trans hu))
   have hd:∀c u,c<3→(valC x)[c]? =some u→wr.cell? ⟨g,k*3+c,none⟩=some u:=fun c u hc hu=>(hb.cell (p:=⟨g,k*3+c,none⟩) hgl).trans (blkl_cell HG.out _ u (by rw[List.getElem?_append_left (by rw[valsC_len];omega)];exact(hv c hc).trans hu))
   have r0:=ha 0 (.int .i64 x.k) (by omega) rfl
   have r1:=ha 1 (.int .i64 x.n) (by omega) rfl
   have r2:=ha 2 (.string x.s) (by omega) rfl
   rw[Nat.add_zero] at r0
   rw[←Nat.add_assoc] at r1 r2
   have s0:wr.cell? ⟨g,k*3,none⟩=some (.int .i64 x.k):=hd 0 (.int .i64 x.k) (by omega) rfl
   have s1:=hd 1 (.int .i64 x.n) (by omega) rfl
   have s2:=hd 2 (.string x.s) (by omega) rfl
   clear hr hv ha hd c0 c1 c2 c3 c4 c5
   go_wp2_with fail
   go_region
   all_goals
    go_wp2_with fail
    go_roundw
    case rel=>exact⟨by first|rfl|simp,k+1,by omega,by go_num,hb.drew⟩
    case measure=>simp[intOf];omega
  ·obtain rfl:k=l.length:=by omega
   have hg2:=(hb.block g hgl).trans HG.out
   have hmd:Md (fun k=>k=g) w wr:=Md.ofBelow hb
   clear c0 c1 c2 c3 c4 c5
   go_wp2_with fail
   go_loopw [7] (fun i wx=>∃(k:Nat) (cur:Array Value),k≤l.length+2∧i=.int .i64 k∧wx.heap[g]? =some (.cells cur 94 (0,0))∧cur.size=(l.length+2)*3∧Md (fun k=>k=g) w wx) (fun i _=>l.length+2-(intOf i).toNat)
   case atStart=>exact⟨0,_,Nat.zero_le _,rfl,hg2,by simp[valsC_len,zV];omega,hmd⟩
   case round=>
    obtain⟨k,cur,hk',rfl,hcur,hcz,hm⟩:=hrel
    clear hg2 hmd
    by_cases hk3:k<l.length+2
    ·have hi0:k*3<cur.size:=by omega
     obtain⟨u0,z0⟩:∃u,wr.cell? ⟨g,k*3,none⟩=some u:=⟨_,blk_cell hcur (k*3) _ (Array.getElem?_eq_getElem (by omega))⟩
     obtain⟨u1,z1⟩:∃u,wr.cell? ⟨g,k*3+1,none⟩=some u:=⟨_,blk_cell hcur (k*3+1) _ (Array.getElem?_eq_getElem (by omega))⟩
     obtain⟨u2,z2⟩:∃u,wr.cell? ⟨g,k*3+2,none⟩=some u:=⟨_,blk_cell hcur (k*3+2) _ (Array.getElem?_eq_getElem (by omega))⟩
     have f0:=blk_free hcur (k*3)
     have f1:=blk_free hcur (k*3+1)
     have f2:=blk_free hcur (k*3+2)
     go_wp2_with fail
     go_roundw
     case rel=>exact⟨k+1,_,by omega,by go_num,set_blk' (set_blk' (set_blk' hcur (k*3) _) (k*3+1) _) (k*3+2) _,by simp[hcz],((hm.set _ (.inl rfl)).set _ (.inl rfl)).set _ (.inl rfl)⟩
     case measure=>simp[intOf];omega
    ·obtain rfl:k=l.length+2:=by omega
     go_wp2_with fail
     go_ret
     exact⟨rfl,hm⟩
set_option maxHeartbeats 2000000 in
theorem stillF_any (l:List Doc.Fld)(hl:l.length≤1000000000)(lv:Value)(hs:Sl w lv l.length (fldsC l))(g:Nat)(hg:w.heap[g]? =some (.cells (fldsC l++(zF 77++zF 78)).toArray 92 (0,0))):
  Calls Tryz.prog 90 #[.slice (some ⟨g,0,none⟩) (l.length+2) (l.length+2),lv] w fun e w'=>e=.returned (.bool true)∧Md (fun k=>k=g) w w':=by
 have hgl:=lt_block hg
 have hc:∀c u,(zF 77++zF 78)[c]? =some u→w.cell? ⟨g,l.length*2+c,none⟩=some u:=fun c u hu=>blkl_cell hg _ _ (by rw[List.getElem?_append_right (by rw[fldsC_len2];omega),fldsC_len2,Nat.add_sub_cancel_left];exact hu)
 have e3:(l.length+1)*2=l.length*2+2:=by omega
 have c0:w.cell? ⟨g,l.length*2,none⟩=some (.string ⟨#[]⟩):=hc 0 _ rfl
 have c1:w.cell? ⟨g,l.length*2+1,none⟩=some (.int .i64 77):=hc 1 _ rfl
 have c2:w.cell? ⟨g,(l.length+1)*2,none⟩=some (.string ⟨#[]⟩):=by rw[e3];exact hc 2 _ rfl
 have c3:w.cell? ⟨g,(l.length+1)*2+1,none⟩=some (.int .i64 78):=by rw[e3];exact hc 3 _ rfl
 obtain⟨lb,lc,rfl⟩:=hs.slice
 have HS:Hid _:=hs
 have HG:Hid _:=hg
 clear hs hg hc e3
 go_enter Tryz.func90,Tryz.ntmps90
 go_wp2_with fail
 go_loopw [5,6] (fun ok i wr=>ok=.bool true∧∃k:Nat,k≤l.length∧i=.int .i64 k∧Below w.heap.size w wr) (fun _ i _=>l.length-(intOf i).toNat)
 case atStart=>exact⟨rfl,0,Nat.zero_le _,rfl,Below.refl _ _⟩
 case round=>
  obtain⟨rfl,k,hk,rfl,hb⟩:=hrel
  by_cases hk2:k<l.length
  ·rcases HS.out.has with⟨h0,_⟩|⟨_,b,off,cap,he,hc,hlt,hr⟩
   ·omega
   simp only[Value.slice.injEq] at he
   obtain⟨rfl,_,rfl⟩:=he
   obtain⟨x,HX⟩:∃x,Hid (x=l[k]):=⟨l[k],rfl⟩
   have hv:∀c,c<2→(fldsC l)[k*2+c]? =(fldC x)[c]? :=fun c hc=>by unfold fldsC;rw[flat_at fldC 2 fldC_len l k hk2 c hc,HX.out]
   have ha:∀c u,c<2→(fldC x)[c]? =some u→wr.cell? ⟨b,off+(k*2+c),none⟩=some u:=fun c u hc hu=>(hb.cell (p:=⟨b,off+(k*2+c),none⟩) hlt).trans (hr _ u ((hv c hc).trans hu))
   have hd:∀c u,c<2→(fldC x)[c]? =some u→wr.cell? ⟨g,k*2+c,none⟩=some u:=fun c u hc hu=>(hb.cell (p:=⟨g,k*2+c,none⟩) hgl).trans (blkl_cell HG.out _ u (by rw[List.getElem?_append_left (by rw[fldsC_len2];omega)];exact(hv c hc).trans hu))
   have r0:=ha 0 (.string x.name) (by omega) rfl
   have r1:=ha 1 (.int .i64 x.kind) (by omega) rfl
   rw[Nat.add_zero] at r0
   rw[←Nat.add_assoc] at r1
   have s0:wr.cell? ⟨g,k*2,none⟩=some (.string x.name):=hd 0 (.string x.name) (by omega) rfl
   have s1:=hd 1 (.int .i64 x.kind) (by omega) rfl
   clear hr hv ha hd c0 c1 c2 c3
   go_wp2_with fail
   go_region
   all_goals
    go_wp2_with fail
    go_roundw
    case rel=>exact⟨by first|rfl|simp,k+1,by omega,by go_num,hb.drew⟩
    case measure=>simp[intOf];omega
  ·obtain rfl:k=l.length:=by omega
   have hg2:=(hb.block g hgl).trans HG.out
   have hmd:Md (fun k=>k=g) w wr:=Md.ofBelow hb
   clear c0 c1 c2 c3
   go_wp2_with fail
   go_loopw [7] (fun i wx=>∃(k:Nat) (cur:Array Value),k≤l.length+2∧i=.int .i64 k∧wx.heap[g]? =some (.cells cur 92 (0,0))∧cur.size=(l.length+2)*2∧Md (fun k=>k=g) w wx) (fun i _=>l.length+2-(intOf i).toNat)
   case atStart=>exact⟨0,_,Nat.zero_le _,rfl,hg2,by simp[fldsC_len2,zF];omega,hmd⟩
   case round=>
    obtain⟨k,cur,hk',rfl,hcur,hcz,hm⟩:=hrel
    clear hg2 hmd
    by_cases hk3:k<l.length+2
    ·have hi0:k*2<cur.size:=by omega
     obtain⟨u0,z0⟩:∃u,wr.cell? ⟨g,k*2,none⟩=some u:=⟨_,blk_cell hcur (k*2) _ (Array.getElem?_eq_getElem (by omega))⟩
     obtain⟨u1,z1⟩:∃u,wr.cell? ⟨g,k*2+1,none⟩=some u:=⟨_,blk_cell hcur (k*2+1) _ (Array.getElem?_eq_getElem (by omega))⟩
     have f0:=blk_free hcur (k*2)
     have f1:=blk_free hcur (k*2+1)
     go_wp2_with fail
     go_roundw
     case rel=>exact⟨k+1,_,by omega,by go_num,set_blk' (set_blk' hcur (k*2) _) (k*2+1) _,by simp[hcz],(hm.set _ (.inl rfl)).set _ (.inl rfl)⟩
     case measure=>simp[intOf];omega
    ·obtain rfl:k=l.length+2:=by omega
     go_wp2_with fail
     go_ret
     exact⟨rfl,hm⟩
end
structure Pr where
 xb:Nat
 yb:Nat
 fs:List Doc.Fld
 space:Int
 ts:List Doc.Thg
def prC (p:Pr):List Value:=[.pointer (some ⟨p.xb,0,none⟩),.pointer (some ⟨p.yb,0,none⟩)]
def prsC (ps:List Pr):List Value:=ps.flatMap prC
def hasOf (ts:List Doc.Thg):Has:=fun id=>(ts.find? (fun t=>t.id==id)).map (fun t=>(t.spot,t.vals))
def Uniq (ts:List Doc.Thg):Prop:=ts.Pairwise (fun a b=>a.id≠b.id)
def Cl (B N:Nat)(own:Nat→Nat)(c:Nat):Nat→Prop:=fun k=>B≤k∧k<N∧own k=c
structure LawAt (B:Nat)(w:World)(own:Nat→Nat)(wb:Nat)(ps:List Pr)(lv nsv knv vsv kvv hsv khv:Value)(rows:List Value)(marks:List Int)(vrows:List Value)(vmarks:List Int)(hrows:List Value)(hmarks:List Int):Prop where
 blk:w.heap[wb]? =some (worldO lv nsv knv vsv kvv hsv khv)
 wbc:Cl B w.heap.size own 0 wb
 prs:w.ownsRow 0 140 2 lv ps.length (prsC ps)
 prc:∀k,lv.ownBlock=some k→Cl B w.heap.size own 0 k
 bkn:BookN w (Cl B w.heap.size own 1) nsv knv rows marks
 bkv:BookV w (Cl B w.heap.size own 2) vsv kvv vrows vmarks
 bkh:BookH w (Cl B w.heap.size own 3) hsv khv hrows hmarks
 sts:∀i (h:i<ps.length),ProgSt w (Cl B w.heap.size own (2*i+4)) ps[i].xb ps[i].fs ps[i].space (hasOf ps[i].ts)∧RefSt w (Cl B w.heap.size own (2*i+5)) ps[i].yb ps[i].fs ps[i].space ps[i].ts∧Uniq ps[i].ts
def LawSt (B:Nat)(w:World)(wb n g:Nat):Prop:=∃own ps lv nsv knv vsv kvv hsv khv rows marks vrows vmarks hrows hmarks,LawAt B w own wb ps lv nsv knv vsv kvv hsv khv rows marks vrows vmarks hrows hmarks∧ps.length=n∧rows.length≤4*g∧vrows.length≤4*g∧hrows.length≤4*g
theorem BookN.kept {w w':World}{F F':Nat→Prop}{nsv knv:Value}{rows:List Value}{marks:List Int}(h:BookN w F nsv knv rows marks)(hk:∀k,F k→k<w.heap.size→w'.heap[k]? =w.heap[k]?)(hF:∀k,F k→k<w.heap.size→F' k):BookN w' F' nsv knv rows marks:=by
 refine⟨rowKept h.ns (fun k _ e ho=>(hk k (h.inN k e) (ownLt h.ns e)).trans ho),rowKept h.kn (fun k _ e ho=>(hk k (h.inK k e) (ownLt h.kn e)).trans ho),h.len,fun i h1 h2=>?_,fun k e=>hF k (h.inN k e) (ownLt h.ns e),fun k e=>hF k (h.inK k e) (ownLt h.kn e)⟩
 obtain⟨n,r,hr⟩:=h.each i h1 h2
 exact⟨n,rowKept r (fun k _ e ho=>(hk k (hr k e).1 (ownLt r e)).trans ho),fun k e=>⟨hF k (hr k e).1 (ownLt r e),(hr k e).2⟩⟩
theorem BookV.kept {w w':World}{F F':Nat→Prop}{nsv knv:Value}{rows:List Value}{marks:List Int}(h:BookV w F nsv knv rows marks)(hk:∀k,F k→k<w.heap.size→w'.heap[k]? =w.heap[k]?)(hF:∀k,F k→k<w.heap.size→F' k):BookV w' F' nsv knv rows marks:=by
 refine⟨rowKept h.ns (fun k _ e ho=>(hk k (h.inN k e) (ownLt h.ns e)).trans ho),rowKept h.kn (fun k _ e ho=>(hk k (h.inK k e) (ownLt h.kn e)).trans ho),h.len,fun i h1 h2=>?_,fun k e=>hF k (h.inN k e) (ownLt h.ns e),fun k e=>hF k (h.inK k e) (ownLt h.kn e)⟩
 obtain⟨n,r,hr⟩:=h.each i h1 h2
 exact⟨n,rowKept r (fun k _ e ho=>(hk k (hr k e).1 (ownLt r e)).trans ho),fun k e=>⟨hF k (hr k e).1 (ownLt r e),(hr k e).2⟩⟩
theorem BookH.kept {w w':World}{F F':Nat→Prop}{nsv knv:Value}{rows:List Value}{marks:List Int}(h:BookH w F nsv knv rows marks)(hk:∀k,F k→k<w.heap.size→w'.heap[k]? =w.heap[k]?)(hF:∀k,F k→k<w.heap.size→F' k):BookH w' F' nsv knv rows marks:=by
 refine⟨rowKept h.ns (fun k _ e ho=>(hk k (h.inN k e) (ownLt h.ns e)).trans ho),rowKept h.kn (fun k _ e ho=>(hk k (h.inK k e) (ownLt h.kn e)).trans ho),h.len,fun i h1 h2=>?_,fun k e=>hF k (h.inN k e) (ownLt h.ns e),fun k e=>hF k (h.inK k e) (ownLt h.kn e)⟩
 obtain⟨n,r,hr⟩:=h.each i h1 h2
 exact⟨n,rowKept r (fun k _ e ho=>(hk k (hr k e).1 (ownLt r e)).trans ho),fun k e=>⟨hF k (hr k e).1 (ownLt r e),(hr k e).2⟩⟩
theorem RefSt.kept' {w w':World}{F F':Nat→Prop}{sb:Nat}{fs:List Doc.Fld}{space:Int}{ts:List Doc.Thg}(h:RefSt w F sb fs space ts)(hk:∀k,F k→k<w.heap.size→w'.heap[k]? =w.heap[k]?)(hF:∀k,F k→k<w.heap.size→F' k):RefSt w' F' sb fs space ts:=
 h.kept (fun k _ hf ho=>(hk k hf (lt_block ho)).trans ho) hF
theorem pig:∀(n:Nat) (l:List Nat),l.Nodup→(∀x∈l,x<n)→l.length≤n:=by
 intro n
 induction n with
 |zero=>
  intro l _ h
  cases l with
  |nil=>simp
  |cons a r=>exact absurd (h a (by simp)) (by omega)
 |succ n ih=>
  intro l hn h
  have h1:=ih (l.erase n) (hn.erase n) (fun x hx=>by
   have:=(hn.mem_erase_iff).1 hx
   have:=h x this.2
   omega)
  have h2:l.length≤(l.erase n).length+1:=by
   rw[List.length_erase];split<;>omega
  omega
theorem uniq_len {ts:List Doc.Thg}(hu:Uniq ts)(hr:∀t∈ts,0≤t.id∧t.id≤4095):ts.length≤4096:=by
 have:=pig 4096 (ts.map (fun t=>t.id.toNat)) (by
  rw[List.Nodup,List.pairwise_map]
  refine List.Pairwise.imp_of_mem ?_ hu
  intro a b ha hb h e
  have h1:=hr a ha
  have h2:=hr b hb
  exact h (by omega)) (by
  intro x hx
  obtain⟨t,ht,rfl⟩:=List.mem_map.1 hx
  have:=hr t ht
  omega)
 simpa using this
theorem has_none {ts:List Doc.Thg}{id:Int}(h:Doc.idxT ts id=none):hasOf ts id=none:=by
 unfold hasOf
 unfold Doc.idxT at h
 rw[List.findIdx?_eq_none_iff] at h
 rw[List.find?_eq_none.2 (fun t ht=>by simpa using h t ht)];rfl
theorem has_some {ts:List Doc.Thg}{id:Int}{k:Nat}(h:Doc.idxT ts id=some k):∃(hk:k<ts.length),ts[k].id=id∧hasOf ts id=some (ts[k].spot,ts[k].vals):=by
 unfold Doc.idxT at h
 obtain⟨hk,h1,h2⟩:=List.findIdx?_eq_some_iff_getElem.1 h
 refine⟨hk,by simpa using h1,?_⟩
 unfold hasOf
 have:ts.find? (fun t=>t.id==id)=some ts[k]:=List.find?_eq_some_iff_getElem.2 ⟨h1,k,hk,rfl,fun j hj=>by simpa using h2 j hj⟩
 rw[this];rfl
theorem has_mem {ts:List Doc.Thg}(hu:Uniq ts){t:Doc.Thg}(ht:t∈ts):hasOf ts t.id=some (t.spot,t.vals):=by
 unfold hasOf
 obtain⟨k,hk,rfl⟩:=List.getElem_of_mem ht
 have:ts.find? (fun t=>t.id==ts[k].id)=some ts[k]:=List.find?_eq_some_iff_getElem.2 ⟨by simp,k,hk,rfl,fun j hj=>by
  have:=List.pairwise_iff_getElem.1 hu j k (by omega) hk hj
  simpa using this⟩
 rw[this];rfl
theorem has_iff {ts:List Doc.Thg}(hu:Uniq ts)(id:Int)(p:List Int×List Doc.Val):hasOf ts id=some p↔∃t∈ts,t.id=id∧p=(t.spot,t.vals):=by
 constructor
 ·intro h
  unfold hasOf at h
  cases hf:ts.find? (fun t=>t.id==id) with
  |none=>rw[hf] at h;cases h
  |some t=>
   rw[hf] at h
   cases h
   exact⟨t,List.mem_of_find?_eq_some hf,by simpa using List.find?_some hf,rfl⟩
 ·rintro⟨t,ht,rfl,rfl⟩
  exact has_mem hu ht
theorem uniq_put {ts:List Doc.Thg}(hu:Uniq ts)(t:Doc.Thg):Uniq (Doc.putT ts t):=by
 unfold Doc.putT
 cases hi:Doc.idxT ts t.id with
 |none=>
  unfold Doc.idxT at hi
  rw[List.findIdx?_eq_none_iff] at hi
  refine List.pairwise_append.2 ⟨hu,by simp,fun a ha b hb=>?_⟩
  rw[List.mem_singleton.1 hb]
  simpa using hi a ha
 |some k=>
  obtain⟨hk,h1,_⟩:=has_some hi
  show(ts.set k t).Pairwise _
  rw[List.pairwise_iff_getElem]
  intro i j hi' hj' hij
  have hi2:i<ts.length:=by simpa using hi'
  have hj2:j<ts.length:=by simpa using hj'
  have base:=fun a b (ha:a<ts.length) (hb:b<ts.length) (hab:a<b)=>List.pairwise_iff_getElem.1 hu a b ha hb hab
  rw[List.getElem_set,List.getElem_set]
  split
  ·rename_i e;subst e
   rw[if_neg (by omega),←h1]
   exact base _ _ hi2 hj2 hij
  ·split
   ·rename_i e;subst e
    rw[←h1]
    exact base _ _ hi2 hj2 hij
   ·exact base _ _ hi2 hj2 hij
theorem has_put {ts:List Doc.Thg}(hu:Uniq ts)(t:Doc.Thg):hasOf (Doc.putT ts t)=putT (hasOf ts) t.id (t.spot,t.vals):=by
 funext id
 have hu2:=uniq_put hu t
 have mem:∀s,s∈Doc.putT ts t↔s=t∨(s∈ts∧s.id≠t.id):=by
  intro s
  unfold Doc.putT
  cases hi:Doc.idxT ts t.id with
  |none=>
   unfold Doc.idxT at hi
   rw[List.findIdx?_eq_none_iff] at hi
   simp only[List.mem_append,List.mem_singleton]
   constructor
   ·rintro(h|h)
    ·exact .inr ⟨h,by simpa using hi s h⟩
    ·exact .inl h
   ·rintro(h|h)
    ·exact .inr h
    ·exact .inl h.1
  |some k=>
   obtain⟨hk,h1,_⟩:=has_some hi
   show s∈ts.set k t↔_
   rw[List.mem_iff_getElem]
   constructor
   ·rintro⟨j,hj,rfl⟩
    have hj2:j<ts.length:=by simpa using hj
    rw[List.getElem_set]
    split
    ·exact .inl rfl
    ·rename_i e
     refine .inr ⟨List.getElem_mem hj2,?_⟩
     rw[←h1]
     rcases Nat.lt_or_gt_of_ne e with hlt|hlt
     ·exact(List.pairwise_iff_getElem.1 hu k j hk hj2 hlt).symm
     ·exact List.pairwise_iff_getElem.1 hu j k hj2 hk hlt
   ·rintro(rfl|⟨h2,h3⟩)
    ·exact⟨k,by simpa using hk,by simp⟩
    ·obtain⟨j,hj,rfl⟩:=List.getElem_of_mem h2
     have:k≠j:=by rintro rfl;exact h3 h1
     exact⟨j,by simpa using hj,by rw[List.getElem_set_ne this]⟩
 apply Option.ext
 intro p
 rw[has_iff hu2]
 unfold putT
 by_cases e:id=t.id
 ·subst e
  rw[if_pos rfl]
  constructor
  ·rintro⟨s,hs,h1,rfl⟩
   rcases(mem s).1 hs with rfl|⟨_,h⟩
   ·rfl
   ·exact absurd h1 h
  ·intro h;cases h;exact⟨t,(mem t).2 (.inl rfl),rfl,rfl⟩
 ·rw[if_neg e,has_iff hu]
  constructor
  ·rintro⟨s,hs,h1,rfl⟩
   rcases(mem s).1 hs with rfl|⟨h2,_⟩
   ·exact absurd h1.symm e
   ·exact⟨s,h2,h1,rfl⟩
  ·rintro⟨s,hs,h1,rfl⟩
   exact⟨s,(mem s).2 (.inr ⟨hs,by rw[h1];exact e⟩),h1,rfl⟩
theorem uniq_drop {ts:List Doc.Thg}(hu:Uniq ts)(k:Nat):Uniq (ts.eraseIdx k):=List.Pairwise.sublist (List.eraseIdx_sublist _ _) hu
theorem has_drop {ts:List Doc.Thg}(hu:Uniq ts){id:Int}{k:Nat}(h:Doc.idxT ts id=some k):hasOf (ts.eraseIdx k)=dropT (hasOf ts) id:=by
 obtain⟨hk,h1,_⟩:=has_some h
 funext i
 apply Option.ext
 intro p
 rw[has_iff (uniq_drop hu k)]
 unfold dropT
 by_cases e:i=id
 ·subst e
  rw[if_pos rfl]
  constructor
  ·rintro⟨s,hs,h2,rfl⟩
   exfalso
   obtain⟨j,hjk,hj⟩:=List.mem_eraseIdx_iff_getElem?.1 hs
   obtain⟨hjl,rfl⟩:=List.getElem?_eq_some_iff.1 hj
   rcases Nat.lt_or_gt_of_ne hjk with hlt|hlt
   ·exact List.pairwise_iff_getElem.1 hu j k hjl hk hlt (h2.trans h1.symm)
   ·exact List.pairwise_iff_getElem.1 hu k j hk hjl hlt (h1.trans h2.symm)
  ·intro h;cases h
 ·rw[if_neg e,has_iff hu]
  constructor
  ·rintro⟨s,hs,h2,rfl⟩
   exact⟨s,(List.eraseIdx_sublist _ _).subset hs,h2,rfl⟩
  ·rintro⟨s,hs,h2,rfl⟩
   obtain⟨j,hj,rfl⟩:=List.getElem_of_mem hs
   have:j≠k:=by rintro rfl;exact e (h2.symm.trans h1)
   exact⟨_,List.mem_eraseIdx_iff_getElem?.2 ⟨j,this,List.getElem?_eq_getElem hj⟩,h2,rfl⟩
def gotS (o:Option (List Int×List Doc.Val)):List Int:=match o with|some t=>t.1|none=>[]
def gotV (o:Option (List Int×List Doc.Val)):List Doc.Val:=match o with|some t=>t.2|none=>[]
def gotE (o:Option (List Int×List Doc.Val)):Int:=match o with|some _=>0|none=>4
section
variable {w:World}{F:Nat→Prop}{sb:Nat}{fs:List Doc.Fld}{space:Int}{ts:List Doc.Thg}{th:Has}
theorem pget_any (h:ProgSt w F sb fs space th)(id:Int)(h0: -9223372036854775808≤id)(h1:id≤9223372036854775807):
  Calls Tryz.prog 32 #[.pointer (some ⟨sb,0,none⟩),.int .i64 id] w fun e w'=>∃v1 v2,e=.returned (.tuple #[v1,v2,.int .i64 (gotE (th id))])∧w'.ownsRow w.heap.size 3 1 v1 (gotS (th id)).length (intC (gotS (th id)))∧w'.ownsRow w.heap.size 94 3 v2 (gotV (th id)).length (valsC (gotV (th id)))∧Below w.heap.size w w':=by
 obtain⟨fv,hb,mt,mh,pos,h⟩:=h
 cases hn:th id with
 |none=>
  refine(pget_none h id h0 h1 hn).mono ?_
  rintro e w' ⟨rfl,hb'⟩
  exact⟨_,_,rfl,World.ownsRow_nil _ _ _ _,World.ownsRow_nil _ _ _ _,hb'⟩
 |some t=>exact pget_some h id t hn
theorem rget_any (h:RefSt w F sb fs space ts)(hl:ts.length≤1000000)(id:Int):
  Calls Tryz.prog 97 #[.pointer (some ⟨sb,0,none⟩),.int .i64 id] w fun e w'=>∃v1 v2,e=.returned (.tuple #[v1,v2,.int .i64 (gotE (hasOf ts id))])∧Sl w' v1 (gotS (hasOf ts id)).length (intC (gotS (hasOf ts id)))∧Sl w' v2 (gotV (hasOf ts id)).length (valsC (gotV (hasOf ts id)))∧Below w.heap.size w w':=by
 obtain⟨fv,tv,ps,h⟩:=h
 cases hn:Doc.idxT ts id with
 |none=>
  rw[has_none hn]
  refine(rget_none h (by omega) id hn).mono ?_
  rintro e w' ⟨rfl,rfl⟩
  exact⟨_,_,rfl,⟨.inl ⟨rfl,_,_,rfl⟩⟩,⟨.inl ⟨rfl,_,_,rfl⟩⟩,Below.refl _ _⟩
 |some k=>
  obtain⟨hk,h1,h2⟩:=has_some hn
  rw[h2]
  have hk':k<ps.length:=by rw[←h.len];exact hk
  obtain⟨r1,r2⟩:=h.each k hk hk'
  refine(rget_some h (by omega) id k hn hk hk').mono ?_
  rintro e w' ⟨rfl,hb'⟩
  exact⟨_,_,rfl,(rowSl r1).below hb',(rowSl r2).below hb',hb'⟩
end
theorem num_any' (E:Int)(w:World):Calls Tryz.prog 13 #[.int .i64 E] w fun e w'=>e=.returned (.int .i64 E)∧w'=w:=by
 go_enter Tryz.func13,Tryz.ntmps13
 go_wp2_with fail
 go_ret
 exact⟨rfl,rfl⟩
section
variable {B:Nat}{w:World}{own:Nat→Nat}{wb:Nat}{ps:List Pr}{lv nsv knv vsv kvv hsv khv:Value}{rows:List Value}{marks:List Int}{vrows:List Value}{vmarks:List Int}{hrows:List Value}{hmarks:List Int}
set_option maxHeartbeats 4000000 in
theorem gets_walk (xb yb:Nat)(id:Int)(spot:List Int)(vals:List Doc.Val)(E:Int)(hsl:spot.length≤1000)(hvl:vals.length≤1000)
  (hX:∀W,Below w.heap.size w W→Calls Tryz.prog 32 #[.pointer (some ⟨xb,0,none⟩),.int .i64 id] W fun e w'=>∃v1 v2,e=.returned (.tuple #[v1,v2,.int .i64 E])∧w'.ownsRow W.heap.size 3 1 v1 spot.length (intC spot)∧w'.ownsRow W.heap.size 94 3 v2 vals.length (valsC vals)∧Below W.heap.size W w')
  (hY:∀W,Below w.heap.size w W→Calls Tryz.prog 97 #[.pointer (some ⟨yb,0,none⟩),.int .i64 id] W fun e w'=>∃v1 v2,e=.returned (.tuple #[v1,v2,.int .i64 E])∧Sl w' v1 spot.length (intC spot)∧Sl w' v2 vals.length (valsC vals)∧Below W.heap.size W w')
  (R:World→World→Prop)
  (hN:∀W l v,Below w.heap.size w W→W.ownsRow w.heap.size 3 1 l spot.length (intC spot)→W.ownsRow w.heap.size 94 3 v vals.length (valsC vals)→Calls Tryz.prog 99 #[.pointer (some ⟨wb,1,none⟩),l] W fun e w1=>e=.returned (.tuple #[])∧Calls Tryz.prog 100 #[.pointer (some ⟨wb,1,none⟩),v] w1 fun e w2=>e=.returned (.tuple #[])∧R W w2):
  Calls Tryz.prog 58 #[.pointer (some ⟨wb,0,none⟩),.agg #[.pointer (some ⟨xb,0,none⟩),.pointer (some ⟨yb,0,none⟩)],.int .i64 id] w fun e w'=>e=.returned (.bool true)∧∃W,Below w.heap.size w W∧R W w':=by
 have HX:Hid _:=hX
 have HY:Hid _:=hY
 have HN:Hid _:=hN
 clear hX hY hN
 have hba:Below w.heap.size w (w.alloc (.cells #[.pointer (some ⟨xb,0,none⟩),.pointer (some ⟨yb,0,none⟩)] 140)):=(Below.refl _ _).alloc (Nat.le_refl _) _
 have HBA:Hid _:=hba
 go_enter Tryz.func58,Tryz.ntmps58
 go_wp2_with fail
 refine(HX.out _ HBA.out).mono ?_
 rintro e w1 ⟨v1,v2,rfl,r1,r2,hb1⟩
 obtain⟨b1,c1,rfl⟩:=row_slice r1
 obtain⟨b2,c2,rfl⟩:=row_slice r2
 have q1:=(hb1.block w.heap.size (by simp)).trans (heap_alloc_new w _)
 have y1:=blk_cell q1 1 _ rfl
 have HB1:Hid _:=Below.callB HBA.out (Nat.le_refl _) hb1
 have R1:Hid _:=own_less r1 (by simp:w.heap.size≤_)
 have R2:Hid _:=own_less r2 (by simp:w.heap.size≤_)
 clear r1 r2 hb1 q1 hba
 go_wp2_with fail
 refine(HY.out w1 HB1.out).mono ?_
 rintro e w2 ⟨u1,u2,rfl,s1,s2,hb2⟩
 obtain⟨b3,c3,rfl⟩:=s1.slice
 obtain⟨b4,c4,rfl⟩:=s2.slice
 have R3:Hid _:=row_below R1.out hb2
 have R4:Hid _:=row_below R2.out hb2
 have HB2:Hid _:=Below.callB HB1.out (Nat.le_refl _) hb2
 have HSA:Hid _:=same_any spot (by omega) _ _ (rowSl R3.out) s1
 have S2:Hid _:=s2
 clear s1 s2 hb2 y1
 go_wp2_with fail
 refine Calls.mono HSA.out ?_
 rintro e w3 ⟨rfl,hb3⟩
 have R5:Hid _:=row_below R3.out hb3
 have R6:Hid _:=row_below R4.out hb3
 have S6:Hid _:=S2.out.below hb3
 have HB3:Hid _:=Below.callB HB2.out (Nat.le_refl _) hb3
 clear hb3
 go_wp2_with fail
 refine(num_any' E w3).mono ?_
 rintro e w3' ⟨rfl,hw3⟩
 subst hw3
 go_wp2_with fail
 go_loopw [13,14] (fun ok i wr=>ok=.bool true∧∃k:Nat,k≤vals.length∧i=.int .i64 k∧Below w3'.heap.size w3' wr) (fun _ i _=>vals.length-(intOf i).toNat)
 case atStart=>exact⟨rfl,0,Nat.zero_le _,rfl,Below.refl _ _⟩
 case round=>
  obtain⟨rfl,k,hk,rfl,hb⟩:=hrel
  by_cases hk2:k<vals.length
  ·have hrow:=rowSl (row_below R6.out hb)
   have hsl2:=S6.out.below hb
   rcases hrow.has with⟨h0,_⟩|⟨_,g,o1,cp1,he1,_,_,hr1⟩
   ·omega
   rcases hsl2.has with⟨h0,_⟩|⟨_,b,off,cp2,he2,_,_,hr2⟩
   ·omega
   simp only[Value.slice.injEq] at he1 he2
   obtain⟨rfl,_,rfl⟩:=he1
   obtain⟨rfl,_,rfl⟩:=he2
   obtain⟨x,HX2⟩:∃x,Hid (x=vals[k]):=⟨vals[k],rfl⟩
   have hv:∀c,c<3→(valsC vals)[k*3+c]? =(valC x)[c]? :=fun c hc=>by unfold valsC;rw[flat_at valC 3 valC_len vals k hk2 c hc,HX2.out]
   have a0:=hr1 (k*3+0) (.int .i64 x.k) (hv 0 (by omega))
   have a1:=hr1 (k*3+1) (.int .i64 x.n) (hv 1 (by omega))
   have a2:=hr1 (k*3+2) (.string x.s) (hv 2 (by omega))
   have d0:=hr2 (k*3+0) (.int .i64 x.k) (hv 0 (by omega))
   have d1:=hr2 (k*3+1) (.int .i64 x.n) (hv 1 (by omega))
   have d2:=hr2 (k*3+2) (.string x.s) (hv 2 (by omega))
   rw[Nat.add_zero] at a0 d0
   rw[←Nat.add_assoc] at a1 a2 d1 d2
   clear hr1 hr2 hv hrow hsl2
   go_wp2_with fail
   go_quiet (fail)
   go_wp2_with fail
   exact⟨⟨by first|rfl|simp,k+1,by omega,by go_num,below_drewN hb⟩,by simp[intOf];omega⟩
  ·obtain rfl:k=vals.length:=by omega
   have HBW:Hid _:=Below.callB HB3.out (Nat.le_refl _) hb
   have HNV:Hid _:=HN.out wr _ _ HBW.out (row_below R5.out hb) (row_below R6.out hb)
   go_wp2_with fail
   refine Calls.mono HNV.out ?_
   rintro e w5 ⟨rfl,hv5⟩
   have HV5:Hid _:=hv5
   clear hv5
   go_wp2_with fail
   refine Calls.mono HV5.out ?_
   rintro e w6 ⟨rfl,hr6⟩
   go_wp2_with fail
   go_ret
   exact⟨rfl,wr,HBW.out,hr6⟩
end
section
variable {B:Nat}{w:World}{own:Nat→Nat}{wb:Nat}{ps:List Pr}{lv nsv knv vsv kvv hsv khv:Value}{rows:List Value}{marks:List Int}{vrows:List Value}{vmarks:List Int}{hrows:List Value}{hmarks:List Int}
theorem Cl.mono {N N':Nat}{own own':Nat→Nat}{c k:Nat}(h:Cl B N own c k)(hN:N≤N')(ho:∀k,k<N→own' k=own k):Cl B N' own' c k:=⟨h.1,by have:=h.2.1;omega,by rw[ho k h.2.1];exact h.2.2⟩
theorem gets_book (_hB:B≤w.heap.size)(hA:LawAt B w own wb ps lv nsv knv vsv kvv hsv khv rows marks vrows vmarks hrows hmarks)(hr1:rows.length≤1000000000)(hr2:vrows.length≤1000000000)(spot:List Int)(vals:List Doc.Val)(hsl:spot.length≤1000)(hvl:vals.length≤1000)(W:World)(l v:Value)(hW:Below w.heap.size w W)
  (hl:W.ownsRow w.heap.size 3 1 l spot.length (intC spot)) (hv:W.ownsRow w.heap.size 94 3 v vals.length (valsC vals)):
  Calls Tryz.prog 99 #[.pointer (some ⟨wb,1,none⟩),l] W fun e w1=>e=.returned (.tuple #[])∧Calls Tryz.prog 100 #[.pointer (some ⟨wb,1,none⟩),v] w1 fun e w2=>e=.returned (.tuple #[])∧
   (Below B w w2∧∃own' nsv' knv' vsv' kvv' rows' marks' vrows' vmarks',LawAt B w2 own' wb ps lv nsv' knv' vsv' kvv' hsv khv rows' marks' vrows' vmarks' hrows hmarks∧rows'.length=rows.length+4∧vrows'.length=vrows.length+4):=by
 obtain⟨wb1,wb2,wb3⟩:=hA.wbc
 have hWs:=hW.size
 have hwW:W.heap[wb]? =some (worldO lv nsv knv vsv kvv hsv khv):=(hW.block wb wb2).trans hA.blk
 have hlt:∀k,l.ownBlock=some k→w.heap.size≤k∧k<W.heap.size:=fun k e=>⟨own_ge hl e,ownLt hl e⟩
 have hvt:∀k,v.ownBlock=some k→w.heap.size≤k∧k<W.heap.size:=fun k e=>⟨own_ge hv e,ownLt hv e⟩
 have hlv:∀k,l.ownBlock=some k→v.ownBlock≠some k:=fun k e1 e2=>by
  obtain⟨_,c1,t1⟩:=own_type hl e1
  obtain⟨_,c2,t2⟩:=own_type hv e2
  rw[t1] at t2;cases t2
 have bN:BookN W (Cl B w.heap.size own 1) nsv knv rows marks:=hA.bkn.kept (fun k _ hk=>hW.block k hk) (fun k h _=>h)
 refine(numbers_any hwW bN (fun h=>by have:=h.2.2;omega) hr1 spot l (own_less hl (Nat.zero_le _)) (by omega) (fun k e h=>by have:=(hlt k e).1;have:=h.2.1;omega)).mono ?_
 rintro e w1 ⟨rfl,nsv',knv',rows',marks',hw1,bN1,hl1,hd1⟩
 refine⟨rfl,?_⟩
 have hs1:=hd1.size
 have keep1:∀k,k<W.heap.size→k≠wb→¬Cl B w.heap.size own 1 k→l.ownBlock≠some k→w1.heap[k]? =W.heap[k]? :=fun k hk h1 h2 h3=>hd1.only k hk (by rintro(h|h|h);exact h1 h;exact h2 h;exact h3 h)
 have old1:∀k,k<w.heap.size→k≠wb→own k≠1→w1.heap[k]? =w.heap[k]? :=fun k hk h1 h2=>(keep1 k (by omega) h1 (fun h=>h2 h.2.2) (fun e=>by have:=(hlt k e).1;omega)).trans (hW.block k hk)
 have bV:BookV w1 (Cl B w.heap.size own 2) vsv kvv vrows vmarks:=hA.bkv.kept (fun k h hk=>old1 k hk (by rintro rfl;have:=h.2.2;omega) (by have:=h.2.2;omega)) (fun k h _=>h)
 have hv1:w1.ownsRow w.heap.size 94 3 v vals.length (valsC vals):=rowKept hv (fun k _ ek ho=>(keep1 k (hvt k ek).2 (by have:=(hvt k ek).1;omega) (fun h=>by have:=(hvt k ek).1;have:=h.2.1;omega) (fun e=>hlv k e ek)).trans ho)
 refine(values_any hw1 bV (fun h=>by have:=h.2.2;omega) hr2 vals v (own_less hv1 (Nat.zero_le _)) (by omega) (fun k e h=>by have:=(hvt k e).1;have:=h.2.1;omega)).mono ?_
 rintro e w2 ⟨rfl,vsv',kvv',vrows',vmarks',hw2,bV2,hl2,hd2⟩
 have hs2:=hd2.size
 have keep2:∀k,k<w1.heap.size→k≠wb→¬Cl B w.heap.size own 2 k→v.ownBlock≠some k→w2.heap[k]? =w1.heap[k]? :=fun k hk h1 h2 h3=>hd2.only k hk (by rintro(h|h|h);exact h1 h;exact h2 h;exact h3 h)
 have old2:∀k,k<w.heap.size→k≠wb→own k≠1→own k≠2→w2.heap[k]? =w.heap[k]? :=fun k hk h1 h2 h3=>(keep2 k (by omega) h1 (fun h=>h3 h.2.2) (fun e=>by have:=(hvt k e).1;omega)).trans (old1 k hk h1 h2)
 refine⟨rfl,?_,?_⟩
 ·refine⟨hd2.below.os.trans (hd1.below.os.trans hW.os),hd2.below.tape.trans (hd1.below.tape.trans hW.tape),hd2.below.output.trans (hd1.below.output.trans hW.output),by omega,fun k hk=>?_⟩
  refine(hd2.only k (by omega) ?_).trans ((hd1.only k (by omega) ?_).trans (hW.block k (by omega)))
  ·rintro(h|h|h)
   ·omega
   ·have:=h.1;omega
   ·have:=(hvt k h).1;omega
  ·rintro(h|h|h)
   ·omega
   ·have:=h.1;omega
   ·have:=(hlt k h).1;omega
 obtain⟨own',ho1,ho2,ho3,ho4,ho5⟩:∃own':Nat→Nat,(∀k,k<w.heap.size→own' k=own k)∧(∀k,l.ownBlock=some k→own' k=1)∧(∀k,v.ownBlock=some k→own' k=2)∧(∀k,W.heap.size≤k→k<w1.heap.size→own' k=1)∧(∀k,w1.heap.size≤k→own' k=2):=by
  refine⟨fun k=>if k<w.heap.size then own k else if l.ownBlock=some k then 1 else if v.ownBlock=some k then 2 else if k<W.heap.size then 0 else if k<w1.heap.size then 1 else 2,fun k hk=>?_,fun k e=>?_,fun k e=>?_,fun k h1 h2=>?_,fun k h1=>?_⟩
  ·simp[hk]
  ·have:=hlt k e
   simp[e,show ¬k<w.heap.size by omega]
  ·have:=hvt k e
   have h3:l.ownBlock≠some k:=fun e1=>hlv k e1 e
   simp[e,h3,show ¬k<w.heap.size by omega]
  ·have h3:l.ownBlock≠some k:=fun e1=>by have:=hlt k e1;omega
   have h4:v.ownBlock≠some k:=fun e1=>by have:=hvt k e1;omega
   simp[h3,h4,show ¬k<w.heap.size by omega,show ¬k<W.heap.size by omega,h2]
  ·have h3:l.ownBlock≠some k:=fun e1=>by have:=hlt k e1;omega
   have h4:v.ownBlock≠some k:=fun e1=>by have:=hvt k e1;omega
   simp[h3,h4,show ¬k<w.heap.size by omega,show ¬k<W.heap.size by omega,show ¬k<w1.heap.size by omega]
 have hN:w.heap.size≤w2.heap.size:=by omega
 refine⟨own',nsv',knv',vsv',kvv',rows',marks',vrows',vmarks',⟨hw2,hA.wbc.mono hN ho1,rowKept hA.prs (fun k _ ek ho=>?_),fun k e=>(hA.prc k e).mono hN ho1,?_,?_,hA.bkh.kept (fun k h hk=>old2 k hk (by rintro rfl;have:=h.2.2;omega) (by have:=h.2.2;omega) (by have:=h.2.2;omega)) (fun k h _=>h.mono hN ho1),fun i hi=>?_⟩,hl1,hl2⟩
 ·obtain⟨_,c,t⟩:=own_type hA.prs ek
  have hc:=hA.prc k ek
  exact(old2 k hc.2.1 (by rintro rfl;rw[hA.blk] at t;cases t) (by have:=hc.2.2;omega) (by have:=hc.2.2;omega)).trans ho
 ·refine bN1.kept (fun k h hk=>?_) (fun k h hk=>?_)
  ·rcases h with h|h|h
   ·exact keep2 k hk (by rintro rfl;have:=h.2.2;omega) (fun h'=>by have:=h.2.2;have:=h'.2.2;omega) (fun e=>by have:=(hvt k e).1;have:=h.2.1;omega)
   ·have:=hlt k h
    exact keep2 k hk (by omega) (fun h'=>by have:=h'.2.1;omega) (hlv k h)
   ·exact keep2 k hk (by omega) (fun h'=>by have:=h'.2.1;omega) (fun e=>by have:=(hvt k e).2;omega)
  ·rcases h with h|h|h
   ·exact h.mono hN ho1
   ·have:=hlt k h;exact⟨by omega,by omega,ho2 k h⟩
   ·exact⟨by omega,by omega,ho4 k h hk⟩
 ·refine bV2.kept (fun k h hk=>rfl) (fun k h hk=>?_)
  rcases h with h|h|h
  ·exact h.mono hN ho1
  ·have:=hvt k h;exact⟨by omega,by omega,ho3 k h⟩
  ·exact⟨by omega,by omega,ho5 k h⟩
 ·obtain⟨h1,h2,h3⟩:=hA.sts i hi
  refine⟨h1.kept (fun k h hk=>old2 k hk (by rintro rfl;have:=h.2.2;omega) (by have:=h.2.2;omega) (by have:=h.2.2;omega)) (fun k h _=>h.mono hN ho1),h2.kept' (fun k h hk=>old2 k hk (by rintro rfl;have:=h.2.2;omega) (by have:=h.2.2;omega) (by have:=h.2.2;omega)) (fun k h _=>h.mono hN ho1),h3⟩
theorem ref_rng {ts:List Doc.Thg}{th:Has}{fs:List Doc.Fld}{space:Int}{F:Nat→Prop}{xb:Nat}(hp:ProgSt w F xb fs space th)(hth:th=hasOf ts)(hu:Uniq ts):ts.length≤4096∧∀t∈ts,t.spot.length≤4∧t.vals.length≤4:=by
 obtain⟨_,_,_,_,_,h⟩:=hp
 subst hth
 have hr:∀t∈ts,(0≤t.id∧t.id≤4095)∧t.spot.length≤4∧t.vals.length≤4:=fun t ht=>by
  obtain⟨a,b,c,d,_⟩:=h.shf.rng t.id _ (has_mem hu ht)
  exact⟨⟨a,b⟩,c,d⟩
 exact⟨uniq_len hu (fun t ht=>(hr t ht).1),fun t ht=>(hr t ht).2⟩
theorem got_len {th:Has}{fs:List Doc.Fld}{space:Int}{F:Nat→Prop}{xb:Nat}(hp:ProgSt w F xb fs space th)(id:Int):(gotS (th id)).length≤1000∧(gotV (th id)).length≤1000:=by
 obtain⟨_,_,_,_,_,h⟩:=hp
 cases ht:th id with
 |none=>exact⟨by simp[gotS],by simp[gotV]⟩
 |some t=>
  obtain⟨_,_,c,d,_⟩:=h.shf.rng id t ht
  exact⟨by show t.1.length≤1000;omega,by show t.2.length≤1000;omega⟩
theorem gets_any (hB:B≤w.heap.size)(hA:LawAt B w own wb ps lv nsv knv vsv kvv hsv khv rows marks vrows vmarks hrows hmarks)(hr1:rows.length≤1000000000)(hr2:vrows.length≤1000000000)(i:Nat)(hi:i<ps.length)(id:Int)(h0: -9223372036854775808≤id)(h1:id≤9223372036854775807):
  Calls Tryz.prog 58 #[.pointer (some ⟨wb,0,none⟩),.agg #[.pointer (some ⟨ps[i].xb,0,none⟩),.pointer (some ⟨ps[i].yb,0,none⟩)],.int .i64 id] w fun e w'=>e=.returned (.bool true)∧Below B w w'∧∃own' nsv' knv' vsv' kvv' rows' marks' vrows' vmarks',LawAt B w' own' wb ps lv nsv' knv' vsv' kvv' hsv khv rows' marks' vrows' vmarks' hrows hmarks∧rows'.length=rows.length+4∧vrows'.length=vrows.length+4:=by
 obtain⟨s1,s2,s3⟩:=hA.sts i hi
 obtain⟨hl1,_⟩:=ref_rng s1 rfl s3
 obtain⟨g1,g2⟩:=got_len s1 id
 refine(gets_walk (wb:=wb) ps[i].xb ps[i].yb id (gotS (hasOf ps[i].ts id)) (gotV (hasOf ps[i].ts id)) (gotE (hasOf ps[i].ts id)) g1 g2 (fun W hW=>pget_any (s1.kept (fun k _ hk=>hW.block k hk) (fun k h _=>h)) id h0 h1) (fun W hW=>rget_any (s2.kept' (fun k _ hk=>hW.block k hk) (fun k h _=>h)) (by omega) id)
  (fun _ w2=>Below B w w2∧∃own' nsv' knv' vsv' kvv' rows' marks' vrows' vmarks',LawAt B w2 own' wb ps lv nsv' knv' vsv' kvv' hsv khv rows' marks' vrows' vmarks' hrows hmarks∧rows'.length=rows.length+4∧vrows'.length=vrows.length+4) (fun W l v hW hl hv=>gets_book hB hA hr1 hr2 _ _ g1 g2 W l v hW hl hv)).mono ?_
 rintro e w' ⟨rfl,W,_,hR⟩
 exact⟨rfl,hR⟩
end
def PTurn (fs:List Doc.Fld)(space:Int)(xb:Nat)(th':Has)(E:Int)(W:World)(F:Nat→Prop)(e:Ending)(w':World):Prop:=e=.returned (.int .i64 E)∧ProgSt w' (fun k=>F k∨W.heap.size≤k) xb fs space th'∧Md F W w'
def RTurn (fs:List Doc.Fld)(space:Int)(yb:Nat)(ts':List Doc.Thg)(E:Int)(W:World)(F:Nat→Prop)(e:Ending)(w':World):Prop:=e=.returned (.int .i64 E)∧RefSt w' (fun k=>F k∨W.heap.size≤k) yb fs space ts'∧Md F W w'
theorem pturn_below {fs:List Doc.Fld}{space:Int}{xb:Nat}{th:Has}{E:Int}{W w':World}{F:Nat→Prop}(h:ProgSt W F xb fs space th)(hb:Below W.heap.size W w'):PTurn fs space xb th E W F (.returned (.int .i64 E)) w':=
 ⟨rfl,h.kept (fun k _ hk=>hb.block k hk) (fun _ hk _=>.inl hk),Md.ofBelow hb⟩
theorem rturn_below {fs:List Doc.Fld}{space:Int}{yb:Nat}{ts:List Doc.Thg}{E:Int}{W w':World}{F:Nat→Prop}(h:RefSt W F yb fs space ts)(hb:Below W.heap.size W w'):RTurn fs space yb ts E W F (.returned (.int .i64 E)) w':=
 ⟨rfl,h.kept' (fun k _ hk=>hb.block k hk) (fun _ hk _=>.inl hk),Md.ofBelow hb⟩
theorem put_both {w:World}{F0:Nat→Prop}{xb0:Nat}(fs:List Doc.Fld)(space id:Int)(ts:List Doc.Thg)(hu:Uniq ts)(hP:ProgSt w F0 xb0 fs space (hasOf ts))(spot:List Int)(vals:List Doc.Val)(hsl:spot.length≤9223372036854775807):
  ∃(E:Int) (ts':List Doc.Thg),Uniq ts'∧
   (∀(W:World) (F:Nat→Prop) (xb:Nat) (sv vv:Value),ProgSt W F xb fs space (hasOf ts)→Sl W sv spot.length (intC spot)→Sl W vv vals.length (valsC vals)→Calls Tryz.prog 28 #[.pointer (some ⟨xb,0,none⟩),.int .i64 id,sv,vv] W (PTurn fs space xb (hasOf ts') E W F))∧
   (∀(W:World) (F:Nat→Prop) (yb:Nat) (sv vv:Value),RefSt W F yb fs space ts→Sl W sv spot.length (intC spot)→Sl W vv vals.length (valsC vals)→Calls Tryz.prog 93 #[.pointer (some ⟨yb,0,none⟩),.int .i64 id,sv,vv] W (RTurn fs space yb ts' E W F)):=by
 obtain⟨hlen,_⟩:=ref_rng hP rfl hu
 obtain⟨_,_,_,_,_,h0⟩:=hP
 have hfl:=h0.len
 have hsp:=h0.spc
 have hkd:=h0.kind
 by_cases ha:Doc.putArg fs space id spot vals
 ·refine⟨1,ts,hu,fun W F xb sv vv hp hs hv=>?_,fun W F yb sv vv hr hs hv=>?_⟩
  ·have hp':=hp
   obtain⟨fv,hb,mt,mh,pos,h⟩:=hp
   obtain⟨c0,c1,c2⟩:=h.cells
   refine(pput_bad id 1 (by decide) sv vv ((cput_arg xb fs space id fv sv vv c0 c1 (rowSl h.fld) spot vals hs hv hsl ha).mono ?_)).mono ?_
   ·rintro e w' ⟨rfl,rfl⟩;exact⟨rfl,Below.refl _ _⟩
   ·rintro e w' ⟨rfl,hb'⟩;exact pturn_below hp' hb'
  ·have hr':=hr
   obtain⟨fv,tv,ps,h⟩:=hr
   refine(rput_arg h id spot vals sv vv hs hv hsl ha).mono ?_
   rintro e w' ⟨rfl,rfl⟩
   exact rturn_below hr' (Below.refl _ _)
 ·have hk:0≤id∧id≤4095∧Doc.spotB space spot=true∧vals.length=fs.length:=by
   unfold Doc.putArg at ha
   by_cases a1:id<0
   ·exact absurd (.inl a1) ha
   by_cases a2:4095<id
   ·exact absurd (.inr (.inl ⟨by omega,a2⟩)) ha
   cases a3:Doc.spotB space spot with
   |false=>exact absurd (.inr (.inr (.inl ⟨by omega,by omega,a3⟩))) ha
   |true=>
    by_cases a4:vals.length=fs.length
    ·exact⟨by omega,by omega,rfl,a4⟩
    ·exact absurd (.inr (.inr (.inr ⟨by omega,by omega,a3,a4⟩))) ha
  obtain⟨k1,k2,k3,k4⟩:=hk
  have hl:=spot_len k3
  by_cases hg:∀j (h1:j<vals.length) (h2:j<fs.length),Doc.goodV vals[j] fs[j].kind=true
  ·refine⟨0,Doc.putT ts ⟨id,spot,vals⟩,uniq_put hu _,fun W F xb sv vv hp hs hv=>?_,fun W F yb sv vv hr hs hv=>?_⟩
   ·obtain⟨fv,hb,mt,mh,pos,h⟩:=hp
    rw[has_put hu]
    exact pput_ok h id sv vv spot vals hs hv k1 k2 k3 k4 hg
   ·obtain⟨fv,tv,ps,h⟩:=hr
    refine(rput_any h (by omega) id spot vals sv vv hs hv (by omega) (by omega) (by omega) (by omega) k1 k2 k3 k4).mono ?_
    rintro e w' (⟨_,_,j,h1,h2,hbad⟩|⟨rfl,_,hr',hd⟩)
    ·rw[hg j h1 h2] at hbad;cases hbad
    ·exact⟨rfl,hr',hd⟩
  ·have hbad:∃j,∃(h1:j<vals.length) (h2:j<fs.length),Doc.goodV vals[j] fs[j].kind=false:=by
    apply Classical.byContradiction
    intro hc
    exact hg (fun j h1 h2=>by
     cases hx:Doc.goodV vals[j] fs[j].kind with
     |true=>rfl
     |false=>exact absurd ⟨j,h1,h2,hx⟩ hc)
   refine⟨3,ts,hu,fun W F xb sv vv hp hs hv=>?_,fun W F yb sv vv hr hs hv=>?_⟩
   ·have hp':=hp
    obtain⟨fv,hb,mt,mh,pos,h⟩:=hp
    obtain⟨c0,c1,c2⟩:=h.cells
    refine(pput_bad id 3 (by decide) sv vv ((cput_any xb h.lt fs hkd space id fv sv vv c0 c1 (rowSl h.fld) spot vals hs hv hsl (by omega) (by omega) k1 k2 k3 k4).mono ?_)).mono ?_
    ·rintro e w' ⟨hb',⟨rfl,_⟩|⟨_,hall⟩⟩
     ·exact⟨rfl,hb'⟩
     ·exact absurd hall hg
    ·rintro e w' ⟨rfl,hb'⟩;exact pturn_below hp' hb'
   ·have hr':=hr
    obtain⟨fv,tv,ps,h⟩:=hr
    refine(rput_any h (by omega) id spot vals sv vv hs hv (by omega) (by omega) (by omega) (by omega) k1 k2 k3 k4).mono ?_
    rintro e w' (⟨rfl,hb',_⟩|⟨_,hall,_⟩)
    ·exact rturn_below hr' hb'
    ·exact absurd hall hg
theorem drop_both {w:World}{F0:Nat→Prop}{xb0:Nat}(fs:List Doc.Fld)(space id:Int)(h0: -9223372036854775808≤id)(h1:id≤9223372036854775807)(ts:List Doc.Thg)(hu:Uniq ts)(hP:ProgSt w F0 xb0 fs space (hasOf ts)):
  ∃(E:Int) (ts':List Doc.Thg),Uniq ts'∧
   (∀(W:World) (F:Nat→Prop) (xb:Nat),ProgSt W F xb fs space (hasOf ts)→Calls Tryz.prog 22 #[.pointer (some ⟨xb,0,none⟩),.int .i64 id] W (PTurn fs space xb (hasOf ts') E W F))∧
   (∀(W:World) (F:Nat→Prop) (yb:Nat),RefSt W F yb fs space ts→Calls Tryz.prog 57 #[.pointer (some ⟨yb,0,none⟩),.int .i64 id] W (RTurn fs space yb ts' E W F)):=by
 obtain⟨hlen,_⟩:=ref_rng hP rfl hu
 cases hn:Doc.idxT ts id with
 |none=>
  have hh:=has_none hn
  refine⟨4,ts,hu,fun W F xb hp=>?_,fun W F yb hr=>?_⟩
  ·have hp':=hp
   obtain⟨fv,hb,mt,mh,pos,h⟩:=hp
   refine(pdrop_none h id h0 h1 hh).mono ?_
   rintro e w' ⟨rfl,hb'⟩;exact pturn_below hp' hb'
  ·have hr':=hr
   obtain⟨fv,tv,ps,h⟩:=hr
   refine(rdrop_none h (by omega) id hn).mono ?_
   rintro e w' ⟨rfl,rfl⟩;exact rturn_below hr' (Below.refl _ _)
 |some k=>
  obtain⟨hk,_,hh⟩:=has_some hn
  refine⟨0,ts.eraseIdx k,uniq_drop hu k,fun W F xb hp=>?_,fun W F yb hr=>?_⟩
  ·obtain⟨fv,hb,mt,mh,pos,h⟩:=hp
   rw[has_drop hu hn]
   refine(pdrop_some h id _ hh).mono ?_
   rintro e w' ⟨rfl,h',hd⟩
   exact⟨rfl,⟨fv,hb,mt,mh,pos,h'.kept (fun _ _ _=>rfl) (fun k hk _=>.inl hk)⟩,hd⟩
  ·obtain⟨fv,tv,ps,h⟩:=hr
   exact rdrop_some h (by omega) id k hn
end Go.Proofs.YtbnelaoeblhndaaGreatDoor
