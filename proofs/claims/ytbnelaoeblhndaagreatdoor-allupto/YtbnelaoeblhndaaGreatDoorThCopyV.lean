import Derived.Test.YtbnelaoeblhndaaGreatDoorThN5
import Derived.Laws.CopyRow
import Derived.Laws.MakeOwn
namespace Go.Proofs.YtbnelaoeblhndaaGreatDoor
open Go.RowKit
set_option maxRecDepth 100000
theorem run_copy_wide {P:Program}(w:World)(dT sT ty elem:TypeId)(g dLen dCap:Nat)(a:Addr)(sLen sCap:Nat)(cur:Array Value)(t:TypeId)(cs:List Value)(sz n:Nat)
  (hu:P.underlying dT=some (.slice elem)) (hs:(P.info? elem).map (·.size)=some sz)
  (hg:w.heap[g]? =some (.cells cur t (0,0))) (hmin:Nat.min sLen dLen=n) (hn:cs.length=n*sz)
  (hsrc:∀j v,cs[j]? =some v→w.cell? (a.add j)=some v) (hfit:cs.length≤cur.size) (h1:∀v∈cs,v.oneCell'=true):
  (Builtin.copy_ #[dT,sT] ty #[.slice (some ⟨g,0,none⟩) dLen dCap,.slice (some a) sLen sCap]).run P w=
    .ok (goInt n) (w.setRow g (cs++cur.toList.drop cs.length).toArray):=by
 have hl:=run_loadCells_list (P:=P) w a cs hsrc
 have hst:=run_storeCells_at P g 0 t cs 0 cur w hg (by simpa using hfit) h1
 cases hq:P.info? elem with
 |none=>simp[hq] at hs
 |some i=>
  have hi:i.size=sz:=by simpa[hq] using hs
  simp[Builtin.copy_,run_underlying hu,Builtin.lenOf,Builtin.firstCells,sizeOf,typeInfo,hq,hi,hmin,←hn,hl,hst]
theorem setRow_blk {w:World}{g:Nat}{cur:Array Value}{T:TypeId}{fr:Nat×Nat}(h:w.heap[g]? =some (.cells cur T fr))(cs:Array Value):(w.setRow g cs).heap[g]? =some (.cells cs T fr):=by
 simp[World.setRow,Array.getElem?_modify,h]
theorem setRow_other {w:World}{g j:Nat}(hj:j≠g)(cs:Array Value):(w.setRow g cs).heap[j]? =w.heap[j]? :=by
 simp[World.setRow,Array.getElem?_modify,Ne.symm hj]
theorem below_setRow {w a:World}{B g:Nat}(h:Below B a w)(hg:B≤g)(cs:Array Value):Below B a (w.setRow g cs):=
 ⟨h.os,h.tape,h.output,by simpa[World.setRow] using h.size,fun k hk=>(setRow_other (by omega) cs).trans (h.block k hk)⟩
section
variable {w:World}
theorem intC_one' (l:List Int):∀u∈intC l,u.oneCell'=true:=by
 intro u hu
 obtain⟨x,_,rfl⟩:=List.mem_map.1 hu
 rfl
structure Lent (w:World)(T:TypeId)(cs:List Value)(n:Nat)(tail:List Value)(e:Ending)(w':World):Prop where
 has:∃sv,e=.returned (.tuple #[.slice (some ⟨w.heap.size,0,none⟩) (n+2) (n+2),sv])∧w'.heap[w.heap.size]? =some (.cells (cs++tail).toArray T (0,0))∧((sv=.slice none 0 0∧n=0)∨sv=.slice (some ⟨w.heap.size,0,none⟩) n (n+2))∧Below w.heap.size w w'
theorem made_int (n:Nat):(madeCells (Value.int .i64 0).cells n).toList=List.replicate n (.int .i64 0):=by
 apply List.ext_getElem
 ·simp[madeCells]
 ·intro i h1 h2
  simp[madeCells,Value.cells,Nat.mod_one]
theorem run_sl_nil (a:Addr)(n c:Nat)(w:World):Sem.run Tryz.prog (binOp BinOp.eql 33 (.slice (some a) n c) (.slice none 0 0)) w=.ok (.bool false) w:=by rfl
theorem run_nil_sl (w:World):Sem.run Tryz.prog (binOp BinOp.eql 33 (.slice none 0 0) (.slice none 0 0)) w=.ok (.bool true) w:=by rfl
theorem lent_end {wc:World}{g n:Nat}{cs:List Value}{T:TypeId}{u v z0 z1:Value}(h:wc.heap[g]? =some (.cells (cs++[z0,z1]).toArray T (0,0)))(hn:cs.length=n):
  ((wc.setCell ⟨g,n,none⟩ u).setCell ⟨g,n+1,none⟩ v).heap[g]? =some (.cells (cs++[u,v]).toArray T (0,0)):=by
 have:=set_blk' (set_blk' h n u) (n+1) v
 rw[this]
 subst hn
 congr 2
 apply Array.ext'
 simp
set_option maxHeartbeats 2000000 in
theorem lent_core (l:List Int)(hl:l.length≤1000000000000)(a:Addr)(cap:Nat)(hsrc:∀j u,(intC l)[j]? =some u→w.cell? (a.add j)=some u)(hab:l≠[]→a.block<w.heap.size):
  Calls Tryz.prog 91 #[.slice (some a) l.length cap] w (Lent w 3 (intC l) l.length [.int .i64 77,.int .i64 78]):=by
 obtain⟨i0,hi,hz0,hz1,hz2⟩:=info_parts Tryz.infoIntT
 have hmk:(Instr.makeSlice 33 (.int .i64 ((l.length:Int)+2)) (.int .i64 ((l.length:Int)+2))).run Tryz.prog w=.ok (.slice (some ⟨w.heap.size,0,none⟩) (l.length+2) (l.length+2)) (w.alloc (.cells (madeCells #[Value.int .i64 0] (l.length+2)) 3)):=by
  have:=run_make (P:=Tryz.prog) w 33 3 i0 _ Tryz.underlying33 hi hz0 .i64 .i64 ((l.length:Int)+2) ((l.length:Int)+2) (by omega) (Int.le_refl _) (by rw[hz2];omega) (by omega)
  rw[hz1,Nat.mul_one,show((l.length:Int)+2).toNat=l.length+2 by omega] at this
  exact this
 have hblk0:=heap_alloc_new w (.cells (madeCells #[Value.int .i64 0] (l.length+2)) 3)
 obtain⟨wa,hwa⟩:∃wa,wa=w.alloc (.cells (madeCells #[Value.int .i64 0] (l.length+2)) 3):=⟨_,rfl⟩
 have hba:Below w.heap.size w wa:=by rw[hwa];exact(Below.refl _ _).alloc (Nat.le_refl _) _
 rw[←hwa] at hmk hblk0
 have hcp:∃wc,(Builtin.copy_ #[33,33] 3 #[.slice (some ⟨w.heap.size,0,none⟩) (l.length+2) (l.length+2),.slice (some a) l.length cap]).run Tryz.prog wa=.ok (.int .i64 l.length) wc∧
   wc.heap[w.heap.size]? =some (.cells (intC l++[Value.int .i64 0,Value.int .i64 0]).toArray 3 (0,0))∧Below w.heap.size w wc:=by
  have:=run_copy_wide (P:=Tryz.prog) wa 33 33 3 3 w.heap.size (l.length+2) (l.length+2) a l.length cap (madeCells #[Value.int .i64 0] (l.length+2)) 3 (intC l) 1 l.length Tryz.underlying33 (by rw[hi];simp[hz1]) hblk0 (by simp) (by simp[intC]) (fun j u hj=>by
   have hb:=hab (by rintro rfl;simp[intC] at hj)
   refine(hba.cell (p:=a.add j) ?_).trans (hsrc j u hj)
   cases j<;>simpa[Addr.add] using hb) (by simp[intC,madeCells]) (intC_one' l)
  rw[show(madeCells #[Value.int .i64 0] (l.length+2)).toList=List.replicate (l.length+2) (.int .i64 0) from made_int _] at this
  refine⟨_,this,?_,below_setRow hba (Nat.le_refl _) _⟩
  rw[setRow_blk hblk0]
  simp[intC]
 obtain⟨wc,hcp,hblk,hbc⟩:=hcp
 have c1:wc.cell? ⟨w.heap.size,l.length,none⟩=some (.int .i64 0):=blk_cell hblk _ _ (by simp[intC])
 have c2:wc.cell? ⟨w.heap.size,l.length+1,none⟩=some (.int .i64 0):=blk_cell hblk _ _ (by simp[intC])
 have f1:=blk_free hblk l.length
 have f2:=blk_free hblk (l.length+1)
 have hfin:=lent_end (u:=.int .i64 77) (v:=.int .i64 78) hblk (n:=l.length) (by simp[intC])
 have hbf:Below w.heap.size w ((wc.setCell ⟨w.heap.size,l.length,none⟩ (.int .i64 77)).setCell ⟨w.heap.size,l.length+1,none⟩ (.int .i64 78)):=(hbc.setCell (p:=⟨w.heap.size,l.length,none⟩) (Nat.le_refl _) _).setCell (p:=⟨w.heap.size,l.length+1,none⟩) (Nat.le_refl _) _
 have HF:Hid _:=hfin
 have HBF:Hid _:=hbf
 have hnil:=run_sl_nil
 clear hsrc hblk hblk0 hwa hba hfin hbf hbc
 go_enter Tryz.func91,Tryz.ntmps91
 go_wp2_with fail
 go_region
 all_goals
  go_wp2_with fail
  go_ret2
  exact⟨_,rfl,HF.out,.inr rfl,HBF.out.drew⟩
set_option maxHeartbeats 2000000 in
theorem lent_nil:
  Calls Tryz.prog 91 #[.slice none 0 0] w (Lent w 3 [] 0 [.int .i64 77,.int .i64 78]):=by
 obtain⟨i0,hi,hz0,hz1,hz2⟩:=info_parts Tryz.infoIntT
 have hmk:(Instr.makeSlice 33 (.int .i64 2) (.int .i64 2)).run Tryz.prog w=.ok (.slice (some ⟨w.heap.size,0,none⟩) 2 2) (w.alloc (.cells #[.int .i64 0,.int .i64 0] 3)):=by
  have:=run_make (P:=Tryz.prog) w 33 3 i0 _ Tryz.underlying33 hi hz0 .i64 .i64 2 2 (by omega) (Int.le_refl _) (by rw[hz2];omega) (by omega)
  rw[hz1,show madeCells (Value.int .i64 0).cells (Int.toNat 2*1)= #[.int .i64 0,.int .i64 0] from Array.ext' (made_int 2)] at this
  exact this
 have hcp:=run_copy_nil (P:=Tryz.prog) (w.alloc (.cells #[.int .i64 0,.int .i64 0] 3)) 33 33 3 3 ⟨w.heap.size,0,none⟩ 2 2 Tryz.underlying33 (by rw[hi];rfl)
 have hnil:=run_nil_sl
 go_enter Tryz.func91,Tryz.ntmps91
 go_wp2_with fail
 go_ret2
 exact⟨_,rfl,heap_alloc_new _ _,.inl ⟨rfl,rfl⟩,(Below.refl _ _).alloc (Nat.le_refl _) _⟩
end
theorem made_drop3 (z0 z1 z2:Value)(n:Nat):(madeCells #[z0,z1,z2] ((n+2)*3)).toList.drop (n*3)=[z0,z1,z2,z0,z1,z2]:=by
 apply List.ext_getElem
 ·simp[madeCells];omega
 ·intro i h1 h2
  have h2':i<6:=by simpa using h2
  have hm:(n*3+i) % 3=i % 3:=by omega
  simp only[List.getElem_drop,madeCells,Array.getElem_toList,Array.getElem_map,Array.getElem_range]
  have hs:#[z0,z1,z2].size=3:=rfl
  rw[hs,hm]
  match i,h2' with
  |0,_=>rfl
  |1,_=>rfl
  |2,_=>rfl
  |3,_=>rfl
  |4,_=>rfl
  |5,_=>rfl
theorem run_slv_nil (a:Addr)(n c:Nat)(w:World):Sem.run Tryz.prog (binOp BinOp.eql 55 (.slice (some a) n c) (.slice none 0 0)) w=.ok (.bool false) w:=by rfl
theorem run_nil_slv (w:World):Sem.run Tryz.prog (binOp BinOp.eql 55 (.slice none 0 0) (.slice none 0 0)) w=.ok (.bool true) w:=by rfl
def zV (k:Int):List Value:=[.int .i64 k,.int .i64 0,.string ⟨#[]⟩]
theorem lent_end6 {wc:World}{g n:Nat}{cs:List Value}{T:TypeId}{u0 u1 u2 v0 v1 v2 z0 z1 z2 z3 z4 z5:Value}(h:wc.heap[g]? =some (.cells (cs++[z0,z1,z2,z3,z4,z5]).toArray T (0,0)))(hn:cs.length=n*3):
  ((((((wc.setCell ⟨g,n*3,none⟩ u0).setCell ⟨g,n*3+1,none⟩ u1).setCell ⟨g,n*3+2,none⟩ u2).setCell ⟨g,(n+1)*3,none⟩ v0).setCell ⟨g,(n+1)*3+1,none⟩ v1).setCell ⟨g,(n+1)*3+2,none⟩ v2).heap[g]? =some (.cells (cs++[u0,u1,u2,v0,v1,v2]).toArray T (0,0)):=by
 have e3:(n+1)*3=n*3+3:=by omega
 have e:((((((cs++[z0,z1,z2,z3,z4,z5]).set (n*3) u0).set (n*3+1) u1).set (n*3+2) u2).set ((n+1)*3) v0).set ((n+1)*3+1) v1).set ((n+1)*3+2) v2=cs++[u0,u1,u2,v0,v1,v2]:=by
  rw[e3,←hn,List.set_append_right _ _ (Nat.le_refl _),List.set_append_right _ _ (by omega),List.set_append_right _ _ (by omega),List.set_append_right _ _ (by omega),List.set_append_right _ _ (by omega),List.set_append_right _ _ (by omega)]
  rw[Nat.sub_self,Nat.add_sub_cancel_left,Nat.add_sub_cancel_left,Nat.add_sub_cancel_left,Nat.add_assoc,Nat.add_sub_cancel_left,Nat.add_assoc,Nat.add_sub_cancel_left]
  rfl
 have h6:=set_blk' (set_blk' (set_blk' (set_blk' (set_blk' (set_blk' h (n*3) u0) (n*3+1) u1) (n*3+2) u2) ((n+1)*3) v0) ((n+1)*3+1) v1) ((n+1)*3+2) v2
 simp only[List.setIfInBounds_toArray] at h6
 rw[e] at h6
 exact h6
theorem below6 {B g o0 o1 o2 o3 o4 o5:Nat}{w wc:World}(h:Below B w wc)(hg:B≤g)(u0 u1 u2 u3 u4 u5:Value):
  Below B w ((((((wc.setCell ⟨g,o0,none⟩ u0).setCell ⟨g,o1,none⟩ u1).setCell ⟨g,o2,none⟩ u2).setCell ⟨g,o3,none⟩ u3).setCell ⟨g,o4,none⟩ u4).setCell ⟨g,o5,none⟩ u5):=
 (((((h.setCell (p:=⟨g,o0,none⟩) hg u0).setCell (p:=⟨g,o1,none⟩) hg u1).setCell (p:=⟨g,o2,none⟩) hg u2).setCell (p:=⟨g,o3,none⟩) hg u3).setCell (p:=⟨g,o4,none⟩) hg u4).setCell (p:=⟨g,o5,none⟩) hg u5
theorem valsC_len (l:List Doc.Val):(valsC l).length=l.length*3:=by
 induction l with
 |nil=>rfl
 |cons a r ih=>unfold valsC at ih ⊢;rw[List.flatMap_cons,List.length_append,ih];simp[valC];omega
theorem valsC_one (l:List Doc.Val):∀u∈valsC l,u.oneCell'=true:=by
 intro u hu
 obtain⟨v,_,hv⟩:=List.mem_flatMap.1 hu
 simp only[valC,List.mem_cons,List.not_mem_nil,or_false] at hv
 rcases hv with rfl|rfl|rfl<;>rfl
section
variable {w:World}
theorem drew_blk {v:World}{g:Nat}{o:Obj}(h:v.heap[g]? =some o):v.drew.heap[g]? =some o:=h
set_option maxHeartbeats 2000000 in
theorem lentV_core (l:List Doc.Val)(hl:l.length≤1000000000)(a:Addr)(cap:Nat)(hsrc:∀j u,(valsC l)[j]? =some u→w.cell? (a.add j)=some u)(hab:l≠[]→a.block<w.heap.size):
  Calls Tryz.prog 92 #[.slice (some a) l.length cap] w (Lent w 94 (valsC l) l.length (zV 77++zV 78)):=by
 obtain⟨i0,hi,hz0,hz1,hz2⟩:=info_parts Tryz.infoValT
 have hmk:(Instr.makeSlice 55 (.int .i64 ((l.length:Int)+2)) (.int .i64 ((l.length:Int)+2))).run Tryz.prog w=.ok (.slice (some ⟨w.heap.size,0,none⟩) (l.length+2) (l.length+2)) (w.alloc (.cells (madeCells #[Value.int .i64 0,.int .i64 0,.string ⟨#[]⟩] ((l.length+2)*3)) 94)):=by
  have:=run_make (P:=Tryz.prog) w 55 94 i0 _ Tryz.underlying55 hi hz0 .i64 .i64 ((l.length:Int)+2) ((l.length:Int)+2) (by omega) (Int.le_refl _) (by rw[hz2];omega) (by omega)
  rw[hz1,show((l.length:Int)+2).toNat=l.length+2 by omega] at this
  exact this
 have hblk0:=heap_alloc_new w (.cells (madeCells #[Value.int .i64 0,.int .i64 0,.string ⟨#[]⟩] ((l.length+2)*3)) 94)
 obtain⟨wa,hwa⟩:∃wa,wa=w.alloc (.cells (madeCells #[Value.int .i64 0,.int .i64 0,.string ⟨#[]⟩] ((l.length+2)*3)) 94):=⟨_,rfl⟩
 have hba:Below w.heap.size w wa:=by rw[hwa];exact(Below.refl _ _).alloc (Nat.le_refl _) _
 rw[←hwa] at hmk hblk0
 have hcp:∃wc,(Builtin.copy_ #[55,55] 3 #[.slice (some ⟨w.heap.size,0,none⟩) (l.length+2) (l.length+2),.slice (some a) l.length cap]).run Tryz.prog wa=.ok (.int .i64 l.length) wc∧
   wc.heap[w.heap.size]? =some (.cells (valsC l++[Value.int .i64 0,.int .i64 0,.string ⟨#[]⟩,.int .i64 0,.int .i64 0,.string ⟨#[]⟩]).toArray 94 (0,0))∧Below w.heap.size w wc:=by
  have:=run_copy_wide (P:=Tryz.prog) wa 55 55 3 94 w.heap.size (l.length+2) (l.length+2) a l.length cap (madeCells #[Value.int .i64 0,.int .i64 0,.string ⟨#[]⟩] ((l.length+2)*3)) 94 (valsC l) 3 l.length Tryz.underlying55 (by rw[hi];simp[hz1]) hblk0 (by simp) (valsC_len l) (fun j u hj=>by
   have hb:=hab (by rintro rfl;simp[valsC] at hj)
   refine(hba.cell (p:=a.add j) ?_).trans (hsrc j u hj)
   cases j<;>simpa[Addr.add] using hb) (by rw[valsC_len];simp[madeCells];omega) (valsC_one l)
  refine⟨_,this,?_,below_setRow hba (Nat.le_refl _) _⟩
  rw[setRow_blk hblk0,valsC_len,made_drop3]
 obtain⟨wc,hcp,hblk,hbc⟩:=hcp
 have hcs:∀c (hc:c<6),wc.cell? ⟨w.heap.size,l.length*3+c,none⟩=some ([Value.int .i64 0,.int .i64 0,.string ⟨#[]⟩,.int .i64 0,.int .i64 0,.string ⟨#[]⟩][c]):=fun c hc=>blk_cell hblk _ _ (by
  rw[List.getElem?_toArray,List.getElem?_append_right (by rw[valsC_len];omega),valsC_len,Nat.add_sub_cancel_left,List.getElem?_eq_getElem hc])
 have e3:(l.length+1)*3=l.length*3+3:=by omega
 have c0:wc.cell? ⟨w.heap.size,l.length*3,none⟩=some (.int .i64 0):=hcs 0 (by omega)
 have c1:wc.cell? ⟨w.heap.size,l.length*3+1,none⟩=some (.int .i64 0):=hcs 1 (by omega)
 have c2:wc.cell? ⟨w.heap.size,l.length*3+2,none⟩=some (.string ⟨#[]⟩):=hcs 2 (by omega)
 have c3:wc.cell? ⟨w.heap.size,(l.length+1)*3,none⟩=some (.int .i64 0):=by rw[e3];exact hcs 3 (by omega)
 have c4:wc.cell? ⟨w.heap.size,(l.length+1)*3+1,none⟩=some (.int .i64 0):=by rw[e3];exact hcs 4 (by omega)
 have c5:wc.cell? ⟨w.heap.size,(l.length+1)*3+2,none⟩=some (.string ⟨#[]⟩):=by rw[e3];exact hcs 5 (by omega)
 have f0:=blk_free hblk (l.length*3)
 have f1:=blk_free hblk (l.length*3+1)
 have f2:=blk_free hblk (l.length*3+2)
 have f3:=blk_free hblk ((l.length+1)*3)
 have f4:=blk_free hblk ((l.length+1)*3+1)
 have f5:=blk_free hblk ((l.length+1)*3+2)
 have hfin:=lent_end6 (u0:=.int .i64 77) (u1:=.int .i64 0) (u2:=.string ⟨#[]⟩) (v0:=.int .i64 78) (v1:=.int .i64 0) (v2:=.string ⟨#[]⟩) hblk (n:=l.length) (valsC_len l)
 have HF:Hid _:=hfin
 have HBC:Hid _:=hbc
 have hnil:=run_slv_nil
 clear hsrc hblk hblk0 hwa hba hfin hbc hcs e3
 go_enter Tryz.func92,Tryz.ntmps92
 go_wp2_with fail
 first|go_region|fail "stands"
 all_goals
  go_wp2_with fail
  go_ret2
  refine⟨_,rfl,?_,.inr rfl,?_⟩
  ·rw[show zV 77++zV 78=[Value.int .i64 77,.int .i64 0,.string ⟨#[]⟩,.int .i64 78,.int .i64 0,.string ⟨#[]⟩] from rfl]
   exact drew_blk HF.out
  ·exact Below.drew (below6 HBC.out (Nat.le_refl _) _ _ _ _ _ _)
set_option maxHeartbeats 2000000 in
theorem lentV_nil:
  Calls Tryz.prog 92 #[.slice none 0 0] w (Lent w 94 [] 0 (zV 77++zV 78)):=by
 obtain⟨i0,hi,hz0,hz1,hz2⟩:=info_parts Tryz.infoValT
 have hmk:(Instr.makeSlice 55 (.int .i64 2) (.int .i64 2)).run Tryz.prog w=.ok (.slice (some ⟨w.heap.size,0,none⟩) 2 2) (w.alloc (.cells #[.int .i64 0,.int .i64 0,.string ⟨#[]⟩,.int .i64 0,.int .i64 0,.string ⟨#[]⟩] 94)):=by
  have:=run_make (P:=Tryz.prog) w 55 94 i0 _ Tryz.underlying55 hi hz0 .i64 .i64 2 2 (by omega) (Int.le_refl _) (by rw[hz2];omega) (by omega)
  rw[hz1,show madeCells (Value.agg #[Value.int .i64 0,.int .i64 0,.string ⟨#[]⟩]).cells (Int.toNat 2*3)= #[.int .i64 0,.int .i64 0,.string ⟨#[]⟩,.int .i64 0,.int .i64 0,.string ⟨#[]⟩] from Array.ext' (made_drop3 _ _ _ 0)] at this
  exact this
 have hcp:=run_copy_nil (P:=Tryz.prog) (w.alloc (.cells #[.int .i64 0,.int .i64 0,.string ⟨#[]⟩,.int .i64 0,.int .i64 0,.string ⟨#[]⟩] 94)) 55 55 3 94 ⟨w.heap.size,0,none⟩ 2 2 Tryz.underlying55 (by rw[hi];rfl)
 have hnil:=run_nil_slv
 go_enter Tryz.func92,Tryz.ntmps92
 go_wp2_with fail
 go_ret2
 exact⟨_,rfl,heap_alloc_new _ _,.inl ⟨rfl,rfl⟩,(Below.refl _ _).alloc (Nat.le_refl _) _⟩
end
end Go.Proofs.YtbnelaoeblhndaaGreatDoor
