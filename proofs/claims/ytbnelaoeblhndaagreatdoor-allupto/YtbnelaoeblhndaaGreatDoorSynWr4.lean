import Derived.Test.YtbnelaoeblhndaaGreatDoorSynChain
import Derived.Lib.Builder
import Derived.Lib.UnsafeStr
import Derived.Laws.AppendOwn
import Derived.Lib.AppendStr
import Derived.Lib.OthersKept
import Derived.Test.YtbnelaoeblhndaaGreatDoorShelf
import Derived.Lib.AppendIntMem
namespace Go.Proofs.YtbnelaoeblhndaaGreatDoor
open Go.RowKit
set_option maxRecDepth 100000
theorem Tryz.infoBuilder:(Tryz.prog.info? 126).map (·.size)=some 2:=by kernel_rfl
theorem Tryz.liesBuilder:liesAt Tryz.prog Tryz.prog.depth 128 (3 / Tryz.prog.cellsOf 128) 0 126 1=true:=by kernel_rfl
theorem Tryz.infoByte:(Tryz.prog.info? 5).map (fun i=>(i.zero,i.size,i.bytes))=some (some (.int .u8 0),1,1):=by kernel_rfl
def bytesC (l:List UInt8):List Value:=l.map fun b=>Value.int .u8 b.toNat
structure WSt (B:Nat)(w:World)(wb:Nat)(q:Option Addr)(v:Value)(l:List UInt8)(tight:Bool):Prop where
 blk:w.heap[wb]? =some (.cells #[.pointer q,v,.bool tight] 128 (0,0))
 row:w.ownsRow B 5 1 v l.length (bytesC l)
 base:B≤wb
 own:q=none∨q=some ⟨wb,0,none⟩
structure WM (B wb:Nat)(w w':World):Prop where
 below:Below B w w'
 kept:Lib.OthersKept 5 (some wb) w w'
theorem WM.refl (B wb:Nat)(w:World):WM B wb w w:=⟨Below.refl _ _,Lib.OthersKept.refl _ _ _⟩
theorem WM.trans {B wb:Nat}{a b c:World}(h:WM B wb a b)(k:WM B wb b c):WM B wb a c:=⟨h.below.trans k.below,h.kept.trans k.kept⟩
theorem WM.alloc {B wb:Nat}{a w:World}(h:WM B wb a w)(hB:B≤w.heap.size)(o:Obj):WM B wb a (w.alloc o):=⟨h.below.trans ((Below.refl _ _).alloc hB o),h.kept.alloc o⟩
section
variable {B:Nat}{w:World}{wb:Nat}{q:Option Addr}{v:Value}{l:List UInt8}{tight:Bool}
theorem WSt.lt (h:WSt B w wb q v l tight):wb<w.heap.size:=lt_block h.blk
theorem WSt.Ble (h:WSt B w wb q v l tight):B≤w.heap.size:=by have:=h.base;have:=h.lt;omega
theorem WSt.put {i:Nat}{u:Value}{q2:Option Addr}{v2:Value}{tight2:Bool}(h:WSt B w wb q v l tight)(hv:w.ownsRow B 5 1 v2 l.length (bytesC l))(ho:q2=none∨q2=some ⟨wb,0,none⟩)
  (hc:(#[.pointer q,v,.bool tight]:Array Value).setIfInBounds i u= #[.pointer q2,v2,.bool tight2]):
  WSt B (w.setCell ⟨wb,i,none⟩ u) wb q2 v2 l tight2∧WM B wb w (w.setCell ⟨wb,i,none⟩ u):=by
 have hb:Below B w (w.setCell ⟨wb,i,none⟩ u):=(Below.refl _ _).setCell (p:=⟨wb,i,none⟩) h.base u
 refine⟨⟨?_,?_,h.base,ho⟩,hb,(Lib.OthersKept.refl _ (some wb) _).setCell ⟨wb,i,none⟩ rfl u⟩
 ·rw[←hc]
  simp[World.setCell,Array.getElem?_modify,h.blk]
 ·obtain⟨h1,h2⟩:=hv
  refine⟨h1,?_⟩
  rcases h2 with h2|⟨g,cap,cur,hv,hg,hh,r⟩
  ·exact .inl h2
  ·refine .inr ⟨g,cap,cur,hv,hg,?_,r⟩
   rw[Below.heap_setCell _ _ _ _ (by rintro rfl;have:=h.blk;rw[hh] at this;simp at this)]
   exact hh
set_option maxHeartbeats 1000000 in
theorem copyCheck_any (h:WSt B w wb q v l tight):
  Calls Tryz.prog 164 #[.pointer (some ⟨wb,0,none⟩)] w fun e w'=>e=.returned (.tuple #[])∧WSt B w' wb (some ⟨wb,0,none⟩) v l tight∧WM B wb w w':=by
 obtain⟨j,hj,hjs⟩:=Option.map_eq_some_iff.1 Tryz.infoBuilder
 have c0:=blk_cell h.blk 0 _ rfl
 have f0:=blk_free h.blk 0
 rcases h.own with rfl|rfl
 ·have c0:w.cell? ⟨wb,0,none⟩=some (.pointer none):=c0
  have hsh:w.shape? wb=some (128,3):=by have:=h.blk;simp[World.shape?,this]
  have hx1:∀w,w.shape? wb=some (128,3)→(convert 123 276 (.pointer (some ⟨wb,0,none⟩))).run Tryz.prog w=.ok (.pointer (some ⟨wb,0,none⟩)) w:=fun w hw=>Lib.run_to_unsafe w ⟨wb,0,none⟩ Tryz.underlying123 Tryz.underlying276 hj (by rw[hjs];decide) hw (Nat.zero_lt_succ 2)
  have hx2:∀w,w.shape? wb=some (128,3)→(convert 276 123 (.pointer (some ⟨wb,0,none⟩))).run Tryz.prog w=.ok (.pointer (some ⟨wb,0,none⟩)) w:=fun w hw=>Lib.run_from_unsafe w ⟨wb,0,none⟩ Tryz.underlying276 Tryz.underlying123 hj hw Tryz.liesBuilder
  have hy1:=hx1 w hsh
  have hy2:=hx2 w hsh
  have hy3:∀w x,(callFunc 186 #[x]).run Tryz.prog w=.ok (.value x) w:=fun w x=>by
   rw[run_callFunc_extern Tryz.func186 (by kernel_rfl) (by kernel_rfl) (by kernel_rfl) (e:=Extern.AbiNoEscape.same) (by kernel_rfl),Lib.run_noEscape]
   rfl
  have hy4:=fun w=>Lib.run_neq_ptr_same (P:=Tryz.prog) w ⟨wb,0,none⟩ Tryz.underlying123 hj
  clear hx1 hx2
  go_enter Tryz.func164,Tryz.ntmps164
  go_wp2
  go_end0
  obtain⟨h1,h2⟩:=h.put (i:=0) (u:=.pointer (some ⟨wb,0,none⟩)) (q2:=some ⟨wb,0,none⟩) (v2:=v) (tight2:=tight) h.row (.inr rfl) rfl
  exact⟨rfl,h1,h2⟩
 ·have hy4:=fun w=>Lib.run_neq_ptr_same (P:=Tryz.prog) w ⟨wb,0,none⟩ Tryz.underlying123 hj
  have c0:w.cell? ⟨wb,0,none⟩=some (.pointer (some ⟨wb,0,none⟩)):=c0
  go_enter Tryz.func164,Tryz.ntmps164
  go_wp2
  go_end0
  exact⟨rfl,h,WM.refl _ _ _⟩
theorem WSt.grown {w2:World}{v2:Value}{l2:List UInt8}(h:WSt B w wb q v l tight)(hg:w.grownBy w2 v.ownBlock)(hown:w2.ownsRow B 5 1 v2 l2.length (bytesC l2)):
  WSt B (w2.setCell ⟨wb,1,none⟩ v2) wb q v2 l2 tight∧WM B wb w (w2.setCell ⟨wb,1,none⟩ v2)∧w2.cell? ⟨wb,1,none⟩=some v∧w2.frozen? ⟨wb,1,none⟩=false:=by
 have hne:some wb≠v.ownBlock:=by
  intro e
  obtain⟨_,cs,h2⟩:=own_type h.row e.symm
  have:=h.blk
  rw[h2] at this;simp at this
 have hblk:w2.heap[wb]? =some (.cells #[.pointer q,v,.bool tight] 128 (0,0)):=(hg.block wb h.lt hne).trans h.blk
 have hb2:Below B w w2:=(Below.refl _ _).grown hg h.Ble (fun k hk=>(own_type h.row hk).1)
 refine⟨⟨?_,?_,h.base,h.own⟩,⟨hb2.setCell (p:=⟨wb,1,none⟩) h.base v2,((Lib.OthersKept.refl _ (some wb) _).grown hg (fun k hk=>by obtain⟨_,cs,h2⟩:=own_type h.row hk;exact⟨cs,_,h2⟩)).setCell ⟨wb,1,none⟩ rfl v2⟩,blk_cell hblk 1 _ rfl,blk_free hblk 1⟩
 ·simp[World.setCell,Array.getElem?_modify,hblk]
 ·obtain⟨h1,h2⟩:=hown
  refine⟨h1,?_⟩
  rcases h2 with h2|⟨g,cap,cur,hv,hg,hh,r⟩
  ·exact .inl h2
  ·refine .inr ⟨g,cap,cur,hv,hg,?_,r⟩
   rw[Below.heap_setCell _ _ _ _ (by rintro rfl;rw[hh] at hblk;simp at hblk)]
   exact hh
theorem WSt.alloc (h:WSt B w wb q v l tight)(o:Obj):WSt B (w.alloc o) wb q v l tight:=
 ⟨(Below.heap_alloc _ _ _ h.lt).trans h.blk,h.row.alloc o,h.base,h.own⟩
theorem bytesC_snoc (l:List UInt8)(c:UInt8):bytesC (l++[c])=bytesC l++[.int .u8 c.toNat]:=by simp[bytesC]
set_option maxHeartbeats 1000000 in
theorem writeByte_any (h:WSt B w wb q v l tight)(hl:l.length≤1000000)(c:UInt8):
  Calls Tryz.prog 127 #[.pointer (some ⟨wb,0,none⟩),.int .u8 c.toNat] w fun e w'=>e=.returned .nilIface∧∃v',WSt B w' wb (some ⟨wb,0,none⟩) v' (l++[c]) tight∧WM B wb w w':=by
 obtain⟨i0,hi,hz0,hz1,hz2⟩:=info_parts Tryz.infoByte
 go_enter Tryz.func127,Tryz.ntmps127
 go_wp2_with fail
 refine(copyCheck_any h).mono ?_
 rintro e w1 ⟨rfl,h1,hb1⟩
 have c1:=blk_cell h1.blk 1 _ rfl
 have c1:w1.cell? ⟨wb,1,none⟩=some v:=c1
 have hlt:=h1.lt
 go_wp2_with (at_builtin;refine wpList_append_own _ rfl (.tmp 11) (.tmp 13) 124 rfl B 5 i0 _ 1 1 Tryz.underlying124 hi hz0 hz1 hz2 rfl (by decide) _ _ _ rfl (h1.row.alloc _) ⟨w1.heap.size,0,none⟩ 1 1 [.int .u8 c.toNat] rfl rfl ?c1 ?c2 ?c3 ?c4 ?c5 ?_)
 case c1=>first|exact fun j u hj=>hj|exact cell_one_new _ _ _
 case c2=>intro u hu;simp at hu;subst hu;rfl
 case c3=>unfold maxLen;omega
 case c4=>omega
 case c5=>have:=h1.Ble;simp;omega
 intro v2 w2 hown2 hgrow2 _
 obtain⟨g2,cap2,rfl⟩:=own_slice hown2
 rw[←bytesC_snoc,←len_snoc l c] at hown2
 have hg:=(h1.alloc _).grown hgrow2 (l2:=l++[c]) hown2
 rw[len_snoc] at hg
 obtain⟨h3,hb3,c3,f3⟩:=hg
 clear hown2 hgrow2 c1
 go_wp2_with fail
 go_ret
 exact⟨rfl,_,h3,hb1.trans (((WM.refl _ _ _).alloc h1.Ble _).trans hb3)⟩
theorem strCells_eq (s:ByteArray):Lib.strCells s=bytesC s.data.toList:=by
 unfold Lib.strCells bytesC;rfl
theorem bytesC_app (l m:List UInt8):bytesC (l++m)=bytesC l++bytesC m:=by simp[bytesC]
set_option maxHeartbeats 1000000 in
theorem writeString_any (h:WSt B w wb q v l tight)(hl:l.length≤1000000)(s:ByteArray)(hs:s.size≤1000000)(hs0:0<s.size):
  Calls Tryz.prog 128 #[.pointer (some ⟨wb,0,none⟩),.string s] w fun e w'=>e=.returned (.tuple #[.int .i64 s.size,.nilIface])∧∃v',WSt B w' wb (some ⟨wb,0,none⟩) v' (l++s.data.toList) tight∧WM B wb w w':=by
 obtain⟨i0,hi,hz0,hz1,hz2⟩:=info_parts Tryz.infoByte
 go_enter Tryz.func128,Tryz.ntmps128
 go_wp2_with fail
 refine(copyCheck_any h).mono ?_
 rintro e w1 ⟨rfl,h1,hb1⟩
 have c1:=blk_cell h1.blk 1 _ rfl
 have c1:w1.cell? ⟨wb,1,none⟩=some v:=c1
 have hlt:=h1.lt
 go_wp2_with (at_builtin;refine Lib.wpList_append_own_string _ rfl (.tmp 12) (.tmp 13) 124 9 rfl B 5 i0 Tryz.underlying124 Tryz.underlying9 hi hz0 hz1 hz2 _ _ _ rfl h1.row s rfl ?c3 ?c4 h1.Ble ?_)
 case c3=>unfold maxLen;omega
 case c4=>omega
 intro v2 w2 hown2 hgrow2 _
 obtain⟨m,hm⟩:∃m,s.size=m+1:=⟨s.size-1,by omega⟩
 have hsl:∃g cap,v2=.slice (some ⟨g,0,none⟩) (l.length+s.size) cap:=by
  rw[hm] at hown2 ⊢
  exact own_slice hown2
 obtain⟨g2,cap2,rfl⟩:=hsl
 have hown3:w2.ownsRow B 5 1 (.slice (some ⟨g2,0,none⟩) (l.length+s.size) cap2) (l++s.data.toList).length (bytesC (l++s.data.toList)):=by
  rw[bytesC_app,List.length_append,show s.data.toList.length=s.size from by rw[Array.length_toList];rfl,←strCells_eq]
  exact hown2
 obtain⟨h3,hb3,c3,f3⟩:=h1.grown hgrow2 hown3
 clear hown2 hown3 hgrow2 c1 hm
 go_wp2_with fail
 go_ret2
 exact⟨rfl,_,h3,hb1.trans hb3⟩
set_option maxHeartbeats 1000000 in
theorem string_any (h:WSt B w wb q v l tight)(hl:l.length≤1000000)(hl0:l≠[]):
  Calls Tryz.prog 51 #[.pointer (some ⟨wb,0,none⟩)] w fun e w'=>e=.returned (.string ⟨l.toArray⟩)∧Below B w w':=by
 have hlen:l.length≠0:=by simpa using hl0
 obtain⟨g,cap,cur,rfl,hbg,hg,hnc,hcm,hcs,htake⟩:∃g cap cur,v=.slice (some ⟨g,0,none⟩) l.length cap∧B≤g∧w.heap[g]? =some (.cells cur 5 (0,0))∧l.length≤cap∧cap≤maxLen∧cur.size=cap*1∧cur.toList.take (l.length*1)=bytesC l:=by
  rcases h.row.2 with⟨_,hz⟩|⟨g,cap,cur,hv,r⟩
  ·exact absurd hz hlen
  ·exact⟨g,cap,cur,hv,r⟩
 have c1:w.cell? ⟨wb,1,none⟩=some (.slice (some ⟨g,0,none⟩) l.length cap):=blk_cell h.blk 1 _ rfl
 have hSD:=fun w=>Lib.run_unsafeSliceData_row (P:=Tryz.prog) w #[124] 172 ⟨g,0,none⟩ l.length cap (by omega)
 have hUS:(Builtin.unsafeString_ #[172,3] 9 #[.pointer (some ⟨g,0,none⟩),.int .i64 l.length]).run Tryz.prog w.drew=.ok (.string ⟨l.toArray⟩) (w.drew.freeze ⟨g,0,none⟩ l.length):=by
  refine Lib.run_unsafeString_row w.drew 172 3 9 5 Tryz.underlying172 (by kernel_rfl) g cur.size (by have hg':w.drew.heap[g]? =some (.cells cur 5 (0,0)):=hg;simp[World.shape?,hg']) l hl0 (by omega) (by omega) ?_
  intro j x hx
  exact h.row.cells (g:=g) rfl j (.int .u8 x.toNat) (by simp[bytesC,hx])
 go_enter Tryz.func51,Tryz.ntmps51
 go_wp2_with fail
 go_region
 all_goals (go_wp2_with fail;go_ret;exact⟨rfl,Lib.below_freeze (Below.drew (Below.refl B w)) (p:=⟨g,0,none⟩) hbg _⟩)
end
section
variable {B:Nat}{w:World}{wb:Nat}{q:Option Addr}{v:Value}{l:List UInt8}{tight:Bool}
theorem WSt.c2 (h:WSt B w wb q v l tight):w.cell? ⟨wb,2,none⟩=some (.bool tight):=blk_cell h.blk 2 _ rfl
theorem WSt.f2 (h:WSt B w wb q v l tight):w.frozen? ⟨wb,2,none⟩=false:=blk_free h.blk 2
set_option maxHeartbeats 1000000 in
theorem token_sep (h:WSt B w wb q v l false)(hl:l.length≤900000)(s:ByteArray)(hs:s.size≤90000)(hs0:0<s.size)(k1:(s.toList==[41])=false)(k2:(s.toList==[44])=false):
  Calls Tryz.prog 79 #[.pointer (some ⟨wb,0,none⟩),.string s] w fun e w'=>e=.returned (.tuple #[])∧∃q' v',WSt B w' wb q' v' (l++[32]++s.data.toList) (s.toList==[40])∧WM B wb w w':=by
 have c2:=h.c2
 go_enter Tryz.func79,Tryz.ntmps79
 go_wp2_with fail
 refine(writeByte_any h (by omega) 32).mono ?_
 rintro e w1 ⟨rfl,v1,h1,hb1⟩
 go_wp2_with fail
 refine(writeString_any h1 (by simp;omega) s (by omega) hs0).mono ?_
 rintro e w2 ⟨rfl,v2,h2,hb2⟩
 have d2:=h2.c2
 have f2:=h2.f2
 go_wp2_with fail
 go_end0
 obtain⟨h3,hb3⟩:=h2.put (i:=2) (u:=.bool (s.toList==[40])) (q2:=some ⟨wb,0,none⟩) (v2:=v2) (tight2:=s.toList==[40]) h2.row (.inr rfl) rfl
 exact⟨rfl,_,_,h3,(hb1.trans hb2).trans hb3⟩
set_option maxHeartbeats 1000000 in
theorem token_bare (h:WSt B w wb q v l tight)(hl:l.length≤900000)(s:ByteArray)(hs:s.size≤90000)(hs0:0<s.size)(k1:tight=true∨(tight=false∧(s.toList==[41])=true)∨(tight=false∧(s.toList==[41])=false∧(s.toList==[44])=true)):
  Calls Tryz.prog 79 #[.pointer (some ⟨wb,0,none⟩),.string s] w fun e w'=>e=.returned (.tuple #[])∧∃q' v',WSt B w' wb q' v' (l++s.data.toList) (s.toList==[40])∧WM B wb w w':=by
 rcases k1 with rfl|⟨rfl,k2⟩|⟨rfl,k2,k3⟩
 all_goals
  have c2:=h.c2
  go_enter Tryz.func79,Tryz.ntmps79
  go_wp2_with fail
  refine(writeString_any h (by omega) s (by omega) hs0).mono ?_
  rintro e w2 ⟨rfl,v2,h2,hb2⟩
  have d2:=h2.c2
  have f2:=h2.f2
  go_wp2_with fail
  go_end0
  obtain⟨h3,hb3⟩:=h2.put (i:=2) (u:=.bool (s.toList==[40])) (q2:=some ⟨wb,0,none⟩) (v2:=v2) (tight2:=s.toList==[40]) h2.row (.inr rfl) rfl
  exact⟨rfl,_,_,h3,hb2.trans hb3⟩
end
namespace Doc
def jn (m:Ast→List UInt8)(wd:List UInt8):List Ast→List UInt8
 | []=>[]
 |a::r=>m a++r.flatMap (fun b=>[32]++wd++[32]++m b)
theorem jn_snoc (m:Ast→List UInt8)(wd:List UInt8){l:List Ast}(h:l≠[])(b:Ast):jn m wd (l++[b])=jn m wd l++[32]++wd++[32]++m b:=by
 cases l with
 |nil=>exact absurd rfl h
 |cons a r=>simp[jn,List.flatMap_append]
theorem jn_pre (m:Ast→List UInt8)(wd:List UInt8)(x y:List Ast):(jn m wd x).length≤(jn m wd (x++y)).length:=by
 cases x with
 |nil=>simp[jn]
 |cons a r=>simp[jn,List.flatMap_append]
theorem jn_take (m:Ast→List UInt8)(wd:List UInt8)(l:List Ast)(i:Nat):(jn m wd (l.take i)).length≤(jn m wd l).length:=by
 have:=jn_pre m wd (l.take i) (l.drop i)
 rwa [List.take_append_drop] at this
end Doc
structure Side (w:World)(F:Nat→Prop)(m:Doc.Ast→List UInt8)(wd:List UInt8)(cs:List Value)(a:Doc.Ast)(text:List UInt8)(gs:List (List Value×Doc.Ast)):Prop where
 cells:cs=gs.flatMap (·.1)
 ne:gs≠[]
 each:∀g∈gs,RepT w F 0 g.1 g.2∧SizeOf.sizeOf g.2≤SizeOf.sizeOf a∧(∀Q,Doc.Every Q a→Doc.Every Q g.2)
 text:Doc.jn m wd (gs.map (·.2))=text
theorem RepT.side {w:World}{F:Nat→Prop}{k:Nat}{cs:List Value}{a:Doc.Ast}(h:RepT w F k cs a):
  (k=1→∃gs,Side w F Doc.mAll Doc.wAnd cs a (Doc.mAll a) gs)∧(k=2→∃gs,Side w F Doc.plain Doc.wOr cs a (Doc.plain a) gs):=by
 induction h with
 |test h1 h2=>exact⟨fun h=>(by cases h),fun h=>(by cases h)⟩
 |not _ h1 h2 ih=>exact⟨fun h=>(by cases h),fun h=>(by cases h)⟩
 |and _ _ h1 h2 ih1 ih2=>exact⟨fun h=>(by cases h),fun h=>(by cases h)⟩
 |or _ _ h1 h2 ih1 ih2=>exact⟨fun h=>(by cases h),fun h=>(by cases h)⟩
 | @one cs a k h0 h1 ih=>
   refine⟨fun _=>⟨[(cs,a)],?_⟩,fun _=>⟨[(cs,a)],?_⟩⟩
   all_goals
    refine⟨by simp,by simp,?_,by simp[Doc.jn]⟩
    intro g hg
    obtain rfl:=List.mem_singleton.1 hg
    exact⟨h0,Nat.le_refl _,fun _ h=>h⟩
 | @andL l cs a b h1 h2 ih1 ih2=>
   refine⟨fun _=>?_,fun h=>by cases h⟩
   obtain⟨gs,hg⟩:=ih1.1 rfl
   refine⟨gs++[(cs,b)],?_,by simp,?_,?_⟩
   ·rw[hg.cells];simp
   ·intro g hm
    rcases List.mem_append.1 hm with hm|hm
    ·obtain⟨e1,e2,e3⟩:=hg.each g hm
     exact⟨e1,by simp only[Doc.Ast.and.sizeOf_spec];omega,fun Q h=>e3 Q h.1⟩
    ·obtain rfl:=List.mem_singleton.1 hm
     exact⟨h2,by simp only[Doc.Ast.and.sizeOf_spec];omega,fun Q h=>h.2⟩
   ·rw[List.map_append,List.map_singleton,Doc.jn_snoc _ _ (by simpa using hg.ne),hg.text]
    rfl
 | @orL l cs a b h1 h2 ih1 ih2=>
   refine⟨fun h=>(by cases h),fun _=>?_⟩
   obtain⟨gs,hg⟩:=ih1.2 rfl
   refine⟨gs++[(cs,b)],?_,by simp,?_,?_⟩
   ·rw[hg.cells];simp
   ·intro g hm
    rcases List.mem_append.1 hm with hm|hm
    ·obtain⟨e1,e2,e3⟩:=hg.each g hm
     exact⟨e1,by simp only[Doc.Ast.or.sizeOf_spec];omega,fun Q h=>e3 Q h.1⟩
    ·obtain rfl:=List.mem_singleton.1 hm
     exact⟨h2,by simp only[Doc.Ast.or.sizeOf_spec];omega,fun Q h=>h.2⟩
   ·rw[List.map_append,List.map_singleton,Doc.jn_snoc _ _ (by simpa using hg.ne),hg.text]
    rfl
theorem Doc.litsText_snoc (l:List Doc.Tok)(h:l≠[])(t:Doc.Tok):Doc.litsText (l++[t])=Doc.litsText l++[44,32]++Doc.litText t:=by
 induction l with
 |nil=>exact absurd rfl h
 |cons a r ih=>
  cases r with
  |nil=>simp[Doc.litsText]
  |cons b r=>
   have:=ih (by simp)
   simp only[List.cons_append,Doc.litsText] at this ⊢
   rw[this]
   simp
theorem Doc.litsText_take (l:List Doc.Tok)(i:Nat):(Doc.litsText (l.take i)).length≤(Doc.litsText l).length:=by
 induction l generalizing i with
 |nil=>simp
 |cons a r ih=>
  cases i with
  |zero=>simp[Doc.litsText]
  |succ i=>
   cases r with
   |nil=>simp[Doc.litsText]
   |cons b r=>
    cases i with
    |zero=>simp[Doc.litsText]
    |succ i=>
     have:=ih (i+1)
     simp only[List.take_succ_cons,Doc.litsText,List.length_append] at this ⊢
     omega
def sepB:Bool→List UInt8|true=>[]|false=>[32]
structure Wrote (B wb:Nat)(w:World)(l T:List UInt8)(e:Ending)(w':World):Prop where
 ret:e=.returned (.tuple #[])
 st:∃q' v',WSt B w' wb q' v' (l++T) false
 wm:WM B wb w w'
section
variable {B:Nat}{w:World}{wb:Nat}{q:Option Addr}{v:Value}{l:List UInt8}{tight:Bool}
theorem WSt.below {w':World}(h:WSt B w wb q v l tight)(hb:Below w.heap.size w w'):WSt B w' wb q v l tight:=
 ⟨(hb.block wb h.lt).trans h.blk,own_kept h.row (fun k _ _ ho=>(hb.block k (lt_block ho)).trans ho),h.base,h.own⟩
theorem WM.ofBelow {w':World}(hb:Below w.heap.size w w')(hB:B≤w.heap.size):WM B wb w w':=
 ⟨hb.mono hB,fun k _ hk _ _=>(hb.block k (lt_block hk)).trans hk⟩
theorem WM.blk {w':World}(h:WM B wb w w'){k:Nat}{cs:Array Value}{T:TypeId}{fr:Nat×Nat}(hk:w.heap[k]? =some (.cells cs T fr))(hT:T≠5)(hne:k≠wb):w'.heap[k]? =some (.cells cs T fr):=
 h.kept k _ hk (by simpa using hne) (fun c fz e=>hT (by cases e;rfl))
theorem token_wide (h:WSt B w wb q v l tight)(hl:l.length≤900000)(s:ByteArray)(hs:Doc.Wide s):
  Calls Tryz.prog 79 #[.pointer (some ⟨wb,0,none⟩),.string s] w (Wrote B wb w l (sepB tight++s.data.toList)):=by
 have h300:=hs.le
 cases tight with
 |true=>
  refine(token_bare h hl s (by omega) hs.pos (.inl rfl)).mono ?_
  rintro e w' ⟨rfl,q',v',h1,hb⟩
  rw[hs.k3] at h1
  exact⟨rfl,⟨q',v',h1⟩,hb⟩
 |false=>
  refine(token_sep h hl s (by omega) hs.pos hs.k1 hs.k2).mono ?_
  rintro e w' ⟨rfl,q',v',h1,hb⟩
  rw[hs.k3] at h1
  exact⟨rfl,⟨q',v',by rw[show sepB false++s.data.toList=[32]++s.data.toList from rfl,←List.append_assoc];exact h1⟩,hb⟩
theorem token_open (h:WSt B w wb q v l tight)(hl:l.length≤900000):
  Calls Tryz.prog 79 #[.pointer (some ⟨wb,0,none⟩),.string ⟨#[40]⟩] w fun e w'=>e=.returned (.tuple #[])∧∃q' v',WSt B w' wb q' v' (l++(sepB tight++[40])) true∧WM B wb w w':=by
 cases tight with
 |true=>
  refine(token_bare h hl ⟨#[40]⟩ (by decide) (by decide) (.inl rfl)).mono ?_
  rintro e w' ⟨rfl,q',v',h1,hb⟩
  rw[show((⟨#[40]⟩:ByteArray).toList==[40])=true by rw[ByteArray.toList_eq];rfl] at h1
  exact⟨rfl,q',v',h1,hb⟩
 |false=>
  refine(token_sep h hl ⟨#[40]⟩ (by decide) (by decide) (by rw[ByteArray.toList_eq];rfl) (by rw[ByteArray.toList_eq];rfl)).mono ?_
  rintro e w' ⟨rfl,q',v',h1,hb⟩
  rw[show((⟨#[40]⟩:ByteArray).toList==[40])=true by rw[ByteArray.toList_eq];rfl] at h1
  exact⟨rfl,q',v',by rw[show sepB false++[40]=[32]++[40] from rfl,←List.append_assoc];exact h1,hb⟩
theorem token_tail (h:WSt B w wb q v l tight)(hl:l.length≤900000)(c:UInt8)(hc:c=41∨c=44):
  Calls Tryz.prog 79 #[.pointer (some ⟨wb,0,none⟩),.string ⟨#[c]⟩] w (Wrote B wb w l [c]):=by
 have e1:∀d:UInt8,((⟨#[c]⟩:ByteArray).toList==[d])=(c==d):=by
  intro d;rw[ByteArray.toList_eq];simp
 refine(token_bare h hl ⟨#[c]⟩ (by show 1≤90000;omega) (by show 0<1;omega) ?_).mono ?_
 ·rw[e1,e1]
  cases tight with
  |true=>exact .inl rfl
  |false=>
   rcases hc with rfl|rfl
   ·exact .inr (.inl ⟨rfl,rfl⟩)
   ·exact .inr (.inr ⟨rfl,rfl,rfl⟩)
 ·rintro e w' ⟨rfl,q',v',h1,hb⟩
  rw[e1,show(c==40)=false by rcases hc with rfl|rfl<;>rfl] at h1
  exact⟨rfl,⟨q',v',h1⟩,hb⟩
end
theorem digitsF_eq:∀(f n:Nat),n<10 ^ (f+1)→Doc.digitsF f n=Lib.decDigits n:=by
 intro f
 induction f with
 |zero=>
  intro n hn
  have hn:n<10:=by simpa using hn
  rw[Lib.decDigits_one hn]
  unfold Doc.digitsF
  rw[Nat.mod_eq_of_lt hn]
 |succ f ih=>
  intro n hn
  unfold Doc.digitsF
  rw[Lib.decDigits]
  by_cases h:n<10
  ·rw[if_pos h,dif_pos h]
  ·rw[if_neg h,dif_neg h,ih]
   rw[Nat.div_lt_iff_lt_mul (by decide)]
   rw[Nat.pow_succ] at hn
   exact hn
theorem decimal_eq (n:Int)(h1: -9999999≤n)(h2:n≤9999999):Lib.itoa n=Doc.decimal n:=by
 unfold Lib.itoa Doc.decimal
 rw[digitsF_eq 7 n.natAbs (by omega)]
 by_cases h:n<0
 ·rw[if_pos h,if_pos h]
 ·rw[if_neg h,if_neg h,show n.toNat=n.natAbs by omega]
def Tens (w:World):Prop:=Lib.TabIs Tryz.prog w "internal/strconv.uint64pow10" .u64 Lib.pow10Tab
theorem tens_at:Tryz.prog.globalNamed "internal/strconv.uint64pow10"=some 3:=by kernel_rfl
theorem Tens.below {B:Nat}{w w':World}(h:Tens w)(hb:Below B w w')(hB:3<B):Tens w':=by
 unfold Tens Lib.TabIs World.var? at h ⊢
 rw[tens_at] at h ⊢
 simp only[Option.bind_some] at h ⊢
 rw[hb.block _ hB]
 exact h
theorem digit_ne (k:Nat)(hk:k<10)(c:UInt8)(hc:c<48):UInt8.ofNat (48+k)≠c:=by
 rintro rfl
 have h2:(UInt8.ofNat (48+k)).toNat=48+k:=by rw[UInt8.toNat_ofNat'];omega
 have h3:(UInt8.ofNat (48+k)).toNat<(48:UInt8).toNat:=hc
 rw[h2] at h3
 have h4:(48:UInt8).toNat=48:=rfl
 omega
theorem digitsF_head:∀(f n:Nat),∃c r,Doc.digitsF f n=c::r∧∀d:UInt8,d<48→c≠d:=by
 intro f
 induction f with
 |zero=>intro n;exact⟨_,_,rfl,fun d hd=>digit_ne _ (Nat.mod_lt _ (by decide)) d hd⟩
 |succ f ih=>
  intro n
  unfold Doc.digitsF
  by_cases h:n<10
  ·rw[if_pos h];exact⟨_,_,rfl,fun d hd=>digit_ne _ h d hd⟩
  ·rw[if_neg h]
   obtain⟨c,r,e,hc⟩:=ih (n / 10)
   rw[e];exact⟨_,_,rfl,hc⟩
theorem wide_list {l:List UInt8}{c:UInt8}{r:List UInt8}(e:l=c::r)(hl:l.length≤300)(h1:c≠41)(h2:c≠44)(h3:c≠40):Doc.Wide ⟨l.toArray⟩:=by
 have ht:(⟨l.toArray⟩:ByteArray).toList=c::r:=by rw[ByteArray.toList_eq];exact e
 refine⟨?_,?_,?_,?_,?_⟩
 ·show 0<l.toArray.size;rw[e];simp
 ·show l.toArray.size≤300;simpa using hl
 ·rw[ht];simp[h1]
 ·rw[ht];simp[h2]
 ·rw[ht];simp[h3]
theorem litText_wide (t:Doc.Tok)(h:Doc.LitOk t):Doc.Wide ⟨(Doc.litText t).toArray⟩:=by
 rcases h.k with k|k
 ·have e2:Doc.litText t=34::(t.S.data.toList++[34]):=by unfold Doc.litText;rw[k];rfl
  refine wide_list e2 ?_ (by decide) (by decide) (by decide)
  have:=h.sz
  have h3:=Doc.ba_len t.S
  rw[e2];simp only[List.length_cons,List.length_append,List.length_nil];omega
 ·have e2:Doc.litText t=Doc.decimal t.N:=by unfold Doc.litText;rw[k];rfl
  have hd:=Doc.digitsF_length 7 t.N.natAbs
  by_cases hn:t.N<0
  ·have e3:Doc.litText t=45::Doc.digitsF 7 t.N.natAbs:=by rw[e2];unfold Doc.decimal;rw[if_pos hn]
   refine wide_list e3 ?_ (by decide) (by decide) (by decide)
   rw[e3];simp only[List.length_cons];omega
  ·have e3:Doc.litText t=Doc.digitsF 7 t.N.natAbs:=by rw[e2];unfold Doc.decimal;rw[if_neg hn]
   obtain⟨c,r,e,hc⟩:=digitsF_head 7 t.N.natAbs
   refine wide_list (e3.trans e) ?_ (hc 41 (by decide)) (hc 44 (by decide)) (hc 40 (by decide))
   rw[e3];omega
set_option maxHeartbeats 1000000 in
theorem lit_any (t:Doc.Tok)(h:Doc.LitOk t)(w:World)(hT:Tens w)(hG:3<w.heap.size):
  Calls Tryz.prog 130 #[.agg #[.int .i64 (litK t),.int .i64 t.N,.string t.S]] w fun e w'=>e=.returned (.string ⟨(Doc.litText t).toArray⟩)∧Below w.heap.size w w':=by
 have HT:Hid (Tens w):=hT
 clear hT
 rcases h.k with k|k
 ·have e1:litK t=2:=by unfold litK;rw[k];rfl
  have e2:Doc.litText t=34::(t.S.data.toList++[34]):=by unfold Doc.litText;rw[k];rfl
  rw[e1,e2]
  clear k e1 e2
  have hsz:=h.sz
  go_enter Tryz.func130,Tryz.ntmps130
  go_wp2_with fail
  go_ret
  refine⟨?_,(Below.refl _ _).alloc (Nat.le_refl _) _⟩
  have hb:(⟨#[34]⟩++t.S)++⟨#[34]⟩=(⟨(34::(t.S.data.toList++[34])).toArray⟩:ByteArray):=by
   apply ByteArray.ext
   apply Array.ext'
   simp[ByteArray.data_append]
  rw[←hb]
  rfl
 ·have e1:litK t=1:=by unfold litK;rw[k];rfl
  have e2:Doc.litText t=Doc.decimal t.N:=by unfold Doc.litText;rw[k];rfl
  rw[e1,e2]
  clear k e1 e2
  have hn:=decimal_eq t.N h.lo h.hi
  have h1:=h.lo
  have h2:=h.hi
  go_enter Tryz.func130,Tryz.ntmps130
  go_wp2_with fail
  refine(Tryz.strconv_Itoa t.N (by omega) (by omega) _ (HT.out.below (B:=w.heap.size) ((Below.refl _ _).alloc (Nat.le_refl _) _) hG)).mono ?_
  rintro e w1 ⟨rfl,k,os,rfl⟩
  go_wp2_with fail
  go_ret
  exact⟨rfl,((Below.refl _ w).alloc (Nat.le_refl _) _).trans ((Lib.below_grow w.heap.size _ (by simp) k os))⟩
section
variable {B:Nat}{w:World}{wb:Nat}{q:Option Addr}{v:Value}{l:List UInt8}{tight:Bool}
theorem addr_add (g k:Nat):(⟨g,0,none⟩:Addr).add k=⟨g,k,none⟩:=by
 cases k with
 |zero=>simp[Addr.add]
 |succ k=>simp[Addr.add]
theorem lits_cells {lits:List Doc.Tok}{g n cap m:Nat}(h:w.ownsRow m 230 4 (.slice (some ⟨g,0,none⟩) n cap) lits.length (litsC lits))(j:Nat)(hj:j<lits.length):
  w.cell? ⟨g,j*4,none⟩=some (.int .i64 (litK lits[j]))∧w.cell? ⟨g,j*4+1,none⟩=some (.int .i64 lits[j].N)∧w.cell? ⟨g,j*4+2,none⟩=some (.string lits[j].S)∧w.cell? ⟨g,j*4+3,none⟩=some (.int .i64 lits[j].at_):=by
 have key:∀(ls:List Doc.Tok) (j:Nat) (hj:j<ls.length) (c:Nat),c<4→(litsC ls)[j*4+c]? =(litC ls[j])[c]? :=by
  intro ls
  induction ls with
  |nil=>intro j hj;simp at hj
  |cons a r ih=>
   intro j hj c hc
   cases j with
   |zero=>
    show(litC a++litsC r)[0*4+c]? =_
    rw[List.getElem?_append_left (by simp[litC];omega)];simp
   |succ j=>
    show(litC a++litsC r)[(j+1)*4+c]? =_
    rw[List.getElem?_append_right (by simp[litC];omega)]
    rw[show(j+1)*4+c-(litC a).length=j*4+c by simp[litC];omega]
    exact ih j (by simpa using hj) c hc
 have hc:=h.cells (g:=g) rfl
 refine⟨?_,?_,?_,?_⟩
 ·have:=hc (j*4) (.int .i64 (litK lits[j])) (by rw[show j*4=j*4+0 from rfl,key lits j hj 0 (by omega)];rfl)
  rw[addr_add] at this;exact this
 ·have:=hc (j*4+1) (.int .i64 lits[j].N) (by rw[key lits j hj 1 (by omega)];rfl)
  rw[addr_add] at this;exact this
 ·have:=hc (j*4+2) (.string lits[j].S) (by rw[key lits j hj 2 (by omega)];rfl)
  rw[addr_add] at this;exact this
 ·have:=hc (j*4+3) (.int .i64 lits[j].at_) (by rw[key lits j hj 3 (by omega)];rfl)
  rw[addr_add] at this;exact this
def isZ:Nat→Bool|0=>true|_+1=>false
set_option maxHeartbeats 4000000 in
theorem list_any (h:WSt B w wb q v l tight){lits:List Doc.Tok}(hl:l.length+(Doc.litsText lits).length+10≤800000)(hT:Tens w)(hG:3<B)(hlits:∀t∈lits,Doc.LitOk t)(h300:lits.length≤300)
  {g cap:Nat} (ho:w.ownsRow 0 230 4 (.slice (some ⟨g,0,none⟩) lits.length cap) lits.length (litsC lits)) (hg:g<B):
  Calls Tryz.prog 129 #[.pointer (some ⟨wb,0,none⟩),.slice (some ⟨g,0,none⟩) lits.length cap] w (Wrote B wb w l (sepB tight++(40::(Doc.litsText lits++[41])))):=by
 have HT:Hid (Tens w):=hT
 have HO:Hid (w.ownsRow 0 230 4 (.slice (some ⟨g,0,none⟩) lits.length cap) lits.length (litsC lits)):=ho
 have HL:Hid (∀t∈lits,Doc.LitOk t):=hlits
 have hcap:lits.length≤cap:=by
  obtain⟨_,h2⟩:=ho
  rcases h2 with⟨e,_⟩|⟨g',cap',cur,e,_,_,hc,_⟩
  ·cases e
  ·cases e;exact hc
 clear hT ho hlits
 go_enter Tryz.func129,Tryz.ntmps129
 go_wp2_with fail
 refine(token_open h (by omega)).mono ?_
 rintro e w1 ⟨rfl,q1,v1,h1,k1⟩
 go_wp2_with fail
 go_loopw [10] (fun iv wx=>∃m:Nat,m≤lits.length∧iv=.int .i64 m∧(∃q' v',WSt B wx wb q' v' (l++(sepB tight++[40])++Doc.litsText (lits.take m)) (isZ m))∧WM B wb w wx) (fun iv _=>lits.length-(intOf iv).toNat)
 case atStart=>exact⟨0,Nat.zero_le _,rfl,⟨q1,v1,by simpa[Doc.litsText,isZ] using h1⟩,k1⟩
 case round=>
  obtain⟨m,hm,rfl,⟨qx,vx,hx⟩,kx⟩:=hrel
  clear h1 k1
  have hlen:=Doc.litsText_take lits m
  have hsl:(sepB tight).length≤1:=by cases tight<;>simp[sepB]
  by_cases hm2:m<lits.length
  ·have hok:=HL.out lits[m] (List.getElem_mem hm2)
   obtain⟨r0,r1,r2,r3⟩:=lits_cells (own_kept HO.out (fun k o hk hb=>(kx.below.block k (by cases hk;exact hg)).trans hb)) m hm2
   obtain⟨t,HQ⟩:∃t,Hid (t=lits[m]):=⟨lits[m],rfl⟩
   rw[←HQ.out] at hok r0 r1 r2 r3
   have hgl:=kx.below.size
   have hgx:g<wr.heap.size:=by have:=h.Ble;omega
   have hwbx:=hx.lt
   have hbx:=hx.Ble
   have HTx:Hid (Tens wr):=HT.out.below kx.below hG
   obtain⟨X,HX⟩:∃X:ByteArray,Hid (X=⟨(Doc.litText t).toArray⟩):=⟨⟨(Doc.litText t).toArray⟩,rfl⟩
   have hXw:Doc.Wide X:=by rw[HX.out];exact litText_wide t hok
   have HXt:Hid (X.data.toList=Doc.litText t):=by show _=_;rw[HX.out]
   rcases Nat.eq_zero_or_pos m with h0|h0
   ·subst h0
    go_wp2_with fail
    refine(lit_any t hok _ (HTx.out.below ((Below.refl _ _).alloc hbx _) hG) (by simp;omega)).mono ?_
    rw[←HX.out]
    rintro e w2 ⟨rfl,hb2⟩
    go_wp2_with fail
    refine(token_wide ((hx.alloc _).below hb2) (by simp[Doc.litsText];omega) X hXw).mono ?_
    rintro e w3 ⟨rfl,⟨q3,v3,h3⟩,k3⟩
    go_wp2_with fail
    go_roundw
    case rel=>
     refine⟨0+1,by omega,by go_num,⟨q3,v3,?_⟩,((kx.alloc hbx _).trans (WM.ofBelow hb2 (hx.alloc _).Ble)).trans k3⟩
     have e1:Doc.litsText (lits.take (0+1))=Doc.litText t:=by
      rw[HQ.out]
      cases lits with
      |nil=>simp at hm2
      |cons a r=>simp[Doc.litsText]
     rw[HXt.out] at h3
     rw[e1]
     simpa[isZ,sepB,Doc.litsText] using h3
    case measure=>simp[intOf];omega
   ·have e1:Hid (Doc.litsText (lits.take (m+1))=Doc.litsText (lits.take m)++[44,32]++Doc.litText t):=by
     show _=_
     rw[HQ.out,←Doc.litsText_snoc _ (by intro e;have:=congrArg List.length e;rw[List.length_take,List.length_nil] at this;omega),List.take_append_getElem hm2]
    have e2:isZ m=false:=by cases m with|zero=>omega|succ m=>rfl
    rw[e2] at hx
    go_wp2_with fail
    refine(token_tail (hx.alloc _) (by simp;omega) 44 (.inr rfl)).mono ?_
    rintro e w2 ⟨rfl,⟨q2,v2,h2⟩,k2⟩
    have b2:=k2.blk (heap_alloc_new wr _) (by decide) (by omega)
    obtain⟨d0,d1,d2,d3⟩:=fo_cells b2
    have hb2x:=h2.Ble
    go_wp2_with fail
    refine(lit_any t hok _ (HTx.out.below (((Below.refl _ _).alloc hbx _).trans k2.below) hG) (by omega)).mono ?_
    rw[←HX.out]
    rintro e w3 ⟨rfl,hb3⟩
    go_wp2_with fail
    refine(token_wide (h2.below hb3) (by simp;omega) X hXw).mono ?_
    rintro e w4 ⟨rfl,⟨q4,v4,h4⟩,k4⟩
    go_wp2_with fail
    go_roundw
    case rel=>
     refine⟨m+1,by omega,by go_num,⟨q4,v4,?_⟩,(((kx.alloc hbx _).trans k2).trans (WM.ofBelow hb3 hb2x)).trans k4⟩
     rw[HXt.out] at h4
     rw[e1.out]
     simpa[isZ,sepB] using h4
    case measure=>simp[intOf];omega
  ·obtain rfl:m=lits.length:=by omega
   rw[List.take_length] at hx
   go_wp2_with fail
   refine(token_tail hx (by simp;omega) 41 (.inl rfl)).mono ?_
   rintro e w2 ⟨rfl,⟨q2,v2,h2⟩,k2⟩
   go_wp2_with fail
   go_end0
   exact⟨rfl,⟨q2,v2,by simpa using h2⟩,kx.trans k2⟩
theorem own_slice_ne {lits:List Doc.Tok}{lv:Value}{m:Nat}(h:w.ownsRow m 230 4 lv lits.length (litsC lits))(hne:lits≠[]):∃g cap,lv=.slice (some ⟨g,0,none⟩) lits.length cap:=by
 obtain⟨_,h2⟩:=h
 rcases h2 with⟨_,hz⟩|⟨g,cap,cur,hv,_⟩
 ·exact absurd (List.eq_nil_of_length_eq_zero hz) hne
 ·exact⟨g,cap,hv⟩
theorem test_plain {n o:Doc.Tok}{lits:List Doc.Tok}:Doc.plain (.test n o lits)=n.S.data.toList++[32]++o.S.data.toList++[32]++(if o.S.toList==Doc.wIs then Doc.wNull else if o.S.toList==Doc.wIn then 40::(Doc.litsText lits++[41]) else Doc.litsText lits):=rfl
set_option maxHeartbeats 4000000 in
theorem wtest_any (h:WSt B w wb q v l tight){n o:Doc.Tok}{lits:List Doc.Tok}(hq:Doc.TestOk n o lits)(hl:l.length+(Doc.plain (.test n o lits)).length+10≤800000)(hT:Tens w)(hG:3<B)
  {lv:Value} (ho:w.ownsRow 0 230 4 lv lits.length (litsC lits)) (hg:∀k,lv.ownBlock=some k→k<B):
  Calls Tryz.prog 81 #[.pointer (some ⟨wb,0,none⟩),.agg #[.int .i64 3,.slice none 0 0,.string n.S,.int .i64 n.at_,.string o.S,.int .i64 o.at_,lv]] w (Wrote B wb w l (sepB tight++Doc.plain (.test n o lits))):=by
 have HT:Hid (Tens w):=hT
 have HO:Hid (w.ownsRow 0 230 4 lv lits.length (litsC lits)):=ho
 have hlt:=h.lt
 have hb0:=h.Ble
 have hsl:(sepB tight).length≤1:=by cases tight<;>simp[sepB]
 have hsf:(sepB false).length=1:=rfl
 have hlen:=hl
 rw[test_plain] at hlen
 rcases hq.which with⟨k1,k2,k3⟩|⟨k1,k2,k3⟩|⟨k1,k2,tt,k3⟩
 ·obtain⟨g,cap,rfl⟩:=own_slice_ne ho k3
  have hgB:=hg g rfl
  have HP:Hid (Doc.plain (.test n o lits)=n.S.data.toList++[32]++o.S.data.toList++[32]++(40::(Doc.litsText lits++[41]))):=by show _=_;rw[test_plain,if_neg (by rw[k2];simp),if_pos k1]
  have k1':(o.S.toList==[105,110])=true:=k1
  rw[if_neg (by rw[k2];simp),if_pos k1] at hlen
  simp only[List.length_append,List.length_cons,List.length_nil] at hlen
  clear hT ho hg k1 k2 k3 hl
  go_enter Tryz.func81,Tryz.ntmps81
  go_wp2_with fail
  refine(token_wide (h.alloc _) (by omega) n.S hq.name).mono ?_
  rintro e w1 ⟨rfl,⟨q1,v1,h1⟩,c1⟩
  have b1:=c1.blk (heap_alloc_new w _) (by decide) (by omega)
  obtain⟨d0,d1,d2,d3,d4,d5,d6⟩:=fv_cells b1
  go_wp2_with fail
  refine(token_wide h1 (by simp only[List.length_append];omega) o.S hq.ask).mono ?_
  rintro e w2 ⟨rfl,⟨q2,v2,h2⟩,c2⟩
  have b2:=c2.blk b1 (by decide) (by omega)
  obtain⟨e0,e1,e2,e3,e4,e5,e6⟩:=fv_cells b2
  have kk:WM B wb w w2:=(((WM.refl B wb w).alloc hb0 _).trans c1).trans c2
  go_wp2_with fail
  refine(list_any h2 (by simp only[List.length_append];omega) (HT.out.below kk.below hG) hG hq.lits hq.len (own_kept HO.out (fun k x hk hb=>(kk.below.block k (by cases hk;exact hgB)).trans hb)) hgB).mono ?_
  rintro e w3 ⟨rfl,⟨q3,v3,h3⟩,c3⟩
  go_wp2_with fail
  go_end0
  rw[HP.out]
  exact⟨rfl,⟨q3,v3,by simpa[sepB] using h3⟩,kk.trans c3⟩
 ·obtain rfl:=k3
  obtain⟨lb,lk,lc,rfl⟩:=own_sl ho
  have HP:Hid (Doc.plain (.test n o [])=n.S.data.toList++[32]++o.S.data.toList++[32]++[110,117,108,108]):=by show _=_;rw[test_plain,if_pos k2];rfl
  have k1':(o.S.toList==[105,110])=false:=k1
  have k2':(o.S.toList==[105,115])=true:=k2
  rw[if_pos k2] at hlen
  simp only[List.length_append,List.length_cons,List.length_nil] at hlen
  clear hT ho hg k1 k2 hl
  go_enter Tryz.func81,Tryz.ntmps81
  go_wp2_with fail
  refine(token_wide (h.alloc _) (by omega) n.S hq.name).mono ?_
  rintro e w1 ⟨rfl,⟨q1,v1,h1⟩,c1⟩
  have b1:=c1.blk (heap_alloc_new w _) (by decide) (by omega)
  obtain⟨d0,d1,d2,d3,d4,d5,d6⟩:=fv_cells b1
  go_wp2_with fail
  refine(token_wide h1 (by simp only[List.length_append];omega) o.S hq.ask).mono ?_
  rintro e w2 ⟨rfl,⟨q2,v2,h2⟩,c2⟩
  have b2:=c2.blk b1 (by decide) (by omega)
  obtain⟨e0,e1,e2,e3,e4,e5,e6⟩:=fv_cells b2
  have kk:WM B wb w w2:=(((WM.refl B wb w).alloc hb0 _).trans c1).trans c2
  go_wp2_with fail
  refine(token_wide h2 (by simp only[List.length_append];omega) ⟨#[110,117,108,108]⟩ (wide_list (l:=[110,117,108,108]) rfl (by decide) (by decide) (by decide) (by decide))).mono ?_
  rintro e w3 ⟨rfl,⟨q3,v3,h3⟩,c3⟩
  go_wp2_with fail
  go_end0
  rw[HP.out]
  exact⟨rfl,⟨q3,v3,by simpa[sepB] using h3⟩,kk.trans c3⟩
 ·obtain rfl:=k3
  obtain⟨g,cap,rfl⟩:=own_slice_ne ho (by simp)
  have hgB:=hg g rfl
  have hok:=hq.lits tt (by simp)
  have HP:Hid (Doc.plain (.test n o [tt])=n.S.data.toList++[32]++o.S.data.toList++[32]++Doc.litText tt):=by show _=_;rw[test_plain,if_neg (by rw[k2];simp),if_neg (by rw[k1];simp)];rfl
  have k1':(o.S.toList==[105,110])=false:=k1
  have k2':(o.S.toList==[105,115])=false:=k2
  have hcap:1≤cap:=by
   obtain⟨_,h2⟩:=ho
   rcases h2 with⟨e,_⟩|⟨g',cap',cur,e,_,_,hc,_⟩
   ·cases e
   ·cases e;exact hc
  rw[if_neg (by rw[k2];simp),if_neg (by rw[k1];simp)] at hlen
  simp only[List.length_append,List.length_cons,List.length_nil,Doc.litsText] at hlen
  have hlen1:[tt].length=1:=rfl
  obtain⟨X,HX⟩:∃X:ByteArray,Hid (X=⟨(Doc.litText tt).toArray⟩):=⟨⟨(Doc.litText tt).toArray⟩,rfl⟩
  have hXw:Doc.Wide X:=by rw[HX.out];exact litText_wide tt hok
  have HXt:Hid (X.data.toList=Doc.litText tt):=by show _=_;rw[HX.out]
  clear hT ho hg k1 k2 hl
  go_enter Tryz.func81,Tryz.ntmps81
  go_wp2_with fail
  refine(token_wide (h.alloc _) (by omega) n.S hq.name).mono ?_
  rintro e w1 ⟨rfl,⟨q1,v1,h1⟩,c1⟩
  have b1:=c1.blk (heap_alloc_new w _) (by decide) (by omega)
  obtain⟨d0,d1,d2,d3,d4,d5,d6⟩:=fv_cells b1
  go_wp2_with fail
  refine(token_wide h1 (by simp only[List.length_append];omega) o.S hq.ask).mono ?_
  rintro e w2 ⟨rfl,⟨q2,v2,h2⟩,c2⟩
  have b2:=c2.blk b1 (by decide) (by omega)
  obtain⟨e0,e1,e2,e3,e4,e5,e6⟩:=fv_cells b2
  have kk:WM B wb w w2:=(((WM.refl B wb w).alloc hb0 _).trans c1).trans c2
  have hb2:=h2.Ble
  obtain⟨r0,r1,r2,r3⟩:=lits_cells (own_kept HO.out (fun k x hk hb=>(kk.below.block k (by cases hk;exact hgB)).trans hb)) 0 (by simp)
  simp only[List.getElem_cons_zero,Nat.zero_mul,Nat.zero_add] at r0 r1 r2 r3
  go_wp2_with fail
  refine(lit_any tt hok _ (HT.out.below kk.below hG) (by omega)).mono ?_
  rw[←HX.out]
  rintro e w3 ⟨rfl,hb3⟩
  go_wp2_with fail
  refine(token_wide (h2.below hb3) (by simp only[List.length_append];omega) X hXw).mono ?_
  rintro e w4 ⟨rfl,⟨q4,v4,h4⟩,c4⟩
  go_wp2_with fail
  go_end0
  rw[HP.out]
  rw[HXt.out] at h4
  exact⟨rfl,⟨q4,v4,by simpa[sepB] using h4⟩,(kk.trans (WM.ofBelow hb3 hb2)).trans c4⟩
end
end Go.Proofs.YtbnelaoeblhndaaGreatDoor
