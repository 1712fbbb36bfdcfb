import Derived.Test.YtbnelaoeblhndaaGreatDoorRefRep
import Derived.Laws.AppendOwnNone
namespace Go.Proofs.YtbnelaoeblhndaaGreatDoor
open Go.RowKit
set_option maxRecDepth 100000
theorem nb_cells {w:World}{b:Nat}{c0 c1 c2 c3 c4 c5 c6 c7 c8 c9 c10 c11:Value}{T:TypeId}(h:w.heap[b]? =some (.cells #[c0,c1,c2,c3,c4,c5,c6,c7,c8,c9,c10,c11] T (0,0))):
  w.cell? ⟨b,0,none⟩=some c0∧w.cell? ⟨b,1,none⟩=some c1∧w.cell? ⟨b,2,none⟩=some c2∧w.cell? ⟨b,3,none⟩=some c3∧w.cell? ⟨b,4,none⟩=some c4∧w.cell? ⟨b,5,none⟩=some c5∧w.cell? ⟨b,6,none⟩=some c6∧w.cell? ⟨b,7,none⟩=some c7∧w.cell? ⟨b,8,none⟩=some c8∧w.cell? ⟨b,9,none⟩=some c9∧w.cell? ⟨b,10,none⟩=some c10∧w.cell? ⟨b,11,none⟩=some c11:=
 ⟨blk_cell h 0 _ rfl,blk_cell h 1 _ rfl,blk_cell h 2 _ rfl,blk_cell h 3 _ rfl,blk_cell h 4 _ rfl,blk_cell h 5 _ rfl,blk_cell h 6 _ rfl,blk_cell h 7 _ rfl,blk_cell h 8 _ rfl,blk_cell h 9 _ rfl,blk_cell h 10 _ rfl,blk_cell h 11 _ rfl⟩
theorem tb_cells {w:World}{b:Nat}{c0 c1 c2 c3:Value}{T:TypeId}(h:w.heap[b]? =some (.cells #[c0,c1,c2,c3] T (0,0))):
  w.cell? ⟨b,0,none⟩=some c0∧w.cell? ⟨b,1,none⟩=some c1∧w.cell? ⟨b,2,none⟩=some c2∧w.cell? ⟨b,3,none⟩=some c3:=
 ⟨blk_cell h 0 _ rfl,blk_cell h 1 _ rfl,blk_cell h 2 _ rfl,blk_cell h 3 _ rfl⟩
theorem nb_free {w:World}{b:Nat}{cs:Array Value}{T:TypeId}(h:w.heap[b]? =some (.cells cs T (0,0))):
  w.frozen? ⟨b,0,none⟩=false∧w.frozen? ⟨b,1,none⟩=false∧w.frozen? ⟨b,2,none⟩=false∧w.frozen? ⟨b,3,none⟩=false∧w.frozen? ⟨b,4,none⟩=false∧w.frozen? ⟨b,5,none⟩=false∧w.frozen? ⟨b,6,none⟩=false∧w.frozen? ⟨b,7,none⟩=false∧w.frozen? ⟨b,8,none⟩=false∧w.frozen? ⟨b,9,none⟩=false∧w.frozen? ⟨b,10,none⟩=false∧w.frozen? ⟨b,11,none⟩=false:=
 ⟨blk_free h 0,blk_free h 1,blk_free h 2,blk_free h 3,blk_free h 4,blk_free h 5,blk_free h 6,blk_free h 7,blk_free h 8,blk_free h 9,blk_free h 10,blk_free h 11⟩
theorem one_kept {W w3:World}{o:Obj}{n:Nat}(hn:W.heap.size=n)(hb:Below (W.alloc o).drew.heap.size (W.alloc o).drew w3):w3.heap[n]? =some o:=by
 subst hn
 rw[hb.block _ (by show _<(W.heap.push o).size;simp)]
 show(W.heap.push o)[W.heap.size]? =_
 simp
theorem two_kept {W w3:World}{o p:Obj}{n:Nat}(hn:W.heap.size=n)(hb:Below ((W.alloc o).alloc p).drew.heap.size ((W.alloc o).alloc p).drew w3):w3.heap[n]? =some o∧w3.heap[n+1]? =some p:=by
 subst hn
 constructor
 ·rw[hb.block _ (by show _<((W.heap.push o).push p).size;simp;omega)]
  show((W.heap.push o).push p)[W.heap.size]? =_
  rw[Array.getElem?_push_lt (by simp)];simp
 ·rw[hb.block _ (by show _<((W.heap.push o).push p).size;simp)]
  show((W.heap.push o).push p)[W.heap.size+1]? =_
  rw[show W.heap.size+1=(W.heap.push o).size by simp,Array.getElem?_push_size]
def boxC (t u:Doc.Tok)(lits:Value):Array Value:=#[.int .u8 116,.int .i64 0,.int .i64 0,.int .u8 t.kind.toNat,.string t.S,.int .i64 t.N,.int .i64 t.at_,.int .u8 u.kind.toNat,.string u.S,.int .i64 u.N,.int .i64 u.at_,lits]
theorem set12 {w3:World}{m:Nat}{z0 z1 z2 z3 z4 z5 z6 z7 z8 z9 z10 z11 c0 c1 c2 c3 c4 c5 c6 c7 c8 c9 c10 c11:Value}{T:TypeId}(h:w3.heap[m]? =some (.cells #[z0,z1,z2,z3,z4,z5,z6,z7,z8,z9,z10,z11] T (0,0))):
  ((((((((((((w3.setCell ⟨m,0,none⟩ c0).setCell ⟨m,1,none⟩ c1).setCell ⟨m,2,none⟩ c2).setCell ⟨m,3,none⟩ c3).setCell ⟨m,4,none⟩ c4).setCell ⟨m,5,none⟩ c5).setCell ⟨m,6,none⟩ c6).setCell ⟨m,7,none⟩ c7).setCell ⟨m,8,none⟩ c8).setCell ⟨m,9,none⟩ c9).setCell ⟨m,10,none⟩ c10).setCell ⟨m,11,none⟩ c11).heap[m]? =some (.cells #[c0,c1,c2,c3,c4,c5,c6,c7,c8,c9,c10,c11] T (0,0)):=by
 simp[World.setCell,Array.getElem?_modify,h]
theorem set12_below {B m:Nat}{w w3:World}{c0 c1 c2 c3 c4 c5 c6 c7 c8 c9 c10 c11:Value}(h:Below B w w3)(hm:B≤m):
  Below B w ((((((((((((w3.setCell ⟨m,0,none⟩ c0).setCell ⟨m,1,none⟩ c1).setCell ⟨m,2,none⟩ c2).setCell ⟨m,3,none⟩ c3).setCell ⟨m,4,none⟩ c4).setCell ⟨m,5,none⟩ c5).setCell ⟨m,6,none⟩ c6).setCell ⟨m,7,none⟩ c7).setCell ⟨m,8,none⟩ c8).setCell ⟨m,9,none⟩ c9).setCell ⟨m,10,none⟩ c10).setCell ⟨m,11,none⟩ c11):=
 (((((((((((h.setCell (p:=⟨m,0,none⟩) hm c0).setCell (p:=⟨m,1,none⟩) hm c1).setCell (p:=⟨m,2,none⟩) hm c2).setCell (p:=⟨m,3,none⟩) hm c3).setCell (p:=⟨m,4,none⟩) hm c4).setCell (p:=⟨m,5,none⟩) hm c5).setCell (p:=⟨m,6,none⟩) hm c6).setCell (p:=⟨m,7,none⟩) hm c7).setCell (p:=⟨m,8,none⟩) hm c8).setCell (p:=⟨m,9,none⟩) hm c9).setCell (p:=⟨m,10,none⟩) hm c10).setCell (p:=⟨m,11,none⟩) hm c11
section
variable {B:Nat}{w W w3:World}{fb:Nat}{Lv:Value}{L:List Doc.Tok}{i op:Nat}{Nv:Value}{nodes:List NodeR}{E place:Nat}
theorem meet1 {o:Obj}{cs:Array Value}(h:RSt B W fb Lv L i op Nv nodes E place)(hs:Mv B fb w W)(hb:Below (W.alloc o).drew.heap.size (W.alloc o).drew w3):
  ∃nb,Value.pointer (some ⟨w3.heap.size,0,none⟩)=.pointer (some ⟨nb,0,none⟩)∧RSt B (w3.alloc (.cells cs 178)) fb Lv L i op Nv nodes E place∧(w3.alloc (.cells cs 178)).heap[nb]? =some (.cells cs 178 (0,0))∧Mv B fb w (w3.alloc (.cells cs 178))∧B≤nb∧Nv.ownBlock≠some nb∧nb≠fb:=by
 have h1:Below W.heap.size W w3:=((Below.refl _ W).alloc (Nat.le_refl _) o).drew.trans (hb.mono (by show _≤(W.heap.push o).size;simp))
 have h2:=h1.alloc h1.size (.cells cs 178)
 exact⟨_,rfl,h.below h2,heap_alloc_new w3 _,hs.trans (Mv.ofBelow h2 h.Ble),by have:=h.Ble;have:=h1.size;omega,fun e=>by have:=(h.nds.lt _ e).2;have:=h1.size;omega,by have:=h.lt;have:=h1.size;omega⟩
theorem meet2 {o:Obj}{n:Nat}{z0 z1 z2 z3 z4 z5 z6 z7 z8 z9 z10 z11 c0 c1 c2 c3 c4 c5 c6 c7 c8 c9 c10 c11:Value}(hn:W.heap.size=n)(h:RSt B W fb Lv L i op Nv nodes E place)(hs:Mv B fb w W)(hb:Below ((W.alloc o).alloc (.cells #[z0,z1,z2,z3,z4,z5,z6,z7,z8,z9,z10,z11] 178)).drew.heap.size ((W.alloc o).alloc (.cells #[z0,z1,z2,z3,z4,z5,z6,z7,z8,z9,z10,z11] 178)).drew w3):
  ∃nb,Value.pointer (some ⟨n+1,0,none⟩)=.pointer (some ⟨nb,0,none⟩)∧RSt B ((((((((((((w3.setCell ⟨n+1,0,none⟩ c0).setCell ⟨n+1,1,none⟩ c1).setCell ⟨n+1,2,none⟩ c2).setCell ⟨n+1,3,none⟩ c3).setCell ⟨n+1,4,none⟩ c4).setCell ⟨n+1,5,none⟩ c5).setCell ⟨n+1,6,none⟩ c6).setCell ⟨n+1,7,none⟩ c7).setCell ⟨n+1,8,none⟩ c8).setCell ⟨n+1,9,none⟩ c9).setCell ⟨n+1,10,none⟩ c10).setCell ⟨n+1,11,none⟩ c11) fb Lv L i op Nv nodes E place∧((((((((((((w3.setCell ⟨n+1,0,none⟩ c0).setCell ⟨n+1,1,none⟩ c1).setCell ⟨n+1,2,none⟩ c2).setCell ⟨n+1,3,none⟩ c3).setCell ⟨n+1,4,none⟩ c4).setCell ⟨n+1,5,none⟩ c5).setCell ⟨n+1,6,none⟩ c6).setCell ⟨n+1,7,none⟩ c7).setCell ⟨n+1,8,none⟩ c8).setCell ⟨n+1,9,none⟩ c9).setCell ⟨n+1,10,none⟩ c10).setCell ⟨n+1,11,none⟩ c11).heap[nb]? =some (.cells #[c0,c1,c2,c3,c4,c5,c6,c7,c8,c9,c10,c11] 178 (0,0))∧Mv B fb w ((((((((((((w3.setCell ⟨n+1,0,none⟩ c0).setCell ⟨n+1,1,none⟩ c1).setCell ⟨n+1,2,none⟩ c2).setCell ⟨n+1,3,none⟩ c3).setCell ⟨n+1,4,none⟩ c4).setCell ⟨n+1,5,none⟩ c5).setCell ⟨n+1,6,none⟩ c6).setCell ⟨n+1,7,none⟩ c7).setCell ⟨n+1,8,none⟩ c8).setCell ⟨n+1,9,none⟩ c9).setCell ⟨n+1,10,none⟩ c10).setCell ⟨n+1,11,none⟩ c11)∧B≤nb∧Nv.ownBlock≠some nb∧nb≠fb:=by
 have h0:=(two_kept hn hb).2
 have h1:Below W.heap.size W w3:=(((Below.refl _ W).alloc (Nat.le_refl _) o).alloc (by show _≤(W.heap.push o).size;simp) (.cells #[z0,z1,z2,z3,z4,z5,z6,z7,z8,z9,z10,z11] 178)).drew.trans (hb.mono (by show _≤((W.heap.push o).push _).size;simp;omega))
 have h2:=set12_below (c0:=c0) (c1:=c1) (c2:=c2) (c3:=c3) (c4:=c4) (c5:=c5) (c6:=c6) (c7:=c7) (c8:=c8) (c9:=c9) (c10:=c10) (c11:=c11) (m:=n+1) h1 (by omega)
 exact⟨_,rfl,h.below h2,set12 h0,hs.trans (Mv.ofBelow h2 h.Ble),by have:=h.Ble;omega,fun e=>by have:=(h.nds.lt _ e).2;omega,by have:=h.lt;omega⟩
end
section
variable {B:Nat}{w:World}{fb:Nat}{Lv:Value}{L:List Doc.Tok}{i op:Nat}{Nv:Value}{nodes:List NodeR}
theorem isW_of (t:Doc.Tok)(l:List UInt8):isW t ⟨l.toArray⟩=Doc.is t l:=by
 simp[isW,Doc.is,ByteArray.toList_eq]
theorem block_apart {v:Value}{row:Option Nat}{m:Nat}(h1:∀k,v.ownBlock=some k→k<m)(h2:∀k,row=some k→m≤k):v.ownBlock=none∨v.ownBlock≠row:=by
 cases hv:v.ownBlock with
 |none=>exact .inl rfl
 |some k=>exact .inr fun e=>by have:=h1 k hv;have:=h2 k e.symm;omega
theorem RSt.late {w5 w6:World}{row:Option Nat}{i0 op0 E0 p0 j op E p:Nat}(h0:RSt B w fb Lv L i0 op0 Nv nodes E0 p0)(h:RSt B w5 fb Lv L j op Nv nodes E p)(hs:Step B w w5)(hg:w5.grownBy w6 row)(hr:∀k,row=some k→w.heap.size≤k):
  RSt B w6 fb Lv L j op Nv nodes E p∧Step B w w6:=by
 refine⟨⟨(hg.block fb h.lt (fun e=>?_)).trans h.blk,h.ltok.kept hg (block_apart (fun k hk=>(h0.ltok.lt k hk).2) hr),h.nds.kept hg (block_apart (fun k hk=>(h0.nds.lt k hk).2) hr),h.base⟩,?_,?_⟩
 ·have:=hr fb e.symm;have:=h0.lt;omega
 ·exact hs.below.grown hg h.Ble (fun k hk=>by have:=hr k hk;have:=h0.Ble;omega)
 ·intro k cur hk
  have h1:=hs.toks k cur hk
  rw[hg.block k (by have:=lt_block hk;have:=hs.below.size;omega) (fun e=>by have:=hr k e.symm;have:=lt_block hk;omega)]
  exact h1
def trueNat:Value→Nat | .bool true=>1|_=>0
def litMeas (n fb:Nat)(m:Value)(wx:World):Nat:=n-(intOf ((wx.cell? ⟨fb,1,none⟩).getD undef)).toNat+trueNat m
theorem litMeas_true {n fb j:Nat}{wx:World}(h:wx.cell? ⟨fb,1,none⟩=some (.int .i64 j)):litMeas n fb (.bool true) wx=n-j+1:=by
 simp[litMeas,h,intOf,trueNat]
theorem litMeas_false {n fb j:Nat}{wx:World}(h:wx.cell? ⟨fb,1,none⟩=some (.int .i64 j)):litMeas n fb (.bool false) wx=n-j:=by
 simp[litMeas,h,intOf,trueNat]
def LitRel (B fb:Nat)(w:World)(Lv:Value)(L:List Doc.Tok)(i op:Nat)(Nv:Value)(nodes:List NodeR)(nb:Nat)(t u:Doc.Tok)(m:Value)(wx:World):Prop:=
 ∃(n j:Nat) (acc:List Doc.Tok) (lv:Value) (er p:Nat),wx.heap[nb]? =some (.cells (boxC t u lv) 178 (0,0))∧wx.ownsRow w.heap.size 175 4 lv acc.length (toksC acc)∧RSt B wx fb Lv L j op Nv nodes er p∧Step B w wx∧i+3≤j∧j<L.length∧acc.length≤j∧
  ((m=.bool true∧er=0∧p=0∧L.length-j<n∧Doc.pLits L (L.length+1) [] (i+3)=Doc.pLits L n acc j)
   ∨(m=.bool false∧er=0∧p=0∧Doc.pLits L (L.length+1) [] (i+3)=if Doc.is (Doc.tk L j) [41] then .ok acc (j+1) else .err 6 (Doc.tk L j).at_)
   ∨(m=.bool false∧0<er∧Doc.pLits L (L.length+1) [] (i+3)=.err er p))
theorem pLits_more {n j:Nat}{acc:List Doc.Tok}{x y:Doc.Tok}(hx:x=Doc.tk L j)(hy:y=Doc.tk L (j+1))(k8:Doc.lit false x=true)(k9:Doc.is y [44]=true):Doc.pLits L (n+1) acc j=Doc.pLits L n (acc++[x]) (j+2):=by
 rw[Doc.pLits,←hx,←hy,if_pos k8,if_pos k9]
theorem pLits_last {n j:Nat}{acc:List Doc.Tok}{x y:Doc.Tok}(hx:x=Doc.tk L j)(hy:y=Doc.tk L (j+1))(k8:Doc.lit false x=true)(k9:Doc.is y [44]=false):Doc.pLits L (n+1) acc j=if Doc.is (Doc.tk L (j+1)) [41] then .ok (acc++[x]) (j+1+1) else .err 6 (Doc.tk L (j+1)).at_:=by
 rw[Doc.pLits,←hx,←hy,if_pos k8,if_neg (by rw[k9];simp)]
theorem pLits_bad {n j:Nat}{acc:List Doc.Tok}{x:Doc.Tok}(hx:x=Doc.tk L j)(k8:Doc.lit false x=false):Doc.pLits L (n+1) acc j=.err 6 x.at_:=by
 rw[Doc.pLits,←hx,if_neg (by rw[k8];simp)]
theorem own_oneCell {w:World}{m e size n:Nat}{v:Value}{xs:List Value}(h:w.ownsRow m e size v n xs):v.oneCell'=true:=by
 obtain⟨_,h2⟩:=h
 rcases h2 with⟨rfl,_⟩|⟨g,cap,cur,rfl,_⟩<;>rfl
theorem own_shape {w:World}{m e size n:Nat}{v:Value}{xs:List Value}(h:w.ownsRow m e size v n xs):v=.slice none 0 0∨∃g cap,v=.slice (some ⟨g,0,none⟩) n cap:=by
 obtain⟨_,h2⟩:=h
 rcases h2 with⟨rfl,_⟩|⟨g,cap,cur,rfl,_⟩
 ·exact .inl rfl
 ·exact .inr ⟨g,cap,rfl⟩
theorem own_mono {w:World}{m m' e size n:Nat}{v:Value}{xs:List Value}(h:w.ownsRow m e size v n xs)(hm:m'≤m):w.ownsRow m' e size v n xs:=by
 obtain⟨h1,h2⟩:=h
 refine⟨h1,?_⟩
 rcases h2 with h2|⟨g,cap,cur,hv,hg,r⟩
 ·exact .inl h2
 ·exact .inr ⟨g,cap,cur,hv,by omega,r⟩
theorem box_stored {w:World}{nb:Nat}{t u:Doc.Tok}{lv v:Value}(h:w.heap[nb]? =some (.cells (boxC t u lv) 178 (0,0))):(w.setCell ⟨nb,11,none⟩ v).heap[nb]? =some (.cells (boxC t u v) 178 (0,0)):=by
 simp[World.setCell,Array.getElem?_modify,h,boxC]
theorem box_apart {w w':World}{nb:Nat}{cs:Array Value}{v:Value}{n m:Nat}{xs:List Value}(h:w.heap[nb]? =some (.cells cs 178 (0,0)))(ho:w.ownsRow m 175 4 v n xs)(hg:w.grownBy w' v.ownBlock):w'.heap[nb]? =some (.cells cs 178 (0,0)):=by
 refine(hg.block nb (lt_block h) (fun e=>?_)).trans h
 obtain⟨_,cs',h2⟩:=own_type ho e.symm
 rw[h2] at h;simp at h
theorem RSt.other {E place:Nat}(h:RSt B w fb Lv L i op Nv nodes E place){nb k:Nat}{v:Value}{cs:Array Value}(hb:w.heap[nb]? =some (.cells cs 178 (0,0)))(h1:B≤nb)(h2:Nv.ownBlock≠some nb)(h3:nb≠fb):
  RSt B (w.setCell ⟨nb,k,none⟩ v) fb Lv L i op Nv nodes E place∧Step B w (w.setCell ⟨nb,k,none⟩ v):=by
 have hst:Step B w (w.setCell ⟨nb,k,none⟩ v):=(Step.refl B w).setCell (p:=⟨nb,k,none⟩) h1 v hb (by decide)
 refine⟨⟨(Below.heap_setCell _ _ _ _ (Ne.symm h3)).trans h.blk,ownsRow_step h.ltok hst,?_,h.base⟩,hst⟩
 obtain⟨g1,g2⟩:=h.nds
 refine⟨g1,?_⟩
 rcases g2 with g2|⟨g,cap,cur,hv,hg,hh,r⟩
 ·exact .inl g2
 ·refine .inr ⟨g,cap,cur,hv,hg,?_,r⟩
  rw[Below.heap_setCell _ _ _ _ (by rintro rfl;exact h2 (by rw[hv];rfl))]
  exact hh
theorem node_test {E place:Nat}(h:RSt B w fb Lv L i op Nv nodes E place)(hn:nodes.length≤300)(t u:Doc.Tok)(v:Value)(hl:v.oneCell'=true):
  Calls Tryz.prog 134 #[.pointer (some ⟨fb,0,none⟩),.agg #[.int .u8 116,.int .i64 0,.int .i64 0,.int .u8 t.kind.toNat,.string t.S,.int .i64 t.N,.int .i64 t.at_,.int .u8 u.kind.toNat,.string u.S,.int .i64 u.N,.int .i64 u.at_,v]] w fun r w'=>
   ∃Nv',r=.returned (.int .i64 nodes.length)∧RSt B w' fb Lv L i op Nv' (nodes++[⟨116,0,0,t,u,v⟩]) E place∧Step B w w':=
 node_st h hn ⟨116,0,0,t,u,v⟩ hl
theorem rpost_ok {w6 w7:World}{Nv':Value}{t u:Doc.Tok}{v:Value}{ls:List Doc.Tok}{j:Nat}{res:Doc.Res Doc.Ast}(hres:res=.ok (.test t u ls) j)(hj:i<j)(hjl:j<L.length)
  (h7:RSt B w7 fb Lv L j op Nv' (nodes++[⟨116,0,0,t,u,v⟩]) 0 0) (ho:w6.ownsRow B 175 4 v ls.length (toksC ls)) (hs:Step B w w6) (hs7:Step B w6 w7):
  RPost B fb Lv L i op nodes w res (.returned (.int .i64 nodes.length)) w7:=by
 rw[hres]
 refine⟨nodes.length,Nv',_,rfl,h7,⟨_,rfl⟩,by simp;omega,?_,hs.trans hs7,hj,hjl⟩
 exact⟨Rep.test (n:=⟨116,0,0,t,u,v⟩) (by simp) rfl (ownsRow_step ho hs7),[⟨116,0,0,t,u,v⟩],rfl,Made.test (n:=⟨116,0,0,t,u,v⟩) .nil rfl (ownsRow_step ho hs7)⟩
theorem rpost_err {w6 w7:World}{Nv':Value}{n:NodeR}{j er p:Nat}{res:Doc.Res Doc.Ast}(hres:res=.err er p)(hj:i<j)(hjl:j<L.length)(her:0<er)
  (h7:RSt B w7 fb Lv L j op Nv' (nodes++[n]) er p) (hs:Step B w w6) (hs7:Step B w6 w7):
  RPost B fb Lv L i op nodes w res (.returned (.int .i64 nodes.length)) w7:=by
 rw[hres]
 exact⟨nodes.length,j,Nv',_,rfl,h7,⟨_,rfl⟩,by simp;omega,hs.trans hs7,her,by omega,hjl⟩
set_option maxHeartbeats 8000000 in
theorem test_any (h:RSt B w fb Lv L i op Nv nodes 0 0)(hn:nodes.length≤i)(hi:i<L.length)(hL:L.length≤300)(hE:Doc.Ended L)(hS:∀k,(Doc.tk L k).S.size≤200):
  Calls Tryz.prog 188 #[.pointer (some ⟨fb,0,none⟩)] w (RPost B fb Lv L i op nodes w (Doc.pTest L i)):=by
 obtain⟨t,HT⟩:∃t,Hid (t=Doc.tk L i):=⟨_,rfl⟩
 have H0:Hid (RSt B w fb Lv L i op Nv nodes 0 0):=h
 obtain⟨i0,hti,htz0,htz1,htz2⟩:=info_parts Tryz.infoTok
 have hts:t.S.size≤200:=by rw[HT.out];exact hS i
 by_cases k1:((t.kind==119) && Doc.nameB t.S)=true
 ·have k1':(t.kind==119)=true∧Doc.nameB t.S=true:=by simpa using k1
  have hi1:i+1<L.length:=Doc.ended_next hE hi (by rw[←HT.out];exact .inl (by simpa using k1'.1))
  have kn:((t.kind.toNat:Int) != 119)=false:=kind_ne t.kind 119 (by omega) _ k1'.1
  have K2:Hid (Doc.nameB t.S=true):=k1'.2
  have K1:Hid (((t.kind==119) && Doc.nameB t.S)=true):=k1
  obtain⟨u,HU⟩:∃u,Hid (u=Doc.tk L (i+1)):=⟨_,rfl⟩
  clear k1 k1'
  go_enter Tryz.func188,Tryz.ntmps188
  go_wp2_with fail
  refine(now_st h hi hL t ((Doc.tk_eq hi).trans HT.out.symm)).mono ?_
  rintro e w1 ⟨rfl,hb1⟩
  have h1:=h.below hb1
  have hs1:=Mv.ofBelow (fb:=fb) hb1 h.Ble
  clear h hb1
  go_wp2_with fail
  refine(name_any t.S _ (by omega)).mono ?_
  rw[K2.out]
  rintro e w2 ⟨rfl,rfl⟩
  have c1:=h1.c1
  have f1:=h1.fr 1
  have hlt:=h1.lt
  go_wp2_with fail
  obtain⟨h2,hs2⟩:=RSt.stored h1 (i:=1) (u:=.int .i64 ((i:Int)+1)) (at2:=i+1) (op2:=op) (E2:=0) (p2:=0) rfl
  have hs3:=hs1.trans hs2
  clear hs1 hs2 h1
  go_cut [5] (fun n5 wx=>∃nb,n5=.pointer (some ⟨nb,0,none⟩)∧RSt B wx fb Lv L (i+1) op Nv nodes 0 0∧wx.heap[nb]? =some (.cells (boxC t u (.slice none 0 0)) 178 (0,0))∧Mv B fb w wx∧B≤nb∧Nv.ownBlock≠some nb∧nb≠fb)
  case first=>
   have HZ:(w1.setCell ⟨fb,1,none⟩ (.int .i64 ((i:Int)+1))).heap.size=w1.heap.size:=by simp
   go_region_with (go_at_call 84;first|(refine(now_st ((h2.alloc _).drew) hi1 hL u ((Doc.tk_eq hi1).trans HU.out.symm)).mono ?_;rintro e w3 ⟨rfl,hb3⟩;have q3:=one_kept HZ hb3;obtain⟨d0,d1,d2,d3⟩:=tb_cells q3;have z3:=lt_block q3)|(refine(now_st (((h2.alloc _).alloc _).drew) hi1 hL u ((Doc.tk_eq hi1).trans HU.out.symm)).mono ?_;rintro e w3 ⟨rfl,hb3⟩;obtain⟨q3,q4⟩:=two_kept HZ hb3;have z3:=lt_block q3;have z4:=lt_block q4;obtain⟨d0,d1,d2,d3⟩:=tb_cells q3;obtain⟨e0,e1,e2,e3,e4,e5,e6,e7,e8,e9,e10,e11⟩:=nb_cells q4;obtain⟨f0,f1,f2,f3,f4,f5,f6,f7,f8,f9,f10,f11⟩:=nb_free q4))
   all_goals (go_wp2_with fail)
   all_goals go_meet
   all_goals first|exact meet1 h2 hs3 hb3|exact meet2 HZ h2 hs3 hb3
  case rest=>
   obtain⟨nb,rfl,h5,hnb,hs5,hBn,hNn,hnf⟩:=hcut
   obtain⟨e0,e1,e2,e3,e4,e5,e6,e7,e8,e9,e10,e11⟩:=nb_cells (by exact hnb)
   clear c1 f1 hlt h2 hs3
   go_wp2_with fail
   refine(compares_any u _).mono ?_
   by_cases k3:Doc.cmpB u=true
   ·have K3:Hid (Doc.cmpB u=true):=k3
    have hi2:i+2<L.length:=Doc.ended_next hE hi1 (by rw[←HU.out];exact Doc.cmpB_kind k3)
    obtain⟨v,HV⟩:∃v,Hid (v=Doc.tk L (i+2)):=⟨_,rfl⟩
    rw[k3]
    clear k3
    rintro e w4 ⟨rfl,hb4⟩
    have h6:=h5.below hb4
    have hs6:=hs5.trans (Mv.ofBelow (fb:=fb) hb4 h5.Ble)
    have hnb6:=(hb4.block nb (lt_block hnb)).trans hnb
    clear h5 hs5 hnb hb4 e0 e1 e2 e3 e4 e5 e6 e7 e8 e9 e10 e11
    obtain⟨e0,e1,e2,e3,e4,e5,e6,e7,e8,e9,e10,e11⟩:=nb_cells (by exact hnb6)
    have c1:=h6.c1
    have f1:=h6.fr 1
    have hlt6:=lt_block hnb6
    go_wp2_with fail
    obtain⟨h7,hs7⟩:=RSt.stored h6 (i:=1) (u:=.int .i64 ((i:Int)+1+1)) (at2:=i+2) (op2:=op) (E2:=0) (p2:=0) rfl
    have hs8:=hs6.trans hs7
    have hnb7:=hs7.blk hnb6 hnf
    clear e0 e1 e2 e3 e4 e5 e6 e7 e8 e9 e10 e11 c1 f1 h6 hs6 hs7 hnb6
    by_cases k4:Doc.lit false v=true
    ·have HP:Hid (Doc.pTest L i=.ok (.test t u [v]) (i+3)):=by show _=_;unfold Doc.pTest;rw[←HT.out,←HU.out,if_pos K1.out,if_pos K3.out,←HV.out,if_pos k4]
     have hi3:i+3<L.length:=Doc.ended_next hE hi2 (by rw[←HV.out];exact Doc.lit_kind k4)
     refine(lit_yes h7 hi2 hL false v ((Doc.tk_eq hi2).trans HV.out.symm) k4).mono ?_
     rintro e w5 ⟨g,rfl,hown,h9,hs9⟩
     have hnb9:=hs9.blk hnb7 hnf
     obtain⟨e0,e1,e2,e3,e4,e5,e6,e7,e8,e9,e10,e11⟩:=nb_cells (by exact hnb9)
     have f11:=blk_free hnb9 11
     go_wp2_with fail
     obtain⟨h10,hs10⟩:=RSt.other h9 (k:=11) (v:=.slice (some ⟨g,0,none⟩) 1 1) hnb9 hBn hNn hnf
     refine(node_test h10 (by omega) t u _ rfl).mono ?_
     rintro e w6 ⟨Nv',rfl,h11,hs11⟩
     go_wp2_with fail
     go_ret
     exact rpost_ok (ls:=[v]) HP.out (by omega) hi3 h11 (ownsRow_step (xs:=toksC [v]) (by simpa[toksC] using hown) hs10) ((hs8.step.trans hs9.step).trans hs10) hs11
    ·have k4:Doc.lit false v=false:=by simpa using k4
     have HP:Hid (Doc.pTest L i=.err 6 v.at_):=by show _=_;unfold Doc.pTest;rw[←HT.out,←HU.out,if_pos K1.out,if_pos K3.out,←HV.out,if_neg (by rw[k4];simp)]
     refine(lit_no h7 hi2 hL false v ((Doc.tk_eq hi2).trans HV.out.symm) k4).mono ?_
     rintro e w5 ⟨rfl,h9,hs9⟩
     have hnb9:=hs9.blk hnb7 hnf
     obtain⟨e0,e1,e2,e3,e4,e5,e6,e7,e8,e9,e10,e11⟩:=nb_cells (by exact hnb9)
     have f11:=blk_free hnb9 11
     go_wp2_with fail
     obtain⟨h10,hs10⟩:=RSt.other h9 (k:=11) (v:=.slice none 0 0) hnb9 hBn hNn hnf
     refine(node_test h10 (by omega) t u _ rfl).mono ?_
     rintro e w6 ⟨Nv',rfl,h11,hs11⟩
     go_wp2_with fail
     go_ret
     exact rpost_err HP.out (by omega) hi2 (by omega) h11 ((hs8.step.trans hs9.step).trans hs10) hs11
   ·have k3:Doc.cmpB u=false:=by simpa using k3
    have K3:Hid (Doc.cmpB u=false):=k3
    rw[k3]
    clear k3
    by_cases k5:Doc.isWord u Doc.wLike=true
    ·have K5:Hid (Doc.isWord u Doc.wLike=true):=k5
     have hi2:i+2<L.length:=Doc.ended_next hE hi1 (by rw[←HU.out];exact Doc.isWord_kind k5)
     obtain⟨v,HV⟩:∃v,Hid (v=Doc.tk L (i+2)):=⟨_,rfl⟩
     have k5':(u.kind==119)=true∧(u.S.toList==Doc.wLike)=true:=by simpa[Doc.isWord] using k5
     have ku:((u.kind.toNat:Int)==119)=true:=kind_int u.kind 119 (by omega) _ k5'.1
     have ks:(u.S.toList==[108,105,107,101])=true:=k5'.2
     clear k5 k5'
     rintro e w4 ⟨rfl,hb4⟩
     have h6:=h5.below hb4
     have hs6:=hs5.trans (Mv.ofBelow (fb:=fb) hb4 h5.Ble)
     have hnb6:=(hb4.block nb (lt_block hnb)).trans hnb
     clear h5 hs5 hnb hb4 e0 e1 e2 e3 e4 e5 e6 e7 e8 e9 e10 e11
     obtain⟨e0,e1,e2,e3,e4,e5,e6,e7,e8,e9,e10,e11⟩:=nb_cells (by exact hnb6)
     have c1:=h6.c1
     have f1:=h6.fr 1
     have hlt6:=lt_block hnb6
     go_wp2_with fail
     obtain⟨h7,hs7⟩:=RSt.stored h6 (i:=1) (u:=.int .i64 ((i:Int)+1+1)) (at2:=i+2) (op2:=op) (E2:=0) (p2:=0) rfl
     have hs8:=hs6.trans hs7
     have hnb7:=hs7.blk hnb6 hnf
     clear e0 e1 e2 e3 e4 e5 e6 e7 e8 e9 e10 e11 c1 f1 h6 hs6 hs7 hnb6
     by_cases k4:Doc.lit true v=true
     ·have HP:Hid (Doc.pTest L i=.ok (.test t u [v]) (i+3)):=by show _=_;unfold Doc.pTest;rw[←HT.out,←HU.out,if_pos K1.out,if_neg (by rw[K3.out];simp),if_pos K5.out,←HV.out,if_pos k4]
      have hi3:i+3<L.length:=Doc.ended_next hE hi2 (by rw[←HV.out];exact Doc.lit_kind k4)
      refine(lit_yes h7 hi2 hL true v ((Doc.tk_eq hi2).trans HV.out.symm) k4).mono ?_
      rintro e w5 ⟨g,rfl,hown,h9,hs9⟩
      have hnb9:=hs9.blk hnb7 hnf
      obtain⟨e0,e1,e2,e3,e4,e5,e6,e7,e8,e9,e10,e11⟩:=nb_cells (by exact hnb9)
      have f11:=blk_free hnb9 11
      go_wp2_with fail
      obtain⟨h10,hs10⟩:=RSt.other h9 (k:=11) (v:=.slice (some ⟨g,0,none⟩) 1 1) hnb9 hBn hNn hnf
      refine(node_test h10 (by omega) t u _ rfl).mono ?_
      rintro e w6 ⟨Nv',rfl,h11,hs11⟩
      go_wp2_with fail
      go_ret
      exact rpost_ok (ls:=[v]) HP.out (by omega) hi3 h11 (ownsRow_step (xs:=toksC [v]) (by simpa[toksC] using hown) hs10) ((hs8.step.trans hs9.step).trans hs10) hs11
     ·have k4:Doc.lit true v=false:=by simpa using k4
      have HP:Hid (Doc.pTest L i=.err 6 v.at_):=by show _=_;unfold Doc.pTest;rw[←HT.out,←HU.out,if_pos K1.out,if_neg (by rw[K3.out];simp),if_pos K5.out,←HV.out,if_neg (by rw[k4];simp)]
      refine(lit_no h7 hi2 hL true v ((Doc.tk_eq hi2).trans HV.out.symm) k4).mono ?_
      rintro e w5 ⟨rfl,h9,hs9⟩
      have hnb9:=hs9.blk hnb7 hnf
      obtain⟨e0,e1,e2,e3,e4,e5,e6,e7,e8,e9,e10,e11⟩:=nb_cells (by exact hnb9)
      have f11:=blk_free hnb9 11
      go_wp2_with fail
      obtain⟨h10,hs10⟩:=RSt.other h9 (k:=11) (v:=.slice none 0 0) hnb9 hBn hNn hnf
      refine(node_test h10 (by omega) t u _ rfl).mono ?_
      rintro e w6 ⟨Nv',rfl,h11,hs11⟩
      go_wp2_with fail
      go_ret
      exact rpost_err HP.out (by omega) hi2 (by omega) h11 ((hs8.step.trans hs9.step).trans hs10) hs11
    ·have k5:Doc.isWord u Doc.wLike=false:=by simpa using k5
     have K5:Hid (Doc.isWord u Doc.wLike=false):=k5
     clear k5
     by_cases k6:Doc.isWord u Doc.wIs=true
     ·have K6:Hid (Doc.isWord u Doc.wIs=true):=k6
      have hi2:i+2<L.length:=Doc.ended_next hE hi1 (by rw[←HU.out];exact Doc.isWord_kind k6)
      obtain⟨v,HV⟩:∃v,Hid (v=Doc.tk L (i+2)):=⟨_,rfl⟩
      have k6':(u.kind==119)=true∧(u.S.toList==Doc.wIs)=true:=by simpa[Doc.isWord] using k6
      have ku:((u.kind.toNat:Int)==119)=true:=kind_int u.kind 119 (by omega) _ k6'.1
      have ks:(u.S.toList==[108,105,107,101])=false:=by
       have:=K5.out;rw[Doc.isWord,k6'.1,Bool.true_and] at this;exact this
      have ks2:(u.S.toList==[105,115])=true:=k6'.2
      clear k6 k6'
      rintro e w4 ⟨rfl,hb4⟩
      have h6:=h5.below hb4
      have hs6:=hs5.trans (Mv.ofBelow (fb:=fb) hb4 h5.Ble)
      have hnb6:=(hb4.block nb (lt_block hnb)).trans hnb
      clear h5 hs5 hnb hb4 e0 e1 e2 e3 e4 e5 e6 e7 e8 e9 e10 e11
      obtain⟨e0,e1,e2,e3,e4,e5,e6,e7,e8,e9,e10,e11⟩:=nb_cells (by exact hnb6)
      have c1:=h6.c1
      have f1:=h6.fr 1
      have hlt6:=lt_block hnb6
      go_wp2_with fail
      obtain⟨h7,hs7⟩:=RSt.stored h6 (i:=1) (u:=.int .i64 ((i:Int)+1+1)) (at2:=i+2) (op2:=op) (E2:=0) (p2:=0) rfl
      have hs8:=hs6.trans hs7
      have hnb7:=hs7.blk hnb6 hnf
      clear e0 e1 e2 e3 e4 e5 e6 e7 e8 e9 e10 e11 c1 f1 h6 hs6 hs7 hnb6
      by_cases k4:Doc.is v Doc.wNull=true
      ·have HP:Hid (Doc.pTest L i=.ok (.test t u []) (i+3)):=by show _=_;unfold Doc.pTest;rw[←HT.out,←HU.out,if_pos K1.out,if_neg (by rw[K3.out];simp),if_neg (by rw[K5.out];simp),if_pos K6.out,←HV.out,if_pos k4]
       have hi3:i+3<L.length:=Doc.ended_next hE hi2 (by rw[←HV.out];exact Doc.is_kind k4)
       refine(must_yes h7 hi2 hL _ (by rw[Doc.tk_eq hi2,←HV.out];exact(isW_of v Doc.wNull).trans k4)).mono ?_
       rintro e w5 ⟨rfl,h9,hs9⟩
       have hnb9:=hs9.blk hnb7 hnf
       obtain⟨e0,e1,e2,e3,e4,e5,e6,e7,e8,e9,e10,e11⟩:=nb_cells (by exact hnb9)
       go_wp2_with fail
       refine(node_test h9 (by omega) t u _ rfl).mono ?_
       rintro e w6 ⟨Nv',rfl,h11,hs11⟩
       go_wp2_with fail
       go_ret
       exact rpost_ok (ls:=[]) HP.out (by omega) hi3 h11 (World.ownsRow_nil _ _ _ _) (hs8.step.trans hs9.step) hs11
      ·have k4:Doc.is v Doc.wNull=false:=by simpa using k4
       have HP:Hid (Doc.pTest L i=.err 6 v.at_):=by show _=_;unfold Doc.pTest;rw[←HT.out,←HU.out,if_pos K1.out,if_neg (by rw[K3.out];simp),if_neg (by rw[K5.out];simp),if_pos K6.out,←HV.out,if_neg (by rw[k4];simp)]
       refine(must_no h7 hi2 hL _ (by rw[Doc.tk_eq hi2,←HV.out];exact(isW_of v Doc.wNull).trans k4)).mono ?_
       rintro e w5 ⟨rfl,h9,hs9⟩
       have hnb9:=hs9.blk hnb7 hnf
       obtain⟨e0,e1,e2,e3,e4,e5,e6,e7,e8,e9,e10,e11⟩:=nb_cells (by exact hnb9)
       go_wp2_with fail
       refine(node_test h9 (by omega) t u _ rfl).mono ?_
       rintro e w6 ⟨Nv',rfl,h11,hs11⟩
       go_wp2_with fail
       go_ret
       rw[Doc.tk_eq hi2,←HV.out] at h11
       exact rpost_err HP.out (by omega) hi2 (by omega) h11 (hs8.step.trans hs9.step) hs11
     ·have k6:Doc.isWord u Doc.wIs=false:=by simpa using k6
      have K6:Hid (Doc.isWord u Doc.wIs=false):=k6
      clear k6
      by_cases k7:Doc.isWord u Doc.wIn=true
      ·have K7:Hid (Doc.isWord u Doc.wIn=true):=k7
       have hi2:i+2<L.length:=Doc.ended_next hE hi1 (by rw[←HU.out];exact Doc.isWord_kind k7)
       obtain⟨v,HV⟩:∃v,Hid (v=Doc.tk L (i+2)):=⟨_,rfl⟩
       have k7':(u.kind==119)=true∧(u.S.toList==Doc.wIn)=true:=by simpa[Doc.isWord] using k7
       have ku:((u.kind.toNat:Int)==119)=true:=kind_int u.kind 119 (by omega) _ k7'.1
       have ks:(u.S.toList==[108,105,107,101])=false:=by
        have:=K5.out;rw[Doc.isWord,k7'.1,Bool.true_and] at this;exact this
       have ks2:(u.S.toList==[105,115])=false:=by
        have:=K6.out;rw[Doc.isWord,k7'.1,Bool.true_and] at this;exact this
       have ks3:(u.S.toList==[105,110])=true:=k7'.2
       clear k7 k7'
       rintro e w4 ⟨rfl,hb4⟩
       have h6:=h5.below hb4
       have hs6:=hs5.trans (Mv.ofBelow (fb:=fb) hb4 h5.Ble)
       have hnb6:=(hb4.block nb (lt_block hnb)).trans hnb
       clear h5 hs5 hnb hb4 e0 e1 e2 e3 e4 e5 e6 e7 e8 e9 e10 e11
       obtain⟨e0,e1,e2,e3,e4,e5,e6,e7,e8,e9,e10,e11⟩:=nb_cells (by exact hnb6)
       have c1:=h6.c1
       have f1:=h6.fr 1
       have hlt6:=lt_block hnb6
       go_wp2_with fail
       obtain⟨h7,hs7⟩:=RSt.stored h6 (i:=1) (u:=.int .i64 ((i:Int)+1+1)) (at2:=i+2) (op2:=op) (E2:=0) (p2:=0) rfl
       have hs8:=hs6.trans hs7
       have hnb7:=hs7.blk hnb6 hnf
       clear e0 e1 e2 e3 e4 e5 e6 e7 e8 e9 e10 e11 c1 f1 h6 hs6 hs7 hnb6
       by_cases k4:Doc.is v [40]=true
       ·have HP:Hid (Doc.pTest L i=match Doc.pLits L (L.length+1) [] (i+3) with | .ok l j=>.ok (.test t u l) j | .err e p=>.err e p):=by show _=_;unfold Doc.pTest;rw[←HT.out,←HU.out,if_pos K1.out,if_neg (by rw[K3.out];simp),if_neg (by rw[K5.out];simp),if_neg (by rw[K6.out];simp),if_pos K7.out,←HV.out,if_pos k4];rfl
        have hi3:i+3<L.length:=Doc.ended_next hE hi2 (by rw[←HV.out];exact Doc.is_kind k4)
        refine(must_yes h7 hi2 hL _ (by rw[Doc.tk_eq hi2,←HV.out];exact(isW_of v [40]).trans k4)).mono ?_
        rintro e w5 ⟨rfl,h9,hs9⟩
        have hnb9:=hs9.blk hnb7 hnf
        have c4:=h9.c4z
        clear k4
        go_wp2_with fail
        clear c4
        go_loopw [8,9] (fun m _ wx=>LitRel B fb w Lv L i op Nv nodes nb t u m wx) (fun m _ wx=>litMeas L.length fb m wx)
        case atStart=>exact⟨L.length+1,i+3,[],.slice none 0 0,0,0,hnb9,World.ownsRow_nil _ _ _ _,h9,hs8.step.trans hs9.step,by omega,hi3,by simp,.inl ⟨rfl,rfl,rfl,by omega,rfl⟩⟩
        case round=>
         obtain⟨n,j,acc,lv,er,p,hnbx,hownx,hx,hsx,hj1,hj2,hacc,hcase⟩:=hrel
         clear h7 hs8 hnb7 h9 hs9 hnb9 hlt6
         rcases hcase with⟨rfl,rfl,rfl,hn1,HL'⟩|⟨rfl,rfl,rfl,HL'⟩|⟨rfl,her,HL'⟩
         ·have HLI:Hid (Doc.pLits L (L.length+1) [] (i+3)=Doc.pLits L n acc j):=HL'
          clear HL'
          obtain⟨n,rfl⟩:∃q,n=q+1:=⟨n-1,by omega⟩
          obtain⟨x,HX⟩:∃x,Hid (x=Doc.tk L j):=⟨_,rfl⟩
          have hms:=litMeas_true (n:=L.length) hx.c1
          by_cases k8:Doc.lit false x=true
          ·have hj3:j+1<L.length:=Doc.ended_next hE hj2 (by rw[←HX.out];exact Doc.lit_kind k8)
           obtain⟨y,HY⟩:∃y,Hid (y=Doc.tk L (j+1)):=⟨_,rfl⟩
           go_wp2_with fail
           refine(lit_yes hx hj2 hL false x ((Doc.tk_eq hj2).trans HX.out.symm) k8).mono ?_
           rintro e w9 ⟨g,rfl,hown9,h12,hs12⟩
           have hnb12:=hs12.blk hnbx hnf
           have hownA:=ownsRow_step hownx hs12.step
           have hsA:=hsx.trans hs12.step
           obtain⟨e0,e1,e2,e3,e4,e5,e6,e7,e8,e9,e10,e11⟩:=nb_cells (by exact hnb12)
           go_wp2_with (at_builtin;refine wpList_append_own _ rfl (.tmp 117) (.tmp 118) 133 rfl w.heap.size 175 i0 _ 4 40 Tryz.underlying133 hti htz0 htz1 htz2 rfl (by decide) _ _ _ rfl hownA ⟨g,0,none⟩ 1 1 (tokC x) rfl rfl (hown9.cells rfl) (tokC_one x) ?c3 ?c4 hsA.below.size ?_)
           case c3=>unfold maxLen;omega
           case c4=>omega
           intro v2 w10 hown10 hgrow10 _
           obtain⟨g2,cap2,rfl⟩:=own_slice hown10
           obtain⟨h13,hs13⟩:=RSt.late H0.out h12 hsA hgrow10 (fun k hk=>(hownA.lt k hk).1)
           have hnb13:=box_apart hnb12 hownA hgrow10
           clear e0 e1 e2 e3 e4 e5 e6 e7 e8 e9 e10 e11
           obtain⟨e0,e1,e2,e3,e4,e5,e6,e7,e8,e9,e10,e11⟩:=nb_cells (by exact hnb13)
           have f11:=blk_free hnb13 11
           have c4:=h13.c4z
           obtain⟨h14,hs14⟩:=RSt.other h13 (k:=11) (v:=.slice (some ⟨g2,0,none⟩) (acc.length+1) cap2) hnb13 hBn hNn hnf
           have hnb14:=box_stored (v:=.slice (some ⟨g2,0,none⟩) (acc.length+1) cap2) hnb13
           have hown14:(w10.setCell ⟨nb,11,none⟩ (.slice (some ⟨g2,0,none⟩) (acc.length+1) cap2)).ownsRow w.heap.size 175 4 (.slice (some ⟨g2,0,none⟩) (acc.length+1) cap2) (acc++[x]).length (toksC (acc++[x])):=by
            rw[len_snoc,toksC_snoc];exact ownsRow_step hown10 hs14
           have hs14':=hs13.trans hs14
           clear hgrow10 hown10 hown9 hownA hsA hs12 h12 hx hsx hownx hnbx hnb12 hs13 hs14 hnb13 h13
           go_wp2_with fail
           refine(is_st h14 hj3 hL y ((Doc.tk_eq hj3).trans HY.out.symm) _).mono ?_
           rw[isW_of y [44]]
           by_cases k9:Doc.is y [44]=true
           ·have hj4:j+2<L.length:=Doc.ended_next hE hj3 (by rw[←HY.out];exact Doc.is_kind k9)
            have HN:Hid (Doc.pLits L (L.length+1) [] (i+3)=Doc.pLits L n (acc++[x]) (j+2)):=HLI.out.trans (pLits_more HX.out HY.out k8 k9)
            rw[k9]
            rintro e w11 ⟨rfl,hb15⟩
            have h15:=h14.below hb15
            have hs15:=hs14'.trans (Step.ofBelow hb15 h14.Ble)
            have hnb15:=(hb15.block nb (lt_block hnb14)).trans hnb14
            have hown15:=ownsRow_below hown14 hb15
            have c1:=h15.c1
            have f1:=h15.fr 1
            clear h14 hb15 hnb14 hown14 hs14' k9 k8 e0 e1 e2 e3 e4 e5 e6 e7 e8 e9 e10 e11 c4 f11
            go_wp2_with fail
            obtain⟨h16,hs16⟩:=RSt.stored h15 (i:=1) (u:=.int .i64 ((j:Int)+1+1)) (at2:=j+2) (op2:=op) (E2:=0) (p2:=0) rfl
            go_roundw
            case rel=>exact⟨n,j+2,acc++[x],_,0,0,hs16.blk hnb15 hnf,ownsRow_step hown15 hs16.step,h16,hs15.trans hs16.step,by omega,hj4,by simp;omega,.inl ⟨rfl,rfl,rfl,by omega,HN.out⟩⟩
            case measure=>rw[hms,litMeas_true (n:=L.length) h16.c1];omega
           ·have k9:Doc.is y [44]=false:=by simpa using k9
            have HN:Hid (Doc.pLits L (L.length+1) [] (i+3)=if Doc.is (Doc.tk L (j+1)) [41] then .ok (acc++[x]) (j+1+1) else .err 6 (Doc.tk L (j+1)).at_):=HLI.out.trans (pLits_last HX.out HY.out k8 k9)
            rw[k9]
            rintro e w11 ⟨rfl,hb15⟩
            have h15:=h14.below hb15
            have hs15:=hs14'.trans (Step.ofBelow hb15 h14.Ble)
            have hnb15:=(hb15.block nb (lt_block hnb14)).trans hnb14
            have hown15:=ownsRow_below hown14 hb15
            clear h14 hb15 hnb14 hown14 hs14' k9 k8 e0 e1 e2 e3 e4 e5 e6 e7 e8 e9 e10 e11 c4 f11
            go_wp2_with fail
            go_roundw
            case rel=>exact⟨n,j+1,acc++[x],_,0,0,hnb15,hown15,h15,hs15,by omega,hj3,by simp;omega,.inr (.inl ⟨rfl,rfl,rfl,HN.out⟩)⟩
            case measure=>rw[hms,litMeas_false (n:=L.length) h15.c1];omega
          ·have k8:Doc.lit false x=false:=by simpa using k8
           have HN:Hid (Doc.pLits L (L.length+1) [] (i+3)=.err 6 x.at_):=HLI.out.trans (pLits_bad HX.out k8)
           go_wp2_with fail
           refine(lit_no hx hj2 hL false x ((Doc.tk_eq hj2).trans HX.out.symm) k8).mono ?_
           rintro e w9 ⟨rfl,h12,hs12⟩
           have hnb12:=hs12.blk hnbx hnf
           have hownA:=ownsRow_step hownx hs12.step
           have hsA:=hsx.trans hs12.step
           obtain⟨e0,e1,e2,e3,e4,e5,e6,e7,e8,e9,e10,e11⟩:=nb_cells (by exact hnb12)
           have f11:=blk_free hnb12 11
           have c4:=h12.c4
           obtain⟨h14,hs14⟩:=RSt.other h12 (k:=11) (v:=lv) hnb12 hBn hNn hnf
           have hnb14:=box_stored (v:=lv) hnb12
           have hown14:=ownsRow_step hownA hs14
           have hs14':=hsA.trans hs14
           clear hx hsx hownx hnbx hs12 hsA hs14 k8
           rcases own_shape hownA with rfl|⟨g0,cap0,rfl⟩
           all_goals
            go_wp2_with (at_builtin;refine wpList_append_own_none rfl (.tmp 117) (.tmp 118) 133 rfl w.heap.size 175 i0 4 Tryz.underlying133 hti _ _ _ rfl hownA rfl ?_)
            go_roundw
            case rel=>exact⟨n,j,acc,_,6,x.at_,hnb14,hown14,h14,hs14',hj1,hj2,hacc,.inr (.inr ⟨rfl,by omega,HN.out⟩)⟩
            case measure=>rw[hms,litMeas_false (n:=L.length) h14.c1];omega
         ·have HLI:Hid (Doc.pLits L (L.length+1) [] (i+3)=if Doc.is (Doc.tk L j) [41] then .ok acc (j+1) else .err 6 (Doc.tk L j).at_):=HL'
          clear HL'
          obtain⟨x,HX⟩:∃x,Hid (x=Doc.tk L j):=⟨_,rfl⟩
          obtain⟨e0,e1,e2,e3,e4,e5,e6,e7,e8,e9,e10,e11⟩:=nb_cells (by exact hnbx)
          have c4:=hx.c4z
          go_wp2_with fail
          clear c4 e0 e1 e2 e3 e4 e5 e6 e7 e8 e9 e10 e11
          by_cases k8:Doc.is x [41]=true
          ·have HN:Hid (Doc.pTest L i=.ok (.test t u acc) (j+1)):=by
            have h1:=HP.out
            rw[HLI.out,←HX.out,if_pos k8] at h1
            exact h1
           have hj3:j+1<L.length:=Doc.ended_next hE hj2 (by rw[←HX.out];exact Doc.is_kind k8)
           refine(must_yes hx hj2 hL _ (by rw[Doc.tk_eq hj2,←HX.out];exact(isW_of x [41]).trans k8)).mono ?_
           rintro e w9 ⟨rfl,h12,hs12⟩
           have hnb12:=hs12.blk hnbx hnf
           obtain⟨e0,e1,e2,e3,e4,e5,e6,e7,e8,e9,e10,e11⟩:=nb_cells (by exact hnb12)
           go_wp2_with fail
           refine(node_test h12 (by omega) t u _ (own_oneCell hownx)).mono ?_
           rintro e w10 ⟨Nv',rfl,h13,hs13⟩
           go_wp2_with fail
           go_ret
           exact rpost_ok (ls:=acc) HN.out (by omega) hj3 h13 (ownsRow_step (own_mono hownx H0.out.Ble) hs12.step) (hsx.trans hs12.step) hs13
          ·have k8:Doc.is x [41]=false:=by simpa using k8
           have HN:Hid (Doc.pTest L i=.err 6 x.at_):=by
            have h1:=HP.out
            rw[HLI.out,←HX.out,if_neg (by rw[k8];simp)] at h1
            exact h1
           refine(must_no hx hj2 hL _ (by rw[Doc.tk_eq hj2,←HX.out];exact(isW_of x [41]).trans k8)).mono ?_
           rintro e w9 ⟨rfl,h12,hs12⟩
           have hnb12:=hs12.blk hnbx hnf
           obtain⟨e0,e1,e2,e3,e4,e5,e6,e7,e8,e9,e10,e11⟩:=nb_cells (by exact hnb12)
           go_wp2_with fail
           refine(node_test h12 (by omega) t u _ (own_oneCell hownx)).mono ?_
           rintro e w10 ⟨Nv',rfl,h13,hs13⟩
           go_wp2_with fail
           go_ret
           rw[Doc.tk_eq hj2,←HX.out] at h13
           exact rpost_err HN.out (by omega) hj2 (by omega) h13 (hsx.trans hs12.step) hs13
         ·have HN:Hid (Doc.pTest L i=.err er p):=by
           have h1:=HP.out
           rw[HL'] at h1
           exact h1
          clear HL'
          obtain⟨e0,e1,e2,e3,e4,e5,e6,e7,e8,e9,e10,e11⟩:=nb_cells (by exact hnbx)
          have c4:=hx.c4
          have hz:((er:Int)==0)=false:=by rw[beq_eq_false_iff_ne];omega
          go_wp2_with fail
          refine(node_test hx (by omega) t u _ (own_oneCell hownx)).mono ?_
          rintro e w10 ⟨Nv',rfl,h13,hs13⟩
          go_wp2_with fail
          go_ret
          exact rpost_err HN.out (by omega) hj2 her h13 hsx hs13
       ·have k4:Doc.is v [40]=false:=by simpa using k4
        have HP:Hid (Doc.pTest L i=.err 6 v.at_):=by show _=_;unfold Doc.pTest;rw[←HT.out,←HU.out,if_pos K1.out,if_neg (by rw[K3.out];simp),if_neg (by rw[K5.out];simp),if_neg (by rw[K6.out];simp),if_pos K7.out,←HV.out,if_neg (by rw[k4];simp)]
        refine(must_no h7 hi2 hL _ (by rw[Doc.tk_eq hi2,←HV.out];exact(isW_of v [40]).trans k4)).mono ?_
        rintro e w5 ⟨rfl,h9,hs9⟩
        have hnb9:=hs9.blk hnb7 hnf
        obtain⟨e0,e1,e2,e3,e4,e5,e6,e7,e8,e9,e10,e11⟩:=nb_cells (by exact hnb9)
        have c4:=h9.c4
        rw[Doc.tk_eq hi2,←HV.out] at h9
        clear k4
        go_wp2_with fail
        refine wp_loop_rounds 1 ?_
        rw[rounds_succ]
        go_wp2_with fail
        refine(node_test h9 (by omega) t u _ rfl).mono ?_
        rintro e w6 ⟨Nv',rfl,h11,hs11⟩
        go_wp2_with fail
        go_ret
        exact rpost_err HP.out (by omega) hi2 (by omega) h11 (hs8.step.trans hs9.step) hs11
      ·have k7:Doc.isWord u Doc.wIn=false:=by simpa using k7
       have HP:Hid (Doc.pTest L i=.err 6 u.at_):=by show _=_;unfold Doc.pTest;rw[←HT.out,←HU.out,if_pos K1.out,if_neg (by rw[K3.out];simp),if_neg (by rw[K5.out];simp),if_neg (by rw[K6.out];simp),if_neg (by rw[k7];simp)]
       by_cases ku':(u.kind==119)=true
       ·have ku:((u.kind.toNat:Int)==119)=true:=kind_int u.kind 119 (by omega) _ ku'
        have ks:(u.S.toList==[108,105,107,101])=false:=by
         have:=K5.out;rw[Doc.isWord,ku',Bool.true_and] at this;exact this
        have ks2:(u.S.toList==[105,115])=false:=by
         have:=K6.out;rw[Doc.isWord,ku',Bool.true_and] at this;exact this
        have ks3:(u.S.toList==[105,110])=false:=by
         rw[Doc.isWord,ku',Bool.true_and] at k7;exact k7
        clear k7 ku'
        rintro e w4 ⟨rfl,hb4⟩
        have h6:=h5.below hb4
        have hs6:=hs5.trans (Mv.ofBelow (fb:=fb) hb4 h5.Ble)
        have hnb6:=(hb4.block nb (lt_block hnb)).trans hnb
        clear h5 hs5 hnb hb4 e0 e1 e2 e3 e4 e5 e6 e7 e8 e9 e10 e11
        obtain⟨e0,e1,e2,e3,e4,e5,e6,e7,e8,e9,e10,e11⟩:=nb_cells (by exact hnb6)
        go_wp2_with fail
        refine(wrong_new h6 hi1 hL u ((Doc.tk_eq hi1).trans HU.out.symm) 6).mono ?_
        rintro e w5 ⟨rfl,h9,hs9⟩
        go_wp2_with fail
        go_ret
        rw[HP.out]
        exact⟨0,i+1,Nv,nodes,rfl,h9,List.prefix_rfl,by omega,(hs6.trans hs9).step,by omega,by omega,hi1⟩
       ·have ku':(u.kind==119)=false:=by simpa using ku'
        have ku:((u.kind.toNat:Int)==119)=false:=kind_int u.kind 119 (by omega) _ ku'
        clear k7 ku'
        rintro e w4 ⟨rfl,hb4⟩
        have h6:=h5.below hb4
        have hs6:=hs5.trans (Mv.ofBelow (fb:=fb) hb4 h5.Ble)
        have hnb6:=(hb4.block nb (lt_block hnb)).trans hnb
        clear h5 hs5 hnb hb4 e0 e1 e2 e3 e4 e5 e6 e7 e8 e9 e10 e11
        obtain⟨e0,e1,e2,e3,e4,e5,e6,e7,e8,e9,e10,e11⟩:=nb_cells (by exact hnb6)
        go_wp2_with fail
        refine(wrong_new h6 hi1 hL u ((Doc.tk_eq hi1).trans HU.out.symm) 6).mono ?_
        rintro e w5 ⟨rfl,h9,hs9⟩
        go_wp2_with fail
        go_ret
        rw[HP.out]
        exact⟨0,i+1,Nv,nodes,rfl,h9,List.prefix_rfl,by omega,(hs6.trans hs9).step,by omega,by omega,hi1⟩
 ·have k1:((t.kind==119) && Doc.nameB t.S)=false:=by simpa using k1
  have HP:Hid (Doc.pTest L i=.err 6 t.at_):=by show _=_;unfold Doc.pTest;rw[←HT.out,if_neg (by rw[k1];simp)]
  by_cases kt:(t.kind==119)=true
  ·have kn:((t.kind.toNat:Int) != 119)=false:=kind_ne t.kind 119 (by omega) _ kt
   have K2:Hid (Doc.nameB t.S=false):=by rw[kt,Bool.true_and] at k1;exact k1
   clear k1 kt
   go_enter Tryz.func188,Tryz.ntmps188
   go_wp2_with fail
   refine(now_st h hi hL t ((Doc.tk_eq hi).trans HT.out.symm)).mono ?_
   rintro e w1 ⟨rfl,hb1⟩
   have h1:=h.below hb1
   have hs1:=Mv.ofBelow (fb:=fb) hb1 h.Ble
   clear h hb1
   go_wp2_with fail
   refine(name_any t.S _ (by omega)).mono ?_
   rw[K2.out]
   rintro e w2 ⟨rfl,rfl⟩
   go_wp2_with fail
   refine(wrong_new (h1.alloc _) hi hL t ((Doc.tk_eq hi).trans HT.out.symm) 6).mono ?_
   rintro e w5 ⟨rfl,h9,hs9⟩
   go_wp2_with fail
   go_ret
   rw[HP.out]
   exact⟨0,i,Nv,nodes,rfl,h9,List.prefix_rfl,by omega,((hs1.alloc h1.Ble _).trans hs9).step,by omega,by omega,hi⟩
  ·have kt:(t.kind==119)=false:=by simpa using kt
   have kn:((t.kind.toNat:Int) != 119)=true:=kind_ne t.kind 119 (by omega) _ kt
   obtain⟨b,K2⟩:∃b,Hid (Doc.nameB t.S=b):=⟨_,rfl⟩
   clear k1 kt
   go_enter Tryz.func188,Tryz.ntmps188
   go_wp2_with fail
   refine(now_st h hi hL t ((Doc.tk_eq hi).trans HT.out.symm)).mono ?_
   rintro e w1 ⟨rfl,hb1⟩
   have h1:=h.below hb1
   have hs1:=Mv.ofBelow (fb:=fb) hb1 h.Ble
   clear h hb1
   go_wp2_with fail
   refine(name_any t.S _ (by omega)).mono ?_
   rw[K2.out]
   rintro e w2 ⟨rfl,rfl⟩
   go_wp2_with fail
   refine(wrong_new (h1.alloc _) hi hL t ((Doc.tk_eq hi).trans HT.out.symm) 6).mono ?_
   rintro e w5 ⟨rfl,h9,hs9⟩
   go_wp2_with fail
   go_ret
   rw[HP.out]
   exact⟨0,i,Nv,nodes,rfl,h9,List.prefix_rfl,by omega,((hs1.alloc h1.Ble _).trans hs9).step,by omega,by omega,hi⟩
end
end Go.Proofs.YtbnelaoeblhndaaGreatDoor
