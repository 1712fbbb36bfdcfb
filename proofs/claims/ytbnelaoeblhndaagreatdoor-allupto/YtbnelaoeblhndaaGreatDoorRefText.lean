import Derived.Test.YtbnelaoeblhndaaGreatDoorRefPart
import Derived.Test.YtbnelaoeblhndaaGreatDoorRefDec
namespace Go.Proofs.YtbnelaoeblhndaaGreatDoor
open Go.RowKit
set_option maxRecDepth 100000
theorem nodesC_at (l:List NodeR):∀(k:Nat) (n:NodeR),l[k]? =some n→∀i,i<12→(nodesC l)[k*12+i]? =(nodeC n)[i]? :=by
 induction l with
 |nil=>intro k n h;simp at h
 |cons t l ih=>
  intro k n h i hi
  have hl:(nodeC t).length=12:=rfl
  cases k with
  |zero=>
   simp only[List.getElem?_cons_zero,Option.some.injEq] at h
   subst h
   show(nodeC t++nodesC l)[0*12+i]? =_
   rw[List.getElem?_append_left (by omega)];simp
  |succ k=>
   show(nodeC t++nodesC l)[(k+1)*12+i]? =_
   rw[List.getElem?_append_right (by omega),hl,show(k+1)*12+i-12=k*12+i by omega,ih k n (by simpa using h) i hi]
theorem node_cells {w:World}{B:Nat}{v:Value}{l:List NodeR}(h:w.ownsRow B 178 12 v l.length (nodesC l)){k:Nat}{n:NodeR}(hk:l[k]? =some n):
  ∃g cap,v=.slice (some ⟨g,0,none⟩) l.length cap∧l.length≤cap∧g<w.heap.size∧k<l.length∧∀i,i<12→w.cell? ⟨g,k*12+i,none⟩=(nodeC n)[i]? :=by
 have hkl:k<l.length:=by
  rcases Nat.lt_or_ge k l.length with h|h
  ·exact h
  ·rw[List.getElem?_eq_none h] at hk;exact absurd hk (by simp)
 obtain⟨_,h2⟩:=h
 rcases h2 with⟨_,h0⟩|⟨g,cap,cur,hv,hg,hh,hc1,hc2,hc3,hc4⟩
 ·omega
 ·refine⟨g,cap,hv,hc1,lt_block hh,hkl,fun i hi=>?_⟩
  rw[←nodesC_at l k n hk i hi,←hc4,List.getElem?_take,if_pos (by omega)]
  simp[World.cell?,hh]
theorem get_lt {l:List NodeR}{k:Nat}{n:NodeR}(h:l[k]? =some n):k<l.length:=by
 rcases Nat.lt_or_ge k l.length with h'|h'
 ·exact h'
 ·rw[List.getElem?_eq_none h'] at h;exact absurd h (by simp)
def TextC (a:Doc.Ast):Prop:=∀{B:Nat} {w:World} {fb:Nat} {Lv:Value} {L:List Doc.Tok} {at_ op:Nat} {Nv:Value} {nodes:List NodeR} {E p k:Nat},RSt B w fb Lv L at_ op Nv nodes E p→nodes.length≤300→Rep B w nodes k a→(Doc.plain a).length≤80000→
 Calls Tryz.prog 53 #[.pointer (some ⟨fb,0,none⟩),.int .i64 k] w fun e w'=>∃D,Hid (D=(⟨(Doc.plain a).toArray⟩:ByteArray))∧D.size≤100000∧e=.returned (.string D)∧Below w.heap.size w w'
def WithinC (a:Doc.Ast):Prop:=∀{B:Nat} {w:World} {fb:Nat} {Lv:Value} {L:List Doc.Tok} {at_ op:Nat} {Nv:Value} {nodes:List NodeR} {E p k:Nat},RSt B w fb Lv L at_ op Nv nodes E p→nodes.length≤300→Rep B w nodes k a→(Doc.plain a).length≤80000→∀b:Bool,
 Calls Tryz.prog 86 #[.pointer (some ⟨fb,0,none⟩),.int .i64 k,.bool b] w fun e w'=>∃D,Hid (D=(⟨(Doc.round b (Doc.plain a)).toArray⟩:ByteArray))∧D.size≤100002∧e=.returned (.string D)∧Below w.heap.size w w'
set_option maxHeartbeats 1000000 in
theorem within_any {a:Doc.Ast}(h:TextC a):WithinC a:=by
 intro B w fb Lv L at_ op Nv nodes E p k h1 hn hrep hlen b
 have HH:Hid (TextC a):=h
 clear h
 cases b with
 |false=>
  go_enter Tryz.func86,Tryz.ntmps86
  go_wp2_with fail
  refine(HH.out h1 hn hrep hlen).mono ?_
  rintro e w1 ⟨D,HD,hD,rfl,hb⟩
  go_wp2_with fail
  go_ret
  exact⟨D,HD,by omega,rfl,hb⟩
 |true=>
  go_enter Tryz.func86,Tryz.ntmps86
  go_wp2_with fail
  refine(HH.out h1 hn hrep hlen).mono ?_
  rintro e w1 ⟨D,HD,hD,rfl,hb⟩
  go_wp2_with fail
  go_ret
  refine⟨_,?_,?_,rfl,hb⟩
  ·show _=_
   rw[HD.out]
   show(ByteArray.mk [40].toArray++ByteArray.mk _)++ByteArray.mk [41].toArray=_
   rw[ByteArray.mk_append_mk,ByteArray.mk_append_mk];rfl
  ·simp only[ByteArray.size];simp;omega
section
variable {B:Nat}{w:World}{fb:Nat}{Lv:Value}{L:List Doc.Tok}{at_ op:Nat}{Nv:Value}{nodes:List NodeR}{E p k:Nat}
theorem Rep.cells (h:RSt B w fb Lv L at_ op Nv nodes E p){n:NodeR}(hk:nodes[k]? =some n):
  ∃g cap,Nv=.slice (some ⟨g,0,none⟩) nodes.length cap∧nodes.length≤cap∧k<nodes.length∧g<w.heap.size∧w.cell? ⟨g,k*12,none⟩=some (.int .u8 n.kind.toNat)∧w.cell? ⟨g,k*12+1,none⟩=some (.int .i64 n.A)∧w.cell? ⟨g,k*12+2,none⟩=some (.int .i64 n.B)∧
   w.cell? ⟨g,k*12+3,none⟩=some (.int .u8 n.name.kind.toNat)∧w.cell? ⟨g,k*12+4,none⟩=some (.string n.name.S)∧w.cell? ⟨g,k*12+5,none⟩=some (.int .i64 n.name.N)∧w.cell? ⟨g,k*12+6,none⟩=some (.int .i64 n.name.at_)∧
   w.cell? ⟨g,k*12+7,none⟩=some (.int .u8 n.ask.kind.toNat)∧w.cell? ⟨g,k*12+8,none⟩=some (.string n.ask.S)∧w.cell? ⟨g,k*12+9,none⟩=some (.int .i64 n.ask.N)∧w.cell? ⟨g,k*12+10,none⟩=some (.int .i64 n.ask.at_)∧w.cell? ⟨g,k*12+11,none⟩=some n.lits:=by
 obtain⟨g,cap,hv,hc,hg,hkl,hcell⟩:=node_cells h.nds hk
 exact⟨g,cap,hv,hc,hkl,hg,hcell 0 (by omega),hcell 1 (by omega),hcell 2 (by omega),hcell 3 (by omega),hcell 4 (by omega),hcell 5 (by omega),hcell 6 (by omega),hcell 7 (by omega),hcell 8 (by omega),hcell 9 (by omega),hcell 10 (by omega),hcell 11 (by omega)⟩
theorem Rep.kind {a:Doc.Ast}(h:Rep B w nodes k a):∃n,nodes[k]? =some n∧(n.kind==38)=Doc.isAnd a∧(n.kind==124)=Doc.isOr a:=by
 cases h with
 |test h1 h2 _=>exact⟨_,h1,by rw[h2];rfl,by rw[h2];rfl⟩
 |not h1 h2 _ _ _=>exact⟨_,h1,by rw[h2];rfl,by rw[h2];rfl⟩
 |and h1 h2 _ _ _ _ _=>exact⟨_,h1,by rw[h2];rfl,by rw[h2];rfl⟩
 |or h1 h2 _ _ _ _ _=>exact⟨_,h1,by rw[h2];rfl,by rw[h2];rfl⟩
theorem kept0 {W w1:World}{o:Obj}(hb:Below (W.alloc o).heap.size (W.alloc o) w1):w1.heap[W.heap.size]? =some o:=by
 rw[hb.block _ (by simp)]
 exact heap_alloc_new W o
theorem below0 {W w1:World}{o:Obj}(hb:Below (W.alloc o).heap.size (W.alloc o) w1):Below W.heap.size W w1:=
 ((Below.refl _ W).alloc (Nat.le_refl _) o).trans (hb.mono (by simp))
theorem belowD {W w1:World}{o:Obj}(hb:Below (W.alloc o).drew.heap.size (W.alloc o).drew w1):Below W.heap.size W w1:=
 ((Below.refl _ W).alloc (Nat.le_refl _) o).drew.trans (hb.mono (by show _≤(W.heap.push o).size;simp))
theorem plain_or_bytes (a b:Doc.Ast):(ByteArray.mk (Doc.plain a).toArray++ByteArray.mk #[32,111,114,32])++ByteArray.mk (Doc.plain b).toArray=⟨(Doc.plain (.or a b)).toArray⟩:=by
 show(ByteArray.mk _++ByteArray.mk [32,111,114,32].toArray)++ByteArray.mk _=_
 rw[ByteArray.mk_append_mk,ByteArray.mk_append_mk]
 simp[Doc.plain,Doc.wOr]
theorem plain_and_bytes (a b:Doc.Ast):(ByteArray.mk (Doc.round (Doc.isOr a) (Doc.plain a)).toArray++ByteArray.mk #[32,97,110,100,32])++ByteArray.mk (Doc.round (Doc.isOr b) (Doc.plain b)).toArray=⟨(Doc.plain (.and a b)).toArray⟩:=by
 show(ByteArray.mk _++ByteArray.mk [32,97,110,100,32].toArray)++ByteArray.mk _=_
 rw[ByteArray.mk_append_mk,ByteArray.mk_append_mk]
 simp[Doc.plain,Doc.wAnd]
theorem plain_not_bytes (a:Doc.Ast):(ByteArray.mk #[110,111,116,32]++ByteArray.mk (Doc.round (Doc.isAnd a || Doc.isOr a) (Doc.plain a)).toArray)=⟨(Doc.plain (.not a)).toArray⟩:=by
 show(ByteArray.mk [110,111,116,32].toArray++ByteArray.mk _)=_
 rw[ByteArray.mk_append_mk]
 simp[Doc.plain,Doc.wNot]
theorem size_of_eq {D:ByteArray}{l:List UInt8}(h:D=⟨l.toArray⟩)(hl:l.length≤80000):D.size≤100000:=by
 rw[h];simp[ByteArray.size];omega
theorem round_len (b:Bool)(l:List UInt8):l.length≤(Doc.round b l).length:=by
 cases b
 ·exact Nat.le_refl _
 ·simp[Doc.round];omega
set_option maxHeartbeats 4000000 in
theorem text_or {a b:Doc.Ast}{n:NodeR}{i j:Nat}(ia:TextC a)(ib:TextC b)(h:RSt B w fb Lv L at_ op Nv nodes E p)(hn:nodes.length≤300)(hk:nodes[k]? =some n)(k1:n.kind=124)(hlits:n.lits=.slice none 0 0)(hA:n.A=(i:Int))(hB:n.B=(j:Int))(ra:Rep B w nodes i a)(rb:Rep B w nodes j b)(hlen:(Doc.plain (.or a b)).length≤80000):
  Calls Tryz.prog 53 #[.pointer (some ⟨fb,0,none⟩),.int .i64 k] w fun e w'=>∃D,Hid (D=(⟨(Doc.plain (.or a b)).toArray⟩:ByteArray))∧D.size≤100000∧e=.returned (.string D)∧Below w.heap.size w w':=by
 have IA:Hid (TextC a):=ia
 have IB:Hid (TextC b):=ib
 have hla:(Doc.plain a).length≤80000∧(Doc.plain b).length≤80000:=by simp[Doc.plain] at hlen;omega
 have HLEN:Hid ((Doc.plain (.or a b)).length≤80000):=hlen
 clear ia ib hlen
 obtain⟨g,cap,rfl,hcap,hkl,hg,c0,d1,d2,d3,d4,d5,d6,d7,d8,d9,d10,d11⟩:=Rep.cells h hk
 rw[k1] at c0
 rw[hA] at d1
 rw[hB] at d2
 have c3:=h.c3
 have hlt:=h.lt
 rw[hlits] at d11
 clear hA hB k1 hk hlits
 go_enter Tryz.func53,Tryz.ntmps53
 go_wp2_with fail
 refine(IA.out (h.alloc _) hn (ra.mono ((Step.refl B w).alloc h.Ble _) List.prefix_rfl) hla.1).mono ?_
 rintro e w1 ⟨D,HD,hD,rfl,hb1⟩
 have hq:=kept0 hb1
 obtain⟨e0,e1,e2,e3,e4,e5,e6,e7,e8,e9,e10,e11⟩:=nb_cells hq
 have h1:=(h.alloc _).below hb1
 have hb1':=below0 hb1
 have rb1:=rb.mono (Step.ofBelow hb1' h.Ble) List.prefix_rfl
 clear c0 d1 d2 d3 d4 d5 d6 d7 d8 d9 d10 d11 c3 hb1
 go_wp2_with fail
 refine(IB.out h1 hn rb1 hla.2).mono ?_
 rintro e w2 ⟨D2,HD2,hD2,rfl,hb2⟩
 clear e0 e1 e2 e3 e4 e5 e6 e7 e8 e9 e10 e11 hq
 go_wp2_with fail
 go_ret
 have HF:(D++⟨#[32,111,114,32]⟩)++D2=(⟨(Doc.plain (.or a b)).toArray⟩:ByteArray):=by rw[HD.out,HD2.out];exact plain_or_bytes a b
 exact⟨_,HF,size_of_eq HF HLEN.out,rfl,hb1'.trans (hb2.mono hb1'.size)⟩
set_option maxHeartbeats 4000000 in
theorem text_and {a b:Doc.Ast}{n:NodeR}{i j:Nat}(ia:TextC a)(ib:TextC b)(h:RSt B w fb Lv L at_ op Nv nodes E p)(hn:nodes.length≤300)(hk:nodes[k]? =some n)(k1:n.kind=38)(hlits:n.lits=.slice none 0 0)(hA:n.A=(i:Int))(hB:n.B=(j:Int))(ra:Rep B w nodes i a)(rb:Rep B w nodes j b)(hlen:(Doc.plain (.and a b)).length≤80000):
  Calls Tryz.prog 53 #[.pointer (some ⟨fb,0,none⟩),.int .i64 k] w fun e w'=>∃D,Hid (D=(⟨(Doc.plain (.and a b)).toArray⟩:ByteArray))∧D.size≤100000∧e=.returned (.string D)∧Below w.heap.size w w':=by
 have IA:Hid (WithinC a):=within_any ia
 have IB:Hid (WithinC b):=within_any ib
 have hla:(Doc.plain a).length≤80000∧(Doc.plain b).length≤80000:=by
  have h1:=round_len (Doc.isOr a) (Doc.plain a)
  have h2:=round_len (Doc.isOr b) (Doc.plain b)
  simp[Doc.plain] at hlen;omega
 have HLEN:Hid ((Doc.plain (.and a b)).length≤80000):=hlen
 clear ia ib hlen
 obtain⟨na,hna,_,ka⟩:=ra.kind
 obtain⟨nb,hnb,_,kb⟩:=rb.kind
 have hil:=get_lt hna
 have hjl:=get_lt hnb
 obtain⟨g,cap,rfl,hcap,hkl,hg,c0,d1,d2,d3,d4,d5,d6,d7,d8,d9,d10,d11⟩:=Rep.cells h hk
 rw[k1] at c0
 rw[hA] at d1
 rw[hB] at d2
 have c3:=h.c3
 have hlt:=h.lt
 have p0:w.cell? ⟨g,i*12,none⟩=some (.int .u8 na.kind.toNat):=by
  obtain⟨g',cap',e,_,_,_,hc⟩:=node_cells h.nds hna
  simp only[Value.slice.injEq,Option.some.injEq,Addr.mk.injEq] at e
  rw[e.1.1];exact hc 0 (by omega)
 have p1:w.cell? ⟨g,j*12,none⟩=some (.int .u8 nb.kind.toNat):=by
  obtain⟨g',cap',e,_,_,_,hc⟩:=node_cells h.nds hnb
  simp only[Value.slice.injEq,Option.some.injEq,Addr.mk.injEq] at e
  rw[e.1.1];exact hc 0 (by omega)
 have ka':((na.kind.toNat:Int)==124)=Doc.isOr a:=kind_int na.kind 124 (by omega) _ ka
 have kb':((nb.kind.toNat:Int)==124)=Doc.isOr b:=kind_int nb.kind 124 (by omega) _ kb
 rw[hlits] at d11
 have hg':=hg
 clear hA hB k1 hk hlits ka kb hna hnb
 go_enter Tryz.func53,Tryz.ntmps53
 go_wp2_with fail
 clear c0 d1 d2 d3 d4 d5 d6 d7 d8 d9 d10 d11
 go_cut [8] (fun v wx=>∃D,v=.string D∧Hid (D=(⟨(Doc.round (Doc.isOr a) (Doc.plain a)).toArray⟩:ByteArray))∧D.size≤100002∧Below w.heap.size w wx∧w.heap.size<wx.heap.size∧wx.cell? ⟨w.heap.size,2,none⟩=some (.int .i64 j))
 case first=>
  go_region_with (go_at_call 86;refine(IA.out ((h.alloc _).drew) hn ((ra.mono ((Step.refl B w).alloc h.Ble _) List.prefix_rfl).mono ((Step.refl _ _).drew) List.prefix_rfl) hla.1 _).mono ?_;rintro e w1 ⟨D,HD,hD,rfl,hb1⟩)
  all_goals (go_wp2_with fail)
  all_goals go_meet
  all_goals (have hq:=one_kept rfl hb1;exact⟨D,rfl,HD,hD,belowD hb1,lt_block hq,blk_cell hq 2 _ rfl⟩)
 case rest=>
  obtain⟨D,rfl,HD,hD,hbx,hsx,e2⟩:=hcut
  have h1:=h.below hbx
  have rb1:=rb.mono (Step.ofBelow hbx h.Ble) List.prefix_rfl
  have p1':wc.cell? ⟨g,j*12,none⟩=some (.int .u8 nb.kind.toNat):=(hbx.cell (p:=⟨g,j*12,none⟩) hg).trans p1
  have c3':=h1.c3
  clear p0 p1 c3 ka'
  go_wp2_with fail
  go_region_with (go_at_call 86;refine(IB.out h1.drew hn (rb1.mono ((Step.refl _ _).drew) List.prefix_rfl) hla.2 _).mono ?_;rintro e w2 ⟨D2,HD2,hD2,rfl,hb2⟩)
  all_goals (go_wp2_with fail)
  all_goals go_ret
  all_goals
   have HF:(D++⟨#[32,97,110,100,32]⟩)++D2=(⟨(Doc.plain (.and a b)).toArray⟩:ByteArray):=by rw[HD.out,HD2.out];exact plain_and_bytes a b
   exact⟨_,HF,size_of_eq HF HLEN.out,rfl,hbx.drew.trans (hb2.mono hbx.size)⟩
set_option maxHeartbeats 4000000 in
theorem text_not {a:Doc.Ast}{n:NodeR}{i:Nat}(ia:TextC a)(h:RSt B w fb Lv L at_ op Nv nodes E p)(hn:nodes.length≤300)(hk:nodes[k]? =some n)(k1:n.kind=33)(hlits:n.lits=.slice none 0 0)(hA:n.A=(i:Int))(ra:Rep B w nodes i a)(hlen:(Doc.plain (.not a)).length≤80000):
  Calls Tryz.prog 53 #[.pointer (some ⟨fb,0,none⟩),.int .i64 k] w fun e w'=>∃D,Hid (D=(⟨(Doc.plain (.not a)).toArray⟩:ByteArray))∧D.size≤100000∧e=.returned (.string D)∧Below w.heap.size w w':=by
 have IA:Hid (WithinC a):=within_any ia
 have hla:(Doc.plain a).length≤80000:=by
  have h1:=round_len (Doc.isAnd a || Doc.isOr a) (Doc.plain a)
  simp[Doc.plain] at hlen;omega
 have HLEN:Hid ((Doc.plain (.not a)).length≤80000):=hlen
 clear ia hlen
 obtain⟨na,hna,ka,ko⟩:=ra.kind
 have hil:=get_lt hna
 obtain⟨g,cap,rfl,hcap,hkl,hg,c0,d1,d2,d3,d4,d5,d6,d7,d8,d9,d10,d11⟩:=Rep.cells h hk
 rw[k1] at c0
 rw[hA] at d1
 have c3:=h.c3
 have hlt:=h.lt
 have p0:w.cell? ⟨g,i*12,none⟩=some (.int .u8 na.kind.toNat):=by
  obtain⟨g',cap',e,_,_,_,hc⟩:=node_cells h.nds hna
  simp only[Value.slice.injEq,Option.some.injEq,Addr.mk.injEq] at e
  rw[e.1.1];exact hc 0 (by omega)
 rw[hlits] at d11
 clear hA k1 hk hlits hna
 by_cases kb:Doc.isAnd a=true
 ·have ka':((na.kind.toNat:Int)==38)=true:=kind_int na.kind 38 (by omega) _ (ka.trans kb)
  have HF0:Hid ((Doc.isAnd a || Doc.isOr a)=true):=by show _=_;rw[kb];rfl
  clear ka ko kb
  go_enter Tryz.func53,Tryz.ntmps53
  go_wp2_with fail
  go_region
  all_goals (go_wp2_with fail)
  all_goals (refine(IA.out ((h.alloc _).drew) hn ((ra.mono ((Step.refl B w).alloc h.Ble _) List.prefix_rfl).mono ((Step.refl _ _).drew) List.prefix_rfl) hla _).mono ?_;rintro e w1 ⟨D,HD,hD,rfl,hb1⟩;go_wp2_with fail;go_ret)
  all_goals
   have HF:(⟨#[110,111,116,32]⟩++D)=(⟨(Doc.plain (.not a)).toArray⟩:ByteArray):=by rw[HD.out,←HF0.out];exact plain_not_bytes a
   exact⟨_,HF,size_of_eq HF HLEN.out,rfl,belowD hb1⟩
 ·have kb:Doc.isAnd a=false:=by simpa using kb
  have ka':((na.kind.toNat:Int)==38)=false:=kind_int na.kind 38 (by omega) _ (ka.trans kb)
  have ko':((na.kind.toNat:Int)==124)=Doc.isOr a:=kind_int na.kind 124 (by omega) _ ko
  have HF0:Hid ((Doc.isAnd a || Doc.isOr a)=Doc.isOr a):=by show _=_;rw[kb];rfl
  clear ka ko kb
  go_enter Tryz.func53,Tryz.ntmps53
  go_wp2_with fail
  go_region
  all_goals (go_wp2_with fail)
  all_goals (refine(IA.out ((h.alloc _).drew) hn ((ra.mono ((Step.refl B w).alloc h.Ble _) List.prefix_rfl).mono ((Step.refl _ _).drew) List.prefix_rfl) hla _).mono ?_;rintro e w1 ⟨D,HD,hD,rfl,hb1⟩;go_wp2_with fail;go_ret)
  all_goals
   have HF:(⟨#[110,111,116,32]⟩++D)=(⟨(Doc.plain (.not a)).toArray⟩:ByteArray):=by rw[HD.out,←HF0.out];exact plain_not_bytes a
   exact⟨_,HF,size_of_eq HF HLEN.out,rfl,belowD hb1⟩
end
end Go.Proofs.YtbnelaoeblhndaaGreatDoor
