/- Walks of a Filter's literal and node. -/
import Derived.Test.YtbnelaoeblhndaaGreatDoorRefMoves
namespace Go.Proofs.YtbnelaoeblhndaaGreatDoor
open Go.RowKit
set_option maxRecDepth 100000

/-- May a token stand as a literal (as a string alone)? -/
def litB (texts : Bool) (t : Doc.Tok) : Bool := t.kind == 115 || (t.kind == 110 && !texts)

theorem Tryz.infoNode : (Tryz.prog.info? 178).map (fun i => (i.zero, i.size, i.bytes)) = some (some (.agg #[.int .u8 0, .int .i64 0, .int .i64 0, .int .u8 0, .string ⟨#[]⟩, .int .i64 0, .int .i64 0, .int .u8 0, .string ⟨#[]⟩, .int .i64 0, .int .i64 0, .slice none 0 0]), 12, 128) := by kernel_rfl

/-- append on a row that the call made, as a step of a region that draws. -/
theorem step_append_own {P : Program} {ops : Array Oper} {o : Oper} {a : Act} {w : World} {K : Act → World → Prop} {Q : Exit → Act → World → Prop} {E : Prop}
    (hgd : o.guard = none) (s x : Operand) (t : TypeId)
    (ho : o.op = .call { callee := .builtin .append, args := #[s, x], argTypes := #[t, t] })
    (base : Nat) (e : TypeId) (i : TypeInfo) (z : Value) (size bytes : Nat) (ht : P.underlying t = some (.slice e)) (hi : P.info? e = some i) (hz : i.zero = some z)
    (hsize : i.size = size) (hby : i.bytes = bytes) (hzs : z.cells.size = size) (hsz : 0 < size)
    (v : Value) (n : Nat) (xs : List Value) (hs : a.eval s = v) (hown : w.ownsRow base e size v n xs)
    (ad : Addr) (m c : Nat) (news : List Value) (hx : a.eval x = .slice (some ad) m c) (hl : news.length = m * size) (hnews : ∀ j u, news[j]? = some u → w.cell? (ad.add j) = some u) (h1 : ∀ u ∈ news, u.oneCell' = true)
    (h63 : n + m ≤ maxLen) (hbytes : (n + m) * bytes ≤ 140737488355328) (hbase : base ≤ w.heap.size)
    (h : ∀ v' w', w'.ownsRow base e size v' (n + m) (xs ++ news) → w.grownBy w' v.ownBlock → (v' = .slice none 0 0 ↔ v = .slice none 0 0 ∧ m = 0) → K (a.put o.dst v') w') :
    if Region.wanted o (yielded ops a.tmps) = true then Oper.wp P o a w K Q else E := by
  have hw : Region.wanted o (yielded ops a.tmps) = true := by simp [Region.wanted, hgd]
  rw [if_pos hw]
  exact wp_append_own w s x t ho base e i z size bytes ht hi hz hsize hby hzs hsz v n xs hs hown ad m c news hx hl hnews h1 h63 hbytes hbase h

theorem kind_ne (x : UInt8) (n : Nat) (h : n < 256) (b : Bool) (hb : (x == UInt8.ofNat n) = b) : ((x.toNat : Int) != (n : Int)) = !b := by
  rw [bne, kind_int x n h b hb]

theorem cells_new_drew (W : World) (xs : List Value) (T : TypeId) (n : Nat) (hn : W.heap.size = n) (j : Nat) (u : Value) (hj : xs[j]? = some u) : ((W.alloc (.cells xs.toArray T)).drew).cell? ((⟨n, 0, none⟩ : Addr).add j) = some u :=
  cells_new W xs T n hn j u hj

section
variable {B : Nat} {w : World} {fb : Nat} {Lv : Value} {L : List Doc.Tok} {at_ op : Nat} {Nv : Value} {nodes : List NodeR} {E place : Nat}

theorem ownsRow_one (w : World) (B : Nat) (hB : B ≤ w.heap.size) (t : Doc.Tok) : (w.alloc (.cells (tokC t).toArray 175)).ownsRow B 175 4 (.slice (some ⟨w.heap.size, 0, none⟩) 1 1) 1 (tokC t) :=
  ⟨rfl, .inr ⟨w.heap.size, 1, _, rfl, hB, heap_alloc_new w _, Nat.le_refl _, by unfold maxLen; omega, rfl, rfl⟩⟩

set_option maxHeartbeats 1000000 in
theorem lit_yes (h : RSt B w fb Lv L at_ op Nv nodes 0 place) (hat : at_ < L.length) (hL : L.length ≤ 300) (texts : Bool) (t : Doc.Tok) (ht : L[at_] = t) (hl : litB texts t = true) :
    Calls Tryz.prog 205 #[.pointer (some ⟨fb, 0, none⟩), .bool texts] w fun r w' => ∃ g, r = .returned (.slice (some ⟨g, 0, none⟩) 1 1) ∧ w'.ownsRow B 175 4 (.slice (some ⟨g, 0, none⟩) 1 1) 1 (tokC t) ∧ RSt B w' fb Lv L (at_ + 1) op Nv nodes 0 place ∧ Mv B fb w w' := by
  have HT : Hid (L[at_] = t) := ht
  clear ht
  by_cases k1 : (t.kind == 115) = true
  · have k2 : ((t.kind.toNat : Int) != 115) = false := kind_ne t.kind 115 (by omega) _ k1
    clear hl k1
    go_enter Tryz.func205, Tryz.ntmps205
    go_wp2_with (go_at_call 84; refine (now_st h hat hL t HT.out).mono ?_; rintro r w1 ⟨rfl, hb⟩; have h3 := h.below hb; have hs3 := Mv.ofBelow (fb := fb) hb h.Ble; have c4 := h3.c4z; have f1 := h3.fr 1; have c1 := h3.c1; have hlt3 := h3.lt; clear h hb)
    go_ret
    obtain ⟨h5, hs5⟩ := RSt.stored h3 (i := 1) (u := .int .i64 ((at_ : Int) + 1)) (at2 := at_ + 1) (op2 := op) (E2 := 0) (p2 := place) rfl
    refine ⟨_, rfl, ?_, (h5.alloc _).alloc _, ((hs3.trans hs5).alloc h5.Ble _).alloc (h5.alloc _).Ble _⟩
    have := ownsRow_one ((w1.setCell ⟨fb, 1, none⟩ (.int .i64 ((at_ : Int) + 1))).alloc (.cells (tokC t).toArray 175)) B (h5.alloc _).Ble t
    simpa [tokC] using this
  · have k1 : (t.kind == 115) = false := by simpa using k1
    have k2 : ((t.kind.toNat : Int) != 115) = true := kind_ne t.kind 115 (by omega) _ k1
    have hl2 : (t.kind == 110) = true ∧ texts = false := by simpa [litB, k1] using hl
    have k3 : ((t.kind.toNat : Int) != 110) = false := kind_ne t.kind 110 (by omega) _ hl2.1
    obtain ⟨_, rfl⟩ := hl2
    clear hl k1
    go_enter Tryz.func205, Tryz.ntmps205
    go_wp2_with (go_at_call 84; refine (now_st h hat hL t HT.out).mono ?_; rintro r w1 ⟨rfl, hb⟩; have h3 := h.below hb; have hs3 := Mv.ofBelow (fb := fb) hb h.Ble; have c4 := h3.c4z; have f1 := h3.fr 1; have c1 := h3.c1; have hlt3 := h3.lt; clear h hb)
    go_ret
    obtain ⟨h5, hs5⟩ := RSt.stored h3 (i := 1) (u := .int .i64 ((at_ : Int) + 1)) (at2 := at_ + 1) (op2 := op) (E2 := 0) (p2 := place) rfl
    refine ⟨_, rfl, ?_, (h5.alloc _).alloc _, ((hs3.trans hs5).alloc h5.Ble _).alloc (h5.alloc _).Ble _⟩
    have := ownsRow_one ((w1.setCell ⟨fb, 1, none⟩ (.int .i64 ((at_ : Int) + 1))).alloc (.cells (tokC t).toArray 175)) B (h5.alloc _).Ble t
    simpa [tokC] using this

set_option maxHeartbeats 1000000 in
theorem lit_no (h : RSt B w fb Lv L at_ op Nv nodes 0 place) (hat : at_ < L.length) (hL : L.length ≤ 300) (texts : Bool) (t : Doc.Tok) (ht : L[at_] = t) (hl : litB texts t = false) :
    Calls Tryz.prog 205 #[.pointer (some ⟨fb, 0, none⟩), .bool texts] w fun r w' => r = .returned (.slice none 0 0) ∧ RSt B w' fb Lv L at_ op Nv nodes 6 t.at_ ∧ Mv B fb w w' := by
  have HT : Hid (L[at_] = t) := ht
  clear ht
  have hl2 : (t.kind == 115) = false ∧ ((t.kind == 110) = false ∨ texts = true) := by
    simp only [litB, Bool.or_eq_false_iff, Bool.and_eq_false_iff, Bool.not_eq_false'] at hl; exact hl
  obtain ⟨k1, k3⟩ := hl2
  have k2 : ((t.kind.toNat : Int) != 115) = true := kind_ne t.kind 115 (by omega) _ k1
  clear hl k1
  by_cases k4 : (t.kind == 110) = true
  · have k5 : ((t.kind.toNat : Int) != 110) = false := kind_ne t.kind 110 (by omega) _ k4
    rw [k4] at k3
    obtain rfl : texts = true := by simpa using k3
    clear k3 k4
    go_enter Tryz.func205, Tryz.ntmps205
    go_wp2_with (first | (go_at_call 84; refine (now_st h hat hL t HT.out).mono ?_; rintro r w1 ⟨rfl, hb⟩; have h3 := h.below hb; have hs3 := Mv.ofBelow (fb := fb) hb h.Ble; have c4 := h3.c4z; have hlt3 := h3.lt; clear h hb) | (go_at_call 85; refine (wrong_new (h3.alloc _) hat hL t HT.out 6).mono ?_; rintro r w2 ⟨rfl, h4, hs4⟩))
    go_ret
    exact ⟨rfl, h4, (hs3.alloc h3.Ble _).trans hs4⟩
  · have k4 : (t.kind == 110) = false := by simpa using k4
    have k5 : ((t.kind.toNat : Int) != 110) = true := kind_ne t.kind 110 (by omega) _ k4
    clear k3 k4
    go_enter Tryz.func205, Tryz.ntmps205
    go_wp2_with (first | (go_at_call 84; refine (now_st h hat hL t HT.out).mono ?_; rintro r w1 ⟨rfl, hb⟩; have h3 := h.below hb; have hs3 := Mv.ofBelow (fb := fb) hb h.Ble; have c4 := h3.c4z; have hlt3 := h3.lt; clear h hb) | (go_at_call 85; refine (wrong_new (h3.alloc _) hat hL t HT.out 6).mono ?_; rintro r w2 ⟨rfl, h4, hs4⟩))
    go_ret
    exact ⟨rfl, h4, (hs3.alloc h3.Ble _).trans hs4⟩

theorem nodeC_one (n : NodeR) (hl : n.lits.oneCell' = true) : ∀ u ∈ nodeC n, u.oneCell' = true := by
  intro u hu
  simp only [nodeC, tokC, List.cons_append, List.nil_append, List.mem_cons, List.not_mem_nil, or_false] at hu
  rcases hu with rfl | rfl | rfl | rfl | rfl | rfl | rfl | rfl | rfl | rfl | rfl | rfl
  all_goals first | rfl | exact hl

theorem own_type {w : World} {B : Nat} {e : TypeId} {size n k : Nat} {v : Value} {xs : List Value} (h : w.ownsRow B e size v n xs) (hk : v.ownBlock = some k) : B ≤ k ∧ ∃ cs, w.heap[k]? = some (.cells cs e (0, 0)) := by
  obtain ⟨_, h2⟩ := h
  rcases h2 with ⟨rfl, _⟩ | ⟨g, cap, cur, rfl, hg, hh, _⟩
  · simp [Value.ownBlock] at hk
  · simp [Value.ownBlock] at hk; subst hk; exact ⟨hg, cur, hh⟩

theorem RSt.grown (h : RSt B w fb Lv L at_ op Nv nodes E place) {w2 : World} (hg : w.grownBy w2 Nv.ownBlock) :
    w2.heap[fb]? = some (.cells #[Lv, .int .i64 at_, .int .i64 op, Nv, .int .i64 E, .int .i64 place] 136 (0, 0)) ∧ w2.ownsRow B 175 4 Lv L.length (toksC L) ∧ Step B w w2 := by
  have hs : Step B w w2 := (Step.refl B w).grown hg h.Ble (fun k hk => by
    obtain ⟨h1, cs, h2⟩ := own_type h.nds hk
    exact ⟨h1, cs, _, h2, by decide⟩)
  refine ⟨(hg.block fb h.lt (fun e => ?_)).trans h.blk, ownsRow_step h.ltok hs, hs⟩
  obtain ⟨_, cs, h2⟩ := own_type h.nds e.symm
  have := h.blk
  rw [h2] at this; simp at this

theorem RSt.put3 {w2 : World} {v2 : Value} {nodes2 : List NodeR} (hb : w2.heap[fb]? = some (.cells #[Lv, .int .i64 at_, .int .i64 op, Nv, .int .i64 E, .int .i64 place] 136 (0, 0)))
    (hl : w2.ownsRow B 175 4 Lv L.length (toksC L)) (hn : w2.ownsRow B 178 12 v2 nodes2.length (nodesC nodes2)) (hB : B ≤ fb) :
    RSt B (w2.setCell ⟨fb, 3, none⟩ v2) fb Lv L at_ op v2 nodes2 E place ∧ Step B w2 (w2.setCell ⟨fb, 3, none⟩ v2) := by
  have hst : Step B w2 (w2.setCell ⟨fb, 3, none⟩ v2) := (Step.refl B w2).setCell (p := ⟨fb, 3, none⟩) hB v2 hb (by decide)
  refine ⟨⟨?_, ownsRow_step hl hst, ?_, hB⟩, hst⟩
  · simp [World.setCell, Array.getElem?_modify, hb]
  · obtain ⟨h1, h2⟩ := hn
    refine ⟨h1, ?_⟩
    rcases h2 with h2 | ⟨g, cap, cur, hv, hg, hh, r⟩
    · exact .inl h2
    · refine .inr ⟨g, cap, cur, hv, hg, ?_, r⟩
      rw [Below.heap_setCell _ _ _ _ (by rintro rfl; rw [hh] at hb; simp at hb)]
      exact hh

theorem own_slice {w : World} {B : Nat} {e : TypeId} {size n : Nat} {v : Value} {xs : List Value} (h : w.ownsRow B e size v (n + 1) xs) : ∃ g cap, v = .slice (some ⟨g, 0, none⟩) (n + 1) cap := by
  obtain ⟨_, h2⟩ := h
  rcases h2 with ⟨_, h0⟩ | ⟨g, cap, cur, rfl, _⟩
  · omega
  · exact ⟨g, cap, rfl⟩

theorem nodesC_snoc (l : List NodeR) (t : NodeR) : nodesC (l ++ [t]) = nodesC l ++ nodeC t := by simp [nodesC]

set_option maxHeartbeats 1000000 in
theorem node_st (h : RSt B w fb Lv L at_ op Nv nodes E place) (hn : nodes.length ≤ 300) (n : NodeR) (hl : n.lits.oneCell' = true) :
    Calls Tryz.prog 134 #[.pointer (some ⟨fb, 0, none⟩), .agg #[.int .u8 n.kind.toNat, .int .i64 n.A, .int .i64 n.B, .int .u8 n.name.kind.toNat, .string n.name.S, .int .i64 n.name.N, .int .i64 n.name.at_, .int .u8 n.ask.kind.toNat, .string n.ask.S, .int .i64 n.ask.N, .int .i64 n.ask.at_, n.lits]] w fun r w' =>
      ∃ Nv', r = .returned (.int .i64 nodes.length) ∧ RSt B w' fb Lv L at_ op Nv' (nodes ++ [n]) E place ∧ Step B w w' := by
  obtain ⟨i0, hi, hz0, hz1, hz2⟩ := info_parts Tryz.infoNode
  have c3 := h.c3
  have f3 := h.fr 3
  have hlt := h.lt
  go_enter Tryz.func134, Tryz.ntmps134
  go_wp2_with fail
  go_region_law (refine step_append_own rfl (.tmp 9) (.tmp 11) 134 rfl B 178 i0 _ 12 128 Tryz.underlying134 hi hz0 hz1 hz2 rfl (by decide) Nv nodes.length (nodesC nodes) (by simp [Act.eval]) (((h.alloc _).alloc _).drew.nds) ⟨w.heap.size + 1, 0, none⟩ 1 1 (nodeC n) (by simp [Act.eval]) rfl (fun j u hj => cells_new_drew _ (nodeC n) _ _ (by simp) j u hj) (nodeC_one n hl) (by unfold maxLen; omega) (by omega) (by have := h.Ble; simp; omega) ?_; intro v2 w2 hown2 hgrow2 _; obtain ⟨g2, cap2, rfl⟩ := own_slice hown2; obtain ⟨hb2, hl2, hs2⟩ := (((h.alloc _).alloc _).drew).grown hgrow2; have c32 := blk_cell hb2 3 _ rfl; have f32 := blk_free hb2 3; rw [← nodesC_snoc] at hown2; have HG : Hid _ := hown2; clear hown2 hgrow2)
  all_goals
    go_wp2_with fail
    go_ret
    obtain ⟨h5, hs5⟩ := RSt.put3 (nodes2 := nodes ++ [n]) hb2 hl2 (by rw [len_snoc]; exact HG.out) h.base
    exact ⟨_, ret_int (by simp), h5, ((((Step.refl B w).alloc h.Ble _).alloc (h.alloc _).Ble _).drew.trans hs2).trans hs5⟩
end
end Go.Proofs.YtbnelaoeblhndaaGreatDoor
