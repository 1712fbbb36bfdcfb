/- What a Filter of package rummageref holds, in memory. -/
import Derived.Test.YtbnelaoeblhndaaGreatDoorRefTokens
namespace Go.Proofs.YtbnelaoeblhndaaGreatDoor
open Go.RowKit
set_option maxRecDepth 100000

/-- A part as it stands in the list of parts. -/
structure NodeR where
  kind : UInt8
  A : Int
  B : Int
  name : Doc.Tok
  ask : Doc.Tok
  lits : Value

def nodeC (n : NodeR) : List Value := [.int .u8 n.kind.toNat, .int .i64 n.A, .int .i64 n.B] ++ tokC n.name ++ tokC n.ask ++ [n.lits]
def nodesC (l : List NodeR) : List Value := l.flatMap nodeC

/-- A Filter at the head of block fb; all that it holds lies from block B on. -/
structure RSt (B : Nat) (w : World) (fb : Nat) (Lv : Value) (L : List Doc.Tok) (at_ op : Nat) (Nv : Value) (nodes : List NodeR) (E place : Nat) : Prop where
  blk : w.heap[fb]? = some (.cells #[Lv, .int .i64 at_, .int .i64 op, Nv, .int .i64 E, .int .i64 place] 136 (0, 0))
  ltok : w.ownsRow B 175 4 Lv L.length (toksC L)
  nds : w.ownsRow B 178 12 Nv nodes.length (nodesC nodes)
  base : B ≤ fb

/-- Nothing below B has turned, and no tokens that stand in a list. -/
structure Step (B : Nat) (w w' : World) : Prop where
  below : Below B w w'
  toks : ∀ (k : Nat) (cur : Array Value), w.heap[k]? = some (.cells cur 175 (0, 0)) → w'.heap[k]? = w.heap[k]?

theorem Step.refl (B : Nat) (w : World) : Step B w w := ⟨Below.refl _ _, fun _ _ _ => rfl⟩
theorem Step.trans {B : Nat} {a b c : World} (h : Step B a b) (k : Step B b c) : Step B a c :=
  ⟨h.below.trans k.below, fun i cur hi => by have h1 := h.toks i cur hi; rw [k.toks i cur (h1.trans hi), h1]⟩
theorem lt_block {w : World} {k : Nat} {o : Obj} (h : w.heap[k]? = some o) : k < w.heap.size := by
  rcases Nat.lt_or_ge k w.heap.size with h' | h'
  · exact h'
  · rw [Array.getElem?_eq_none h'] at h; exact absurd h (by simp)
theorem Step.ofBelow {B : Nat} {w w' : World} (h : Below w.heap.size w w') (hB : B ≤ w.heap.size) : Step B w w' :=
  ⟨h.mono hB, fun k _ hk => h.block k (lt_block hk)⟩
theorem Step.alloc {B : Nat} {a w : World} (h : Step B a w) (hB : B ≤ w.heap.size) (o : Obj) : Step B a (w.alloc o) :=
  h.trans ⟨(Below.refl _ _).alloc hB o, fun _ _ hk => Below.heap_alloc _ _ _ (lt_block hk)⟩
theorem Step.drew {B : Nat} {a w : World} (h : Step B a w) : Step B a w.drew := ⟨h.below.drew, h.toks⟩
theorem Step.setCell {B : Nat} {a w : World} (h : Step B a w) {p : Addr} (hp : B ≤ p.block) (u : Value) {cs : Array Value} {T : TypeId} (hb : w.heap[p.block]? = some (.cells cs T (0, 0))) (hT : T ≠ 175) : Step B a (w.setCell p u) :=
  h.trans ⟨(Below.refl _ _).setCell hp u, fun k cur hk => Below.heap_setCell _ _ _ _ (by
    rintro rfl; rw [hb] at hk; simp at hk; exact hT hk.2)⟩
theorem Step.grown {B : Nat} {a w w' : World} {row : Option Nat} (h : Step B a w) (hg : w.grownBy w' row) (hB : B ≤ w.heap.size) (hr : ∀ k, row = some k → B ≤ k ∧ ∃ cs T, w.heap[k]? = some (.cells cs T (0, 0)) ∧ T ≠ 175) : Step B a w' :=
  h.trans ⟨(Below.refl _ _).grown hg hB (fun k e => (hr k e).1), fun k cur hk => hg.block k (lt_block hk) (fun e => by
    obtain ⟨_, cs, T, h1, h2⟩ := hr k e.symm
    rw [h1] at hk; simp at hk; exact h2 hk.2)⟩

/-- A step that turns no old block but fb. -/
structure Mv (B fb : Nat) (w w' : World) : Prop where
  step : Step B w w'
  only : ∀ k, k < w.heap.size → k ≠ fb → w'.heap[k]? = w.heap[k]?

theorem Mv.refl (B fb : Nat) (w : World) : Mv B fb w w := ⟨Step.refl _ _, fun _ _ _ => rfl⟩
theorem Mv.trans {B fb : Nat} {a b c : World} (h : Mv B fb a b) (k : Mv B fb b c) : Mv B fb a c :=
  ⟨h.step.trans k.step, fun i hi hf => (k.only i (Nat.lt_of_lt_of_le hi h.step.below.size) hf).trans (h.only i hi hf)⟩
theorem Mv.ofBelow {B fb : Nat} {w w' : World} (h : Below w.heap.size w w') (hB : B ≤ w.heap.size) : Mv B fb w w' := ⟨Step.ofBelow h hB, fun k hk _ => h.block k hk⟩
theorem Mv.alloc {B fb : Nat} {a w : World} (h : Mv B fb a w) (hB : B ≤ w.heap.size) (o : Obj) : Mv B fb a (w.alloc o) :=
  h.trans (Mv.ofBelow ((Below.refl _ _).alloc (Nat.le_refl _) o) hB)
theorem Mv.drew {B fb : Nat} {a w : World} (h : Mv B fb a w) : Mv B fb a w.drew := ⟨h.step.drew, h.only⟩
/-- A block that is none of the Filter's stays. -/
theorem Mv.blk {B fb : Nat} {w w' : World} (h : Mv B fb w w') {k : Nat} {o : Obj} (hk : w.heap[k]? = some o) (hf : k ≠ fb) : w'.heap[k]? = some o := (h.only k (lt_block hk) hf).trans hk

theorem ownsRow_step {B B' : Nat} {w w' : World} {v : Value} {n size : Nat} {xs : List Value} (h : w.ownsRow B' 175 size v n xs) (hs : Step B w w') : w'.ownsRow B' 175 size v n xs := by
  obtain ⟨h1, h2⟩ := h
  refine ⟨h1, ?_⟩
  rcases h2 with h2 | ⟨g, cap, cur, hv, hg, hh, r⟩
  · exact .inl h2
  · exact .inr ⟨g, cap, cur, hv, hg, (hs.toks g cur hh).trans hh, r⟩

theorem RSt.lt {B : Nat} {w : World} {fb : Nat} {Lv : Value} {L : List Doc.Tok} {at_ op : Nat} {Nv : Value} {nodes : List NodeR} {E place : Nat} (h : RSt B w fb Lv L at_ op Nv nodes E place) : fb < w.heap.size := lt_block h.blk

theorem RSt.below {B : Nat} {w w' : World} {fb : Nat} {Lv : Value} {L : List Doc.Tok} {at_ op : Nat} {Nv : Value} {nodes : List NodeR} {E place : Nat} (h : RSt B w fb Lv L at_ op Nv nodes E place) (hb : Below w.heap.size w w') : RSt B w' fb Lv L at_ op Nv nodes E place :=
  ⟨(hb.block fb h.lt).trans h.blk, ownsRow_below h.ltok hb, ownsRow_below h.nds hb, h.base⟩

theorem blk_cell {w : World} {b : Nat} {cs : Array Value} {T : TypeId} (h : w.heap[b]? = some (.cells cs T (0, 0))) (i : Nat) (v : Value) (hv : cs[i]? = some v) : w.cell? ⟨b, i, none⟩ = some v := by
  simp [World.cell?, h, hv]

theorem blk_free {w : World} {b : Nat} {cs : Array Value} {T : TypeId} (h : w.heap[b]? = some (.cells cs T (0, 0))) (i : Nat) : w.frozen? ⟨b, i, none⟩ = false := by
  simp [World.frozen?, h]

theorem toksC_at (l : List Doc.Tok) : ∀ (k : Nat) (h : k < l.length) (i : Nat), i < 4 → (toksC l)[k * 4 + i]? = (tokC l[k])[i]? := by
  induction l with
  | nil => intro k h; simp at h
  | cons t l ih =>
    intro k h i hi
    have hl : (tokC t).length = 4 := rfl
    cases k with
    | zero =>
      show (tokC t ++ toksC l)[0 * 4 + i]? = _
      rw [List.getElem?_append_left (by omega)]; simp
    | succ k =>
      show (tokC t ++ toksC l)[(k + 1) * 4 + i]? = _
      rw [List.getElem?_append_right (by omega), hl, show (k + 1) * 4 + i - 4 = k * 4 + i by omega, ih k (by simpa using h) i hi]; rfl

/-- The cells of a token in a list. -/
theorem tok_cells {w : World} {B : Nat} {v : Value} {l : List Doc.Tok} (h : w.ownsRow B 175 4 v l.length (toksC l)) (k : Nat) (hk : k < l.length) :
    ∃ g cap, v = .slice (some ⟨g, 0, none⟩) l.length cap ∧ l.length ≤ cap ∧ g < w.heap.size ∧ (∃ cur, w.heap[g]? = some (.cells cur 175 (0, 0))) ∧ ∀ i, i < 4 → w.cell? ⟨g, k * 4 + i, none⟩ = (tokC l[k])[i]? := by
  obtain ⟨_, h2⟩ := h
  rcases h2 with ⟨_, h0⟩ | ⟨g, cap, cur, hv, hg, hh, hc1, hc2, hc3, hc4⟩
  · omega
  · refine ⟨g, cap, hv, hc1, ?_, ⟨cur, hh⟩, fun i hi => ?_⟩
    · rcases Nat.lt_or_ge g w.heap.size with h | h
      · exact h
      · rw [Array.getElem?_eq_none h] at hh; exact absurd hh (by simp)
    · rw [← toksC_at l k hk i hi, ← hc4, List.getElem?_take]
      rw [if_pos (by omega)]
      simp [World.cell?, hh]

set_option maxHeartbeats 1000000 in
theorem now_core (w : World) (fb g at_ n cap : Nat) (t0 : UInt8) (t1 : ByteArray) (t2 t3 : Int)
    (c0 : w.cell? ⟨fb, 0, none⟩ = some (.slice (some ⟨g, 0, none⟩) n cap)) (c1 : w.cell? ⟨fb, 1, none⟩ = some (.int .i64 at_)) (hn : at_ < n) (_hnb : n ≤ 300) (_hcap : n ≤ cap)
    (d0 : w.cell? ⟨g, at_ * 4, none⟩ = some (.int .u8 t0.toNat)) (d1 : w.cell? ⟨g, at_ * 4 + 1, none⟩ = some (.string t1)) (d2 : w.cell? ⟨g, at_ * 4 + 2, none⟩ = some (.int .i64 t2)) (d3 : w.cell? ⟨g, at_ * 4 + 3, none⟩ = some (.int .i64 t3)) (hf : fb < w.heap.size) (hg : g < w.heap.size) :
    Calls Tryz.prog 84 #[.pointer (some ⟨fb, 0, none⟩)] w fun e w' => e = .returned (.agg #[.int .u8 t0.toNat, .string t1, .int .i64 t2, .int .i64 t3]) ∧ Below w.heap.size w w' := by
  go_enter Tryz.func84, Tryz.ntmps84
  go_wp2
  go_region
  all_goals (try go_wp2)
  exact bodyPost_ret (v := .agg #[.int .u8 t0.toNat, .string t1, .int .i64 t2, .int .i64 t3]) (by simp [results, Tryz.results84, go_sem]) rfl ⟨rfl, ((Below.refl _ _).alloc (Nat.le_refl _) _).drew⟩

/-- The token at hand. -/
theorem now_st {B : Nat} {w : World} {fb : Nat} {Lv : Value} {L : List Doc.Tok} {at_ op : Nat} {Nv : Value} {nodes : List NodeR} {E place : Nat} (h : RSt B w fb Lv L at_ op Nv nodes E place) (hat : at_ < L.length) (hL : L.length ≤ 300) (t : Doc.Tok) (ht : L[at_] = t) :
    Calls Tryz.prog 84 #[.pointer (some ⟨fb, 0, none⟩)] w fun e w' => e = .returned (.agg #[.int .u8 t.kind.toNat, .string t.S, .int .i64 t.N, .int .i64 t.at_]) ∧ Below w.heap.size w w' := by
  obtain ⟨g, cap, hv, hcap, hg, _, hc⟩ := tok_cells h.ltok at_ hat
  rw [ht] at hc
  refine now_core w fb g at_ L.length cap t.kind t.S t.N t.at_ ?_ (blk_cell h.blk 1 _ rfl) hat hL hcap (hc 0 (by omega)) (hc 1 (by omega)) (hc 2 (by omega)) (hc 3 (by omega)) h.lt hg
  rw [← hv]; exact blk_cell h.blk 0 _ rfl
end Go.Proofs.YtbnelaoeblhndaaGreatDoor
