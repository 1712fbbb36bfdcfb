/- The walk of the statement's lentFields. -/
import Derived.Test.YtbnelaoeblhndaaGreatDoorThCopyV
namespace Go.Proofs.YtbnelaoeblhndaaGreatDoor
open Go.RowKit
set_option maxRecDepth 100000

theorem made_drop2 (z0 z1 : Value) (n : Nat) : (madeCells #[z0, z1] ((n + 2) * 2)).toList.drop (n * 2) = [z0, z1, z0, z1] := by
  apply List.ext_getElem
  · simp [madeCells]; omega
  · intro i h1 h2
    have h2' : i < 4 := by simpa using h2
    have hm : (n * 2 + i) % 2 = i % 2 := by omega
    simp only [List.getElem_drop, madeCells, Array.getElem_toList, Array.getElem_map, Array.getElem_range]
    have hs : #[z0, z1].size = 2 := rfl
    rw [hs, hm]
    match i, h2' with
    | 0, _ => rfl
    | 1, _ => rfl
    | 2, _ => rfl
    | 3, _ => rfl

theorem run_slf_nil (a : Addr) (n c : Nat) (w : World) : Sem.run Tryz.prog (binOp BinOp.eql 85 (.slice (some a) n c) (.slice none 0 0)) w = .ok (.bool false) w := by rfl
theorem run_nil_slf (w : World) : Sem.run Tryz.prog (binOp BinOp.eql 85 (.slice none 0 0) (.slice none 0 0)) w = .ok (.bool true) w := by rfl

def zF (k : Int) : List Value := [.string ⟨#[]⟩, .int .i64 k]

theorem lent_end4 {wc : World} {g n : Nat} {cs : List Value} {T : TypeId} {u0 u1 v0 v1 z0 z1 z2 z3 : Value} (h : wc.heap[g]? = some (.cells (cs ++ [z0, z1, z2, z3]).toArray T (0, 0))) (hn : cs.length = n * 2) :
    ((((wc.setCell ⟨g, n * 2, none⟩ u0).setCell ⟨g, n * 2 + 1, none⟩ u1).setCell ⟨g, (n + 1) * 2, none⟩ v0).setCell ⟨g, (n + 1) * 2 + 1, none⟩ v1).heap[g]? = some (.cells (cs ++ [u0, u1, v0, v1]).toArray T (0, 0)) := by
  have e3 : (n + 1) * 2 = n * 2 + 2 := by omega
  have e : ((((cs ++ [z0, z1, z2, z3]).set (n * 2) u0).set (n * 2 + 1) u1).set ((n + 1) * 2) v0).set ((n + 1) * 2 + 1) v1 = cs ++ [u0, u1, v0, v1] := by
    rw [e3, ← hn, List.set_append_right _ _ (Nat.le_refl _), List.set_append_right _ _ (by omega), List.set_append_right _ _ (by omega), List.set_append_right _ _ (by omega)]
    rw [Nat.sub_self, Nat.add_sub_cancel_left, Nat.add_sub_cancel_left, Nat.add_assoc, Nat.add_sub_cancel_left]
    rfl
  have h6 := set_blk' (set_blk' (set_blk' (set_blk' h (n * 2) u0) (n * 2 + 1) u1) ((n + 1) * 2) v0) ((n + 1) * 2 + 1) v1
  simp only [List.setIfInBounds_toArray] at h6
  rw [e] at h6
  exact h6

theorem below4 {B g o0 o1 o2 o3 : Nat} {w wc : World} (h : Below B w wc) (hg : B ≤ g) (u0 u1 u2 u3 : Value) :
    Below B w ((((wc.setCell ⟨g, o0, none⟩ u0).setCell ⟨g, o1, none⟩ u1).setCell ⟨g, o2, none⟩ u2).setCell ⟨g, o3, none⟩ u3) :=
  (((h.setCell (p := ⟨g, o0, none⟩) hg u0).setCell (p := ⟨g, o1, none⟩) hg u1).setCell (p := ⟨g, o2, none⟩) hg u2).setCell (p := ⟨g, o3, none⟩) hg u3

theorem fldsC_len2 (l : List Doc.Fld) : (fldsC l).length = l.length * 2 := by
  induction l with
  | nil => rfl
  | cons a r ih => unfold fldsC at ih ⊢; rw [List.flatMap_cons, List.length_append, ih]; simp [fldC]; omega
theorem fldsC_one2 (l : List Doc.Fld) : ∀ u ∈ fldsC l, u.oneCell' = true := by
  intro u hu
  obtain ⟨v, _, hv⟩ := List.mem_flatMap.1 hu
  simp only [fldC, List.mem_cons, List.not_mem_nil, or_false] at hv
  rcases hv with rfl | rfl <;> rfl

section
variable {w : World}

set_option maxHeartbeats 2000000 in
theorem lentF_core (l : List Doc.Fld) (hl : l.length ≤ 1000000000) (a : Addr) (cap : Nat) (hsrc : ∀ j u, (fldsC l)[j]? = some u → w.cell? (a.add j) = some u) (hab : l ≠ [] → a.block < w.heap.size) :
    Calls Tryz.prog 88 #[.slice (some a) l.length cap] w (Lent w 92 (fldsC l) l.length (zF 77 ++ zF 78)) := by
  obtain ⟨i0, hi, hz0, hz1, hz2⟩ := info_parts Tryz.infoFldT
  have hmk : (Instr.makeSlice 85 (.int .i64 ((l.length : Int) + 2)) (.int .i64 ((l.length : Int) + 2))).run Tryz.prog w = .ok (.slice (some ⟨w.heap.size, 0, none⟩) (l.length + 2) (l.length + 2)) (w.alloc (.cells (madeCells #[Value.string ⟨#[]⟩, .int .i64 0] ((l.length + 2) * 2)) 92)) := by
    have := run_make (P := Tryz.prog) w 85 92 i0 _ Tryz.underlying85 hi hz0 .i64 .i64 ((l.length : Int) + 2) ((l.length : Int) + 2) (by omega) (Int.le_refl _) (by rw [hz2]; omega) (by omega)
    rw [hz1, show ((l.length : Int) + 2).toNat = l.length + 2 by omega] at this
    exact this
  have hblk0 := heap_alloc_new w (.cells (madeCells #[Value.string ⟨#[]⟩, .int .i64 0] ((l.length + 2) * 2)) 92)
  obtain ⟨wa, hwa⟩ : ∃ wa, wa = w.alloc (.cells (madeCells #[Value.string ⟨#[]⟩, .int .i64 0] ((l.length + 2) * 2)) 92) := ⟨_, rfl⟩
  have hba : Below w.heap.size w wa := by rw [hwa]; exact (Below.refl _ _).alloc (Nat.le_refl _) _
  rw [← hwa] at hmk hblk0
  have hcp : ∃ wc, (Builtin.copy_ #[85, 85] 3 #[.slice (some ⟨w.heap.size, 0, none⟩) (l.length + 2) (l.length + 2), .slice (some a) l.length cap]).run Tryz.prog wa = .ok (.int .i64 l.length) wc ∧
      wc.heap[w.heap.size]? = some (.cells (fldsC l ++ [Value.string ⟨#[]⟩, .int .i64 0, .string ⟨#[]⟩, .int .i64 0]).toArray 92 (0, 0)) ∧ Below w.heap.size w wc := by
    have := run_copy_wide (P := Tryz.prog) wa 85 85 3 92 w.heap.size (l.length + 2) (l.length + 2) a l.length cap (madeCells #[Value.string ⟨#[]⟩, .int .i64 0] ((l.length + 2) * 2)) 92 (fldsC l) 2 l.length Tryz.underlying85 (by rw [hi]; simp [hz1]) hblk0 (by simp) (fldsC_len2 l) (fun j u hj => by
      have hb := hab (by rintro rfl; simp [fldsC] at hj)
      refine (hba.cell (p := a.add j) ?_).trans (hsrc j u hj)
      cases j <;> simpa [Addr.add] using hb) (by rw [fldsC_len2]; simp [madeCells]; omega) (fldsC_one2 l)
    refine ⟨_, this, ?_, below_setRow hba (Nat.le_refl _) _⟩
    rw [setRow_blk hblk0, fldsC_len2, made_drop2]
  obtain ⟨wc, hcp, hblk, hbc⟩ := hcp
  have hcs : ∀ c (hc : c < 4), wc.cell? ⟨w.heap.size, l.length * 2 + c, none⟩ = some ([Value.string ⟨#[]⟩, .int .i64 0, .string ⟨#[]⟩, .int .i64 0][c]) := fun c hc => blk_cell hblk _ _ (by
    rw [List.getElem?_toArray, List.getElem?_append_right (by rw [fldsC_len2]; omega), fldsC_len2, Nat.add_sub_cancel_left, List.getElem?_eq_getElem hc])
  have e3 : (l.length + 1) * 2 = l.length * 2 + 2 := by omega
  have c0 : wc.cell? ⟨w.heap.size, l.length * 2, none⟩ = some (.string ⟨#[]⟩) := hcs 0 (by omega)
  have c1 : wc.cell? ⟨w.heap.size, l.length * 2 + 1, none⟩ = some (.int .i64 0) := hcs 1 (by omega)
  have c3 : wc.cell? ⟨w.heap.size, (l.length + 1) * 2, none⟩ = some (.string ⟨#[]⟩) := by rw [e3]; exact hcs 2 (by omega)
  have c4 : wc.cell? ⟨w.heap.size, (l.length + 1) * 2 + 1, none⟩ = some (.int .i64 0) := by rw [e3]; exact hcs 3 (by omega)
  have f0 := blk_free hblk (l.length * 2)
  have f1 := blk_free hblk (l.length * 2 + 1)
  have f3 := blk_free hblk ((l.length + 1) * 2)
  have f4 := blk_free hblk ((l.length + 1) * 2 + 1)
  have hfin := lent_end4 (u0 := .string ⟨#[]⟩) (u1 := .int .i64 77) (v0 := .string ⟨#[]⟩) (v1 := .int .i64 78) hblk (n := l.length) (fldsC_len2 l)
  have HF : Hid _ := hfin
  have HBC : Hid _ := hbc
  have hnil := run_slf_nil
  clear hsrc hblk hblk0 hwa hba hfin hbc hcs e3
  go_enter Tryz.func88, Tryz.ntmps88
  go_wp2_with fail
  first | go_region | fail "stands"
  all_goals
    go_wp2_with fail
    go_ret2
    refine ⟨_, rfl, ?_, .inr rfl, ?_⟩
    · rw [show zF 77 ++ zF 78 = [Value.string ⟨#[]⟩, .int .i64 77, .string ⟨#[]⟩, .int .i64 78] from rfl]
      exact drew_blk HF.out
    · exact Below.drew (below4 HBC.out (Nat.le_refl _) _ _ _ _)

set_option maxHeartbeats 2000000 in
theorem lentF_nil :
    Calls Tryz.prog 88 #[.slice none 0 0] w (Lent w 92 [] 0 (zF 77 ++ zF 78)) := by
  obtain ⟨i0, hi, hz0, hz1, hz2⟩ := info_parts Tryz.infoFldT
  have hmk : (Instr.makeSlice 85 (.int .i64 2) (.int .i64 2)).run Tryz.prog w = .ok (.slice (some ⟨w.heap.size, 0, none⟩) 2 2) (w.alloc (.cells #[.string ⟨#[]⟩, .int .i64 0, .string ⟨#[]⟩, .int .i64 0] 92)) := by
    have := run_make (P := Tryz.prog) w 85 92 i0 _ Tryz.underlying85 hi hz0 .i64 .i64 2 2 (by omega) (Int.le_refl _) (by rw [hz2]; omega) (by omega)
    rw [hz1, show madeCells (Value.agg #[Value.string ⟨#[]⟩, .int .i64 0]).cells (Int.toNat 2 * 2) = #[.string ⟨#[]⟩, .int .i64 0, .string ⟨#[]⟩, .int .i64 0] from Array.ext' (made_drop2 _ _ 0)] at this
    exact this
  have hcp := run_copy_nil (P := Tryz.prog) (w.alloc (.cells #[.string ⟨#[]⟩, .int .i64 0, .string ⟨#[]⟩, .int .i64 0] 92)) 85 85 3 92 ⟨w.heap.size, 0, none⟩ 2 2 Tryz.underlying85 (by rw [hi]; rfl)
  have hnil := run_nil_slf
  go_enter Tryz.func88, Tryz.ntmps88
  go_wp2_with fail
  go_ret2
  exact ⟨_, rfl, heap_alloc_new _ _, .inl ⟨rfl, rfl⟩, (Below.refl _ _).alloc (Nat.le_refl _) _⟩
end
end Go.Proofs.YtbnelaoeblhndaaGreatDoor
