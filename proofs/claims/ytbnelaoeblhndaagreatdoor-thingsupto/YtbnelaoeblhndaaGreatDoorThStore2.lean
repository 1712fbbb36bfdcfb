/- The walks of shelf.New and of the program's New. -/
import Derived.Test.YtbnelaoeblhndaaGreatDoorThStore
namespace Go.Proofs.YtbnelaoeblhndaaGreatDoor
open Go.RowKit
set_option maxRecDepth 100000

def noneT : Has := fun _ => none

section
variable {w w' : World}

theorem snew_any (w : World) : Calls Tryz.prog 63 #[] w fun e w' => ∃ mt mh hb, e = .returned (.pointer (some ⟨hb, 0, none⟩)) ∧ ShelfAt w' (fun k => w.heap.size ≤ k) hb noneT mt mh (fun _ => (.slice none 0 0, .slice none 0 0)) ∧ Below w.heap.size w w' := by
  have hmm := @run_makeMap Tryz.prog
  go_enter Tryz.func63, Tryz.ntmps63
  go_wp2_with fail
  go_ret
  have q0 := heap_alloc3_0 w (.map #[] 0) (.map #[] 0) (.cells #[.map (some w.heap.size), .map (some (w.heap.size + 1))] 152)
  have q1 := heap_alloc3_1 w (.map #[] 0) (.map #[] 0) (.cells #[.map (some w.heap.size), .map (some (w.heap.size + 1))] 152)
  have q2 := heap_alloc3_2 w (.map #[] 0) (.map #[] 0) (.cells #[.map (some w.heap.size), .map (some (w.heap.size + 1))] 152)
  refine ⟨w.heap.size, w.heap.size + 1, w.heap.size + 1 + 1, rfl, ⟨q2, ?_, ?_, by omega, fun id t h => (by cases h), fun id t h => (by cases h), by omega, by omega, by omega, fun id t h => (by cases h)⟩, ((((Below.refl _ _).alloc (Nat.le_refl _) _).alloc (by simp) _).alloc (by simp; omega) _)⟩
  · exact ⟨#[], 0, q0, MapKept.stamped_empty 0, by simp, fun key v => ⟨fun h => (by obtain ⟨i, t, h, _⟩ := h; cases h), fun h => (by obtain ⟨e, h, _⟩ := h; simp at h)⟩⟩
  · exact ⟨#[], 0, q1, MapKept.stamped_empty 0, by simp, fun key v => ⟨fun h => (by obtain ⟨f, x, ws, _, _, _, _, _, j, _, t, h, _⟩ := h; cases h), fun h => (by obtain ⟨e, h, _⟩ := h; simp at h)⟩⟩

theorem pnew_bad (fv : Value) (space E : Int) (hE : E ≠ 0) (hc : Calls Tryz.prog 61 #[fv, .int .i64 space] w fun e w' => e = .returned (.int .i64 E) ∧ Below w.heap.size w w') :
    Calls Tryz.prog 39 #[fv, .int .i64 space] w fun e w' => e = .returned (.tuple #[.pointer none, .int .i64 E]) ∧ Below w.heap.size w w' := by
  have HC : Hid _ := hc
  have hE2 : (E != 0) = true := by simpa using hE
  clear hc hE
  go_enter Tryz.func39, Tryz.ntmps39
  go_wp2_with fail
  refine Calls.mono HC.out ?_
  rintro e w1 ⟨rfl, hb1⟩
  go_wp2_with fail
  go_ret2
  exact ⟨rfl, hb1⟩

set_option maxHeartbeats 1000000 in
theorem pnew_ok (hsg : Signs w) (hg0 : 1 < w.heap.size) (fs : List Doc.Fld) (fv : Value) (hs : Sl w fv fs.length (fldsC fs)) (space : Int) (k1 : 1 ≤ fs.length) (k2 : fs.length ≤ 4) (k3 : 1 ≤ space) (k4 : space ≤ 4) (hnm : ∀ j (h : j < fs.length), fs[j].name.size ≤ 140737488351232)
    (k5 : ∀ j (h : j < fs.length), Doc.kindB fs[j].kind = true) (k6 : ∀ j (h : j < fs.length), (Doc.nameB fs[j].name && !Doc.hasB (fs.take j) fs[j].name) = true) :
    Calls Tryz.prog 39 #[fv, .int .i64 space] w fun e w' => ∃ sb, e = .returned (.tuple #[.pointer (some ⟨sb, 0, none⟩), .int .i64 0]) ∧ ProgSt w' (fun k => w.heap.size ≤ k) sb fs space noneT ∧ Below w.heap.size w w' := by
  have HC : Hid _ := cnew_any hsg hg0 fs fv hs space k1 k2 k3 k4 hnm
  have HO : Hid (∀ W, Below w.heap.size w W → Calls Tryz.prog 62 #[fv] W fun e w' => ∃ v, e = .returned v ∧ w'.ownsRow W.heap.size 92 2 v fs.length (fldsC fs) ∧ Below W.heap.size W w') := fun W hW => ownFields_any fs k1 k2 fv (hs.below hW) hnm
  have K5 : Hid _ := k5
  have K6 : Hid _ := k6
  clear k5 k6 hs
  go_enter Tryz.func39, Tryz.ntmps39
  go_wp2_with fail
  refine Calls.mono HC.out ?_
  rintro e w1 ⟨hb1, he⟩
  obtain rfl : e = .returned (.int .i64 0) := by
    rcases he with ⟨_, j, h1, hbad⟩ | ⟨_, _, j, h1, hbad⟩ | ⟨_, _, e1⟩
    · rw [K5.out j h1] at hbad; cases hbad
    · rw [K6.out j h1] at hbad; cases hbad
    · exact e1
  clear he
  have HB1 : Hid _ := hb1
  go_wp2_with fail
  refine (HO.out w1 HB1.out).mono ?_
  rintro e w2 ⟨v, rfl, r2, hb2⟩
  obtain ⟨b, c, rfl⟩ := row_slice r2
  have R2 : Hid _ := r2
  have HB2 : Hid _ := hb2
  clear r2 hb1 hb2
  go_wp2_with fail
  refine (snew_any w2).mono ?_
  rintro e w3 ⟨mt, mh, hb, rfl, hs3, hb3⟩
  have HS3 : Hid _ := hs3
  have HB3 : Hid _ := hb3
  clear hs3 hb3
  go_wp2_with fail
  go_ret2
  have s1 := HB1.out.size
  have s2 := HB2.out.size
  have s3 := HB3.out.size
  have hal : ∀ k, k < w3.heap.size → (w3.alloc (.cells #[.slice b fs.length c, .int .i64 space, .pointer (some ⟨hb, 0, none⟩)] 99)).heap[k]? = w3.heap[k]? := fun k hk => Below.heap_alloc _ _ _ hk
  refine ⟨w3.heap.size, rfl, ⟨.slice b fs.length c, hb, mt, mh, _, ⟨heap_alloc_new w3 _, ?_, HS3.out.kept (fun k _ hk => hal k hk) (fun k hk _ => by show w.heap.size ≤ k; omega), ⟨k1, k2⟩, ⟨k3, k4⟩, fun j h => ?_, fun id t h => (by cases h), by show w.heap.size ≤ w3.heap.size; omega, fun k e => ?_⟩⟩, ?_⟩
  · exact rowKept (own_less R2.out (Nat.zero_le _)) (fun k _ ek ho => (hal k (Nat.lt_of_lt_of_le (ownLt R2.out ek) s3)).trans ((HB3.out.block k (ownLt R2.out ek)).trans ho))
  · have := K5.out j h
    simp [Doc.kindB] at this
    exact this
  · have := own_ge R2.out e; show w.heap.size ≤ k; omega
  · exact ((HB1.out.trans (HB2.out.mono s1)).trans (HB3.out.mono (by omega))).alloc (by omega) _
end
end Go.Proofs.YtbnelaoeblhndaaGreatDoor
