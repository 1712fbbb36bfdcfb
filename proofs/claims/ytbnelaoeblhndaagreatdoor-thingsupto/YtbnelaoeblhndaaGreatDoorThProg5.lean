/- The walk of the program's checkNew. -/
import Derived.Test.YtbnelaoeblhndaaGreatDoorThProg3
import Derived.Test.YtbnelaoeblhndaaGreatDoorThRef5
import Derived.Test.YtbnelaoeblhndaaGreatDoorThName
namespace Go.Proofs.YtbnelaoeblhndaaGreatDoor
open Go.RowKit
set_option maxRecDepth 100000

section
variable {w : World}

set_option maxHeartbeats 2000000 in
theorem cnew_arg (fs : List Doc.Fld) (fv : Value) (hs : Sl w fv fs.length (fldsC fs)) (space : Int) (hbad : Doc.newArg fs space) :
    Calls Tryz.prog 61 #[fv, .int .i64 space] w fun e w' => e = .returned (.int .i64 1) ∧ w' = w := by
  obtain ⟨b, c, rfl⟩ := hs.slice
  clear hs
  obtain ⟨g1, HG1⟩ : ∃ g, Hid (g = (decide (1 ≤ (fs.length : Int)) && decide ((fs.length : Int) ≤ 4))) := ⟨_, rfl⟩
  obtain ⟨g2, HG2⟩ : ∃ g, Hid (g = (decide (1 ≤ space) && decide (space ≤ 4))) := ⟨_, rfl⟩
  have hb2 : g1 = false ∨ (g1 = true ∧ g2 = false) := by
    have e1 := HG1.out
    have e2 := HG2.out
    rcases hbad with k1 | ⟨k1, k2⟩ | ⟨k1, k2, k3⟩ | ⟨k1, k2, k3, k4⟩
    · left; rw [e1]; simp; omega
    · left; rw [e1]; simp; omega
    · right; exact ⟨by rw [e1]; simp; omega, by rw [e2]; simp; omega⟩
    · right; exact ⟨by rw [e1]; simp; omega, by rw [e2]; simp; omega⟩
  clear hbad
  rcases hb2 with rfl | ⟨rfl, rfl⟩
  · go_enter Tryz.func61, Tryz.ntmps61
    go_wp2_with fail
    refine (pwithin_any (fs.length : Int) 1 4).mono ?_
    rw [← HG1.out]
    rintro e w1 ⟨rfl, hw⟩
    subst hw
    go_wp2_with fail
    go_ret
    exact ⟨rfl, rfl⟩
  · go_enter Tryz.func61, Tryz.ntmps61
    go_wp2_with fail
    refine (pwithin_any (fs.length : Int) 1 4).mono ?_
    rw [← HG1.out]
    rintro e w1 ⟨rfl, hw⟩
    subst hw
    go_wp2_with fail
    refine (pwithin_any space 1 4).mono ?_
    rw [← HG2.out]
    rintro e w2 ⟨rfl, hw⟩
    subst hw
    go_wp2_with fail
    go_ret
    exact ⟨rfl, rfl⟩

theorem Sl.take {b off cap : Nat} {fs : List Doc.Fld} (hr : ∀ j u, (fldsC fs)[j]? = some u → w.cell? ⟨b, off + j, none⟩ = some u) (hlt : b < w.heap.size) (hc : fs.length ≤ cap) (k : Nat) (hk : k ≤ fs.length) : Sl w (.slice (some ⟨b, off, none⟩) k cap) k (fldsC (fs.take k)) := by
  by_cases h0 : k = 0
  · subst h0; exact ⟨.inl ⟨rfl, _, _, rfl⟩⟩
  · refine ⟨.inr ⟨by omega, b, off, cap, rfl, by omega, hlt, fun j u hj => hr j u ?_⟩⟩
    have e : fldsC fs = fldsC (fs.take k) ++ fldsC (fs.drop k) := by
      unfold fldsC; rw [← List.flatMap_append, List.take_append_drop]
    rw [e]
    obtain ⟨h1, _⟩ := List.getElem?_eq_some_iff.1 hj
    rw [List.getElem?_append_left h1]; exact hj

end

/-- The two ways to say that no earlier field has the name. -/
theorem nameAt_eq (fs : List Doc.Fld) (j : Nat) (h : j < fs.length) : Doc.nameAt fs j fs[j].name = (Doc.nameB fs[j].name && !Doc.hasB (fs.take j) fs[j].name) := by
  have key : decide (Doc.placeI (Doc.idxF fs fs[j].name) < j) = Doc.hasB (fs.take j) fs[j].name := by
    cases hi : Doc.idxF fs fs[j].name with
    | none =>
      exfalso
      have := List.findIdx?_eq_none_iff.1 hi fs[j] (List.getElem_mem h)
      simp at this
    | some i0 =>
      obtain ⟨hl, hp, hb⟩ := List.findIdx?_eq_some_iff_getElem.1 hi
      by_cases hlt : i0 < j
      · have e : Doc.hasB (fs.take j) fs[j].name = true := by
          unfold Doc.hasB
          rw [List.any_eq_true]
          exact ⟨fs[i0], List.mem_iff_getElem.2 ⟨i0, by rw [List.length_take]; omega, by rw [List.getElem_take]⟩, hp⟩
        rw [e]
        simp [Doc.placeI]; omega
      · have e : Doc.hasB (fs.take j) fs[j].name = false := by
          unfold Doc.hasB
          rw [List.any_eq_false]
          intro f hf
          obtain ⟨i, hi', rfl⟩ := List.getElem_of_mem hf
          rw [List.length_take] at hi'
          rw [List.getElem_take]
          exact hb i (by omega)
        rw [e]
        simp [Doc.placeI]; omega
  unfold Doc.nameAt
  rw [key]
end Go.Proofs.YtbnelaoeblhndaaGreatDoor
