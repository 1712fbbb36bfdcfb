/- The book's kept. -/
import Derived.Test.YtbnelaoeblhndaaGreatDoorThBook2
import Derived.Deep.QuietTactic
import Derived.BigQuiet
namespace Go.Proofs.YtbnelaoeblhndaaGreatDoor
open Go.RowKit
set_option maxRecDepth 100000

section
variable {w : World} {F G : Nat → Prop} {wb : Nat} {lv nsv knv vsv kvv : Value} {rows vrows : List Value} {marks vmarks : List Int}

theorem row_cell {w : World} {m e n g cap j : Nat} {cs : List Value} {u : Value} (h : w.ownsRow m e 1 (.slice (some ⟨g, 0, none⟩) n cap) n cs) (hj : cs[j]? = some u) : w.cell? ⟨g, j, none⟩ = some u := by
  have := h.cells (g := g) rfl j u hj
  rw [addr_add2, Nat.zero_add] at this
  exact this

theorem row_max {w : World} {m e size n : Nat} {v : Value} {cs : List Value} (h : w.ownsRow m e size v n cs) : n ≤ 9223372036854775807 := by
  rcases h.2 with ⟨_, h0⟩ | ⟨_, cap, _, _, _, _, h1, h2, _⟩
  · omega
  · simp only [maxLen] at h2; omega
theorem below_drewN {B : Nat} {a w : World} {n : Nat} (h : Below B a w) : Below B a (w.drewN n) := ⟨h.os, h.tape, h.output, h.size, h.block⟩
theorem rep_at {α : Type} (mk : List α) (size : Nat) (hs : mk.length = size) {n : Nat} (j : Nat) (hj : j < n) (c : Nat) (hc : c < size) : (List.replicate n mk).flatten[j * size + c]? = mk[c]? := by
  induction n generalizing j with
  | zero => omega
  | succ n ih =>
    rw [List.replicate_succ, List.flatten_cons]
    cases j with
    | zero => rw [List.getElem?_append_left (by omega)]; simp
    | succ j =>
      rw [List.getElem?_append_right (by rw [hs, Nat.succ_mul]; omega), show (j + 1) * size + c - mk.length = j * size + c by rw [hs, Nat.succ_mul]; omega]
      exact ih j (by omega)

set_option maxHeartbeats 4000000 in
theorem kept_any (hw : w.heap[wb]? = some (worldO lv nsv knv vsv kvv (.slice none 0 0) (.slice none 0 0))) (hn : BookN w F nsv knv rows marks) (hv : BookV w G vsv kvv vrows vmarks) (h1 : rows.length ≤ 1000000000) (h2 : vrows.length ≤ 1000000000) :
    Calls Tryz.prog 38 #[.pointer (some ⟨wb, 1, none⟩)] w fun e w' => e = .returned (.bool true) ∧ Below w.heap.size w w' := by
  obtain ⟨b1, m1, e1⟩ := row_slice hn.ns
  obtain ⟨b2, m2, e2⟩ := row_slice hn.kn
  obtain ⟨b3, m3, e3⟩ := row_slice hv.ns
  obtain ⟨b4, m4, e4⟩ := row_slice hv.kn
  subst e1 e2 e3 e4
  have c1 : w.cell? ⟨wb, 1, none⟩ = some (.slice b1 rows.length m1) := blk_cell hw 1 _ rfl
  have c2 : w.cell? ⟨wb, 2, none⟩ = some (.slice b2 marks.length m2) := blk_cell hw 2 _ rfl
  have c3 : w.cell? ⟨wb, 3, none⟩ = some (.slice b3 vrows.length m3) := blk_cell hw 3 _ rfl
  have c4 : w.cell? ⟨wb, 4, none⟩ = some (.slice b4 vmarks.length m4) := blk_cell hw 4 _ rfl
  have c5 : w.cell? ⟨wb, 5, none⟩ = some (.slice none 0 0) := blk_cell hw 5 _ rfl
  have hwl := lt_block hw
  have HN : Hid _ := hn
  have HV : Hid _ := hv
  have HW : Hid _ := hw
  clear hn hv hw
  go_enter Tryz.func38, Tryz.ntmps38
  go_wp2_with fail
  go_loopw [3] (fun i wr => ∃ k : Nat, k ≤ rows.length ∧ i = .int .i64 k ∧ Below w.heap.size w wr) (fun i _ => rows.length - (intOf i).toNat)
  case atStart => exact ⟨0, Nat.zero_le _, rfl, Below.refl _ _⟩
  case round =>
    obtain ⟨k, hk, rfl, hb⟩ := hrel
    have d1 := (hb.cell (p := ⟨wb, 1, none⟩) hwl).trans c1
    by_cases hk2 : k < rows.length
    · have hk3 : k < marks.length := by rw [← HN.out.len]; exact hk2
      obtain ⟨n, r, hro⟩ := HN.out.each k hk2 hk3
      obtain ⟨rb, rc, hre⟩ := row_slice r
      obtain ⟨nb, nc, hnb⟩ := own_slice' HN.out.ns (by omega)
      obtain ⟨kb, kc, hkb⟩ := own_slice' HN.out.kn (by omega)
      obtain rfl : b1 = some ⟨nb, 0, none⟩ := by simp at hnb; exact hnb.1
      obtain rfl : b2 = some ⟨kb, 0, none⟩ := by simp at hkb; exact hkb.1
      have n1 := row_cell HN.out.ns (List.getElem?_eq_getElem hk2)
      rw [hre] at n1
      have k1 := row_cell HN.out.kn (int_at marks k hk3)
      obtain ⟨mk, HMK⟩ : ∃ mk, Hid (mk = marks[k]) := ⟨marks[k], rfl⟩
      rw [← HMK.out] at k1 r
      rw [hre] at r
      have hnl := ownLt HN.out.ns (k := nb) rfl
      have hkl := ownLt HN.out.kn (k := kb) rfl
      have HR : Hid _ := r
      have hnn : n ≤ 9223372036854775807 := row_max r
      clear r hre hro hnb hkb
      have x1 := (hb.cell (p := ⟨nb, k, none⟩) hnl).trans n1
      go_wp2_with fail
      go_loopw [4] (fun i wx => ∃ j : Nat, j ≤ n ∧ i = .int .i64 j ∧ Below w.heap.size w wx) (fun i _ => n - (intOf i).toNat)
      case atStart => exact ⟨0, Nat.zero_le _, rfl, hb⟩
      case round =>
        obtain ⟨j, hj, rfl, hb2⟩ := hrel
        have d1 := (hb2.cell (p := ⟨wb, 1, none⟩) hwl).trans c1
        have d2 := (hb2.cell (p := ⟨wb, 2, none⟩) hwl).trans c2
        have x1 := (hb2.cell (p := ⟨nb, k, none⟩) hnl).trans n1
        have x2 := (hb2.cell (p := ⟨kb, k, none⟩) hkl).trans k1
        by_cases hj2 : j < n
        · obtain ⟨g, cap, hg⟩ := own_slice' HR.out (by omega)
          obtain rfl : rb = some ⟨g, 0, none⟩ := by simp at hg; exact hg.1
          have y1 := (hb2.cell (p := ⟨g, j, none⟩) (ownLt HR.out (k := g) rfl)).trans (row_cell HR.out (u := .int .i64 mk) (j := j) (by simp [hj2]))
          clear hg
          go_wp2_with fail
          go_quiet (fail)
          go_wp2_with fail
          exact ⟨⟨j + 1, by omega, by go_num, below_drewN hb2⟩, by simp [intOf]; omega⟩
        · obtain rfl : j = n := by omega
          go_wp2_with fail
          exact ⟨⟨k + 1, by omega, by go_num, hb2⟩, by simp [intOf]; omega⟩
    · obtain rfl : k = rows.length := by omega
      go_wp2_with fail
      clear d1
      go_loopw [5] (fun i wr => ∃ k : Nat, k ≤ vrows.length ∧ i = .int .i64 k ∧ Below w.heap.size w wr) (fun i _ => vrows.length - (intOf i).toNat)
      case atStart => exact ⟨0, Nat.zero_le _, rfl, hb⟩
      case round =>
        obtain ⟨k, hk, rfl, hb⟩ := hrel
        have d1 := (hb.cell (p := ⟨wb, 3, none⟩) hwl).trans c3
        by_cases hk2 : k < vrows.length
        · have hk3 : k < vmarks.length := by rw [← HV.out.len]; exact hk2
          obtain ⟨n, r, hro⟩ := HV.out.each k hk2 hk3
          obtain ⟨rb, rc, hre⟩ := row_slice r
          obtain ⟨nb, nc, hnb⟩ := own_slice' HV.out.ns (by omega)
          obtain ⟨kb, kc, hkb⟩ := own_slice' HV.out.kn (by omega)
          obtain rfl : b3 = some ⟨nb, 0, none⟩ := by simp at hnb; exact hnb.1
          obtain rfl : b4 = some ⟨kb, 0, none⟩ := by simp at hkb; exact hkb.1
          have n1 := row_cell HV.out.ns (List.getElem?_eq_getElem hk2)
          rw [hre] at n1
          have k1 := row_cell HV.out.kn (int_at vmarks k hk3)
          obtain ⟨mk, HMK⟩ : ∃ mk, Hid (mk = vmarks[k]) := ⟨vmarks[k], rfl⟩
          rw [← HMK.out] at k1 r
          rw [hre] at r
          have hnl := ownLt HV.out.ns (k := nb) rfl
          have hkl := ownLt HV.out.kn (k := kb) rfl
          have HR : Hid _ := r
          have hnn : n ≤ 9223372036854775807 := row_max r
          clear r hre hro hnb hkb
          have x1 := (hb.cell (p := ⟨nb, k, none⟩) hnl).trans n1
          go_wp2_with fail
          go_loopw [6] (fun i wx => ∃ j : Nat, j ≤ n ∧ i = .int .i64 j ∧ Below w.heap.size w wx) (fun i _ => n - (intOf i).toNat)
          case atStart => exact ⟨0, Nat.zero_le _, rfl, hb⟩
          case round =>
            obtain ⟨j, hj, rfl, hb2⟩ := hrel
            have d1 := (hb2.cell (p := ⟨wb, 3, none⟩) hwl).trans c3
            have d2 := (hb2.cell (p := ⟨wb, 4, none⟩) hwl).trans c4
            have x1 := (hb2.cell (p := ⟨nb, k, none⟩) hnl).trans n1
            have x2 := (hb2.cell (p := ⟨kb, k, none⟩) hkl).trans k1
            by_cases hj2 : j < n
            · obtain ⟨g, cap, hg⟩ := own_slice' HR.out (by omega)
              obtain rfl : rb = some ⟨g, 0, none⟩ := by simp at hg; exact hg.1
              have hcell : ∀ c u, (mV mk)[c]? = some u → wr.cell? ⟨g, j * 3 + c, none⟩ = some u := fun c u hu => by
                have h3 : c < 3 := (List.getElem?_eq_some_iff.1 hu).1
                have := World.ownsRow.cells HR.out (g := g) rfl (j * 3 + c) u (by rw [rep_at (mV mk) 3 rfl j hj2 c h3]; exact hu)
                rw [addr_add2, Nat.zero_add] at this
                exact (hb2.cell (p := ⟨g, j * 3 + c, none⟩) (ownLt HR.out (k := g) rfl)).trans this
              have y0 : wr.cell? ⟨g, j * 3, none⟩ = some (.int .i64 1) := hcell 0 _ rfl
              have y1 : wr.cell? ⟨g, j * 3 + 1, none⟩ = some (.int .i64 mk) := hcell 1 _ rfl
              have y2 : wr.cell? ⟨g, j * 3 + 2, none⟩ = some (.string ⟨#[]⟩) := hcell 2 _ rfl
              have hsw : wb < wr.heap.size := Nat.lt_of_lt_of_le hwl hb2.size
              have hsk : kb < wr.heap.size := Nat.lt_of_lt_of_le hkl hb2.size
              clear hg hcell
              go_wp2_with fail
              go_quiet (fail)
              go_wp2_with fail
              exact ⟨⟨j + 1, by omega, by go_num, below_drewN (hb2.alloc hb2.size _)⟩, by simp [intOf]; omega⟩
            · obtain rfl : j = n := by omega
              go_wp2_with fail
              exact ⟨⟨k + 1, by omega, by go_num, hb2⟩, by simp [intOf]; omega⟩
        · obtain rfl : k = vrows.length := by omega
          have d5 := (hb.cell (p := ⟨wb, 5, none⟩) hwl).trans c5
          go_wp2_with fail
          go_loopw [8] (fun i wx => i = .int .i64 0 ∧ Below w.heap.size w wx) (fun _ _ => 0)
          case atStart => exact ⟨rfl, hb⟩
          case round =>
            obtain ⟨rfl, hb⟩ := hrel
            have d5 := (hb.cell (p := ⟨wb, 5, none⟩) hwl).trans c5
            go_wp2_with fail
            go_ret
            exact ⟨rfl, hb⟩
end
end Go.Proofs.YtbnelaoeblhndaaGreatDoor
