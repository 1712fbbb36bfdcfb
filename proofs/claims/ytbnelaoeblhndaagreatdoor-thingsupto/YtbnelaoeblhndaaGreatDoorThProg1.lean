/- Walks of the program's within, isSpot, fits, hasName. -/
import Derived.Test.YtbnelaoeblhndaaGreatDoorThRead1
namespace Go.Proofs.YtbnelaoeblhndaaGreatDoor
open Go.RowKit
set_option maxRecDepth 100000

section
variable {w : World}

theorem pwithin_any (n a b : Int) : Calls Tryz.prog 66 #[.int .i64 n, .int .i64 a, .int .i64 b] w fun e w' => e = .returned (.bool (decide (a ≤ n) && decide (n ≤ b))) ∧ w' = w := by
  go_enter Tryz.func66, Tryz.ntmps66
  go_wp2_with fail
  all_goals
    go_ret
    refine ⟨ret_bool ?_, rfl⟩
    first | (simp [*]; done) | (simp_all; done) | (simp_all; omega)

set_option maxHeartbeats 2000000 in
theorem isSpot_any (space : Int) (l : List Int) (hl : l.length ≤ 9223372036854775807) (sv : Value) (hs : Sl w sv l.length (intC l)) :
    Calls Tryz.prog 44 #[sv, .int .i64 space] w fun e w' => e = .returned (.bool (Doc.spotB space l)) ∧ w' = w := by
  by_cases hlen : (l.length : Int) = space
  · have HSP : Hid (Doc.spotB space l = l.all Doc.inSpot) := by show _ = _; unfold Doc.spotB; rw [beq_iff_eq.2 hlen, Bool.and_true]
    rcases hs.has with ⟨h0, a, cap, rfl⟩ | ⟨h0, b, off, cap, rfl, hc, hlt, hr⟩
    · obtain rfl := List.eq_nil_of_length_eq_zero h0
      go_enter Tryz.func44, Tryz.ntmps44
      go_wp2_with fail
      all_goals first
        | (go_loop [13] (fun i => i = .int .i64 0) (fun _ => 0)
           case atStart => rfl
           case round =>
             obtain rfl := hrel
             go_wp2_with fail
             go_ret
             exact ⟨by rw [HSP.out]; rfl, rfl⟩)
        | (exfalso; simp_all; done)
    · have HR : Hid _ := hr
      clear hs hr
      go_enter Tryz.func44, Tryz.ntmps44
      go_wp2_with fail
      go_loop [13] (fun i => ∃ k : Nat, k ≤ l.length ∧ i = .int .i64 k ∧ Hid (∀ j (_ : j < k) (hj : j < l.length), Doc.inSpot l[j] = true)) (fun i => l.length - (intOf i).toNat)
      case atStart => exact ⟨0, Nat.zero_le _, rfl, fun j hj => by omega⟩
      case round =>
        obtain ⟨k, hk, rfl, HB⟩ := hrel
        by_cases hk2 : k < l.length
        · have r0 := HR.out k (.int .i64 l[k]) (by simp [intC, hk2])
          obtain ⟨x, HX⟩ : ∃ x, Hid (x = l[k]) := ⟨l[k], rfl⟩
          rw [← HX.out] at r0
          obtain ⟨g, HG⟩ : ∃ g, Hid (g = (decide (-1000 ≤ x) && decide (x ≤ 1000))) := ⟨(decide (-1000 ≤ x) && decide (x ≤ 1000)), rfl⟩
          cases g with
          | true =>
            go_wp2_with fail
            refine (pwithin_any x (-1000) 1000).mono ?_
            rw [← HG.out]
            rintro e w1 ⟨rfl, hw⟩
            subst hw
            go_wp2_with fail
            go_round
            case rel => exact ⟨k + 1, by omega, by go_num, fun j hj hjl => by
              by_cases h : j = k
              · subst h; rw [← HX.out]; exact HG.out.symm
              · exact HB.out j (by omega) hjl⟩
            case measure => simp [intOf]; omega
          | false =>
            have HF : Hid (Doc.spotB space l = false) := by
              show _ = _
              rw [HSP.out, List.all_eq_false]
              exact ⟨l[k], List.getElem_mem hk2, by rw [← HX.out]; show ¬ Doc.inSpot x = true; rw [show Doc.inSpot x = false from HG.out.symm]; simp⟩
            go_wp2_with fail
            refine (pwithin_any x (-1000) 1000).mono ?_
            rw [← HG.out]
            rintro e w1 ⟨rfl, hw⟩
            subst hw
            go_wp2_with fail
            go_ret
            exact ⟨by rw [HF.out]; rfl, rfl⟩
        · obtain rfl : k = l.length := by omega
          have HF : Hid (Doc.spotB space l = true) := by
            show _ = _
            rw [HSP.out, List.all_eq_true]
            intro y hy
            obtain ⟨j, hj, rfl⟩ := List.getElem_of_mem hy
            exact HB.out j hj hj
          go_wp2_with fail
          go_ret
          exact ⟨by rw [HF.out]; rfl, rfl⟩
  · have HSP : Hid (Doc.spotB space l = false) := by show _ = _; unfold Doc.spotB; rw [beq_eq_false_iff_ne.2 hlen, Bool.and_false]
    obtain ⟨b, c, rfl⟩ : ∃ b c, sv = .slice b l.length c := by
      rcases hs.has with ⟨h0, a, c, e⟩ | ⟨_, b, o, c, e, _⟩
      · rw [h0]; exact ⟨_, _, e⟩
      · exact ⟨_, _, e⟩
    clear hs
    go_enter Tryz.func44, Tryz.ntmps44
    go_wp2_with fail
    all_goals first
      | (go_ret; exact ⟨by rw [HSP.out]; rfl, rfl⟩)
      | (exfalso; simp_all; done)

theorem goodV_kind {v : Doc.Val} {kind : Int} (hk : kind = 1 ∨ kind = 2) : Doc.goodV v kind = (if v.k = kind then (if kind = 1 then (decide (-9999999 ≤ v.n) && decide (v.n ≤ 9999999)) && v.s.toList == [] else v.n == 0 && decide (v.s.size ≤ 12)) else v.k == 0 && (v.n == 0 && v.s.toList == [])) := by
  unfold Doc.goodV
  rcases hk with rfl | rfl
  · by_cases h : v.k = 1
    · rw [if_pos h, if_pos rfl, h]; simp [Bool.and_comm, Bool.and_left_comm]
    · rw [if_neg h]
      have h1 : (v.k == 1) = false := by simpa using h
      rw [h1]; simp
  · by_cases h : v.k = 2
    · rw [if_pos h, if_neg (by decide), h]; simp
    · rw [if_neg h]
      have h1 : (v.k == 2) = false := by simpa using h
      rw [h1]; simp

set_option maxHeartbeats 2000000 in
theorem fits_any (v : Doc.Val) (kind : Int) (hk : kind = 1 ∨ kind = 2) :
    Calls Tryz.prog 67 #[.agg #[.int .i64 v.k, .int .i64 v.n, .string v.s], .int .i64 kind] w fun e w' => e = .returned (.bool (Doc.goodV v kind)) ∧ Below w.heap.size w w' := by
  have HG : Hid _ := goodV_kind (v := v) hk
  obtain ⟨k, n, s⟩ := v
  simp only at HG
  by_cases h : k = kind
  · subst h
    rcases hk with rfl | rfl
    · go_enter Tryz.func67, Tryz.ntmps67
      go_wp2_with fail
      refine (pwithin_any n (-9999999) 9999999).mono ?_
      obtain ⟨g, HW⟩ : ∃ g, Hid (g = (decide (-9999999 ≤ n) && decide (n ≤ 9999999))) := ⟨_, rfl⟩
      rw [← HW.out] at HG ⊢
      rintro e w1 ⟨rfl, hw⟩
      subst hw
      cases g
      all_goals
        go_wp2_with fail
        all_goals
          go_ret
          refine ⟨ret_bool ?_, (Below.refl _ _).alloc (Nat.le_refl _) _⟩
          first
            | (rw [HG.out]; clear HG; first | (simp [*]; done) | (simp_all; done) | (simp_all; omega))
            | (clear HG; simp [Doc.goodV]; done)
            | (clear HG; simp [Doc.goodV]; omega)
    · go_enter Tryz.func67, Tryz.ntmps67
      go_wp2_with fail
      all_goals
        go_ret
        refine ⟨ret_bool ?_, (Below.refl _ _).alloc (Nat.le_refl _) _⟩
        first
          | (rw [HG.out]; clear HG; first | (simp [*]; done) | (simp_all; done) | (simp_all; omega))
          | (clear HG; simp [Doc.goodV]; done)
          | (clear HG; simp [Doc.goodV]; omega)
  · go_enter Tryz.func67, Tryz.ntmps67
    go_wp2_with fail
    all_goals
      go_ret
      refine ⟨ret_bool ?_, (Below.refl _ _).alloc (Nat.le_refl _) _⟩
      first
        | (rw [HG.out]; clear HG; first | (simp [*]; done) | (simp_all; done) | (simp_all; omega))
        | (clear HG; simp [Doc.goodV]; done)
        | (clear HG; simp [Doc.goodV]; omega)
end
end Go.Proofs.YtbnelaoeblhndaaGreatDoor
