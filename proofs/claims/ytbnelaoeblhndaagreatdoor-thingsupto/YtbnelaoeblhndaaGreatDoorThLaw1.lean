/- Walks of the statement's pick and same. -/
import Derived.Test.YtbnelaoeblhndaaGreatDoorThRef1
namespace Go.Proofs.YtbnelaoeblhndaaGreatDoor
open Go.RowKit
set_option maxRecDepth 100000

theorem tmod_nat (x : Int) (hx : 0 ≤ x) (n : Nat) (hn : 0 < n) : ∃ r : Nat, x.tmod n = r ∧ r < n := by
  refine ⟨x.toNat % n, ?_, Nat.mod_lt _ hn⟩
  rw [Int.ofNat_tmod, Int.toNat_of_nonneg hx]

section
variable {w : World}

set_option maxHeartbeats 1000000 in
theorem pick_any (c : Int) (hc1 : -9223372036854775808 ≤ c) (hc2 : c ≤ 9223372036854775807) (n : Nat) (hn : 0 < n) (hn2 : n ≤ 9223372036854775807) :
    Calls Tryz.prog 55 #[.int .i64 c, .int .i64 n] w fun e w' => (∃ r : Nat, r < n ∧ e = .returned (.int .i64 r)) ∧ w' = w := by
  by_cases h : c < 0
  · obtain ⟨r, h1, h2⟩ := tmod_nat (-(c + 1)) (by omega) n hn
    go_enter Tryz.func55, Tryz.ntmps55
    go_wp2_with fail
    go_ret
    exact ⟨⟨r, h2, rfl⟩, rfl⟩
  · obtain ⟨r, h1, h2⟩ := tmod_nat c (by omega) n hn
    go_enter Tryz.func55, Tryz.ntmps55
    go_wp2_with fail
    go_ret
    exact ⟨⟨r, h2, rfl⟩, rfl⟩

theorem int_at (l : List Int) (k : Nat) (hk : k < l.length) : (intC l)[k]? = some (.int .i64 l[k]) := by simp [intC, hk]

set_option maxHeartbeats 2000000 in
/-- Lists that read alike are the same. -/
theorem same_any (l : List Int) (hl : l.length ≤ 9223372036854775807) (av bv : Value) (ha : Sl w av l.length (intC l)) (hb : Sl w bv l.length (intC l)) :
    Calls Tryz.prog 98 #[av, bv] w fun e w' => e = .returned (.bool true) ∧ Below w.heap.size w w' := by
  rcases ha.has with ⟨h0, a, cap, rfl⟩ | ⟨h0, b, off, cap, rfl, hc, hlt, hr⟩
  · obtain ⟨a2, cap2, rfl⟩ : ∃ a c, bv = .slice a 0 c := by
      rcases hb.has with ⟨_, a, c, e⟩ | ⟨h1, _⟩
      · exact ⟨a, c, e⟩
      · omega
    go_enter Tryz.func98, Tryz.ntmps98
    go_wp2_with fail
    go_loop [5] (fun i => i = .int .i64 0) (fun _ => 0)
    case atStart => rfl
    case round =>
      obtain rfl := hrel
      go_wp2_with fail
      go_ret
      exact ⟨rfl, Below.refl _ _⟩
  · rcases hb.has with ⟨h1, _⟩ | ⟨_, b2, off2, cap2, rfl, hc2, hlt2, hr2⟩
    · omega
    have HR : Hid _ := hr
    have HR2 : Hid _ := hr2
    clear ha hb hr hr2
    go_enter Tryz.func98, Tryz.ntmps98
    go_wp2_with fail
    go_loopw [5] (fun i wr => ∃ k : Nat, k ≤ l.length ∧ i = .int .i64 k ∧ Below w.heap.size w wr) (fun i _ => l.length - (intOf i).toNat)
    case atStart => exact ⟨0, Nat.zero_le _, rfl, Below.refl _ _⟩
    case round =>
      obtain ⟨k, hk, rfl, hb⟩ := hrel
      by_cases hk2 : k < l.length
      · have r0 := (hb.cell (p := ⟨b, off + k, none⟩) hlt).trans (HR.out k _ (int_at l k hk2))
        have r1 := (hb.cell (p := ⟨b2, off2 + k, none⟩) hlt2).trans (HR2.out k _ (int_at l k hk2))
        obtain ⟨x, HX⟩ : ∃ x, Hid (x = l[k]) := ⟨l[k], rfl⟩
        rw [← HX.out] at r0 r1
        go_wp2_with fail
        go_region
        all_goals
          go_wp2_with fail
          go_roundw
          case rel => exact ⟨k + 1, by omega, by go_num, hb.drew⟩
          case measure => simp [intOf]; omega
      · obtain rfl : k = l.length := by omega
        go_wp2_with fail
        go_ret
        exact ⟨rfl, hb⟩
end
end Go.Proofs.YtbnelaoeblhndaaGreatDoor
