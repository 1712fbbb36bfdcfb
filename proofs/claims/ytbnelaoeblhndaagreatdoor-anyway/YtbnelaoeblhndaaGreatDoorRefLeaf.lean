/- Walks of the smallest functions of package rummageref. -/
import Derived.Test.YtbnelaoeblhndaaGreatDoorRows
import Derived.Test.YtbnelaoeblhndaaGreatDoorParse
import Derived.WalkKit
import Derived.WalkSpells
import Derived.WalkLawsBesides
namespace Go.Proofs.YtbnelaoeblhndaaGreatDoor
open Go.RowKit

theorem drop_at (s : ByteArray) (k : Nat) (h : k < s.size) : s.data.toList.drop k = s[k] :: s.data.toList.drop (k + 1) := by
  rw [List.drop_eq_getElem_cons (by simpa using h)]; rfl

theorem run_stop (s : ByteArray) (k : Nat) (lo hi : UInt8) (h : s.size ≤ k) : Doc.run lo hi (s.data.toList.drop k) = 0 := by
  rw [List.drop_of_length_le (by simpa using h)]; rfl

theorem run_go (s : ByteArray) (k : Nat) (lo hi : UInt8) (h : k < s.size) (a : (lo.toNat : Int) ≤ (s[k].toNat : Int)) (b : (s[k].toNat : Int) ≤ (hi.toNat : Int)) :
    Doc.run lo hi (s.data.toList.drop k) = Doc.run lo hi (s.data.toList.drop (k + 1)) + 1 := by
  rw [drop_at s k h, Doc.run_hit (by rw [UInt8.le_iff_toNat_le]; omega) (by rw [UInt8.le_iff_toNat_le]; omega)]

theorem run_halt (s : ByteArray) (k : Nat) (lo hi : UInt8) (h : k < s.size) (a : ¬ ((lo.toNat : Int) ≤ (s[k].toNat : Int) ∧ (s[k].toNat : Int) ≤ (hi.toNat : Int))) :
    Doc.run lo hi (s.data.toList.drop k) = 0 := by
  rw [drop_at s k h, Doc.run_miss (by rw [UInt8.le_iff_toNat_le, UInt8.le_iff_toNat_le]; omega)]

theorem ret_int {k : IntKind} {a b : Int} (h : a = b) : Ending.returned (.int k a) = .returned (.int k b) := by rw [h]

set_option maxHeartbeats 400000 in
theorem from_any (s : ByteArray) (lo hi : UInt8) (k0 : Nat) (w : World) (hs : s.size ≤ 140737488351232) (hk0 : k0 ≤ s.size) :
    Calls Tryz.prog 166 #[.string s, .int .i64 k0, .int .u8 lo.toNat, .int .u8 hi.toNat] w fun e w' =>
      e = .returned (.int .i64 ((k0 + Doc.run lo hi (Doc.rest s k0) : Nat) : Int)) ∧ w' = w := by
  show Calls _ _ _ _ fun e w' => e = .returned (.int .i64 ((k0 + Doc.run lo hi (s.data.toList.drop k0) : Nat) : Int)) ∧ w' = w
  go_enter Tryz.func166, Tryz.ntmps166
  go_wp2
  go_loop [1] (fun i => ∃ k : Nat, k ≤ s.size ∧ i = .int .i64 k ∧ Hid (k + Doc.run lo hi (s.data.toList.drop k) = k0 + Doc.run lo hi (s.data.toList.drop k0))) (fun i => s.size - (intOf i).toNat)
  case atStart => exact ⟨k0, hk0, rfl, rfl⟩
  case round =>
    obtain ⟨k, hk, rfl, H⟩ := hrel
    by_cases hlt : k < s.size
    · by_cases ha : (lo.toNat : Int) ≤ (s[k].toNat : Int)
      · by_cases hb : (s[k].toNat : Int) ≤ (hi.toNat : Int)
        · go_wp2
          go_round
          case rel => exact ⟨k + 1, by omega, by go_num, by have := run_go s k lo hi hlt ha hb; have := H.out; show _ = _; omega⟩
          case measure => simp [intOf]; omega
        · go_wp2
          go_ret
          exact ⟨ret_int (by have := run_halt s k lo hi hlt (by omega); have := H.out; omega), rfl⟩
      · go_wp2
        go_ret
        exact ⟨ret_int (by have := run_halt s k lo hi hlt (by omega); have := H.out; omega), rfl⟩
    · go_wp2
      go_ret
      exact ⟨ret_int (by have := run_stop s k lo hi (by omega); have := H.out; omega), rfl⟩

theorem take_snoc (s : ByteArray) (k : Nat) (h : k < s.size) : s.data.toList.take (k + 1) = s.data.toList.take k ++ [s[k]] := by
  rw [List.take_succ_eq_append_getElem (by simpa using h)]; rfl

theorem num_step (s : ByteArray) (k : Nat) (h : k < s.size) (h1 : (48 : Int) ≤ (s[k].toNat : Int)) :
    ((Doc.num (s.data.toList.take (k + 1)) : Nat) : Int) = 10 * (Doc.num (s.data.toList.take k) : Int) + ((s[k].toNat : Int) - 48) := by
  rw [take_snoc s k h, Doc.num_snoc]; omega

theorem digit_at (s : ByteArray) (hd : ∀ c ∈ s.data.toList, (48 : UInt8) ≤ c ∧ c ≤ 57) (k : Nat) (h : k < s.size) : (48 : Int) ≤ (s[k].toNat : Int) ∧ (s[k].toNat : Int) ≤ 57 := by
  have h1 := hd s[k] (by show s.data[k] ∈ _; simp)
  rw [UInt8.le_iff_toNat_le, UInt8.le_iff_toNat_le] at h1
  have h3 : (57 : UInt8).toNat = 57 := rfl
  have h4 : (48 : UInt8).toNat = 48 := rfl
  omega

theorem num_bound (s : ByteArray) (hd : ∀ c ∈ s.data.toList, (48 : UInt8) ≤ c ∧ c ≤ 57) (k : Nat) (h : k ≤ s.size) (h7 : s.size ≤ 7) : Doc.num (s.data.toList.take k) < 10000000 := by
  have h1 := Doc.num_lt (s.data.toList.take k) (fun c hc => hd c (List.mem_of_mem_take hc))
  have h2 : (s.data.toList.take k).length ≤ 7 := by rw [List.length_take]; omega
  have h3 : 10 ^ (s.data.toList.take k).length ≤ 10 ^ 7 := Nat.pow_le_pow_right (by omega) h2
  omega

set_option maxHeartbeats 400000 in
theorem value_any (s : ByteArray) (w : World) (hd : ∀ c ∈ s.data.toList, (48 : UInt8) ≤ c ∧ c ≤ 57) (h7 : s.size ≤ 7) :
    Calls Tryz.prog 167 #[.string s] w fun e w' => e = .returned (.int .i64 ((Doc.num s.data.toList : Nat) : Int)) ∧ w' = w := by
  go_enter Tryz.func167, Tryz.ntmps167
  go_wp2
  go_loop [3, 4] (fun n i => ∃ k : Nat, k ≤ s.size ∧ i = .int .i64 k ∧ n = .int .i64 (Doc.num (s.data.toList.take k) : Nat)) (fun _ i => s.size - (intOf i).toNat)
  case atStart => exact ⟨0, Nat.zero_le _, rfl, rfl⟩
  case round =>
    obtain ⟨k, hk, rfl, rfl⟩ := hrel
    by_cases hlt : k < s.size
    · obtain ⟨h1, h2⟩ := digit_at s hd k hlt
      have h3 := num_bound s hd k (by omega) h7
      have HS : Hid (((Doc.num (s.data.toList.take (k + 1)) : Nat) : Int) = 10 * (Doc.num (s.data.toList.take k) : Int) + ((s[k].toNat : Int) - 48)) := num_step s k hlt h1
      clear hd
      go_wp2
      go_round
      case rel => exact ⟨k + 1, by omega, by go_num, by rw [HS.out]⟩
      case measure => simp [intOf]; omega
    · have hks : k = s.size := by omega
      subst hks
      clear hd
      go_wp2
      go_ret
      exact ⟨ret_int (by rw [List.take_of_length_le (by simp)]), rfl⟩
end Go.Proofs.YtbnelaoeblhndaaGreatDoor
