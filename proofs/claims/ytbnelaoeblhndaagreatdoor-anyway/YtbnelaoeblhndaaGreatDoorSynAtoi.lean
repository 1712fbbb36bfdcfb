/- The walk of strconv.Atoi at a short number. -/
import Derived.Test.YtbnelaoeblhndaaGreatDoorSynTok4
namespace Go.Proofs.YtbnelaoeblhndaaGreatDoor
open Go.RowKit
set_option maxRecDepth 100000

theorem bytesRow_at (D : ByteArray) (cap k : Nat) (h : k < D.size) : (bytesRow D cap)[k]? = some (.int .u8 D[k].toNat) := by
  have h' : k < D.data.size := h
  unfold bytesRow
  rw [Array.getElem?_append_left (by simpa using h'), Array.getElem?_map, Array.getElem?_eq_getElem h']
  rfl

theorem cell_new_fr (w : World) (cs : Array Value) (T : TypeId) (fr : Nat × Nat) (j : Nat) : (w.alloc (.cells cs T fr)).cell? ⟨w.heap.size, j, none⟩ = cs[j]? := by
  have h := heap_alloc_new w (.cells cs T fr)
  unfold World.cell?
  dsimp only
  rw [h]
  rfl

set_option maxHeartbeats 1000000 in
theorem atoi_in_plain (x : ByteArray) (w : World) (h0 : 0 < x.size) (h7 : x.size ≤ 7) (hd : ∀ c ∈ x.data.toList, (48 : UInt8) ≤ c ∧ c ≤ 57) :
    Calls Tryz.prog 225 #[.string x] w fun e w' => e = .returned (.tuple #[.int .i64 ((Doc.num x.data.toList : Nat) : Int), .nilIface]) ∧ Below w.heap.size w w' := by
  have hcv := fun w => run_bytes_of_string (P := Tryz.prog) w 9 124 5 x Tryz.underlying9 Tryz.underlying124 Tryz.underlying5
  obtain ⟨q1, q2⟩ := digit_at x hd 0 h0
  have k1 : ((x[0].toNat : Int) == 45) = false := by rw [beq_eq_false_iff_ne]; omega
  have k2 : ((x[0].toNat : Int) == 43) = false := by rw [beq_eq_false_iff_ne]; omega
  have HD : Hid (∀ c ∈ x.data.toList, (48 : UInt8) ≤ c ∧ c ≤ 57) := hd
  clear hd
  go_enter Tryz.func225, Tryz.ntmps225
  go_wp2_with fail
  clear hcv
  go_loopw [6, 8, 49] (fun n _ i wx => ∃ k : Nat, k ≤ x.size ∧ i = .int .i64 k ∧ n = .int .i64 (Doc.num (x.data.toList.take k) : Nat) ∧ Below w.heap.size w wx ∧ Hid (∀ j (hj : j < x.size), wx.cell? ⟨w.heap.size, j, none⟩ = some (.int .u8 x[j].toNat))) (fun _ _ i _ => x.size - (intOf i).toNat)
  case atStart =>
    refine ⟨0, Nat.zero_le _, rfl, rfl, ((Below.refl _ _).alloc (Nat.le_refl _) _).drew, fun j hj => ?_⟩
    have := bytesRow_at x (grownCap w x.size 0 5) j hj
    exact (cell_new_fr w _ _ _ j).trans this
  case round =>
    obtain ⟨k, hk, rfl, rfl, hbx, HC⟩ := hrel
    by_cases hlt : k < x.size
    · obtain ⟨h1, h2⟩ := digit_at x HD.out k hlt
      have h3 := num_bound x HD.out k (by omega) h7
      have HS : Hid (((Doc.num (x.data.toList.take (k + 1)) : Nat) : Int) = 10 * (Doc.num (x.data.toList.take k) : Int) + ((x[k].toNat : Int) - 48)) := num_step x k hlt h1
      have hc := HC.out k hlt
      go_wp2_with fail
      go_roundw
      case rel => exact ⟨k + 1, by omega, by go_num, by rw [HS.out]; go_num, hbx, HC⟩
      case measure => simp [intOf]; omega
    · have hks : k = x.size := by omega
      subst hks
      have HN : Hid (Doc.num (x.data.toList.take x.size) = Doc.num x.data.toList) := by show _ = _; rw [List.take_of_length_le (by rw [Array.length_toList]; exact Nat.le_refl _)]
      go_wp2_with fail
      go_ret2
      exact ⟨by rw [HN.out]; rfl, hbx⟩
set_option maxHeartbeats 1000000 in
theorem atoi_in_minus (y x : ByteArray) (w : World) (hy : y.extract 1 y.size = x) (hy0 : 0 < y.size) (hy8 : y.size ≤ 8) (hy45 : (y[0].toNat : Int) = 45) (h0 : 0 < x.size) (h7 : x.size ≤ 7) (hd : ∀ c ∈ x.data.toList, (48 : UInt8) ≤ c ∧ c ≤ 57) :
    Calls Tryz.prog 225 #[.string y] w fun e w' => e = .returned (.tuple #[.int .i64 (-((Doc.num x.data.toList : Nat) : Int)), .nilIface]) ∧ Below w.heap.size w w' := by
  have hcv := fun w => run_bytes_of_string (P := Tryz.prog) w 9 124 5 x Tryz.underlying9 Tryz.underlying124 Tryz.underlying5
  have HD : Hid (∀ c ∈ x.data.toList, (48 : UInt8) ≤ c ∧ c ≤ 57) := hd
  clear hd
  go_enter Tryz.func225, Tryz.ntmps225
  go_wp2_with fail
  clear hcv
  go_loopw [6, 8, 49] (fun n _ i wx => ∃ k : Nat, k ≤ x.size ∧ i = .int .i64 k ∧ n = .int .i64 (Doc.num (x.data.toList.take k) : Nat) ∧ Below w.heap.size w wx ∧ Hid (∀ j (hj : j < x.size), wx.cell? ⟨w.heap.size, j, none⟩ = some (.int .u8 x[j].toNat))) (fun _ _ i _ => x.size - (intOf i).toNat)
  case atStart =>
    refine ⟨0, Nat.zero_le _, rfl, rfl, ((Below.refl _ _).alloc (Nat.le_refl _) _).drew, fun j hj => ?_⟩
    have := bytesRow_at x (grownCap w x.size 0 5) j hj
    exact (cell_new_fr w _ _ _ j).trans this
  case round =>
    obtain ⟨k, hk, rfl, rfl, hbx, HC⟩ := hrel
    by_cases hlt : k < x.size
    · obtain ⟨h1, h2⟩ := digit_at x HD.out k hlt
      have h3 := num_bound x HD.out k (by omega) h7
      have HS : Hid (((Doc.num (x.data.toList.take (k + 1)) : Nat) : Int) = 10 * (Doc.num (x.data.toList.take k) : Int) + ((x[k].toNat : Int) - 48)) := num_step x k hlt h1
      have hc := HC.out k hlt
      go_wp2_with fail
      go_roundw
      case rel => exact ⟨k + 1, by omega, by go_num, by rw [HS.out]; go_num, hbx, HC⟩
      case measure => simp [intOf]; omega
    · have hks : k = x.size := by omega
      subst hks
      have h3 := num_bound x HD.out x.size (Nat.le_refl _) h7
      have HN : Hid (Doc.num (x.data.toList.take x.size) = Doc.num x.data.toList) := by show _ = _; rw [List.take_of_length_le (by rw [Array.length_toList]; exact Nat.le_refl _)]
      go_wp2_with fail
      go_ret2
      exact ⟨by rw [HN.out]; rfl, hbx⟩

set_option maxHeartbeats 400000 in
theorem atoi_of (x : ByteArray) (n : Int) (w : World) (h : ∀ w, Calls Tryz.prog 225 #[.string x] w fun e w' => e = .returned (.tuple #[.int .i64 n, .nilIface]) ∧ Below w.heap.size w w') :
    Calls Tryz.prog 224 #[.string x] w fun e w' => e = .returned (.tuple #[.int .i64 n, .nilIface]) ∧ Below w.heap.size w w' := by
  have HH : Hid (∀ w, Calls Tryz.prog 225 #[.string x] w fun e w' => e = .returned (.tuple #[.int .i64 n, .nilIface]) ∧ Below w.heap.size w w') := h
  clear h
  go_enter Tryz.func224, Tryz.ntmps224
  go_wp2_with (go_at_call 225; refine (HH.out _).mono ?_; rintro e w1 ⟨rfl, hb⟩)
  go_ret2
  exact ⟨rfl, hb⟩
end Go.Proofs.YtbnelaoeblhndaaGreatDoor
