/- Walks of rummageref.one, the other kinds. -/
import Derived.Test.YtbnelaoeblhndaaGreatDoorRefOne
namespace Go.Proofs.YtbnelaoeblhndaaGreatDoor
open Go.RowKit
set_option maxRecDepth 100000

set_option maxHeartbeats 400000 in
theorem one_minus_bad (s : ByteArray) (a r : Nat) (w : World) (hs : s.size ≤ 200) (ha : a < s.size) (hr : Doc.run 48 57 (Doc.rest s (a + 1)) = r) (hra : a + 1 + r ≤ s.size)
    (h1 : (s[a].toNat : Int) = 45) (h0 : r = 0 ∨ 7 < r) :
    Calls Tryz.prog 131 #[.string s, .int .i64 a] w fun e w' =>
      e = .returned (.tuple #[.agg #[.int .u8 120, .string ByteArray.empty, .int .i64 0, .int .i64 a], .int .i64 (s.size : Int)]) ∧ Below w.heap.size w w' := by
  have HR : Hid (Doc.run 48 57 (Doc.rest s (a + 1)) = r) := hr
  clear hr
  rcases h0 with h0 | h0
  · subst h0
    go_enter Tryz.func131, Tryz.ntmps131
    go_wp2_with (go_at_call 166; refine (from_digit s (a + 1) 0 _ hs (by omega) HR.out).mono ?_; rintro e w' ⟨rfl, rfl⟩)
    all_goals exact bodyPost_ret (v := .tuple #[.agg #[.int .u8 120, .string ByteArray.empty, .int .i64 0, .int .i64 a], .int .i64 (s.size : Int)]) (by simp [results, Tryz.results131, go_sem]; try rfl) rfl ⟨rfl, (Below.refl _ _).alloc (Nat.le_refl _) _⟩
  · go_enter Tryz.func131, Tryz.ntmps131
    go_wp2_with (go_at_call 166; refine (from_digit s (a + 1) r _ hs (by omega) HR.out).mono ?_; rintro e w' ⟨rfl, rfl⟩)
    all_goals exact bodyPost_ret (v := .tuple #[.agg #[.int .u8 120, .string ByteArray.empty, .int .i64 0, .int .i64 a], .int .i64 (s.size : Int)]) (by simp [results, Tryz.results131, go_sem]; try rfl) rfl ⟨rfl, (Below.refl _ _).alloc (Nat.le_refl _) _⟩

set_option maxHeartbeats 400000 in
theorem one_digits (s : ByteArray) (a r : Nat) (w : World) (hs : s.size ≤ 200) (ha : a < s.size) (hr : Doc.run 48 57 (Doc.rest s a) = r) (hra : a + r ≤ s.size)
    (h1 : (48 : Int) ≤ (s[a].toNat : Int)) (h2 : (s[a].toNat : Int) ≤ 57) (h0 : 0 < r) (h7 : r ≤ 7) (hd : ∀ c ∈ (s.extract a (a + r)).data.toList, (48 : UInt8) ≤ c ∧ c ≤ 57) (hz : (s.extract a (a + r)).size = r) (n : Nat) (hn : Doc.num (s.extract a (a + r)).data.toList = n) :
    Calls Tryz.prog 131 #[.string s, .int .i64 a] w fun e w' =>
      e = .returned (.tuple #[.agg #[.int .u8 110, .string ByteArray.empty, .int .i64 (n : Int), .int .i64 a], .int .i64 ((a + r : Nat) : Int)]) ∧ Below w.heap.size w w' := by
  have HR : Hid (Doc.run 48 57 (Doc.rest s a) = r) := hr
  have HV : Hid (∀ w, Calls Tryz.prog 167 #[.string (s.extract a (a + r))] w fun e w' => e = .returned (.int .i64 (n : Int)) ∧ w' = w) := fun w => by
    have := value_any (s.extract a (a + r)) w hd (by omega)
    rw [hn] at this; exact this
  clear hr hd hz hn
  have h45 : ((s[a].toNat : Int) == 45) = false := by rw [beq_eq_false_iff_ne]; omega
  go_enter Tryz.func131, Tryz.ntmps131
  go_wp2_with (first | (go_at_call 166; refine (from_digit s a r _ hs (by omega) HR.out).mono ?_; rintro e w' ⟨rfl, rfl⟩) | (go_at_call 167; refine (HV.out _).mono ?_; rintro e w' ⟨rfl, rfl⟩))
  all_goals exact bodyPost_ret (v := .tuple #[.agg #[.int .u8 110, .string ByteArray.empty, .int .i64 (n : Int), .int .i64 a], .int .i64 ((a + r : Nat) : Int)]) (by simp [results, Tryz.results131, go_sem]; try rfl) rfl ⟨rfl, (Below.refl _ _).alloc (Nat.le_refl _) _⟩

set_option maxHeartbeats 400000 in
theorem one_digits_bad (s : ByteArray) (a r : Nat) (w : World) (hs : s.size ≤ 200) (ha : a < s.size) (hr : Doc.run 48 57 (Doc.rest s a) = r) (hra : a + r ≤ s.size)
    (h1 : (48 : Int) ≤ (s[a].toNat : Int)) (h2 : (s[a].toNat : Int) ≤ 57) (h0 : 7 < r) :
    Calls Tryz.prog 131 #[.string s, .int .i64 a] w fun e w' =>
      e = .returned (.tuple #[.agg #[.int .u8 120, .string ByteArray.empty, .int .i64 0, .int .i64 a], .int .i64 (s.size : Int)]) ∧ Below w.heap.size w w' := by
  have HR : Hid (Doc.run 48 57 (Doc.rest s a) = r) := hr
  clear hr
  have h45 : ((s[a].toNat : Int) == 45) = false := by rw [beq_eq_false_iff_ne]; omega
  go_enter Tryz.func131, Tryz.ntmps131
  go_wp2_with (go_at_call 166; refine (from_digit s a r _ hs (by omega) HR.out).mono ?_; rintro e w' ⟨rfl, rfl⟩)
  all_goals exact bodyPost_ret (v := .tuple #[.agg #[.int .u8 120, .string ByteArray.empty, .int .i64 0, .int .i64 a], .int .i64 (s.size : Int)]) (by simp [results, Tryz.results131, go_sem]; try rfl) rfl ⟨rfl, (Below.refl _ _).alloc (Nat.le_refl _) _⟩
end Go.Proofs.YtbnelaoeblhndaaGreatDoor
