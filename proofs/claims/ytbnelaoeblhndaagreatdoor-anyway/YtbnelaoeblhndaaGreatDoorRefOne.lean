/- Walks of rummageref.one: the token at a place. -/
import Derived.Test.YtbnelaoeblhndaaGreatDoorRefLeaf
namespace Go.Proofs.YtbnelaoeblhndaaGreatDoor
open Go.RowKit
set_option maxRecDepth 100000

theorem from_lower (s : ByteArray) (a r : Nat) (w : World) (hs : s.size ≤ 200) (ha : a ≤ s.size) (hr : Doc.run 97 122 (Doc.rest s a) = r) :
    Calls Tryz.prog 166 #[.string s, .int .i64 a, .int .u8 97, .int .u8 122] w fun e w' => e = .returned (.int .i64 ((a : Int) + (r : Int))) ∧ w' = w := by
  have h := from_any s 97 122 a w (by omega) ha
  rw [hr, show (((97 : UInt8).toNat : Nat) : Int) = 97 from rfl, show (((122 : UInt8).toNat : Nat) : Int) = 122 from rfl, Int.natCast_add] at h
  exact h

theorem from_digit (s : ByteArray) (a r : Nat) (w : World) (hs : s.size ≤ 200) (ha : a ≤ s.size) (hr : Doc.run 48 57 (Doc.rest s a) = r) :
    Calls Tryz.prog 166 #[.string s, .int .i64 a, .int .u8 48, .int .u8 57] w fun e w' => e = .returned (.int .i64 ((a : Int) + (r : Int))) ∧ w' = w := by
  have h := from_any s 48 57 a w (by omega) ha
  rw [hr, show (((48 : UInt8).toNat : Nat) : Int) = 48 from rfl, show (((57 : UInt8).toNat : Nat) : Int) = 57 from rfl, Int.natCast_add] at h
  exact h

set_option maxHeartbeats 400000 in
theorem one_word (s : ByteArray) (a r : Nat) (w : World) (hs : s.size ≤ 200) (ha : a < s.size) (hr : Doc.run 97 122 (Doc.rest s a) = r) (hra : a + r ≤ s.size)
    (h1 : (97 : Int) ≤ (s[a].toNat : Int)) (h2 : (s[a].toNat : Int) ≤ 122) (h8 : r ≤ 8) :
    Calls Tryz.prog 131 #[.string s, .int .i64 a] w fun e w' =>
      e = .returned (.tuple #[.agg #[.int .u8 119, .string (s.extract a (a + r)), .int .i64 0, .int .i64 a], .int .i64 ((a + r : Nat) : Int)]) ∧ Below w.heap.size w w' := by
  have HR : Hid (Doc.run 97 122 (Doc.rest s a) = r) := hr
  clear hr
  go_enter Tryz.func131, Tryz.ntmps131
  go_wp2_with (go_at_call 166; refine (from_lower s a r _ hs (by omega) HR.out).mono ?_; rintro e w' ⟨rfl, rfl⟩)
  all_goals exact bodyPost_ret (v := .tuple #[.agg #[.int .u8 119, .string (s.extract a (a + r)), .int .i64 0, .int .i64 a], .int .i64 ((a + r : Nat) : Int)]) (by simp [results, Tryz.results131, go_sem]) rfl ⟨rfl, (Below.refl _ _).alloc (Nat.le_refl _) _⟩

set_option maxHeartbeats 400000 in
theorem one_long (s : ByteArray) (a r : Nat) (w : World) (hs : s.size ≤ 200) (ha : a < s.size) (hr : Doc.run 97 122 (Doc.rest s a) = r) (hra : a + r ≤ s.size)
    (h1 : (97 : Int) ≤ (s[a].toNat : Int)) (h2 : (s[a].toNat : Int) ≤ 122) (h8 : 8 < r) :
    Calls Tryz.prog 131 #[.string s, .int .i64 a] w fun e w' =>
      e = .returned (.tuple #[.agg #[.int .u8 120, .string ByteArray.empty, .int .i64 0, .int .i64 a], .int .i64 (s.size : Int)]) ∧ Below w.heap.size w w' := by
  have HR : Hid (Doc.run 97 122 (Doc.rest s a) = r) := hr
  clear hr
  go_enter Tryz.func131, Tryz.ntmps131
  go_wp2_with (go_at_call 166; refine (from_lower s a r _ hs (by omega) HR.out).mono ?_; rintro e w' ⟨rfl, rfl⟩)
  all_goals exact bodyPost_ret (v := .tuple #[.agg #[.int .u8 120, .string ByteArray.empty, .int .i64 0, .int .i64 a], .int .i64 (s.size : Int)]) (by simp [results, Tryz.results131, go_sem]; try rfl) rfl ⟨rfl, (Below.refl _ _).alloc (Nat.le_refl _) _⟩

set_option maxHeartbeats 400000 in
theorem one_minus (s : ByteArray) (a r : Nat) (w : World) (hs : s.size ≤ 200) (ha : a < s.size) (hr : Doc.run 48 57 (Doc.rest s (a + 1)) = r) (hra : a + 1 + r ≤ s.size)
    (h1 : (s[a].toNat : Int) = 45) (h0 : 0 < r) (h7 : r ≤ 7) (hd : ∀ c ∈ (s.extract (a + 1) (a + 1 + r)).data.toList, (48 : UInt8) ≤ c ∧ c ≤ 57) (hz : (s.extract (a + 1) (a + 1 + r)).size = r) (n : Nat) (hn : Doc.num (s.extract (a + 1) (a + 1 + r)).data.toList = n) (hnb : n < 10000000) :
    Calls Tryz.prog 131 #[.string s, .int .i64 a] w fun e w' =>
      e = .returned (.tuple #[.agg #[.int .u8 110, .string ByteArray.empty, .int .i64 (-(n : Int)), .int .i64 a], .int .i64 ((a + 1 + r : Nat) : Int)]) ∧ Below w.heap.size w w' := by
  have HR : Hid (Doc.run 48 57 (Doc.rest s (a + 1)) = r) := hr
  have HV : Hid (∀ w, Calls Tryz.prog 167 #[.string (s.extract (a + 1) (a + 1 + r))] w fun e w' => e = .returned (.int .i64 (n : Int)) ∧ w' = w) := fun w => by
    have := value_any (s.extract (a + 1) (a + 1 + r)) w hd (by omega)
    rw [hn] at this; exact this
  clear hr hd hz hn
  go_enter Tryz.func131, Tryz.ntmps131
  go_wp2_with (first | (go_at_call 166; refine (from_digit s (a + 1) r _ hs (by omega) HR.out).mono ?_; rintro e w' ⟨rfl, rfl⟩) | (go_at_call 167; refine (HV.out _).mono ?_; rintro e w' ⟨rfl, rfl⟩))
  all_goals exact bodyPost_ret (v := .tuple #[.agg #[.int .u8 110, .string ByteArray.empty, .int .i64 (-(n : Int)), .int .i64 a], .int .i64 ((a + 1 + r : Nat) : Int)]) (by simp [results, Tryz.results131, go_sem]; try rfl) rfl ⟨rfl, (Below.refl _ _).alloc (Nat.le_refl _) _⟩
end Go.Proofs.YtbnelaoeblhndaaGreatDoor
