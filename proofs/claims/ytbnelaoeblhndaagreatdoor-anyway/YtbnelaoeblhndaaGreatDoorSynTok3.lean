/- Walks of package syntax's measuring functions. Walks of package syntax's measuring functions, more. Walks of package syntax's measuring functions: quotes and signs. -/
import Derived.Test.YtbnelaoeblhndaaGreatDoorRefLeaf
import Derived.Test.YtbnelaoeblhndaaGreatDoorParse
import Derived.Lib.Bytealg
import Derived.LoopN
namespace Go.Proofs.YtbnelaoeblhndaaGreatDoor
open Go.RowKit
set_option maxRecDepth 100000

theorem ret_bool' {a b : Bool} (h : a = b) : Ending.returned (.bool a) = .returned (.bool b) := by rw [h]

set_option maxHeartbeats 400000 in
theorem isLetter_any (c : UInt8) (w : World) : Calls Tryz.prog 119 #[.int .u8 c.toNat] w fun e w' => e = .returned (.bool (Doc.isLetter c)) ∧ w' = w := by
  have HB : Hid (∀ b : Bool, (decide ((97 : Int) ≤ (c.toNat : Int)) && decide ((c.toNat : Int) ≤ 122)) = b → b = Doc.isLetter c) := by
    intro b hb; rw [← hb]; unfold Doc.isLetter; rw [Bool.eq_iff_iff]; simp [UInt8.le_iff_toNat_le]; omega
  generalize Doc.isLetter c = x at *
  go_enter Tryz.func119, Tryz.ntmps119
  go_wp2_with fail
  all_goals
    go_ret
    refine ⟨ret_bool' (HB.out _ ?_), rfl⟩
    clear HB
    simp [*]
    try omega

set_option maxHeartbeats 400000 in
theorem isDigit_any (c : UInt8) (w : World) : Calls Tryz.prog 121 #[.int .u8 c.toNat] w fun e w' => e = .returned (.bool (Doc.isDigit c)) ∧ w' = w := by
  have HB : Hid (∀ b : Bool, (decide ((48 : Int) ≤ (c.toNat : Int)) && decide ((c.toNat : Int) ≤ 57)) = b → b = Doc.isDigit c) := by
    intro b hb; rw [← hb]; unfold Doc.isDigit; rw [Bool.eq_iff_iff]; simp [UInt8.le_iff_toNat_le]; omega
  generalize Doc.isDigit c = x at *
  go_enter Tryz.func121, Tryz.ntmps121
  go_wp2_with fail
  all_goals
    go_ret
    refine ⟨ret_bool' (HB.out _ ?_), rfl⟩
    clear HB
    simp [*]
    try omega

theorem count_hit {p : UInt8 → Bool} {s : ByteArray} {k : Nat} (h : k < s.size) (hp : p s[k] = true) : ((s.data.toList.drop k).takeWhile p).length = ((s.data.toList.drop (k + 1)).takeWhile p).length + 1 := by
  rw [drop_at s k h, List.takeWhile_cons_of_pos hp]; rfl
theorem count_miss {p : UInt8 → Bool} {s : ByteArray} {k : Nat} (h : k < s.size) (hp : p s[k] = false) : ((s.data.toList.drop k).takeWhile p).length = 0 := by
  rw [drop_at s k h, List.takeWhile_cons_of_neg (by rw [hp]; simp)]; rfl
theorem count_end {p : UInt8 → Bool} {s : ByteArray} {k : Nat} (h : s.size ≤ k) : ((s.data.toList.drop k).takeWhile p).length = 0 := by
  rw [List.drop_of_length_le (by simpa using h)]; rfl

set_option maxHeartbeats 400000 in
theorem countLetters (s : ByteArray) (w : World) (hs : s.size ≤ 140737488351232) :
    Calls Tryz.prog 158 #[.string s, .func (.func 119) #[] #[]] w fun e w' => e = .returned (.int .i64 (((s.data.toList.drop 0).takeWhile Doc.isLetter).length : Nat)) ∧ w' = w := by
  go_enter Tryz.func158, Tryz.ntmps158
  go_wp2_with fail
  go_loopw [5] (fun i wx => ∃ k : Nat, k ≤ s.size ∧ i = .int .i64 k ∧ Hid (k + ((s.data.toList.drop k).takeWhile Doc.isLetter).length = ((s.data.toList.drop 0).takeWhile Doc.isLetter).length) ∧ wx = w) (fun i _ => s.size - (intOf i).toNat)
  case atStart => exact ⟨0, Nat.zero_le _, rfl, by show _ = _; omega, rfl⟩
  case round =>
    obtain ⟨k, hk, rfl, H, rfl⟩ := hrel
    by_cases hlt : k < s.size
    · by_cases hp : Doc.isLetter s[k] = true
      · have HP : Hid (Doc.isLetter s[k] = true) := hp
        have H2 : Hid (k + 1 + ((s.data.toList.drop (k + 1)).takeWhile Doc.isLetter).length = ((s.data.toList.drop 0).takeWhile Doc.isLetter).length) := by
          have := H.out; rw [count_hit hlt hp] at this; show _ = _; omega
        clear hp H
        go_wp2_with (go_at_call 119; refine (isLetter_any s[k] _).mono ?_; rw [HP.out]; rintro e w' ⟨rfl, rfl⟩)
        go_roundw
        case rel => exact ⟨k + 1, by omega, by go_num, H2, by first | rfl | trivial⟩
        case measure => simp [intOf]; omega
      · have hp : Doc.isLetter s[k] = false := by simpa using hp
        have HP : Hid (Doc.isLetter s[k] = false) := hp
        have H2 : Hid (k = ((s.data.toList.drop 0).takeWhile Doc.isLetter).length) := by
          have := H.out; rw [count_miss hlt hp] at this; show _ = _; omega
        clear hp H
        go_wp2_with (go_at_call 119; refine (isLetter_any s[k] _).mono ?_; rw [HP.out]; rintro e w' ⟨rfl, rfl⟩)
        go_ret
        exact ⟨ret_int (by rw [← H2.out]), rfl⟩
    · have H2 : Hid (k = ((s.data.toList.drop 0).takeWhile Doc.isLetter).length) := by
        have := H.out; rw [count_end (by omega)] at this; show _ = _; omega
      clear H
      go_wp2_with fail
      go_ret
      exact ⟨ret_int (by rw [← H2.out]), rfl⟩

set_option maxHeartbeats 400000 in
theorem countDigits (s : ByteArray) (w : World) (hs : s.size ≤ 140737488351232) :
    Calls Tryz.prog 158 #[.string s, .func (.func 121) #[] #[]] w fun e w' => e = .returned (.int .i64 (((s.data.toList.drop 0).takeWhile Doc.isDigit).length : Nat)) ∧ w' = w := by
  go_enter Tryz.func158, Tryz.ntmps158
  go_wp2_with fail
  go_loopw [5] (fun i wx => ∃ k : Nat, k ≤ s.size ∧ i = .int .i64 k ∧ Hid (k + ((s.data.toList.drop k).takeWhile Doc.isDigit).length = ((s.data.toList.drop 0).takeWhile Doc.isDigit).length) ∧ wx = w) (fun i _ => s.size - (intOf i).toNat)
  case atStart => exact ⟨0, Nat.zero_le _, rfl, by show _ = _; omega, rfl⟩
  case round =>
    obtain ⟨k, hk, rfl, H, rfl⟩ := hrel
    by_cases hlt : k < s.size
    · by_cases hp : Doc.isDigit s[k] = true
      · have HP : Hid (Doc.isDigit s[k] = true) := hp
        have H2 : Hid (k + 1 + ((s.data.toList.drop (k + 1)).takeWhile Doc.isDigit).length = ((s.data.toList.drop 0).takeWhile Doc.isDigit).length) := by
          have := H.out; rw [count_hit hlt hp] at this; show _ = _; omega
        clear hp H
        go_wp2_with (go_at_call 121; refine (isDigit_any s[k] _).mono ?_; rw [HP.out]; rintro e w' ⟨rfl, rfl⟩)
        go_roundw
        case rel => exact ⟨k + 1, by omega, by go_num, H2, by first | rfl | trivial⟩
        case measure => simp [intOf]; omega
      · have hp : Doc.isDigit s[k] = false := by simpa using hp
        have HP : Hid (Doc.isDigit s[k] = false) := hp
        have H2 : Hid (k = ((s.data.toList.drop 0).takeWhile Doc.isDigit).length) := by
          have := H.out; rw [count_miss hlt hp] at this; show _ = _; omega
        clear hp H
        go_wp2_with (go_at_call 121; refine (isDigit_any s[k] _).mono ?_; rw [HP.out]; rintro e w' ⟨rfl, rfl⟩)
        go_ret
        exact ⟨ret_int (by rw [← H2.out]), rfl⟩
    · have H2 : Hid (k = ((s.data.toList.drop 0).takeWhile Doc.isDigit).length) := by
        have := H.out; rw [count_end (by omega)] at this; show _ = _; omega
      clear H
      go_wp2_with fail
      go_ret
      exact ⟨ret_int (by rw [← H2.out]), rfl⟩
end Go.Proofs.YtbnelaoeblhndaaGreatDoor

namespace Go.Proofs.YtbnelaoeblhndaaGreatDoor
open Go.RowKit
set_option maxRecDepth 100000

theorem rest0 (s : ByteArray) : Doc.rest s 0 = s.data.toList := rfl
theorem run_letters (l : List UInt8) : (l.takeWhile Doc.isLetter).length = Doc.run 97 122 l := rfl
theorem run_digits (l : List UInt8) : (l.takeWhile Doc.isDigit).length = Doc.run 48 57 l := rfl

set_option maxHeartbeats 400000 in
theorem mWord (s : ByteArray) (r : Nat) (w : World) (hs : s.size ≤ 140737488351232) (hr : Doc.run 97 122 s.data.toList = r) (h8 : r ≤ 8) :
    Calls Tryz.prog 120 #[.string s] w fun e w' => e = .returned (.tuple #[.int .i64 2, .int .i64 r]) ∧ w' = w := by
  have HC : Hid (∀ w, Calls Tryz.prog 158 #[.string s, .func (.func 119) #[] #[]] w fun e w' => e = .returned (.int .i64 r) ∧ w' = w) := fun w => by
    have := countLetters s w hs
    rw [run_letters, List.drop_zero, hr] at this; exact this
  clear hr
  go_enter Tryz.func120, Tryz.ntmps120
  go_wp2_with (go_at_call 158; refine (HC.out _).mono ?_; rintro e w' ⟨rfl, rfl⟩)
  go_ret2
  exact ⟨rfl, rfl⟩

set_option maxHeartbeats 400000 in
theorem mWord_bad (s : ByteArray) (r : Nat) (w : World) (hs : s.size ≤ 140737488351232) (hr : Doc.run 97 122 s.data.toList = r) (h8 : 8 < r) :
    Calls Tryz.prog 120 #[.string s] w fun e w' => e = .returned (.tuple #[.int .i64 1, .int .i64 0]) ∧ w' = w := by
  have HC : Hid (∀ w, Calls Tryz.prog 158 #[.string s, .func (.func 119) #[] #[]] w fun e w' => e = .returned (.int .i64 r) ∧ w' = w) := fun w => by
    have := countLetters s w hs
    rw [run_letters, List.drop_zero, hr] at this; exact this
  clear hr
  go_enter Tryz.func120, Tryz.ntmps120
  go_wp2_with (go_at_call 158; refine (HC.out _).mono ?_; rintro e w' ⟨rfl, rfl⟩)
  go_ret2
  exact ⟨rfl, rfl⟩

set_option maxHeartbeats 400000 in
theorem mMinus (s : ByteArray) (r : Nat) (w : World) (hs : s.size ≤ 140737488351232) (h0 : 0 < s.size) (hc : (s[0].toNat : Int) = 45) (hr : Doc.run 48 57 (Doc.rest s 1) = r) (h1 : 0 < r) (h7 : r ≤ 7) :
    Calls Tryz.prog 122 #[.string s] w fun e w' => e = .returned (.tuple #[.int .i64 3, .int .i64 (1 + (r : Int))]) ∧ w' = w := by
  have HC : Hid (∀ w, Calls Tryz.prog 158 #[.string (s.extract 1 s.size), .func (.func 121) #[] #[]] w fun e w' => e = .returned (.int .i64 r) ∧ w' = w) := fun w => by
    have := countDigits (s.extract 1 s.size) w (by simp; omega)
    rw [run_digits, List.drop_zero, show (s.extract 1 s.size).data.toList = Doc.rest s 1 from by simp [Doc.rest]; rw [List.take_of_length_le (by simp)], hr] at this; exact this
  clear hr
  have hz : ((r : Int) == 0) = false := by rw [beq_eq_false_iff_ne]; omega
  go_enter Tryz.func122, Tryz.ntmps122
  go_wp2_with (go_at_call 158; refine (HC.out _).mono ?_; rintro e w' ⟨rfl, rfl⟩)
  go_ret2
  exact ⟨rfl, rfl⟩

set_option maxHeartbeats 400000 in
theorem mMinus_long (s : ByteArray) (r : Nat) (w : World) (hs : s.size ≤ 140737488351232) (h0 : 0 < s.size) (hc : (s[0].toNat : Int) = 45) (hr : Doc.run 48 57 (Doc.rest s 1) = r) (h7 : 7 < r) :
    Calls Tryz.prog 122 #[.string s] w fun e w' => e = .returned (.tuple #[.int .i64 1, .int .i64 0]) ∧ w' = w := by
  have HC : Hid (∀ w, Calls Tryz.prog 158 #[.string (s.extract 1 s.size), .func (.func 121) #[] #[]] w fun e w' => e = .returned (.int .i64 r) ∧ w' = w) := fun w => by
    have := countDigits (s.extract 1 s.size) w (by simp; omega)
    rw [run_digits, List.drop_zero, show (s.extract 1 s.size).data.toList = Doc.rest s 1 from by simp [Doc.rest]; rw [List.take_of_length_le (by simp)], hr] at this; exact this
  clear hr
  have hz : ((r : Int) == 0) = false := by rw [beq_eq_false_iff_ne]; omega
  go_enter Tryz.func122, Tryz.ntmps122
  go_wp2_with (go_at_call 158; refine (HC.out _).mono ?_; rintro e w' ⟨rfl, rfl⟩)
  go_ret2
  exact ⟨rfl, rfl⟩

set_option maxHeartbeats 400000 in
theorem mMinus_none (s : ByteArray) (w : World) (hs : s.size ≤ 140737488351232) (h0 : 0 < s.size) (hc : (s[0].toNat : Int) = 45) (hr : Doc.run 48 57 (Doc.rest s 1) = 0) :
    Calls Tryz.prog 122 #[.string s] w fun e w' => e = .returned (.tuple #[.int .i64 1, .int .i64 0]) ∧ w' = w := by
  have HC : Hid (∀ w, Calls Tryz.prog 158 #[.string (s.extract 1 s.size), .func (.func 121) #[] #[]] w fun e w' => e = .returned (.int .i64 0) ∧ w' = w) := fun w => by
    have := countDigits (s.extract 1 s.size) w (by simp; omega)
    rw [run_digits, List.drop_zero, show (s.extract 1 s.size).data.toList = Doc.rest s 1 from by simp [Doc.rest]; rw [List.take_of_length_le (by simp)], hr] at this; exact this
  clear hr
  go_enter Tryz.func122, Tryz.ntmps122
  go_wp2_with (go_at_call 158; refine (HC.out _).mono ?_; rintro e w' ⟨rfl, rfl⟩)
  go_ret2
  exact ⟨rfl, rfl⟩

set_option maxHeartbeats 400000 in
theorem mPlain (s : ByteArray) (r : Nat) (w : World) (hs : s.size ≤ 140737488351232) (h0 : 0 < s.size) (hc : ((s[0].toNat : Int) == 45) = false) (hr : Doc.run 48 57 s.data.toList = r) (h1 : 0 < r) (h7 : r ≤ 7) :
    Calls Tryz.prog 122 #[.string s] w fun e w' => e = .returned (.tuple #[.int .i64 3, .int .i64 r]) ∧ w' = w := by
  have HC : Hid (∀ w, Calls Tryz.prog 158 #[.string s, .func (.func 121) #[] #[]] w fun e w' => e = .returned (.int .i64 r) ∧ w' = w) := fun w => by
    have := countDigits s w hs
    rw [run_digits, List.drop_zero, hr] at this; exact this
  clear hr
  have hz : ((r : Int) == 0) = false := by rw [beq_eq_false_iff_ne]; omega
  go_enter Tryz.func122, Tryz.ntmps122
  go_wp2_with (go_at_call 158; refine (HC.out _).mono ?_; rintro e w' ⟨rfl, rfl⟩)
  go_ret2
  exact ⟨rfl, rfl⟩

set_option maxHeartbeats 400000 in
theorem mPlain_long (s : ByteArray) (r : Nat) (w : World) (hs : s.size ≤ 140737488351232) (h0 : 0 < s.size) (hc : ((s[0].toNat : Int) == 45) = false) (hr : Doc.run 48 57 s.data.toList = r) (h7 : 7 < r) :
    Calls Tryz.prog 122 #[.string s] w fun e w' => e = .returned (.tuple #[.int .i64 1, .int .i64 0]) ∧ w' = w := by
  have HC : Hid (∀ w, Calls Tryz.prog 158 #[.string s, .func (.func 121) #[] #[]] w fun e w' => e = .returned (.int .i64 r) ∧ w' = w) := fun w => by
    have := countDigits s w hs
    rw [run_digits, List.drop_zero, hr] at this; exact this
  clear hr
  have hz : ((r : Int) == 0) = false := by rw [beq_eq_false_iff_ne]; omega
  go_enter Tryz.func122, Tryz.ntmps122
  go_wp2_with (go_at_call 158; refine (HC.out _).mono ?_; rintro e w' ⟨rfl, rfl⟩)
  go_ret2
  exact ⟨rfl, rfl⟩

end Go.Proofs.YtbnelaoeblhndaaGreatDoor

namespace Go.Proofs.YtbnelaoeblhndaaGreatDoor
open Go.RowKit
set_option maxRecDepth 100000

set_option maxHeartbeats 400000 in
theorem slite_IndexByte (s : ByteArray) (c : Int) (w : World) :
    Calls Tryz.prog 179 #[.string s, .int .u8 c] w fun e w' => e = .returned (.int .i64 (Lib.indexByte s.data.toList c.toNat.toUInt8)) ∧ w' = w := by
  have hx : ∀ w, (callFunc 200 #[.string s, .int .u8 c]).run Tryz.prog w = .ok (.value (.int .i64 (Lib.indexByte s.data.toList c.toNat.toUInt8))) w := fun w => by
    rw [run_callFunc_extern Tryz.func200 (by kernel_rfl) (by kernel_rfl) (by kernel_rfl) (e := Extern.BytealgIndexByte.indexByte) (by kernel_rfl), Lib.run_indexByteString]
    rfl
  go_enter Tryz.func179, Tryz.ntmps179
  go_wp2
  go_ret
  exact ⟨rfl, rfl⟩

set_option maxHeartbeats 400000 in
theorem IndexByte_any (s : ByteArray) (c : Int) (w : World) :
    Calls Tryz.prog 159 #[.string s, .int .u8 c] w fun e w' => e = .returned (.int .i64 (Lib.indexByte s.data.toList c.toNat.toUInt8)) ∧ w' = w := by
  go_enter Tryz.func159, Tryz.ntmps159
  go_wp2_with (go_at_call 179; refine (slite_IndexByte s c _).mono ?_; rintro e w' ⟨rfl, rfl⟩)
  go_ret
  exact ⟨rfl, rfl⟩

theorem index_inside (l : List UInt8) : (Doc.inside l < l.length → Lib.indexByte l 34 = (Doc.inside l : Int)) ∧ (¬ Doc.inside l < l.length → Lib.indexByte l 34 = -1) := by
  induction l with
  | nil => simp [Lib.indexByte, Doc.inside]
  | cons b l ih =>
    by_cases h : b = 34
    · subst h; rw [Doc.inside_hit]; simp [Lib.indexByte]
    · have hb : (b == 34) = false := by simpa using h
      rw [Doc.inside_go h, Lib.indexByte, hb]
      by_cases h2 : Doc.inside l < l.length
      · have h3 := ih.1 h2
        have h4 : (Lib.indexByte l 34 == -1) = false := by rw [h3, beq_eq_false_iff_ne]; omega
        refine ⟨fun _ => ?_, fun h => absurd (by simp; omega) h⟩
        rw [h4, h3]; simp
      · have h3 := ih.2 h2
        refine ⟨fun h => absurd h (by simp; omega), fun _ => ?_⟩
        rw [h3]; simp

set_option maxHeartbeats 400000 in
theorem mQuote (s : ByteArray) (r : Nat) (w : World) (hs : s.size ≤ 140737488351232) (h0 : 0 < s.size) (hr : Doc.inside (Doc.rest s 1) = r) (h1 : r + 1 < s.size) (h12 : r ≤ 12) :
    Calls Tryz.prog 123 #[.string s] w fun e w' => e = .returned (.tuple #[.int .i64 4, .int .i64 ((r : Int) + 2)]) ∧ w' = w := by
  have HC : Hid (∀ w, Calls Tryz.prog 159 #[.string (s.extract 1 s.size), .int .u8 34] w fun e w' => e = .returned (.int .i64 ((r : Int))) ∧ w' = w) := fun w => by
    have h1 := IndexByte_any (s.extract 1 s.size) 34 w
    have h2 : (s.extract 1 s.size).data.toList = Doc.rest s 1 := by simp [Doc.rest]; rw [List.take_of_length_le (by simp)]
    have h3 : (Doc.rest s 1).length = s.size - 1 := by simp [Doc.rest]
    rw [h2, show (34 : Int).toNat.toUInt8 = 34 from rfl, (index_inside (Doc.rest s 1)).1 (by omega), hr] at h1; exact h1
  clear hr
  go_enter Tryz.func123, Tryz.ntmps123
  go_wp2_with (go_at_call 159; refine (HC.out _).mono ?_; rintro e w' ⟨rfl, rfl⟩)
  go_ret2
  exact ⟨rfl, rfl⟩

set_option maxHeartbeats 400000 in
theorem mQuote_long (s : ByteArray) (r : Nat) (w : World) (hs : s.size ≤ 140737488351232) (h0 : 0 < s.size) (hr : Doc.inside (Doc.rest s 1) = r) (h1 : r + 1 < s.size) (h12 : 12 < r) :
    Calls Tryz.prog 123 #[.string s] w fun e w' => e = .returned (.tuple #[.int .i64 1, .int .i64 0]) ∧ w' = w := by
  have HC : Hid (∀ w, Calls Tryz.prog 159 #[.string (s.extract 1 s.size), .int .u8 34] w fun e w' => e = .returned (.int .i64 ((r : Int))) ∧ w' = w) := fun w => by
    have h1 := IndexByte_any (s.extract 1 s.size) 34 w
    have h2 : (s.extract 1 s.size).data.toList = Doc.rest s 1 := by simp [Doc.rest]; rw [List.take_of_length_le (by simp)]
    have h3 : (Doc.rest s 1).length = s.size - 1 := by simp [Doc.rest]
    rw [h2, show (34 : Int).toNat.toUInt8 = 34 from rfl, (index_inside (Doc.rest s 1)).1 (by omega), hr] at h1; exact h1
  clear hr
  go_enter Tryz.func123, Tryz.ntmps123
  go_wp2_with (go_at_call 159; refine (HC.out _).mono ?_; rintro e w' ⟨rfl, rfl⟩)
  go_ret2
  exact ⟨rfl, rfl⟩

set_option maxHeartbeats 400000 in
theorem mQuote_open (s : ByteArray) (r : Nat) (w : World) (hs : s.size ≤ 140737488351232) (h0 : 0 < s.size) (hr : Doc.inside (Doc.rest s 1) = r) (h1 : ¬ r + 1 < s.size) :
    Calls Tryz.prog 123 #[.string s] w fun e w' => e = .returned (.tuple #[.int .i64 1, .int .i64 0]) ∧ w' = w := by
  have HC : Hid (∀ w, Calls Tryz.prog 159 #[.string (s.extract 1 s.size), .int .u8 34] w fun e w' => e = .returned (.int .i64 (-1)) ∧ w' = w) := fun w => by
    have h1 := IndexByte_any (s.extract 1 s.size) 34 w
    have h2 : (s.extract 1 s.size).data.toList = Doc.rest s 1 := by simp [Doc.rest]; rw [List.take_of_length_le (by simp)]
    have h3 : (Doc.rest s 1).length = s.size - 1 := by simp [Doc.rest]
    rw [h2, show (34 : Int).toNat.toUInt8 = 34 from rfl, (index_inside (Doc.rest s 1)).2 (by omega)] at h1; exact h1
  clear hr
  go_enter Tryz.func123, Tryz.ntmps123
  go_wp2_with (go_at_call 159; refine (HC.out _).mono ?_; rintro e w' ⟨rfl, rfl⟩)
  go_ret2
  exact ⟨rfl, rfl⟩

/-- Does a text begin with another? -/
def hasP (s p : ByteArray) : Bool := decide (p.size ≤ s.size) && ((s.extract 0 p.size).toList == p.toList)

set_option maxHeartbeats 400000 in
theorem slite_HasPrefix (s p : ByteArray) (w : World) (_hs : s.size ≤ 140737488351232) (_hp : p.size ≤ 200) :
    Calls Tryz.prog 180 #[.string s, .string p] w fun e w' => e = .returned (.bool (hasP s p)) ∧ w' = w := by
  by_cases h : p.size ≤ s.size
  · have HB : Hid (((s.extract 0 p.size).toList == p.toList) = hasP s p) := by show _ = _; unfold hasP; simp [h]
    go_enter Tryz.func180, Tryz.ntmps180
    go_wp2_with fail
    go_ret
    exact ⟨ret_bool' HB.out, rfl⟩
  · have HB : Hid (false = hasP s p) := by show _ = _; unfold hasP; simp [h]
    go_enter Tryz.func180, Tryz.ntmps180
    go_wp2_with fail
    go_ret
    exact ⟨ret_bool' HB.out, rfl⟩

set_option maxHeartbeats 400000 in
theorem HasPrefix_any (s p : ByteArray) (w : World) (hs : s.size ≤ 140737488351232) (hp : p.size ≤ 200) :
    Calls Tryz.prog 160 #[.string s, .string p] w fun e w' => e = .returned (.bool (hasP s p)) ∧ w' = w := by
  go_enter Tryz.func160, Tryz.ntmps160
  go_wp2_with (go_at_call 180; refine (slite_HasPrefix s p _ hs hp).mono ?_; rintro e w' ⟨rfl, rfl⟩)
  go_ret
  exact ⟨rfl, rfl⟩

theorem hasP_two (s : ByteArray) (a b : UInt8) : hasP s ⟨#[a, b]⟩ = ((Doc.rest s 0).take 2 == [a, b]) := by
  unfold hasP
  have e1 : (⟨#[a, b]⟩ : ByteArray).size = 2 := rfl
  have e2 : (s.extract 0 2).toList = (Doc.rest s 0).take 2 := by rw [ByteArray.toList_eq]; simp [Doc.rest]
  have e3 : (⟨#[a, b]⟩ : ByteArray).toList = [a, b] := by rw [ByteArray.toList_eq]
  rw [e1, e2, e3]
  by_cases h : 2 ≤ s.size
  · simp [h]
  · have : ((Doc.rest s 0).take 2 == [a, b]) = false := by
      rw [beq_eq_false_iff_ne]; intro e
      have := congrArg List.length e
      rw [List.length_take] at this
      simp [Doc.rest] at this; omega
    simp [h, this]

theorem hasP_one (s : ByteArray) (a : UInt8) (h0 : 0 < s.size) : hasP s ⟨#[a]⟩ = (s[0] == a) := by
  unfold hasP
  have e1 : (⟨#[a]⟩ : ByteArray).size = 1 := rfl
  have e2 : (s.extract 0 1).toList = [s[0]] := by
    rw [ByteArray.toList_eq]
    have h2 : (s.extract 0 1).data.toList = s.data.toList.take 1 := by simp
    have h3 : s.data.toList = s[0] :: s.data.toList.drop (0 + 1) := drop_at s 0 h0
    rw [h2]
    conv => lhs; rw [h3]
    rfl
  have e3 : (⟨#[a]⟩ : ByteArray).toList = [a] := by rw [ByteArray.toList_eq]
  rw [e1, e2, e3]
  simp [show 1 ≤ s.size by omega]

/-- The table of signs, as the program's text lays it. -/
structure Signs (w : World) : Prop where
  c0 : w.cell? ⟨1, 0, none⟩ = some (.string ⟨#[33, 61]⟩)
  c1 : w.cell? ⟨1, 1, none⟩ = some (.string ⟨#[60, 61]⟩)
  c2 : w.cell? ⟨1, 2, none⟩ = some (.string ⟨#[62, 61]⟩)
  c3 : w.cell? ⟨1, 3, none⟩ = some (.string ⟨#[61]⟩)
  c4 : w.cell? ⟨1, 4, none⟩ = some (.string ⟨#[60]⟩)
  c5 : w.cell? ⟨1, 5, none⟩ = some (.string ⟨#[62]⟩)
  c6 : w.cell? ⟨1, 6, none⟩ = some (.string ⟨#[40]⟩)
  c7 : w.cell? ⟨1, 7, none⟩ = some (.string ⟨#[41]⟩)
  c8 : w.cell? ⟨1, 8, none⟩ = some (.string ⟨#[44]⟩)

theorem Signs.below {B : Nat} {w w' : World} (h : Signs w) (hb : Below B w w') (hB : 1 < B) : Signs w' :=
  ⟨(hb.cell (p := ⟨1, 0, none⟩) hB).trans h.c0, (hb.cell (p := ⟨1, 1, none⟩) hB).trans h.c1, (hb.cell (p := ⟨1, 2, none⟩) hB).trans h.c2, (hb.cell (p := ⟨1, 3, none⟩) hB).trans h.c3, (hb.cell (p := ⟨1, 4, none⟩) hB).trans h.c4, (hb.cell (p := ⟨1, 5, none⟩) hB).trans h.c5, (hb.cell (p := ⟨1, 6, none⟩) hB).trans h.c6, (hb.cell (p := ⟨1, 7, none⟩) hB).trans h.c7, (hb.cell (p := ⟨1, 8, none⟩) hB).trans h.c8⟩

/-- What measureSign tells. -/
def SignPost (s : ByteArray) (w : World) (e : Ending) (w' : World) : Prop := ∃ k n : Int, e = .returned (.tuple #[.int .i64 k, .int .i64 n]) ∧ w' = w ∧
  ((Doc.twoSign (Doc.rest s 0) = true ∧ k = 5 ∧ n = 2) ∨ (Doc.twoSign (Doc.rest s 0) = false ∧ (∃ h : 0 < s.size, Doc.oneSign s[0] = true) ∧ k = 5 ∧ n = 1) ∨ (Doc.twoSign (Doc.rest s 0) = false ∧ (∃ h : 0 < s.size, Doc.oneSign s[0] = false) ∧ k = 1 ∧ n = 0))

theorem two_no (s : ByteArray) (b0 : ((Doc.rest s 0).take 2 == [33, 61]) = false) (b1 : ((Doc.rest s 0).take 2 == [60, 61]) = false) (b2 : ((Doc.rest s 0).take 2 == [62, 61]) = false) : Doc.twoSign (Doc.rest s 0) = false := by
  rw [Doc.twoSign, b0, b1, b2]; rfl

set_option maxHeartbeats 2000000 in
theorem measureSign_any (s : ByteArray) (w : World) (hs : s.size ≤ 140737488351232) (h0 : 0 < s.size) (hsg : Signs w) :
    Calls Tryz.prog 124 #[.string s] w (SignPost s w) := by
  obtain ⟨c0, c1, c2, c3, c4, c5, c6, c7, c8⟩ := hsg
  have i0 : ∀ w, (Instr.index 255 (.agg #[.string ⟨#[33, 61]⟩, .string ⟨#[60, 61]⟩, .string ⟨#[62, 61]⟩, .string ⟨#[61]⟩, .string ⟨#[60]⟩, .string ⟨#[62]⟩, .string ⟨#[40]⟩, .string ⟨#[41]⟩, .string ⟨#[44]⟩]) (.int .i64 0)).run Tryz.prog w = .ok (.string ⟨#[33, 61]⟩) w := fun _ => by kernel_rfl
  have i1 : ∀ w, (Instr.index 255 (.agg #[.string ⟨#[33, 61]⟩, .string ⟨#[60, 61]⟩, .string ⟨#[62, 61]⟩, .string ⟨#[61]⟩, .string ⟨#[60]⟩, .string ⟨#[62]⟩, .string ⟨#[40]⟩, .string ⟨#[41]⟩, .string ⟨#[44]⟩]) (.int .i64 1)).run Tryz.prog w = .ok (.string ⟨#[60, 61]⟩) w := fun _ => by kernel_rfl
  have i2 : ∀ w, (Instr.index 255 (.agg #[.string ⟨#[33, 61]⟩, .string ⟨#[60, 61]⟩, .string ⟨#[62, 61]⟩, .string ⟨#[61]⟩, .string ⟨#[60]⟩, .string ⟨#[62]⟩, .string ⟨#[40]⟩, .string ⟨#[41]⟩, .string ⟨#[44]⟩]) (.int .i64 2)).run Tryz.prog w = .ok (.string ⟨#[62, 61]⟩) w := fun _ => by kernel_rfl
  have i3 : ∀ w, (Instr.index 255 (.agg #[.string ⟨#[33, 61]⟩, .string ⟨#[60, 61]⟩, .string ⟨#[62, 61]⟩, .string ⟨#[61]⟩, .string ⟨#[60]⟩, .string ⟨#[62]⟩, .string ⟨#[40]⟩, .string ⟨#[41]⟩, .string ⟨#[44]⟩]) (.int .i64 3)).run Tryz.prog w = .ok (.string ⟨#[61]⟩) w := fun _ => by kernel_rfl
  have i4 : ∀ w, (Instr.index 255 (.agg #[.string ⟨#[33, 61]⟩, .string ⟨#[60, 61]⟩, .string ⟨#[62, 61]⟩, .string ⟨#[61]⟩, .string ⟨#[60]⟩, .string ⟨#[62]⟩, .string ⟨#[40]⟩, .string ⟨#[41]⟩, .string ⟨#[44]⟩]) (.int .i64 4)).run Tryz.prog w = .ok (.string ⟨#[60]⟩) w := fun _ => by kernel_rfl
  have i5 : ∀ w, (Instr.index 255 (.agg #[.string ⟨#[33, 61]⟩, .string ⟨#[60, 61]⟩, .string ⟨#[62, 61]⟩, .string ⟨#[61]⟩, .string ⟨#[60]⟩, .string ⟨#[62]⟩, .string ⟨#[40]⟩, .string ⟨#[41]⟩, .string ⟨#[44]⟩]) (.int .i64 5)).run Tryz.prog w = .ok (.string ⟨#[62]⟩) w := fun _ => by kernel_rfl
  have i6 : ∀ w, (Instr.index 255 (.agg #[.string ⟨#[33, 61]⟩, .string ⟨#[60, 61]⟩, .string ⟨#[62, 61]⟩, .string ⟨#[61]⟩, .string ⟨#[60]⟩, .string ⟨#[62]⟩, .string ⟨#[40]⟩, .string ⟨#[41]⟩, .string ⟨#[44]⟩]) (.int .i64 6)).run Tryz.prog w = .ok (.string ⟨#[40]⟩) w := fun _ => by kernel_rfl
  have i7 : ∀ w, (Instr.index 255 (.agg #[.string ⟨#[33, 61]⟩, .string ⟨#[60, 61]⟩, .string ⟨#[62, 61]⟩, .string ⟨#[61]⟩, .string ⟨#[60]⟩, .string ⟨#[62]⟩, .string ⟨#[40]⟩, .string ⟨#[41]⟩, .string ⟨#[44]⟩]) (.int .i64 7)).run Tryz.prog w = .ok (.string ⟨#[41]⟩) w := fun _ => by kernel_rfl
  have i8 : ∀ w, (Instr.index 255 (.agg #[.string ⟨#[33, 61]⟩, .string ⟨#[60, 61]⟩, .string ⟨#[62, 61]⟩, .string ⟨#[61]⟩, .string ⟨#[60]⟩, .string ⟨#[62]⟩, .string ⟨#[40]⟩, .string ⟨#[41]⟩, .string ⟨#[44]⟩]) (.int .i64 8)).run Tryz.prog w = .ok (.string ⟨#[44]⟩) w := fun _ => by kernel_rfl
  go_enter Tryz.func124, Tryz.ntmps124
  go_wp2_with fail
  clear c0 c1 c2 c3 c4 c5 c6 c7 c8
  refine wp_loop_rounds 10 ?_
  rw [rounds_succ]
  go_wp2_with fail
  refine (HasPrefix_any s ⟨#[33, 61]⟩ _ hs (by decide)).mono ?_
  rw [hasP_two s 33 61]
  by_cases b0 : ((Doc.rest s 0).take 2 == [33, 61]) = true
  · rw [b0]
    rintro e w' ⟨rfl, rfl⟩
    go_wp2_with fail
    go_ret2
    exact ⟨5, 2, rfl, rfl, .inl ⟨by rw [Doc.twoSign, b0]; simp, rfl, rfl⟩⟩
  have b0 : ((Doc.rest s 0).take 2 == [33, 61]) = false := by simpa using b0
  rw [b0]
  rintro e w' ⟨rfl, rfl⟩
  go_wp2_with fail
  rw [rounds_succ]
  go_wp2_with fail
  refine (HasPrefix_any s ⟨#[60, 61]⟩ _ hs (by decide)).mono ?_
  rw [hasP_two s 60 61]
  by_cases b1 : ((Doc.rest s 0).take 2 == [60, 61]) = true
  · rw [b1]
    rintro e w' ⟨rfl, rfl⟩
    go_wp2_with fail
    go_ret2
    exact ⟨5, 2, rfl, rfl, .inl ⟨by rw [Doc.twoSign, b1]; simp, rfl, rfl⟩⟩
  have b1 : ((Doc.rest s 0).take 2 == [60, 61]) = false := by simpa using b1
  rw [b1]
  rintro e w' ⟨rfl, rfl⟩
  go_wp2_with fail
  rw [rounds_succ]
  go_wp2_with fail
  refine (HasPrefix_any s ⟨#[62, 61]⟩ _ hs (by decide)).mono ?_
  rw [hasP_two s 62 61]
  by_cases b2 : ((Doc.rest s 0).take 2 == [62, 61]) = true
  · rw [b2]
    rintro e w' ⟨rfl, rfl⟩
    go_wp2_with fail
    go_ret2
    exact ⟨5, 2, rfl, rfl, .inl ⟨by rw [Doc.twoSign, b2]; simp, rfl, rfl⟩⟩
  have b2 : ((Doc.rest s 0).take 2 == [62, 61]) = false := by simpa using b2
  rw [b2]
  rintro e w' ⟨rfl, rfl⟩
  go_wp2_with fail
  rw [rounds_succ]
  go_wp2_with fail
  refine (HasPrefix_any s ⟨#[61]⟩ _ hs (by decide)).mono ?_
  rw [hasP_one s 61 h0]
  by_cases b3 : (s[0] == 61) = true
  · rw [b3]
    rintro e w' ⟨rfl, rfl⟩
    go_wp2_with fail
    go_ret2
    exact ⟨5, 1, rfl, rfl, .inr (.inl ⟨two_no s b0 b1 b2, ⟨h0, by rw [Doc.oneSign, b3]; simp⟩, rfl, rfl⟩)⟩
  have b3 : (s[0] == 61) = false := by simpa using b3
  rw [b3]
  rintro e w' ⟨rfl, rfl⟩
  go_wp2_with fail
  rw [rounds_succ]
  go_wp2_with fail
  refine (HasPrefix_any s ⟨#[60]⟩ _ hs (by decide)).mono ?_
  rw [hasP_one s 60 h0]
  by_cases b4 : (s[0] == 60) = true
  · rw [b4]
    rintro e w' ⟨rfl, rfl⟩
    go_wp2_with fail
    go_ret2
    exact ⟨5, 1, rfl, rfl, .inr (.inl ⟨two_no s b0 b1 b2, ⟨h0, by rw [Doc.oneSign, b4]; simp⟩, rfl, rfl⟩)⟩
  have b4 : (s[0] == 60) = false := by simpa using b4
  rw [b4]
  rintro e w' ⟨rfl, rfl⟩
  go_wp2_with fail
  rw [rounds_succ]
  go_wp2_with fail
  refine (HasPrefix_any s ⟨#[62]⟩ _ hs (by decide)).mono ?_
  rw [hasP_one s 62 h0]
  by_cases b5 : (s[0] == 62) = true
  · rw [b5]
    rintro e w' ⟨rfl, rfl⟩
    go_wp2_with fail
    go_ret2
    exact ⟨5, 1, rfl, rfl, .inr (.inl ⟨two_no s b0 b1 b2, ⟨h0, by rw [Doc.oneSign, b5]; simp⟩, rfl, rfl⟩)⟩
  have b5 : (s[0] == 62) = false := by simpa using b5
  rw [b5]
  rintro e w' ⟨rfl, rfl⟩
  go_wp2_with fail
  rw [rounds_succ]
  go_wp2_with fail
  refine (HasPrefix_any s ⟨#[40]⟩ _ hs (by decide)).mono ?_
  rw [hasP_one s 40 h0]
  by_cases b6 : (s[0] == 40) = true
  · rw [b6]
    rintro e w' ⟨rfl, rfl⟩
    go_wp2_with fail
    go_ret2
    exact ⟨5, 1, rfl, rfl, .inr (.inl ⟨two_no s b0 b1 b2, ⟨h0, by rw [Doc.oneSign, b6]; simp⟩, rfl, rfl⟩)⟩
  have b6 : (s[0] == 40) = false := by simpa using b6
  rw [b6]
  rintro e w' ⟨rfl, rfl⟩
  go_wp2_with fail
  rw [rounds_succ]
  go_wp2_with fail
  refine (HasPrefix_any s ⟨#[41]⟩ _ hs (by decide)).mono ?_
  rw [hasP_one s 41 h0]
  by_cases b7 : (s[0] == 41) = true
  · rw [b7]
    rintro e w' ⟨rfl, rfl⟩
    go_wp2_with fail
    go_ret2
    exact ⟨5, 1, rfl, rfl, .inr (.inl ⟨two_no s b0 b1 b2, ⟨h0, by rw [Doc.oneSign, b7]; simp⟩, rfl, rfl⟩)⟩
  have b7 : (s[0] == 41) = false := by simpa using b7
  rw [b7]
  rintro e w' ⟨rfl, rfl⟩
  go_wp2_with fail
  rw [rounds_succ]
  go_wp2_with fail
  refine (HasPrefix_any s ⟨#[44]⟩ _ hs (by decide)).mono ?_
  rw [hasP_one s 44 h0]
  by_cases b8 : (s[0] == 44) = true
  · rw [b8]
    rintro e w' ⟨rfl, rfl⟩
    go_wp2_with fail
    go_ret2
    exact ⟨5, 1, rfl, rfl, .inr (.inl ⟨two_no s b0 b1 b2, ⟨h0, by rw [Doc.oneSign, b8]; simp⟩, rfl, rfl⟩)⟩
  have b8 : (s[0] == 44) = false := by simpa using b8
  rw [b8]
  rintro e w' ⟨rfl, rfl⟩
  go_wp2_with fail
  rw [rounds_succ]
  go_wp2_with fail
  go_ret2
  exact ⟨1, 0, rfl, rfl, .inr (.inr ⟨two_no s b0 b1 b2, ⟨h0, by rw [Doc.oneSign, b3, b4, b5, b6, b7, b8]; rfl⟩, rfl, rfl⟩)⟩
end Go.Proofs.YtbnelaoeblhndaaGreatDoor
