/- Walks of package syntax's measure and tokenFrom. -/
import Derived.Test.YtbnelaoeblhndaaGreatDoorSynTok3
import Derived.Test.YtbnelaoeblhndaaGreatDoorParse
import Derived.Test.YtbnelaoeblhndaaGreatDoorRefTokens
namespace Go.Proofs.YtbnelaoeblhndaaGreatDoor
open Go.RowKit
set_option maxRecDepth 100000

/-- The program's number of a token's kind. -/
def goKind (k : UInt8) : Int := if k = 119 then 2 else if k = 110 then 3 else if k = 115 then 4 else if k = 103 then 5 else if k = 120 then 1 else 0

set_option maxHeartbeats 400000 in
theorem measure_word {x y : Int} (s : ByteArray) (w : World) (h0 : 0 < s.size) (k1 : Doc.isLetter s[0] = true) (hc : ∀ w, Calls Tryz.prog 120 #[.string s] w fun e w' => e = .returned (.tuple #[.int .i64 x, .int .i64 y]) ∧ w' = w) :
    Calls Tryz.prog 75 #[.string s] w fun e w' => e = .returned (.tuple #[.int .i64 x, .int .i64 y]) ∧ w' = w := by
  have HC : Hid (∀ w, Calls Tryz.prog 120 #[.string s] w fun e w' => e = .returned (.tuple #[.int .i64 x, .int .i64 y]) ∧ w' = w) := hc
  have K1 : Hid (Doc.isLetter s[0] = true) := k1
  clear hc k1
  go_enter Tryz.func75, Tryz.ntmps75
  go_wp2_with (first | (go_at_call 119; refine (isLetter_any s[0] _).mono ?_; rw [K1.out]; rintro e w' ⟨rfl, rfl⟩) | (go_at_call 120; refine (HC.out _).mono ?_; rintro e w' ⟨rfl, rfl⟩))
  go_ret2
  exact ⟨rfl, rfl⟩

set_option maxHeartbeats 400000 in
theorem measure_minus {x y : Int} (s : ByteArray) (w : World) (h0 : 0 < s.size) (k1 : Doc.isLetter s[0] = false) (k2 : (s[0].toNat : Int) = 45) (hc : ∀ w, Calls Tryz.prog 122 #[.string s] w fun e w' => e = .returned (.tuple #[.int .i64 x, .int .i64 y]) ∧ w' = w) :
    Calls Tryz.prog 75 #[.string s] w fun e w' => e = .returned (.tuple #[.int .i64 x, .int .i64 y]) ∧ w' = w := by
  have HC : Hid (∀ w, Calls Tryz.prog 122 #[.string s] w fun e w' => e = .returned (.tuple #[.int .i64 x, .int .i64 y]) ∧ w' = w) := hc
  have K1 : Hid (Doc.isLetter s[0] = false) := k1
  have HL : Hid (∀ w, Calls Tryz.prog 119 #[.int .u8 45] w fun e w' => e = .returned (.bool false) ∧ w' = w) := fun w => by
    have := isLetter_any s[0] w; rw [K1.out, k2] at this; exact this
  clear hc k1
  go_enter Tryz.func75, Tryz.ntmps75
  go_wp2_with (first | (go_at_call 119; refine (HL.out _).mono ?_; rintro e w' ⟨rfl, rfl⟩) | (go_at_call 122; refine (HC.out _).mono ?_; rintro e w' ⟨rfl, rfl⟩))
  go_ret2
  exact ⟨rfl, rfl⟩

set_option maxHeartbeats 400000 in
theorem measure_digit {x y : Int} (s : ByteArray) (w : World) (h0 : 0 < s.size) (k1 : Doc.isLetter s[0] = false) (k2 : ((s[0].toNat : Int) == 45) = false) (k3 : Doc.isDigit s[0] = true) (hc : ∀ w, Calls Tryz.prog 122 #[.string s] w fun e w' => e = .returned (.tuple #[.int .i64 x, .int .i64 y]) ∧ w' = w) :
    Calls Tryz.prog 75 #[.string s] w fun e w' => e = .returned (.tuple #[.int .i64 x, .int .i64 y]) ∧ w' = w := by
  have HC : Hid (∀ w, Calls Tryz.prog 122 #[.string s] w fun e w' => e = .returned (.tuple #[.int .i64 x, .int .i64 y]) ∧ w' = w) := hc
  have K1 : Hid (Doc.isLetter s[0] = false) := k1
  have K3 : Hid (Doc.isDigit s[0] = true) := k3
  clear hc k1 k3
  go_enter Tryz.func75, Tryz.ntmps75
  go_wp2_with (first | (go_at_call 119; refine (isLetter_any s[0] _).mono ?_; rw [K1.out]; rintro e w' ⟨rfl, rfl⟩) | (go_at_call 121; refine (isDigit_any s[0] _).mono ?_; rw [K3.out]; rintro e w' ⟨rfl, rfl⟩) | (go_at_call 122; refine (HC.out _).mono ?_; rintro e w' ⟨rfl, rfl⟩))
  go_ret2
  exact ⟨rfl, rfl⟩

set_option maxHeartbeats 400000 in
theorem measure_quote {x y : Int} (s : ByteArray) (w : World) (h0 : 0 < s.size) (k1 : Doc.isLetter s[0] = false) (k3 : Doc.isDigit s[0] = false) (k2 : (s[0].toNat : Int) = 34) (hc : ∀ w, Calls Tryz.prog 123 #[.string s] w fun e w' => e = .returned (.tuple #[.int .i64 x, .int .i64 y]) ∧ w' = w) :
    Calls Tryz.prog 75 #[.string s] w fun e w' => e = .returned (.tuple #[.int .i64 x, .int .i64 y]) ∧ w' = w := by
  have HC : Hid (∀ w, Calls Tryz.prog 123 #[.string s] w fun e w' => e = .returned (.tuple #[.int .i64 x, .int .i64 y]) ∧ w' = w) := hc
  have HL : Hid (∀ w, Calls Tryz.prog 119 #[.int .u8 34] w fun e w' => e = .returned (.bool false) ∧ w' = w) := fun w => by
    have := isLetter_any s[0] w; rw [k1, k2] at this; exact this
  have HD : Hid (∀ w, Calls Tryz.prog 121 #[.int .u8 34] w fun e w' => e = .returned (.bool false) ∧ w' = w) := fun w => by
    have := isDigit_any s[0] w; rw [k3, k2] at this; exact this
  clear hc k1 k3
  go_enter Tryz.func75, Tryz.ntmps75
  go_wp2_with (first | (go_at_call 119; refine (HL.out _).mono ?_; rintro e w' ⟨rfl, rfl⟩) | (go_at_call 121; refine (HD.out _).mono ?_; rintro e w' ⟨rfl, rfl⟩) | (go_at_call 123; refine (HC.out _).mono ?_; rintro e w' ⟨rfl, rfl⟩))
  go_ret2
  exact ⟨rfl, rfl⟩

set_option maxHeartbeats 400000 in
theorem measure_sign (s : ByteArray) (w : World) (hs : s.size ≤ 140737488351232) (h0 : 0 < s.size) (hsg : Signs w) (k1 : Doc.isLetter s[0] = false) (k3 : Doc.isDigit s[0] = false) (k2 : ((s[0].toNat : Int) == 45) = false) (k4 : ((s[0].toNat : Int) == 34) = false) :
    Calls Tryz.prog 75 #[.string s] w (SignPost s w) := by
  have K1 : Hid (Doc.isLetter s[0] = false) := k1
  have K3 : Hid (Doc.isDigit s[0] = false) := k3
  have HS : Hid (Signs w) := hsg
  clear k1 k3 hsg
  go_enter Tryz.func75, Tryz.ntmps75
  go_wp2_with (first | (go_at_call 119; refine (isLetter_any s[0] _).mono ?_; rw [K1.out]; rintro e w' ⟨rfl, rfl⟩) | (go_at_call 121; refine (isDigit_any s[0] _).mono ?_; rw [K3.out]; rintro e w' ⟨rfl, rfl⟩) | (go_at_call 124; refine (measureSign_any s _ hs h0 HS.out).mono ?_; rintro e w' ⟨k, n, rfl, rfl, hcase⟩; have HH : Hid _ := hcase; clear hcase))
  go_ret2
  exact ⟨k, n, rfl, rfl, HH.out⟩

theorem goKind_w : goKind 119 = 2 := rfl

theorem measure_any (s : ByteArray) (w : World) (hs : s.size ≤ 140737488351232) (h0 : 0 < s.size) (hsg : Signs w) :
    Calls Tryz.prog 75 #[.string s] w fun e w' => e = .returned (.tuple #[.int .i64 (goKind (Doc.lex (Doc.rest s 0)).1), .int .i64 ((Doc.lex (Doc.rest s 0)).2 : Int)]) ∧ w' = w := by
  have hl : Doc.rest s 0 = s[0] :: Doc.rest s 1 := drop_at s 0 h0
  have hlen1 : (Doc.rest s 1).length = s.size - 1 := by simp [Doc.rest]
  have f45 : (s[0] == 45) = ((s[0].toNat : Int) == 45) := u8_int s[0] 45 (by omega)
  have f34 : (s[0] == 34) = ((s[0].toNat : Int) == 34) := u8_int s[0] 34 (by omega)
  by_cases hL : Doc.isLetter s[0] = true
  · by_cases h8 : Doc.run 97 122 (Doc.rest s 0) ≤ 8
    · have hx : Doc.lex (Doc.rest s 0) = (119, Doc.run 97 122 (Doc.rest s 0)) := by
        rw [hl] at h8 ⊢; simp only [Doc.lex, hL, if_true]; rw [if_pos h8]
      rw [hx]
      exact measure_word s w h0 hL (fun w => mWord s _ w hs rfl h8)
    · have hx : Doc.lex (Doc.rest s 0) = (120, 0) := by
        rw [hl] at h8 ⊢; simp only [Doc.lex, hL, if_true]; rw [if_neg h8]
      rw [hx]
      exact measure_word s w h0 hL (fun w => mWord_bad s _ w hs rfl (by show 8 < Doc.run 97 122 (Doc.rest s 0); omega))
  have hL : Doc.isLetter s[0] = false := by simpa using hL
  by_cases h2 : (s[0].toNat : Int) = 45
  · have g45 : (s[0] == 45) = true := by rw [f45]; simpa using h2
    by_cases h7 : Doc.run 48 57 (Doc.rest s 1) ≠ 0 ∧ Doc.run 48 57 (Doc.rest s 1) ≤ 7
    · have hx : Doc.lex (Doc.rest s 0) = (110, Doc.run 48 57 (Doc.rest s 1) + 1) := by
        rw [hl]; simp only [Doc.lex, hL, g45, if_true]; rw [if_pos h7]; simp
      rw [hx]
      have := measure_minus s w h0 hL h2 (fun w => mMinus s _ w hs h0 h2 rfl (by omega) h7.2)
      rw [show ((Doc.run 48 57 (Doc.rest s 1) + 1 : Nat) : Int) = 1 + (Doc.run 48 57 (Doc.rest s 1) : Int) by omega]
      exact this
    · have hx : Doc.lex (Doc.rest s 0) = (120, 0) := by
        rw [hl]; simp only [Doc.lex, hL, g45, if_true]; rw [if_neg h7]; simp
      rw [hx]
      by_cases h1 : Doc.run 48 57 (Doc.rest s 1) = 0
      · exact measure_minus s w h0 hL h2 (fun w => mMinus_none s w hs h0 h2 h1)
      · exact measure_minus s w h0 hL h2 (fun w => mMinus_long s _ w hs h0 h2 rfl (by omega))
  have g45 : (s[0] == 45) = false := by rw [f45]; simpa using h2
  have g45' : ((s[0].toNat : Int) == 45) = false := by rw [← f45]; exact g45
  by_cases hD : Doc.isDigit s[0] = true
  · have hd : Doc.run 48 57 (Doc.rest s 0) ≠ 0 := by
      simp only [Doc.isDigit, Bool.and_eq_true, decide_eq_true_eq] at hD
      rw [hl, Doc.run_hit hD.1 hD.2]; omega
    by_cases h7 : Doc.run 48 57 (Doc.rest s 0) ≤ 7
    · have hx : Doc.lex (Doc.rest s 0) = (110, Doc.run 48 57 (Doc.rest s 0)) := by
        rw [hl] at h7 ⊢; simp only [Doc.lex, hL, g45, hD, if_true]; rw [if_pos h7]; simp
      rw [hx]
      exact measure_digit s w h0 hL g45' hD (fun w => mPlain s _ w hs h0 g45' rfl (by show 0 < Doc.run 48 57 (Doc.rest s 0); omega) h7)
    · have hx : Doc.lex (Doc.rest s 0) = (120, 0) := by
        rw [hl] at h7 ⊢; simp only [Doc.lex, hL, g45, hD, if_true]; rw [if_neg h7]; simp
      rw [hx]
      exact measure_digit s w h0 hL g45' hD (fun w => mPlain_long s _ w hs h0 g45' rfl (by show 7 < Doc.run 48 57 (Doc.rest s 0); omega))
  have hD : Doc.isDigit s[0] = false := by simpa using hD
  by_cases h4 : (s[0].toNat : Int) = 34
  · have g34 : (s[0] == 34) = true := by rw [f34]; simpa using h4
    by_cases h12 : Doc.inside (Doc.rest s 1) < (Doc.rest s 1).length ∧ Doc.inside (Doc.rest s 1) ≤ 12
    · have hx : Doc.lex (Doc.rest s 0) = (115, Doc.inside (Doc.rest s 1) + 2) := by
        rw [hl]; simp only [Doc.lex, hL, g45, hD, g34, if_true]; rw [if_pos h12]; simp
      rw [hx]
      exact measure_quote s w h0 hL hD h4 (fun w => mQuote s _ w hs h0 rfl (by omega) h12.2)
    · have hx : Doc.lex (Doc.rest s 0) = (120, 0) := by
        rw [hl]; simp only [Doc.lex, hL, g45, hD, g34, if_true]; rw [if_neg h12]; simp
      rw [hx]
      by_cases he : Doc.inside (Doc.rest s 1) + 1 < s.size
      · exact measure_quote s w h0 hL hD h4 (fun w => mQuote_long s _ w hs h0 rfl he (by omega))
      · exact measure_quote s w h0 hL hD h4 (fun w => mQuote_open s _ w hs h0 rfl he)
  have g34 : (s[0] == 34) = false := by rw [f34]; simpa using h4
  refine (measure_sign s w hs h0 hsg hL hD g45' (by rw [← f34]; exact g34)).mono ?_
  rintro e w' ⟨k, n, rfl, rfl, hcase⟩
  refine ⟨?_, rfl⟩
  rcases hcase with ⟨h1, rfl, rfl⟩ | ⟨h1, ⟨_, h5⟩, rfl, rfl⟩ | ⟨h1, ⟨_, h5⟩, rfl, rfl⟩
  · have hx : Doc.lex (Doc.rest s 0) = (103, 2) := by
      rw [hl] at h1 ⊢; simp [Doc.lex, hL, g45, hD, g34, h1]
    rw [hx]; rfl
  · have hx : Doc.lex (Doc.rest s 0) = (103, 1) := by
      rw [hl] at h1 ⊢; simp [Doc.lex, hL, g45, hD, g34, h1, h5]
    rw [hx]; rfl
  · have hx : Doc.lex (Doc.rest s 0) = (120, 0) := by
      rw [hl] at h1 ⊢; simp [Doc.lex, hL, g45, hD, g34, h1, h5]
    rw [hx]; rfl

/-- A token of the program: its kind, its text, its place. -/
structure PTok where
  kind : Int
  text : ByteArray
  at_ : Nat

/-- The first token at or behind a place, as the program has it. -/
def ptok (s : ByteArray) (a : Nat) : PTok :=
  if Doc.past s a = s.size then ⟨0, ByteArray.empty, s.size⟩
  else if (Doc.lex (Doc.rest s (Doc.past s a))).1 = 120 then ⟨1, ByteArray.empty, Doc.past s a⟩
  else ⟨goKind (Doc.lex (Doc.rest s (Doc.past s a))).1, s.extract (Doc.past s a) (Doc.past s a + (Doc.lex (Doc.rest s (Doc.past s a))).2), Doc.past s a⟩

theorem goKind_wrong {k : UInt8} : (goKind k == 1) = (k == 120) := by
  unfold goKind
  by_cases h1 : k = 119
  · subst h1; rfl
  by_cases h2 : k = 110
  · subst h2; rfl
  by_cases h3 : k = 115
  · subst h3; rfl
  by_cases h4 : k = 103
  · subst h4; rfl
  by_cases h5 : k = 120
  · subst h5; rfl
  · rw [if_neg h1, if_neg h2, if_neg h3, if_neg h4, if_neg h5]
    symm; rw [beq_eq_false_iff_ne.2 h5]; rfl

set_option maxHeartbeats 1000000 in
theorem tokenFrom_any (s : ByteArray) (a : Nat) (w : World) (hs : s.size ≤ 140737488351232) (ha : a ≤ s.size) (hsg : Signs w) (h0 : 1 < w.heap.size) :
    Calls Tryz.prog 48 #[.string s, .int .i64 a] w fun e w' => ∃ t, Hid (t = ptok s a) ∧ e = .returned (.agg #[.int .i64 t.kind, .string t.text, .int .i64 t.at_]) ∧ Below w.heap.size w w' := by
  have HS : Hid (∀ o, Signs (w.alloc o)) := fun o => hsg.below ((Below.refl _ _).alloc (Nat.le_refl _) o) h0
  clear hsg
  go_enter Tryz.func48, Tryz.ntmps48
  go_wp2_with fail
  go_loop [5] (fun i => ∃ j : Nat, a ≤ j ∧ j ≤ s.size ∧ i = .int .i64 j ∧ Hid (Doc.past s j = Doc.past s a)) (fun i => s.size - (intOf i).toNat)
  case atStart => exact ⟨a, Nat.le_refl _, ha, rfl, by show _ = _; rfl⟩
  case round =>
    obtain ⟨j, hkj, hj, rfl, HJ⟩ := hrel
    by_cases hlt : j < s.size
    · by_cases he : ((s[j].toNat : Int) == 32) = true
      · have HJ2 : Hid (Doc.past s (j + 1) = Doc.past s a) := (past_on s j hlt he).symm.trans HJ.out
        clear HJ
        go_wp2_with fail
        go_round
        case rel => exact ⟨j + 1, by omega, by omega, by go_num, HJ2⟩
        case measure => simp [intOf]; omega
      · have he : ((s[j].toNat : Int) == 32) = false := by simpa using he
        have HP : Hid (Doc.past s a = j) := HJ.out.symm.trans (past_here s j hlt he)
        have hne : ((j : Int) == (s.size : Int)) = false := by rw [beq_eq_false_iff_ne]; omega
        have HR : Hid (Doc.rest (s.extract j s.size) 0 = Doc.rest s j) := by
          show _ = _; simp [Doc.rest]; rw [List.take_of_length_le (by simp)]
        have hz : (s.extract j s.size).size ≤ 140737488351232 := by simp; omega
        have hz0 : 0 < (s.extract j s.size).size := by simp; omega
        obtain ⟨c, r, hcr⟩ := Doc.rest_at s j hlt
        have hll := Doc.lex_len c r
        have hrl := Doc.len_rest s j
        rw [hcr, List.length_cons] at hrl
        obtain ⟨q, HQ⟩ : ∃ q : UInt8 × Nat, Hid (q = Doc.lex (Doc.rest s j)) := ⟨_, rfl⟩
        have hq : j + q.2 ≤ s.size := by rw [HQ.out, hcr]; have := hll.2.1; omega
        clear HJ hcr hll hrl
        by_cases hk : q.1 = 120
        · have hk1 : (goKind q.1 == 1) = true := by rw [goKind_wrong, hk]; rfl
          have HT : Hid ((⟨1, ByteArray.empty, j⟩ : PTok) = ptok s a) := by
            show _ = _; unfold ptok; rw [HP.out, if_neg (by omega), ← HQ.out, if_pos hk]
          clear hk
          go_wp2_with (go_at_call 75; refine (measure_any (s.extract j s.size) _ hz hz0 (HS.out _)).mono ?_; rw [HR.out, ← HQ.out]; rintro e w' ⟨rfl, rfl⟩)
          exact bodyPost_ret (v := .agg #[.int .i64 1, .string ByteArray.empty, .int .i64 j]) (by simp [results, Tryz.results48, go_sem]; try rfl) rfl ⟨_, HT, rfl, (Below.refl _ _).alloc (Nat.le_refl _) _⟩
        · have hk1 : (goKind q.1 == 1) = false := by rw [goKind_wrong]; simpa using hk
          have HT : Hid ((⟨goKind q.1, s.extract j (j + q.2), j⟩ : PTok) = ptok s a) := by
            show _ = _; unfold ptok; rw [HP.out, if_neg (by omega), ← HQ.out, if_neg hk]
          clear hk
          go_wp2_with (go_at_call 75; refine (measure_any (s.extract j s.size) _ hz hz0 (HS.out _)).mono ?_; rw [HR.out, ← HQ.out]; rintro e w' ⟨rfl, rfl⟩)
          exact bodyPost_ret (v := .agg #[.int .i64 (goKind q.1), .string (s.extract j (j + q.2)), .int .i64 j]) (by simp [results, Tryz.results48, go_sem]; try rfl) rfl ⟨_, HT, rfl, (Below.refl _ _).alloc (Nat.le_refl _) _⟩
    · have hjs : j = s.size := by omega
      subst hjs
      have HP : Hid (Doc.past s a = s.size) := HJ.out.symm.trans (past_stop s _ (Nat.le_refl _))
      have HT : Hid ((⟨0, ByteArray.empty, s.size⟩ : PTok) = ptok s a) := by
        show _ = _; unfold ptok; rw [if_pos HP.out]
      clear HJ
      go_wp2_with fail
      exact bodyPost_ret (v := .agg #[.int .i64 0, .string ByteArray.empty, .int .i64 (s.size : Int)]) (by simp [results, Tryz.results48, go_sem]; try rfl) rfl ⟨_, HT, rfl, (Below.refl _ _).alloc (Nat.le_refl _) _⟩
end Go.Proofs.YtbnelaoeblhndaaGreatDoor
