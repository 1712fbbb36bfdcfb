/- rummageref.one, whole: the token at a place, and where it ends. -/
import Derived.Test.YtbnelaoeblhndaaGreatDoorRefOne2
import Derived.Test.YtbnelaoeblhndaaGreatDoorRefOne3
import Derived.Test.YtbnelaoeblhndaaGreatDoorRefOne5
namespace Go.Proofs.YtbnelaoeblhndaaGreatDoor
open Go.RowKit
set_option maxRecDepth 100000

/-- A token as a value of the program. -/
def tokV (t : Doc.Tok) : Value := .agg #[.int .u8 t.kind.toNat, .string t.S, .int .i64 t.N, .int .i64 t.at_]
/-- Its cells. -/
def tokC (t : Doc.Tok) : List Value := [.int .u8 t.kind.toNat, .string t.S, .int .i64 t.N, .int .i64 t.at_]

theorem tok_word {s : ByteArray} {a r : Nat} (h : Doc.lex (Doc.rest s a) = (119, r)) :
    Value.agg #[.int .u8 119, .string (s.extract a (a + r)), .int .i64 0, .int .i64 a] = tokV (Doc.tok s a) ∧ a + r = Doc.tokEnd s a := by
  simp [tokV, Doc.tok, Doc.tokEnd, h]
theorem tok_sign {s : ByteArray} {a r : Nat} (h : Doc.lex (Doc.rest s a) = (103, r)) :
    Value.agg #[.int .u8 103, .string (s.extract a (a + r)), .int .i64 0, .int .i64 a] = tokV (Doc.tok s a) ∧ a + r = Doc.tokEnd s a := by
  simp [tokV, Doc.tok, Doc.tokEnd, h]
theorem tok_str {s : ByteArray} {a r : Nat} (h : Doc.lex (Doc.rest s a) = (115, r + 2)) :
    Value.agg #[.int .u8 115, .string (s.extract (a + 1) (a + 1 + r)), .int .i64 0, .int .i64 a] = tokV (Doc.tok s a) ∧ a + r + 2 = Doc.tokEnd s a := by
  simp [tokV, Doc.tok, Doc.tokEnd, h, show a + (r + 2) - 1 = a + 1 + r by omega]; omega
theorem tok_num {s : ByteArray} {a r : Nat} {n : Int} (h : Doc.lex (Doc.rest s a) = (110, r)) (hn : Doc.signed ((Doc.rest s a).take r) = n) :
    Value.agg #[.int .u8 110, .string ByteArray.empty, .int .i64 n, .int .i64 a] = tokV (Doc.tok s a) ∧ a + r = Doc.tokEnd s a := by
  simp [tokV, Doc.tok, Doc.tokEnd, h, hn]
theorem tok_bad {s : ByteArray} {a r : Nat} (h : Doc.lex (Doc.rest s a) = (120, r)) :
    Value.agg #[.int .u8 120, .string ByteArray.empty, .int .i64 0, .int .i64 a] = tokV (Doc.tok s a) ∧ s.size = Doc.tokEnd s a := by
  simp [tokV, Doc.tok, Doc.tokEnd, h]

theorem rest_cons (s : ByteArray) (a : Nat) (h : a < s.size) : Doc.rest s a = s[a] :: Doc.rest s (a + 1) := drop_at s a h
theorem rest_len (s : ByteArray) (a : Nat) : (Doc.rest s a).length = s.size - a := by simp [Doc.rest]

theorem u8_int (x : UInt8) (n : Nat) (h : n < 256) : (x == UInt8.ofNat n) = ((x.toNat : Int) == (n : Int)) := by
  rw [Bool.eq_iff_iff, beq_iff_eq, beq_iff_eq]
  constructor
  · intro e; rw [e]; simp; omega
  · intro e; apply UInt8.toNat_inj.1; simp; omega

theorem extract_rest (s : ByteArray) (a r : Nat) : (s.extract a (a + r)).data.toList = (Doc.rest s a).take r := by
  rw [extract_list]; congr 1; omega

theorem one_any (s : ByteArray) (a : Nat) (w : World) (hs : s.size ≤ 200) (ha : a < s.size) :
    Calls Tryz.prog 131 #[.string s, .int .i64 a] w fun e w' =>
      e = .returned (.tuple #[tokV (Doc.tok s a), .int .i64 (Doc.tokEnd s a : Int)]) ∧ Below w.heap.size w w' := by
  have hl := rest_cons s a ha
  have hlen := rest_len s a
  have hlen1 := rest_len s (a + 1)
  have e45 := u8_int s[a] 45 (by omega)
  have e34 := u8_int s[a] 34 (by omega)
  have f45 : (s[a] == 45) = ((s[a].toNat : Int) == 45) := e45
  have f34 : (s[a] == 34) = ((s[a].toNat : Int) == 34) := e34
  by_cases h1 : (97 : Int) ≤ (s[a].toNat : Int) ∧ (s[a].toNat : Int) ≤ 122
  · have hL : Doc.isLetter s[a] = true := by simp [Doc.isLetter, UInt8.le_iff_toNat_le]; omega
    have hr := Doc.run_le 97 122 (Doc.rest s a)
    by_cases h8 : Doc.run 97 122 (Doc.rest s a) ≤ 8
    · have hx : Doc.lex (Doc.rest s a) = (119, Doc.run 97 122 (Doc.rest s a)) := by
        rw [hl] at h8 ⊢; simp only [Doc.lex, hL, if_true]; rw [if_pos h8]
      rw [← (tok_word hx).1, ← (tok_word hx).2]
      exact one_word s a _ w hs ha rfl (by omega) h1.1 h1.2 h8
    · have hx : Doc.lex (Doc.rest s a) = (120, 0) := by
        rw [hl] at h8 ⊢; simp only [Doc.lex, hL, if_true]; rw [if_neg h8]
      rw [← (tok_bad hx).1, ← (tok_bad hx).2]
      exact one_long s a _ w hs ha rfl (by omega) h1.1 h1.2 (by omega)
  have hL : Doc.isLetter s[a] = false := by
    rw [Bool.eq_false_iff]; simp [Doc.isLetter, UInt8.le_iff_toNat_le]; omega
  by_cases h2 : (s[a].toNat : Int) = 45
  · have g45 : (s[a] == 45) = true := by rw [f45]; simpa using h2
    have hr := Doc.run_le 48 57 (Doc.rest s (a + 1))
    by_cases h7 : Doc.run 48 57 (Doc.rest s (a + 1)) ≠ 0 ∧ Doc.run 48 57 (Doc.rest s (a + 1)) ≤ 7
    · have hx : Doc.lex (Doc.rest s a) = (110, Doc.run 48 57 (Doc.rest s (a + 1)) + 1) := by
        rw [hl]; simp only [Doc.lex, hL, g45, if_true]; rw [if_pos h7]; simp
      have hd : ∀ c ∈ (s.extract (a + 1) (a + 1 + Doc.run 48 57 (Doc.rest s (a + 1)))).data.toList, (48 : UInt8) ≤ c ∧ c ≤ 57 := by
        rw [extract_rest]; exact Doc.run_all 48 57 _
      have hz : (s.extract (a + 1) (a + 1 + Doc.run 48 57 (Doc.rest s (a + 1)))).size = Doc.run 48 57 (Doc.rest s (a + 1)) := by simp; omega
      have hn : Doc.signed ((Doc.rest s a).take (Doc.run 48 57 (Doc.rest s (a + 1)) + 1)) = -((Doc.num (s.extract (a + 1) (a + 1 + Doc.run 48 57 (Doc.rest s (a + 1)))).data.toList : Nat) : Int) := by
        rw [extract_rest, hl, List.take_succ_cons]
        exact Doc.signed_minus g45
      have hb := num_bound (s.extract (a + 1) (a + 1 + Doc.run 48 57 (Doc.rest s (a + 1)))) hd _ (Nat.le_refl _) (by omega)
      rw [List.take_of_length_le (by rw [Array.length_toList]; exact Nat.le_refl _)] at hb
      rw [← (tok_num hx hn).1, ← (tok_num hx hn).2, show a + (Doc.run 48 57 (Doc.rest s (a + 1)) + 1) = a + 1 + Doc.run 48 57 (Doc.rest s (a + 1)) by omega]
      exact one_minus s a _ w hs ha rfl (by omega) h2 (by omega) h7.2 hd hz _ rfl hb
    · have hx : Doc.lex (Doc.rest s a) = (120, 0) := by
        rw [hl]; simp only [Doc.lex, hL, g45, if_true]; rw [if_neg h7]; simp
      rw [← (tok_bad hx).1, ← (tok_bad hx).2]
      exact one_minus_bad s a _ w hs ha rfl (by omega) h2 (by omega)
  have g45 : (s[a] == 45) = false := by rw [f45]; simpa using h2
  by_cases h3 : (48 : Int) ≤ (s[a].toNat : Int) ∧ (s[a].toNat : Int) ≤ 57
  · have hD : Doc.isDigit s[a] = true := by simp [Doc.isDigit, UInt8.le_iff_toNat_le]; omega
    have hr := Doc.run_le 48 57 (Doc.rest s a)
    have h0 : 0 < Doc.run 48 57 (Doc.rest s a) := by
      have := run_go s a 48 57 ha (by simpa using h3.1) (by simpa using h3.2)
      unfold Doc.rest; omega
    by_cases h7 : Doc.run 48 57 (Doc.rest s a) ≤ 7
    · have hx : Doc.lex (Doc.rest s a) = (110, Doc.run 48 57 (Doc.rest s a)) := by
        rw [hl] at h7 ⊢; simp only [Doc.lex, hL, g45, hD, if_true]; rw [if_pos h7]; simp
      have hd : ∀ c ∈ (s.extract a (a + Doc.run 48 57 (Doc.rest s a))).data.toList, (48 : UInt8) ≤ c ∧ c ≤ 57 := by
        rw [extract_rest]; exact Doc.run_all 48 57 _
      have hz : (s.extract a (a + Doc.run 48 57 (Doc.rest s a))).size = Doc.run 48 57 (Doc.rest s a) := by simp; omega
      have hn : Doc.signed ((Doc.rest s a).take (Doc.run 48 57 (Doc.rest s a))) = ((Doc.num (s.extract a (a + Doc.run 48 57 (Doc.rest s a))).data.toList : Nat) : Int) := by
        rw [extract_rest]
        generalize Doc.run 48 57 (Doc.rest s a) = r at *
        obtain ⟨r, rfl⟩ : ∃ q, r = q + 1 := ⟨r - 1, by omega⟩
        rw [hl, List.take_succ_cons]
        exact Doc.signed_plain g45
      rw [← (tok_num hx hn).1, ← (tok_num hx hn).2]
      exact one_digits s a _ w hs ha rfl (by omega) h3.1 h3.2 h0 h7 hd hz _ rfl
    · have hx : Doc.lex (Doc.rest s a) = (120, 0) := by
        rw [hl] at h7 ⊢; simp only [Doc.lex, hL, g45, hD, if_true]; rw [if_neg h7]; simp
      rw [← (tok_bad hx).1, ← (tok_bad hx).2]
      exact one_digits_bad s a _ w hs ha rfl (by omega) h3.1 h3.2 (by omega)
  have hD : Doc.isDigit s[a] = false := by
    rw [Bool.eq_false_iff]; simp [Doc.isDigit, UInt8.le_iff_toNat_le]; omega
  by_cases h4 : (s[a].toNat : Int) = 34
  · have g34 : (s[a] == 34) = true := by rw [f34]; simpa using h4
    have hr := Doc.inside_le (Doc.rest s (a + 1))
    by_cases h12 : Doc.inside (Doc.rest s (a + 1)) < (Doc.rest s (a + 1)).length ∧ Doc.inside (Doc.rest s (a + 1)) ≤ 12
    · have hx : Doc.lex (Doc.rest s a) = (115, Doc.inside (Doc.rest s (a + 1)) + 2) := by
        rw [hl]; simp only [Doc.lex, hL, g45, hD, g34, if_true]; rw [if_pos h12]; simp
      rw [← (tok_str hx).1, ← (tok_str hx).2]
      exact one_quote s a _ w hs ha rfl h4 h12.2 (by omega)
    · have hx : Doc.lex (Doc.rest s a) = (120, 0) := by
        rw [hl]; simp only [Doc.lex, hL, g45, hD, g34, if_true]; rw [if_neg h12]; simp
      rw [← (tok_bad hx).1, ← (tok_bad hx).2]
      by_cases he : a + 1 + Doc.inside (Doc.rest s (a + 1)) = s.size
      · exact one_quote_open s a _ w hs ha rfl h4 he
      · exact one_quote_long s a _ w hs ha rfl h4 (by omega) (by omega)
  have g34 : (s[a] == 34) = false := by rw [f34]; simpa using h4
  by_cases hT : Doc.twoSign (Doc.rest s a) = true
  · have hx : Doc.lex (Doc.rest s a) = (103, 2) := by
      rw [hl] at hT ⊢; simp [Doc.lex, hL, g45, hD, g34, hT]
    rw [← (tok_sign hx).1, ← (tok_sign hx).2]
    have hlong : ∀ c : UInt8, (Doc.rest s a).take 2 = [c, 61] → a + 1 < s.size ∧ (s[a].toNat : Int) = (c.toNat : Int) := by
      intro c hc
      have h5 := congrArg List.length hc
      rw [List.length_take, rest_len] at h5
      simp only [List.length_cons, List.length_nil] at h5
      rw [hl, List.take_succ_cons, List.cons.injEq] at hc
      exact ⟨by omega, by rw [hc.1]⟩
    have h6 : (Doc.rest s a).take 2 = [33, 61] ∨ (Doc.rest s a).take 2 = [60, 61] ∨ (Doc.rest s a).take 2 = [62, 61] := by
      simp only [Doc.twoSign, Bool.or_eq_true, beq_iff_eq] at hT
      rcases hT with (h | h) | h
      · exact .inl h
      · exact .inr (.inl h)
      · exact .inr (.inr h)
    rcases h6 with h | h | h
    · exact one_bang s a w hs (hlong _ h).1 (hlong _ h).2 h
    · exact one_less s a w hs (hlong _ h).1 (hlong _ h).2 h
    · exact one_more s a w hs (hlong _ h).1 (hlong _ h).2 h
  have hT' : Doc.twoSign (Doc.rest s a) = false := by simpa using hT
  have g : (((Doc.rest s a).take 2 == [33, 61]) = false ∧ ((Doc.rest s a).take 2 == [60, 61]) = false) ∧ ((Doc.rest s a).take 2 == [62, 61]) = false := by
    simpa only [Doc.twoSign, Bool.or_eq_false_iff] using hT'
  have k61 : (s[a] == 61) = ((s[a].toNat : Int) == 61) := u8_int s[a] 61 (by omega)
  have k60 : (s[a] == 60) = ((s[a].toNat : Int) == 60) := u8_int s[a] 60 (by omega)
  have k62 : (s[a] == 62) = ((s[a].toNat : Int) == 62) := u8_int s[a] 62 (by omega)
  have k40 : (s[a] == 40) = ((s[a].toNat : Int) == 40) := u8_int s[a] 40 (by omega)
  have k41 : (s[a] == 41) = ((s[a].toNat : Int) == 41) := u8_int s[a] 41 (by omega)
  have k44 : (s[a] == 44) = ((s[a].toNat : Int) == 44) := u8_int s[a] 44 (by omega)
  by_cases hO : Doc.oneSign s[a] = true
  · have hx : Doc.lex (Doc.rest s a) = (103, 1) := by
      rw [hl] at hT' ⊢; simp [Doc.lex, hL, g45, hD, g34, hT', hO]
    rw [← (tok_sign hx).1, ← (tok_sign hx).2]
    refine one_sign s a w hs ha _ rfl ?_ g.1.1 g.1.2 g.2
    simp only [Doc.oneSign, k61, k60, k62, k40, k41, k44, Bool.or_eq_true, beq_iff_eq] at hO
    omega
  · have hO' : Doc.oneSign s[a] = false := by simpa using hO
    have hx : Doc.lex (Doc.rest s a) = (120, 0) := by
      rw [hl] at hT' ⊢; simp [Doc.lex, hL, g45, hD, g34, hT', hO']
    rw [← (tok_bad hx).1, ← (tok_bad hx).2]
    simp only [Doc.oneSign, k61, k60, k62, k40, k41, k44, Bool.or_eq_false_iff] at hO'
    exact one_wrong s a w hs ha (by omega) (by rw [← f45]; exact g45) (by rw [← f34]; exact g34) hO'.1.1.1.1.1 hO'.1.1.1.1.2 hO'.1.1.1.2 hO'.1.1.2 hO'.1.2 hO'.2 g.1.1 g.1.2 g.2
end Go.Proofs.YtbnelaoeblhndaaGreatDoor
