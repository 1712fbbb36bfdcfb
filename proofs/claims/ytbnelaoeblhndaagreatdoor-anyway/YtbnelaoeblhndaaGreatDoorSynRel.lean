/- How a token of the program stands to the token that the document says. -/
import Derived.Test.YtbnelaoeblhndaaGreatDoorSynTok4
import Derived.Test.YtbnelaoeblhndaaGreatDoorParsePos
namespace Go.Proofs.YtbnelaoeblhndaaGreatDoor
set_option maxRecDepth 100000

/-- The kind of a token hangs on its first byte. -/
theorem lex_first (c : UInt8) (r : List UInt8) :
    ((Doc.lex (c :: r)).1 = 119 → Doc.isLetter c = true ∧ (Doc.lex (c :: r)).2 = Doc.run 97 122 (c :: r) ∧ (Doc.lex (c :: r)).2 ≤ 8) ∧ ((Doc.lex (c :: r)).1 = 110 → (c == 45) = true ∨ Doc.isDigit c = true) ∧ ((Doc.lex (c :: r)).1 = 115 → (c == 34) = true) ∧
    ((Doc.lex (c :: r)).1 = 103 → Doc.isLetter c = false) := by
  unfold Doc.lex
  simp only
  split
  · rename_i h1
    split <;> rename_i h2 <;> refine ⟨fun h => ?_, fun h => ?_, fun h => ?_, fun h => ?_⟩ <;> first | exact ⟨h1, rfl, h2⟩ | (simp at h)
  · rename_i h1
    have h1 : Doc.isLetter c = false := by simpa using h1
    split
    · rename_i h2
      split <;> refine ⟨fun h => ?_, fun h => .inl h2, fun h => ?_, fun h => h1⟩ <;> simp at h
    · split
      · rename_i h2 h3
        split <;> refine ⟨fun h => ?_, fun h => .inr h3, fun h => ?_, fun h => h1⟩ <;> simp at h
      · split
        · rename_i h4
          split <;> refine ⟨fun h => ?_, fun h => ?_, fun h => h4, fun h => h1⟩ <;> simp at h
        · split
          · refine ⟨fun h => ?_, fun h => ?_, fun h => ?_, fun h => h1⟩ <;> simp at h
          · split <;> refine ⟨fun h => ?_, fun h => ?_, fun h => ?_, fun h => h1⟩ <;> simp at h

/-- A word or sign that no number and no string can be taken for. -/
def Bare (l : List UInt8) : Prop := ∃ c r, l = c :: r ∧ (c == 34) = false ∧ (c == 45) = false ∧ Doc.isDigit c = false

section
variable {s : ByteArray} {p : Nat}

theorem ptok_end (hp : Doc.past s p = s.size) : ptok s p = ⟨0, ByteArray.empty, s.size⟩ ∧ Doc.hd s p = Doc.endTok s := by
  unfold ptok Doc.hd; rw [if_pos hp, if_pos hp]; exact ⟨rfl, rfl⟩
theorem ptok_wrong (hp : Doc.past s p ≠ s.size) (hk : (Doc.lex (Doc.rest s (Doc.past s p))).1 = 120) : ptok s p = ⟨1, ByteArray.empty, Doc.past s p⟩ ∧ Doc.hd s p = Doc.tok s (Doc.past s p) := by
  unfold ptok Doc.hd; rw [if_neg hp, if_neg hp, if_pos hk]; exact ⟨rfl, rfl⟩
theorem ptok_tok (hp : Doc.past s p ≠ s.size) (hk : (Doc.lex (Doc.rest s (Doc.past s p))).1 ≠ 120) :
    ptok s p = ⟨goKind (Doc.lex (Doc.rest s (Doc.past s p))).1, s.extract (Doc.past s p) (Doc.past s p + (Doc.lex (Doc.rest s (Doc.past s p))).2), Doc.past s p⟩ ∧ Doc.hd s p = Doc.tok s (Doc.past s p) := by
  unfold ptok Doc.hd; rw [if_neg hp, if_neg hp, if_neg hk]; exact ⟨rfl, rfl⟩

theorem ptok_kind (_h : p ≤ s.size) : (ptok s p).kind = goKind (Doc.hd s p).kind ∧ (ptok s p).at_ = (Doc.hd s p).at_ := by
  by_cases hp : Doc.past s p = s.size
  · obtain ⟨h1, h2⟩ := ptok_end hp; rw [h1, h2]; exact ⟨rfl, rfl⟩
  · by_cases hk : (Doc.lex (Doc.rest s (Doc.past s p))).1 = 120
    · obtain ⟨h1, h2⟩ := ptok_wrong hp hk; rw [h1, h2]
      refine ⟨?_, rfl⟩
      show 1 = goKind (Doc.lex (Doc.rest s (Doc.past s p))).1
      rw [hk]; rfl
    · obtain ⟨h1, h2⟩ := ptok_tok hp hk; rw [h1, h2]; exact ⟨rfl, rfl⟩

theorem ext_list (a n : Nat) : (s.extract a (a + n)).toList = (Doc.rest s a).take n := by
  rw [ByteArray.toList_eq, extract_rest]

theorem empty_ne (c : UInt8) (r : List UInt8) : (ByteArray.empty.toList == c :: r) = false := by rw [ByteArray.toList_eq]; rfl

/-- A token's text is this word or sign just where the document's token is. -/
theorem ptok_is (h : p ≤ s.size) {l : List UInt8} (hl : Bare l) : ((ptok s p).text.toList == l) = Doc.is (Doc.hd s p) l := by
  obtain ⟨c0, r0, rfl, q1, q2, q3⟩ := hl
  have hpl := Doc.past_le h
  by_cases hp : Doc.past s p = s.size
  · obtain ⟨h1, h2⟩ := ptok_end hp; rw [h1, h2]; exact (empty_ne c0 r0).trans rfl
  · by_cases hk : (Doc.lex (Doc.rest s (Doc.past s p))).1 = 120
    · obtain ⟨h1, h2⟩ := ptok_wrong hp hk; rw [h1, h2]
      refine (empty_ne c0 r0).trans ?_
      have hK : (Doc.tok s (Doc.past s p)).kind = 120 := hk
      unfold Doc.is
      rw [hK]; rfl
    · obtain ⟨h1, h2⟩ := ptok_tok hp hk; rw [h1, h2]
      obtain ⟨c, r, hcr⟩ := Doc.rest_at s (Doc.past s p) (by omega)
      have hf := lex_first c r
      have hn := Doc.lex_len c r
      rw [← hcr] at hf hn
      generalize hlex : Doc.lex (Doc.rest s (Doc.past s p)) = x at *
      obtain ⟨k, n⟩ := x
      simp only at *
      have hS : (Doc.tok s (Doc.past s p)).S = if k = 119 ∨ k = 103 then s.extract (Doc.past s p) (Doc.past s p + n) else if k = 115 then s.extract (Doc.past s p + 1) (Doc.past s p + n - 1) else ByteArray.empty := by
        unfold Doc.tok; rw [hlex]
      have hK : (Doc.tok s (Doc.past s p)).kind = k := by unfold Doc.tok; rw [hlex]
      have hpos := hn.2.2 hk
      obtain ⟨m, rfl⟩ : ∃ m, n = m + 1 := ⟨n - 1, by omega⟩
      unfold Doc.is
      rw [hK, hS]
      by_cases h119 : k = 119 ∨ k = 103
      · rw [if_pos h119]
        rcases h119 with rfl | rfl <;> simp
      · rw [ext_list, hcr, List.take_succ_cons]
        have hfalse : (k == 119 || k == 103) = false := by
          rw [Bool.or_eq_false_iff, beq_eq_false_iff_ne, beq_eq_false_iff_ne]
          exact ⟨fun h => h119 (.inl h), fun h => h119 (.inr h)⟩
        rw [hfalse, Bool.false_and, beq_eq_false_iff_ne]
        intro e
        rw [List.cons.injEq] at e
        obtain ⟨rfl, _⟩ := e
        rcases hn.1 with h | h | h | h | h
        · exact h119 (.inl h)
        · rcases hf.2.1 h with h | h
          · rw [h] at q2; cases q2
          · rw [h] at q3; cases q3
        · have := hf.2.2.1 h; rw [this] at q1; cases q1
        · exact h119 (.inr h)
        · exact hk h

/-- The next token's place. -/
theorem ptok_next (h : p ≤ s.size) (hk : (Doc.hd s p).kind = 119 ∨ (Doc.hd s p).kind = 110 ∨ (Doc.hd s p).kind = 115 ∨ (Doc.hd s p).kind = 103) :
    (ptok s p).at_ + (ptok s p).text.size ≤ s.size ∧ p < (ptok s p).at_ + (ptok s p).text.size ∧ Doc.toks s p = Doc.hd s p :: Doc.toks s ((ptok s p).at_ + (ptok s p).text.size) := by
  have hpl := Doc.past_le h
  by_cases hp : Doc.past s p = s.size
  · obtain ⟨_, h2⟩ := ptok_end hp
    rw [h2] at hk
    exact absurd hk (by simp [Doc.endTok])
  · have hhd : Doc.hd s p = Doc.tok s (Doc.past s p) := by unfold Doc.hd; rw [if_neg hp]
    have hk' : (Doc.lex (Doc.rest s (Doc.past s p))).1 ≠ 120 := by
      intro e
      rw [hhd] at hk
      have : (Doc.tok s (Doc.past s p)).kind = 120 := e
      rw [this] at hk; simp at hk
    obtain ⟨h1, _⟩ := ptok_tok hp hk'
    have h6 := Doc.tokEnd_lt (s := s) (a := Doc.past s p) (by omega)
    have he : Doc.tokEnd s (Doc.past s p) = Doc.past s p + (Doc.lex (Doc.rest s (Doc.past s p))).2 := by unfold Doc.tokEnd; rw [if_neg hk']
    have hz : (ptok s p).at_ + (ptok s p).text.size = Doc.tokEnd s (Doc.past s p) := by
      rw [h1]
      show Doc.past s p + (s.extract _ _).size = _
      rw [he]; simp; omega
    rw [hz]
    refine ⟨h6.2, by omega, ?_⟩
    rw [hhd]
    exact Doc.toks_next h hp hk'
end

/-- The program stands at token i of the list L, having read on from place p. -/
structure At (s : ByteArray) (L : List Doc.Tok) (p i : Nat) : Prop where
  le : p ≤ s.size
  rest : Doc.toks s p = L.drop i
  lt : i < L.length

theorem At.hd {s : ByteArray} {L : List Doc.Tok} {p i : Nat} (h : At s L p i) : Doc.hd s p = Doc.tk L i := by
  obtain ⟨r, hr⟩ := Doc.toks_cons h.le
  rw [h.rest] at hr
  have : L[i]? = some (Doc.hd s p) := by
    have := congrArg List.head? hr
    rwa [List.head?_drop, List.head?_cons] at this
  simp [Doc.tk, this]

theorem At.next {s : ByteArray} {L : List Doc.Tok} {p i : Nat} (h : At s L p i) (hE : Doc.Ended L) (hk : (Doc.tk L i).kind = 119 ∨ (Doc.tk L i).kind = 110 ∨ (Doc.tk L i).kind = 115 ∨ (Doc.tk L i).kind = 103) :
    At s L ((ptok s p).at_ + (ptok s p).text.size) (i + 1) ∧ p < (ptok s p).at_ + (ptok s p).text.size := by
  have h1 := ptok_next h.le (by rw [h.hd]; exact hk)
  refine ⟨⟨h1.1, ?_, Doc.ended_next hE h.lt hk⟩, h1.2.1⟩
  have h2 := h1.2.2
  rw [h.rest] at h2
  rw [← List.tail_drop, h2]; rfl

theorem At.start (s : ByteArray) : At s (Doc.toks s 0) 0 0 := ⟨Nat.zero_le _, rfl, Doc.toks_pos s⟩

theorem At.is {s : ByteArray} {L : List Doc.Tok} {p i : Nat} (h : At s L p i) {l : List UInt8} (hl : Bare l) : ((ptok s p).text.toList == l) = Doc.is (Doc.tk L i) l := by
  rw [← h.hd]; exact ptok_is h.le hl

theorem bare_or : Bare [111, 114] := ⟨_, _, rfl, rfl, rfl, rfl⟩
theorem bare_and : Bare [97, 110, 100] := ⟨_, _, rfl, rfl, rfl, rfl⟩
theorem bare_not : Bare [110, 111, 116] := ⟨_, _, rfl, rfl, rfl, rfl⟩
theorem bare_in : Bare [105, 110] := ⟨_, _, rfl, rfl, rfl, rfl⟩
theorem bare_like : Bare [108, 105, 107, 101] := ⟨_, _, rfl, rfl, rfl, rfl⟩
theorem bare_is : Bare [105, 115] := ⟨_, _, rfl, rfl, rfl, rfl⟩
theorem bare_null : Bare [110, 117, 108, 108] := ⟨_, _, rfl, rfl, rfl, rfl⟩
theorem bare_open : Bare [40] := ⟨_, _, rfl, rfl, rfl, rfl⟩
theorem bare_close : Bare [41] := ⟨_, _, rfl, rfl, rfl, rfl⟩
theorem bare_comma : Bare [44] := ⟨_, _, rfl, rfl, rfl, rfl⟩

end Go.Proofs.YtbnelaoeblhndaaGreatDoor
