/- The token at hand: names, signs that compare, literals. -/
import Derived.Test.YtbnelaoeblhndaaGreatDoorSynRead3
namespace Go.Proofs.YtbnelaoeblhndaaGreatDoor
open Go.RowKit
set_option maxRecDepth 100000

section
variable {s : ByteArray} {p : Nat}

theorem ptok_cases (h : p ≤ s.size) : ((ptok s p).kind = 0 ∧ (ptok s p).text = ByteArray.empty ∧ (Doc.hd s p).kind = 101) ∨ ((ptok s p).kind = 1 ∧ (ptok s p).text = ByteArray.empty ∧ (Doc.hd s p).kind = 120) ∨
    ∃ a k n, a < s.size ∧ Doc.lex (Doc.rest s a) = (k, n) ∧ k ≠ 120 ∧ 0 < n ∧ a + n ≤ s.size ∧ ptok s p = ⟨goKind k, s.extract a (a + n), a⟩ ∧ Doc.hd s p = Doc.tok s a := by
  have hpl := Doc.past_le h
  by_cases hp : Doc.past s p = s.size
  · obtain ⟨h1, h2⟩ := ptok_end hp; rw [h1, h2]; exact .inl ⟨rfl, rfl, rfl⟩
  · by_cases hk : (Doc.lex (Doc.rest s (Doc.past s p))).1 = 120
    · obtain ⟨h1, h2⟩ := ptok_wrong hp hk; rw [h1, h2]; exact .inr (.inl ⟨rfl, rfl, hk⟩)
    · obtain ⟨h1, h2⟩ := ptok_tok hp hk
      obtain ⟨c, r, hcr⟩ := Doc.rest_at s (Doc.past s p) (by omega)
      have hn := Doc.lex_len c r
      have hl := Doc.len_rest s (Doc.past s p)
      rw [hcr, List.length_cons] at hl
      rw [← hcr] at hn
      have hb : Doc.past s p + (Doc.lex (Doc.rest s (Doc.past s p))).2 ≤ s.size := by have := hn.2.1; omega
      exact .inr (.inr ⟨Doc.past s p, _, _, by omega, rfl, hk, hn.2.2 hk, hb, h1, h2⟩)

theorem goKind_eq {k : UInt8} (_h : k ≠ 120) (h1 : k = 119 ∨ k = 110 ∨ k = 115 ∨ k = 103) : (goKind k == 2) = (k == 119) ∧ (goKind k == 3) = (k == 110) ∧ (goKind k == 4) = (k == 115) := by
  rcases h1 with rfl | rfl | rfl | rfl <;> exact ⟨rfl, rfl, rfl⟩

theorem run_take (lo hi : UInt8) (l : List UInt8) : Doc.run lo hi (l.take (Doc.run lo hi l)) = Doc.run lo hi l := by
  induction l with
  | nil => rfl
  | cons c l ih =>
    by_cases h : lo ≤ c ∧ c ≤ hi
    · rw [Doc.run_hit h.1 h.2, List.take_succ_cons, Doc.run_hit h.1 h.2, ih]
    · rw [Doc.run_miss h]; rfl

theorem tok_of {a : Nat} {k : UInt8} {n : Nat} (hx : Doc.lex (Doc.rest s a) = (k, n)) : (Doc.tok s a).kind = k ∧ (Doc.tok s a).at_ = a ∧ ((k = 119 ∨ k = 103) → (Doc.tok s a).S = s.extract a (a + n) ∧ (Doc.tok s a).N = 0) ∧ (k = 115 → (Doc.tok s a).S = s.extract (a + 1) (a + n - 1) ∧ (Doc.tok s a).N = 0) ∧ (k = 110 → (Doc.tok s a).S = ByteArray.empty ∧ (Doc.tok s a).N = Doc.signed ((Doc.rest s a).take n)) := by
  unfold Doc.tok
  rw [hx]
  refine ⟨rfl, rfl, fun h => ?_, fun h => ?_, fun h => ?_⟩
  · rcases h with rfl | rfl <;> exact ⟨rfl, rfl⟩
  · subst h; exact ⟨rfl, rfl⟩
  · subst h; exact ⟨rfl, rfl⟩

/-- A name. -/
theorem ptok_name (h : p ≤ s.size) : pName (ptok s p) = ((Doc.hd s p).kind == 119 && Doc.nameB (Doc.hd s p).S) := by
  rcases ptok_cases h with ⟨h1, _, h3⟩ | ⟨h1, _, h3⟩ | ⟨a, k, n, ha, hx, hk, hn, hle, h1, h2⟩
  · unfold pName; rw [h1, h3]; rfl
  · unfold pName; rw [h1, h3]; rfl
  · rw [h1, h2]
    obtain ⟨c, r, hcr⟩ := Doc.rest_at s a ha
    have hll := Doc.lex_len c r
    have hf := lex_first c r
    rw [← hcr, hx] at hll hf
    obtain ⟨t1, t2, t3, t4, t5⟩ := tok_of hx
    have hkk : k = 119 ∨ k = 110 ∨ k = 115 ∨ k = 103 := by
      rcases hll.1 with h | h | h | h | h
      · exact .inl h
      · exact .inr (.inl h)
      · exact .inr (.inr (.inl h))
      · exact .inr (.inr (.inr h))
      · exact absurd h hk
    rw [t1]
    unfold pName
    simp only
    rw [(goKind_eq hk hkk).1]
    by_cases hw : k = 119
    · obtain ⟨_, hr, h8⟩ := hf.1 hw
      simp only at hr h8
      rw [(t3 (.inl hw)).1]
      have hsz : (s.extract a (a + n)).size = n := by simp; omega
      have hrun : Doc.run 97 122 (Doc.rest (s.extract a (a + n)) 0) = n := by
        rw [rest0, extract_rest]
        conv => lhs; rw [hr]
        rw [run_take]; exact hr.symm
      unfold Doc.nameB
      rw [hsz, hrun]
      rw [show decide (1 ≤ n) = true from decide_eq_true hn, show decide (n ≤ 8) = true from decide_eq_true h8, beq_self_eq_true n]
      rfl
    · rw [beq_eq_false_iff_ne.2 hw, Bool.false_and, Bool.false_and]

/-- How the text of a word or of a sign begins. -/
theorem hd_first (h : p ≤ s.size) : ((Doc.hd s p).kind = 119 → ∃ c r, (Doc.hd s p).S.toList = c :: r ∧ Doc.isLetter c = true) ∧ ((Doc.hd s p).kind = 103 → ∃ c r, (Doc.hd s p).S.toList = c :: r ∧ Doc.isLetter c = false) := by
  rcases ptok_cases h with ⟨_, _, h3⟩ | ⟨_, _, h3⟩ | ⟨a, k, n, ha, hx, hk, hn, hle, h1, h2⟩
  · rw [h3]; exact ⟨fun h => absurd h (by decide), fun h => absurd h (by decide)⟩
  · rw [h3]; exact ⟨fun h => absurd h (by decide), fun h => absurd h (by decide)⟩
  · rw [h2]
    obtain ⟨c, r, hcr⟩ := Doc.rest_at s a ha
    have hf := lex_first c r
    rw [← hcr, hx] at hf
    obtain ⟨t1, t2, t3, _, _⟩ := tok_of hx
    obtain ⟨m, rfl⟩ : ∃ m, n = m + 1 := ⟨n - 1, by omega⟩
    rw [t1]
    refine ⟨fun e => ?_, fun e => ?_⟩
    · rw [(t3 (.inl e)).1, ext_list, hcr, List.take_succ_cons]
      exact ⟨c, _, rfl, (hf.1 e).1⟩
    · rw [(t3 (.inr e)).1, ext_list, hcr, List.take_succ_cons]
      exact ⟨c, _, rfl, hf.2.2.2 e⟩

theorem is_sign (h : p ≤ s.size) {c : UInt8} {r : List UInt8} (hc : Doc.isLetter c = false) : Doc.is (Doc.hd s p) (c :: r) = ((Doc.hd s p).kind == 103 && (Doc.hd s p).S.toList == c :: r) := by
  unfold Doc.is
  by_cases hw : (Doc.hd s p).kind = 119
  · obtain ⟨c1, r1, e1, e2⟩ := (hd_first h).1 hw
    rw [e1]
    have : (c1 :: r1 == c :: r) = false := by
      rw [beq_eq_false_iff_ne]; intro e; rw [List.cons.injEq] at e; rw [← e.1, e2] at hc; cases hc
    rw [this, Bool.and_false, Bool.and_false]
  · rw [beq_eq_false_iff_ne.2 hw, Bool.false_or]

theorem is_word (h : p ≤ s.size) {c : UInt8} {r : List UInt8} (hc : Doc.isLetter c = true) : Doc.is (Doc.hd s p) (c :: r) = Doc.isWord (Doc.hd s p) (c :: r) := by
  unfold Doc.is Doc.isWord
  by_cases hw : (Doc.hd s p).kind = 103
  · obtain ⟨c1, r1, e1, e2⟩ := (hd_first h).2 hw
    rw [e1]
    have : (c1 :: r1 == c :: r) = false := by
      rw [beq_eq_false_iff_ne]; intro e; rw [List.cons.injEq] at e; rw [← e.1, e2] at hc; cases hc
    rw [this, Bool.and_false, Bool.and_false]
  · rw [beq_eq_false_iff_ne.2 hw, Bool.or_false]

theorem bare_cmp {c : UInt8} {r : List UInt8} (h : c = 61 ∨ c = 33 ∨ c = 60 ∨ c = 62) : Bare (c :: r) ∧ Doc.isLetter c = false := by
  rcases h with rfl | rfl | rfl | rfl <;> exact ⟨⟨_, _, rfl, rfl, rfl, rfl⟩, rfl⟩

theorem ptok_cmp (h : p ≤ s.size) : pCmp (ptok s p) = Doc.cmpB (Doc.hd s p) := by
  unfold pCmp Doc.cmpB
  rw [ptok_is h (bare_cmp (.inl rfl)).1, ptok_is h (bare_cmp (.inr (.inl rfl))).1, ptok_is h (bare_cmp (.inr (.inr (.inl rfl)))).1, ptok_is h (bare_cmp (.inr (.inr (.inl rfl)))).1, ptok_is h (bare_cmp (.inr (.inr (.inr rfl)))).1, ptok_is h (bare_cmp (.inr (.inr (.inr rfl)))).1]
  rw [is_sign h rfl, is_sign h rfl, is_sign h rfl, is_sign h rfl, is_sign h rfl, is_sign h rfl]
  simp only [Bool.and_or_distrib_left]

theorem ptok_kinds (h : p ≤ s.size) : ((ptok s p).kind == 3) = ((Doc.hd s p).kind == 110) ∧ ((ptok s p).kind == 4) = ((Doc.hd s p).kind == 115) ∧ ((ptok s p).kind == 0) = ((Doc.hd s p).kind == 101) := by
  rcases ptok_cases h with ⟨h1, _, h3⟩ | ⟨h1, _, h3⟩ | ⟨a, k, n, ha, hx, hk, hn, hle, h1, h2⟩
  · rw [h1, h3]; exact ⟨rfl, rfl, rfl⟩
  · rw [h1, h3]; exact ⟨rfl, rfl, rfl⟩
  · rw [h1, h2, (tok_of hx).1]
    obtain ⟨c, r, hcr⟩ := Doc.rest_at s a ha
    have hll := Doc.lex_len c r
    rw [← hcr, hx] at hll
    rcases hll.1 with h | h | h | h | h <;> simp only at h
    · subst h; exact ⟨rfl, rfl, rfl⟩
    · subst h; exact ⟨rfl, rfl, rfl⟩
    · subst h; exact ⟨rfl, rfl, rfl⟩
    · subst h; exact ⟨rfl, rfl, rfl⟩
    · exact absurd h hk

theorem lex_number (c : UInt8) (r : List UInt8) (h : (Doc.lex (c :: r)).1 = 110) :
    ((c == 45) = true ∧ Doc.run 48 57 r ≠ 0 ∧ Doc.run 48 57 r ≤ 7 ∧ (Doc.lex (c :: r)).2 = Doc.run 48 57 r + 1) ∨ ((c == 45) = false ∧ Doc.run 48 57 (c :: r) ≤ 7 ∧ (Doc.lex (c :: r)).2 = Doc.run 48 57 (c :: r)) := by
  unfold Doc.lex at h ⊢
  simp only at h ⊢
  split at h
  · split at h <;> simp at h
  · rename_i h1
    rw [if_neg h1]
    split at h
    · rename_i h2
      rw [if_pos h2]
      split at h
      · rename_i h3; rw [if_pos h3]; exact .inl ⟨h2, h3.1, h3.2, rfl⟩
      · simp at h
    · rename_i h2
      rw [if_neg h2]
      split at h
      · rename_i h3
        rw [if_pos h3]
        split at h
        · rename_i h4; rw [if_pos h4]; exact .inr ⟨by simpa using h2, h4, rfl⟩
        · simp at h
      · split at h
        · split at h <;> simp at h
        · split at h
          · simp at h
          · split at h <;> simp at h

theorem lex_string (c : UInt8) (r : List UInt8) (h : (Doc.lex (c :: r)).1 = 115) : 2 ≤ (Doc.lex (c :: r)).2 := by
  unfold Doc.lex at h ⊢
  simp only at h ⊢
  split at h
  · split at h <;> simp at h
  · rename_i h1
    rw [if_neg h1]
    split at h
    · split at h <;> simp at h
    · rename_i h2
      rw [if_neg h2]
      split at h
      · split at h <;> simp at h
      · rename_i h3
        rw [if_neg h3]
        split at h
        · rename_i h4
          rw [if_pos h4]
          split at h
          · rename_i h5; rw [if_pos h5]; simp
          · simp at h
        · split at h
          · simp at h
          · split at h <;> simp at h

theorem ptok_str (h : p ≤ s.size) (hk : (Doc.hd s p).kind = 115) : (ptok s p).kind = 4 ∧ 2 ≤ (ptok s p).text.size ∧ (ptok s p).text.extract 1 ((ptok s p).text.size - 1) = (Doc.hd s p).S ∧ (Doc.hd s p).N = 0 := by
  have hK := (ptok_kinds h).2.1
  rw [hk] at hK
  refine ⟨by simpa using hK, ?_⟩
  rcases ptok_cases h with ⟨_, _, h3⟩ | ⟨_, _, h3⟩ | ⟨a, k, n, ha, hx, hk', hn, hle, h1, h2⟩
  · rw [h3] at hk; exact absurd hk (by decide)
  · rw [h3] at hk; exact absurd hk (by decide)
  · rw [h2, (tok_of hx).1] at hk
    rw [h1, h2]
    obtain ⟨e1, e2⟩ := (tok_of hx).2.2.2.1 hk
    obtain ⟨c, r, hcr⟩ := Doc.rest_at s a ha
    have h2n : 2 ≤ n := by
      have := lex_string c r (by rw [← hcr, hx]; exact hk)
      rw [← hcr, hx] at this; exact this
    rw [e1]
    have hsz : (s.extract a (a + n)).size = n := by simp; omega
    refine ⟨by show 2 ≤ (s.extract a (a + n)).size; omega, ?_, e2⟩
    show (s.extract a (a + n)).extract 1 ((s.extract a (a + n)).size - 1) = _
    rw [hsz]
    apply ba_ext
    simp only [extract_list, List.drop_take, List.drop_drop, List.take_take]
    congr 1
    omega

theorem ptok_num (h : p ≤ s.size) (hk : (Doc.hd s p).kind = 110) : (ptok s p).kind = 3 ∧ (Doc.hd s p).S = ByteArray.empty ∧
    ∀ w, Calls Tryz.prog 224 #[.string (ptok s p).text] w fun e w' => e = .returned (.tuple #[.int .i64 (Doc.hd s p).N, .nilIface]) ∧ Below w.heap.size w w' := by
  have hK := (ptok_kinds h).1
  rw [hk] at hK
  refine ⟨by simpa using hK, ?_⟩
  rcases ptok_cases h with ⟨_, _, h3⟩ | ⟨_, _, h3⟩ | ⟨a, k, n, ha, hx, hk', hn, hle, h1, h2⟩
  · rw [h3] at hk; exact absurd hk (by decide)
  · rw [h3] at hk; exact absurd hk (by decide)
  · rw [h2, (tok_of hx).1] at hk
    rw [h1, h2]
    obtain ⟨e1, e2⟩ := (tok_of hx).2.2.2.2 hk
    obtain ⟨c, r, hcr⟩ := Doc.rest_at s a ha
    have hln := lex_number c r (by rw [← hcr, hx]; exact hk)
    rw [← hcr, hx] at hln
    refine ⟨e1, ?_⟩
    rw [e2]
    show ∀ w, Calls Tryz.prog 224 #[.string (s.extract a (a + n))] w _
    have hsz : (s.extract a (a + n)).size = n := by simp; omega
    have hl := extract_rest s a n
    rw [hcr] at hl ⊢
    obtain ⟨y, hy⟩ : ∃ y, y = s.extract a (a + n) := ⟨_, rfl⟩
    rw [← hy] at hsz hl ⊢
    rcases hln with ⟨hc, hr0, hr7, hnr⟩ | ⟨hc, hr7, hnr⟩
    · simp only at hnr
      subst hnr
      rw [List.take_succ_cons] at hl ⊢
      rw [Doc.signed_minus hc]
      have hxl : (y.extract 1 y.size).data.toList = r.take (Doc.run 48 57 r) := by
        rw [extract_list, hl, List.drop_succ_cons, List.drop_zero, hsz, Nat.add_sub_cancel, List.take_take, Nat.min_self]
      have hxs : (y.extract 1 y.size).size = Doc.run 48 57 r := by simp; omega
      intro w
      refine atoi_of y _ w fun w => ?_
      rw [← hxl]
      have hy0 : 0 < y.size := by omega
      refine atoi_in_minus y (y.extract 1 y.size) w rfl hy0 (by omega) ?_ (by omega) (by omega) ?_
      · have : y.data.toList[0]? = some c := by rw [hl]; rfl
        have h3 : y[0] = c := by
          rw [List.getElem?_eq_getElem (by rw [Array.length_toList]; exact hy0)] at this
          exact Option.some.inj this
        rw [h3, show c = 45 by simpa using hc]; rfl
      · rw [hxl]; exact Doc.run_all 48 57 r
    · simp only at hnr
      rw [hcr] at hnr hr7
      rw [hnr] at hl hn hsz ⊢
      obtain ⟨m, hm⟩ : ∃ m, Doc.run 48 57 (c :: r) = m + 1 := ⟨Doc.run 48 57 (c :: r) - 1, by omega⟩
      have hsg : Doc.signed ((c :: r).take (Doc.run 48 57 (c :: r))) = (Doc.num y.data.toList : Nat) := by
        rw [hl, hm, List.take_succ_cons, Doc.signed_plain hc]
      rw [hsg]
      intro w
      refine atoi_of y _ w fun w => ?_
      exact atoi_in_plain y w (by omega) (by omega) (by rw [hl]; exact Doc.run_all 48 57 (c :: r))
end

end Go.Proofs.YtbnelaoeblhndaaGreatDoor
