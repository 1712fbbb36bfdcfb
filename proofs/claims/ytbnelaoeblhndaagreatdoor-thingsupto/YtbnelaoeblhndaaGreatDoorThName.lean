/- A text is a name where its first token is one and the whole text; the walk of the program's IsName. -/
import Derived.Test.YtbnelaoeblhndaaGreatDoorSynRel2
namespace Go.Proofs.YtbnelaoeblhndaaGreatDoor
open Go.RowKit
set_option maxRecDepth 100000

theorem ba_list_ext {a b : ByteArray} (h : a.toList = b.toList) : a = b := by
  rw [ByteArray.toList_eq, ByteArray.toList_eq] at h
  exact ByteArray.ext (Array.ext' h)

theorem name_ptok (s : ByteArray) : (pName (ptok s 0) && ((ptok s 0).text.toList == s.toList)) = Doc.nameB s := by
  have hpn := ptok_name (s := s) (p := 0) (Nat.zero_le _)
  by_cases hn : Doc.nameB s = true
  · have hn' := hn
    simp only [Doc.nameB, Bool.and_eq_true, decide_eq_true_eq, beq_iff_eq] at hn'
    obtain ⟨⟨⟨h1, h2⟩, h3⟩, _⟩ := hn'
    obtain ⟨c, r, hcr⟩ := Doc.rest_at s 0 (by omega)
    have hcl : (decide ((97 : UInt8) ≤ c) && decide (c ≤ 122)) = true := by
      by_cases hx : (decide ((97 : UInt8) ≤ c) && decide (c ≤ 122)) = true
      · exact hx
      · exfalso
        rw [hcr] at h3
        unfold Doc.run at h3
        rw [List.takeWhile_cons_of_neg (by simpa using hx)] at h3
        simp at h3; omega
    have hlet : Doc.isLetter c = true := hcl
    have h32 : Doc.run 32 32 (Doc.rest s 0) = 0 := by
      rw [hcr]; unfold Doc.run
      rw [List.takeWhile_cons_of_neg]
      · rfl
      · simp only [Bool.and_eq_true, decide_eq_true_eq] at hcl ⊢
        rintro ⟨_, h⟩
        exact absurd (UInt8.le_trans hcl.1 h) (by decide)
    have hpast : Doc.past s 0 = 0 := by unfold Doc.past; rw [h32]
    have hlex : Doc.lex (Doc.rest s 0) = (119, s.size) := by
      rw [hcr]
      unfold Doc.lex
      simp only
      rw [if_pos hlet, ← hcr, h3, if_pos h2]
    have htok := ptok_tok (s := s) (p := 0) (by rw [hpast]; omega) (by rw [hpast, hlex]; show (119 : UInt8) ≠ 120; decide)
    rw [hpast, hlex] at htok
    obtain ⟨e1, e2⟩ := htok
    have hex : s.extract 0 (0 + s.size) = s := by
      apply ba_list_ext
      rw [ext_list, ByteArray.toList_eq]
      show (s.data.toList.drop 0).take s.size = s.data.toList
      rw [List.drop_zero, List.take_of_length_le (by rw [Array.length_toList]; exact Nat.le_refl _)]
    have htx : (ptok s 0).text = s := by rw [e1]; exact hex
    obtain ⟨t1, _, t3, _, _⟩ := tok_of (s := s) (a := 0) hlex
    rw [hpn, e2, t1, (t3 (.inl rfl)).1, hex, htx, hn]
    simp
  · have hn : Doc.nameB s = false := by simpa using hn
    rw [hn]
    by_cases ht : ((ptok s 0).text.toList == s.toList) = true
    · have htx : (ptok s 0).text = s := ba_list_ext (by simpa using ht)
      rw [hpn]
      rcases ptok_cases (s := s) (p := 0) (Nat.zero_le _) with ⟨_, _, h3⟩ | ⟨_, _, h3⟩ | ⟨a, k, n, ha, hx, hk, hnn, hle, h1, h2⟩
      · rw [h3]; rfl
      · rw [h3]; rfl
      · obtain ⟨t1, _, t3, _, _⟩ := tok_of hx
        rw [h2, t1]
        by_cases hw : k = 119
        · have : (Doc.tok s a).S = s := by
            have h4 : (ptok s 0).text = s.extract a (a + n) := by rw [h1]
            rw [(t3 (.inl hw)).1, ← h4, htx]
          rw [this, hn]; simp
        · rw [beq_eq_false_iff_ne.2 hw]; rfl
    · rw [show ((ptok s 0).text.toList == s.toList) = false by simpa using ht, Bool.and_false]

set_option maxHeartbeats 2000000 in
theorem isNameP_any (s : ByteArray) (w : World) (hs : s.size ≤ 140737488351232) (hsg : Signs w) (h0 : 1 < w.heap.size) :
    Calls Tryz.prog 104 #[.string s] w fun e w' => e = .returned (.bool (Doc.nameB s)) ∧ Below w.heap.size w w' := by
  have HN : Hid _ := name_ptok s
  go_enter Tryz.func104, Tryz.ntmps104
  go_wp2_with fail
  refine (tokenFrom_any s 0 _ hs (Nat.zero_le _) hsg h0).mono ?_
  rintro r w1 ⟨t, HT, rfl, hb1⟩
  rw [← HT.out] at HN
  go_wp2_with fail
  refine (isName_any t _).mono ?_
  obtain ⟨g, HG⟩ : ∃ g, Hid (g = pName t) := ⟨pName t, rfl⟩
  rw [← HG.out] at HN ⊢
  rintro r w2 ⟨rfl, hb2⟩
  have q := (hb2.block w1.heap.size (by simp)).trans (heap_alloc_new w1 _)
  obtain ⟨a0, a1, a2⟩ := th_cells q
  have hbf : Below w.heap.size w w2 := (hb1.alloc hb1.size _).trans (hb2.mono (by have := hb1.size; simp; omega))
  cases g
  all_goals
    go_wp2_with fail
    go_ret
    refine ⟨ret_bool ?_, hbf⟩
    rw [← HN.out]
    simp
end Go.Proofs.YtbnelaoeblhndaaGreatDoor
