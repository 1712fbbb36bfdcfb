/- The walk of rummageref.tokens: the tokens of a text, in a list of their own. -/
import Derived.Test.YtbnelaoeblhndaaGreatDoorRefOneAny
import Derived.Test.YtbnelaoeblhndaaGreatDoorParse
namespace Go.Proofs.YtbnelaoeblhndaaGreatDoor
open Go.RowKit
set_option maxRecDepth 100000

theorem Tryz.infoTok : (Tryz.prog.info? 175).map (fun i => (i.zero, i.size, i.bytes)) = some (some (.agg #[.int .u8 0, .string ⟨#[]⟩, .int .i64 0, .int .i64 0]), 4, 40) := by kernel_rfl

/-- The cells of tokens that stand in a list. -/
def toksC (l : List Doc.Tok) : List Value := l.flatMap tokC

theorem past_here (s : ByteArray) (k : Nat) (h : k < s.size) (e : ((s[k].toNat : Int) == 32) = false) : Doc.past s k = k := by
  have := run_halt s k 32 32 h (by rw [beq_eq_false_iff_ne] at e; simp; omega)
  unfold Doc.past Doc.rest; omega
theorem past_stop (s : ByteArray) (k : Nat) (h : s.size ≤ k) : Doc.past s k = k := by
  have := run_stop s k 32 32 h
  unfold Doc.past Doc.rest; omega
theorem past_on (s : ByteArray) (k : Nat) (h : k < s.size) (e : ((s[k].toNat : Int) == 32) = true) : Doc.past s k = Doc.past s (k + 1) := by
  rw [beq_iff_eq] at e
  have := run_go s k 32 32 h (by simp; omega) (by simp; omega)
  unfold Doc.past Doc.rest; omega

theorem ownsRow_below {wr w1 : World} {B : Nat} {e : TypeId} {size : Nat} {v : Value} {n : Nat} {xs : List Value} (h : wr.ownsRow B e size v n xs) (hb : Below wr.heap.size wr w1) : w1.ownsRow B e size v n xs := by
  obtain ⟨h1, h2⟩ := h
  refine ⟨h1, ?_⟩
  rcases h2 with h2 | ⟨g, cap, cur, hv, hg, hh, r⟩
  · exact .inl h2
  · refine .inr ⟨g, cap, cur, hv, hg, ?_, r⟩
    have : g < wr.heap.size := by
      rcases Nat.lt_or_ge g wr.heap.size with h | h
      · exact h
      · rw [Array.getElem?_eq_none h] at hh; exact absurd hh (by simp)
    rw [hb.block g this]; exact hh

theorem one_tok (s : ByteArray) (a : Nat) (w : World) (hs : s.size ≤ 200) (ha : a < s.size) :
    Calls Tryz.prog 131 #[.string s, .int .i64 a] w fun e w' => ∃ (t : Doc.Tok) (n : Nat), Hid (t = Doc.tok s a ∧ n = Doc.tokEnd s a) ∧
      e = .returned (.tuple #[.agg #[.int .u8 t.kind.toNat, .string t.S, .int .i64 t.N, .int .i64 t.at_], .int .i64 (n : Int)]) ∧ Below w.heap.size w w' :=
  (one_any s a w hs ha).mono fun _ _ h => ⟨_, _, ⟨rfl, rfl⟩, h.1, h.2⟩

theorem cells_new (W : World) (xs : List Value) (T : TypeId) (n : Nat) (hn : W.heap.size = n) (j : Nat) (u : Value) (hj : xs[j]? = some u) : (W.alloc (.cells xs.toArray T)).cell? ((⟨n, 0, none⟩ : Addr).add j) = some u := by
  subst hn
  by_cases h : j = 0
  · subst h; simp [Addr.add, hj]
  · simp [Addr.add, h, hj]

theorem tokC_one (t : Doc.Tok) : ∀ u ∈ tokC t, u.oneCell' = true := by
  intro u hu
  simp only [tokC, List.mem_cons, List.not_mem_nil, or_false] at hu
  rcases hu with rfl | rfl | rfl | rfl <;> rfl

theorem toksC_snoc (l : List Doc.Tok) (t : Doc.Tok) : toksC (l ++ [t]) = toksC l ++ tokC t := by simp [toksC]

theorem len_snoc {α : Type} (l : List α) (a : α) : (l ++ [a]).length = l.length + 1 := by simp

set_option maxHeartbeats 1000000 in
theorem tokens_any (s : ByteArray) (w : World) (hs : s.size ≤ 200) :
    Calls Tryz.prog 82 #[.string s] w fun e w' => ∃ v, e = .returned v ∧ w'.ownsRow w.heap.size 175 4 v (Doc.toks s 0).length (toksC (Doc.toks s 0)) ∧ Below w.heap.size w w' := by
  obtain ⟨i0, hi, hz0, hz1, hz2⟩ := info_parts Tryz.infoTok
  have HL : Hid ((Doc.toks s 0).length ≤ s.size + 1) := Doc.toks_len s s.size 0 (Nat.zero_le _) (by omega)
  go_enter Tryz.func82, Tryz.ntmps82
  go_wp2_with fail
  go_loopw [3, 4] (fun v i wr => ∃ (k : Nat) (done : List Doc.Tok), k ≤ s.size ∧ i = .int .i64 k ∧ wr.ownsRow w.heap.size 175 4 v done.length (toksC done) ∧ Below w.heap.size w wr ∧ Hid (Doc.toks s 0 = done ++ Doc.toks s k))
    (fun _ i _ => s.size - (intOf i).toNat)
  case atStart => exact ⟨0, [], Nat.zero_le _, rfl, World.ownsRow_nil _ _ _ _, Below.refl _ _, by show _ = _; rfl⟩
  case round =>
    obtain ⟨k, done, hk, rfl, hown, hbel, H⟩ := hrel
    have hdone : done.length ≤ 201 := by
      have h1 := congrArg List.length H.out
      rw [List.length_append] at h1
      have h2 := HL.out
      omega
    go_wp2_with fail
    go_loop [4] (fun i => ∃ j : Nat, k ≤ j ∧ j ≤ s.size ∧ i = .int .i64 j ∧ Hid (Doc.past s j = Doc.past s k)) (fun i => s.size - (intOf i).toNat)
    case atStart => exact ⟨k, Nat.le_refl _, hk, rfl, by show _ = _; rfl⟩
    case round =>
      obtain ⟨j, hkj, hj, rfl, HJ⟩ := hrel
      by_cases hlt : j < s.size
      · by_cases he : ((s[j].toNat : Int) == 32) = true
        · have HJ2 : Hid (Doc.past s (j + 1) = Doc.past s k) := (past_on s j hlt he).symm.trans HJ.out
          clear HJ
          go_wp2_with fail
          go_round
          case rel => exact ⟨j + 1, by omega, by omega, by go_num, HJ2⟩
          case measure => simp [intOf]; omega
        · have he : ((s[j].toNat : Int) == 32) = false := by simpa using he
          have HP : Hid (Doc.past s k = j) := HJ.out.symm.trans (past_here s j hlt he)
          have hne : ((j : Int) == (s.size : Int)) = false := by rw [beq_eq_false_iff_ne]; omega
          clear HJ
          go_wp2_with (first | (go_at_call 131; refine (one_tok s j _ hs hlt).mono ?_; rintro e w1 ⟨t, n, HT, rfl, hb1⟩) | (at_builtin; refine wpList_append_own _ rfl (.tmp 34) (.tmp 36) 133 rfl w.heap.size 175 i0 _ 4 40 Tryz.underlying133 hi hz0 hz1 hz2 rfl (by decide) _ _ _ rfl (((ownsRow_below hown hb1).alloc _).alloc _) ⟨w1.heap.size + 1, 0, none⟩ 1 1 (tokC t) rfl rfl ?c1 (tokC_one t) ?c3 ?c4 ?c5 ?_))
          case c1 => exact fun j u hj => cells_new _ (tokC t) _ _ (by simp) j u hj
          case c3 => unfold maxLen; omega
          case c4 => omega
          case c5 => have := hbel.size; have := hb1.size; simp; omega
          intro v2 w2 hown2 hgrow2 _
          rw [← toksC_snoc, ← len_snoc done t] at hown2
          have hb0 : Below w.heap.size w w1 := hbel.trans (hb1.mono hbel.size)
          have hs1 : w.heap.size ≤ w1.heap.size := by have := hbel.size; have := hb1.size; omega
          have hb2 : Below w.heap.size w w2 := ((hb0.alloc hs1 _).alloc (by simp; omega) _).grown hgrow2 (by simp; omega) (fun k hk => (hown.lt k hk).1)
          have hcell : w2.cell? ⟨w1.heap.size, 0, none⟩ = some (.int .u8 t.kind.toNat) := hgrow2.cell (by simp) (fun h => by have := (hown.lt w1.heap.size h.symm).2; have := hb1.size; omega)
          clear hgrow2 hown hb0 hb1 hbel
          by_cases hx : t.kind = 120
          · have hx1 : ((t.kind.toNat : Int) == 120) = true := by rw [hx]; rfl
            have HE : Hid (done ++ [t] = Doc.toks s 0) := by
              have h1 := H.out
              have h2 := HT.out
              rw [Doc.toks_wrong hk (by rw [HP.out]; omega) (by rw [HP.out, ← h2.1]; exact hx), HP.out, ← h2.1] at h1
              exact h1.symm
            rw [HE.out] at hown2
            clear hx
            go_wp2_with fail
            go_ret
            exact ⟨_, rfl, hown2, hb2⟩
          · have hx1 : ((t.kind.toNat : Int) == 120) = false := by
              rw [beq_eq_false_iff_ne]; intro h; apply hx; apply UInt8.toNat_inj.1; show _ = 120; omega
            have HE : Hid (Doc.toks s 0 = (done ++ [t]) ++ Doc.toks s n) := by
              have h1 := H.out
              have h2 := HT.out
              rw [Doc.toks_next hk (by rw [HP.out]; omega) (by rw [HP.out, ← h2.1]; exact hx), HP.out, ← h2.1, ← h2.2] at h1
              show _ = _
              rw [h1]; simp
            have hn : j < n ∧ n ≤ s.size := by
              have h2 := HT.out
              rw [h2.2]; exact Doc.tokEnd_lt hlt
            clear hx
            go_wp2_with fail
            go_roundw
            case rel => exact ⟨n, done ++ [t], hn.2, rfl, hown2, hb2, HE⟩
            case measure => simp [intOf]; omega
      · have hjs : j = s.size := by omega
        subst hjs
        have HP : Hid (Doc.past s k = s.size) := HJ.out.symm.trans (past_stop s _ (Nat.le_refl _))
        clear HJ
        go_wp2_with (at_builtin; refine wpList_append_own _ rfl (.tmp 23) (.tmp 26) 133 rfl w.heap.size 175 i0 _ 4 40 Tryz.underlying133 hi hz0 hz1 hz2 rfl (by decide) _ _ _ rfl (hown.alloc _) ⟨wr.heap.size, 0, none⟩ 1 1 (tokC (Doc.endTok s)) rfl rfl ?c1 (tokC_one _) ?c3 ?c4 ?c5 ?_)
        case c1 => exact fun j u hj => hj
        case c3 => unfold maxLen; omega
        case c4 => omega
        case c5 => have := hbel.size; simp; omega
        intro v2 w2 hown2 hgrow2 _
        have HE : Hid (done ++ [Doc.endTok s] = Doc.toks s 0) := by
          have := H.out; rw [Doc.toks_end hk HP.out] at this; exact this.symm
        rw [← toksC_snoc, ← len_snoc done (Doc.endTok s), HE.out] at hown2
        have hb2 : Below w.heap.size w w2 := (hbel.alloc hbel.size _).grown hgrow2 (by have := hbel.size; simp; omega) (fun k hk => (hown.lt k hk).1)
        clear hgrow2 hown
        go_wp2_with fail
        go_ret
        exact ⟨_, rfl, hown2, hb2⟩
end Go.Proofs.YtbnelaoeblhndaaGreatDoor
