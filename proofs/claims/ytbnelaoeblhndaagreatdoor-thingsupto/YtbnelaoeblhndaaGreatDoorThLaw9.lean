/- The walk of more where a store is made; more whole. -/
import Derived.Test.YtbnelaoeblhndaaGreatDoorThLaw8
namespace Go.Proofs.YtbnelaoeblhndaaGreatDoor
open Go.RowKit
set_option maxRecDepth 100000

section
variable {w : World}
set_option maxHeartbeats 4000000 in
theorem more_ok (fs : List Doc.Fld) (space : Int) (hfl : fs.length ≤ 1000000000) (Fv : Value) (hF : In w Fv fs.length (fldsC fs)) (wb : Nat) (ps : List Pr) (hpl : ps.length ≤ 1000000000) (lv nsv knv vsv kvv hsv khv : Value) (hw : w.heap[wb]? = some (worldO lv nsv knv vsv kvv hsv khv)) (hlv : w.ownsRow 0 140 2 lv ps.length (prsC ps))
    (hX : ∀ W sv, Below w.heap.size w W → Sl W sv fs.length (fldsC fs) → Calls Tryz.prog 39 #[sv, .int .i64 space] W (PNew fs space 0 W))
    (hY : ∀ W, Below w.heap.size w W → Calls Tryz.prog 89 #[Fv, .int .i64 space] W (RNew fs space 0 W)) :
    Calls Tryz.prog 54 #[.pointer (some ⟨wb, 0, none⟩), Fv, .int .i64 space] w fun e w' => e = .returned (.bool true) ∧ ∃ W1 W2 W3 xb yb lv', Below w.heap.size w W1 ∧ Below W1.heap.size W1 W2 ∧ ProgSt W2 (fun k => W1.heap.size ≤ k) xb fs space noneT ∧ Below W2.heap.size W2 W3 ∧ RefSt W3 (fun k => W2.heap.size ≤ k) yb fs space [] ∧
      w'.heap[wb]? = some (worldO lv' nsv knv vsv kvv hsv khv) ∧ w'.ownsRow 0 140 2 lv' (ps.length + 1) (prsC ps ++ prC ⟨xb, yb, fs, space, []⟩) ∧ (∀ k, lv'.ownBlock = some k → lv.ownBlock = some k ∨ W3.heap.size ≤ k) ∧ Md (fun k => k = wb ∨ lv.ownBlock = some k ∨ k = w.heap.size) W3 w' ∧ w.heap.size < W1.heap.size := by
  obtain ⟨Fb, Fc, e1⟩ := hF.sl.slice
  subst e1
  obtain ⟨Lb, Lc, e2⟩ := row_slice hlv
  subst e2
  obtain ⟨i0, hi, hz0, hz1, hz2⟩ := info_parts Tryz.infoPr
  have HLA : Hid _ := lentF_any fs hfl _ hF
  have HX : Hid _ := hX
  have HY : Hid _ := hY
  have HIF : Hid _ := hF
  have HW : Hid _ := hw
  have HLV : Hid _ := hlv
  clear hX hY hF hw hlv
  go_enter Tryz.func54, Tryz.ntmps54
  go_wp2_with fail
  refine Calls.mono HLA.out ?_
  rintro e w1 hl1
  obtain ⟨b1, c1, rfl, g1, o1, s1, hb1⟩ := hl1.sl
  have HB1 : Hid _ := hb1
  have HG1 : Hid _ := g1
  have HCX : Hid _ := HX.out w1 _ hb1 s1
  clear hl1 g1 o1 s1 hb1 HLA
  go_wp2_with fail
  refine Calls.mono HCX.out ?_
  rintro e w2 ⟨hb2, he⟩
  obtain ⟨xb, rfl, hp2⟩ : ∃ xb, e = .returned (.tuple #[.pointer (some ⟨xb, 0, none⟩), .int .i64 0]) ∧ ProgSt w2 (fun k => w1.heap.size ≤ k) xb fs space noneT := by
    rcases he with ⟨h, _⟩ | ⟨_, h⟩
    · exact absurd rfl h
    · exact h
  have HP2 : Hid _ := hp2
  have HB12 : Hid _ := hb2
  have HB2 : Hid _ := Below.callB HB1.out (Nat.le_refl _) hb2
  have HG2 : Hid _ := (hb2.block w.heap.size (lt_block HG1.out)).trans HG1.out
  have HCY : Hid _ := HY.out w2 HB2.out
  clear he hb2 HCX hp2
  go_wp2_with fail
  refine Calls.mono HCY.out ?_
  rintro e w3 ⟨hb3, he⟩
  obtain ⟨yb, rfl, hr3⟩ : ∃ yb, e = .returned (.tuple #[.pointer (some ⟨yb, 0, none⟩), .int .i64 0]) ∧ RefSt w3 (fun k => w2.heap.size ≤ k) yb fs space [] := by
    rcases he with ⟨h, _⟩ | ⟨_, h⟩
    · exact absurd rfl h
    · exact h
  have HR3 : Hid _ := hr3
  have HB23 : Hid _ := hb3
  have HB3 : Hid _ := Below.callB HB2.out (Nat.le_refl _) hb3
  have HG3 : Hid _ := (hb3.block w.heap.size (lt_block HG2.out)).trans HG2.out
  have HST : Hid _ := stillF_any fs hfl _ (HIF.out.sl.below HB3.out) w.heap.size HG3.out
  clear he hb3 HCY hr3
  go_wp2_with fail
  refine Calls.mono HST.out ?_
  rintro e w4 ⟨rfl, hd4⟩
  have HD4 : Hid _ := hd4
  have hn4 : ∀ k, k < w.heap.size → w4.heap[k]? = w.heap[k]? := fun k hk => (hd4.only k (by have := HB3.out.size; omega) (by omega)).trans (HB3.out.block k hk)
  have hw4 : w4.heap[wb]? = some (worldO (.slice Lb ps.length Lc) nsv knv vsv kvv hsv khv) := (hn4 wb (lt_block HW.out)).trans HW.out
  have HW4 : Hid _ := hw4
  have d0 : w4.cell? ⟨wb, 0, none⟩ = some (.slice Lb ps.length Lc) := blk_cell hw4 0 _ rfl
  have HLV4 : Hid _ := rowKept (w' := w4) HLV.out (fun k _ ek ho => (hn4 k (ownLt HLV.out ek)).trans ho)
  have hwl4 := lt_block hw4
  clear hd4 HST hn4 hw4
  go_wp2_with fail
  refine (num_any' 0 w4).mono ?_
  rintro e w4' ⟨rfl, hw4⟩
  subst hw4
  go_wp2_with (at_builtin; refine wpList_append_or _ rfl _ _ 76 rfl 0 140 i0 _ 2 16 Tryz.underlying76 hi hz0 hz1 hz2 rfl (by decide) _ _ _ rfl (row_below HLV4.out ((Below.refl _ _).alloc (Nat.le_refl _) _)) ⟨w4'.heap.size, 0, none⟩ 1 1 [.pointer (some ⟨xb, 0, none⟩), .pointer (some ⟨yb, 0, none⟩)] rfl (by decide) rfl ?c1 ?c2 ?c3 ?c4 ?c5 ?_)
  case c1 => exact cells_new_at _ [.pointer (some ⟨xb, 0, none⟩), .pointer (some ⟨yb, 0, none⟩)] _ _ (by simp)
  case c2 => intro u hu; simp only [List.mem_cons, List.not_mem_nil, or_false] at hu; rcases hu with rfl | rfl <;> rfl
  case c3 => unfold maxLen; omega
  case c4 => omega
  case c5 => omega
  intro g5 p5 w5 own5 or5
  obtain ⟨D5, E5⟩ := orMd (n := ps.length) (by simp) or5
  have hw5 : w5.heap[wb]? = some (worldO (.slice Lb ps.length Lc) nsv knv vsv kvv hsv khv) := by
    rw [D5.only wb (by simp; omega) (fun e => ?_), Below.heap_alloc _ _ _ hwl4]
    · exact HW4.out
    · obtain ⟨_, cs', t⟩ := own_type HLV4.out e
      rw [HW4.out] at t; cases t
  have d5 := blk_cell hw5 0 _ rfl
  have f5 := blk_free hw5 0
  have hwl5 := lt_block hw5
  have HW5 : Hid _ := hw5
  have HO5 : Hid _ := own5
  have HD5 : Hid _ := D5
  have HE5 : Hid _ := E5
  clear own5 or5 D5 E5 hw5 d0
  go_wp2_with fail
  go_ret
  have s3 := HB3.out.size
  have s4 := HD4.out.size
  refine ⟨rfl, w1, w2, w3, xb, yb, .slice (some ⟨g5, 0, none⟩) (ps.length + 1) p5, HB1.out, HB12.out, HP2.out, HB23.out, HR3.out, set_blk' HW5.out 0 _, rowKept HO5.out (fun k _ ek ho => ?_), fun k ek => ?_, ?_, lt_block HG1.out⟩
  · obtain ⟨_, cs', t⟩ := own_type HO5.out ek
    rw [Below.heap_setCell _ _ _ _ (by rintro rfl; rw [HW5.out] at t; cases t)]; exact ho
  · obtain rfl : g5 = k := by cases ek; rfl
    rcases HE5.out with h | h
    · exact .inl h
    · exact .inr (by simp at h; omega)
  · exact (((HD4.out.mono (fun k hk => .inr (.inr hk))).alloc _).trans (HD5.out.mono (fun k hk => .inr (.inl hk)))).set _ (.inl (.inl rfl))
end

section
variable {B : Nat} {w : World} {own : Nat → Nat} {wb : Nat} {ps : List Pr} {lv nsv knv vsv kvv : Value} {rows : List Value} {marks : List Int} {vrows : List Value} {vmarks : List Int}

theorem law_same (hA : LawAt B w own wb ps lv nsv knv vsv kvv rows marks vrows vmarks) {w' : World} (hd : Md (fun k => w.heap.size ≤ k) w w') : LawAt B w' (fun k => if k < w.heap.size then own k else 0) wb ps lv nsv knv vsv kvv rows marks vrows vmarks := by
  have ho : ∀ k, k < w.heap.size → (fun k => if k < w.heap.size then own k else 0) k = own k := fun k hk => by simp [hk]
  have kc : ∀ c k, Cl B w.heap.size own c k → k < w.heap.size → w'.heap[k]? = w.heap[k]? := fun c k _ hk => hd.only k hk (by omega)
  have mv : ∀ c k, Cl B w.heap.size own c k → k < w.heap.size → Cl B w'.heap.size (fun k => if k < w.heap.size then own k else 0) c k := fun c k h _ => h.mono hd.size ho
  refine ⟨(kc 0 wb hA.wbc hA.wbc.2.1).trans hA.blk, hA.wbc.mono hd.size ho, rowKept hA.prs (fun k _ ek ho' => (kc 0 k (hA.prc k ek) (ownLt hA.prs ek)).trans ho'), fun k e => (hA.prc k e).mono hd.size ho, hA.bkn.kept (kc 1) (mv 1), hA.bkv.kept (kc 2) (mv 2), fun j hj => ?_⟩
  obtain ⟨h1, h2, h3⟩ := hA.sts j hj
  exact ⟨h1.kept (kc _) (mv _), h2.kept' (kc _) (mv _), h3⟩

theorem hasOf_nil : hasOf [] = noneT := rfl

theorem more_any (hB : B ≤ w.heap.size) (hA : LawAt B w own wb ps lv nsv knv vsv kvv rows marks vrows vmarks) (hpl : ps.length ≤ 1000000000) (hsg : Signs w) (hg0 : 1 < w.heap.size) (fs : List Doc.Fld) (space : Int) (hnm : ∀ j (h : j < fs.length), fs[j].name.size ≤ 140737488351232) (hfl : fs.length ≤ 1000000000) (Fv : Value) (hF : In w Fv fs.length (fldsC fs)) :
    Calls Tryz.prog 54 #[.pointer (some ⟨wb, 0, none⟩), Fv, .int .i64 space] w fun e w' => e = .returned (.bool true) ∧ Below B w w' ∧ ∃ own' ps' lv', ps.length ≤ ps'.length ∧ ps'.length ≤ ps.length + 1 ∧ (Doc.newOK fs space → ps'.length = ps.length + 1) ∧ LawAt B w' own' wb ps' lv' nsv knv vsv kvv rows marks vrows vmarks := by
  obtain ⟨E, hOK, hX, hY⟩ := new_both fs space hnm
  by_cases hE : E = 0
  · subst hE
    refine (more_ok fs space hfl Fv hF wb ps hpl lv nsv knv vsv kvv _ _ hA.blk hA.prs (fun W sv hW hs => hX W sv (hsg.below hW hg0) (Nat.lt_of_lt_of_le hg0 hW.size) hs) (fun W hW => hY W Fv (hF.sl.below hW))).mono ?_
    rintro e w' ⟨rfl, W1, W2, W3, xb, yb, lv', h1, h2, p2, h3, r3, hw', hl', hlb, hd, hlt⟩
    have s1 := h1.size
    have s2 := h2.size
    have s3 := h3.size
    have s4 := hd.size
    obtain ⟨wb1, wb2, wb3⟩ := hA.wbc
    have hlold : ∀ k, lv.ownBlock = some k → k < w.heap.size ∧ own k = 0 ∧ B ≤ k := fun k e => ⟨(hA.prc k e).2.1, (hA.prc k e).2.2, (hA.prc k e).1⟩
    have old3 : ∀ k, k < w.heap.size → W3.heap[k]? = w.heap[k]? := fun k hk => (h3.block k (by omega)).trans ((h2.block k (by omega)).trans (h1.block k hk))
    have keep : ∀ k, k < W3.heap.size → k ≠ wb → lv.ownBlock ≠ some k → k ≠ w.heap.size → w'.heap[k]? = W3.heap[k]? := fun k hk a b c => hd.only k hk (by rintro (h | h | h); exact a h; exact b h; exact c h)
    have old : ∀ k, k < w.heap.size → own k ≠ 0 → w'.heap[k]? = w.heap[k]? := fun k hk h0 => (keep k (by omega) (by rintro rfl; exact h0 wb3) (fun e => h0 (hlold k e).2.1) (by omega)).trans (old3 k hk)
    refine ⟨rfl, ⟨hd.below.os.trans (h3.os.trans (h2.os.trans h1.os)), hd.below.tape.trans (h3.tape.trans (h2.tape.trans h1.tape)), hd.below.output.trans (h3.output.trans (h2.output.trans h1.output)), by omega, fun k hk => (keep k (by omega) (by omega) (fun e => by have := (hlold k e).2.2; omega) (by omega)).trans (old3 k (by omega))⟩, ?_⟩
    obtain ⟨own', ho, ho2, ho3, ho4⟩ : ∃ own' : Nat → Nat, (∀ k, k < w.heap.size → own' k = own k) ∧ (∀ k, W1.heap.size ≤ k → k < W2.heap.size → own' k = 2 * ps.length + 3) ∧ (∀ k, W2.heap.size ≤ k → k < W3.heap.size → own' k = 2 * ps.length + 4) ∧ (∀ k, W3.heap.size ≤ k → own' k = 0) := by
      refine ⟨fun k => if k < w.heap.size then own k else if k < W1.heap.size then 0 else if k < W2.heap.size then 2 * ps.length + 3 else if k < W3.heap.size then 2 * ps.length + 4 else 0, fun k hk => by simp [hk], fun k a b => ?_, fun k a b => ?_, fun k a => ?_⟩
      · simp [show ¬ k < w.heap.size by omega, show ¬ k < W1.heap.size by omega, b]
      · simp [show ¬ k < w.heap.size by omega, show ¬ k < W1.heap.size by omega, show ¬ k < W2.heap.size by omega, b]
      · simp [show ¬ k < w.heap.size by omega, show ¬ k < W1.heap.size by omega, show ¬ k < W2.heap.size by omega, show ¬ k < W3.heap.size by omega]
    have hN : w.heap.size ≤ w'.heap.size := by omega
    have kc : ∀ c, c ≠ 0 → ∀ k, Cl B w.heap.size own c k → k < w.heap.size → w'.heap[k]? = w.heap[k]? := fun c hc k h hk => old k hk (by rw [h.2.2]; exact hc)
    have mv : ∀ c k, Cl B w.heap.size own c k → k < w.heap.size → Cl B w'.heap.size own' c k := fun c k h _ => h.mono hN ho
    refine ⟨own', ps ++ [⟨xb, yb, fs, space, []⟩], lv', by simp, by simp, fun _ => by simp, ⟨hw', hA.wbc.mono hN ho, ?_, fun k e => ?_, hA.bkn.kept (kc 1 (by omega)) (mv 1), hA.bkv.kept (kc 2 (by omega)) (mv 2), fun j hj => ?_⟩⟩
    · rw [List.length_append, show prsC (ps ++ [⟨xb, yb, fs, space, []⟩]) = prsC ps ++ prC ⟨xb, yb, fs, space, []⟩ by simp [prsC]]
      exact hl'
    · rcases hlb k e with h | h
      · exact (hA.prc k h).mono hN ho
      · exact ⟨by omega, ownLt hl' e, ho4 k h⟩
    · by_cases hj' : j < ps.length
      · rw [List.getElem_append_left hj']
        obtain ⟨a1, a2, a3⟩ := hA.sts j hj'
        exact ⟨a1.kept (kc _ (by omega)) (mv _), a2.kept' (kc _ (by omega)) (mv _), a3⟩
      · have hje : j = ps.length := by simp at hj; omega
        subst hje
        rw [List.getElem_append_right (Nat.le_refl _)]
        simp only [Nat.sub_self, List.getElem_cons_zero]
        refine ⟨?_, r3.kept' (fun k h hk => keep k hk (by omega) (fun e => by have := (hlold k e).1; omega) (by omega)) (fun k h hk => ⟨by omega, by omega, ho3 k h hk⟩), List.Pairwise.nil⟩
        rw [hasOf_nil]
        exact p2.kept (fun k h hk => (keep k (by omega) (by omega) (fun e => by have := (hlold k e).1; omega) (by omega)).trans (h3.block k hk)) (fun k h hk => ⟨by omega, by omega, ho2 k h hk⟩)
  · refine (more_bad fs space E hE hfl Fv hF wb (fun W sv hW hs => hX W sv (hsg.below hW hg0) (Nat.lt_of_lt_of_le hg0 hW.size) hs) (fun W hW => hY W Fv (hF.sl.below hW))).mono ?_
    rintro e w' ⟨rfl, hd⟩
    refine ⟨rfl, ⟨hd.below.os, hd.below.tape, hd.below.output, hd.size, fun k hk => hd.only k (by omega) (by omega)⟩, _, ps, lv, Nat.le_refl _, by omega, fun h => absurd (hOK h) hE, law_same hA hd⟩
end
end Go.Proofs.YtbnelaoeblhndaaGreatDoor
