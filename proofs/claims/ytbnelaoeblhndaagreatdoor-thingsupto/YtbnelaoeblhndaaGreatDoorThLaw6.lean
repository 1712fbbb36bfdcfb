/- The statement's puts. -/
import Derived.Test.YtbnelaoeblhndaaGreatDoorThLaw5
namespace Go.Proofs.YtbnelaoeblhndaaGreatDoor
open Go.RowKit
set_option maxRecDepth 100000

/-- A list that is handed in: nil, or somewhere. -/
structure In (w : World) (sv : Value) (n : Nat) (cs : List Value) : Prop where
  sl : Sl w sv n cs
  form : sv = .slice none 0 0 ∨ ∃ a c, sv = .slice (some a) n c

theorem In.below {w w' : World} {sv : Value} {n : Nat} {cs : List Value} (h : In w sv n cs) (hb : Below w.heap.size w w') : In w' sv n cs := ⟨h.sl.below hb, h.form⟩
/-- A list stays where its block does. -/
theorem Sl.own {w w' : World} {sv : Value} {n : Nat} {cs : List Value} (h : Sl w sv n cs) (hs : w.heap.size ≤ w'.heap.size) (hk : 0 < n → ∀ k, sv.ownBlock = some k → k < w.heap.size → w'.heap[k]? = w.heap[k]?) : Sl w' sv n cs := by
  rcases h.has with h | ⟨h0, b, off, cap, rfl, hc, hl, hr⟩
  · exact ⟨.inl h⟩
  · have hb := hk h0 b rfl hl
    exact ⟨.inr ⟨h0, b, off, cap, rfl, hc, Nat.lt_of_lt_of_le hl hs, fun j u hj => by have := hr j u hj; simp only [World.cell?, hb] at this ⊢; exact this⟩⟩
theorem In.own {w w' : World} {sv : Value} {n : Nat} {cs : List Value} (h : In w sv n cs) (hs : w.heap.size ≤ w'.heap.size) (hk : 0 < n → ∀ k, sv.ownBlock = some k → k < w.heap.size → w'.heap[k]? = w.heap[k]?) : In w' sv n cs := ⟨h.sl.own hs hk, h.form⟩

section
variable {w : World}
theorem lent_any (l : List Int) (hl : l.length ≤ 1000000000) (sv : Value) (h : In w sv l.length (intC l)) :
    Calls Tryz.prog 91 #[sv] w (Lent w 3 (intC l) l.length [.int .i64 77, .int .i64 78]) := by
  rcases h.form with rfl | ⟨a, c, rfl⟩
  · rcases h.sl.has with ⟨h0, _⟩ | ⟨_, b, off, cap, e, _⟩
    · obtain rfl := List.eq_nil_of_length_eq_zero h0
      exact lent_nil
    · cases e
  · rcases h.sl.has with ⟨h0, _⟩ | ⟨_, b, off, cap, e, _, hlt, hr⟩
    · obtain rfl := List.eq_nil_of_length_eq_zero h0
      exact lent_core [] (by simp) a c (fun j u hj => by simp [intC] at hj) (fun h => absurd rfl h)
    · simp only [Value.slice.injEq, Option.some.injEq] at e
      obtain ⟨rfl, _, rfl⟩ := e
      exact lent_core l (by omega) _ c (fun j u hj => by rw [addr_add2]; exact hr j u hj) (fun _ => hlt)
theorem lentV_any (l : List Doc.Val) (hl : l.length ≤ 1000000000) (sv : Value) (h : In w sv l.length (valsC l)) :
    Calls Tryz.prog 92 #[sv] w (Lent w 94 (valsC l) l.length (zV 77 ++ zV 78)) := by
  rcases h.form with rfl | ⟨a, c, rfl⟩
  · rcases h.sl.has with ⟨h0, _⟩ | ⟨_, b, off, cap, e, _⟩
    · obtain rfl := List.eq_nil_of_length_eq_zero h0
      exact lentV_nil
    · cases e
  · rcases h.sl.has with ⟨h0, _⟩ | ⟨_, b, off, cap, e, _, hlt, hr⟩
    · obtain rfl := List.eq_nil_of_length_eq_zero h0
      exact lentV_core [] (by simp) a c (fun j u hj => by simp [valsC] at hj) (fun h => absurd rfl h)
    · simp only [Value.slice.injEq, Option.some.injEq] at e
      obtain ⟨rfl, _, rfl⟩ := e
      exact lentV_core l (by omega) _ c (fun j u hj => by rw [addr_add2]; exact hr j u hj) (fun _ => hlt)
theorem lentF_any (l : List Doc.Fld) (hl : l.length ≤ 1000000000) (sv : Value) (h : In w sv l.length (fldsC l)) :
    Calls Tryz.prog 88 #[sv] w (Lent w 92 (fldsC l) l.length (zF 77 ++ zF 78)) := by
  rcases h.form with rfl | ⟨a, c, rfl⟩
  · rcases h.sl.has with ⟨h0, _⟩ | ⟨_, b, off, cap, e, _⟩
    · obtain rfl := List.eq_nil_of_length_eq_zero h0
      exact lentF_nil
    · cases e
  · rcases h.sl.has with ⟨h0, _⟩ | ⟨_, b, off, cap, e, _, hlt, hr⟩
    · obtain rfl := List.eq_nil_of_length_eq_zero h0
      exact lentF_core [] (by simp) a c (fun j u hj => by simp [fldsC] at hj) (fun h => absurd rfl h)
    · simp only [Value.slice.injEq, Option.some.injEq] at e
      obtain ⟨rfl, _, rfl⟩ := e
      exact lentF_core l (by omega) _ c (fun j u hj => by rw [addr_add2]; exact hr j u hj) (fun _ => hlt)

/-- What was lent reads as it did. -/
theorem Lent.sl {w : World} {T : TypeId} {cs : List Value} {n : Nat} {tail : List Value} {e : Ending} {w' : World} (h : Lent w T cs n tail e w') :
    ∃ b c, e = .returned (.tuple #[.slice (some ⟨w.heap.size, 0, none⟩) (n + 2) (n + 2), .slice b n c]) ∧ w'.heap[w.heap.size]? = some (.cells (cs ++ tail).toArray T (0, 0)) ∧ (∀ k, (Value.slice b n c).ownBlock = some k → k = w.heap.size) ∧ Sl w' (.slice b n c) n cs ∧ Below w.heap.size w w' := by
  obtain ⟨sv, rfl, h1, h2, h3⟩ := h.has
  rcases h2 with ⟨rfl, rfl⟩ | rfl
  · exact ⟨none, 0, rfl, h1, fun k e => (by cases e), ⟨.inl ⟨rfl, _, _, rfl⟩⟩, h3⟩
  · refine ⟨some ⟨w.heap.size, 0, none⟩, n + 2, rfl, h1, fun k e => (by cases e; rfl), ?_, h3⟩
    by_cases h0 : n = 0
    · subst h0; exact ⟨.inl ⟨rfl, _, _, rfl⟩⟩
    · refine ⟨.inr ⟨by omega, w.heap.size, 0, n + 2, rfl, by omega, lt_block h1, fun j u hj => ?_⟩⟩
      rw [Nat.zero_add]
      exact blkl_cell h1 j u (by rw [List.getElem?_append_left (List.getElem?_eq_some_iff.1 hj).1]; exact hj)

set_option maxHeartbeats 4000000 in
theorem puts_walk {FX FY : Nat → Prop} (xb yb : Nat) (fs : List Doc.Fld) (space id : Int) (th' : Has) (ts' : List Doc.Thg) (E : Int) (wb : Nat) (s0 s1 : Int) (s2 : ByteArray) (Fb : Option Addr) (Fn Fc : Nat)
    (spot : List Int) (vals : List Doc.Val) (hsl : spot.length ≤ 1000000000) (hvl : vals.length ≤ 1000000000) (Lv Vv : Value) (hL : In w Lv spot.length (intC spot)) (hV : In w Vv vals.length (valsC vals))
    (hX : ∀ W sv vv, Below w.heap.size w W → Sl W sv spot.length (intC spot) → Sl W vv vals.length (valsC vals) → Calls Tryz.prog 28 #[.pointer (some ⟨xb, 0, none⟩), .int .i64 id, sv, vv] W (PTurn fs space xb th' E W FX))
    (hY : ∀ W0 W, Below w.heap.size w W0 → Md FX W0 W → Calls Tryz.prog 93 #[.pointer (some ⟨yb, 0, none⟩), .int .i64 id, Lv, Vv] W (RTurn fs space yb ts' E W FY))
    (hLf : 0 < spot.length → ∀ k, Lv.ownBlock = some k → k < w.heap.size ∧ ¬ FX k ∧ ¬ FY k) (hVf : 0 < vals.length → ∀ k, Vv.ownBlock = some k → k < w.heap.size ∧ ¬ FX k ∧ ¬ FY k) (hFX : ∀ k, FX k → k < w.heap.size) (hFY : ∀ k, FY k → k < w.heap.size) :
    Calls Tryz.prog 56 #[.pointer (some ⟨wb, 0, none⟩), .agg #[.pointer (some ⟨xb, 0, none⟩), .pointer (some ⟨yb, 0, none⟩)], .agg #[.int .i64 s0, .int .i64 s1, .int .i64 id, .string s2, .slice Fb Fn Fc, Lv, Vv]] w fun e w' => e = .returned (.bool true) ∧ ∃ W2 W3 W4, Below w.heap.size w W2 ∧ (∃ e3, PTurn fs space xb th' E W2 FX e3 W3) ∧ (∃ e4, RTurn fs space yb ts' E W3 FY e4 W4) ∧ Md (fun k => w.heap.size ≤ k ∧ k < W2.heap.size) W4 w' := by
  obtain ⟨Lb, Lc, e1⟩ := hL.sl.slice
  obtain ⟨Vb, Vc, e2⟩ := hV.sl.slice
  subst e1 e2
  obtain ⟨W0, HW0⟩ : ∃ W0, Hid (W0 = (w.alloc (.cells #[.pointer (some ⟨xb, 0, none⟩), .pointer (some ⟨yb, 0, none⟩)] 140)).alloc (.cells #[.int .i64 s0, .int .i64 s1, .int .i64 id, .string s2, .slice Fb Fn Fc, .slice Lb spot.length Lc, .slice Vb vals.length Vc] 87)) := ⟨_, rfl⟩
  have hb0 : Below w.heap.size w W0 := by rw [HW0.out]; exact ((Below.refl _ _).alloc (Nat.le_refl _) _).alloc (by simp) _
  have qp : W0.heap[w.heap.size]? = some (.cells #[.pointer (some ⟨xb, 0, none⟩), .pointer (some ⟨yb, 0, none⟩)] 140 (0, 0)) := by rw [HW0.out]; exact heap_alloc2_old w _ _
  have qs : W0.heap[w.heap.size + 1]? = some (.cells #[.int .i64 s0, .int .i64 s1, .int .i64 id, .string s2, .slice Fb Fn Fc, .slice Lb spot.length Lc, .slice Vb vals.length Vc] 87 (0, 0)) := by rw [HW0.out]; exact heap_alloc2_new w _ _
  have hz0 : W0.heap.size = w.heap.size + 2 := by rw [HW0.out]; simp
  have c5 : W0.cell? ⟨w.heap.size + 1, 5, none⟩ = some (.slice Lb spot.length Lc) := blk_cell qs 5 _ rfl
  have HLA : Hid _ := lent_any spot hsl _ (hL.below hb0)
  have HX : Hid _ := hX
  have HY : Hid _ := hY
  have HB0 : Hid _ := hb0
  have HIL : Hid _ := hL
  have HIV : Hid _ := hV
  have HLF : Hid _ := hLf
  have HVF : Hid _ := hVf
  have QP : Hid _ := qp
  have QS : Hid _ := qs
  have HZ0 : Hid _ := hz0
  clear hX hY hL hV hLf hVf qp qs hb0 hz0
  go_enter Tryz.func56, Tryz.ntmps56
  go_wp2_with fail
  rw [← HW0.out]
  refine Calls.mono HLA.out ?_
  rintro e w1 hl1
  obtain ⟨b1, c1, rfl, g1, o1, s1', hb1⟩ := hl1.sl
  have HB1 : Hid _ := Below.callB HB0.out (Nat.le_refl _) hb1
  have HS1 : Hid _ := s1'
  have HG1 : Hid _ := g1
  have HO1 : Hid _ := o1
  have QP1 : Hid _ := (hb1.block w.heap.size (by rw [HZ0.out]; omega)).trans QP.out
  have QS1 : Hid _ := (hb1.block (w.heap.size + 1) (by rw [HZ0.out]; omega)).trans QS.out
  have c6 : w1.cell? ⟨w.heap.size + 1, 6, none⟩ = some (.slice Vb vals.length Vc) := blk_cell QS1.out 6 _ rfl
  have HLV : Hid _ := lentV_any vals hvl _ (HIV.out.below HB1.out)
  have hz1 := hb1.size
  have HZ1 : Hid _ := hz1
  clear hl1 s1' g1 o1 hb1 c5 HLA hz1
  go_wp2_with fail
  refine Calls.mono HLV.out ?_
  rintro e w2 hl2
  obtain ⟨b2, c2, rfl, g2, o2, s2', hb2⟩ := hl2.sl
  have HB2 : Hid _ := Below.callB HB1.out (Nat.le_refl _) hb2
  have HS2 : Hid _ := s2'
  have HS1' : Hid _ := HS1.out.below hb2
  have HG2 : Hid _ := g2
  have HG1' : Hid _ := (hb2.block W0.heap.size (lt_block HG1.out)).trans HG1.out
  have hz2 := hb2.size
  have HZ2 : Hid _ := hz2
  have QP2 : Hid _ := (hb2.block w.heap.size (lt_block QP1.out)).trans QP1.out
  have QS2 : Hid _ := (hb2.block (w.heap.size + 1) (lt_block QS1.out)).trans QS1.out
  have d0 : w2.cell? ⟨w.heap.size, 0, none⟩ = some (.pointer (some ⟨xb, 0, none⟩)) := blk_cell QP2.out 0 _ rfl
  have d2 : w2.cell? ⟨w.heap.size + 1, 2, none⟩ = some (.int .i64 id) := blk_cell QS2.out 2 _ rfl
  have HCX : Hid _ := HX.out w2 _ _ HB2.out HS1'.out HS2.out
  clear hl2 s2' g2 o2 hb2 c6 HLV hz2
  go_wp2_with fail
  refine Calls.mono HCX.out ?_
  rintro e w3 ⟨rfl, hp3, hd3⟩
  have HP3 : Hid _ := hp3
  have HD3 : Hid _ := hd3
  have hz2w : w.heap.size + 4 ≤ w2.heap.size := by
    have a0 := HZ0.out
    have a1 := lt_block HG1.out
    have a2 := lt_block HG2.out
    omega
  have hn3 : ∀ k, w.heap.size ≤ k → k < w2.heap.size → w3.heap[k]? = w2.heap[k]? := fun k h1 h2 => hd3.only k h2 (fun h => by have := hFX k h; omega)
  have QP3 : Hid _ := (hn3 w.heap.size (by omega) (by omega)).trans QP2.out
  have QS3 : Hid _ := (hn3 (w.heap.size + 1) (by omega) (by omega)).trans QS2.out
  have hz3 := hd3.size
  have HG1'' : Hid _ := (hn3 W0.heap.size (by rw [HZ0.out]; omega) (lt_block HG1'.out)).trans HG1'.out
  have HG2' : Hid _ := (hn3 w1.heap.size (by have := HZ1.out; have := HZ0.out; omega) (lt_block HG2.out)).trans HG2.out
  have e1' : w3.cell? ⟨w.heap.size, 1, none⟩ = some (.pointer (some ⟨yb, 0, none⟩)) := blk_cell QP3.out 1 _ rfl
  have e2 : w3.cell? ⟨w.heap.size + 1, 2, none⟩ = some (.int .i64 id) := blk_cell QS3.out 2 _ rfl
  have e5 : w3.cell? ⟨w.heap.size + 1, 5, none⟩ = some (.slice Lb spot.length Lc) := blk_cell QS3.out 5 _ rfl
  have e6 : w3.cell? ⟨w.heap.size + 1, 6, none⟩ = some (.slice Vb vals.length Vc) := blk_cell QS3.out 6 _ rfl
  have HCY : Hid _ := HY.out w2 w3 HB2.out hd3
  clear hp3 hd3 d0 d2 HCX hn3
  go_wp2_with fail
  refine Calls.mono HCY.out ?_
  rintro e w4 ⟨rfl, hr4, hd4⟩
  have HR4 : Hid _ := hr4
  have HD4 : Hid _ := hd4
  have hz4 := hd4.size
  have hn4 : ∀ k, w.heap.size ≤ k → k < w3.heap.size → w4.heap[k]? = w3.heap[k]? := fun k h1 h2 => hd4.only k h2 (fun h => by have := hFY k h; omega)
  have QS4 : Hid _ := (hn4 (w.heap.size + 1) (by omega) (by omega)).trans QS3.out
  have HG14 : Hid _ := (hn4 W0.heap.size (by rw [HZ0.out]; omega) (lt_block HG1''.out)).trans HG1''.out
  have HG24 : Hid _ := (hn4 w1.heap.size (by have := HZ1.out; have := HZ0.out; omega) (lt_block HG2'.out)).trans HG2'.out
  have e7 : w4.cell? ⟨w.heap.size + 1, 5, none⟩ = some (.slice Lb spot.length Lc) := blk_cell QS4.out 5 _ rfl
  have arg : ∀ {sv : Value} {n : Nat} {cs : List Value}, Sl w sv n cs → (0 < n → ∀ k, sv.ownBlock = some k → k < w.heap.size ∧ ¬ FX k ∧ ¬ FY k) → Sl w4 sv n cs := fun {sv n cs} hs hf => hs.own (by have := HB2.out.size; omega) (fun h0 k ek hk => by
    obtain ⟨h1, h2, h3⟩ := hf h0 k ek
    have := HB2.out.size
    rw [HD4.out.only k (by omega) h3, HD3.out.only k (by omega) h2, HB2.out.block k hk])
  have HSL4 : Hid _ := arg HIL.out.sl HLF.out
  have HSV4 : Hid _ := arg HIV.out.sl HVF.out
  have HST : Hid _ := still_any spot (by omega) _ HSL4.out W0.heap.size HG14.out
  clear hr4 hd4 e1' e2 e5 e6 HCY hn4 arg
  go_wp2_with fail
  refine Calls.mono HST.out ?_
  rintro e w5 ⟨rfl, hd5⟩
  have HD5 : Hid _ := hd5
  have hz5 := hd5.size
  have hn5 : ∀ k, k ≠ W0.heap.size → k < w4.heap.size → w5.heap[k]? = w4.heap[k]? := fun k h1 h2 => hd5.only k h2 h1
  have QS5 : Hid _ := (hn5 (w.heap.size + 1) (by rw [HZ0.out]; omega) (lt_block QS4.out)).trans QS4.out
  have HG25 : Hid _ := (hn5 w1.heap.size (by have := lt_block HG1.out; omega) (lt_block HG24.out)).trans HG24.out
  have e8 : w5.cell? ⟨w.heap.size + 1, 6, none⟩ = some (.slice Vb vals.length Vc) := blk_cell QS5.out 6 _ rfl
  have HSV5 : Hid _ := HSV4.out.own (w' := w5) hz5 (fun h0 k ek hk => hn5 k (by have := (HVF.out h0 k ek).1; have := HZ0.out; omega) hk)
  have HSTV : Hid _ := stillV_any vals (by omega) _ HSV5.out w1.heap.size HG25.out
  clear hd5 e7 HST hn5
  go_wp2_with fail
  refine Calls.mono HSTV.out ?_
  rintro e w6 ⟨rfl, hd6⟩
  have HD6 : Hid _ := hd6
  clear hd6 e8 HSTV
  go_wp2_with fail
  refine (num_any' E w6).mono ?_
  rintro e w6' ⟨rfl, hw6⟩
  subst hw6
  go_wp2_with fail
  go_ret
  have hw1l := lt_block HG1'.out
  refine ⟨by simp, w2, w3, w4, HB2.out, ⟨_, rfl, HP3.out, HD3.out⟩, ⟨_, rfl, HR4.out, HD4.out⟩, (HD5.out.mono (fun k hk => ?_)).trans (HD6.out.mono (fun k hk => ?_))⟩
  · have := HZ0.out; subst hk; exact ⟨by omega, hw1l⟩
  · have := HZ0.out; have := HZ1.out; subst hk; exact ⟨by omega, lt_block HG2.out⟩
end
end Go.Proofs.YtbnelaoeblhndaaGreatDoor
