/- Walks of the program's writer: list and test. -/
import Derived.Test.YtbnelaoeblhndaaGreatDoorSynWr3
namespace Go.Proofs.YtbnelaoeblhndaaGreatDoor
open Go.RowKit
set_option maxRecDepth 100000

section
variable {B : Nat} {w : World} {wb : Nat} {q : Option Addr} {v : Value} {l : List UInt8} {tight : Bool}

theorem addr_add (g k : Nat) : (⟨g, 0, none⟩ : Addr).add k = ⟨g, k, none⟩ := by
  cases k with
  | zero => simp [Addr.add]
  | succ k => simp [Addr.add]

/-- The cells of a literal in a list. -/
theorem lits_cells {lits : List Doc.Tok} {g n cap m : Nat} (h : w.ownsRow m 230 4 (.slice (some ⟨g, 0, none⟩) n cap) lits.length (litsC lits)) (j : Nat) (hj : j < lits.length) :
    w.cell? ⟨g, j * 4, none⟩ = some (.int .i64 (litK lits[j])) ∧ w.cell? ⟨g, j * 4 + 1, none⟩ = some (.int .i64 lits[j].N) ∧ w.cell? ⟨g, j * 4 + 2, none⟩ = some (.string lits[j].S) ∧ w.cell? ⟨g, j * 4 + 3, none⟩ = some (.int .i64 lits[j].at_) := by
  have key : ∀ (ls : List Doc.Tok) (j : Nat) (hj : j < ls.length) (c : Nat), c < 4 → (litsC ls)[j * 4 + c]? = (litC ls[j])[c]? := by
    intro ls
    induction ls with
    | nil => intro j hj; simp at hj
    | cons a r ih =>
      intro j hj c hc
      cases j with
      | zero =>
        show (litC a ++ litsC r)[0 * 4 + c]? = _
        rw [List.getElem?_append_left (by simp [litC]; omega)]; simp
      | succ j =>
        show (litC a ++ litsC r)[(j + 1) * 4 + c]? = _
        rw [List.getElem?_append_right (by simp [litC]; omega)]
        rw [show (j + 1) * 4 + c - (litC a).length = j * 4 + c by simp [litC]; omega]
        exact ih j (by simpa using hj) c hc
  have hc := h.cells (g := g) rfl
  refine ⟨?_, ?_, ?_, ?_⟩
  · have := hc (j * 4) (.int .i64 (litK lits[j])) (by rw [show j * 4 = j * 4 + 0 from rfl, key lits j hj 0 (by omega)]; rfl)
    rw [addr_add] at this; exact this
  · have := hc (j * 4 + 1) (.int .i64 lits[j].N) (by rw [key lits j hj 1 (by omega)]; rfl)
    rw [addr_add] at this; exact this
  · have := hc (j * 4 + 2) (.string lits[j].S) (by rw [key lits j hj 2 (by omega)]; rfl)
    rw [addr_add] at this; exact this
  · have := hc (j * 4 + 3) (.int .i64 lits[j].at_) (by rw [key lits j hj 3 (by omega)]; rfl)
    rw [addr_add] at this; exact this

def isZ : Nat → Bool | 0 => true | _ + 1 => false

set_option maxHeartbeats 4000000 in
theorem list_any (h : WSt B w wb q v l tight) {lits : List Doc.Tok} (hl : l.length + (Doc.litsText lits).length + 10 ≤ 800000) (hT : Tens w) (hG : 3 < B) (hlits : ∀ t ∈ lits, Doc.LitOk t) (h300 : lits.length ≤ 300)
    {g cap : Nat} (ho : w.ownsRow 0 230 4 (.slice (some ⟨g, 0, none⟩) lits.length cap) lits.length (litsC lits)) (hg : g < B) :
    Calls Tryz.prog 129 #[.pointer (some ⟨wb, 0, none⟩), .slice (some ⟨g, 0, none⟩) lits.length cap] w (Wrote B wb w l (sepB tight ++ (40 :: (Doc.litsText lits ++ [41])))) := by
  have HT : Hid (Tens w) := hT
  have HO : Hid (w.ownsRow 0 230 4 (.slice (some ⟨g, 0, none⟩) lits.length cap) lits.length (litsC lits)) := ho
  have HL : Hid (∀ t ∈ lits, Doc.LitOk t) := hlits
  have hcap : lits.length ≤ cap := by
    obtain ⟨_, h2⟩ := ho
    rcases h2 with ⟨e, _⟩ | ⟨g', cap', cur, e, _, _, hc, _⟩
    · cases e
    · cases e; exact hc
  clear hT ho hlits
  go_enter Tryz.func129, Tryz.ntmps129
  go_wp2_with fail
  refine (token_open h (by omega)).mono ?_
  rintro e w1 ⟨rfl, q1, v1, h1, k1⟩
  go_wp2_with fail
  go_loopw [10] (fun iv wx => ∃ m : Nat, m ≤ lits.length ∧ iv = .int .i64 m ∧ (∃ q' v', WSt B wx wb q' v' (l ++ (sepB tight ++ [40]) ++ Doc.litsText (lits.take m)) (isZ m)) ∧ WM B wb w wx) (fun iv _ => lits.length - (intOf iv).toNat)
  case atStart => exact ⟨0, Nat.zero_le _, rfl, ⟨q1, v1, by simpa [Doc.litsText, isZ] using h1⟩, k1⟩
  case round =>
    obtain ⟨m, hm, rfl, ⟨qx, vx, hx⟩, kx⟩ := hrel
    clear h1 k1
    have hlen := Doc.litsText_take lits m
    have hsl : (sepB tight).length ≤ 1 := by cases tight <;> simp [sepB]
    by_cases hm2 : m < lits.length
    · have hok := HL.out lits[m] (List.getElem_mem hm2)
      obtain ⟨r0, r1, r2, r3⟩ := lits_cells (own_kept HO.out (fun k o hk hb => (kx.below.block k (by cases hk; exact hg)).trans hb)) m hm2
      obtain ⟨t, HQ⟩ : ∃ t, Hid (t = lits[m]) := ⟨lits[m], rfl⟩
      rw [← HQ.out] at hok r0 r1 r2 r3
      have hgl := kx.below.size
      have hgx : g < wr.heap.size := by have := h.Ble; omega
      have hwbx := hx.lt
      have hbx := hx.Ble
      have HTx : Hid (Tens wr) := HT.out.below kx.below hG
      obtain ⟨X, HX⟩ : ∃ X : ByteArray, Hid (X = ⟨(Doc.litText t).toArray⟩) := ⟨⟨(Doc.litText t).toArray⟩, rfl⟩
      have hXw : Doc.Wide X := by rw [HX.out]; exact litText_wide t hok
      have HXt : Hid (X.data.toList = Doc.litText t) := by show _ = _; rw [HX.out]
      rcases Nat.eq_zero_or_pos m with h0 | h0
      · subst h0
        go_wp2_with fail
        refine (lit_any t hok _ (HTx.out.below ((Below.refl _ _).alloc hbx _) hG) (by simp; omega)).mono ?_
        rw [← HX.out]
        rintro e w2 ⟨rfl, hb2⟩
        go_wp2_with fail
        refine (token_wide ((hx.alloc _).below hb2) (by simp [Doc.litsText]; omega) X hXw).mono ?_
        rintro e w3 ⟨rfl, ⟨q3, v3, h3⟩, k3⟩
        go_wp2_with fail
        go_roundw
        case rel =>
          refine ⟨0 + 1, by omega, by go_num, ⟨q3, v3, ?_⟩, ((kx.alloc hbx _).trans (WM.ofBelow hb2 (hx.alloc _).Ble)).trans k3⟩
          have e1 : Doc.litsText (lits.take (0 + 1)) = Doc.litText t := by
            rw [HQ.out]
            cases lits with
            | nil => simp at hm2
            | cons a r => simp [Doc.litsText]
          rw [HXt.out] at h3
          rw [e1]
          simpa [isZ, sepB, Doc.litsText] using h3
        case measure => simp [intOf]; omega
      · have e1 : Hid (Doc.litsText (lits.take (m + 1)) = Doc.litsText (lits.take m) ++ [44, 32] ++ Doc.litText t) := by
          show _ = _
          rw [HQ.out, ← Doc.litsText_snoc _ (by intro e; have := congrArg List.length e; rw [List.length_take, List.length_nil] at this; omega), List.take_append_getElem hm2]
        have e2 : isZ m = false := by cases m with | zero => omega | succ m => rfl
        rw [e2] at hx
        go_wp2_with fail
        refine (token_tail (hx.alloc _) (by simp; omega) 44 (.inr rfl)).mono ?_
        rintro e w2 ⟨rfl, ⟨q2, v2, h2⟩, k2⟩
        have b2 := k2.blk (heap_alloc_new wr _) (by decide) (by omega)
        obtain ⟨d0, d1, d2, d3⟩ := fo_cells b2
        have hb2x := h2.Ble
        go_wp2_with fail
        refine (lit_any t hok _ (HTx.out.below (((Below.refl _ _).alloc hbx _).trans k2.below) hG) (by omega)).mono ?_
        rw [← HX.out]
        rintro e w3 ⟨rfl, hb3⟩
        go_wp2_with fail
        refine (token_wide (h2.below hb3) (by simp; omega) X hXw).mono ?_
        rintro e w4 ⟨rfl, ⟨q4, v4, h4⟩, k4⟩
        go_wp2_with fail
        go_roundw
        case rel =>
          refine ⟨m + 1, by omega, by go_num, ⟨q4, v4, ?_⟩, (((kx.alloc hbx _).trans k2).trans (WM.ofBelow hb3 hb2x)).trans k4⟩
          rw [HXt.out] at h4
          rw [e1.out]
          simpa [isZ, sepB] using h4
        case measure => simp [intOf]; omega
    · obtain rfl : m = lits.length := by omega
      rw [List.take_length] at hx
      go_wp2_with fail
      refine (token_tail hx (by simp; omega) 41 (.inl rfl)).mono ?_
      rintro e w2 ⟨rfl, ⟨q2, v2, h2⟩, k2⟩
      go_wp2_with fail
      go_end0
      exact ⟨rfl, ⟨q2, v2, by simpa using h2⟩, kx.trans k2⟩

theorem own_slice_ne {lits : List Doc.Tok} {lv : Value} {m : Nat} (h : w.ownsRow m 230 4 lv lits.length (litsC lits)) (hne : lits ≠ []) : ∃ g cap, lv = .slice (some ⟨g, 0, none⟩) lits.length cap := by
  obtain ⟨_, h2⟩ := h
  rcases h2 with ⟨_, hz⟩ | ⟨g, cap, cur, hv, _⟩
  · exact absurd (List.eq_nil_of_length_eq_zero hz) hne
  · exact ⟨g, cap, hv⟩

theorem test_plain {n o : Doc.Tok} {lits : List Doc.Tok} : Doc.plain (.test n o lits) = n.S.data.toList ++ [32] ++ o.S.data.toList ++ [32] ++ (if o.S.toList == Doc.wIs then Doc.wNull else if o.S.toList == Doc.wIn then 40 :: (Doc.litsText lits ++ [41]) else Doc.litsText lits) := rfl

set_option maxHeartbeats 4000000 in
theorem wtest_any (h : WSt B w wb q v l tight) {n o : Doc.Tok} {lits : List Doc.Tok} (hq : Doc.TestOk n o lits) (hl : l.length + (Doc.plain (.test n o lits)).length + 10 ≤ 800000) (hT : Tens w) (hG : 3 < B)
    {lv : Value} (ho : w.ownsRow 0 230 4 lv lits.length (litsC lits)) (hg : ∀ k, lv.ownBlock = some k → k < B) :
    Calls Tryz.prog 81 #[.pointer (some ⟨wb, 0, none⟩), .agg #[.int .i64 3, .slice none 0 0, .string n.S, .int .i64 n.at_, .string o.S, .int .i64 o.at_, lv]] w (Wrote B wb w l (sepB tight ++ Doc.plain (.test n o lits))) := by
  have HT : Hid (Tens w) := hT
  have HO : Hid (w.ownsRow 0 230 4 lv lits.length (litsC lits)) := ho
  have hlt := h.lt
  have hb0 := h.Ble
  have hsl : (sepB tight).length ≤ 1 := by cases tight <;> simp [sepB]
  have hsf : (sepB false).length = 1 := rfl
  have hlen := hl
  rw [test_plain] at hlen
  rcases hq.which with ⟨k1, k2, k3⟩ | ⟨k1, k2, k3⟩ | ⟨k1, k2, tt, k3⟩
  · obtain ⟨g, cap, rfl⟩ := own_slice_ne ho k3
    have hgB := hg g rfl
    have HP : Hid (Doc.plain (.test n o lits) = n.S.data.toList ++ [32] ++ o.S.data.toList ++ [32] ++ (40 :: (Doc.litsText lits ++ [41]))) := by show _ = _; rw [test_plain, if_neg (by rw [k2]; simp), if_pos k1]
    have k1' : (o.S.toList == [105, 110]) = true := k1
    rw [if_neg (by rw [k2]; simp), if_pos k1] at hlen
    simp only [List.length_append, List.length_cons, List.length_nil] at hlen
    clear hT ho hg k1 k2 k3 hl
    go_enter Tryz.func81, Tryz.ntmps81
    go_wp2_with fail
    refine (token_wide (h.alloc _) (by omega) n.S hq.name).mono ?_
    rintro e w1 ⟨rfl, ⟨q1, v1, h1⟩, c1⟩
    have b1 := c1.blk (heap_alloc_new w _) (by decide) (by omega)
    obtain ⟨d0, d1, d2, d3, d4, d5, d6⟩ := fv_cells b1
    go_wp2_with fail
    refine (token_wide h1 (by simp only [List.length_append]; omega) o.S hq.ask).mono ?_
    rintro e w2 ⟨rfl, ⟨q2, v2, h2⟩, c2⟩
    have b2 := c2.blk b1 (by decide) (by omega)
    obtain ⟨e0, e1, e2, e3, e4, e5, e6⟩ := fv_cells b2
    have kk : WM B wb w w2 := (((WM.refl B wb w).alloc hb0 _).trans c1).trans c2
    go_wp2_with fail
    refine (list_any h2 (by simp only [List.length_append]; omega) (HT.out.below kk.below hG) hG hq.lits hq.len (own_kept HO.out (fun k x hk hb => (kk.below.block k (by cases hk; exact hgB)).trans hb)) hgB).mono ?_
    rintro e w3 ⟨rfl, ⟨q3, v3, h3⟩, c3⟩
    go_wp2_with fail
    go_end0
    rw [HP.out]
    exact ⟨rfl, ⟨q3, v3, by simpa [sepB] using h3⟩, kk.trans c3⟩
  · obtain rfl := k3
    obtain ⟨lb, lk, lc, rfl⟩ := own_sl ho
    have HP : Hid (Doc.plain (.test n o []) = n.S.data.toList ++ [32] ++ o.S.data.toList ++ [32] ++ [110, 117, 108, 108]) := by show _ = _; rw [test_plain, if_pos k2]; rfl
    have k1' : (o.S.toList == [105, 110]) = false := k1
    have k2' : (o.S.toList == [105, 115]) = true := k2
    rw [if_pos k2] at hlen
    simp only [List.length_append, List.length_cons, List.length_nil] at hlen
    clear hT ho hg k1 k2 hl
    go_enter Tryz.func81, Tryz.ntmps81
    go_wp2_with fail
    refine (token_wide (h.alloc _) (by omega) n.S hq.name).mono ?_
    rintro e w1 ⟨rfl, ⟨q1, v1, h1⟩, c1⟩
    have b1 := c1.blk (heap_alloc_new w _) (by decide) (by omega)
    obtain ⟨d0, d1, d2, d3, d4, d5, d6⟩ := fv_cells b1
    go_wp2_with fail
    refine (token_wide h1 (by simp only [List.length_append]; omega) o.S hq.ask).mono ?_
    rintro e w2 ⟨rfl, ⟨q2, v2, h2⟩, c2⟩
    have b2 := c2.blk b1 (by decide) (by omega)
    obtain ⟨e0, e1, e2, e3, e4, e5, e6⟩ := fv_cells b2
    have kk : WM B wb w w2 := (((WM.refl B wb w).alloc hb0 _).trans c1).trans c2
    go_wp2_with fail
    refine (token_wide h2 (by simp only [List.length_append]; omega) ⟨#[110, 117, 108, 108]⟩ (wide_list (l := [110, 117, 108, 108]) rfl (by decide) (by decide) (by decide) (by decide))).mono ?_
    rintro e w3 ⟨rfl, ⟨q3, v3, h3⟩, c3⟩
    go_wp2_with fail
    go_end0
    rw [HP.out]
    exact ⟨rfl, ⟨q3, v3, by simpa [sepB] using h3⟩, kk.trans c3⟩
  · obtain rfl := k3
    obtain ⟨g, cap, rfl⟩ := own_slice_ne ho (by simp)
    have hgB := hg g rfl
    have hok := hq.lits tt (by simp)
    have HP : Hid (Doc.plain (.test n o [tt]) = n.S.data.toList ++ [32] ++ o.S.data.toList ++ [32] ++ Doc.litText tt) := by show _ = _; rw [test_plain, if_neg (by rw [k2]; simp), if_neg (by rw [k1]; simp)]; rfl
    have k1' : (o.S.toList == [105, 110]) = false := k1
    have k2' : (o.S.toList == [105, 115]) = false := k2
    have hcap : 1 ≤ cap := by
      obtain ⟨_, h2⟩ := ho
      rcases h2 with ⟨e, _⟩ | ⟨g', cap', cur, e, _, _, hc, _⟩
      · cases e
      · cases e; exact hc
    rw [if_neg (by rw [k2]; simp), if_neg (by rw [k1]; simp)] at hlen
    simp only [List.length_append, List.length_cons, List.length_nil, Doc.litsText] at hlen
    have hlen1 : [tt].length = 1 := rfl
    obtain ⟨X, HX⟩ : ∃ X : ByteArray, Hid (X = ⟨(Doc.litText tt).toArray⟩) := ⟨⟨(Doc.litText tt).toArray⟩, rfl⟩
    have hXw : Doc.Wide X := by rw [HX.out]; exact litText_wide tt hok
    have HXt : Hid (X.data.toList = Doc.litText tt) := by show _ = _; rw [HX.out]
    clear hT ho hg k1 k2 hl
    go_enter Tryz.func81, Tryz.ntmps81
    go_wp2_with fail
    refine (token_wide (h.alloc _) (by omega) n.S hq.name).mono ?_
    rintro e w1 ⟨rfl, ⟨q1, v1, h1⟩, c1⟩
    have b1 := c1.blk (heap_alloc_new w _) (by decide) (by omega)
    obtain ⟨d0, d1, d2, d3, d4, d5, d6⟩ := fv_cells b1
    go_wp2_with fail
    refine (token_wide h1 (by simp only [List.length_append]; omega) o.S hq.ask).mono ?_
    rintro e w2 ⟨rfl, ⟨q2, v2, h2⟩, c2⟩
    have b2 := c2.blk b1 (by decide) (by omega)
    obtain ⟨e0, e1, e2, e3, e4, e5, e6⟩ := fv_cells b2
    have kk : WM B wb w w2 := (((WM.refl B wb w).alloc hb0 _).trans c1).trans c2
    have hb2 := h2.Ble
    obtain ⟨r0, r1, r2, r3⟩ := lits_cells (own_kept HO.out (fun k x hk hb => (kk.below.block k (by cases hk; exact hgB)).trans hb)) 0 (by simp)
    simp only [List.getElem_cons_zero, Nat.zero_mul, Nat.zero_add] at r0 r1 r2 r3
    go_wp2_with fail
    refine (lit_any tt hok _ (HT.out.below kk.below hG) (by omega)).mono ?_
    rw [← HX.out]
    rintro e w3 ⟨rfl, hb3⟩
    go_wp2_with fail
    refine (token_wide (h2.below hb3) (by simp only [List.length_append]; omega) X hXw).mono ?_
    rintro e w4 ⟨rfl, ⟨q4, v4, h4⟩, c4⟩
    go_wp2_with fail
    go_end0
    rw [HP.out]
    rw [HXt.out] at h4
    exact ⟨rfl, ⟨q4, v4, by simpa [sepB] using h4⟩, (kk.trans (WM.ofBelow hb3 hb2)).trans c4⟩
end
end Go.Proofs.YtbnelaoeblhndaaGreatDoor
