/- The walk of the program's literal; the table that Itoa reads. -/
import Derived.Test.YtbnelaoeblhndaaGreatDoorSynWr2
import Derived.Test.YtbnelaoeblhndaaGreatDoorShelf
import Derived.Lib.AppendIntMem
namespace Go.Proofs.YtbnelaoeblhndaaGreatDoor
open Go.RowKit
set_option maxRecDepth 100000

theorem digitsF_eq : ∀ (f n : Nat), n < 10 ^ (f + 1) → Doc.digitsF f n = Lib.decDigits n := by
  intro f
  induction f with
  | zero =>
    intro n hn
    have hn : n < 10 := by simpa using hn
    rw [Lib.decDigits_one hn]
    unfold Doc.digitsF
    rw [Nat.mod_eq_of_lt hn]
  | succ f ih =>
    intro n hn
    unfold Doc.digitsF
    rw [Lib.decDigits]
    by_cases h : n < 10
    · rw [if_pos h, dif_pos h]
    · rw [if_neg h, dif_neg h, ih]
      rw [Nat.div_lt_iff_lt_mul (by decide)]
      rw [Nat.pow_succ] at hn
      exact hn

theorem decimal_eq (n : Int) (h1 : -9999999 ≤ n) (h2 : n ≤ 9999999) : Lib.itoa n = Doc.decimal n := by
  unfold Lib.itoa Doc.decimal
  rw [digitsF_eq 7 n.natAbs (by omega)]
  by_cases h : n < 0
  · rw [if_pos h, if_pos h]
  · rw [if_neg h, if_neg h, show n.toNat = n.natAbs by omega]

/-- The table of tens lies as the program's text lays it. -/
def Tens (w : World) : Prop := Lib.TabIs Tryz.prog w "internal/strconv.uint64pow10" .u64 Lib.pow10Tab

theorem tens_at : Tryz.prog.globalNamed "internal/strconv.uint64pow10" = some 3 := by kernel_rfl

theorem Tens.below {B : Nat} {w w' : World} (h : Tens w) (hb : Below B w w') (hB : 3 < B) : Tens w' := by
  unfold Tens Lib.TabIs World.var? at h ⊢
  rw [tens_at] at h ⊢
  simp only [Option.bind_some] at h ⊢
  rw [hb.block _ hB]
  exact h

theorem digit_ne (k : Nat) (hk : k < 10) (c : UInt8) (hc : c < 48) : UInt8.ofNat (48 + k) ≠ c := by
  rintro rfl
  have h2 : (UInt8.ofNat (48 + k)).toNat = 48 + k := by rw [UInt8.toNat_ofNat']; omega
  have h3 : (UInt8.ofNat (48 + k)).toNat < (48 : UInt8).toNat := hc
  rw [h2] at h3
  have h4 : (48 : UInt8).toNat = 48 := rfl
  omega

theorem digitsF_head : ∀ (f n : Nat), ∃ c r, Doc.digitsF f n = c :: r ∧ ∀ d : UInt8, d < 48 → c ≠ d := by
  intro f
  induction f with
  | zero => intro n; exact ⟨_, _, rfl, fun d hd => digit_ne _ (Nat.mod_lt _ (by decide)) d hd⟩
  | succ f ih =>
    intro n
    unfold Doc.digitsF
    by_cases h : n < 10
    · rw [if_pos h]; exact ⟨_, _, rfl, fun d hd => digit_ne _ h d hd⟩
    · rw [if_neg h]
      obtain ⟨c, r, e, hc⟩ := ih (n / 10)
      rw [e]; exact ⟨_, _, rfl, hc⟩

theorem wide_list {l : List UInt8} {c : UInt8} {r : List UInt8} (e : l = c :: r) (hl : l.length ≤ 300) (h1 : c ≠ 41) (h2 : c ≠ 44) (h3 : c ≠ 40) : Doc.Wide ⟨l.toArray⟩ := by
  have ht : (⟨l.toArray⟩ : ByteArray).toList = c :: r := by rw [ByteArray.toList_eq]; exact e
  refine ⟨?_, ?_, ?_, ?_, ?_⟩
  · show 0 < l.toArray.size; rw [e]; simp
  · show l.toArray.size ≤ 300; simpa using hl
  · rw [ht]; simp [h1]
  · rw [ht]; simp [h2]
  · rw [ht]; simp [h3]

theorem litText_wide (t : Doc.Tok) (h : Doc.LitOk t) : Doc.Wide ⟨(Doc.litText t).toArray⟩ := by
  rcases h.k with k | k
  · have e2 : Doc.litText t = 34 :: (t.S.data.toList ++ [34]) := by unfold Doc.litText; rw [k]; rfl
    refine wide_list e2 ?_ (by decide) (by decide) (by decide)
    have := h.sz
    have h3 := Doc.ba_len t.S
    rw [e2]; simp only [List.length_cons, List.length_append, List.length_nil]; omega
  · have e2 : Doc.litText t = Doc.decimal t.N := by unfold Doc.litText; rw [k]; rfl
    have hd := Doc.digitsF_length 7 t.N.natAbs
    by_cases hn : t.N < 0
    · have e3 : Doc.litText t = 45 :: Doc.digitsF 7 t.N.natAbs := by rw [e2]; unfold Doc.decimal; rw [if_pos hn]
      refine wide_list e3 ?_ (by decide) (by decide) (by decide)
      rw [e3]; simp only [List.length_cons]; omega
    · have e3 : Doc.litText t = Doc.digitsF 7 t.N.natAbs := by rw [e2]; unfold Doc.decimal; rw [if_neg hn]
      obtain ⟨c, r, e, hc⟩ := digitsF_head 7 t.N.natAbs
      refine wide_list (e3.trans e) ?_ (hc 41 (by decide)) (hc 44 (by decide)) (hc 40 (by decide))
      rw [e3]; omega

set_option maxHeartbeats 1000000 in
theorem lit_any (t : Doc.Tok) (h : Doc.LitOk t) (w : World) (hT : Tens w) (hG : 3 < w.heap.size) :
    Calls Tryz.prog 130 #[.agg #[.int .i64 (litK t), .int .i64 t.N, .string t.S]] w fun e w' => e = .returned (.string ⟨(Doc.litText t).toArray⟩) ∧ Below w.heap.size w w' := by
  have HT : Hid (Tens w) := hT
  clear hT
  rcases h.k with k | k
  · have e1 : litK t = 2 := by unfold litK; rw [k]; rfl
    have e2 : Doc.litText t = 34 :: (t.S.data.toList ++ [34]) := by unfold Doc.litText; rw [k]; rfl
    rw [e1, e2]
    clear k e1 e2
    have hsz := h.sz
    go_enter Tryz.func130, Tryz.ntmps130
    go_wp2_with fail
    go_ret
    refine ⟨?_, (Below.refl _ _).alloc (Nat.le_refl _) _⟩
    have hb : (⟨#[34]⟩ ++ t.S) ++ ⟨#[34]⟩ = (⟨(34 :: (t.S.data.toList ++ [34])).toArray⟩ : ByteArray) := by
      apply ByteArray.ext
      apply Array.ext'
      simp [ByteArray.data_append]
    rw [← hb]
    rfl
  · have e1 : litK t = 1 := by unfold litK; rw [k]; rfl
    have e2 : Doc.litText t = Doc.decimal t.N := by unfold Doc.litText; rw [k]; rfl
    rw [e1, e2]
    clear k e1 e2
    have hn := decimal_eq t.N h.lo h.hi
    have h1 := h.lo
    have h2 := h.hi
    go_enter Tryz.func130, Tryz.ntmps130
    go_wp2_with fail
    refine (Tryz.strconv_Itoa t.N (by omega) (by omega) _ (HT.out.below (B := w.heap.size) ((Below.refl _ _).alloc (Nat.le_refl _) _) hG)).mono ?_
    rintro e w1 ⟨rfl, k, os, rfl⟩
    go_wp2_with fail
    go_ret
    exact ⟨rfl, ((Below.refl _ w).alloc (Nat.le_refl _) _).trans ((Lib.below_grow w.heap.size _ (by simp) k os))⟩
end Go.Proofs.YtbnelaoeblhndaaGreatDoor
