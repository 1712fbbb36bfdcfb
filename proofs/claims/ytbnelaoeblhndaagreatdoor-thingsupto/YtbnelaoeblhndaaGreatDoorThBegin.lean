/- The statement's begins. -/
import Derived.Test.YtbnelaoeblhndaaGreatDoorThStep
namespace Go.Proofs.YtbnelaoeblhndaaGreatDoor
open Go.RowKit
set_option maxRecDepth 100000

theorem in_nil (w : World) : In w (.slice none 0 0) 0 [] := ⟨⟨.inl ⟨rfl, _, _, rfl⟩⟩, .inl rfl⟩
theorem in_blk {w : World} {b n c : Nat} {cs : List Value} {T : TypeId} (h : w.heap[b]? = some (.cells cs.toArray T (0, 0))) (hn : 0 < n) (hc : n ≤ c) : In w (.slice (some ⟨b, 0, none⟩) n c) n cs :=
  ⟨⟨.inr ⟨hn, b, 0, c, rfl, hc, lt_block h, fun j u hj => by rw [Nat.zero_add]; exact blkl_cell h j u hj⟩⟩, .inr ⟨_, _, rfl⟩⟩

section
variable {B : Nat} {w : World} {wb n g : Nat}

/-- A Put of lists that were made just now. -/
theorem step_made (hB : B ≤ w.heap.size) (hS : LawSt B w wb n g) (hn : 0 < n) (hn2 : n ≤ 1000) (hg : g ≤ 1000) (hL : Laid w) (a : Int) (ha1 : 0 ≤ a) (ha2 : a ≤ 1000) (p0 p1 : Int) (v0 v1 : Doc.Val) :
    Calls Tryz.prog 37 #[.pointer (some ⟨wb, 0, none⟩), .agg #[.int .i64 3, .int .i64 0, .int .i64 a, .string ⟨#[]⟩, .slice none 0 0, .slice (some ⟨w.heap.size, 0, none⟩) 2 2, .slice (some ⟨w.heap.size + 1, 0, none⟩) 2 2]] ((w.alloc (.cells #[.int .i64 p0, .int .i64 p1] 3)).alloc (.cells #[.int .i64 v0.k, .int .i64 v0.n, .string v0.s, .int .i64 v1.k, .int .i64 v1.n, .string v1.s] 94)) fun e w' => e = .returned (.bool true) ∧ Below B w w' ∧ ∃ n' g', n ≤ n' ∧ n' ≤ n + 1 ∧ g ≤ g' ∧ g' ≤ g + 1 ∧ LawSt B w' wb n' g' := by
  obtain ⟨own, ps, lv, nsv, knv, vsv, kvv, rows, marks, vrows, vmarks, hA, rfl, h1, h2⟩ := hS
  have hb : Below w.heap.size w ((w.alloc (.cells #[.int .i64 p0, .int .i64 p1] 3)).alloc (.cells #[.int .i64 v0.k, .int .i64 v0.n, .string v0.s, .int .i64 v1.k, .int .i64 v1.n, .string v1.s] 94)) := ((Below.refl _ _).alloc (Nat.le_refl _) _).alloc (by simp) _
  refine (step_any (Nat.le_trans hB hb.size) (law_below hA hb) h1 h2 (by omega) hn (by omega) (hL.below hb) 3 0 a (by decide) (by decide) (by decide) (by omega) (by omega) ⟨#[]⟩ [] (.slice none 0 0) (fun j h => by simp at h) (by simp) (in_nil _)
    [p0, p1] _ (by simp) (in_blk (cs := intC [p0, p1]) (heap_alloc2_old w _ _) (by simp) (by simp)) (fun _ k e => ?_) [v0, v1] _ (by simp) (in_blk (cs := valsC [v0, v1]) (heap_alloc2_new w _ _) (by simp) (by simp)) (fun _ k e => ?_)).mono ?_
  · cases e; exact ⟨by simp only [World.size_alloc]; omega, .inr (by simp)⟩
  · cases e; exact ⟨by simp only [World.size_alloc]; omega, .inr (by simp; intro h; omega)⟩
  · rintro e w' ⟨rfl, hb', h⟩
    exact ⟨rfl, (hb.mono hB).trans hb', h⟩

theorem step_get (hB : B ≤ w.heap.size) (hS : LawSt B w wb n g) (hn : 0 < n) (hn2 : n ≤ 100000000) (hg : g ≤ 200000000) (hL : Laid w) (e a : Int) (he1 : 0 ≤ e) (he2 : e ≤ 9223372036854775807) (ha1 : 0 ≤ a) (ha2 : a ≤ 1000) :
    Calls Tryz.prog 37 #[.pointer (some ⟨wb, 0, none⟩), .agg #[.int .i64 5, .int .i64 e, .int .i64 a, .string ⟨#[]⟩, .slice none 0 0, .slice none 0 0, .slice none 0 0]] w fun r w' => r = .returned (.bool true) ∧ Below B w w' ∧ ∃ n' g', n ≤ n' ∧ n' ≤ n + 1 ∧ g ≤ g' ∧ g' ≤ g + 1 ∧ LawSt B w' wb n' g' := by
  obtain ⟨own, ps, lv, nsv, knv, vsv, kvv, rows, marks, vrows, vmarks, hA, rfl, h1, h2⟩ := hS
  exact step_any hB hA h1 h2 hg hn hn2 hL 5 e a (by decide) (by omega) he2 (by omega) (by omega) ⟨#[]⟩ [] (.slice none 0 0) (fun j h => by simp at h) (by simp) (in_nil _) [] _ (by simp) (in_nil _) (fun _ k e => by cases e) [] _ (by simp) (in_nil _) (fun _ k e => by cases e)

theorem first_ok : Doc.newOK [⟨⟨#[110]⟩, 1⟩, ⟨⟨#[115]⟩, 2⟩] 2 := by
  refine ⟨by simp [Doc.newArg], fun j h => ?_, fun j h => ?_⟩
  · rcases (show j = 0 ∨ j = 1 by simp at h; omega) with rfl | rfl <;> rfl
  · rcases (show j = 0 ∨ j = 1 by simp at h; omega) with rfl | rfl <;> kernel_rfl

theorem Laid.belowB {w w' : World} {B : Nat} (h : Laid w) (hb : Below B w w') (h1 : 1 < B) (h2 : 3 < B) : Laid w' :=
  ⟨h.sg.below hb h1, h.tens.below hb h2, Nat.lt_of_lt_of_le h.g1 hb.size, Nat.lt_of_lt_of_le h.g2 hb.size⟩

set_option maxHeartbeats 4000000 in
theorem begins_any (hB : B ≤ w.heap.size) (hS : LawSt B w wb 0 0) (hL : Laid w) (hg1 : 1 < B) (hg2 : 3 < B) :
    Calls Tryz.prog 36 #[.pointer (some ⟨wb, 0, none⟩)] w fun e w' => e = .returned (.bool true) ∧ Below B w w' ∧ ∃ n' g', 0 < n' ∧ n' ≤ 10 ∧ g' ≤ 10 ∧ LawSt B w' wb n' g' := by
  obtain ⟨own, ps, lv, nsv, knv, vsv, kvv, rows, marks, vrows, vmarks, hA, hp0, h1, h2⟩ := hS
  have hb0 : Below w.heap.size w (w.alloc (.cells #[.string ⟨#[110]⟩, .int .i64 1, .string ⟨#[115]⟩, .int .i64 2] 92)) := (Below.refl _ _).alloc (Nat.le_refl _) _
  have hL0 := hL.below hb0
  have HM : Hid _ := more_any (Nat.le_trans hB hb0.size) (law_below hA hb0) (by omega) hL0.sg hL0.g1 [⟨⟨#[110]⟩, 1⟩, ⟨⟨#[115]⟩, 2⟩] 2 (fun j h => by rcases (show j = 0 ∨ j = 1 by simp at h; omega) with rfl | rfl <;> simp [ByteArray.size]) (by simp) (.slice (some ⟨w.heap.size, 0, none⟩) 2 2) (in_blk (cs := fldsC [⟨⟨#[110]⟩, 1⟩, ⟨⟨#[115]⟩, 2⟩]) (heap_alloc_new w _) (by decide) (by decide))
  have HB0 : Hid _ := hb0
  have HL : Hid _ := hL
  clear hA hL hb0 hL0
  go_enter Tryz.func36, Tryz.ntmps36
  go_wp2_with fail
  refine Calls.mono HM.out ?_
  rintro e w1 ⟨rfl, hb1, own1, ps1, lv1, q1, q2, q3, hA1⟩
  have hp1 : ps1.length = 1 := by have := q3 first_ok; omega
  obtain ⟨b1, c1, e1⟩ := row_slice hA1.prs
  subst e1
  have d0 : w1.cell? ⟨wb, 0, none⟩ = some (.slice b1 1 c1) := by rw [← hp1]; exact blk_cell hA1.blk 0 _ rfl
  have HB1 : Hid (Below B w w1) := (HB0.out.mono hB).trans hb1
  have HS1 : Hid (LawSt B w1 wb 1 0) := ⟨own1, ps1, _, nsv, knv, vsv, kvv, rows, marks, vrows, vmarks, hA1, hp1, h1, h2⟩
  have HL1 : Hid (Laid w1) := HL.out.belowB HB1.out hg1 hg2
  have hs1 : B ≤ w1.heap.size := Nat.le_trans hB HB1.out.size
  have HC1 : Hid _ := step_made hs1 HS1.out (by decide) (by decide) (by decide) HL1.out 1 (by decide) (by decide) 0 0 ⟨1, 5, ⟨#[]⟩⟩ ⟨2, 0, ⟨#[97, 98]⟩⟩
  clear hA1 hp1 q1 q2 q3 hb1 HM hp0 h1 h2
  go_wp2_with fail
  refine Calls.mono HC1.out ?_
  rintro e w2 ⟨rfl, hb2, n2, g2, a1, a2, a3, a4, hS2⟩
  have HB2 : Hid (Below B w w2) := HB1.out.trans hb2
  have HS2 : Hid _ := hS2
  have HL2 : Hid (Laid w2) := HL.out.belowB HB2.out hg1 hg2
  have hs2 : B ≤ w2.heap.size := Nat.le_trans hB HB2.out.size
  have HC2 : Hid _ := step_made hs2 HS2.out (by omega) (by omega) (by omega) HL2.out 2 (by decide) (by decide) 3 4 ⟨0, 0, ⟨#[]⟩⟩ ⟨2, 0, ⟨#[98]⟩⟩
  clear hb2 hS2 HC1 d0
  go_wp2_with fail
  refine Calls.mono HC2.out ?_
  rintro e w3 ⟨rfl, hb3, n3, g3, a5, a6, a7, a8, hS3⟩
  have HB3 : Hid (Below B w w3) := HB2.out.trans hb3
  have HS3 : Hid _ := hS3
  have HL3 : Hid (Laid w3) := HL.out.belowB HB3.out hg1 hg2
  have hs3 : B ≤ w3.heap.size := Nat.le_trans hB HB3.out.size
  have HC3 : Hid _ := step_made hs3 HS3.out (by omega) (by omega) (by omega) HL3.out 3 (by decide) (by decide) 0 0 ⟨1, -5, ⟨#[]⟩⟩ ⟨0, 0, ⟨#[]⟩⟩
  clear hb3 hS3 HC2
  go_wp2_with fail
  refine Calls.mono HC3.out ?_
  rintro e w4 ⟨rfl, hb4, n4, g4, a9, a10, a11, a12, hS4⟩
  have HB4 : Hid (Below B w w4) := HB3.out.trans hb4
  have HS4 : Hid _ := hS4
  have HL4 : Hid (Laid w4) := HL.out.belowB HB4.out hg1 hg2
  have hs4 : B ≤ w4.heap.size := Nat.le_trans hB HB4.out.size
  have HC4 : Hid _ := step_get hs4 HS4.out (by omega) (by omega) (by omega) HL4.out 0 2 (by decide) (by decide) (by decide) (by decide)
  clear hb4 hS4 HC3
  go_wp2_with fail
  refine Calls.mono HC4.out ?_
  rintro e w5 ⟨rfl, hb5, n5, g5, a13, a14, a15, a16, hS5⟩
  have HS5 : Hid _ := hS5
  have HB5 : Hid (Below B w w5) := HB4.out.trans hb5
  clear hS5 hb5 HC4
  go_wp2_with fail
  go_ret
  exact ⟨rfl, HB5.out, n5, g5, by omega, by omega, by omega, HS5.out⟩
end
end Go.Proofs.YtbnelaoeblhndaaGreatDoor
