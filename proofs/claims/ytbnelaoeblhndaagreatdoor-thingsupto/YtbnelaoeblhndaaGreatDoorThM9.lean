import Derived.Test.YtbnelaoeblhndaaGreatDoorThM8
import Derived.Test.YtbnelaoeblhndaaGreatDoorPlainsWalk
import Derived.Deep.Slices
import Derived.ProofKit
import Derived.Test.YtbnelaoeblhndaaGreatDoorRows
import Derived.Test.YtbnelaoeblhndaaGreatDoorCards
import Derived.Test.YtbnelaoeblhndaaGreatDoorTie
import Derived.LaidMore
import Derived.OpenShut
import Derived.Stop.Joined
import Derived.SliceStrings
import Derived.Lib.LaidTab
import Derived.SevenTiedAt
import Derived.Deep.DeepHandedRow
import Derived.Deep.DeepWitnessRowRef
/- The statement's step. -/
namespace Go.Proofs.YtbnelaoeblhndaaGreatDoor
open Go.RowKit
set_option maxRecDepth 100000

/-- What a step leaves. -/
def Stepped (B : Nat) (w : World) (wb n g : Nat) (e : Ending) (w' : World) : Prop := e = .returned (.bool true) ∧ Below B w w' ∧ ∃ n' g', n ≤ n' ∧ n' ≤ n + 1 ∧ g ≤ g' ∧ g' ≤ g + 1 ∧ LawSt B w' wb n' g'

section
variable {B : Nat} {w : World} {own : Nat → Nat} {wb : Nat} {ps : List Pr} {lv nsv knv vsv kvv : Value} {rows : List Value} {marks : List Int} {vrows : List Value} {vmarks : List Int} {g : Nat}

theorem pr_at (ps : List Pr) (j : Nat) (hj : j < ps.length) (c : Nat) (hc : c < 2) : (prsC ps)[j * 2 + c]? = (prC ps[j])[c]? := flat_at prC 2 (fun _ => rfl) ps j hj c hc

/-- The step's box. -/
def stepO (k e a : Int) (s : ByteArray) (Fv Lv Vv : Value) : Obj := .cells #[.int .i64 k, .int .i64 e, .int .i64 a, .string s, Fv, Lv, Vv] 87 (0, 0)

theorem law_alloc (hA : LawAt B w own wb ps lv nsv knv vsv kvv rows marks vrows vmarks) (o : Obj) : LawAt B (w.alloc o) (fun k => if k < w.heap.size then own k else 0) wb ps lv nsv knv vsv kvv rows marks vrows vmarks :=
  law_same hA ((Md.refl _ w).alloc o)
theorem law_below (hA : LawAt B w own wb ps lv nsv knv vsv kvv rows marks vrows vmarks) {w' : World} (hb : Below w.heap.size w w') : LawAt B w' (fun k => if k < w.heap.size then own k else 0) wb ps lv nsv knv vsv kvv rows marks vrows vmarks :=
  law_same hA (Md.ofBelow hb)

set_option maxHeartbeats 2000000 in
theorem step_plain (hB : B ≤ w.heap.size) (hA : LawAt B w own wb ps lv nsv knv vsv kvv rows marks vrows vmarks) (h1 : rows.length = 4 * g) (h2 : vrows.length = 4 * g) (hL : Laid w) (e a : Int) (s : ByteArray) (Fb Lb Vb : Option Addr) (Fn Fc Ln Lc Vn Vc : Nat) :
    Calls Tryz.prog 37 #[.pointer (some ⟨wb, 0, none⟩), .agg #[.int .i64 1, .int .i64 e, .int .i64 a, .string s, .slice Fb Fn Fc, .slice Lb Ln Lc, .slice Vb Vn Vc]] w (Stepped B w wb ps.length g) := by
  have HA : Hid _ := hA
  have HL : Hid _ := hL
  clear hA hL
  go_enter Tryz.func37, Tryz.ntmps37
  go_wp2_with fail
  have hb0 : Below w.heap.size w (w.alloc (.cells #[.int .i64 1, .int .i64 e, .int .i64 a, .string s, .slice Fb Fn Fc, .slice Lb Ln Lc, .slice Vb Vn Vc] 87)) := (Below.refl _ _).alloc (Nat.le_refl _) _
  refine (plains_one s _ (HL.out.below hb0)).mono ?_
  rintro r w1 ⟨rfl, hb1⟩
  have hb2 := Below.callB hb0 (Nat.le_refl _) hb1
  have HB2 : Hid _ := hb2
  clear hb0 hb1 hb2
  go_wp2_with fail
  go_ret
  exact ⟨rfl, HB2.out.mono hB, ps.length, g, Nat.le_refl _, by omega, Nat.le_refl _, by omega, _, ps, lv, nsv, knv, vsv, kvv, rows, marks, vrows, vmarks, law_below HA.out HB2.out, rfl, h1, h2⟩

set_option maxHeartbeats 2000000 in
theorem step_new (hB : B ≤ w.heap.size) (hA : LawAt B w own wb ps lv nsv knv vsv kvv rows marks vrows vmarks) (h1 : rows.length = 4 * g) (h2 : vrows.length = 4 * g) (hpl : ps.length ≤ 100000000) (hL : Laid w) (e a : Int) (s : ByteArray) (fs : List Doc.Fld) (Fv : Value) (hnm : ∀ j (h : j < fs.length), fs[j].name.size ≤ 140737488351232) (hfl : fs.length ≤ 1000000000) (hF : In w Fv fs.length (fldsC fs)) (Lb Vb : Option Addr) (Ln Lc Vn Vc : Nat) :
    Calls Tryz.prog 37 #[.pointer (some ⟨wb, 0, none⟩), .agg #[.int .i64 2, .int .i64 e, .int .i64 a, .string s, Fv, .slice Lb Ln Lc, .slice Vb Vn Vc]] w (Stepped B w wb ps.length g) := by
  obtain ⟨Fb, Fc, e1⟩ := hF.sl.slice
  subst e1
  have hb0 : Below w.heap.size w (w.alloc (.cells #[.int .i64 2, .int .i64 e, .int .i64 a, .string s, .slice Fb fs.length Fc, .slice Lb Ln Lc, .slice Vb Vn Vc] 87)) := (Below.refl _ _).alloc (Nat.le_refl _) _
  have hL0 := hL.below hb0
  have HM : Hid _ := more_any (Nat.le_trans hB hb0.size) (law_below hA hb0) (by omega) hL0.sg hL0.g1 fs a hnm hfl _ (hF.below hb0)
  have HB0 : Hid _ := hb0
  clear hA hL hb0 hL0 hF
  go_enter Tryz.func37, Tryz.ntmps37
  go_wp2_with fail
  refine Calls.mono HM.out ?_
  rintro r w1 ⟨rfl, hb1, own', ps', lv', q1, q2, _, hA'⟩
  have HB1 : Hid _ := hb1
  have HA' : Hid _ := hA'
  clear hb1 hA'
  go_wp2_with fail
  go_ret
  exact ⟨rfl, (HB0.out.mono hB).trans HB1.out, ps'.length, g, q1, q2, Nat.le_refl _, by omega, own', ps', lv', nsv, knv, vsv, kvv, rows, marks, vrows, vmarks, HA'.out, rfl, h1, h2⟩

set_option maxHeartbeats 4000000 in
/-- The other kinds: the pair is picked first. -/
theorem step_pair (hA : LawAt B w own wb ps lv nsv knv vsv kvv rows marks vrows vmarks) (h0 : 0 < ps.length) (hpl : ps.length ≤ 100000000) (k e a : Int) (hk1 : k ≠ 1) (hk2 : k ≠ 2) (hk5 : k ≤ 5) (he1 : -9223372036854775808 ≤ e) (he2 : e ≤ 9223372036854775807) (s : ByteArray) (Fb Lb Vb : Option Addr) (Fn Fc Ln Lc Vn Vc : Nat)
    (R : Ending → World → Prop)
    (hput : k = 3 → ∀ i (hi : i < ps.length) W, Below w.heap.size w W → Calls Tryz.prog 56 #[.pointer (some ⟨wb, 0, none⟩), .agg #[.pointer (some ⟨ps[i].xb, 0, none⟩), .pointer (some ⟨ps[i].yb, 0, none⟩)], .agg #[.int .i64 k, .int .i64 e, .int .i64 a, .string s, .slice Fb Fn Fc, .slice Lb Ln Lc, .slice Vb Vn Vc]] W fun e w' => e = .returned (.bool true) ∧ R (.returned (.bool true)) w')
    (hget : k = 5 → ∀ i (hi : i < ps.length) W, Below w.heap.size w W → Calls Tryz.prog 58 #[.pointer (some ⟨wb, 0, none⟩), .agg #[.pointer (some ⟨ps[i].xb, 0, none⟩), .pointer (some ⟨ps[i].yb, 0, none⟩)], .int .i64 a] W fun e w' => e = .returned (.bool true) ∧ R (.returned (.bool true)) w')
    (hdrop : k = 4 → ∀ i (hi : i < ps.length), ∃ E : Int, ∀ W, Below w.heap.size w W → Calls Tryz.prog 22 #[.pointer (some ⟨ps[i].xb, 0, none⟩), .int .i64 a] W fun e w1 => e = .returned (.int .i64 E) ∧ (∀ j, w.heap.size ≤ j → j < W.heap.size → w1.heap[j]? = W.heap[j]?) ∧ W.heap.size ≤ w1.heap.size ∧ Calls Tryz.prog 57 #[.pointer (some ⟨ps[i].yb, 0, none⟩), .int .i64 a] w1 fun e w2 => e = .returned (.int .i64 E) ∧ R (.returned (.bool true)) w2)
    (helse : k ≠ 3 → k ≠ 4 → k ≠ 5 → ∀ W, Below w.heap.size w W → R (.returned (.bool true)) W) :
    Calls Tryz.prog 37 #[.pointer (some ⟨wb, 0, none⟩), .agg #[.int .i64 k, .int .i64 e, .int .i64 a, .string s, .slice Fb Fn Fc, .slice Lb Ln Lc, .slice Vb Vn Vc]] w R := by
  obtain ⟨lb, lc, e1⟩ := own_slice' hA.prs h0
  subst e1
  obtain ⟨W0, HW0⟩ : ∃ W0, Hid (W0 = w.alloc (.cells #[.int .i64 k, .int .i64 e, .int .i64 a, .string s, .slice Fb Fn Fc, .slice Lb Ln Lc, .slice Vb Vn Vc] 87)) := ⟨_, rfl⟩
  have hb0 : Below w.heap.size w W0 := by rw [HW0.out]; exact (Below.refl _ _).alloc (Nat.le_refl _) _
  have qs : W0.heap[w.heap.size]? = some (.cells #[.int .i64 k, .int .i64 e, .int .i64 a, .string s, .slice Fb Fn Fc, .slice Lb Ln Lc, .slice Vb Vn Vc] 87 (0, 0)) := by rw [HW0.out]; exact heap_alloc_new w _
  have hz0 : W0.heap.size = w.heap.size + 1 := by rw [HW0.out]; simp
  have hwbl := hA.wbc.2.1
  have hB1 : w.heap.size + 1 ≤ W0.heap.size := by omega
  have c0 : W0.cell? ⟨wb, 0, none⟩ = some (.slice (some ⟨lb, 0, none⟩) ps.length lc) := blk_cell ((hb0.block wb hwbl).trans hA.blk) 0 _ rfl
  have hlbl := ownLt hA.prs (k := lb) rfl
  have HPR : Hid (∀ r (hr : r < ps.length), W0.cell? ⟨lb, r * 2, none⟩ = some (.pointer (some ⟨ps[r].xb, 0, none⟩)) ∧ W0.cell? ⟨lb, r * 2 + 1, none⟩ = some (.pointer (some ⟨ps[r].yb, 0, none⟩))) := by
    intro r hr
    have h := fun c u hc => World.ownsRow.cells hA.prs (g := lb) rfl (r * 2 + c) u hc
    have h1 := h 0 _ ((pr_at ps r hr 0 (by omega)).trans rfl)
    have h2 := h 1 _ ((pr_at ps r hr 1 (by omega)).trans rfl)
    rw [addr_add2, Nat.zero_add] at h1 h2
    exact ⟨(hb0.cell (p := ⟨lb, r * 2, none⟩) hlbl).trans h1, (hb0.cell (p := ⟨lb, r * 2 + 1, none⟩) hlbl).trans h2⟩
  have HSB : Hid (∀ w' : World, Below (w.heap.size + 1) W0 w' → Below (w.heap.size + 1) W0 w' ∧ w'.cell? ⟨wb, 0, none⟩ = some (.slice (some ⟨lb, 0, none⟩) ps.length lc) ∧ w'.cell? ⟨w.heap.size, 1, none⟩ = some (.int .i64 e) ∧ (∀ r (hr : r < ps.length), w'.cell? ⟨lb, r * 2, none⟩ = some (.pointer (some ⟨ps[r].xb, 0, none⟩))) ∧ (∀ r (hr : r < ps.length), w'.cell? ⟨lb, r * 2 + 1, none⟩ = some (.pointer (some ⟨ps[r].yb, 0, none⟩)))) := by
    intro w' h'
    have q := (h'.block w.heap.size (by omega)).trans qs
    exact ⟨h', (h'.cell (p := ⟨wb, 0, none⟩) (by show wb < _; omega)).trans c0, blk_cell q 1 _ rfl, fun r hr => (h'.cell (p := ⟨lb, r * 2, none⟩) (by show lb < _; omega)).trans (HPR.out r hr).1, fun r hr => (h'.cell (p := ⟨lb, r * 2 + 1, none⟩) (by show lb < _; omega)).trans (HPR.out r hr).2⟩
  have hlb0 : lb < W0.heap.size := by omega
  have hk1' : (k == 1) = false := by simpa using hk1
  have hk2' : (k == 2) = false := by simpa using hk2
  have HB0 : Hid _ := hb0
  have QS : Hid _ := qs
  have HZ0 : Hid _ := hz0
  have HP : Hid _ := hput
  have HG : Hid _ := hget
  have HD : Hid _ := hdrop
  have HE : Hid _ := helse
  have kk : W0.cell? ⟨w.heap.size, 0, none⟩ = some (.int .i64 k) := blk_cell qs 0 _ rfl
  clear hb0 qs hz0 hput hget hdrop helse hA
  go_enter Tryz.func37, Tryz.ntmps37
  go_wp2_with fail
  rw [← HW0.out]
  go_cut [5] (fun v wx => ∃ (g r : Nat) (hr : r < ps.length), v = .pointer (some ⟨g, 0, none⟩) ∧ Below (w.heap.size + 1) W0 wx ∧ wx.heap[g]? = some (.cells #[.pointer (some ⟨ps[r].xb, 0, none⟩), .pointer (some ⟨ps[r].yb, 0, none⟩)] 140 (0, 0)) ∧ w.heap.size + 1 ≤ g)
  case first =>
    (first | go_region_held3 (fun w' => Below (w.heap.size + 1) W0 w' ∧ w'.cell? ⟨wb, 0, none⟩ = some (.slice (some ⟨lb, 0, none⟩) ps.length lc) ∧ w'.cell? ⟨w.heap.size, 1, none⟩ = some (.int .i64 e) ∧ (∀ r (hr : r < ps.length), w'.cell? ⟨lb, r * 2, none⟩ = some (.pointer (some ⟨ps[r].xb, 0, none⟩))) ∧ (∀ r (hr : r < ps.length), w'.cell? ⟨lb, r * 2 + 1, none⟩ = some (.pointer (some ⟨ps[r].yb, 0, none⟩)))) (first | (refine HSB.out _ ?_; repeat (first | exact Below.refl _ _ | refine Below.drew ?_ | refine Below.allocB ?_ hB1 _))) (first | (go_at_call 55; refine (pick_any e he1 he2 ps.length h0 (by omega)).mono ?_; rintro r w2 ⟨⟨r, hr, rfl⟩, rfl⟩; have hr0 : (0 : Int) ≤ (r : Int) := Int.natCast_nonneg r; have hr1 : (r : Int) < (ps.length : Int) := Int.ofNat_lt.2 hr)))
    all_goals (go_wp2_with fail)
    all_goals go_meet
    all_goals exact ⟨W0.heap.size, r, hr, rfl, (Below.allocB (Below.refl _ _) hB1 _).drew, heap_alloc_new W0 _, hB1⟩
  case rest =>
    obtain ⟨g, r, hr, rfl, hbx, hg, hgg⟩ := hcut
    have hq := (hbx.block w.heap.size (by omega)).trans QS.out
    have hbW : Below w.heap.size w wc := HB0.out.trans (hbx.mono (by omega))
    have x0 : wc.cell? ⟨w.heap.size, 0, none⟩ = some (.int .i64 k) := blk_cell hq 0 _ rfl
    have x1 : wc.cell? ⟨w.heap.size, 1, none⟩ = some (.int .i64 e) := blk_cell hq 1 _ rfl
    have x2 : wc.cell? ⟨w.heap.size, 2, none⟩ = some (.int .i64 a) := blk_cell hq 2 _ rfl
    have x3 : wc.cell? ⟨w.heap.size, 3, none⟩ = some (.string s) := blk_cell hq 3 _ rfl
    have x4 : wc.cell? ⟨w.heap.size, 4, none⟩ = some (.slice Fb Fn Fc) := blk_cell hq 4 _ rfl
    have x5 : wc.cell? ⟨w.heap.size, 5, none⟩ = some (.slice Lb Ln Lc) := blk_cell hq 5 _ rfl
    have x6 : wc.cell? ⟨w.heap.size, 6, none⟩ = some (.slice Vb Vn Vc) := blk_cell hq 6 _ rfl
    have y0 : wc.cell? ⟨g, 0, none⟩ = some (.pointer (some ⟨ps[r].xb, 0, none⟩)) := blk_cell hg 0 _ rfl
    have y1 : wc.cell? ⟨g, 1, none⟩ = some (.pointer (some ⟨ps[r].yb, 0, none⟩)) := blk_cell hg 1 _ rfl
    have HBW : Hid _ := hbW
    have HQ : Hid _ := hq
    have HGG : Hid _ := hg
    clear hbx hg hq hbW kk c0
    by_cases k3 : k = 3
    · subst k3
      have HC : Hid _ := HP.out rfl r hr wc HBW.out
      clear hk1' hk2' hk1 hk2
      go_wp2_with fail
      refine Calls.mono HC.out ?_
      rintro e' w' ⟨rfl, hR⟩
      go_wp2_with fail
      exact hR
    by_cases k4 : k = 4
    · subst k4
      obtain ⟨E, hE⟩ := HD.out rfl r hr
      have HC : Hid _ := hE wc HBW.out
      clear hE hk1' hk2' hk1 hk2 k3
      go_wp2_with fail
      refine Calls.mono HC.out ?_
      rintro e' w1 ⟨rfl, hkp, hsz, hc⟩
      have hg1 := (hkp g (by omega) (lt_block HGG.out)).trans HGG.out
      have hq1 := (hkp w.heap.size (Nat.le_refl _) (lt_block HQ.out)).trans HQ.out
      have z1 : w1.cell? ⟨g, 1, none⟩ = some (.pointer (some ⟨ps[r].yb, 0, none⟩)) := blk_cell hg1 1 _ rfl
      have z2 : w1.cell? ⟨w.heap.size, 2, none⟩ = some (.int .i64 a) := blk_cell hq1 2 _ rfl
      have HC2 : Hid _ := hc
      clear hc hkp hg1 hq1 HC
      go_wp2_with fail
      refine Calls.mono HC2.out ?_
      rintro e' w2 ⟨rfl, hR⟩
      have HR : Hid _ := hR
      clear hR HC2
      go_wp2_with fail
      refine (num_any' E w2).mono ?_
      rintro e' w2' ⟨rfl, hw2⟩
      subst hw2
      go_wp2_with fail
      simpa using HR.out
    by_cases k5 : k = 5
    · subst k5
      have HC : Hid _ := HG.out rfl r hr wc HBW.out
      clear hk1' hk2' hk1 hk2 k3 k4
      go_wp2_with fail
      refine Calls.mono HC.out ?_
      rintro e' w' ⟨rfl, hR⟩
      go_wp2_with fail
      exact hR
    have HC : Hid _ := HE.out k3 k4 k5 wc HBW.out
    have b3 : (k == 3) = false := by simpa using k3
    have b4 : (k == 4) = false := by simpa using k4
    have b5 : (k == 5) = false := by simpa using k5
    have b6 : (k == 6) = false := by simp; omega
    have b7 : (k == 7) = false := by simp; omega
    clear hk1 hk2 k3 k4 k5
    go_wp2_with fail
    exact HC.out

theorem step_any (hB : B ≤ w.heap.size) (hA : LawAt B w own wb ps lv nsv knv vsv kvv rows marks vrows vmarks) (h1 : rows.length = 4 * g) (h2 : vrows.length = 4 * g) (hg : g ≤ 200000000) (h0 : 0 < ps.length) (hpl : ps.length ≤ 100000000) (hL : Laid w) (k e a : Int) (hk5 : k ≤ 5) (he1 : -9223372036854775808 ≤ e) (he2 : e ≤ 9223372036854775807) (ha1 : -9223372036854775808 ≤ a) (ha2 : a ≤ 9223372036854775807) (s : ByteArray)
    (fs : List Doc.Fld) (Fv : Value) (hnm : ∀ j (h : j < fs.length), fs[j].name.size ≤ 140737488351232) (hfl : fs.length ≤ 1000000000) (hF : In w Fv fs.length (fldsC fs))
    (spot : List Int) (Lv : Value) (hsl : spot.length ≤ 1000000000) (hLi : In w Lv spot.length (intC spot)) (hLf : 0 < spot.length → ∀ k, Lv.ownBlock = some k → k < w.heap.size ∧ (k < B ∨ own k = 0))
    (vals : List Doc.Val) (Vv : Value) (hvl : vals.length ≤ 1000000000) (hVi : In w Vv vals.length (valsC vals)) (hVf : 0 < vals.length → ∀ k, Vv.ownBlock = some k → k < w.heap.size ∧ (k < B ∨ own k = 0)) :
    Calls Tryz.prog 37 #[.pointer (some ⟨wb, 0, none⟩), .agg #[.int .i64 k, .int .i64 e, .int .i64 a, .string s, Fv, Lv, Vv]] w (Stepped B w wb ps.length g) := by
  obtain ⟨Fb, Fc, e1⟩ := hF.sl.slice
  obtain ⟨Lb, Lc, e2⟩ := hLi.sl.slice
  obtain ⟨Vb, Vc, e3⟩ := hVi.sl.slice
  subst e1 e2 e3
  by_cases k1 : k = 1
  · subst k1; exact step_plain hB hA h1 h2 hL e a s Fb Lb Vb _ _ _ _ _ _
  by_cases k2 : k = 2
  · subst k2; exact step_new hB hA h1 h2 hpl hL e a s fs _ hnm hfl hF Lb Vb _ _ _ _
  refine step_pair hA h0 hpl k e a k1 k2 hk5 he1 he2 s Fb Lb Vb _ _ _ _ _ _ (Stepped B w wb ps.length g) (fun hk i hi W hW => ?_) (fun hk i hi W hW => ?_) (fun hk i hi => ?_) (fun _ _ _ W hW => ?_)
  · have hBW : B ≤ W.heap.size := Nat.le_trans hB hW.size
    have free : ∀ {v : Value}, (∀ k, v.ownBlock = some k → k < w.heap.size ∧ (k < B ∨ own k = 0)) → ∀ k, v.ownBlock = some k → k < W.heap.size ∧ (k < B ∨ (fun k => if k < w.heap.size then own k else 0) k = 0) := fun {v} hf k ek => by
      obtain ⟨q1, q2⟩ := hf k ek
      refine ⟨Nat.lt_of_lt_of_le q1 hW.size, ?_⟩
      simpa [q1] using q2
    refine (puts_any hBW (law_below hA hW) i hi a k e s Fb _ Fc spot vals hsl hvl _ _ (hLi.below hW) (hVi.below hW) (fun h0 => free (hLf h0)) (fun h0 => free (hVf h0))).mono ?_
    rintro e' w' ⟨rfl, hb, own', ps', hpl', hA'⟩
    exact ⟨rfl, rfl, (hW.mono hB).trans hb, ps.length, g, Nat.le_refl _, by omega, Nat.le_refl _, by omega, own', ps', lv, nsv, knv, vsv, kvv, rows, marks, vrows, vmarks, hA', hpl', h1, h2⟩
  · have hBW : B ≤ W.heap.size := Nat.le_trans hB hW.size
    refine (gets_any hBW (law_below hA hW) (by omega) (by omega) i hi a ha1 ha2).mono ?_
    rintro e' w' ⟨rfl, hb, own', nsv', knv', vsv', kvv', rows', marks', vrows', vmarks', hA', hr1, hr2⟩
    exact ⟨rfl, rfl, (hW.mono hB).trans hb, ps.length, g + 1, Nat.le_refl _, by omega, by omega, Nat.le_refl _, own', ps, lv, nsv', knv', vsv', kvv', rows', marks', vrows', vmarks', hA', rfl, by omega, by omega⟩
  · obtain ⟨s1, s2, s3⟩ := hA.sts i hi
    obtain ⟨E, ts', hu, hX, hY⟩ := drop_both ps[i].fs ps[i].space a ha1 ha2 ps[i].ts s3 s1
    refine ⟨E, fun W hW => ?_⟩
    have hBW : B ≤ W.heap.size := Nat.le_trans hB hW.size
    have hAW := law_below hA hW
    obtain ⟨q1, q2, q3⟩ := hAW.sts i hi
    refine (hX W _ _ q1).mono ?_
    intro e' w1 h3
    have hd := h3.2.2
    refine ⟨h3.1, fun j hj1 hj2 => hd.only j hj2 (fun h => by have := h.2.2; simp [show ¬ j < w.heap.size by omega] at this), hd.size, ?_⟩
    refine (hY w1 _ _ (q2.kept' (w' := w1) (fun j h hj => hd.only j hj (fun h' => by have a := h.2.2; have b := h'.2.2; omega)) (fun j h _ => h))).mono ?_
    intro e2 w2 h4
    obtain ⟨hb, own', hA'⟩ := law_both hBW hAW i hi ts' hu E (Below.refl _ _) h3 h4 (Md.refl _ _)
    exact ⟨h4.1, rfl, (hW.mono hB).trans hb, ps.length, g, Nat.le_refl _, by omega, Nat.le_refl _, by omega, own', _, lv, nsv, knv, vsv, kvv, rows, marks, vrows, vmarks, hA', by simp, h1, h2⟩
  · exact ⟨rfl, hW.mono hB, ps.length, g, Nat.le_refl _, by omega, Nat.le_refl _, by omega, _, ps, lv, nsv, knv, vsv, kvv, rows, marks, vrows, vmarks, law_below hA hW, rfl, h1, h2⟩
end
end Go.Proofs.YtbnelaoeblhndaaGreatDoor
/- The statement's begins. -/
namespace Go.Proofs.YtbnelaoeblhndaaGreatDoor
open Go.RowKit
set_option maxRecDepth 100000

theorem in_nil (w : World) : In w (.slice none 0 0) 0 [] := ⟨⟨.inl ⟨rfl, _, _, rfl⟩⟩, .inl rfl⟩
theorem in_blk {w : World} {b n c : Nat} {cs : List Value} {T : TypeId} (h : w.heap[b]? = some (.cells cs.toArray T (0, 0))) (hn : 0 < n) (hc : n ≤ c) : In w (.slice (some ⟨b, 0, none⟩) n c) n cs :=
  ⟨⟨.inr ⟨hn, b, 0, c, rfl, hc, lt_block h, fun j u hj => by rw [Nat.zero_add]; exact blkl_cell h j u hj⟩⟩, .inr ⟨_, _, rfl⟩⟩

section
variable {B : Nat} {w : World} {wb n g : Nat}

/-- A Put of lists that were made just now. -/
theorem step_made (hB : B ≤ w.heap.size) (hS : LawSt B w wb n g) (hn : 0 < n) (hn2 : n ≤ 1000) (hg : g ≤ 1000) (hL : Laid w) (a : Int) (ha1 : 0 ≤ a) (ha2 : a ≤ 1000) (p0 p1 : Int) (v0 v1 : Doc.Val) :
    Calls Tryz.prog 37 #[.pointer (some ⟨wb, 0, none⟩), .agg #[.int .i64 3, .int .i64 0, .int .i64 a, .string ⟨#[]⟩, .slice none 0 0, .slice (some ⟨w.heap.size, 0, none⟩) 2 2, .slice (some ⟨w.heap.size + 1, 0, none⟩) 2 2]] ((w.alloc (.cells #[.int .i64 p0, .int .i64 p1] 3)).alloc (.cells #[.int .i64 v0.k, .int .i64 v0.n, .string v0.s, .int .i64 v1.k, .int .i64 v1.n, .string v1.s] 94)) fun e w' => e = .returned (.bool true) ∧ Below B w w' ∧ ∃ n' g', n ≤ n' ∧ n' ≤ n + 1 ∧ g ≤ g' ∧ g' ≤ g + 1 ∧ LawSt B w' wb n' g' := by
  obtain ⟨own, ps, lv, nsv, knv, vsv, kvv, rows, marks, vrows, vmarks, hA, rfl, h1, h2⟩ := hS
  have hb : Below w.heap.size w ((w.alloc (.cells #[.int .i64 p0, .int .i64 p1] 3)).alloc (.cells #[.int .i64 v0.k, .int .i64 v0.n, .string v0.s, .int .i64 v1.k, .int .i64 v1.n, .string v1.s] 94)) := ((Below.refl _ _).alloc (Nat.le_refl _) _).alloc (by simp) _
  refine (step_any (Nat.le_trans hB hb.size) (law_below hA hb) h1 h2 (by omega) hn (by omega) (hL.below hb) 3 0 a (by decide) (by decide) (by decide) (by omega) (by omega) ⟨#[]⟩ [] (.slice none 0 0) (fun j h => by simp at h) (by simp) (in_nil _)
    [p0, p1] _ (by simp) (in_blk (cs := intC [p0, p1]) (heap_alloc2_old w _ _) (by simp) (by simp)) (fun _ k e => ?_) [v0, v1] _ (by simp) (in_blk (cs := valsC [v0, v1]) (heap_alloc2_new w _ _) (by simp) (by simp)) (fun _ k e => ?_)).mono ?_
  · cases e; exact ⟨by simp only [World.size_alloc]; omega, .inr (by simp)⟩
  · cases e; exact ⟨by simp only [World.size_alloc]; omega, .inr (by simp; intro h; omega)⟩
  · rintro e w' ⟨rfl, hb', h⟩
    exact ⟨rfl, (hb.mono hB).trans hb', h⟩

theorem step_get (hB : B ≤ w.heap.size) (hS : LawSt B w wb n g) (hn : 0 < n) (hn2 : n ≤ 100000000) (hg : g ≤ 200000000) (hL : Laid w) (e a : Int) (he1 : 0 ≤ e) (he2 : e ≤ 9223372036854775807) (ha1 : 0 ≤ a) (ha2 : a ≤ 1000) :
    Calls Tryz.prog 37 #[.pointer (some ⟨wb, 0, none⟩), .agg #[.int .i64 5, .int .i64 e, .int .i64 a, .string ⟨#[]⟩, .slice none 0 0, .slice none 0 0, .slice none 0 0]] w fun r w' => r = .returned (.bool true) ∧ Below B w w' ∧ ∃ n' g', n ≤ n' ∧ n' ≤ n + 1 ∧ g ≤ g' ∧ g' ≤ g + 1 ∧ LawSt B w' wb n' g' := by
  obtain ⟨own, ps, lv, nsv, knv, vsv, kvv, rows, marks, vrows, vmarks, hA, rfl, h1, h2⟩ := hS
  exact step_any hB hA h1 h2 hg hn hn2 hL 5 e a (by decide) (by omega) he2 (by omega) (by omega) ⟨#[]⟩ [] (.slice none 0 0) (fun j h => by simp at h) (by simp) (in_nil _) [] _ (by simp) (in_nil _) (fun _ k e => by cases e) [] _ (by simp) (in_nil _) (fun _ k e => by cases e)

theorem first_ok : Doc.newOK [⟨⟨#[110]⟩, 1⟩, ⟨⟨#[115]⟩, 2⟩] 2 := by
  refine ⟨by simp [Doc.newArg], fun j h => ?_, fun j h => ?_⟩
  · rcases (show j = 0 ∨ j = 1 by simp at h; omega) with rfl | rfl <;> rfl
  · rcases (show j = 0 ∨ j = 1 by simp at h; omega) with rfl | rfl <;> kernel_rfl

theorem Laid.belowB {w w' : World} {B : Nat} (h : Laid w) (hb : Below B w w') (h1 : 1 < B) (h2 : 3 < B) : Laid w' :=
  ⟨h.sg.below hb h1, h.tens.below hb h2, Nat.lt_of_lt_of_le h.g1 hb.size, Nat.lt_of_lt_of_le h.g2 hb.size⟩

set_option maxHeartbeats 4000000 in
theorem begins_any (hB : B ≤ w.heap.size) (hS : LawSt B w wb 0 0) (hL : Laid w) (hg1 : 1 < B) (hg2 : 3 < B) :
    Calls Tryz.prog 36 #[.pointer (some ⟨wb, 0, none⟩)] w fun e w' => e = .returned (.bool true) ∧ Below B w w' ∧ ∃ n' g', 0 < n' ∧ n' ≤ 10 ∧ g' ≤ 10 ∧ LawSt B w' wb n' g' := by
  obtain ⟨own, ps, lv, nsv, knv, vsv, kvv, rows, marks, vrows, vmarks, hA, hp0, h1, h2⟩ := hS
  have hb0 : Below w.heap.size w (w.alloc (.cells #[.string ⟨#[110]⟩, .int .i64 1, .string ⟨#[115]⟩, .int .i64 2] 92)) := (Below.refl _ _).alloc (Nat.le_refl _) _
  have hL0 := hL.below hb0
  have HM : Hid _ := more_any (Nat.le_trans hB hb0.size) (law_below hA hb0) (by omega) hL0.sg hL0.g1 [⟨⟨#[110]⟩, 1⟩, ⟨⟨#[115]⟩, 2⟩] 2 (fun j h => by rcases (show j = 0 ∨ j = 1 by simp at h; omega) with rfl | rfl <;> simp [ByteArray.size]) (by simp) (.slice (some ⟨w.heap.size, 0, none⟩) 2 2) (in_blk (cs := fldsC [⟨⟨#[110]⟩, 1⟩, ⟨⟨#[115]⟩, 2⟩]) (heap_alloc_new w _) (by decide) (by decide))
  have HB0 : Hid _ := hb0
  have HL : Hid _ := hL
  clear hA hL hb0 hL0
  go_enter Tryz.func36, Tryz.ntmps36
  go_wp2_with fail
  refine Calls.mono HM.out ?_
  rintro e w1 ⟨rfl, hb1, own1, ps1, lv1, q1, q2, q3, hA1⟩
  have hp1 : ps1.length = 1 := by have := q3 first_ok; omega
  obtain ⟨b1, c1, e1⟩ := row_slice hA1.prs
  subst e1
  have d0 : w1.cell? ⟨wb, 0, none⟩ = some (.slice b1 1 c1) := by rw [← hp1]; exact blk_cell hA1.blk 0 _ rfl
  have HB1 : Hid (Below B w w1) := (HB0.out.mono hB).trans hb1
  have HS1 : Hid (LawSt B w1 wb 1 0) := ⟨own1, ps1, _, nsv, knv, vsv, kvv, rows, marks, vrows, vmarks, hA1, hp1, h1, h2⟩
  have HL1 : Hid (Laid w1) := HL.out.belowB HB1.out hg1 hg2
  have hs1 : B ≤ w1.heap.size := Nat.le_trans hB HB1.out.size
  have HC1 : Hid _ := step_made hs1 HS1.out (by decide) (by decide) (by decide) HL1.out 1 (by decide) (by decide) 0 0 ⟨1, 5, ⟨#[]⟩⟩ ⟨2, 0, ⟨#[97, 98]⟩⟩
  clear hA1 hp1 q1 q2 q3 hb1 HM hp0 h1 h2
  go_wp2_with fail
  refine Calls.mono HC1.out ?_
  rintro e w2 ⟨rfl, hb2, n2, g2, a1, a2, a3, a4, hS2⟩
  have HB2 : Hid (Below B w w2) := HB1.out.trans hb2
  have HS2 : Hid _ := hS2
  have HL2 : Hid (Laid w2) := HL.out.belowB HB2.out hg1 hg2
  have hs2 : B ≤ w2.heap.size := Nat.le_trans hB HB2.out.size
  have HC2 : Hid _ := step_made hs2 HS2.out (by omega) (by omega) (by omega) HL2.out 2 (by decide) (by decide) 3 4 ⟨0, 0, ⟨#[]⟩⟩ ⟨2, 0, ⟨#[98]⟩⟩
  clear hb2 hS2 HC1 d0
  go_wp2_with fail
  refine Calls.mono HC2.out ?_
  rintro e w3 ⟨rfl, hb3, n3, g3, a5, a6, a7, a8, hS3⟩
  have HB3 : Hid (Below B w w3) := HB2.out.trans hb3
  have HS3 : Hid _ := hS3
  have HL3 : Hid (Laid w3) := HL.out.belowB HB3.out hg1 hg2
  have hs3 : B ≤ w3.heap.size := Nat.le_trans hB HB3.out.size
  have HC3 : Hid _ := step_made hs3 HS3.out (by omega) (by omega) (by omega) HL3.out 3 (by decide) (by decide) 0 0 ⟨1, -5, ⟨#[]⟩⟩ ⟨0, 0, ⟨#[]⟩⟩
  clear hb3 hS3 HC2
  go_wp2_with fail
  refine Calls.mono HC3.out ?_
  rintro e w4 ⟨rfl, hb4, n4, g4, a9, a10, a11, a12, hS4⟩
  have HB4 : Hid (Below B w w4) := HB3.out.trans hb4
  have HS4 : Hid _ := hS4
  have HL4 : Hid (Laid w4) := HL.out.belowB HB4.out hg1 hg2
  have hs4 : B ≤ w4.heap.size := Nat.le_trans hB HB4.out.size
  have HC4 : Hid _ := step_get hs4 HS4.out (by omega) (by omega) (by omega) HL4.out 0 2 (by decide) (by decide) (by decide) (by decide)
  clear hb4 hS4 HC3
  go_wp2_with fail
  refine Calls.mono HC4.out ?_
  rintro e w5 ⟨rfl, hb5, n5, g5, a13, a14, a15, a16, hS5⟩
  have HS5 : Hid _ := hS5
  have HB5 : Hid (Below B w w5) := HB4.out.trans hb5
  clear hS5 hb5 HC4
  go_wp2_with fail
  go_ret
  exact ⟨rfl, HB5.out, n5, g5, by omega, by omega, by omega, HS5.out⟩
end
end Go.Proofs.YtbnelaoeblhndaaGreatDoor
/- The statement's plays, and the walk of the statement Things. -/
namespace Go.Proofs.YtbnelaoeblhndaaGreatDoor
open Go.RowKit
set_option maxRecDepth 100000

/-- A step of the script, as it is handed in. -/
structure StepD where
  k : Int
  e : Int
  a : Int
  s : ByteArray
  fs : List Doc.Fld
  Fv : Value
  spot : List Int
  Lv : Value
  vals : List Doc.Val
  Vv : Value

def stepC (d : StepD) : List Value := [.int .i64 d.k, .int .i64 d.e, .int .i64 d.a, .string d.s, d.Fv, d.Lv, d.Vv]

/-- What is known of a step that is handed in. -/
structure StepOk (w : World) (d : StepD) : Prop where
  e1 : -9223372036854775808 ≤ d.e
  e2 : d.e ≤ 9223372036854775807
  a1 : -9223372036854775808 ≤ d.a
  a2 : d.a ≤ 9223372036854775807
  nm : ∀ j (h : j < d.fs.length), d.fs[j].name.size ≤ 140737488351232
  fl : d.fs.length ≤ 1000000000
  sl : d.spot.length ≤ 1000000000
  vl : d.vals.length ≤ 1000000000
  fi : In w d.Fv d.fs.length (fldsC d.fs)
  li : In w d.Lv d.spot.length (intC d.spot)
  vi : In w d.Vv d.vals.length (valsC d.vals)
  lb : 0 < d.spot.length → ∀ k, d.Lv.ownBlock = some k → k < w.heap.size
  vb : 0 < d.vals.length → ∀ k, d.Vv.ownBlock = some k → k < w.heap.size

section
variable {B : Nat} {w : World} {wb n g : Nat}

/-- Get leaves the stores as they are. -/
theorem step_get' (hB : B ≤ w.heap.size) (hS : LawSt B w wb n g) (hn : 0 < n) (hn2 : n ≤ 100000000) (hg : g ≤ 200000000) (e a : Int) (he1 : 0 ≤ e) (he2 : e ≤ 9223372036854775807) (ha1 : 0 ≤ a) (ha2 : a ≤ 1000) :
    Calls Tryz.prog 37 #[.pointer (some ⟨wb, 0, none⟩), .agg #[.int .i64 5, .int .i64 e, .int .i64 a, .string ⟨#[]⟩, .slice none 0 0, .slice none 0 0, .slice none 0 0]] w fun r w' => r = .returned (.bool true) ∧ Below B w w' ∧ LawSt B w' wb n (g + 1) := by
  obtain ⟨own, ps, lv, nsv, knv, vsv, kvv, rows, marks, vrows, vmarks, hA, rfl, h1, h2⟩ := hS
  refine step_pair hA hn hn2 5 e a (by decide) (by decide) (by decide) (by omega) he2 _ _ _ _ _ _ _ _ _ _ _ (fun h => by cases h) (fun hk i hi W hW => ?_) (fun h => by cases h) (fun _ _ h => absurd rfl h)
  refine (gets_any (Nat.le_trans hB hW.size) (law_below hA hW) (by omega) (by omega) i hi a (by omega) (by omega)).mono ?_
  rintro e' w' ⟨rfl, hb, own', nsv', knv', vsv', kvv', rows', marks', vrows', vmarks', hA', hr1, hr2⟩
  exact ⟨rfl, rfl, (hW.mono hB).trans hb, own', ps, lv, nsv', knv', vsv', kvv', rows', marks', vrows', vmarks', hA', rfl, by omega, by omega⟩

theorem kept_st (hS : LawSt B w wb n g) (hg : g ≤ 200000000) : Calls Tryz.prog 38 #[.pointer (some ⟨wb, 1, none⟩)] w fun e w' => e = .returned (.bool true) ∧ Below w.heap.size w w' ∧ LawSt B w' wb n g := by
  obtain ⟨own, ps, lv, nsv, knv, vsv, kvv, rows, marks, vrows, vmarks, hA, rfl, h1, h2⟩ := hS
  refine (kept_any hA.blk hA.bkn hA.bkv (by omega) (by omega)).mono ?_
  rintro e w' ⟨rfl, hb⟩
  exact ⟨rfl, hb, _, ps, lv, nsv, knv, vsv, kvv, rows, marks, vrows, vmarks, law_below hA hb, rfl, h1, h2⟩

theorem st_len (hS : LawSt B w wb n g) : ∃ b c, w.cell? ⟨wb, 0, none⟩ = some (.slice b n c) ∧ B ≤ wb ∧ wb < w.heap.size := by
  obtain ⟨own, ps, lv, nsv, knv, vsv, kvv, rows, marks, vrows, vmarks, hA, rfl, h1, h2⟩ := hS
  obtain ⟨b, c, e⟩ := row_slice hA.prs
  subst e
  exact ⟨b, c, blk_cell hA.blk 0 _ rfl, hA.wbc.1, hA.wbc.2.1⟩

theorem in_belowB {w w' : World} {sv : Value} {m : Nat} {cs : List Value} (h : In w sv m cs) (hb : Below w.heap.size w w') : In w' sv m cs := h.below hb

theorem step_script {w0 : World} (hb : Below w0.heap.size w0 w) (hS : LawSt w0.heap.size w wb n g) (hn : 0 < n) (hn2 : n ≤ 100000000) (hg : g ≤ 200000000) (hL : Laid w) (d : StepD) (hd : StepOk w0 d) (hk : d.k ≤ 5) :
    Calls Tryz.prog 37 #[.pointer (some ⟨wb, 0, none⟩), .agg #[.int .i64 d.k, .int .i64 d.e, .int .i64 d.a, .string d.s, d.Fv, d.Lv, d.Vv]] w (Stepped w0.heap.size w wb n g) := by
  obtain ⟨own, ps, lv, nsv, knv, vsv, kvv, rows, marks, vrows, vmarks, hA, rfl, h1, h2⟩ := hS
  have hs := hb.size
  exact step_any hs hA h1 h2 hg hn hn2 hL d.k d.e d.a hk hd.e1 hd.e2 hd.a1 hd.a2 d.s d.fs d.Fv hd.nm hd.fl (hd.fi.below hb) d.spot d.Lv hd.sl (hd.li.below hb) (fun h0 k e => by have := hd.lb h0 k e; exact ⟨by omega, .inl this⟩) d.vals d.Vv hd.vl (hd.vi.below hb) (fun h0 k e => by have := hd.vb h0 k e; exact ⟨by omega, .inl this⟩)

theorem law_start (w : World) : LawSt w.heap.size (w.alloc (.cells #[.slice none 0 0, .slice none 0 0, .slice none 0 0, .slice none 0 0, .slice none 0 0, .slice none 0 0, .slice none 0 0] 83)) w.heap.size 0 0 := by
  refine ⟨fun _ => 0, [], .slice none 0 0, .slice none 0 0, .slice none 0 0, .slice none 0 0, .slice none 0 0, [], [], [], [], ⟨heap_alloc_new w _, ⟨Nat.le_refl _, by simp, rfl⟩, World.ownsRow_nil _ _ _ _, fun k e => (by cases e), ⟨World.ownsRow_nil _ _ _ _, World.ownsRow_nil _ _ _ _, rfl, fun i h => (by simp at h), fun k e => (by cases e), fun k e => (by cases e)⟩, ⟨World.ownsRow_nil _ _ _ _, World.ownsRow_nil _ _ _ _, rfl, fun i h => (by simp at h), fun k e => (by cases e), fun k e => (by cases e)⟩, fun i h => (by simp at h)⟩, rfl, rfl, rfl⟩

set_option maxHeartbeats 4000000 in
theorem plays_any (ds : List StepD) (hdl : ds.length ≤ 2000000) (sv : Value) (hs : Sl w sv ds.length (ds.flatMap stepC)) (hds : ∀ j (h : j < ds.length), StepOk w ds[j]) (hL : Laid w) :
    Calls Tryz.prog 15 #[sv, .int .i64 5] w fun e w' => e = .returned (.bool true) ∧ Below w.heap.size w w' := by
  obtain ⟨sb, sc, e1⟩ := hs.slice
  subst e1
  have hb0 : Below w.heap.size w (w.alloc (.cells #[.slice none 0 0, .slice none 0 0, .slice none 0 0, .slice none 0 0, .slice none 0 0, .slice none 0 0, .slice none 0 0] 83)) := (Below.refl _ _).alloc (Nat.le_refl _) _
  have HBG : Hid _ := begins_any hb0.size (law_start w) (hL.below hb0) hL.g1 hL.g2
  have HB0 : Hid _ := hb0
  have HS : Hid _ := hs
  have HDS : Hid _ := hds
  have HL : Hid _ := hL
  clear hs hds hL hb0
  go_enter Tryz.func15, Tryz.ntmps15
  go_wp2_with fail
  refine Calls.mono HBG.out ?_
  rintro e w1 ⟨rfl, hb1, n1, g1, k1, k2, k3, hS1⟩
  have HB1 : Hid (Below w.heap.size w w1) := HB0.out.trans hb1
  have HS1 : Hid _ := hS1
  clear hb1 hS1 HBG
  go_wp2_with fail
  go_loopw [6, 7] (fun ok i wr => ok = .bool true ∧ ∃ k n g : Nat, k ≤ ds.length ∧ i = .int .i64 k ∧ 0 < n ∧ n ≤ 10 + k ∧ g ≤ 10 + k ∧ Hid (Below w.heap.size w wr) ∧ Hid (LawSt w.heap.size wr w.heap.size n g)) (fun _ i _ => ds.length - (intOf i).toNat)
  case atStart => exact ⟨rfl, 0, n1, g1, Nat.zero_le _, rfl, k1, k2, k3, HB1, HS1⟩
  case round =>
    obtain ⟨rfl, k, n, g, hk, rfl, hn0, hn1, hg1, KB, KS⟩ := hrel
    by_cases hk2 : k < ds.length
    · rcases HS.out.has with ⟨h0, _⟩ | ⟨_, b, off, cap, he, _, hlt, hr⟩
      · omega
      simp only [Value.slice.injEq] at he
      obtain ⟨rfl, _, rfl⟩ := he
      obtain ⟨d, HDD⟩ : ∃ d, Hid (d = ds[k]) := ⟨ds[k], rfl⟩
      have HDO : Hid (StepOk w d) := by rw [HDD.out]; exact HDS.out k hk2
      obtain ⟨Fb, Fc, eF⟩ := HDO.out.fi.sl.slice
      obtain ⟨Lb, Lc, eL⟩ := HDO.out.li.sl.slice
      obtain ⟨Vb, Vc, eV⟩ := HDO.out.vi.sl.slice
      have hc : ∀ c u, (stepC d)[c]? = some u → wr.cell? ⟨b, off + (k * 7 + c), none⟩ = some u := fun c u hu => by
        have h7 : c < 7 := (List.getElem?_eq_some_iff.1 hu).1
        exact (KB.out.cell (p := ⟨b, off + (k * 7 + c), none⟩) hlt).trans (hr _ u (by rw [flat_at stepC 7 (fun _ => rfl) ds k hk2 c h7, ← HDD.out]; exact hu))
      have x0 := hc 0 (.int .i64 d.k) rfl
      have x1 := hc 1 (.int .i64 d.e) rfl
      have x2 := hc 2 (.int .i64 d.a) rfl
      have x3 := hc 3 (.string d.s) rfl
      have x4 := hc 4 (.slice Fb d.fs.length Fc) (by rw [← eF]; rfl)
      have x5 := hc 5 (.slice Lb d.spot.length Lc) (by rw [← eL]; rfl)
      have x6 := hc 6 (.slice Vb d.vals.length Vc) (by rw [← eV]; rfl)
      rw [Nat.add_zero] at x0
      rw [← Nat.add_assoc] at x1 x2 x3 x4 x5 x6
      clear hr hc
      by_cases hd5 : 5 < d.k
      · go_wp2_with fail
        exact ⟨⟨rfl, k + 1, n, g, by omega, by go_num, hn0, by omega, by omega, KB, KS⟩, by simp [intOf]; omega⟩
      · have hd5' : d.k ≤ 5 := by omega
        have HC : Hid _ := step_script KB.out KS.out hn0 (by omega) (by omega) (HL.out.below KB.out) d HDO.out hd5'
        rw [eF, eL, eV] at HC
        clear eF eL eV
        go_wp2_with fail
        refine Calls.mono HC.out ?_
        rintro e' w2 ⟨rfl, hb2, n', g', q1, q2, q3, q4, hS2⟩
        have HB2 : Hid (Below w.heap.size w w2) := KB.out.trans hb2
        have HK : Hid _ := kept_st hS2 (by omega)
        obtain ⟨_, _, _, _, hwl⟩ := st_len hS2
        clear hb2 hS2 HC x0 x1 x2 x3 x4 x5 x6
        go_wp2_with fail
        refine Calls.mono HK.out ?_
        rintro e' w3 ⟨rfl, hb3, hS3⟩
        have HB3 : Hid (Below w.heap.size w w3) := HB2.out.trans (hb3.mono HB2.out.size)
        have HS3 : Hid _ := hS3
        clear hb3 hS3 HK
        go_wp2_with fail
        exact ⟨⟨rfl, k + 1, n', g', by omega, by go_num, by omega, by omega, by omega, HB3, HS3⟩, by simp [intOf]; omega⟩
    · obtain rfl : k = ds.length := by omega
      go_wp2_with fail
      go_loopw [6, 9] (fun ok i wr => ok = .bool true ∧ ∃ k g : Nat, k ≤ n ∧ i = .int .i64 k ∧ g ≤ 10 + ds.length + k * 8 ∧ Hid (Below w.heap.size w wr) ∧ Hid (LawSt w.heap.size wr w.heap.size n g)) (fun _ i _ => n - (intOf i).toNat)
      case atStart => exact ⟨rfl, 0, g, Nat.zero_le _, rfl, by omega, KB, KS⟩
      case round =>
        obtain ⟨rfl, k, g2, hk3, rfl, hg2, KB2, KS2⟩ := hrel
        obtain ⟨lb, lc, y0, _, hwl⟩ := st_len KS2.out
        by_cases hk4 : k < n
        · go_wp2_with fail
          go_loopw [6, 10] (fun ok i wr => ok = .bool true ∧ ∃ j g : Nat, j ≤ 8 ∧ i = .int .i64 j ∧ g ≤ 10 + ds.length + k * 8 + j ∧ Hid (Below w.heap.size w wr) ∧ Hid (LawSt w.heap.size wr w.heap.size n g)) (fun _ i _ => 8 - (intOf i).toNat)
          case atStart => exact ⟨rfl, 0, g2, Nat.zero_le _, rfl, by omega, KB2, KS2⟩
          case round =>
            obtain ⟨rfl, j, g3, hj, rfl, hg3, KB3, KS3⟩ := hrel
            by_cases hj8 : j < 8
            · have HC : Hid _ := step_get' KB3.out.size KS3.out hn0 (by omega) (by omega) k j (by omega) (by omega) (by omega) (by omega)
              have hj8' : (j : Int) < 8 := by omega
              go_wp2_with fail
              refine Calls.mono HC.out ?_
              rintro e' w4 ⟨rfl, hb4, hS4⟩
              have HB4 : Hid (Below w.heap.size w w4) := KB3.out.trans hb4
              have HS4 : Hid _ := hS4
              clear hb4 hS4 HC
              go_wp2_with fail
              exact ⟨⟨rfl, j + 1, g3 + 1, by omega, by go_num, by omega, HB4, HS4⟩, by simp [intOf]; omega⟩
            · obtain rfl : j = 8 := by omega
              go_wp2_with fail
              exact ⟨⟨rfl, k + 1, g3, by omega, by go_num, by omega, KB3, KS3⟩, by simp [intOf]; omega⟩
        · obtain rfl : k = n := by omega
          have HK : Hid _ := kept_st KS2.out (by omega)
          go_wp2_with fail
          refine Calls.mono HK.out ?_
          rintro e' w5 ⟨rfl, hb5, _⟩
          go_wp2_with fail
          go_ret
          exact ⟨rfl, KB2.out.trans (hb5.mono KB2.out.size)⟩
end
end Go.Proofs.YtbnelaoeblhndaaGreatDoor
/- A script that is handed in, opened. -/
namespace Go.Proofs.YtbnelaoeblhndaaGreatDoor
open Go.RowKit Go.ChangeShapes Go.WideShapes
set_option maxRecDepth 100000

theorem list_of {α : Type} {p : Nat → α → Prop} : ∀ (n : Nat), (∀ i, i < n → ∃ a, p i a) → ∃ l : List α, l.length = n ∧ ∀ i (h : i < l.length), p i l[i] := by
  intro n
  induction n with
  | zero => exact fun _ => ⟨[], rfl, fun i h => by simp at h⟩
  | succ n ih =>
    intro h
    obtain ⟨l, hl, hp⟩ := ih (fun i hi => h i (by omega))
    obtain ⟨a, ha⟩ := h n (by omega)
    refine ⟨l ++ [a], by simp [hl], fun i hi => ?_⟩
    by_cases hi' : i < l.length
    · rw [List.getElem_append_left hi']; exact hp i hi'
    · have : i = l.length := by simp at hi; omega
      subst this
      rw [List.getElem_append_right (Nat.le_refl _)]
      simp only [Nat.sub_self, List.getElem_cons_zero]
      rw [hl]; exact ha

section
variable {H : Type} {enc : TypeId × Value → H} {P : Program} {w : World} {sp : Nat → Bool} {held : Bool}

theorem open_list {t e : TypeId} {sz : Nat} (ht : P.underlying t = some (.slice e)) (hsz : P.cellsOf e = sz) (hz : 0 < sz) {fuel : Nat} {sv : Value} {x : DataW H × List MemPlace} (h : DataW.trod enc P w 0 sp held fuel t [sv] = some x)
    {α : Type} (dec : α → List Value) (Q : α → DataW H → Prop) (hdec : ∀ a, (dec a).length = sz)
    (he : ∀ n cs' d pl, DataW.trod enc P w 0 sp held n e cs' = some (d, pl) → ∃ a, cs' = dec a ∧ Q a d) :
    ∃ l : List α, In w sv l.length (l.flatMap dec) ∧ ((x.1 = .nil ∧ l = []) ∨ ∃ elems spare, x.1 = .slice elems spare ∧ elems.length = l.length ∧ ∀ i (h1 : i < l.length) (h2 : i < elems.length), Q l[i] elems[i]) ∧ (0 < l.length → ∀ k, sv.ownBlock = some k → k < w.heap.size) := by
  rcases Go.Deep.open_slice ht h with ⟨hc, rfl⟩ | ⟨a, len, cap, m, n, D, Pl, hc, _, hl, hm, hme, rfl, hel⟩
  · simp only [List.cons.injEq, and_true] at hc
    subst hc
    exact ⟨[], in_nil w, .inl ⟨rfl, rfl⟩, fun h => by simp at h⟩
  · simp only [List.cons.injEq, and_true] at hc
    subst hc
    have hlm : len ≤ m := by rw [hme]; split <;> omega
    obtain ⟨l, hll, hp⟩ := list_of (p := fun i (y : α) => w.cells? 0 (a.add (i * sz)) sz = some (dec y) ∧ Q y (D i)) len (fun i hi => by
      obtain ⟨cs', h1, h2⟩ := hel i (by omega)
      rw [hsz] at h1
      obtain ⟨y, rfl, hq⟩ := he n cs' _ _ h2
      exact ⟨y, h1, hq⟩)
    have hcell : ∀ i (hi : i < l.length) c, c < sz → w.cell? (a.add (i * sz + c)) = (dec l[i])[c]? := fun i hi c hc => by
      have := (World.cells?_some (hp i hi).1).2.2 c hc
      rw [← this, Go.Deep.add_add]
    have hblk : 0 < l.length → a.spot = none ∧ a.block < w.heap.size := fun h0 => by
      have h1 := hcell 0 h0 0 hz
      have hd := hdec l[0]
      rw [List.getElem?_eq_getElem (by omega)] at h1
      have ha0 : a.add 0 = a := by simp [Addr.add]
      simp only [Nat.zero_mul, Nat.zero_add] at h1
      rw [ha0] at h1
      exact ⟨World.cell?_spot h1, World.block_lt_of_cell? w _ h1⟩
    refine ⟨l, ⟨⟨?_⟩, .inr ⟨a, cap, by rw [hll]⟩⟩, .inr ⟨(List.range len).map D, _, rfl, by simp [hll], fun i h1 h2 => ?_⟩, fun h0 k ek => ?_⟩
    · by_cases h0 : l.length = 0
      · exact .inl ⟨h0, some a, cap, by rw [← hll, h0]⟩
      · obtain ⟨hs, hb⟩ := hblk (by omega)
        obtain ⟨b, off, spot⟩ := a
        simp only at hs hb
        subst hs
        refine .inr ⟨by omega, b, off, cap, by rw [hll], by omega, hb, fun j u hj => ?_⟩
        have hfl : (l.flatMap dec).length = l.length * sz := by
          clear hj hcell hp hblk hll h0
          induction l with
          | nil => simp
          | cons y r ih => rw [List.flatMap_cons, List.length_append, ih, hdec, List.length_cons, Nat.succ_mul, Nat.add_comm]
        have hjl : j < l.length * sz := by rw [← hfl]; exact (List.getElem?_eq_some_iff.1 hj).1
        have hi : j / sz < l.length := Nat.div_lt_of_lt_mul (by rw [Nat.mul_comm]; exact hjl)
        have hjd : j / sz * sz + j % sz = j := by rw [Nat.mul_comm]; exact Nat.div_add_mod j sz
        have h1 := hcell (j / sz) hi (j % sz) (Nat.mod_lt _ hz)
        rw [hjd, addr_add2] at h1
        rw [h1, ← flat_at dec sz hdec l (j / sz) hi (j % sz) (Nat.mod_lt _ hz), hjd]
        exact hj
    · have := (hp i h1).2
      simpa using this
    · have := (hblk h0).2
      obtain rfl : a.block = k := by
        have : (Value.slice (some a) len cap).ownBlock = some a.block := rfl
        rw [this] at ek; cases ek; rfl
      exact this

theorem bulk_one (d : DataW H) : 1 ≤ Rows.uptoBulk d := by
  cases d <;> first | (unfold Rows.uptoBulk; omega) | (rename_i l; cases l <;> (unfold Rows.uptoBulk; omega))
theorem bulk_len : ∀ (l : List (DataW H)), l.length ≤ Rows.uptoBulkAll l
  | [] => by simp [Rows.uptoBulkAll]
  | d :: r => by
    have h1 := bulk_one d
    have h2 := bulk_len r
    simp only [Rows.uptoBulkAll, List.length_cons]
    omega
theorem bulk_mem {d : DataW H} : ∀ {l : List (DataW H)}, d ∈ l → Rows.uptoBulk d ≤ Rows.uptoBulkAll l
  | [], h => by cases h
  | x :: r, h => by
    simp only [Rows.uptoBulkAll]
    rcases List.mem_cons.1 h with rfl | h
    · omega
    · have := bulk_mem h; omega
theorem wf_i64 {n : Int} (h : (Lit.int .i64 n).wf = true) : -9223372036854775808 ≤ n ∧ n ≤ 9223372036854775807 := by
  simpa [Lit.wf, IntKind.min, IntKind.max, IntKind.signed, IntKind.bits] using h
theorem Tryz.cInt : Tryz.prog.cellsOf 3 = 1 := by kernel_rfl
theorem Tryz.cStr : Tryz.prog.cellsOf 9 = 1 := by kernel_rfl
theorem Tryz.cFld : Tryz.prog.cellsOf 92 = 2 := by kernel_rfl
theorem Tryz.cVal : Tryz.prog.cellsOf 94 = 3 := by kernel_rfl
theorem Tryz.cStep : Tryz.prog.cellsOf 87 = 7 := by kernel_rfl
theorem Tryz.cFs : Tryz.prog.cellsOf 85 = 1 := by kernel_rfl
theorem Tryz.cIs : Tryz.prog.cellsOf 33 = 1 := by kernel_rfl
theorem Tryz.cVs : Tryz.prog.cellsOf 55 = 1 := by kernel_rfl

theorem drop_take_one {cs : List Value} {i : Nat} {v : Value} (h : (cs.drop i).take 1 = [v]) : cs[i]? = some v := by
  have := congrArg (fun l => l[0]?) h
  simpa using this

theorem open_fld {n : Nat} {cs : List Value} {d : DataW H} {pl : List MemPlace} (h : DataW.trod enc Tryz.prog w 0 sp held n 92 cs = some (d, pl)) : ∃ f : Doc.Fld, cs = fldC f ∧ f.name.size ≤ Rows.uptoBulk d := by
  obtain ⟨xs, m, _, hx, hcl, hxl, hf⟩ := DataW.trod_struct Tryz.underlying92 h
  rw [Tryz.cFld] at hcl
  have hl : xs.length = 2 := hxl
  have g0 := hf 0 _ rfl
  have g1 := hf 1 _ rfl
  rw [List.getElem?_eq_getElem (by omega)] at g0 g1
  obtain ⟨s, e0, hd0, _⟩ := DataW.trod_string Tryz.underlying9 g0
  obtain ⟨k, e1, _, _⟩ := DataW.trod_int Tryz.underlying3 g1
  have e0 := drop_take_one e0
  have e1 := drop_take_one e1
  have hs : s.size ≤ Rows.uptoBulk d := by
    have hd : d = .agg (xs.map (·.1)) := congrArg Prod.fst hx
    have := bulk_mem (H := H) (d := xs[0].1) (l := xs.map (·.1)) (List.mem_map.2 ⟨xs[0], List.getElem_mem _, rfl⟩)
    rw [hd]
    rw [hd0] at this
    simp only [Rows.uptoBulk, Array.length_toList] at this ⊢
    have hz : s.size = s.data.size := rfl
    omega
  refine ⟨⟨s, k⟩, ?_, hs⟩
  match cs, hcl, e0, e1 with
  | [x, y], _, e0, e1 => simp at e0 e1; subst e0 e1; rfl

theorem open_val {n : Nat} {cs : List Value} {d : DataW H} {pl : List MemPlace} (h : DataW.trod enc Tryz.prog w 0 sp held n 94 cs = some (d, pl)) : ∃ v : Doc.Val, cs = valC v := by
  obtain ⟨xs, m, _, hx, hcl, hxl, hf⟩ := DataW.trod_struct Tryz.underlying94 h
  rw [Tryz.cVal] at hcl
  have hl : xs.length = 3 := hxl
  have g0 := hf 0 _ rfl
  have g1 := hf 1 _ rfl
  have g2 := hf 2 _ rfl
  rw [List.getElem?_eq_getElem (by omega)] at g0 g1 g2
  obtain ⟨k, e0, _, _⟩ := DataW.trod_int Tryz.underlying3 g0
  obtain ⟨n', e1, _, _⟩ := DataW.trod_int Tryz.underlying3 g1
  obtain ⟨s, e2, _, _⟩ := DataW.trod_string Tryz.underlying9 g2
  have e0 := drop_take_one e0
  have e1 := drop_take_one e1
  have e2 := drop_take_one e2
  refine ⟨⟨k, n', s⟩, ?_⟩
  match cs, hcl, e0, e1, e2 with
  | [x, y, z], _, e0, e1, e2 => simp at e0 e1 e2; subst e0 e1 e2; rfl

/-- A step, opened. -/
theorem open_step {n : Nat} {cs : List Value} {d : DataW H} {pl : List MemPlace} (h : DataW.trod enc Tryz.prog w 0 sp held n 87 cs = some (d, pl)) :
    ∃ s : StepD, cs = stepC s ∧ (Rows.uptoBulk d ≤ 1048576 → StepOk w s) := by
  obtain ⟨xs, m, _, hx, hcl, hxl, hf⟩ := DataW.trod_struct Tryz.underlying87 h
  rw [Tryz.cStep] at hcl
  have hl : xs.length = 7 := hxl
  have g0 := hf 0 _ rfl
  have g1 := hf 1 _ rfl
  have g2 := hf 2 _ rfl
  have g3 := hf 3 _ rfl
  have g4 := hf 4 _ rfl
  have g5 := hf 5 _ rfl
  have g6 := hf 6 _ rfl
  rw [List.getElem?_eq_getElem (by omega)] at g0 g1 g2 g3 g4 g5 g6
  obtain ⟨k, e0, _, _⟩ := DataW.trod_int Tryz.underlying3 g0
  obtain ⟨e, e1, _, w1⟩ := DataW.trod_int Tryz.underlying3 g1
  obtain ⟨a, e2, _, w2⟩ := DataW.trod_int Tryz.underlying3 g2
  obtain ⟨s, e3, _, _⟩ := DataW.trod_string Tryz.underlying9 g3
  have y0 := drop_take_one e0
  have y1 := drop_take_one e1
  have y2 := drop_take_one e2
  have y3 := drop_take_one e3
  clear e0 e1 e2 e3
  obtain ⟨c0, c1, c2, c3, c4, c5, c6, rfl⟩ : ∃ c0 c1 c2 c3 c4 c5 c6, cs = [c0, c1, c2, c3, c4, c5, c6] := by
    match cs, hcl with
    | [c0, c1, c2, c3, c4, c5, c6], _ => exact ⟨_, _, _, _, _, _, _, rfl⟩
  simp at y0 y1 y2 y3
  subst y0 y1 y2 y3
  have g4' : DataW.trod enc Tryz.prog w 0 sp held m 85 [c4] = some xs[4] := by simpa [Tryz.cFs] using g4
  have g5' : DataW.trod enc Tryz.prog w 0 sp held m 33 [c5] = some xs[5] := by simpa [Tryz.cIs] using g5
  have g6' : DataW.trod enc Tryz.prog w 0 sp held m 55 [c6] = some xs[6] := by simpa [Tryz.cVs] using g6
  obtain ⟨fs, i4, q4, _⟩ := open_list Tryz.underlying85 Tryz.cFld (by decide) g4' fldC (fun f d => f.name.size ≤ Rows.uptoBulk d) fldC_len (fun n cs' d pl h => open_fld h)
  obtain ⟨is, i5, q5, b5⟩ := open_list Tryz.underlying33 Tryz.cInt (by decide) g5' (fun n : Int => [Value.int .i64 n]) (fun _ _ => True) (fun _ => rfl) (fun n cs' d pl h => by
    obtain ⟨z, rfl, _, _⟩ := DataW.trod_int Tryz.underlying3 h
    exact ⟨z, rfl, trivial⟩)
  obtain ⟨vs, i6, q6, b6⟩ := open_list Tryz.underlying55 Tryz.cVal (by decide) g6' valC (fun _ _ => True) valC_len (fun n cs' d pl h => by
    obtain ⟨v, rfl⟩ := open_val h
    exact ⟨v, rfl, trivial⟩)
  refine ⟨⟨k, e, a, s, fs, c4, is, c5, vs, c6⟩, rfl, fun hb => ?_⟩
  have hint : is.flatMap (fun n : Int => [Value.int .i64 n]) = intC is := by
    clear i5 q5 b5
    induction is with
    | nil => rfl
    | cons z r ih => rw [List.flatMap_cons, ih]; rfl
  rw [hint] at i5
  have hd : d = .agg (xs.map (·.1)) := congrArg Prod.fst hx
  subst hd
  have part : ∀ i (hi : i < xs.length), Rows.uptoBulk xs[i].1 ≤ 1048576 := fun i hi => by
    have := bulk_mem (H := H) (d := xs[i].1) (l := xs.map (·.1)) (List.mem_map.2 ⟨xs[i], List.getElem_mem hi, rfl⟩)
    simp only [Rows.uptoBulk] at hb
    omega
  have len : ∀ {β : Type} {l : List β} {y : DataW H}, Rows.uptoBulk y ≤ 1048576 → ((y = .nil ∧ l = []) ∨ ∃ elems spare, y = .slice elems spare ∧ elems.length = l.length) → l.length ≤ 1048576 := by
    intro β l y hy hq
    rcases hq with ⟨_, rfl⟩ | ⟨elems, spare, rfl, hl⟩
    · simp
    · have := bulk_len elems
      simp only [Rows.uptoBulk] at hy
      omega
  have l4 := len (part 4 (by omega)) (q4.imp id fun ⟨e, s, h, hl, _⟩ => ⟨e, s, h, hl⟩)
  have l5 := len (part 5 (by omega)) (q5.imp id fun ⟨e, s, h, hl, _⟩ => ⟨e, s, h, hl⟩)
  have l6 := len (part 6 (by omega)) (q6.imp id fun ⟨e, s, h, hl, _⟩ => ⟨e, s, h, hl⟩)
  refine ⟨(wf_i64 w1).1, (wf_i64 w1).2, (wf_i64 w2).1, (wf_i64 w2).2, fun j hj => ?_, by show fs.length ≤ _; omega, by show is.length ≤ _; omega, by show vs.length ≤ _; omega, i4, i5, i6, b5, b6⟩
  rcases q4 with ⟨_, rfl⟩ | ⟨elems, spare, he4, hl', hq⟩
  · simp at hj
  · have hje : j < elems.length := by rw [hl']; exact hj
    have h1 := hq j hj hje
    have h2 := bulk_mem (List.getElem_mem hje)
    have h3 := part 4 (by omega)
    rw [he4] at h3
    simp only [Rows.uptoBulk] at h3
    show fs[j].name.size ≤ 140737488351232
    omega

/-- A script, opened. -/
theorem open_script {fuel : Nat} {sv : Value} {x : DataW H × List MemPlace} (h : DataW.trod enc Tryz.prog w 0 sp held fuel 29 [sv] = some x) (hb : Rows.uptoBulk x.1 ≤ 1048576) :
    ∃ ds : List StepD, ds.length ≤ 2000000 ∧ Sl w sv ds.length (ds.flatMap stepC) ∧ ∀ j (h : j < ds.length), StepOk w ds[j] := by
  obtain ⟨ds, i0, q0, _⟩ := open_list Tryz.underlying29 Tryz.cStep (by decide) h stepC (fun s d => Rows.uptoBulk d ≤ 1048576 → StepOk w s) (fun _ => rfl) (fun n cs' d pl h => open_step h)
  refine ⟨ds, ?_, i0.sl, fun j hj => ?_⟩
  · rcases q0 with ⟨_, rfl⟩ | ⟨elems, spare, hx, hl, _⟩
    · simp
    · have := bulk_len elems
      rw [hx] at hb
      simp only [Rows.uptoBulk] at hb
      omega
  · rcases q0 with ⟨_, rfl⟩ | ⟨elems, spare, hx, hl, hq⟩
    · simp at hj
    · have hje : j < elems.length := by rw [hl]; exact hj
      refine hq j hj hje ?_
      have := bulk_mem (List.getElem_mem hje)
      rw [hx] at hb
      simp only [Rows.uptoBulk] at hb
      omega
end
end Go.Proofs.YtbnelaoeblhndaaGreatDoor
/- For every list of texts the law Plains returns true: each text is answered by rummage.Plain as the document's answer has it, and the list reads behind the call as it read before. Its condition: the package-level variables that the program's text lays hold, when the call begins, what that text lays (the card ties them); it speaks of the pruned copy of the project that the statement was turned from. -/
namespace Go.Proofs.YtbnelaoeblhndaaGreatDoor
open Go.ChangeShapes Go.WideShapes Go.ChangeAt Go.WideMaps Go.WideElems Go.RowKit

theorem own : ownKnob Tryz.prog.godebug = none := by kernel_rfl
theorem laidOut_all : laidOutB Tryz.prog = true := by kernel_rfl
theorem signs_at : Tryz.prog.globalNamed "rummage/syntax.signs" = some 1 := by kernel_rfl
theorem signs_type : (Tryz.prog.globals[1]?).map (·.type) = some 255 := by kernel_rfl
theorem tens_type : (Tryz.prog.globals[3]?).map (·.type) = some 300 := by kernel_rfl
theorem cells_str : Tryz.prog.cellsOf 9 = 1 := by kernel_rfl
theorem cells_signs : Tryz.prog.cellsOf 255 = 9 := by kernel_rfl
theorem cells_u64 : Tryz.prog.cellsOf 105 = 1 := by kernel_rfl
theorem cells_tens : Tryz.prog.cellsOf 300 = 20 := by kernel_rfl

theorem bytes_of_list {s : ByteArray} {l : List UInt8} (h : (l : List UInt8) = s.data.toList) : s = ⟨l.toArray⟩ := by
  apply ByteArray.ext
  apply Array.ext'
  rw [h]

/-- The cells of an array of strings. -/
theorem cells_of_strs {P : Program} {w : World} {base : Nat} {sp : Nat → Bool} {held : Bool} {fuel : Nat} {t e : TypeId} {n : Nat} {cs : List Value} {ls : List (List UInt8)} {p : List MemPlace}
    (ht : P.underlying t = some (.array n e)) (he : P.underlying e = some .string) (hce : P.cellsOf e = 1) (hct : P.cellsOf t = n)
    (h : DataW.trod (fun _ => ()) P w base sp held fuel t cs = some (.agg (ls.map fun l => .lit (.string l)), p)) : ∀ i (hi : i < ls.length), cs[i]? = some (.string ⟨ls[i].toArray⟩) := by
  obtain ⟨xs, m, rfl, hx, hlen, hn, hel⟩ := DataW.trod_array ht h
  simp only [Prod.mk.injEq, DataW.agg.injEq] at hx
  obtain ⟨hx, _⟩ := hx
  intro i hi
  have hxl : xs.length = ls.length := by
    have := congrArg List.length hx
    simpa using this.symm
  have hi2 : i < n := by omega
  have h1 := hel i hi2
  rw [hce, Nat.mul_one, List.getElem?_eq_getElem (by omega)] at h1
  obtain ⟨s, hc, hs, _⟩ := DataW.trod_string he h1
  have hxi : xs[i].1 = .lit (.string ls[i]) := by
    have := congrArg (fun l => l[i]?) hx
    simp only [List.getElem?_map] at this
    rw [List.getElem?_eq_getElem hi, List.getElem?_eq_getElem (by omega : i < xs.length)] at this
    simpa using this.symm
  rw [hs] at hxi
  simp only [DataW.lit.injEq, Lit.string.injEq] at hxi
  rw [← bytes_of_list hxi.symm]
  have hd : (cs.drop i).take 1 = [cs[i]'(by omega)] := by
    rw [List.drop_eq_getElem_cons (by omega)]
    rfl
  rw [hd] at hc
  rw [List.getElem?_eq_getElem (by omega)]
  exact congrArg some (List.cons.inj hc).1

theorem lt_of_var {P : Program} {W : World} {n : String} {g : Nat} {cs : Array Value} (hg : P.globalNamed n = some g) (h : W.var? P n = some cs) : g < W.heap.size := by
  unfold World.var? at h
  rw [hg] at h
  simp only [Option.bind_some] at h
  cases hh : W.heap[g]? with
  | none => rw [hh] at h; cases h
  | some o => exact lt_block hh

/-- What the row's condition gives the walks. -/
theorem of_laid {W : World} (h : laidMetH Tryz.prog Rows.plainsRow.laid W) : Laid W := by
  rw [MakeChecks.laidMetH_plain _ _ _ (by kernel_rfl)] at h
  obtain ⟨ps, ⟨g0, t0, cs0, f0, p0, q0, hg0, ht0, hv0, hd0, ⟨g1, t1, cs1, f1, p1, q1, hg1, ht1, hv1, hd1, ⟨g2, t2, cs2, f2, p2, q2, hg2, ht2, hv2, hd2, ⟨g3, t3, cs3, f3, p3, q3, hg3, ht3, hv3, hd3, ⟨g4, t4, cs4, f4, p4, q4, hg4, ht4, hv4, hd4, ⟨g5, t5, cs5, f5, p5, q5, hg5, ht5, hv5, hd5, _, _⟩, _⟩, _⟩, _⟩, _⟩, _⟩, _, _⟩ := h
  obtain rfl := Option.some.inj (tens_at.symm.trans hg2)
  obtain rfl := Option.some.inj (tens_type.symm.trans ht2)
  obtain rfl := Option.some.inj (signs_at.symm.trans hg5)
  obtain rfl := Option.some.inj (signs_type.symm.trans ht5)
  have hs := cells_of_strs (ls := [[33, 61], [60, 61], [62, 61], [61], [60], [62], [40], [41], [44]]) Tryz.underlying255 Tryz.underlying9 cells_str cells_signs hd5
  have hc : ∀ i (hi : i < 9), W.cell? ⟨1, i, none⟩ = some (.string ⟨([[33, 61], [60, 61], [62, 61], [61], [60], [62], [40], [41], [44]] : List (List UInt8))[i].toArray⟩) := by
    intro i hi
    have h1 := World.var?_cell hg5 hv5 i
    have h2 := hs i hi
    rw [Array.getElem?_toList] at h2
    rw [h1, h2]
  refine ⟨⟨hc 0 (by decide), hc 1 (by decide), hc 2 (by decide), hc 3 (by decide), hc 4 (by decide), hc 5 (by decide), hc 6 (by decide), hc 7 (by decide), hc 8 (by decide)⟩, ?_, lt_of_var hg5 hv5, lt_of_var hg2 hv2⟩
  unfold Tens Lib.TabIs
  rw [hv2, ← Lib.cells_of_tab (zs := Lib.pow10Tab) Tryz.underlying300 Tryz.underlying105 cells_u64 cells_tens hd2]

/-- The door's own heap meets the condition: closed facts. -/
theorem door_met (os : Os) (args : Array Value) : laidMetH Tryz.prog Rows.plainsRow.laid ((World.doorLaid Tryz.prog 400 os).forCall (fun _ _ => 0) ⟨#[], args, []⟩).memory :=
  laidMetH_of_parts3 (fuel := 8) (laidMet_of_run' 8 (by kernel_rfl) (by kernel_rfl)) (by kernel_rfl) (by kernel_rfl)

set_option maxRecDepth 100000 in
theorem plains_lifted (os : Os) (started : os.Started) (H : Type) (enc : TypeId × Value → H) :
    ReturnsInHanded {} Tryz.checked os 3 .any (fun w args => (Rows.plainsSpec.pre enc Tryz.prog Tryz.f3 [] false w args ∧ laidMetH Tryz.prog Rows.plainsRow.laid w) ∧ sizedMet enc Tryz.prog Tryz.f3 (OpenSpec.ofChange Rows.plainsSpec) false w args)
      (Rows.plainsSpec.post enc Tryz.prog Tryz.f3 false true false false) := by
  refine returnsInHanded_of_change_and (C := Tryz.checked) (X := fun w _ => laidMetH Tryz.prog Rows.plainsRow.laid w) (fun _ _ _ hh h => h.of_heap hh) own started (by kernel_rfl) Tryz.func3
    (ChangeSpec.witness_shaped (enc := enc) (C := Tryz.checked) (os := os) (X := fun w _ => laidMetH Tryz.prog Rows.plainsRow.laid w) false (World.doorLaid Tryz.prog 400 os) #[.slice none 0 0] 8 rfl (World.shaped_of_RefB (by kernel_rfl) (by kernel_rfl)) (by kernel_rfl) (by kernel_rfl) (by kernel_rfl) (door_met os _)) ?_
  intro W base args ds gs before hval0 hW _ _ hL _
  have hval : ∀ (j : Nat) t v, Tryz.f3.params[j]? = some t → args[j]? = some v → Value.okWide Tryz.prog W .any base t v := hval0
  have hW' := hW
  obtain ⟨p, q, hA0, hV, rfl, hfz, hnd⟩ := hW
  have hA : DataW.TrodAll enc Tryz.prog W 0 (fun _ => true) true Tryz.f3.params.toList args.toList ds p := hA0
  rw [Tryz.params3] at hA hval
  obtain ⟨v0, d0, rfl, rfl, h0⟩ := trodAll_one hA
  obtain ⟨rfl, rfl⟩ := trodVars_none hV
  obtain ⟨a0, len, cap, rfl⟩ := okWide_slice Tryz.underlying22 (hval 0 22 v0 rfl rfl)
  have h0k := h0
  obtain ⟨fuel, hf⟩ := h0
  have hlaid := of_laid hL
  clear hA0 hval0
  simp only [List.append_nil] at hW'
  have hlt : ∀ x ∈ p, x.block < W.heap.size := fun x hx => by simpa using hW'.lt x hx
  have hargs : ∀ (W' : World), Below W.heap.size W W' → DataW.Trod enc Tryz.prog W' 0 (fun b => decide (b < W.heap.size)) true 22 (.slice a0 len cap) d0 p :=
    fun W' hn => Below.trod laidOut_all (by kernel_rfl) (of_decide_eq_true (by kernel_rfl)) h0k hn hlt
  have fin : ∀ e W', (e = Ending.returned (.bool true) ∧ Below W.heap.size W W') → ∃ v, e = Ending.returned v ∧ Rows.plainsSpec.post enc Tryz.checked.prog Tryz.f3 false true false false W #[.slice a0 len cap] v W' := by
    intro e W' ⟨he, hnx⟩
    subst he
    exact ⟨_, rfl, _, _, _, [], p, [], hW', trodAll_mk1 (shut_bool Tryz.underlying4 _), trodAll_mk1 (hargs _ hnx), rfl, hnx.frame _, fun h => by cases h⟩
  rcases open_strings Tryz.underlying22 Tryz.underlying9 cells_str hf with ⟨hcs, hx⟩ | ⟨a, len', cap', ss, hcs, _, hl, hm, hz, hx, hcell, hws⟩
  · simp [Value.cells] at hcs
    obtain ⟨rfl, rfl, rfl⟩ := hcs
    exact (law_none none 0 W hlaid).mono (fun e W' h => fin e W' h)
  · simp [Value.cells] at hcs
    obtain ⟨rfl, rfl, rfl⟩ := hcs
    simp only [Prod.mk.injEq] at hx
    obtain ⟨rfl, rfl⟩ := hx
    simp only [if_true] at hz
    by_cases hl0 : len = 0
    · subst hl0
      exact (law_none (some a) cap W hlaid).mono (fun e W' h => fin e W' h)
    · obtain ⟨b, off, spot⟩ := a
      have hspot : spot = none := by simpa [Addr.add] using World.cell?_spot (hcell 0 (by omega))
      subst hspot
      have hbW : b < W.heap.size := hlt (.cell b off) (MemPlace.mem_row.2 ⟨0, by omega, by simp⟩)
      exact (law_any b off len cap ss W hlaid (by omega) (by unfold maxLen at hm; omega) hbW (fun j hj => by rw [← add_plain]; exact hcell j hj)).mono (fun e W' h => fin e W' h)

theorem plains_said : Rows.PlainsSaid :=
  OpenClaim.holds_of_wide 3 Tryz.f3 rfl rfl rfl rfl rfl rfl rfl ⟨rfl, rfl, rfl, rfl, rfl⟩ rfl rfl rfl rfl rfl (by kernel_rfl) Tryz.func3 (by kernel_rfl)
    (of_decide_eq_true (by kernel_rfl)) (by unfold Func.isWrapper; first | (rw [if_pos (by decide +kernel)]; kernel_rfl) | (rw [if_neg (by decide +kernel)]; exact ⟨rfl, rfl⟩))
    (fun os started H enc _ => plains_lifted os started H enc)

theorem plains_card : Rows.PlainsCardSaid :=
  Claim7.holds_tied_plain_at .later [] [.data, .data, .data, .sentinel, .sentinel, .data] true Rows.plainsCard.stood.harness true
    plains_said (fun _ h => by cases h) (by kernel_rfl) (fun _ h => by cases h) plains_row_tie rfl ⟨rfl, rfl⟩ (by kernel_rfl) rfl
    (fun f fn hf hfn => by
      obtain rfl : f = 3 := Option.some.inj ((show Tryz.prog.funcNamed Rows.plainsRow.func = some 3 by kernel_rfl).symm.trans hf) |>.symm
      obtain rfl : fn = Tryz.f3 := (Option.some.inj (Tryz.func3.symm.trans hfn)).symm
      exact ⟨by kernel_rfl, fun j t ht => by
        rw [Tryz.params3] at ht
        have hm : t ∈ [22] := by simpa using Array.mem_of_getElem? ht
        have hall : ([22].all fun u => !Tryz.prog.wantsStandIn u) = true := by kernel_rfl
        exact (show Tryz.prog.wantsStandIn t = false by simpa using List.all_eq_true.1 hall t hm)⟩)
    (by kernel_rfl)
end Go.Proofs.YtbnelaoeblhndaaGreatDoor
/- For every script of bulk at most 1048576 the law Things returns true: each step is answered by the store as the document has it, and the script reads behind the call as it read before. Its condition: the package-level variables that the program's text lays hold, when the call begins, what that text lays (the card ties them); it speaks of the pruned copy of the project that the statement was turned from. -/
namespace Go.Proofs.YtbnelaoeblhndaaGreatDoor
open Go.ChangeShapes Go.WideShapes Go.ChangeAt Go.WideMaps Go.WideElems Go.RowKit

set_option maxRecDepth 100000 in
theorem things_any (ds : List StepD) (hdl : ds.length ≤ 2000000) (sv : Value) (w : World) (hs : Sl w sv ds.length (ds.flatMap stepC)) (hds : ∀ j (h : j < ds.length), StepOk w ds[j]) (hL : Laid w) :
    Calls Tryz.prog 4 #[sv] w fun e w' => e = .returned (.bool true) ∧ Below w.heap.size w w' := by
  have HP : Hid _ := plays_any ds hdl sv hs hds hL
  clear hs hds hL
  go_enter Tryz.func4, Tryz.ntmps4
  go_wp2_with fail
  refine Calls.mono HP.out ?_
  rintro e w1 ⟨rfl, hb1⟩
  go_wp2_with fail
  go_ret
  exact ⟨rfl, hb1⟩

set_option maxRecDepth 100000 in
theorem things_lifted (os : Os) (started : os.Started) (H : Type) (enc : TypeId × Value → H) (F : Stop.Interp) :
    ReturnsInHanded {} Tryz.checked os 4 .any ((Rows.OpenSpec.upto Rows.thingsSpec).preRow enc Tryz.prog Tryz.f4 Rows.thingsUptoRow.domain false Rows.thingsUptoRow.laid) (((Rows.OpenSpec.upto Rows.thingsSpec).at F).post enc Tryz.prog Tryz.f4 false true false false) := by
  obtain ⟨places, hx⟩ : ∃ places, DataW.whole enc Tryz.prog ((World.doorLaid Tryz.prog 400 os).forCall (fun _ _ => 0) ⟨#[], #[.slice none 0 0], []⟩).memory Tryz.f4.params.toList Rows.thingsSpec.vars false #[Value.slice none 0 0].toList 8 = some ([.nil], [], places) := ⟨[], by kernel_rfl⟩
  refine returnsInHanded_of_row (C := Tryz.checked) (s := Rows.OpenSpec.upto Rows.thingsSpec) own started (by kernel_rfl) Tryz.func4
    (witness_row_atRef (enc := enc) (C := Tryz.checked) false (World.doorLaid Tryz.prog 400 os) #[.slice none 0 0] rfl (by kernel_rfl) (by kernel_rfl) (by kernel_rfl)
      (OpenSpec.preRow_of_cond 8 hx (by kernel_rfl) (fun k hk => by cases hk; kernel_rfl) (by kernel_rfl) (door_met os _))) ?_
  intro W base args ds gs before hval0 hW _ hcond _ hL _ _
  have hval : ∀ (j : Nat) t v, Tryz.f4.params[j]? = some t → args[j]? = some v → Value.okWide Tryz.prog W .any base t v := hval0
  have hW' := hW
  obtain ⟨p, q, hA0, hV, rfl, hfz, hnd⟩ := hW
  have hA : DataW.TrodAll enc Tryz.prog W 0 (fun _ => true) true Tryz.f4.params.toList args.toList ds p := hA0
  rw [Tryz.params4] at hA hval
  obtain ⟨v0, d0, rfl, rfl, h0⟩ := trodAll_one hA
  obtain ⟨rfl, rfl⟩ := trodVars_none hV
  obtain ⟨a0, len, cap, rfl⟩ := okWide_slice Tryz.underlying29 (hval 0 29 v0 rfl rfl)
  have h0k := h0
  obtain ⟨fuel, hf⟩ := h0
  have hlaid := of_laid (show laidMetH Tryz.prog Rows.plainsRow.laid W from hL)
  have hb : Rows.uptoBulk d0 ≤ 1048576 := by
    have h1 : Rows.uptoBulkAll ([d0] ++ []) ≤ 1048576 := of_decide_eq_true (hcond _ rfl)
    simp only [List.append_nil, Rows.uptoBulkAll] at h1
    omega
  clear hA0 hval0
  simp only [List.append_nil] at hW'
  have hlt : ∀ x ∈ p, x.block < W.heap.size := fun x hx => by simpa using hW'.lt x hx
  have hargs : ∀ (W' : World), Below W.heap.size W W' → DataW.Trod enc Tryz.prog W' 0 (fun b => decide (b < W.heap.size)) true 29 (.slice a0 len cap) d0 p :=
    fun W' hn => Below.trod laidOut_all (by kernel_rfl) (of_decide_eq_true (by kernel_rfl)) h0k hn hlt
  obtain ⟨l, hl, hs, hok⟩ := open_script (sv := .slice a0 len cap) (by simpa [Value.cells] using hf) hb
  refine (things_any l hl _ W hs hok hlaid).mono fun e W' ⟨he, hnx⟩ => ?_
  subst he
  exact ⟨_, rfl, _, _, _, [], p, [], hW', trodAll_mk1 (shut_bool Tryz.underlying4 _), trodAll_mk1 (hargs _ hnx), rfl, hnx.frame _, fun h => by cases h⟩

theorem things_said : Rows.ThingsUptoSaid :=
  OpenClaim.holds_of_cond 4 Tryz.f4 rfl rfl rfl rfl rfl rfl rfl ⟨rfl, rfl, rfl, rfl, rfl⟩ rfl rfl rfl rfl rfl (by kernel_rfl) Tryz.func4 (by kernel_rfl)
    (of_decide_eq_true (by kernel_rfl)) (by unfold Func.isWrapper; first | (rw [if_pos (by decide +kernel)]; kernel_rfl) | (rw [if_neg (by decide +kernel)]; exact ⟨rfl, rfl⟩))
    (fun os started H enc _ F => by rw [OpenClaim.pre_eq_preRow]; exact things_lifted os started H enc F)

theorem things_card : Rows.ThingsUptoCardSaid :=
  Claim7.holds_tied_plain_at .later [] [.data, .data, .data, .sentinel, .sentinel, .data] true Rows.thingsUptoCard.stood.harness true
    things_said (fun _ h => by cases h) (by kernel_rfl) (fun _ h => by cases h) thingsUpto_row_tie rfl ⟨rfl, rfl⟩ (by kernel_rfl) rfl
    (fun f fn hf hfn => by
      obtain rfl : f = 4 := Option.some.inj ((show Tryz.prog.funcNamed Rows.thingsUptoRow.func = some 4 by kernel_rfl).symm.trans hf) |>.symm
      obtain rfl : fn = Tryz.f4 := (Option.some.inj (Tryz.func4.symm.trans hfn)).symm
      exact ⟨by kernel_rfl, fun j t ht => by
        rw [Tryz.params4] at ht
        have hm : t ∈ [29] := by simpa using Array.mem_of_getElem? ht
        have hall : ([29].all fun u => !Tryz.prog.wantsStandIn u) = true := by kernel_rfl
        exact (show Tryz.prog.wantsStandIn t = false by simpa using List.all_eq_true.1 hall t hm)⟩)
    (by kernel_rfl)
#print axioms things_card
end Go.Proofs.YtbnelaoeblhndaaGreatDoor
