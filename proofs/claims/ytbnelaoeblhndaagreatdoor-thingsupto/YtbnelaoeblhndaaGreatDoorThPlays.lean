/- The statement's plays, and the walk of the statement Things. -/
import Derived.Test.YtbnelaoeblhndaaGreatDoorThBegin
namespace Go.Proofs.YtbnelaoeblhndaaGreatDoor
open Go.RowKit
set_option maxRecDepth 100000

/-- A step of the script, as it is handed in. -/
structure StepD where
  k : Int
  e : Int
  a : Int
  s : ByteArray
  fs : List Doc.Fld
  Fv : Value
  spot : List Int
  Lv : Value
  vals : List Doc.Val
  Vv : Value

def stepC (d : StepD) : List Value := [.int .i64 d.k, .int .i64 d.e, .int .i64 d.a, .string d.s, d.Fv, d.Lv, d.Vv]

/-- What is known of a step that is handed in. -/
structure StepOk (w : World) (d : StepD) : Prop where
  e1 : -9223372036854775808 ≤ d.e
  e2 : d.e ≤ 9223372036854775807
  a1 : -9223372036854775808 ≤ d.a
  a2 : d.a ≤ 9223372036854775807
  nm : ∀ j (h : j < d.fs.length), d.fs[j].name.size ≤ 140737488351232
  fl : d.fs.length ≤ 1000000000
  sl : d.spot.length ≤ 1000000000
  vl : d.vals.length ≤ 1000000000
  fi : In w d.Fv d.fs.length (fldsC d.fs)
  li : In w d.Lv d.spot.length (intC d.spot)
  vi : In w d.Vv d.vals.length (valsC d.vals)
  lb : 0 < d.spot.length → ∀ k, d.Lv.ownBlock = some k → k < w.heap.size
  vb : 0 < d.vals.length → ∀ k, d.Vv.ownBlock = some k → k < w.heap.size

section
variable {B : Nat} {w : World} {wb n g : Nat}

/-- Get leaves the stores as they are. -/
theorem step_get' (hB : B ≤ w.heap.size) (hS : LawSt B w wb n g) (hn : 0 < n) (hn2 : n ≤ 100000000) (hg : g ≤ 200000000) (e a : Int) (he1 : 0 ≤ e) (he2 : e ≤ 9223372036854775807) (ha1 : 0 ≤ a) (ha2 : a ≤ 1000) :
    Calls Tryz.prog 37 #[.pointer (some ⟨wb, 0, none⟩), .agg #[.int .i64 5, .int .i64 e, .int .i64 a, .string ⟨#[]⟩, .slice none 0 0, .slice none 0 0, .slice none 0 0]] w fun r w' => r = .returned (.bool true) ∧ Below B w w' ∧ LawSt B w' wb n (g + 1) := by
  obtain ⟨own, ps, lv, nsv, knv, vsv, kvv, rows, marks, vrows, vmarks, hA, rfl, h1, h2⟩ := hS
  refine step_pair hA hn hn2 5 e a (by decide) (by decide) (by decide) (by omega) he2 _ _ _ _ _ _ _ _ _ _ _ (fun h => by cases h) (fun hk i hi W hW => ?_) (fun h => by cases h) (fun _ _ h => absurd rfl h)
  refine (gets_any (Nat.le_trans hB hW.size) (law_below hA hW) (by omega) (by omega) i hi a (by omega) (by omega)).mono ?_
  rintro e' w' ⟨rfl, hb, own', nsv', knv', vsv', kvv', rows', marks', vrows', vmarks', hA', hr1, hr2⟩
  exact ⟨rfl, rfl, (hW.mono hB).trans hb, own', ps, lv, nsv', knv', vsv', kvv', rows', marks', vrows', vmarks', hA', rfl, by omega, by omega⟩

theorem kept_st (hS : LawSt B w wb n g) (hg : g ≤ 200000000) : Calls Tryz.prog 38 #[.pointer (some ⟨wb, 1, none⟩)] w fun e w' => e = .returned (.bool true) ∧ Below w.heap.size w w' ∧ LawSt B w' wb n g := by
  obtain ⟨own, ps, lv, nsv, knv, vsv, kvv, rows, marks, vrows, vmarks, hA, rfl, h1, h2⟩ := hS
  refine (kept_any hA.blk hA.bkn hA.bkv (by omega) (by omega)).mono ?_
  rintro e w' ⟨rfl, hb⟩
  exact ⟨rfl, hb, _, ps, lv, nsv, knv, vsv, kvv, rows, marks, vrows, vmarks, law_below hA hb, rfl, h1, h2⟩

theorem st_len (hS : LawSt B w wb n g) : ∃ b c, w.cell? ⟨wb, 0, none⟩ = some (.slice b n c) ∧ B ≤ wb ∧ wb < w.heap.size := by
  obtain ⟨own, ps, lv, nsv, knv, vsv, kvv, rows, marks, vrows, vmarks, hA, rfl, h1, h2⟩ := hS
  obtain ⟨b, c, e⟩ := row_slice hA.prs
  subst e
  exact ⟨b, c, blk_cell hA.blk 0 _ rfl, hA.wbc.1, hA.wbc.2.1⟩

theorem in_belowB {w w' : World} {sv : Value} {m : Nat} {cs : List Value} (h : In w sv m cs) (hb : Below w.heap.size w w') : In w' sv m cs := h.below hb

theorem step_script {w0 : World} (hb : Below w0.heap.size w0 w) (hS : LawSt w0.heap.size w wb n g) (hn : 0 < n) (hn2 : n ≤ 100000000) (hg : g ≤ 200000000) (hL : Laid w) (d : StepD) (hd : StepOk w0 d) (hk : d.k ≤ 5) :
    Calls Tryz.prog 37 #[.pointer (some ⟨wb, 0, none⟩), .agg #[.int .i64 d.k, .int .i64 d.e, .int .i64 d.a, .string d.s, d.Fv, d.Lv, d.Vv]] w (Stepped w0.heap.size w wb n g) := by
  obtain ⟨own, ps, lv, nsv, knv, vsv, kvv, rows, marks, vrows, vmarks, hA, rfl, h1, h2⟩ := hS
  have hs := hb.size
  exact step_any hs hA h1 h2 hg hn hn2 hL d.k d.e d.a hk hd.e1 hd.e2 hd.a1 hd.a2 d.s d.fs d.Fv hd.nm hd.fl (hd.fi.below hb) d.spot d.Lv hd.sl (hd.li.below hb) (fun h0 k e => by have := hd.lb h0 k e; exact ⟨by omega, .inl this⟩) d.vals d.Vv hd.vl (hd.vi.below hb) (fun h0 k e => by have := hd.vb h0 k e; exact ⟨by omega, .inl this⟩)

theorem law_start (w : World) : LawSt w.heap.size (w.alloc (.cells #[.slice none 0 0, .slice none 0 0, .slice none 0 0, .slice none 0 0, .slice none 0 0, .slice none 0 0, .slice none 0 0] 83)) w.heap.size 0 0 := by
  refine ⟨fun _ => 0, [], .slice none 0 0, .slice none 0 0, .slice none 0 0, .slice none 0 0, .slice none 0 0, [], [], [], [], ⟨heap_alloc_new w _, ⟨Nat.le_refl _, by simp, rfl⟩, World.ownsRow_nil _ _ _ _, fun k e => (by cases e), ⟨World.ownsRow_nil _ _ _ _, World.ownsRow_nil _ _ _ _, rfl, fun i h => (by simp at h), fun k e => (by cases e), fun k e => (by cases e)⟩, ⟨World.ownsRow_nil _ _ _ _, World.ownsRow_nil _ _ _ _, rfl, fun i h => (by simp at h), fun k e => (by cases e), fun k e => (by cases e)⟩, fun i h => (by simp at h)⟩, rfl, rfl, rfl⟩

set_option maxHeartbeats 4000000 in
theorem plays_any (ds : List StepD) (hdl : ds.length ≤ 2000000) (sv : Value) (hs : Sl w sv ds.length (ds.flatMap stepC)) (hds : ∀ j (h : j < ds.length), StepOk w ds[j]) (hL : Laid w) :
    Calls Tryz.prog 15 #[sv, .int .i64 5] w fun e w' => e = .returned (.bool true) ∧ Below w.heap.size w w' := by
  obtain ⟨sb, sc, e1⟩ := hs.slice
  subst e1
  have hb0 : Below w.heap.size w (w.alloc (.cells #[.slice none 0 0, .slice none 0 0, .slice none 0 0, .slice none 0 0, .slice none 0 0, .slice none 0 0, .slice none 0 0] 83)) := (Below.refl _ _).alloc (Nat.le_refl _) _
  have HBG : Hid _ := begins_any hb0.size (law_start w) (hL.below hb0) hL.g1 hL.g2
  have HB0 : Hid _ := hb0
  have HS : Hid _ := hs
  have HDS : Hid _ := hds
  have HL : Hid _ := hL
  clear hs hds hL hb0
  go_enter Tryz.func15, Tryz.ntmps15
  go_wp2_with fail
  refine Calls.mono HBG.out ?_
  rintro e w1 ⟨rfl, hb1, n1, g1, k1, k2, k3, hS1⟩
  have HB1 : Hid (Below w.heap.size w w1) := HB0.out.trans hb1
  have HS1 : Hid _ := hS1
  clear hb1 hS1 HBG
  go_wp2_with fail
  go_loopw [6, 7] (fun ok i wr => ok = .bool true ∧ ∃ k n g : Nat, k ≤ ds.length ∧ i = .int .i64 k ∧ 0 < n ∧ n ≤ 10 + k ∧ g ≤ 10 + k ∧ Hid (Below w.heap.size w wr) ∧ Hid (LawSt w.heap.size wr w.heap.size n g)) (fun _ i _ => ds.length - (intOf i).toNat)
  case atStart => exact ⟨rfl, 0, n1, g1, Nat.zero_le _, rfl, k1, k2, k3, HB1, HS1⟩
  case round =>
    obtain ⟨rfl, k, n, g, hk, rfl, hn0, hn1, hg1, KB, KS⟩ := hrel
    by_cases hk2 : k < ds.length
    · rcases HS.out.has with ⟨h0, _⟩ | ⟨_, b, off, cap, he, _, hlt, hr⟩
      · omega
      simp only [Value.slice.injEq] at he
      obtain ⟨rfl, _, rfl⟩ := he
      obtain ⟨d, HDD⟩ : ∃ d, Hid (d = ds[k]) := ⟨ds[k], rfl⟩
      have HDO : Hid (StepOk w d) := by rw [HDD.out]; exact HDS.out k hk2
      obtain ⟨Fb, Fc, eF⟩ := HDO.out.fi.sl.slice
      obtain ⟨Lb, Lc, eL⟩ := HDO.out.li.sl.slice
      obtain ⟨Vb, Vc, eV⟩ := HDO.out.vi.sl.slice
      have hc : ∀ c u, (stepC d)[c]? = some u → wr.cell? ⟨b, off + (k * 7 + c), none⟩ = some u := fun c u hu => by
        have h7 : c < 7 := (List.getElem?_eq_some_iff.1 hu).1
        exact (KB.out.cell (p := ⟨b, off + (k * 7 + c), none⟩) hlt).trans (hr _ u (by rw [flat_at stepC 7 (fun _ => rfl) ds k hk2 c h7, ← HDD.out]; exact hu))
      have x0 := hc 0 (.int .i64 d.k) rfl
      have x1 := hc 1 (.int .i64 d.e) rfl
      have x2 := hc 2 (.int .i64 d.a) rfl
      have x3 := hc 3 (.string d.s) rfl
      have x4 := hc 4 (.slice Fb d.fs.length Fc) (by rw [← eF]; rfl)
      have x5 := hc 5 (.slice Lb d.spot.length Lc) (by rw [← eL]; rfl)
      have x6 := hc 6 (.slice Vb d.vals.length Vc) (by rw [← eV]; rfl)
      rw [Nat.add_zero] at x0
      rw [← Nat.add_assoc] at x1 x2 x3 x4 x5 x6
      clear hr hc
      by_cases hd5 : 5 < d.k
      · go_wp2_with fail
        exact ⟨⟨rfl, k + 1, n, g, by omega, by go_num, hn0, by omega, by omega, KB, KS⟩, by simp [intOf]; omega⟩
      · have hd5' : d.k ≤ 5 := by omega
        have HC : Hid _ := step_script KB.out KS.out hn0 (by omega) (by omega) (HL.out.below KB.out) d HDO.out hd5'
        rw [eF, eL, eV] at HC
        clear eF eL eV
        go_wp2_with fail
        refine Calls.mono HC.out ?_
        rintro e' w2 ⟨rfl, hb2, n', g', q1, q2, q3, q4, hS2⟩
        have HB2 : Hid (Below w.heap.size w w2) := KB.out.trans hb2
        have HK : Hid _ := kept_st hS2 (by omega)
        obtain ⟨_, _, _, _, hwl⟩ := st_len hS2
        clear hb2 hS2 HC x0 x1 x2 x3 x4 x5 x6
        go_wp2_with fail
        refine Calls.mono HK.out ?_
        rintro e' w3 ⟨rfl, hb3, hS3⟩
        have HB3 : Hid (Below w.heap.size w w3) := HB2.out.trans (hb3.mono HB2.out.size)
        have HS3 : Hid _ := hS3
        clear hb3 hS3 HK
        go_wp2_with fail
        exact ⟨⟨rfl, k + 1, n', g', by omega, by go_num, by omega, by omega, by omega, HB3, HS3⟩, by simp [intOf]; omega⟩
    · obtain rfl : k = ds.length := by omega
      go_wp2_with fail
      go_loopw [6, 9] (fun ok i wr => ok = .bool true ∧ ∃ k g : Nat, k ≤ n ∧ i = .int .i64 k ∧ g ≤ 10 + ds.length + k * 8 ∧ Hid (Below w.heap.size w wr) ∧ Hid (LawSt w.heap.size wr w.heap.size n g)) (fun _ i _ => n - (intOf i).toNat)
      case atStart => exact ⟨rfl, 0, g, Nat.zero_le _, rfl, by omega, KB, KS⟩
      case round =>
        obtain ⟨rfl, k, g2, hk3, rfl, hg2, KB2, KS2⟩ := hrel
        obtain ⟨lb, lc, y0, _, hwl⟩ := st_len KS2.out
        by_cases hk4 : k < n
        · go_wp2_with fail
          go_loopw [6, 10] (fun ok i wr => ok = .bool true ∧ ∃ j g : Nat, j ≤ 8 ∧ i = .int .i64 j ∧ g ≤ 10 + ds.length + k * 8 + j ∧ Hid (Below w.heap.size w wr) ∧ Hid (LawSt w.heap.size wr w.heap.size n g)) (fun _ i _ => 8 - (intOf i).toNat)
          case atStart => exact ⟨rfl, 0, g2, Nat.zero_le _, rfl, by omega, KB2, KS2⟩
          case round =>
            obtain ⟨rfl, j, g3, hj, rfl, hg3, KB3, KS3⟩ := hrel
            by_cases hj8 : j < 8
            · have HC : Hid _ := step_get' KB3.out.size KS3.out hn0 (by omega) (by omega) k j (by omega) (by omega) (by omega) (by omega)
              have hj8' : (j : Int) < 8 := by omega
              go_wp2_with fail
              refine Calls.mono HC.out ?_
              rintro e' w4 ⟨rfl, hb4, hS4⟩
              have HB4 : Hid (Below w.heap.size w w4) := KB3.out.trans hb4
              have HS4 : Hid _ := hS4
              clear hb4 hS4 HC
              go_wp2_with fail
              exact ⟨⟨rfl, j + 1, g3 + 1, by omega, by go_num, by omega, HB4, HS4⟩, by simp [intOf]; omega⟩
            · obtain rfl : j = 8 := by omega
              go_wp2_with fail
              exact ⟨⟨rfl, k + 1, g3, by omega, by go_num, by omega, KB3, KS3⟩, by simp [intOf]; omega⟩
        · obtain rfl : k = n := by omega
          have HK : Hid _ := kept_st KS2.out (by omega)
          go_wp2_with fail
          refine Calls.mono HK.out ?_
          rintro e' w5 ⟨rfl, hb5, _⟩
          go_wp2_with fail
          go_ret
          exact ⟨rfl, KB2.out.trans (hb5.mono KB2.out.size)⟩
end
end Go.Proofs.YtbnelaoeblhndaaGreatDoor
