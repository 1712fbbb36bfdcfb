/- The walk of the statement Near, whole. -/
import Derived.Test.YtbnelaoeblhndaaGreatDoorFiNrA
import Derived.BigGuard
import Derived.Deep.CutRange
namespace Go.Proofs.YtbnelaoeblhndaaGreatDoor
open Go.RowKit
set_option maxRecDepth 100000

theorem chk_far (L : List Doc.Raw) : farK (storeK L) [0, 0] 4000 = 0 := by
  have h : storeK L ((4000 : Nat) : Int) = some ([0, 0], [⟨1, 1, ⟨#[]⟩⟩, ⟨2, 0, ⟨#[97]⟩⟩]) := by simp [storeK, putT]
  unfold farK
  rw [h]
  rfl
theorem far_two {s : List Int} {x0 y0 : Int} (hs : s.length = 2) : ∃ a b, s = [a, b] ∧ Doc.far s [x0, y0] = (a - x0) * (a - x0) + (b - y0) * (b - y0) := by
  match s, hs with
  | [a, b], _ => exact ⟨a, b, rfl, by simp [Doc.far, Doc.farTo]⟩

section
variable {w : World}
set_option maxHeartbeats 16000000 in
theorem near_any (hL : LaidF w) (L : List Doc.Raw) (hll : L.length ≤ 9223372036854775807) (h64 : ∀ t ∈ L, Raw64 t) (tv : Value) (ht : Sl w tv L.length (rawsC L)) (R : List Int) (hR : ∀ x ∈ R, In64 x) (hrl : R.length ≤ 9223372036854775807) (rv : Value) (hrv : Sl w rv R.length (intC R)) (x y m : Int) (hx : In64 x) (hy : In64 y) (hm : In64 m) :
    Calls Tryz.prog 11 #[tv, rv, .int .i64 x, .int .i64 y, .int .i64 m] w fun e w' => e = .returned (.bool true) ∧ Below w.heap.size w w' := by
  have HFI : Hid _ := filled_any hL.sg hL.g1 L hll h64 tv ht
  have HFT : Hid (∀ W : World, Below w.heap.size w W → Calls Tryz.prog 17 #[rv] W fun e w' => ∃ f d A, e = .returned (.string f) ∧ FilK f d A ∧ Below W.heap.size W w') := fun W hW => kfilter_any R hR hrl rv (hrv.below hW)
  obtain ⟨qx, ex, hqx, HPX⟩ := pick_all x hx 21 (by decide) (by decide)
  obtain ⟨qy, ey, hqy, HPY⟩ := pick_all y hy 21 (by decide) (by decide)
  obtain ⟨k, ek, hk12, HPM⟩ := pick_all m hm 12 (by decide) (by decide)
  clear ex ey ek
  obtain ⟨ta, tc, htv⟩ := ht.slice
  subst htv
  obtain ⟨ra, rc, hrs⟩ := hrv.slice
  subst hrs
  have HLL : Hid _ := hL
  have g1 := hL.g1
  have g2 := hL.g2
  obtain ⟨x0, HX0⟩ : ∃ x0 : Int, Hid ((qx : Int) - 10 = x0) := ⟨_, rfl⟩
  obtain ⟨y0, HY0⟩ : ∃ x0 : Int, Hid ((qy : Int) - 10 = x0) := ⟨_, rfl⟩
  have wx : wrap64 ((qx : Int) - 10) = x0 := by rw [HX0.out]; have := HX0.out; exact wrap_id (by omega) (by omega)
  have wy : wrap64 ((qy : Int) - 10) = y0 := by rw [HY0.out]; have := HY0.out; exact wrap_id (by omega) (by omega)
  have hx0 : -10 ≤ x0 ∧ x0 ≤ 10 := by have := HX0.out; omega
  have hy0 : -10 ≤ y0 ∧ y0 ≤ 10 := by have := HY0.out; omega
  have HSPB : Hid (Doc.spotB 2 [x0, y0] = true) := by
    show _ = _
    simp only [Doc.spotB, List.all_cons, List.all_nil, Doc.inSpot, Bool.and_true, Bool.and_eq_true, decide_eq_true_eq, List.length_cons, List.length_nil, beq_iff_eq]
    omega
  clear ht h64 hL hrv hR
  go_enter Tryz.func11, Tryz.ntmps11
  go_wp2_with fail
  refine Calls.mono HFI.out ?_
  rintro e w1 ⟨sb, rfl, hp1, hb1⟩
  have HP1 : Hid _ := hp1
  have HB1 : Hid _ := hb1
  have HLW : Hid (∀ W : World, Below w1.heap.size w1 W → LaidF W ∧ ProgSt W (fun k => w.heap.size ≤ k ∧ k < w1.heap.size) sb Doc.fsK 2 (storeK L)) := fun W hW =>
    ⟨HLL.out.below (HB1.out.trans (hW.mono HB1.out.size)) g1 g2, ProgSt.kept HP1.out (fun k hk _ => hW.block k hk.2) (fun k hk _ => hk)⟩
  clear hp1 hb1
  go_wp2_with fail
  refine Calls.mono (HFT.out _ HB1.out) ?_
  rintro e w2 ⟨f, d, A, rfl, hfk, hb2⟩
  have HFK : Hid _ := hfk
  have hfs := hfk.len
  have hds := hfk.dep
  have HB2 : Hid (Below w1.heap.size w1 w2) := hb2
  clear hfk hb2
  go_wp2_with fail
  refine Calls.mono (HPX.out _) ?_
  rintro e w3 ⟨rfl, hw3⟩
  rw [hw3]
  clear hw3 w3
  go_wp2_with fail
  refine Calls.mono (HPY.out _) ?_
  rintro e w3 ⟨rfl, hw3⟩
  rw [hw3]
  clear hw3 w3
  obtain ⟨W3, HW3⟩ : ∃ W3, Hid (W3 = w2.alloc (.cells #[.int .i64 x0, .int .i64 y0] 3)) := ⟨_, rfl⟩
  have hnw : W3.heap[w2.heap.size]? = some (.cells #[.int .i64 x0, .int .i64 y0] 3 (0, 0)) := by rw [HW3.out]; exact heap_alloc_new w2 _
  have HNW : Hid _ := hnw
  have HQ3 : Hid (Below w1.heap.size w1 W3) := by rw [HW3.out]; exact HB2.out.alloc HB2.out.size _
  have HSPS : Hid (∀ W : World, Below W3.heap.size W3 W → Sl W (.slice (some ⟨w2.heap.size, 0, none⟩) 2 2) 2 (intC [x0, y0])) := fun W hW => (sl_new (cs := intC [x0, y0]) HNW.out (by decide) rfl).below hW
  clear hnw
  go_wp2_with fail
  rw [HX0.out, HY0.out, ← HW3.out]
  refine Calls.mono (HPM.out _) ?_
  rintro e w3 ⟨rfl, hw3⟩
  rw [hw3]
  clear hw3 w3
  have HCH : Hid _ := chosen_fil (HLW.out _ HQ3.out).2 (HLW.out _ HQ3.out).1 HFK.out.fil (by omega) (by omega)
  go_wp2_with fail
  refine Calls.mono HCH.out ?_
  rintro e w4 ⟨v4, ys4, rfl, hy4, hs4, hb4⟩
  obtain ⟨c4, d4, hv4⟩ := hs4.slice
  subst hv4
  have HY4 : Hid _ := hy4
  have HS4 : Hid _ := hs4
  have HB34 : Hid _ := hb4
  have HQ4 : Hid (Below w1.heap.size w1 w4) := HQ3.out.trans (hb4.mono HQ3.out.size)
  have HN1 : Hid _ := nearest_fil (HLW.out _ HQ4.out).2 (HLW.out _ HQ4.out).1 HFK.out.fil (by omega) (by omega) [x0, y0] (.slice (some ⟨w2.heap.size, 0, none⟩) 2 2) (HSPS.out _ hb4) HSPB.out k (by omega)
  clear hy4 hs4 hb4
  go_wp2_with fail
  refine Calls.mono HN1.out ?_
  rintro e w5 ⟨v5, ys5, rfl, hy5, hs5, hb5⟩
  have HB35 : Hid (Below W3.heap.size W3 w5) := HB34.out.trans (hb5.mono HB34.out.size)
  have HB45 : Hid _ := hb5
  have HQ5 : Hid (Below w1.heap.size w1 w5) := HQ4.out.trans (hb5.mono HQ4.out.size)
  have n54 : nums ys5 = nums ys4 := nums_congr (fun i hi => by rw [hy5 i hi, HY4.out i hi])
  rw [n54] at hs5
  obtain ⟨c5, d5, hv5⟩ := hs5.slice
  subst hv5
  have HS5 : Hid _ := hs5
  have HN2 : Hid _ := nearest_fil (HLW.out _ HQ5.out).2 (HLW.out _ HQ5.out).1 HFK.out.fil (by omega) (by omega) [x0, y0] (.slice (some ⟨w2.heap.size, 0, none⟩) 2 2) (HSPS.out _ HB35.out) HSPB.out 5000 (by omega)
  clear hy5 hs5 hb5 n54
  go_wp2_with fail
  refine Calls.mono HN2.out ?_
  rintro e w6 ⟨v6, ys6, rfl, hy6, hs6, hb6⟩
  have HB36 : Hid (Below W3.heap.size W3 w6) := HB35.out.trans (hb6.mono HB35.out.size)
  have HB46 : Hid (Below w4.heap.size w4 w6) := HB45.out.trans (hb6.mono HB45.out.size)
  have HB56 : Hid _ := hb6
  have HQ6 : Hid (Below w1.heap.size w1 w6) := HQ5.out.trans (hb6.mono HQ5.out.size)
  have n64 : nums ys6 = nums ys4 := nums_congr (fun i hi => by rw [hy6 i hi, HY4.out i hi])
  have n5k : min 5000 (nums ys4).length = (nums ys4).length := by have := nums_short ys4; omega
  rw [n64, n5k] at hs6
  obtain ⟨c6, d6, hv6⟩ := hs6.slice
  subst hv6
  have HS6 : Hid _ := hs6
  obtain ⟨W7, HW7⟩ : ∃ W7, Hid (W7 = w6.alloc (.cells #[.int .i64 0, .int .i64 0] 3)) := ⟨_, rfl⟩
  have hb67 : Below w6.heap.size w6 W7 := by rw [HW7.out]; exact (Below.refl _ _).alloc (Nat.le_refl _) _
  have HQ7 : Hid (Below w1.heap.size w1 W7) := HQ6.out.trans (hb67.mono HQ6.out.size)
  have HB67 : Hid _ := hb67
  have HN3 : Hid _ := nearest_in (HLW.out _ HQ7.out).2 (HLW.out _ HQ7.out).1 (s := Doc.chkS) (a := Doc.chkA) Doc.read_chk [0, 0] (.slice (some ⟨w6.heap.size, 0, none⟩) 2 2) (by rw [HW7.out]; exact sl_new (heap_alloc_new w6 _) (by decide) rfl) (by show _ = _; kernel_rfl) 1 (by omega)
  clear hy6 hs6 hb6 n64 n5k hb67
  go_wp2_with fail
  rw [← HW7.out]
  refine Calls.mono HN3.out ?_
  rintro e w8 ⟨v8, ys8, rfl, hy8, hs8, hb8⟩
  have HB68 : Hid (Below w6.heap.size w6 w8) := HB67.out.trans (hb8.mono HB67.out.size)
  have HB38 : Hid (Below W3.heap.size W3 w8) := HB36.out.trans (HB68.out.mono HB36.out.size)
  have HB48 : Hid (Below w4.heap.size w4 w8) := HB46.out.trans (HB68.out.mono HB46.out.size)
  have HB58 : Hid (Below w5.heap.size w5 w8) := HB56.out.trans (HB68.out.mono HB56.out.size)
  have HQ8 : Hid (Below w1.heap.size w1 w8) := HQ6.out.trans (HB68.out.mono HQ6.out.size)
  have h4000 : 4000 ∈ nums ys8 := mem_nums.2 ⟨by decide, by rw [hy8 4000 (by decide)]; exact chk_says L⟩
  have hp8 : min 1 (nums ys8).length = 1 := by have := List.length_pos_of_mem h4000; omega
  rw [hp8] at hs8
  obtain ⟨x8, hx8, hz8⟩ := hit_first (storeK L) [0, 0] (nums_nodup ys8) h4000 (chk_far L)
  rcases hs8.has with ⟨h0', _⟩ | ⟨_, cb, co, cc, ev, _, _, hr8⟩
  · omega
  subst ev
  have hc8 := (hit_cells hr8 hx8).2
  rw [hz8, Nat.zero_mul, Nat.add_zero] at hc8
  obtain ⟨l, HL⟩ : ∃ l, Hid (nums ys4 = l) := ⟨_, rfl⟩
  have HND : Hid (l.Nodup) := by rw [← HL.out]; exact nums_nodup ys4
  have hln : l.length ≤ 4096 := by rw [← HL.out]; exact nums_short ys4
  have HSOME : Hid (∀ j ∈ l, j < 4096 ∧ ∃ t, storeK L (j : Int) = some t) := fun j hj => by
    rw [← HL.out, mem_nums] at hj
    have h1 := hj.2
    rw [HY4.out j hj.1] at h1
    have h2 := yes_some h1
    exact ⟨hj.1, Option.isSome_iff_exists.1 h2⟩
  rw [HL.out] at HS4 HS5 HS6 ⊢
  obtain ⟨n, HN⟩ : ∃ n, Hid (l.length = n) := ⟨_, rfl⟩
  obtain ⟨ka, HKA⟩ : ∃ n', Hid (min k n = n') := ⟨_, rfl⟩
  have hka : min (k : Int) (n : Int) = (ka : Int) := by have := HKA.out; omega
  have hkan : ka ≤ n := by have := HKA.out; omega
  rw [HN.out] at HS4 HS5 HS6 hln ⊢
  rw [HKA.out] at HS5 ⊢
  clear hy8 hs8 hb8 h4000 hp8 hx8 hz8 hr8
  go_wp2_with fail
  go_loopw [26] (fun i wr => ∃ i' : Nat, i' ≤ n ∧ i = .int .i64 i' ∧ Below w8.heap.size w8 wr) (fun i _ => n - (intOf i).toNat)
  case atStart => exact ⟨0, Nat.zero_le _, rfl, Below.refl _ _⟩
  case round =>
    obtain ⟨i, hi, rfl, hB⟩ := hrel
    have hsz := hB.size
    by_cases hi2 : i < n
    · obtain ⟨q, HQI⟩ : ∃ q, Hid ((hitsK (storeK L) [x0, y0] l)[i]? = some q) := ⟨_, List.getElem?_eq_getElem (by rw [hitsK_len, HN.out]; exact hi2)⟩
      obtain ⟨jd, hjl, hqe⟩ := hit_mem (List.mem_of_getElem? HQI.out)
      obtain ⟨hj4, tt, htt⟩ := HSOME.out jd hjl
      have hQr : Below w1.heap.size w1 wr := HQ8.out.trans (hB.mono HQ8.out.size)
      have HGT : Hid (Calls Tryz.prog 32 #[.pointer (some ⟨sb, 0, none⟩), .int .i64 (jd : Int)] wr fun e w' => ∃ pb pc v2 n2 m2, e = .returned (.tuple #[.slice (some ⟨pb, 0, none⟩) 2 pc, .slice v2 n2 m2, .int .i64 0]) ∧ Sl w' (.slice (some ⟨pb, 0, none⟩) 2 pc) 2 (intC tt.1) ∧ Below wr.heap.size wr w') ∧ tt.1.length = 2 ∧ Doc.Near tt.1 := by
        obtain ⟨a1, a2, a3, a4, a5, hp⟩ := (HLW.out wr hQr).2
        have hf := (hp.fits (jd : Int) tt htt).1
        have hl2 : tt.1.length = 2 := Doc.spot_len (n := 2) hf
        refine ⟨(pget_some hp (jd : Int) tt htt).mono ?_, hl2, Doc.spot_near hf⟩
        rintro e w' ⟨v1, v2, rfl, r1, r2, hb⟩
        have s1 := rowSl r1
        rw [hl2] at r1 s1
        obtain ⟨pb, pc, rfl⟩ := own_slice' r1 (by decide)
        obtain ⟨v2', m2, rfl⟩ := row_slice r2
        exact ⟨pb, pc, v2', _, m2, rfl, s1, hb⟩
      obtain ⟨HG1, hl2, hnear⟩ := HGT
      obtain ⟨a0, a1, hta, hfar⟩ := far_two (x0 := x0) (y0 := y0) hl2
      have hqf : q = ((jd : Int), (a0 - x0) * (a0 - x0) + (a1 - y0) * (a1 - y0)) := by
        rw [hqe]; unfold farK; rw [htt]; simp only; rw [hfar]
      have ha0 := hnear a0 (by rw [hta]; simp)
      have ha1 := hnear a1 (by rw [hta]; simp)
      rw [hta] at HG1
      have s0 := Doc.sq_le (d := a0 - x0) (by omega) (by omega)
      have s1 := Doc.sq_le (d := a1 - y0) (by omega) (by omega)
      have k0 : wrap64 (a0 - x0) = a0 - x0 := wrap_id (by omega) (by omega)
      have k1 : wrap64 (a1 - y0) = a1 - y0 := wrap_id (by omega) (by omega)
      have k2 : wrap64 ((a0 - x0) * (a0 - x0)) = (a0 - x0) * (a0 - x0) := wrap_id (by omega) (by omega)
      have k3 : wrap64 ((a1 - y0) * (a1 - y0)) = (a1 - y0) * (a1 - y0) := wrap_id (by omega) (by omega)
      have k4 : wrap64 ((a0 - x0) * (a0 - x0) + (a1 - y0) * (a1 - y0)) = (a0 - x0) * (a0 - x0) + (a1 - y0) * (a1 - y0) := wrap_id (by omega) (by omega)
      rcases HS6.out.has with ⟨h0', _⟩ | ⟨_, bb, bo, bc, ev, hbc, hbl, hrb⟩
      · omega
      cases ev
      have HRB : Hid (∀ (W : World), Below w8.heap.size w8 W → ∀ (i : Nat) (z : Int × Int), (hitsK (storeK L) [x0, y0] l)[i]? = some z → W.cell? ⟨bb, bo + i * 2, none⟩ = some (.int .i64 z.1) ∧ W.cell? ⟨bb, bo + i * 2 + 1, none⟩ = some (.int .i64 z.2)) := fun W hW i z hz => by
        have hB6 : Below w6.heap.size w6 W := HB68.out.trans (hW.mono HB68.out.size)
        exact hit_cells (fun k u hu => (hB6.cell (p := ⟨bb, bo + k, none⟩) hbl).trans (hrb k u hu)) hz
      have hc0 := HRB.out wr hB i q HQI.out
      rw [hqf] at hc0
      obtain ⟨u0, u1⟩ := hc0
      have HB : Hid _ := hB
      have HIN : Hid (∀ W : World, Below w8.heap.size w8 W → Calls Tryz.prog 26 #[.slice c4 n d4, .int .i64 (jd : Int)] W fun e w' => e = .returned (.bool true) ∧ Below W.heap.size W w') := fun W hW => by
        have hB4 : Below w4.heap.size w4 W := HB48.out.trans (hW.mono HB48.out.size)
        have hs := HS4.out.below hB4
        have h1 := kin_any (w := W) (l.map Int.ofNat) (by rw [List.length_map, HN.out]; omega) (.slice c4 n d4) (by rw [List.length_map, HN.out]; exact hs) (jd : Int)
        rw [natC_any hjl] at h1
        exact h1
      have HG : Hid _ := HG1
      clear hrb hB hQr HG1 hta hfar hqe hnear
      go_wp2_with fail
      refine Calls.mono HG.out ?_
      rintro e w9 ⟨pb, pc, v2, n2, m2, rfl, hsp9, hb9⟩
      have HQ9 : Hid (Below w8.heap.size w8 w9) := HB.out.trans (hb9.mono HB.out.size)
      have HSP9 : Hid _ := hsp9
      clear hb9 hsp9 u0 u1
      have hc9 := HRB.out w9 HQ9.out i q HQI.out
      rw [hqf] at hc9
      obtain ⟨u0, u1⟩ := hc9
      go_wp2_with fail
      refine Calls.mono (HIN.out _ HQ9.out) ?_
      rintro e w10 ⟨rfl, hb10⟩
      have HQA : Hid (∀ nq, Below w8.heap.size w8 (w10.drewN nq)) := fun nq =>
        have h := HQ9.out.trans (hb10.mono HQ9.out.size)
        ⟨h.os, h.tape, h.output, h.size, h.block⟩
      have hBA : Below w8.heap.size w8 w10 := HQ9.out.trans (hb10.mono HQ9.out.size)
      rcases (HSP9.out.below hb10).has with ⟨h0', _⟩ | ⟨_, pb', po', pc', ev, _, hpbl, hrp⟩
      · omega
      cases ev
      have z0 : w10.cell? ⟨pb, 0, none⟩ = some (.int .i64 a0) := hrp 0 _ rfl
      have z1 : w10.cell? ⟨pb, 1, none⟩ = some (.int .i64 a1) := hrp 1 _ rfl
      have hnw : w10.heap[w2.heap.size]? = some (.cells #[.int .i64 x0, .int .i64 y0] 3 (0, 0)) := by
        have h1 : Below W3.heap.size W3 w10 := HB38.out.trans (hBA.mono HB38.out.size)
        exact (h1.block _ (lt_block HNW.out)).trans HNW.out
      have z2 := blk_cell hnw 0 _ rfl
      have z3 := blk_cell hnw 1 _ rfl
      clear u0 u1
      have hcA := HRB.out w10 hBA i q HQI.out
      rw [hqf] at hcA
      obtain ⟨u0, u1⟩ := hcA
      clear hb10 hrp hnw
      go_wp2_with fail
      go_quiet (fail)
      have HBB := HQA.out nq
      clear k0 k1 k2 k3 k4 z0 z1 z2 z3 u0 u1 hBA HQA
      generalize w10.drewN nq = w11 at *
      obtain ⟨f0, HF0⟩ : ∃ f0, Hid ((a0 - x0) * (a0 - x0) + (a1 - y0) * (a1 - y0) = f0) := ⟨_, rfl⟩
      have hq2 : q = ((jd : Int), f0) := by rw [hqf, HF0.out]
      have HQB : Hid (∀ nq, Below w8.heap.size w8 (w11.drewN nq)) := fun nq => ⟨HBB.os, HBB.tape, HBB.output, HBB.size, HBB.block⟩
      have hu := HRB.out w11 HBB i q HQI.out
      rw [hq2] at hu
      obtain ⟨u0, u1⟩ := hu
      clear hqf s0 s1
      rcases Nat.eq_zero_or_pos i with hi0 | hpos
      · subst hi0
        have hd0 : decide ((0 : Int) < ((0 : Nat) : Int)) = false := rfl
        go_wp2_with fail
        go_quiet (fail)
        have HBC := HQB.out nq
        have hucC := HRB.out _ HBC (0) q HQI.out
        rw [hq2] at hucC
        obtain ⟨y1, y2⟩ := hucC
        rw [Nat.zero_mul, Nat.add_zero] at y1 y2
        have HQC : Hid (∀ nq2, Below w8.heap.size w8 ((w11.drewN nq).drewN nq2)) := fun nq2 => ⟨HBC.os, HBC.tape, HBC.output, HBC.size, HBC.block⟩
        by_cases hka2 : 0 < ka
        · have hd1 : decide (((0 : Nat) : Int) < (ka : Int)) = true := decide_eq_true (by omega)
          rcases HS5.out.has with ⟨h0', _⟩ | ⟨_, ab, ao, ac, ev, hac, hal, hra⟩
          · omega
          cases ev
          have hB5 : Below w5.heap.size w5 (w11.drewN nq) := HB58.out.trans (HBC.mono HB58.out.size)
          obtain ⟨y3, y4⟩ := hit_cells (w := w11.drewN nq) (i := 0) (x := q) (fun k u hu => (hB5.cell (p := ⟨ab, ao + k, none⟩) hal).trans (hra k u hu)) HQI.out
          rw [hq2] at y3 y4
          rw [Nat.zero_mul, Nat.add_zero] at y3 y4
          clear hra hB5 HBC
          generalize w11.drewN nq = w12 at *
          go_wp2_with fail
          go_quiet (fail)
          go_wp2_with fail
          go_roundw
          case rel => exact ⟨0 + 1, by omega, by go_num, HQC.out _⟩
          case measure => simp [intOf]; omega
        · have hd1 : decide (((0 : Nat) : Int) < (ka : Int)) = false := decide_eq_false (by omega)
          clear HBC
          generalize w11.drewN nq = w12 at *
          go_wp2_with fail
          go_quiet (fail)
          go_wp2_with fail
          go_roundw
          case rel => exact ⟨0 + 1, by omega, by go_num, HQC.out _⟩
          case measure => simp [intOf]; omega
      · obtain ⟨r, rfl⟩ : ∃ r, i = r + 1 := ⟨i - 1, by omega⟩
        have hd0 : decide ((0 : Int) < ((r + 1 : Nat) : Int)) = true := decide_eq_true (by omega)
        obtain ⟨qp, HQP⟩ : ∃ q, Hid ((hitsK (storeK L) [x0, y0] l)[r]? = some q) := ⟨_, List.getElem?_eq_getElem (by rw [hitsK_len, HN.out]; omega)⟩
        have hbef := hits_at (storeK L) [x0, y0] HND.out HQP.out HQI.out (by omega)
        have hup := HRB.out w11 HBB r qp HQP.out
        obtain ⟨idp, fp⟩ := qp
        rw [hq2] at hbef
        unfold hitBefore at hbef
        simp only at hbef hup
        obtain ⟨y5, y6⟩ := hup
        have hlt0 : decide (f0 < fp) = false := decide_eq_false (by omega)
        rcases hbef with hbf | ⟨hbf, hbi⟩
        · have heq0 : (f0 == fp) = false := by simp; omega
          go_wp2_with fail
          go_quiet (fail)
          have HBC := HQB.out nq
          have hucC := HRB.out _ HBC (r + 1) q HQI.out
          rw [hq2] at hucC
          obtain ⟨y1, y2⟩ := hucC
          have HQC : Hid (∀ nq2, Below w8.heap.size w8 ((w11.drewN nq).drewN nq2)) := fun nq2 => ⟨HBC.os, HBC.tape, HBC.output, HBC.size, HBC.block⟩
          by_cases hka2 : r + 1 < ka
          · have hd1 : decide (((r + 1 : Nat) : Int) < (ka : Int)) = true := decide_eq_true (by omega)
            have hd2 : decide ((r : Int) + 1 < (ka : Int)) = true := decide_eq_true (by omega)
            rcases HS5.out.has with ⟨h0', _⟩ | ⟨_, ab, ao, ac, ev, hac, hal, hra⟩
            · omega
            cases ev
            have hB5 : Below w5.heap.size w5 (w11.drewN nq) := HB58.out.trans (HBC.mono HB58.out.size)
            obtain ⟨y3, y4⟩ := hit_cells (w := w11.drewN nq) (i := r + 1) (x := q) (fun k u hu => (hB5.cell (p := ⟨ab, ao + k, none⟩) hal).trans (hra k u hu)) HQI.out
            rw [hq2] at y3 y4
            clear hra hB5 HBC
            generalize w11.drewN nq = w12 at *
            go_wp2_with fail
            go_quiet (fail)
            go_wp2_with fail
            go_roundw
            case rel => exact ⟨r + 1 + 1, by omega, by go_num, HQC.out _⟩
            case measure => simp [intOf]; omega
          · have hd1 : decide (((r + 1 : Nat) : Int) < (ka : Int)) = false := decide_eq_false (by omega)
            have hd2 : decide ((r : Int) + 1 < (ka : Int)) = false := decide_eq_false (by omega)
            clear HBC
            generalize w11.drewN nq = w12 at *
            go_wp2_with fail
            go_quiet (fail)
            go_wp2_with fail
            go_roundw
            case rel => exact ⟨r + 1 + 1, by omega, by go_num, HQC.out _⟩
            case measure => simp [intOf]; omega
        · have heq0 : (f0 == fp) = true := by simp; omega
          have hle0 : decide ((jd : Int) ≤ idp) = false := decide_eq_false (by omega)
          go_wp2_with fail
          go_quiet (fail)
          have HBC := HQB.out nq
          have hucC := HRB.out _ HBC (r + 1) q HQI.out
          rw [hq2] at hucC
          obtain ⟨y1, y2⟩ := hucC
          have HQC : Hid (∀ nq2, Below w8.heap.size w8 ((w11.drewN nq).drewN nq2)) := fun nq2 => ⟨HBC.os, HBC.tape, HBC.output, HBC.size, HBC.block⟩
          by_cases hka2 : r + 1 < ka
          · have hd1 : decide (((r + 1 : Nat) : Int) < (ka : Int)) = true := decide_eq_true (by omega)
            have hd2 : decide ((r : Int) + 1 < (ka : Int)) = true := decide_eq_true (by omega)
            rcases HS5.out.has with ⟨h0', _⟩ | ⟨_, ab, ao, ac, ev, hac, hal, hra⟩
            · omega
            cases ev
            have hB5 : Below w5.heap.size w5 (w11.drewN nq) := HB58.out.trans (HBC.mono HB58.out.size)
            obtain ⟨y3, y4⟩ := hit_cells (w := w11.drewN nq) (i := r + 1) (x := q) (fun k u hu => (hB5.cell (p := ⟨ab, ao + k, none⟩) hal).trans (hra k u hu)) HQI.out
            rw [hq2] at y3 y4
            clear hra hB5 HBC
            generalize w11.drewN nq = w12 at *
            go_wp2_with fail
            go_quiet (fail)
            go_wp2_with fail
            go_roundw
            case rel => exact ⟨r + 1 + 1, by omega, by go_num, HQC.out _⟩
            case measure => simp [intOf]; omega
          · have hd1 : decide (((r + 1 : Nat) : Int) < (ka : Int)) = false := decide_eq_false (by omega)
            have hd2 : decide ((r : Int) + 1 < (ka : Int)) = false := decide_eq_false (by omega)
            clear HBC
            generalize w11.drewN nq = w12 at *
            go_wp2_with fail
            go_quiet (fail)
            go_wp2_with fail
            go_roundw
            case rel => exact ⟨r + 1 + 1, by omega, by go_num, HQC.out _⟩
            case measure => simp [intOf]; omega
    · obtain rfl : i = n := by omega
      go_wp2_with fail
      go_ret
      exact ⟨rfl, HB1.out.trans ((HQ8.out.trans (hB.mono HQ8.out.size)).mono HB1.out.size)⟩
end
end Go.Proofs.YtbnelaoeblhndaaGreatDoor
