/- The walk of the program's checkPut. -/
import Derived.Test.YtbnelaoeblhndaaGreatDoorThProg1
import Derived.Test.YtbnelaoeblhndaaGreatDoorThRef2
namespace Go.Proofs.YtbnelaoeblhndaaGreatDoor
open Go.RowKit
set_option maxRecDepth 100000

section
variable {w : World}

set_option maxHeartbeats 2000000 in
theorem cput_arg (xb : Nat) (fs : List Doc.Fld) (space id : Int) (fv sv vv : Value) (c0 : w.cell? ⟨xb, 0, none⟩ = some fv) (c1 : w.cell? ⟨xb, 1, none⟩ = some (.int .i64 space)) (hf : Sl w fv fs.length (fldsC fs)) (spot : List Int) (vals : List Doc.Val) (hs : Sl w sv spot.length (intC spot)) (hv : Sl w vv vals.length (valsC vals)) (hl : spot.length ≤ 9223372036854775807) (hbad : Doc.putArg fs space id spot vals) :
    Calls Tryz.prog 42 #[.pointer (some ⟨xb, 0, none⟩), .int .i64 id, sv, vv] w fun e w' => e = .returned (.int .i64 1) ∧ w' = w := by
  have HC : Hid _ := isSpot_any space spot hl sv hs
  obtain ⟨fb, fc, rfl⟩ := hf.slice
  obtain ⟨vb, vc, rfl⟩ := hv.slice
  obtain ⟨sbk, sc, rfl⟩ := hs.slice
  clear hs hv hf
  obtain ⟨x, HX⟩ : ∃ x, Hid (x = Doc.spotB space spot) := ⟨Doc.spotB space spot, rfl⟩
  unfold Doc.putArg at hbad
  rw [← HX.out] at hbad
  obtain ⟨g, HG⟩ : ∃ g, Hid (g = (decide (0 ≤ id) && decide (id ≤ 4095))) := ⟨(decide (0 ≤ id) && decide (id ≤ 4095)), rfl⟩
  have hb2 : g = false ∨ (g = true ∧ x = false) ∨ (g = true ∧ x = true ∧ vals.length ≠ fs.length) := by
    have := HG.out
    rcases hbad with k1 | ⟨k1, k2⟩ | ⟨k1, k2, k3⟩ | ⟨k1, k2, k3, k4⟩
    · left; rw [this]; simp; omega
    · left; rw [this]; simp; omega
    · right; left; exact ⟨by rw [this]; simp; omega, k3⟩
    · right; right; exact ⟨by rw [this]; simp; omega, k3, k4⟩
  clear hbad
  rcases hb2 with rfl | ⟨rfl, rfl⟩ | ⟨rfl, rfl, k4⟩
  · go_enter Tryz.func42, Tryz.ntmps42
    go_wp2_with fail
    refine (pwithin_any id 0 4095).mono ?_
    rw [← HG.out]
    rintro e w1 ⟨rfl, hw⟩
    subst hw
    go_wp2_with fail
    go_ret
    exact ⟨rfl, rfl⟩
  all_goals
    go_enter Tryz.func42, Tryz.ntmps42
    go_wp2_with fail
    refine (pwithin_any id 0 4095).mono ?_
    rw [← HG.out]
    rintro e w1 ⟨rfl, hw⟩
    subst hw
    go_wp2_with fail
    refine Calls.mono HC.out ?_
    rw [← HX.out]
    rintro e w2 ⟨rfl, hw⟩
    subst hw
    go_wp2_with fail
    all_goals first
      | (go_ret; exact ⟨rfl, rfl⟩)
      | (exfalso; simp_all; done)
      | (exfalso; simp_all; omega)

set_option maxHeartbeats 4000000 in
theorem cput_any (xb : Nat) (hxb : xb < w.heap.size) (fs : List Doc.Fld) (hkind : ∀ j (h : j < fs.length), fs[j].kind = 1 ∨ fs[j].kind = 2) (space id : Int) (fv sv vv : Value) (c0 : w.cell? ⟨xb, 0, none⟩ = some fv) (c1 : w.cell? ⟨xb, 1, none⟩ = some (.int .i64 space)) (hf : Sl w fv fs.length (fldsC fs)) (spot : List Int) (vals : List Doc.Val) (hs : Sl w sv spot.length (intC spot)) (hv : Sl w vv vals.length (valsC vals)) (hl : spot.length ≤ 9223372036854775807) (hvl : vals.length ≤ 1000) (hv0 : 0 < vals.length)
    (k1 : 0 ≤ id) (k2 : id ≤ 4095) (k3 : Doc.spotB space spot = true) (k4 : vals.length = fs.length) :
    Calls Tryz.prog 42 #[.pointer (some ⟨xb, 0, none⟩), .int .i64 id, sv, vv] w fun e w' => Below w.heap.size w w' ∧
      ((e = .returned (.int .i64 3) ∧ ∃ j, ∃ (h1 : j < vals.length) (h2 : j < fs.length), Doc.goodV vals[j] fs[j].kind = false) ∨
       (e = .returned (.int .i64 0) ∧ ∀ j (h1 : j < vals.length) (h2 : j < fs.length), Doc.goodV vals[j] fs[j].kind = true)) := by
  have HC : Hid _ := isSpot_any space spot hl sv hs
  have K3 : Hid (Doc.spotB space spot = true) := k3
  have hg : (decide (0 ≤ id) && decide (id ≤ 4095)) = true := by simp; omega
  have HG : Hid ((decide (0 ≤ id) && decide (id ≤ 4095)) = true) := hg
  obtain ⟨sbk, sc, rfl⟩ := hs.slice
  rcases hv.has with ⟨h0, _⟩ | ⟨_, vb, vo, vc, rfl, hvc, hvlt, hvr⟩
  · omega
  rcases hf.has with ⟨h0, _⟩ | ⟨_, fb, fo, fc, rfl, hfc, hflt, hfr⟩
  · omega
  have HVR : Hid _ := hvr
  have HFR : Hid _ := hfr
  have HKD : Hid _ := hkind
  clear hs hv hf k3 hvr hfr hg k1 k2 hkind
  go_enter Tryz.func42, Tryz.ntmps42
  go_wp2_with fail
  refine (pwithin_any id 0 4095).mono ?_
  rw [HG.out]
  rintro e w1 ⟨rfl, hw⟩
  subst hw
  go_wp2_with fail
  refine Calls.mono HC.out ?_
  rw [K3.out]
  rintro e w2 ⟨rfl, hw⟩
  subst hw
  go_wp2_with fail
  go_loopw [35] (fun iv wr => ∃ k : Nat, k ≤ fs.length ∧ iv = .int .i64 k ∧ Below w2.heap.size w2 wr ∧ Hid (∀ j (_ : j < k) (h1 : j < vals.length) (h2 : j < fs.length), Doc.goodV vals[j] fs[j].kind = true)) (fun iv _ => fs.length - (intOf iv).toNat)
  case atStart => exact ⟨0, Nat.zero_le _, rfl, Below.refl _ _, fun j hj => by omega⟩
  case round =>
    obtain ⟨k, hk, rfl, hb, HB⟩ := hrel
    have hcs : ∀ (b o : Nat) (u : Value), b < w2.heap.size → w2.cell? ⟨b, o, none⟩ = some u → wr.cell? ⟨b, o, none⟩ = some u := fun b o u hb' hu => (hb.cell (p := ⟨b, o, none⟩) hb').trans hu
    have e0 := hcs _ _ _ hxb c0
    have hsz := hb.size
    have hx1 : xb < wr.heap.size := by omega
    have hx2 : vb < wr.heap.size := by omega
    have hx3 : fb < wr.heap.size := by omega
    by_cases hk2 : k < fs.length
    · have hk3 : k < vals.length := by omega
      have r0 := hcs _ _ _ hvlt (HVR.out (k * 3) (.int .i64 vals[k].k) (by unfold valsC; rw [show k * 3 = k * 3 + 0 from rfl, flat_at valC 3 valC_len vals k hk3 0 (by omega)]; rfl))
      have r1 := hcs _ _ _ hvlt (HVR.out (k * 3 + 1) (.int .i64 vals[k].n) (by unfold valsC; rw [flat_at valC 3 valC_len vals k hk3 1 (by omega)]; rfl))
      have r2 := hcs _ _ _ hvlt (HVR.out (k * 3 + 2) (.string vals[k].s) (by unfold valsC; rw [flat_at valC 3 valC_len vals k hk3 2 (by omega)]; rfl))
      have q1 := hcs _ _ _ hflt (HFR.out (k * 2 + 1) (.int .i64 fs[k].kind) (by unfold fldsC; rw [flat_at fldC 2 fldC_len fs k (by omega) 1 (by omega)]; rfl))
      rw [← Nat.add_assoc] at r1 r2 q1
      obtain ⟨x, HX⟩ : ∃ x, Hid (x = vals[k]) := ⟨vals[k], rfl⟩
      obtain ⟨kd, HK⟩ : ∃ kd, Hid (kd = fs[k].kind) := ⟨fs[k].kind, rfl⟩
      have hkd : Hid (kd = 1 ∨ kd = 2) := (show kd = 1 ∨ kd = 2 by rw [HK.out]; exact HKD.out k hk2)
      rw [← HX.out] at r0 r1 r2
      rw [← HK.out] at q1
      obtain ⟨gd, HGD⟩ : ∃ gd, Hid (gd = Doc.goodV x kd) := ⟨Doc.goodV x kd, rfl⟩
      cases gd with
      | false =>
        go_wp2_with fail
        go_region_with (go_at_call 67; go_must (go_fit (fits_any (w := (wr.alloc (.cells #[.int .i64 x.k, .int .i64 x.n, .string x.s] 94)).drew) x kd hkd.out)); rw [← HGD.out]; rintro r w3 ⟨rfl, hb3⟩)
        all_goals
          go_wp2_with fail
          go_ret
          refine ⟨(hb.alloc hsz _).drew.trans (hb3.mono (by show w2.heap.size ≤ (wr.heap.push _).size; simp; omega)), .inl ⟨rfl, k, hk3, hk2, ?_⟩⟩
          rw [← HX.out, ← HK.out]
          exact HGD.out.symm
      | true =>
        go_wp2_with fail
        go_region_with (go_at_call 67; go_must (go_fit (fits_any (w := (wr.alloc (.cells #[.int .i64 x.k, .int .i64 x.n, .string x.s] 94)).drew) x kd hkd.out)); rw [← HGD.out]; rintro r w3 ⟨rfl, hb3⟩)
        all_goals
          go_wp2_with fail
          go_roundw
          case rel =>
            refine ⟨k + 1, by omega, by go_num, (hb.alloc hsz _).drew.trans (hb3.mono (by show w2.heap.size ≤ (wr.heap.push _).size; simp; omega)), fun j hj h1 h2 => ?_⟩
            by_cases h : j = k
            · subst h; rw [← HX.out, ← HK.out]; exact HGD.out.symm
            · exact HB.out j (by omega) h1 h2
          case measure => simp [intOf]; omega
    · obtain rfl : k = fs.length := by omega
      go_wp2_with fail
      go_ret
      exact ⟨hb, .inr ⟨rfl, fun j h1 h2 => HB.out j h2 h1 h2⟩⟩
end
end Go.Proofs.YtbnelaoeblhndaaGreatDoor
