import Derived.Test.YtbnelaoeblhndaaGreatDoorThM1
import Derived.Laws.CopyRow
import Derived.Laws.MakeOwn
/- Walks of the program's within, isSpot, fits, hasName. -/
namespace Go.Proofs.YtbnelaoeblhndaaGreatDoor
open Go.RowKit
set_option maxRecDepth 100000

section
variable {w : World}

theorem pwithin_any (n a b : Int) : Calls Tryz.prog 66 #[.int .i64 n, .int .i64 a, .int .i64 b] w fun e w' => e = .returned (.bool (decide (a ≤ n) && decide (n ≤ b))) ∧ w' = w := by
  go_enter Tryz.func66, Tryz.ntmps66
  go_wp2_with fail
  all_goals
    go_ret
    refine ⟨ret_bool ?_, rfl⟩
    first | (simp [*]; done) | (simp_all; done) | (simp_all; omega)

set_option maxHeartbeats 2000000 in
theorem isSpot_any (space : Int) (l : List Int) (hl : l.length ≤ 9223372036854775807) (sv : Value) (hs : Sl w sv l.length (intC l)) :
    Calls Tryz.prog 44 #[sv, .int .i64 space] w fun e w' => e = .returned (.bool (Doc.spotB space l)) ∧ w' = w := by
  by_cases hlen : (l.length : Int) = space
  · have HSP : Hid (Doc.spotB space l = l.all Doc.inSpot) := by show _ = _; unfold Doc.spotB; rw [beq_iff_eq.2 hlen, Bool.and_true]
    rcases hs.has with ⟨h0, a, cap, rfl⟩ | ⟨h0, b, off, cap, rfl, hc, hlt, hr⟩
    · obtain rfl := List.eq_nil_of_length_eq_zero h0
      go_enter Tryz.func44, Tryz.ntmps44
      go_wp2_with fail
      all_goals first
        | (go_loop [13] (fun i => i = .int .i64 0) (fun _ => 0)
           case atStart => rfl
           case round =>
             obtain rfl := hrel
             go_wp2_with fail
             go_ret
             exact ⟨by rw [HSP.out]; rfl, rfl⟩)
        | (exfalso; simp_all; done)
    · have HR : Hid _ := hr
      clear hs hr
      go_enter Tryz.func44, Tryz.ntmps44
      go_wp2_with fail
      go_loop [13] (fun i => ∃ k : Nat, k ≤ l.length ∧ i = .int .i64 k ∧ Hid (∀ j (_ : j < k) (hj : j < l.length), Doc.inSpot l[j] = true)) (fun i => l.length - (intOf i).toNat)
      case atStart => exact ⟨0, Nat.zero_le _, rfl, fun j hj => by omega⟩
      case round =>
        obtain ⟨k, hk, rfl, HB⟩ := hrel
        by_cases hk2 : k < l.length
        · have r0 := HR.out k (.int .i64 l[k]) (by simp [intC, hk2])
          obtain ⟨x, HX⟩ : ∃ x, Hid (x = l[k]) := ⟨l[k], rfl⟩
          rw [← HX.out] at r0
          obtain ⟨g, HG⟩ : ∃ g, Hid (g = (decide (-1000 ≤ x) && decide (x ≤ 1000))) := ⟨(decide (-1000 ≤ x) && decide (x ≤ 1000)), rfl⟩
          cases g with
          | true =>
            go_wp2_with fail
            refine (pwithin_any x (-1000) 1000).mono ?_
            rw [← HG.out]
            rintro e w1 ⟨rfl, hw⟩
            subst hw
            go_wp2_with fail
            go_round
            case rel => exact ⟨k + 1, by omega, by go_num, fun j hj hjl => by
              by_cases h : j = k
              · subst h; rw [← HX.out]; exact HG.out.symm
              · exact HB.out j (by omega) hjl⟩
            case measure => simp [intOf]; omega
          | false =>
            have HF : Hid (Doc.spotB space l = false) := by
              show _ = _
              rw [HSP.out, List.all_eq_false]
              exact ⟨l[k], List.getElem_mem hk2, by rw [← HX.out]; show ¬ Doc.inSpot x = true; rw [show Doc.inSpot x = false from HG.out.symm]; simp⟩
            go_wp2_with fail
            refine (pwithin_any x (-1000) 1000).mono ?_
            rw [← HG.out]
            rintro e w1 ⟨rfl, hw⟩
            subst hw
            go_wp2_with fail
            go_ret
            exact ⟨by rw [HF.out]; rfl, rfl⟩
        · obtain rfl : k = l.length := by omega
          have HF : Hid (Doc.spotB space l = true) := by
            show _ = _
            rw [HSP.out, List.all_eq_true]
            intro y hy
            obtain ⟨j, hj, rfl⟩ := List.getElem_of_mem hy
            exact HB.out j hj hj
          go_wp2_with fail
          go_ret
          exact ⟨by rw [HF.out]; rfl, rfl⟩
  · have HSP : Hid (Doc.spotB space l = false) := by show _ = _; unfold Doc.spotB; rw [beq_eq_false_iff_ne.2 hlen, Bool.and_false]
    obtain ⟨b, c, rfl⟩ : ∃ b c, sv = .slice b l.length c := by
      rcases hs.has with ⟨h0, a, c, e⟩ | ⟨_, b, o, c, e, _⟩
      · rw [h0]; exact ⟨_, _, e⟩
      · exact ⟨_, _, e⟩
    clear hs
    go_enter Tryz.func44, Tryz.ntmps44
    go_wp2_with fail
    all_goals first
      | (go_ret; exact ⟨by rw [HSP.out]; rfl, rfl⟩)
      | (exfalso; simp_all; done)

theorem goodV_kind {v : Doc.Val} {kind : Int} (hk : kind = 1 ∨ kind = 2) : Doc.goodV v kind = (if v.k = kind then (if kind = 1 then (decide (-9999999 ≤ v.n) && decide (v.n ≤ 9999999)) && v.s.toList == [] else v.n == 0 && decide (v.s.size ≤ 12)) else v.k == 0 && (v.n == 0 && v.s.toList == [])) := by
  unfold Doc.goodV
  rcases hk with rfl | rfl
  · by_cases h : v.k = 1
    · rw [if_pos h, if_pos rfl, h]; simp [Bool.and_comm, Bool.and_left_comm]
    · rw [if_neg h]
      have h1 : (v.k == 1) = false := by simpa using h
      rw [h1]; simp
  · by_cases h : v.k = 2
    · rw [if_pos h, if_neg (by decide), h]; simp
    · rw [if_neg h]
      have h1 : (v.k == 2) = false := by simpa using h
      rw [h1]; simp

set_option maxHeartbeats 2000000 in
theorem fits_any (v : Doc.Val) (kind : Int) (hk : kind = 1 ∨ kind = 2) :
    Calls Tryz.prog 67 #[.agg #[.int .i64 v.k, .int .i64 v.n, .string v.s], .int .i64 kind] w fun e w' => e = .returned (.bool (Doc.goodV v kind)) ∧ Below w.heap.size w w' := by
  have HG : Hid _ := goodV_kind (v := v) hk
  obtain ⟨k, n, s⟩ := v
  simp only at HG
  by_cases h : k = kind
  · subst h
    rcases hk with rfl | rfl
    · go_enter Tryz.func67, Tryz.ntmps67
      go_wp2_with fail
      refine (pwithin_any n (-9999999) 9999999).mono ?_
      obtain ⟨g, HW⟩ : ∃ g, Hid (g = (decide (-9999999 ≤ n) && decide (n ≤ 9999999))) := ⟨_, rfl⟩
      rw [← HW.out] at HG ⊢
      rintro e w1 ⟨rfl, hw⟩
      subst hw
      cases g
      all_goals
        go_wp2_with fail
        all_goals
          go_ret
          refine ⟨ret_bool ?_, (Below.refl _ _).alloc (Nat.le_refl _) _⟩
          first
            | (rw [HG.out]; clear HG; first | (simp [*]; done) | (simp_all; done) | (simp_all; omega))
            | (clear HG; simp [Doc.goodV]; done)
            | (clear HG; simp [Doc.goodV]; omega)
    · go_enter Tryz.func67, Tryz.ntmps67
      go_wp2_with fail
      all_goals
        go_ret
        refine ⟨ret_bool ?_, (Below.refl _ _).alloc (Nat.le_refl _) _⟩
        first
          | (rw [HG.out]; clear HG; first | (simp [*]; done) | (simp_all; done) | (simp_all; omega))
          | (clear HG; simp [Doc.goodV]; done)
          | (clear HG; simp [Doc.goodV]; omega)
  · go_enter Tryz.func67, Tryz.ntmps67
    go_wp2_with fail
    all_goals
      go_ret
      refine ⟨ret_bool ?_, (Below.refl _ _).alloc (Nat.le_refl _) _⟩
      first
        | (rw [HG.out]; clear HG; first | (simp [*]; done) | (simp_all; done) | (simp_all; omega))
        | (clear HG; simp [Doc.goodV]; done)
        | (clear HG; simp [Doc.goodV]; omega)
end
end Go.Proofs.YtbnelaoeblhndaaGreatDoor
/- The walk of the program's checkPut. -/
namespace Go.Proofs.YtbnelaoeblhndaaGreatDoor
open Go.RowKit
set_option maxRecDepth 100000

section
variable {w : World}

set_option maxHeartbeats 2000000 in
theorem cput_arg (xb : Nat) (fs : List Doc.Fld) (space id : Int) (fv sv vv : Value) (c0 : w.cell? ⟨xb, 0, none⟩ = some fv) (c1 : w.cell? ⟨xb, 1, none⟩ = some (.int .i64 space)) (hf : Sl w fv fs.length (fldsC fs)) (spot : List Int) (vals : List Doc.Val) (hs : Sl w sv spot.length (intC spot)) (hv : Sl w vv vals.length (valsC vals)) (hl : spot.length ≤ 9223372036854775807) (hbad : Doc.putArg fs space id spot vals) :
    Calls Tryz.prog 42 #[.pointer (some ⟨xb, 0, none⟩), .int .i64 id, sv, vv] w fun e w' => e = .returned (.int .i64 1) ∧ w' = w := by
  have HC : Hid _ := isSpot_any space spot hl sv hs
  obtain ⟨fb, fc, rfl⟩ := hf.slice
  obtain ⟨vb, vc, rfl⟩ := hv.slice
  obtain ⟨sbk, sc, rfl⟩ := hs.slice
  clear hs hv hf
  obtain ⟨x, HX⟩ : ∃ x, Hid (x = Doc.spotB space spot) := ⟨Doc.spotB space spot, rfl⟩
  unfold Doc.putArg at hbad
  rw [← HX.out] at hbad
  obtain ⟨g, HG⟩ : ∃ g, Hid (g = (decide (0 ≤ id) && decide (id ≤ 4095))) := ⟨(decide (0 ≤ id) && decide (id ≤ 4095)), rfl⟩
  have hb2 : g = false ∨ (g = true ∧ x = false) ∨ (g = true ∧ x = true ∧ vals.length ≠ fs.length) := by
    have := HG.out
    rcases hbad with k1 | ⟨k1, k2⟩ | ⟨k1, k2, k3⟩ | ⟨k1, k2, k3, k4⟩
    · left; rw [this]; simp; omega
    · left; rw [this]; simp; omega
    · right; left; exact ⟨by rw [this]; simp; omega, k3⟩
    · right; right; exact ⟨by rw [this]; simp; omega, k3, k4⟩
  clear hbad
  rcases hb2 with rfl | ⟨rfl, rfl⟩ | ⟨rfl, rfl, k4⟩
  · go_enter Tryz.func42, Tryz.ntmps42
    go_wp2_with fail
    refine (pwithin_any id 0 4095).mono ?_
    rw [← HG.out]
    rintro e w1 ⟨rfl, hw⟩
    subst hw
    go_wp2_with fail
    go_ret
    exact ⟨rfl, rfl⟩
  all_goals
    go_enter Tryz.func42, Tryz.ntmps42
    go_wp2_with fail
    refine (pwithin_any id 0 4095).mono ?_
    rw [← HG.out]
    rintro e w1 ⟨rfl, hw⟩
    subst hw
    go_wp2_with fail
    refine Calls.mono HC.out ?_
    rw [← HX.out]
    rintro e w2 ⟨rfl, hw⟩
    subst hw
    go_wp2_with fail
    all_goals first
      | (go_ret; exact ⟨rfl, rfl⟩)
      | (exfalso; simp_all; done)
      | (exfalso; simp_all; omega)

set_option maxHeartbeats 4000000 in
theorem cput_any (xb : Nat) (hxb : xb < w.heap.size) (fs : List Doc.Fld) (hkind : ∀ j (h : j < fs.length), fs[j].kind = 1 ∨ fs[j].kind = 2) (space id : Int) (fv sv vv : Value) (c0 : w.cell? ⟨xb, 0, none⟩ = some fv) (c1 : w.cell? ⟨xb, 1, none⟩ = some (.int .i64 space)) (hf : Sl w fv fs.length (fldsC fs)) (spot : List Int) (vals : List Doc.Val) (hs : Sl w sv spot.length (intC spot)) (hv : Sl w vv vals.length (valsC vals)) (hl : spot.length ≤ 9223372036854775807) (hvl : vals.length ≤ 1000) (hv0 : 0 < vals.length)
    (k1 : 0 ≤ id) (k2 : id ≤ 4095) (k3 : Doc.spotB space spot = true) (k4 : vals.length = fs.length) :
    Calls Tryz.prog 42 #[.pointer (some ⟨xb, 0, none⟩), .int .i64 id, sv, vv] w fun e w' => Below w.heap.size w w' ∧
      ((e = .returned (.int .i64 3) ∧ ∃ j, ∃ (h1 : j < vals.length) (h2 : j < fs.length), Doc.goodV vals[j] fs[j].kind = false) ∨
       (e = .returned (.int .i64 0) ∧ ∀ j (h1 : j < vals.length) (h2 : j < fs.length), Doc.goodV vals[j] fs[j].kind = true)) := by
  have HC : Hid _ := isSpot_any space spot hl sv hs
  have K3 : Hid (Doc.spotB space spot = true) := k3
  have hg : (decide (0 ≤ id) && decide (id ≤ 4095)) = true := by simp; omega
  have HG : Hid ((decide (0 ≤ id) && decide (id ≤ 4095)) = true) := hg
  obtain ⟨sbk, sc, rfl⟩ := hs.slice
  rcases hv.has with ⟨h0, _⟩ | ⟨_, vb, vo, vc, rfl, hvc, hvlt, hvr⟩
  · omega
  rcases hf.has with ⟨h0, _⟩ | ⟨_, fb, fo, fc, rfl, hfc, hflt, hfr⟩
  · omega
  have HVR : Hid _ := hvr
  have HFR : Hid _ := hfr
  have HKD : Hid _ := hkind
  clear hs hv hf k3 hvr hfr hg k1 k2 hkind
  go_enter Tryz.func42, Tryz.ntmps42
  go_wp2_with fail
  refine (pwithin_any id 0 4095).mono ?_
  rw [HG.out]
  rintro e w1 ⟨rfl, hw⟩
  subst hw
  go_wp2_with fail
  refine Calls.mono HC.out ?_
  rw [K3.out]
  rintro e w2 ⟨rfl, hw⟩
  subst hw
  go_wp2_with fail
  go_loopw [35] (fun iv wr => ∃ k : Nat, k ≤ fs.length ∧ iv = .int .i64 k ∧ Below w2.heap.size w2 wr ∧ Hid (∀ j (_ : j < k) (h1 : j < vals.length) (h2 : j < fs.length), Doc.goodV vals[j] fs[j].kind = true)) (fun iv _ => fs.length - (intOf iv).toNat)
  case atStart => exact ⟨0, Nat.zero_le _, rfl, Below.refl _ _, fun j hj => by omega⟩
  case round =>
    obtain ⟨k, hk, rfl, hb, HB⟩ := hrel
    have hcs : ∀ (b o : Nat) (u : Value), b < w2.heap.size → w2.cell? ⟨b, o, none⟩ = some u → wr.cell? ⟨b, o, none⟩ = some u := fun b o u hb' hu => (hb.cell (p := ⟨b, o, none⟩) hb').trans hu
    have e0 := hcs _ _ _ hxb c0
    have hsz := hb.size
    have hx1 : xb < wr.heap.size := by omega
    have hx2 : vb < wr.heap.size := by omega
    have hx3 : fb < wr.heap.size := by omega
    by_cases hk2 : k < fs.length
    · have hk3 : k < vals.length := by omega
      have r0 := hcs _ _ _ hvlt (HVR.out (k * 3) (.int .i64 vals[k].k) (by unfold valsC; rw [show k * 3 = k * 3 + 0 from rfl, flat_at valC 3 valC_len vals k hk3 0 (by omega)]; rfl))
      have r1 := hcs _ _ _ hvlt (HVR.out (k * 3 + 1) (.int .i64 vals[k].n) (by unfold valsC; rw [flat_at valC 3 valC_len vals k hk3 1 (by omega)]; rfl))
      have r2 := hcs _ _ _ hvlt (HVR.out (k * 3 + 2) (.string vals[k].s) (by unfold valsC; rw [flat_at valC 3 valC_len vals k hk3 2 (by omega)]; rfl))
      have q1 := hcs _ _ _ hflt (HFR.out (k * 2 + 1) (.int .i64 fs[k].kind) (by unfold fldsC; rw [flat_at fldC 2 fldC_len fs k (by omega) 1 (by omega)]; rfl))
      rw [← Nat.add_assoc] at r1 r2 q1
      obtain ⟨x, HX⟩ : ∃ x, Hid (x = vals[k]) := ⟨vals[k], rfl⟩
      obtain ⟨kd, HK⟩ : ∃ kd, Hid (kd = fs[k].kind) := ⟨fs[k].kind, rfl⟩
      have hkd : Hid (kd = 1 ∨ kd = 2) := (show kd = 1 ∨ kd = 2 by rw [HK.out]; exact HKD.out k hk2)
      rw [← HX.out] at r0 r1 r2
      rw [← HK.out] at q1
      obtain ⟨gd, HGD⟩ : ∃ gd, Hid (gd = Doc.goodV x kd) := ⟨Doc.goodV x kd, rfl⟩
      cases gd with
      | false =>
        go_wp2_with fail
        go_region_with (go_at_call 67; go_must (go_fit (fits_any (w := (wr.alloc (.cells #[.int .i64 x.k, .int .i64 x.n, .string x.s] 94)).drew) x kd hkd.out)); rw [← HGD.out]; rintro r w3 ⟨rfl, hb3⟩)
        all_goals
          go_wp2_with fail
          go_ret
          refine ⟨(hb.alloc hsz _).drew.trans (hb3.mono (by show w2.heap.size ≤ (wr.heap.push _).size; simp; omega)), .inl ⟨rfl, k, hk3, hk2, ?_⟩⟩
          rw [← HX.out, ← HK.out]
          exact HGD.out.symm
      | true =>
        go_wp2_with fail
        go_region_with (go_at_call 67; go_must (go_fit (fits_any (w := (wr.alloc (.cells #[.int .i64 x.k, .int .i64 x.n, .string x.s] 94)).drew) x kd hkd.out)); rw [← HGD.out]; rintro r w3 ⟨rfl, hb3⟩)
        all_goals
          go_wp2_with fail
          go_roundw
          case rel =>
            refine ⟨k + 1, by omega, by go_num, (hb.alloc hsz _).drew.trans (hb3.mono (by show w2.heap.size ≤ (wr.heap.push _).size; simp; omega)), fun j hj h1 h2 => ?_⟩
            by_cases h : j = k
            · subst h; rw [← HX.out, ← HK.out]; exact HGD.out.symm
            · exact HB.out j (by omega) h1 h2
          case measure => simp [intOf]; omega
    · obtain rfl : k = fs.length := by omega
      go_wp2_with fail
      go_ret
      exact ⟨hb, .inr ⟨rfl, fun j h1 h2 => HB.out j h2 h1 h2⟩⟩
end
end Go.Proofs.YtbnelaoeblhndaaGreatDoor
/- The walk of the program's hasName. -/
namespace Go.Proofs.YtbnelaoeblhndaaGreatDoor
open Go.RowKit
set_option maxRecDepth 100000

section
variable {w : World}

/-- Has one of the fields this name? -/
def Doc.hasB (fs : List Doc.Fld) (nm : ByteArray) : Bool := fs.any fun f => f.name.toList == nm.toList

set_option maxHeartbeats 2000000 in
theorem hasName_any (fs : List Doc.Fld) (hl : fs.length ≤ 9223372036854775807) (fv : Value) (hs : Sl w fv fs.length (fldsC fs)) (nm : ByteArray) :
    Calls Tryz.prog 105 #[fv, .string nm] w fun e w' => e = .returned (.bool (Doc.hasB fs nm)) ∧ Below w.heap.size w w' := by
  rcases hs.has with ⟨h0, a, cap, rfl⟩ | ⟨h0, b, off, cap, rfl, hc, hlt, hr⟩
  · obtain rfl := List.eq_nil_of_length_eq_zero h0
    go_enter Tryz.func105, Tryz.ntmps105
    go_wp2_with fail
    go_loop [9] (fun i => i = .int .i64 0) (fun _ => 0)
    case atStart => rfl
    case round =>
      obtain rfl := hrel
      go_wp2_with fail
      go_ret
      exact ⟨rfl, Below.refl _ _⟩
  · have HR : Hid _ := hr
    clear hs hr
    go_enter Tryz.func105, Tryz.ntmps105
    go_wp2_with fail
    go_loopw [9] (fun i wr => ∃ k : Nat, k ≤ fs.length ∧ i = .int .i64 k ∧ Below w.heap.size w wr ∧ Hid (∀ j (_ : j < k) (hj : j < fs.length), (fs[j].name.toList == nm.toList) = false)) (fun i _ => fs.length - (intOf i).toNat)
    case atStart => exact ⟨0, Nat.zero_le _, rfl, Below.refl _ _, fun j hj => by omega⟩
    case round =>
      obtain ⟨k, hk, rfl, hb, HB⟩ := hrel
      have hsz := hb.size
      have hbl : b < wr.heap.size := by omega
      by_cases hk2 : k < fs.length
      · have r0 := (hb.cell (p := ⟨b, off + k * 2, none⟩) hlt).trans (HR.out (k * 2) (.string fs[k].name) (by unfold fldsC; rw [show k * 2 = k * 2 + 0 from rfl, flat_at fldC 2 fldC_len fs k hk2 0 (by omega)]; rfl))
        have r1 := (hb.cell (p := ⟨b, off + (k * 2 + 1), none⟩) hlt).trans (HR.out (k * 2 + 1) (.int .i64 fs[k].kind) (by unfold fldsC; rw [flat_at fldC 2 fldC_len fs k hk2 1 (by omega)]; rfl))
        rw [← Nat.add_assoc] at r1
        obtain ⟨x, HX⟩ : ∃ x, Hid (x = fs[k]) := ⟨fs[k], rfl⟩
        rw [← HX.out] at r0 r1
        by_cases hin : (x.name.toList == nm.toList) = true
        · have HF : Hid (Doc.hasB fs nm = true) := by
            show _ = _
            unfold Doc.hasB
            rw [List.any_eq_true]
            exact ⟨fs[k], List.getElem_mem hk2, by rw [← HX.out]; exact hin⟩
          go_wp2_with fail
          go_ret
          exact ⟨by rw [HF.out]; rfl, hb.alloc hsz _⟩
        · have hin : (x.name.toList == nm.toList) = false := by simpa using hin
          have HI : Hid ((x.name.toList == nm.toList) = false) := hin
          go_wp2_with fail
          go_roundw
          case rel => exact ⟨k + 1, by omega, by go_num, hb.alloc hsz _, fun j hj hjl => by
            by_cases h : j = k
            · subst h; rw [← HX.out]; exact HI.out
            · exact HB.out j (by omega) hjl⟩
          case measure => simp [intOf]; omega
      · obtain rfl : k = fs.length := by omega
        have HF : Hid (Doc.hasB fs nm = false) := by
          show _ = _
          unfold Doc.hasB
          rw [List.any_eq_false]
          intro f hf
          obtain ⟨j, hj, rfl⟩ := List.getElem_of_mem hf
          rw [HB.out j hj hj]; simp
        go_wp2_with fail
        go_ret
        exact ⟨by rw [HF.out]; rfl, hb⟩
end
end Go.Proofs.YtbnelaoeblhndaaGreatDoor
/- Walks of the statement's pick and same. -/
namespace Go.Proofs.YtbnelaoeblhndaaGreatDoor
open Go.RowKit
set_option maxRecDepth 100000

theorem tmod_nat (x : Int) (hx : 0 ≤ x) (n : Nat) (hn : 0 < n) : ∃ r : Nat, x.tmod n = r ∧ r < n := by
  refine ⟨x.toNat % n, ?_, Nat.mod_lt _ hn⟩
  rw [Int.ofNat_tmod, Int.toNat_of_nonneg hx]

section
variable {w : World}

set_option maxHeartbeats 1000000 in
theorem pick_any (c : Int) (hc1 : -9223372036854775808 ≤ c) (hc2 : c ≤ 9223372036854775807) (n : Nat) (hn : 0 < n) (hn2 : n ≤ 9223372036854775807) :
    Calls Tryz.prog 55 #[.int .i64 c, .int .i64 n] w fun e w' => (∃ r : Nat, r < n ∧ e = .returned (.int .i64 r)) ∧ w' = w := by
  by_cases h : c < 0
  · obtain ⟨r, h1, h2⟩ := tmod_nat (-(c + 1)) (by omega) n hn
    go_enter Tryz.func55, Tryz.ntmps55
    go_wp2_with fail
    go_ret
    exact ⟨⟨r, h2, rfl⟩, rfl⟩
  · obtain ⟨r, h1, h2⟩ := tmod_nat c (by omega) n hn
    go_enter Tryz.func55, Tryz.ntmps55
    go_wp2_with fail
    go_ret
    exact ⟨⟨r, h2, rfl⟩, rfl⟩

theorem int_at (l : List Int) (k : Nat) (hk : k < l.length) : (intC l)[k]? = some (.int .i64 l[k]) := by simp [intC, hk]

set_option maxHeartbeats 2000000 in
/-- Lists that read alike are the same. -/
theorem same_any (l : List Int) (hl : l.length ≤ 9223372036854775807) (av bv : Value) (ha : Sl w av l.length (intC l)) (hb : Sl w bv l.length (intC l)) :
    Calls Tryz.prog 98 #[av, bv] w fun e w' => e = .returned (.bool true) ∧ Below w.heap.size w w' := by
  rcases ha.has with ⟨h0, a, cap, rfl⟩ | ⟨h0, b, off, cap, rfl, hc, hlt, hr⟩
  · obtain ⟨a2, cap2, rfl⟩ : ∃ a c, bv = .slice a 0 c := by
      rcases hb.has with ⟨_, a, c, e⟩ | ⟨h1, _⟩
      · exact ⟨a, c, e⟩
      · omega
    go_enter Tryz.func98, Tryz.ntmps98
    go_wp2_with fail
    go_loop [5] (fun i => i = .int .i64 0) (fun _ => 0)
    case atStart => rfl
    case round =>
      obtain rfl := hrel
      go_wp2_with fail
      go_ret
      exact ⟨rfl, Below.refl _ _⟩
  · rcases hb.has with ⟨h1, _⟩ | ⟨_, b2, off2, cap2, rfl, hc2, hlt2, hr2⟩
    · omega
    have HR : Hid _ := hr
    have HR2 : Hid _ := hr2
    clear ha hb hr hr2
    go_enter Tryz.func98, Tryz.ntmps98
    go_wp2_with fail
    go_loopw [5] (fun i wr => ∃ k : Nat, k ≤ l.length ∧ i = .int .i64 k ∧ Below w.heap.size w wr) (fun i _ => l.length - (intOf i).toNat)
    case atStart => exact ⟨0, Nat.zero_le _, rfl, Below.refl _ _⟩
    case round =>
      obtain ⟨k, hk, rfl, hb⟩ := hrel
      by_cases hk2 : k < l.length
      · have r0 := (hb.cell (p := ⟨b, off + k, none⟩) hlt).trans (HR.out k _ (int_at l k hk2))
        have r1 := (hb.cell (p := ⟨b2, off2 + k, none⟩) hlt2).trans (HR2.out k _ (int_at l k hk2))
        obtain ⟨x, HX⟩ : ∃ x, Hid (x = l[k]) := ⟨l[k], rfl⟩
        rw [← HX.out] at r0 r1
        go_wp2_with fail
        go_region
        all_goals
          go_wp2_with fail
          go_roundw
          case rel => exact ⟨k + 1, by omega, by go_num, hb.drew⟩
          case measure => simp [intOf]; omega
      · obtain rfl : k = l.length := by omega
        go_wp2_with fail
        go_ret
        exact ⟨rfl, hb⟩
end
end Go.Proofs.YtbnelaoeblhndaaGreatDoor
/- copy into a row of elements of several cells; make; the walk of the statement's lent. -/
namespace Go.Proofs.YtbnelaoeblhndaaGreatDoor
open Go.RowKit
set_option maxRecDepth 100000

theorem run_copy_wide {P : Program} (w : World) (dT sT ty elem : TypeId) (g dLen dCap : Nat) (a : Addr) (sLen sCap : Nat) (cur : Array Value) (t : TypeId) (cs : List Value) (sz n : Nat)
    (hu : P.underlying dT = some (.slice elem)) (hs : (P.info? elem).map (·.size) = some sz)
    (hg : w.heap[g]? = some (.cells cur t (0, 0))) (hmin : Nat.min sLen dLen = n) (hn : cs.length = n * sz)
    (hsrc : ∀ j v, cs[j]? = some v → w.cell? (a.add j) = some v) (hfit : cs.length ≤ cur.size) (h1 : ∀ v ∈ cs, v.oneCell' = true) :
    (Builtin.copy_ #[dT, sT] ty #[.slice (some ⟨g, 0, none⟩) dLen dCap, .slice (some a) sLen sCap]).run P w =
      .ok (goInt n) (w.setRow g (cs ++ cur.toList.drop cs.length).toArray) := by
  have hl := run_loadCells_list (P := P) w a cs hsrc
  have hst := run_storeCells_at P g 0 t cs 0 cur w hg (by simpa using hfit) h1
  cases hq : P.info? elem with
  | none => simp [hq] at hs
  | some i =>
    have hi : i.size = sz := by simpa [hq] using hs
    simp [Builtin.copy_, run_underlying hu, Builtin.lenOf, Builtin.firstCells, sizeOf, typeInfo, hq, hi, hmin, ← hn, hl, hst]

theorem setRow_blk {w : World} {g : Nat} {cur : Array Value} {T : TypeId} {fr : Nat × Nat} (h : w.heap[g]? = some (.cells cur T fr)) (cs : Array Value) : (w.setRow g cs).heap[g]? = some (.cells cs T fr) := by
  simp [World.setRow, Array.getElem?_modify, h]
theorem setRow_other {w : World} {g j : Nat} (hj : j ≠ g) (cs : Array Value) : (w.setRow g cs).heap[j]? = w.heap[j]? := by
  simp [World.setRow, Array.getElem?_modify, Ne.symm hj]
theorem below_setRow {w a : World} {B g : Nat} (h : Below B a w) (hg : B ≤ g) (cs : Array Value) : Below B a (w.setRow g cs) :=
  ⟨h.os, h.tape, h.output, by simpa [World.setRow] using h.size, fun k hk => (setRow_other (by omega) cs).trans (h.block k hk)⟩

section
variable {w : World}

theorem intC_one' (l : List Int) : ∀ u ∈ intC l, u.oneCell' = true := by
  intro u hu
  obtain ⟨x, _, rfl⟩ := List.mem_map.1 hu
  rfl

/-- What lent hands out: a new row with two numbers more behind, and the list. -/
structure Lent (w : World) (T : TypeId) (cs : List Value) (n : Nat) (tail : List Value) (e : Ending) (w' : World) : Prop where
  has : ∃ sv, e = .returned (.tuple #[.slice (some ⟨w.heap.size, 0, none⟩) (n + 2) (n + 2), sv]) ∧ w'.heap[w.heap.size]? = some (.cells (cs ++ tail).toArray T (0, 0)) ∧ ((sv = .slice none 0 0 ∧ n = 0) ∨ sv = .slice (some ⟨w.heap.size, 0, none⟩) n (n + 2)) ∧ Below w.heap.size w w'

theorem made_int (n : Nat) : (madeCells (Value.int .i64 0).cells n).toList = List.replicate n (.int .i64 0) := by
  apply List.ext_getElem
  · simp [madeCells]
  · intro i h1 h2
    simp [madeCells, Value.cells, Nat.mod_one]

theorem run_sl_nil (a : Addr) (n c : Nat) (w : World) : Sem.run Tryz.prog (binOp BinOp.eql 33 (.slice (some a) n c) (.slice none 0 0)) w = .ok (.bool false) w := by rfl
theorem run_nil_sl (w : World) : Sem.run Tryz.prog (binOp BinOp.eql 33 (.slice none 0 0) (.slice none 0 0)) w = .ok (.bool true) w := by rfl

/-- The row behind the two stores. -/
theorem lent_end {wc : World} {g n : Nat} {cs : List Value} {T : TypeId} {u v z0 z1 : Value} (h : wc.heap[g]? = some (.cells (cs ++ [z0, z1]).toArray T (0, 0))) (hn : cs.length = n) :
    ((wc.setCell ⟨g, n, none⟩ u).setCell ⟨g, n + 1, none⟩ v).heap[g]? = some (.cells (cs ++ [u, v]).toArray T (0, 0)) := by
  have := set_blk' (set_blk' h n u) (n + 1) v
  rw [this]
  subst hn
  congr 2
  apply Array.ext'
  simp

set_option maxHeartbeats 2000000 in
theorem lent_core (l : List Int) (hl : l.length ≤ 1000000000000) (a : Addr) (cap : Nat) (hsrc : ∀ j u, (intC l)[j]? = some u → w.cell? (a.add j) = some u) (hab : l ≠ [] → a.block < w.heap.size) :
    Calls Tryz.prog 91 #[.slice (some a) l.length cap] w (Lent w 3 (intC l) l.length [.int .i64 77, .int .i64 78]) := by
  obtain ⟨i0, hi, hz0, hz1, hz2⟩ := info_parts Tryz.infoIntT
  have hmk : (Instr.makeSlice 33 (.int .i64 ((l.length : Int) + 2)) (.int .i64 ((l.length : Int) + 2))).run Tryz.prog w = .ok (.slice (some ⟨w.heap.size, 0, none⟩) (l.length + 2) (l.length + 2)) (w.alloc (.cells (madeCells #[Value.int .i64 0] (l.length + 2)) 3)) := by
    have := run_make (P := Tryz.prog) w 33 3 i0 _ Tryz.underlying33 hi hz0 .i64 .i64 ((l.length : Int) + 2) ((l.length : Int) + 2) (by omega) (Int.le_refl _) (by rw [hz2]; omega) (by omega)
    rw [hz1, Nat.mul_one, show ((l.length : Int) + 2).toNat = l.length + 2 by omega] at this
    exact this
  have hblk0 := heap_alloc_new w (.cells (madeCells #[Value.int .i64 0] (l.length + 2)) 3)
  obtain ⟨wa, hwa⟩ : ∃ wa, wa = w.alloc (.cells (madeCells #[Value.int .i64 0] (l.length + 2)) 3) := ⟨_, rfl⟩
  have hba : Below w.heap.size w wa := by rw [hwa]; exact (Below.refl _ _).alloc (Nat.le_refl _) _
  rw [← hwa] at hmk hblk0
  have hcp : ∃ wc, (Builtin.copy_ #[33, 33] 3 #[.slice (some ⟨w.heap.size, 0, none⟩) (l.length + 2) (l.length + 2), .slice (some a) l.length cap]).run Tryz.prog wa = .ok (.int .i64 l.length) wc ∧
      wc.heap[w.heap.size]? = some (.cells (intC l ++ [Value.int .i64 0, Value.int .i64 0]).toArray 3 (0, 0)) ∧ Below w.heap.size w wc := by
    have := run_copy_wide (P := Tryz.prog) wa 33 33 3 3 w.heap.size (l.length + 2) (l.length + 2) a l.length cap (madeCells #[Value.int .i64 0] (l.length + 2)) 3 (intC l) 1 l.length Tryz.underlying33 (by rw [hi]; simp [hz1]) hblk0 (by simp) (by simp [intC]) (fun j u hj => by
      have hb := hab (by rintro rfl; simp [intC] at hj)
      refine (hba.cell (p := a.add j) ?_).trans (hsrc j u hj)
      cases j <;> simpa [Addr.add] using hb) (by simp [intC, madeCells]) (intC_one' l)
    rw [show (madeCells #[Value.int .i64 0] (l.length + 2)).toList = List.replicate (l.length + 2) (.int .i64 0) from made_int _] at this
    refine ⟨_, this, ?_, below_setRow hba (Nat.le_refl _) _⟩
    rw [setRow_blk hblk0]
    simp [intC]
  obtain ⟨wc, hcp, hblk, hbc⟩ := hcp
  have c1 : wc.cell? ⟨w.heap.size, l.length, none⟩ = some (.int .i64 0) := blk_cell hblk _ _ (by simp [intC])
  have c2 : wc.cell? ⟨w.heap.size, l.length + 1, none⟩ = some (.int .i64 0) := blk_cell hblk _ _ (by simp [intC])
  have f1 := blk_free hblk l.length
  have f2 := blk_free hblk (l.length + 1)
  have hfin := lent_end (u := .int .i64 77) (v := .int .i64 78) hblk (n := l.length) (by simp [intC])
  have hbf : Below w.heap.size w ((wc.setCell ⟨w.heap.size, l.length, none⟩ (.int .i64 77)).setCell ⟨w.heap.size, l.length + 1, none⟩ (.int .i64 78)) := (hbc.setCell (p := ⟨w.heap.size, l.length, none⟩) (Nat.le_refl _) _).setCell (p := ⟨w.heap.size, l.length + 1, none⟩) (Nat.le_refl _) _
  have HF : Hid _ := hfin
  have HBF : Hid _ := hbf
  have hnil := run_sl_nil
  clear hsrc hblk hblk0 hwa hba hfin hbf hbc
  go_enter Tryz.func91, Tryz.ntmps91
  go_wp2_with fail
  go_region
  all_goals
    go_wp2_with fail
    go_ret2
    exact ⟨_, rfl, HF.out, .inr rfl, HBF.out.drew⟩

set_option maxHeartbeats 2000000 in
theorem lent_nil :
    Calls Tryz.prog 91 #[.slice none 0 0] w (Lent w 3 [] 0 [.int .i64 77, .int .i64 78]) := by
  obtain ⟨i0, hi, hz0, hz1, hz2⟩ := info_parts Tryz.infoIntT
  have hmk : (Instr.makeSlice 33 (.int .i64 2) (.int .i64 2)).run Tryz.prog w = .ok (.slice (some ⟨w.heap.size, 0, none⟩) 2 2) (w.alloc (.cells #[.int .i64 0, .int .i64 0] 3)) := by
    have := run_make (P := Tryz.prog) w 33 3 i0 _ Tryz.underlying33 hi hz0 .i64 .i64 2 2 (by omega) (Int.le_refl _) (by rw [hz2]; omega) (by omega)
    rw [hz1, show madeCells (Value.int .i64 0).cells (Int.toNat 2 * 1) = #[.int .i64 0, .int .i64 0] from Array.ext' (made_int 2)] at this
    exact this
  have hcp := run_copy_nil (P := Tryz.prog) (w.alloc (.cells #[.int .i64 0, .int .i64 0] 3)) 33 33 3 3 ⟨w.heap.size, 0, none⟩ 2 2 Tryz.underlying33 (by rw [hi]; rfl)
  have hnil := run_nil_sl
  go_enter Tryz.func91, Tryz.ntmps91
  go_wp2_with fail
  go_ret2
  exact ⟨_, rfl, heap_alloc_new _ _, .inl ⟨rfl, rfl⟩, (Below.refl _ _).alloc (Nat.le_refl _) _⟩
end
end Go.Proofs.YtbnelaoeblhndaaGreatDoor
/- The walk of the statement's lentValues. -/
namespace Go.Proofs.YtbnelaoeblhndaaGreatDoor
open Go.RowKit
set_option maxRecDepth 100000

theorem made_drop3 (z0 z1 z2 : Value) (n : Nat) : (madeCells #[z0, z1, z2] ((n + 2) * 3)).toList.drop (n * 3) = [z0, z1, z2, z0, z1, z2] := by
  apply List.ext_getElem
  · simp [madeCells]; omega
  · intro i h1 h2
    have h2' : i < 6 := by simpa using h2
    have hm : (n * 3 + i) % 3 = i % 3 := by omega
    simp only [List.getElem_drop, madeCells, Array.getElem_toList, Array.getElem_map, Array.getElem_range]
    have hs : #[z0, z1, z2].size = 3 := rfl
    rw [hs, hm]
    match i, h2' with
    | 0, _ => rfl
    | 1, _ => rfl
    | 2, _ => rfl
    | 3, _ => rfl
    | 4, _ => rfl
    | 5, _ => rfl

theorem run_slv_nil (a : Addr) (n c : Nat) (w : World) : Sem.run Tryz.prog (binOp BinOp.eql 55 (.slice (some a) n c) (.slice none 0 0)) w = .ok (.bool false) w := by rfl
theorem run_nil_slv (w : World) : Sem.run Tryz.prog (binOp BinOp.eql 55 (.slice none 0 0) (.slice none 0 0)) w = .ok (.bool true) w := by rfl

def zV (k : Int) : List Value := [.int .i64 k, .int .i64 0, .string ⟨#[]⟩]

theorem lent_end6 {wc : World} {g n : Nat} {cs : List Value} {T : TypeId} {u0 u1 u2 v0 v1 v2 z0 z1 z2 z3 z4 z5 : Value} (h : wc.heap[g]? = some (.cells (cs ++ [z0, z1, z2, z3, z4, z5]).toArray T (0, 0))) (hn : cs.length = n * 3) :
    ((((((wc.setCell ⟨g, n * 3, none⟩ u0).setCell ⟨g, n * 3 + 1, none⟩ u1).setCell ⟨g, n * 3 + 2, none⟩ u2).setCell ⟨g, (n + 1) * 3, none⟩ v0).setCell ⟨g, (n + 1) * 3 + 1, none⟩ v1).setCell ⟨g, (n + 1) * 3 + 2, none⟩ v2).heap[g]? = some (.cells (cs ++ [u0, u1, u2, v0, v1, v2]).toArray T (0, 0)) := by
  have e3 : (n + 1) * 3 = n * 3 + 3 := by omega
  have e : ((((((cs ++ [z0, z1, z2, z3, z4, z5]).set (n * 3) u0).set (n * 3 + 1) u1).set (n * 3 + 2) u2).set ((n + 1) * 3) v0).set ((n + 1) * 3 + 1) v1).set ((n + 1) * 3 + 2) v2 = cs ++ [u0, u1, u2, v0, v1, v2] := by
    rw [e3, ← hn, List.set_append_right _ _ (Nat.le_refl _), List.set_append_right _ _ (by omega), List.set_append_right _ _ (by omega), List.set_append_right _ _ (by omega), List.set_append_right _ _ (by omega), List.set_append_right _ _ (by omega)]
    rw [Nat.sub_self, Nat.add_sub_cancel_left, Nat.add_sub_cancel_left, Nat.add_sub_cancel_left, Nat.add_assoc, Nat.add_sub_cancel_left, Nat.add_assoc, Nat.add_sub_cancel_left]
    rfl
  have h6 := set_blk' (set_blk' (set_blk' (set_blk' (set_blk' (set_blk' h (n * 3) u0) (n * 3 + 1) u1) (n * 3 + 2) u2) ((n + 1) * 3) v0) ((n + 1) * 3 + 1) v1) ((n + 1) * 3 + 2) v2
  simp only [List.setIfInBounds_toArray] at h6
  rw [e] at h6
  exact h6

theorem below6 {B g o0 o1 o2 o3 o4 o5 : Nat} {w wc : World} (h : Below B w wc) (hg : B ≤ g) (u0 u1 u2 u3 u4 u5 : Value) :
    Below B w ((((((wc.setCell ⟨g, o0, none⟩ u0).setCell ⟨g, o1, none⟩ u1).setCell ⟨g, o2, none⟩ u2).setCell ⟨g, o3, none⟩ u3).setCell ⟨g, o4, none⟩ u4).setCell ⟨g, o5, none⟩ u5) :=
  (((((h.setCell (p := ⟨g, o0, none⟩) hg u0).setCell (p := ⟨g, o1, none⟩) hg u1).setCell (p := ⟨g, o2, none⟩) hg u2).setCell (p := ⟨g, o3, none⟩) hg u3).setCell (p := ⟨g, o4, none⟩) hg u4).setCell (p := ⟨g, o5, none⟩) hg u5

theorem valsC_len (l : List Doc.Val) : (valsC l).length = l.length * 3 := by
  induction l with
  | nil => rfl
  | cons a r ih => unfold valsC at ih ⊢; rw [List.flatMap_cons, List.length_append, ih]; simp [valC]; omega
theorem valsC_one (l : List Doc.Val) : ∀ u ∈ valsC l, u.oneCell' = true := by
  intro u hu
  obtain ⟨v, _, hv⟩ := List.mem_flatMap.1 hu
  simp only [valC, List.mem_cons, List.not_mem_nil, or_false] at hv
  rcases hv with rfl | rfl | rfl <;> rfl

section
variable {w : World}

theorem drew_blk {v : World} {g : Nat} {o : Obj} (h : v.heap[g]? = some o) : v.drew.heap[g]? = some o := h


set_option maxHeartbeats 2000000 in
theorem lentV_core (l : List Doc.Val) (hl : l.length ≤ 1000000000) (a : Addr) (cap : Nat) (hsrc : ∀ j u, (valsC l)[j]? = some u → w.cell? (a.add j) = some u) (hab : l ≠ [] → a.block < w.heap.size) :
    Calls Tryz.prog 92 #[.slice (some a) l.length cap] w (Lent w 94 (valsC l) l.length (zV 77 ++ zV 78)) := by
  obtain ⟨i0, hi, hz0, hz1, hz2⟩ := info_parts Tryz.infoValT
  have hmk : (Instr.makeSlice 55 (.int .i64 ((l.length : Int) + 2)) (.int .i64 ((l.length : Int) + 2))).run Tryz.prog w = .ok (.slice (some ⟨w.heap.size, 0, none⟩) (l.length + 2) (l.length + 2)) (w.alloc (.cells (madeCells #[Value.int .i64 0, .int .i64 0, .string ⟨#[]⟩] ((l.length + 2) * 3)) 94)) := by
    have := run_make (P := Tryz.prog) w 55 94 i0 _ Tryz.underlying55 hi hz0 .i64 .i64 ((l.length : Int) + 2) ((l.length : Int) + 2) (by omega) (Int.le_refl _) (by rw [hz2]; omega) (by omega)
    rw [hz1, show ((l.length : Int) + 2).toNat = l.length + 2 by omega] at this
    exact this
  have hblk0 := heap_alloc_new w (.cells (madeCells #[Value.int .i64 0, .int .i64 0, .string ⟨#[]⟩] ((l.length + 2) * 3)) 94)
  obtain ⟨wa, hwa⟩ : ∃ wa, wa = w.alloc (.cells (madeCells #[Value.int .i64 0, .int .i64 0, .string ⟨#[]⟩] ((l.length + 2) * 3)) 94) := ⟨_, rfl⟩
  have hba : Below w.heap.size w wa := by rw [hwa]; exact (Below.refl _ _).alloc (Nat.le_refl _) _
  rw [← hwa] at hmk hblk0
  have hcp : ∃ wc, (Builtin.copy_ #[55, 55] 3 #[.slice (some ⟨w.heap.size, 0, none⟩) (l.length + 2) (l.length + 2), .slice (some a) l.length cap]).run Tryz.prog wa = .ok (.int .i64 l.length) wc ∧
      wc.heap[w.heap.size]? = some (.cells (valsC l ++ [Value.int .i64 0, .int .i64 0, .string ⟨#[]⟩, .int .i64 0, .int .i64 0, .string ⟨#[]⟩]).toArray 94 (0, 0)) ∧ Below w.heap.size w wc := by
    have := run_copy_wide (P := Tryz.prog) wa 55 55 3 94 w.heap.size (l.length + 2) (l.length + 2) a l.length cap (madeCells #[Value.int .i64 0, .int .i64 0, .string ⟨#[]⟩] ((l.length + 2) * 3)) 94 (valsC l) 3 l.length Tryz.underlying55 (by rw [hi]; simp [hz1]) hblk0 (by simp) (valsC_len l) (fun j u hj => by
      have hb := hab (by rintro rfl; simp [valsC] at hj)
      refine (hba.cell (p := a.add j) ?_).trans (hsrc j u hj)
      cases j <;> simpa [Addr.add] using hb) (by rw [valsC_len]; simp [madeCells]; omega) (valsC_one l)
    refine ⟨_, this, ?_, below_setRow hba (Nat.le_refl _) _⟩
    rw [setRow_blk hblk0, valsC_len, made_drop3]
  obtain ⟨wc, hcp, hblk, hbc⟩ := hcp
  have hcs : ∀ c (hc : c < 6), wc.cell? ⟨w.heap.size, l.length * 3 + c, none⟩ = some ([Value.int .i64 0, .int .i64 0, .string ⟨#[]⟩, .int .i64 0, .int .i64 0, .string ⟨#[]⟩][c]) := fun c hc => blk_cell hblk _ _ (by
    rw [List.getElem?_toArray, List.getElem?_append_right (by rw [valsC_len]; omega), valsC_len, Nat.add_sub_cancel_left, List.getElem?_eq_getElem hc])
  have e3 : (l.length + 1) * 3 = l.length * 3 + 3 := by omega
  have c0 : wc.cell? ⟨w.heap.size, l.length * 3, none⟩ = some (.int .i64 0) := hcs 0 (by omega)
  have c1 : wc.cell? ⟨w.heap.size, l.length * 3 + 1, none⟩ = some (.int .i64 0) := hcs 1 (by omega)
  have c2 : wc.cell? ⟨w.heap.size, l.length * 3 + 2, none⟩ = some (.string ⟨#[]⟩) := hcs 2 (by omega)
  have c3 : wc.cell? ⟨w.heap.size, (l.length + 1) * 3, none⟩ = some (.int .i64 0) := by rw [e3]; exact hcs 3 (by omega)
  have c4 : wc.cell? ⟨w.heap.size, (l.length + 1) * 3 + 1, none⟩ = some (.int .i64 0) := by rw [e3]; exact hcs 4 (by omega)
  have c5 : wc.cell? ⟨w.heap.size, (l.length + 1) * 3 + 2, none⟩ = some (.string ⟨#[]⟩) := by rw [e3]; exact hcs 5 (by omega)
  have f0 := blk_free hblk (l.length * 3)
  have f1 := blk_free hblk (l.length * 3 + 1)
  have f2 := blk_free hblk (l.length * 3 + 2)
  have f3 := blk_free hblk ((l.length + 1) * 3)
  have f4 := blk_free hblk ((l.length + 1) * 3 + 1)
  have f5 := blk_free hblk ((l.length + 1) * 3 + 2)
  have hfin := lent_end6 (u0 := .int .i64 77) (u1 := .int .i64 0) (u2 := .string ⟨#[]⟩) (v0 := .int .i64 78) (v1 := .int .i64 0) (v2 := .string ⟨#[]⟩) hblk (n := l.length) (valsC_len l)
  have HF : Hid _ := hfin
  have HBC : Hid _ := hbc
  have hnil := run_slv_nil
  clear hsrc hblk hblk0 hwa hba hfin hbc hcs e3
  go_enter Tryz.func92, Tryz.ntmps92
  go_wp2_with fail
  first | go_region | fail "stands"
  all_goals
    go_wp2_with fail
    go_ret2
    refine ⟨_, rfl, ?_, .inr rfl, ?_⟩
    · rw [show zV 77 ++ zV 78 = [Value.int .i64 77, .int .i64 0, .string ⟨#[]⟩, .int .i64 78, .int .i64 0, .string ⟨#[]⟩] from rfl]
      exact drew_blk HF.out
    · exact Below.drew (below6 HBC.out (Nat.le_refl _) _ _ _ _ _ _)

set_option maxHeartbeats 2000000 in
theorem lentV_nil :
    Calls Tryz.prog 92 #[.slice none 0 0] w (Lent w 94 [] 0 (zV 77 ++ zV 78)) := by
  obtain ⟨i0, hi, hz0, hz1, hz2⟩ := info_parts Tryz.infoValT
  have hmk : (Instr.makeSlice 55 (.int .i64 2) (.int .i64 2)).run Tryz.prog w = .ok (.slice (some ⟨w.heap.size, 0, none⟩) 2 2) (w.alloc (.cells #[.int .i64 0, .int .i64 0, .string ⟨#[]⟩, .int .i64 0, .int .i64 0, .string ⟨#[]⟩] 94)) := by
    have := run_make (P := Tryz.prog) w 55 94 i0 _ Tryz.underlying55 hi hz0 .i64 .i64 2 2 (by omega) (Int.le_refl _) (by rw [hz2]; omega) (by omega)
    rw [hz1, show madeCells (Value.agg #[Value.int .i64 0, .int .i64 0, .string ⟨#[]⟩]).cells (Int.toNat 2 * 3) = #[.int .i64 0, .int .i64 0, .string ⟨#[]⟩, .int .i64 0, .int .i64 0, .string ⟨#[]⟩] from Array.ext' (made_drop3 _ _ _ 0)] at this
    exact this
  have hcp := run_copy_nil (P := Tryz.prog) (w.alloc (.cells #[.int .i64 0, .int .i64 0, .string ⟨#[]⟩, .int .i64 0, .int .i64 0, .string ⟨#[]⟩] 94)) 55 55 3 94 ⟨w.heap.size, 0, none⟩ 2 2 Tryz.underlying55 (by rw [hi]; rfl)
  have hnil := run_nil_slv
  go_enter Tryz.func92, Tryz.ntmps92
  go_wp2_with fail
  go_ret2
  exact ⟨_, rfl, heap_alloc_new _ _, .inl ⟨rfl, rfl⟩, (Below.refl _ _).alloc (Nat.le_refl _) _⟩
end
end Go.Proofs.YtbnelaoeblhndaaGreatDoor
/- The walk of the statement's lentFields. -/
namespace Go.Proofs.YtbnelaoeblhndaaGreatDoor
open Go.RowKit
set_option maxRecDepth 100000

theorem made_drop2 (z0 z1 : Value) (n : Nat) : (madeCells #[z0, z1] ((n + 2) * 2)).toList.drop (n * 2) = [z0, z1, z0, z1] := by
  apply List.ext_getElem
  · simp [madeCells]; omega
  · intro i h1 h2
    have h2' : i < 4 := by simpa using h2
    have hm : (n * 2 + i) % 2 = i % 2 := by omega
    simp only [List.getElem_drop, madeCells, Array.getElem_toList, Array.getElem_map, Array.getElem_range]
    have hs : #[z0, z1].size = 2 := rfl
    rw [hs, hm]
    match i, h2' with
    | 0, _ => rfl
    | 1, _ => rfl
    | 2, _ => rfl
    | 3, _ => rfl

theorem run_slf_nil (a : Addr) (n c : Nat) (w : World) : Sem.run Tryz.prog (binOp BinOp.eql 85 (.slice (some a) n c) (.slice none 0 0)) w = .ok (.bool false) w := by rfl
theorem run_nil_slf (w : World) : Sem.run Tryz.prog (binOp BinOp.eql 85 (.slice none 0 0) (.slice none 0 0)) w = .ok (.bool true) w := by rfl

def zF (k : Int) : List Value := [.string ⟨#[]⟩, .int .i64 k]

theorem lent_end4 {wc : World} {g n : Nat} {cs : List Value} {T : TypeId} {u0 u1 v0 v1 z0 z1 z2 z3 : Value} (h : wc.heap[g]? = some (.cells (cs ++ [z0, z1, z2, z3]).toArray T (0, 0))) (hn : cs.length = n * 2) :
    ((((wc.setCell ⟨g, n * 2, none⟩ u0).setCell ⟨g, n * 2 + 1, none⟩ u1).setCell ⟨g, (n + 1) * 2, none⟩ v0).setCell ⟨g, (n + 1) * 2 + 1, none⟩ v1).heap[g]? = some (.cells (cs ++ [u0, u1, v0, v1]).toArray T (0, 0)) := by
  have e3 : (n + 1) * 2 = n * 2 + 2 := by omega
  have e : ((((cs ++ [z0, z1, z2, z3]).set (n * 2) u0).set (n * 2 + 1) u1).set ((n + 1) * 2) v0).set ((n + 1) * 2 + 1) v1 = cs ++ [u0, u1, v0, v1] := by
    rw [e3, ← hn, List.set_append_right _ _ (Nat.le_refl _), List.set_append_right _ _ (by omega), List.set_append_right _ _ (by omega), List.set_append_right _ _ (by omega)]
    rw [Nat.sub_self, Nat.add_sub_cancel_left, Nat.add_sub_cancel_left, Nat.add_assoc, Nat.add_sub_cancel_left]
    rfl
  have h6 := set_blk' (set_blk' (set_blk' (set_blk' h (n * 2) u0) (n * 2 + 1) u1) ((n + 1) * 2) v0) ((n + 1) * 2 + 1) v1
  simp only [List.setIfInBounds_toArray] at h6
  rw [e] at h6
  exact h6

theorem below4 {B g o0 o1 o2 o3 : Nat} {w wc : World} (h : Below B w wc) (hg : B ≤ g) (u0 u1 u2 u3 : Value) :
    Below B w ((((wc.setCell ⟨g, o0, none⟩ u0).setCell ⟨g, o1, none⟩ u1).setCell ⟨g, o2, none⟩ u2).setCell ⟨g, o3, none⟩ u3) :=
  (((h.setCell (p := ⟨g, o0, none⟩) hg u0).setCell (p := ⟨g, o1, none⟩) hg u1).setCell (p := ⟨g, o2, none⟩) hg u2).setCell (p := ⟨g, o3, none⟩) hg u3

theorem fldsC_len2 (l : List Doc.Fld) : (fldsC l).length = l.length * 2 := by
  induction l with
  | nil => rfl
  | cons a r ih => unfold fldsC at ih ⊢; rw [List.flatMap_cons, List.length_append, ih]; simp [fldC]; omega
theorem fldsC_one2 (l : List Doc.Fld) : ∀ u ∈ fldsC l, u.oneCell' = true := by
  intro u hu
  obtain ⟨v, _, hv⟩ := List.mem_flatMap.1 hu
  simp only [fldC, List.mem_cons, List.not_mem_nil, or_false] at hv
  rcases hv with rfl | rfl <;> rfl

section
variable {w : World}

set_option maxHeartbeats 2000000 in
theorem lentF_core (l : List Doc.Fld) (hl : l.length ≤ 1000000000) (a : Addr) (cap : Nat) (hsrc : ∀ j u, (fldsC l)[j]? = some u → w.cell? (a.add j) = some u) (hab : l ≠ [] → a.block < w.heap.size) :
    Calls Tryz.prog 88 #[.slice (some a) l.length cap] w (Lent w 92 (fldsC l) l.length (zF 77 ++ zF 78)) := by
  obtain ⟨i0, hi, hz0, hz1, hz2⟩ := info_parts Tryz.infoFldT
  have hmk : (Instr.makeSlice 85 (.int .i64 ((l.length : Int) + 2)) (.int .i64 ((l.length : Int) + 2))).run Tryz.prog w = .ok (.slice (some ⟨w.heap.size, 0, none⟩) (l.length + 2) (l.length + 2)) (w.alloc (.cells (madeCells #[Value.string ⟨#[]⟩, .int .i64 0] ((l.length + 2) * 2)) 92)) := by
    have := run_make (P := Tryz.prog) w 85 92 i0 _ Tryz.underlying85 hi hz0 .i64 .i64 ((l.length : Int) + 2) ((l.length : Int) + 2) (by omega) (Int.le_refl _) (by rw [hz2]; omega) (by omega)
    rw [hz1, show ((l.length : Int) + 2).toNat = l.length + 2 by omega] at this
    exact this
  have hblk0 := heap_alloc_new w (.cells (madeCells #[Value.string ⟨#[]⟩, .int .i64 0] ((l.length + 2) * 2)) 92)
  obtain ⟨wa, hwa⟩ : ∃ wa, wa = w.alloc (.cells (madeCells #[Value.string ⟨#[]⟩, .int .i64 0] ((l.length + 2) * 2)) 92) := ⟨_, rfl⟩
  have hba : Below w.heap.size w wa := by rw [hwa]; exact (Below.refl _ _).alloc (Nat.le_refl _) _
  rw [← hwa] at hmk hblk0
  have hcp : ∃ wc, (Builtin.copy_ #[85, 85] 3 #[.slice (some ⟨w.heap.size, 0, none⟩) (l.length + 2) (l.length + 2), .slice (some a) l.length cap]).run Tryz.prog wa = .ok (.int .i64 l.length) wc ∧
      wc.heap[w.heap.size]? = some (.cells (fldsC l ++ [Value.string ⟨#[]⟩, .int .i64 0, .string ⟨#[]⟩, .int .i64 0]).toArray 92 (0, 0)) ∧ Below w.heap.size w wc := by
    have := run_copy_wide (P := Tryz.prog) wa 85 85 3 92 w.heap.size (l.length + 2) (l.length + 2) a l.length cap (madeCells #[Value.string ⟨#[]⟩, .int .i64 0] ((l.length + 2) * 2)) 92 (fldsC l) 2 l.length Tryz.underlying85 (by rw [hi]; simp [hz1]) hblk0 (by simp) (fldsC_len2 l) (fun j u hj => by
      have hb := hab (by rintro rfl; simp [fldsC] at hj)
      refine (hba.cell (p := a.add j) ?_).trans (hsrc j u hj)
      cases j <;> simpa [Addr.add] using hb) (by rw [fldsC_len2]; simp [madeCells]; omega) (fldsC_one2 l)
    refine ⟨_, this, ?_, below_setRow hba (Nat.le_refl _) _⟩
    rw [setRow_blk hblk0, fldsC_len2, made_drop2]
  obtain ⟨wc, hcp, hblk, hbc⟩ := hcp
  have hcs : ∀ c (hc : c < 4), wc.cell? ⟨w.heap.size, l.length * 2 + c, none⟩ = some ([Value.string ⟨#[]⟩, .int .i64 0, .string ⟨#[]⟩, .int .i64 0][c]) := fun c hc => blk_cell hblk _ _ (by
    rw [List.getElem?_toArray, List.getElem?_append_right (by rw [fldsC_len2]; omega), fldsC_len2, Nat.add_sub_cancel_left, List.getElem?_eq_getElem hc])
  have e3 : (l.length + 1) * 2 = l.length * 2 + 2 := by omega
  have c0 : wc.cell? ⟨w.heap.size, l.length * 2, none⟩ = some (.string ⟨#[]⟩) := hcs 0 (by omega)
  have c1 : wc.cell? ⟨w.heap.size, l.length * 2 + 1, none⟩ = some (.int .i64 0) := hcs 1 (by omega)
  have c3 : wc.cell? ⟨w.heap.size, (l.length + 1) * 2, none⟩ = some (.string ⟨#[]⟩) := by rw [e3]; exact hcs 2 (by omega)
  have c4 : wc.cell? ⟨w.heap.size, (l.length + 1) * 2 + 1, none⟩ = some (.int .i64 0) := by rw [e3]; exact hcs 3 (by omega)
  have f0 := blk_free hblk (l.length * 2)
  have f1 := blk_free hblk (l.length * 2 + 1)
  have f3 := blk_free hblk ((l.length + 1) * 2)
  have f4 := blk_free hblk ((l.length + 1) * 2 + 1)
  have hfin := lent_end4 (u0 := .string ⟨#[]⟩) (u1 := .int .i64 77) (v0 := .string ⟨#[]⟩) (v1 := .int .i64 78) hblk (n := l.length) (fldsC_len2 l)
  have HF : Hid _ := hfin
  have HBC : Hid _ := hbc
  have hnil := run_slf_nil
  clear hsrc hblk hblk0 hwa hba hfin hbc hcs e3
  go_enter Tryz.func88, Tryz.ntmps88
  go_wp2_with fail
  first | go_region | fail "stands"
  all_goals
    go_wp2_with fail
    go_ret2
    refine ⟨_, rfl, ?_, .inr rfl, ?_⟩
    · rw [show zF 77 ++ zF 78 = [Value.string ⟨#[]⟩, .int .i64 77, .string ⟨#[]⟩, .int .i64 78] from rfl]
      exact drew_blk HF.out
    · exact Below.drew (below4 HBC.out (Nat.le_refl _) _ _ _ _)

set_option maxHeartbeats 2000000 in
theorem lentF_nil :
    Calls Tryz.prog 88 #[.slice none 0 0] w (Lent w 92 [] 0 (zF 77 ++ zF 78)) := by
  obtain ⟨i0, hi, hz0, hz1, hz2⟩ := info_parts Tryz.infoFldT
  have hmk : (Instr.makeSlice 85 (.int .i64 2) (.int .i64 2)).run Tryz.prog w = .ok (.slice (some ⟨w.heap.size, 0, none⟩) 2 2) (w.alloc (.cells #[.string ⟨#[]⟩, .int .i64 0, .string ⟨#[]⟩, .int .i64 0] 92)) := by
    have := run_make (P := Tryz.prog) w 85 92 i0 _ Tryz.underlying85 hi hz0 .i64 .i64 2 2 (by omega) (Int.le_refl _) (by rw [hz2]; omega) (by omega)
    rw [hz1, show madeCells (Value.agg #[Value.string ⟨#[]⟩, .int .i64 0]).cells (Int.toNat 2 * 2) = #[.string ⟨#[]⟩, .int .i64 0, .string ⟨#[]⟩, .int .i64 0] from Array.ext' (made_drop2 _ _ 0)] at this
    exact this
  have hcp := run_copy_nil (P := Tryz.prog) (w.alloc (.cells #[.string ⟨#[]⟩, .int .i64 0, .string ⟨#[]⟩, .int .i64 0] 92)) 85 85 3 92 ⟨w.heap.size, 0, none⟩ 2 2 Tryz.underlying85 (by rw [hi]; rfl)
  have hnil := run_nil_slf
  go_enter Tryz.func88, Tryz.ntmps88
  go_wp2_with fail
  go_ret2
  exact ⟨_, rfl, heap_alloc_new _ _, .inl ⟨rfl, rfl⟩, (Below.refl _ _).alloc (Nat.le_refl _) _⟩
end
end Go.Proofs.YtbnelaoeblhndaaGreatDoor
/- The walk of the statement's still. -/
namespace Go.Proofs.YtbnelaoeblhndaaGreatDoor
open Go.RowKit
set_option maxRecDepth 100000

section
variable {w : World}

set_option maxHeartbeats 2000000 in
theorem still_any (l : List Int) (hl : l.length ≤ 1000000000000) (lv : Value) (hs : Sl w lv l.length (intC l)) (g : Nat) (hg : w.heap[g]? = some (.cells (intC l ++ [Value.int .i64 77, Value.int .i64 78]).toArray 3 (0, 0))) :
    Calls Tryz.prog 94 #[.slice (some ⟨g, 0, none⟩) (l.length + 2) (l.length + 2), lv] w fun e w' => e = .returned (.bool true) ∧ Md (fun k => k = g) w w' := by
  have hgl := lt_block hg
  have c1 : w.cell? ⟨g, l.length, none⟩ = some (.int .i64 77) := blk_cell hg _ _ (by simp [intC])
  have c2 : w.cell? ⟨g, l.length + 1, none⟩ = some (.int .i64 78) := blk_cell hg _ _ (by simp [intC])
  obtain ⟨lb, lc, rfl⟩ := hs.slice
  have HS : Hid _ := hs
  have HG : Hid _ := hg
  clear hs hg
  go_enter Tryz.func94, Tryz.ntmps94
  go_wp2_with fail
  go_loopw [5, 6] (fun ok i wr => ok = .bool true ∧ ∃ k : Nat, k ≤ l.length ∧ i = .int .i64 k ∧ Below w.heap.size w wr) (fun _ i _ => l.length - (intOf i).toNat)
  case atStart => exact ⟨rfl, 0, Nat.zero_le _, rfl, Below.refl _ _⟩
  case round =>
    obtain ⟨rfl, k, hk, rfl, hb⟩ := hrel
    by_cases hk2 : k < l.length
    · rcases HS.out.has with ⟨h0, _⟩ | ⟨_, b, off, cap, he, hc, hlt, hr⟩
      · omega
      simp only [Value.slice.injEq] at he
      obtain ⟨rfl, _, rfl⟩ := he
      have r0 := (hb.cell (p := ⟨b, off + k, none⟩) hlt).trans (hr k _ (int_at l k hk2))
      have r1 := (hb.cell (p := ⟨g, k, none⟩) hgl).trans (blk_cell HG.out k (.int .i64 l[k]) (by rw [List.getElem?_toArray, List.getElem?_append_left (by simp [intC]; omega)]; exact int_at l k hk2))
      obtain ⟨x, HX⟩ : ∃ x, Hid (x = l[k]) := ⟨l[k], rfl⟩
      rw [← HX.out] at r0 r1
      clear hr
      go_wp2_with fail
      go_region
      all_goals
        go_wp2_with fail
        go_roundw
        case rel => exact ⟨by first | rfl | simp, k + 1, by omega, by go_num, hb.drew⟩
        case measure => simp [intOf]; omega
    · obtain rfl : k = l.length := by omega
      have hg2 := (hb.block g hgl).trans HG.out
      have hmd : Md (fun k => k = g) w wr := Md.ofBelow hb
      clear c1 c2
      go_wp2_with fail
      go_loopw [7] (fun i wx => ∃ (k : Nat) (cur : Array Value), k ≤ l.length + 2 ∧ i = .int .i64 k ∧ wx.heap[g]? = some (.cells cur 3 (0, 0)) ∧ cur.size = l.length + 2 ∧ Md (fun k => k = g) w wx) (fun i _ => l.length + 2 - (intOf i).toNat)
      case atStart => exact ⟨0, _, Nat.zero_le _, rfl, hg2, by simp [intC], hmd⟩
      case round =>
        obtain ⟨k, cur, hk', rfl, hcur, hcz, hm⟩ := hrel
        clear hg2 hmd
        by_cases hk3 : k < l.length + 2
        · have z0 := blk_cell hcur k cur[k] (by simp [hcz, hk3])
          have z1 := blk_free hcur k
          go_wp2_with fail
          go_roundw
          case rel => exact ⟨k + 1, _, by omega, by go_num, set_blk' hcur k _, by simp [hcz], hm.set _ (.inl rfl)⟩
          case measure => simp [intOf]; omega
        · obtain rfl : k = l.length + 2 := by omega
          go_wp2_with fail
          go_ret
          exact ⟨rfl, hm⟩
end
end Go.Proofs.YtbnelaoeblhndaaGreatDoor
/- The walks of the statement's stillValues and stillFields. -/
namespace Go.Proofs.YtbnelaoeblhndaaGreatDoor
open Go.RowKit
set_option maxRecDepth 100000

section
variable {w : World}

theorem blkl_cell {w : World} {g : Nat} {xs : List Value} {T : TypeId} (h : w.heap[g]? = some (.cells xs.toArray T (0, 0))) (i : Nat) (v : Value) (hv : xs[i]? = some v) : w.cell? ⟨g, i, none⟩ = some v := blk_cell h i v (by simpa using hv)

set_option maxHeartbeats 2000000 in
theorem stillV_any (l : List Doc.Val) (hl : l.length ≤ 1000000000) (lv : Value) (hs : Sl w lv l.length (valsC l)) (g : Nat) (hg : w.heap[g]? = some (.cells (valsC l ++ (zV 77 ++ zV 78)).toArray 94 (0, 0))) :
    Calls Tryz.prog 95 #[.slice (some ⟨g, 0, none⟩) (l.length + 2) (l.length + 2), lv] w fun e w' => e = .returned (.bool true) ∧ Md (fun k => k = g) w w' := by
  have hgl := lt_block hg
  have hc : ∀ c u, (zV 77 ++ zV 78)[c]? = some u → w.cell? ⟨g, l.length * 3 + c, none⟩ = some u := fun c u hu => blkl_cell hg _ _ (by rw [List.getElem?_append_right (by rw [valsC_len]; omega), valsC_len, Nat.add_sub_cancel_left]; exact hu)
  have e3 : (l.length + 1) * 3 = l.length * 3 + 3 := by omega
  have c0 : w.cell? ⟨g, l.length * 3, none⟩ = some (.int .i64 77) := hc 0 _ rfl
  have c1 : w.cell? ⟨g, l.length * 3 + 1, none⟩ = some (.int .i64 0) := hc 1 _ rfl
  have c2 : w.cell? ⟨g, l.length * 3 + 2, none⟩ = some (.string ⟨#[]⟩) := hc 2 _ rfl
  have c3 : w.cell? ⟨g, (l.length + 1) * 3, none⟩ = some (.int .i64 78) := by rw [e3]; exact hc 3 _ rfl
  have c4 : w.cell? ⟨g, (l.length + 1) * 3 + 1, none⟩ = some (.int .i64 0) := by rw [e3]; exact hc 4 _ rfl
  have c5 : w.cell? ⟨g, (l.length + 1) * 3 + 2, none⟩ = some (.string ⟨#[]⟩) := by rw [e3]; exact hc 5 _ rfl
  obtain ⟨lb, lc, rfl⟩ := hs.slice
  have HS : Hid _ := hs
  have HG : Hid _ := hg
  clear hs hg hc e3
  go_enter Tryz.func95, Tryz.ntmps95
  go_wp2_with fail
  go_loopw [5, 6] (fun ok i wr => ok = .bool true ∧ ∃ k : Nat, k ≤ l.length ∧ i = .int .i64 k ∧ Below w.heap.size w wr) (fun _ i _ => l.length - (intOf i).toNat)
  case atStart => exact ⟨rfl, 0, Nat.zero_le _, rfl, Below.refl _ _⟩
  case round =>
    obtain ⟨rfl, k, hk, rfl, hb⟩ := hrel
    by_cases hk2 : k < l.length
    · rcases HS.out.has with ⟨h0, _⟩ | ⟨_, b, off, cap, he, hc, hlt, hr⟩
      · omega
      simp only [Value.slice.injEq] at he
      obtain ⟨rfl, _, rfl⟩ := he
      obtain ⟨x, HX⟩ : ∃ x, Hid (x = l[k]) := ⟨l[k], rfl⟩
      have hv : ∀ c, c < 3 → (valsC l)[k * 3 + c]? = (valC x)[c]? := fun c hc => by unfold valsC; rw [flat_at valC 3 valC_len l k hk2 c hc, HX.out]
      have ha : ∀ c u, c < 3 → (valC x)[c]? = some u → wr.cell? ⟨b, off + (k * 3 + c), none⟩ = some u := fun c u hc hu => (hb.cell (p := ⟨b, off + (k * 3 + c), none⟩) hlt).trans (hr _ u ((hv c hc).trans hu))
      have hd : ∀ c u, c < 3 → (valC x)[c]? = some u → wr.cell? ⟨g, k * 3 + c, none⟩ = some u := fun c u hc hu => (hb.cell (p := ⟨g, k * 3 + c, none⟩) hgl).trans (blkl_cell HG.out _ u (by rw [List.getElem?_append_left (by rw [valsC_len]; omega)]; exact (hv c hc).trans hu))
      have r0 := ha 0 (.int .i64 x.k) (by omega) rfl
      have r1 := ha 1 (.int .i64 x.n) (by omega) rfl
      have r2 := ha 2 (.string x.s) (by omega) rfl
      rw [Nat.add_zero] at r0
      rw [← Nat.add_assoc] at r1 r2
      have s0 : wr.cell? ⟨g, k * 3, none⟩ = some (.int .i64 x.k) := hd 0 (.int .i64 x.k) (by omega) rfl
      have s1 := hd 1 (.int .i64 x.n) (by omega) rfl
      have s2 := hd 2 (.string x.s) (by omega) rfl
      clear hr hv ha hd c0 c1 c2 c3 c4 c5
      go_wp2_with fail
      go_region
      all_goals
        go_wp2_with fail
        go_roundw
        case rel => exact ⟨by first | rfl | simp, k + 1, by omega, by go_num, hb.drew⟩
        case measure => simp [intOf]; omega
    · obtain rfl : k = l.length := by omega
      have hg2 := (hb.block g hgl).trans HG.out
      have hmd : Md (fun k => k = g) w wr := Md.ofBelow hb
      clear c0 c1 c2 c3 c4 c5
      go_wp2_with fail
      go_loopw [7] (fun i wx => ∃ (k : Nat) (cur : Array Value), k ≤ l.length + 2 ∧ i = .int .i64 k ∧ wx.heap[g]? = some (.cells cur 94 (0, 0)) ∧ cur.size = (l.length + 2) * 3 ∧ Md (fun k => k = g) w wx) (fun i _ => l.length + 2 - (intOf i).toNat)
      case atStart => exact ⟨0, _, Nat.zero_le _, rfl, hg2, by simp [valsC_len, zV]; omega, hmd⟩
      case round =>
        obtain ⟨k, cur, hk', rfl, hcur, hcz, hm⟩ := hrel
        clear hg2 hmd
        by_cases hk3 : k < l.length + 2
        · have hi0 : k * 3 < cur.size := by omega
          obtain ⟨u0, z0⟩ : ∃ u, wr.cell? ⟨g, k * 3, none⟩ = some u := ⟨_, blk_cell hcur (k * 3) _ (Array.getElem?_eq_getElem (by omega))⟩
          obtain ⟨u1, z1⟩ : ∃ u, wr.cell? ⟨g, k * 3 + 1, none⟩ = some u := ⟨_, blk_cell hcur (k * 3 + 1) _ (Array.getElem?_eq_getElem (by omega))⟩
          obtain ⟨u2, z2⟩ : ∃ u, wr.cell? ⟨g, k * 3 + 2, none⟩ = some u := ⟨_, blk_cell hcur (k * 3 + 2) _ (Array.getElem?_eq_getElem (by omega))⟩
          have f0 := blk_free hcur (k * 3)
          have f1 := blk_free hcur (k * 3 + 1)
          have f2 := blk_free hcur (k * 3 + 2)
          go_wp2_with fail
          go_roundw
          case rel => exact ⟨k + 1, _, by omega, by go_num, set_blk' (set_blk' (set_blk' hcur (k * 3) _) (k * 3 + 1) _) (k * 3 + 2) _, by simp [hcz], ((hm.set _ (.inl rfl)).set _ (.inl rfl)).set _ (.inl rfl)⟩
          case measure => simp [intOf]; omega
        · obtain rfl : k = l.length + 2 := by omega
          go_wp2_with fail
          go_ret
          exact ⟨rfl, hm⟩

set_option maxHeartbeats 2000000 in
theorem stillF_any (l : List Doc.Fld) (hl : l.length ≤ 1000000000) (lv : Value) (hs : Sl w lv l.length (fldsC l)) (g : Nat) (hg : w.heap[g]? = some (.cells (fldsC l ++ (zF 77 ++ zF 78)).toArray 92 (0, 0))) :
    Calls Tryz.prog 90 #[.slice (some ⟨g, 0, none⟩) (l.length + 2) (l.length + 2), lv] w fun e w' => e = .returned (.bool true) ∧ Md (fun k => k = g) w w' := by
  have hgl := lt_block hg
  have hc : ∀ c u, (zF 77 ++ zF 78)[c]? = some u → w.cell? ⟨g, l.length * 2 + c, none⟩ = some u := fun c u hu => blkl_cell hg _ _ (by rw [List.getElem?_append_right (by rw [fldsC_len2]; omega), fldsC_len2, Nat.add_sub_cancel_left]; exact hu)
  have e3 : (l.length + 1) * 2 = l.length * 2 + 2 := by omega
  have c0 : w.cell? ⟨g, l.length * 2, none⟩ = some (.string ⟨#[]⟩) := hc 0 _ rfl
  have c1 : w.cell? ⟨g, l.length * 2 + 1, none⟩ = some (.int .i64 77) := hc 1 _ rfl
  have c2 : w.cell? ⟨g, (l.length + 1) * 2, none⟩ = some (.string ⟨#[]⟩) := by rw [e3]; exact hc 2 _ rfl
  have c3 : w.cell? ⟨g, (l.length + 1) * 2 + 1, none⟩ = some (.int .i64 78) := by rw [e3]; exact hc 3 _ rfl
  obtain ⟨lb, lc, rfl⟩ := hs.slice
  have HS : Hid _ := hs
  have HG : Hid _ := hg
  clear hs hg hc e3
  go_enter Tryz.func90, Tryz.ntmps90
  go_wp2_with fail
  go_loopw [5, 6] (fun ok i wr => ok = .bool true ∧ ∃ k : Nat, k ≤ l.length ∧ i = .int .i64 k ∧ Below w.heap.size w wr) (fun _ i _ => l.length - (intOf i).toNat)
  case atStart => exact ⟨rfl, 0, Nat.zero_le _, rfl, Below.refl _ _⟩
  case round =>
    obtain ⟨rfl, k, hk, rfl, hb⟩ := hrel
    by_cases hk2 : k < l.length
    · rcases HS.out.has with ⟨h0, _⟩ | ⟨_, b, off, cap, he, hc, hlt, hr⟩
      · omega
      simp only [Value.slice.injEq] at he
      obtain ⟨rfl, _, rfl⟩ := he
      obtain ⟨x, HX⟩ : ∃ x, Hid (x = l[k]) := ⟨l[k], rfl⟩
      have hv : ∀ c, c < 2 → (fldsC l)[k * 2 + c]? = (fldC x)[c]? := fun c hc => by unfold fldsC; rw [flat_at fldC 2 fldC_len l k hk2 c hc, HX.out]
      have ha : ∀ c u, c < 2 → (fldC x)[c]? = some u → wr.cell? ⟨b, off + (k * 2 + c), none⟩ = some u := fun c u hc hu => (hb.cell (p := ⟨b, off + (k * 2 + c), none⟩) hlt).trans (hr _ u ((hv c hc).trans hu))
      have hd : ∀ c u, c < 2 → (fldC x)[c]? = some u → wr.cell? ⟨g, k * 2 + c, none⟩ = some u := fun c u hc hu => (hb.cell (p := ⟨g, k * 2 + c, none⟩) hgl).trans (blkl_cell HG.out _ u (by rw [List.getElem?_append_left (by rw [fldsC_len2]; omega)]; exact (hv c hc).trans hu))
      have r0 := ha 0 (.string x.name) (by omega) rfl
      have r1 := ha 1 (.int .i64 x.kind) (by omega) rfl
      rw [Nat.add_zero] at r0
      rw [← Nat.add_assoc] at r1
      have s0 : wr.cell? ⟨g, k * 2, none⟩ = some (.string x.name) := hd 0 (.string x.name) (by omega) rfl
      have s1 := hd 1 (.int .i64 x.kind) (by omega) rfl
      clear hr hv ha hd c0 c1 c2 c3
      go_wp2_with fail
      go_region
      all_goals
        go_wp2_with fail
        go_roundw
        case rel => exact ⟨by first | rfl | simp, k + 1, by omega, by go_num, hb.drew⟩
        case measure => simp [intOf]; omega
    · obtain rfl : k = l.length := by omega
      have hg2 := (hb.block g hgl).trans HG.out
      have hmd : Md (fun k => k = g) w wr := Md.ofBelow hb
      clear c0 c1 c2 c3
      go_wp2_with fail
      go_loopw [7] (fun i wx => ∃ (k : Nat) (cur : Array Value), k ≤ l.length + 2 ∧ i = .int .i64 k ∧ wx.heap[g]? = some (.cells cur 92 (0, 0)) ∧ cur.size = (l.length + 2) * 2 ∧ Md (fun k => k = g) w wx) (fun i _ => l.length + 2 - (intOf i).toNat)
      case atStart => exact ⟨0, _, Nat.zero_le _, rfl, hg2, by simp [fldsC_len2, zF]; omega, hmd⟩
      case round =>
        obtain ⟨k, cur, hk', rfl, hcur, hcz, hm⟩ := hrel
        clear hg2 hmd
        by_cases hk3 : k < l.length + 2
        · have hi0 : k * 2 < cur.size := by omega
          obtain ⟨u0, z0⟩ : ∃ u, wr.cell? ⟨g, k * 2, none⟩ = some u := ⟨_, blk_cell hcur (k * 2) _ (Array.getElem?_eq_getElem (by omega))⟩
          obtain ⟨u1, z1⟩ : ∃ u, wr.cell? ⟨g, k * 2 + 1, none⟩ = some u := ⟨_, blk_cell hcur (k * 2 + 1) _ (Array.getElem?_eq_getElem (by omega))⟩
          have f0 := blk_free hcur (k * 2)
          have f1 := blk_free hcur (k * 2 + 1)
          go_wp2_with fail
          go_roundw
          case rel => exact ⟨k + 1, _, by omega, by go_num, set_blk' (set_blk' hcur (k * 2) _) (k * 2 + 1) _, by simp [hcz], (hm.set _ (.inl rfl)).set _ (.inl rfl)⟩
          case measure => simp [intOf]; omega
        · obtain rfl : k = l.length + 2 := by omega
          go_wp2_with fail
          go_ret
          exact ⟨rfl, hm⟩
end
end Go.Proofs.YtbnelaoeblhndaaGreatDoor
