/- The walk of the program's checkNew beyond its ErrArg for the counts. -/
import Derived.Test.YtbnelaoeblhndaaGreatDoorThProg3
import Derived.Test.YtbnelaoeblhndaaGreatDoorThRef5
import Derived.Test.YtbnelaoeblhndaaGreatDoorThName
import Derived.Test.YtbnelaoeblhndaaGreatDoorThProg5
namespace Go.Proofs.YtbnelaoeblhndaaGreatDoor
open Go.RowKit
set_option maxRecDepth 100000

section
variable {w : World}

set_option maxHeartbeats 4000000 in
theorem cnew_any (hsg : Signs w) (hg0 : 1 < w.heap.size) (fs : List Doc.Fld) (fv : Value) (hs : Sl w fv fs.length (fldsC fs)) (space : Int) (k1 : 1 ≤ fs.length) (k2 : fs.length ≤ 4) (k3 : 1 ≤ space) (k4 : space ≤ 4) (hnm : ∀ j (h : j < fs.length), fs[j].name.size ≤ 140737488351232) :
    Calls Tryz.prog 61 #[fv, .int .i64 space] w fun e w' => Below w.heap.size w w' ∧
      ((e = .returned (.int .i64 1) ∧ ∃ j, ∃ (h : j < fs.length), Doc.kindB fs[j].kind = false) ∨
       ((∀ j (h : j < fs.length), Doc.kindB fs[j].kind = true) ∧ e = .returned (.int .i64 2) ∧ ∃ j, ∃ (h : j < fs.length), (Doc.nameB fs[j].name && !Doc.hasB (fs.take j) fs[j].name) = false) ∨
       ((∀ j (h : j < fs.length), Doc.kindB fs[j].kind = true) ∧ (∀ j (h : j < fs.length), (Doc.nameB fs[j].name && !Doc.hasB (fs.take j) fs[j].name) = true) ∧ e = .returned (.int .i64 0))) := by
  have HG1 : Hid ((decide (1 ≤ (fs.length : Int)) && decide ((fs.length : Int) ≤ 4)) = true) := (show _ = _ by simp; omega)
  have HG2 : Hid ((decide (1 ≤ space) && decide (space ≤ 4)) = true) := (show _ = _ by simp; omega)
  rcases hs.has with ⟨h0, _⟩ | ⟨_, b, off, cap, rfl, hc, hlt, hr⟩
  · omega
  have HR : Hid _ := hr
  have HSG : Hid _ := hsg
  clear hs hr hsg
  go_enter Tryz.func61, Tryz.ntmps61
  go_wp2_with fail
  refine (pwithin_any (fs.length : Int) 1 4).mono ?_
  rw [HG1.out]
  rintro e w1 ⟨rfl, hw⟩
  subst hw
  go_wp2_with fail
  refine (pwithin_any space 1 4).mono ?_
  rw [HG2.out]
  rintro e w2 ⟨rfl, hw⟩
  subst hw
  go_wp2_with fail
  go_loopw [20] (fun iv wr => ∃ k : Nat, k ≤ fs.length ∧ iv = .int .i64 k ∧ Below w2.heap.size w2 wr ∧ Hid (∀ j (_ : j < k) (h1 : j < fs.length), Doc.kindB fs[j].kind = true)) (fun iv _ => fs.length - (intOf iv).toNat)
  case atStart => exact ⟨0, Nat.zero_le _, rfl, Below.refl _ _, fun j hj => by omega⟩
  case round =>
    obtain ⟨k, hk, rfl, hb, HB⟩ := hrel
    have hsz := hb.size
    have hbl : b < wr.heap.size := by omega
    by_cases hk2 : k < fs.length
    · have r0 := (hb.cell (p := ⟨b, off + k * 2, none⟩) hlt).trans (HR.out (k * 2) (.string fs[k].name) (by unfold fldsC; rw [show k * 2 = k * 2 + 0 from rfl, flat_at fldC 2 fldC_len fs k hk2 0 (by omega)]; rfl))
      have r1 := (hb.cell (p := ⟨b, off + (k * 2 + 1), none⟩) hlt).trans (HR.out (k * 2 + 1) (.int .i64 fs[k].kind) (by unfold fldsC; rw [flat_at fldC 2 fldC_len fs k hk2 1 (by omega)]; rfl))
      rw [← Nat.add_assoc] at r1
      obtain ⟨x, HX⟩ : ∃ x, Hid (x = fs[k]) := ⟨fs[k], rfl⟩
      rw [← HX.out] at r0 r1
      obtain ⟨nm, kd⟩ := x
      simp only at r0 r1
      by_cases hkd : kd = 1 ∨ kd = 2
      · have HKD : Hid (Doc.kindB kd = true) := (show Doc.kindB kd = true by rcases hkd with rfl | rfl <;> rfl)
        rcases hkd with rfl | rfl
        all_goals
          go_wp2_with fail
          go_roundw
          case rel =>
            refine ⟨k + 1, by omega, by go_num, hb.alloc hsz _, fun j hj h1 => ?_⟩
            by_cases h : j = k
            · subst h; rw [← HX.out]; exact HKD.out
            · exact HB.out j (by omega) h1
          case measure => simp [intOf]; omega
      · have hkd1 : ¬ kd = 1 := fun h => hkd (.inl h)
        have hkd2 : ¬ kd = 2 := fun h => hkd (.inr h)
        have HKD : Hid (Doc.kindB kd = false) := (show Doc.kindB kd = false by simp [Doc.kindB, hkd1, hkd2])
        clear hkd
        go_wp2_with fail
        all_goals first
          | (go_ret; refine ⟨hb.alloc hsz _, .inl ⟨rfl, k, hk2, ?_⟩⟩; rw [← HX.out]; exact HKD.out)
          | (exfalso; simp_all; done)
    · obtain rfl : k = fs.length := by omega
      have hall : ∀ j (h : j < fs.length), Doc.kindB fs[j].kind = true := fun j h => HB.out j h h
      have HALL : Hid _ := hall
      clear hall
      go_wp2_with fail
      go_loopw [35] (fun iv wx => ∃ k : Nat, k ≤ fs.length ∧ iv = .int .i64 k ∧ Below w2.heap.size w2 wx ∧ Hid (∀ j (_ : j < k) (h1 : j < fs.length), (Doc.nameB fs[j].name && !Doc.hasB (fs.take j) fs[j].name) = true)) (fun iv _ => fs.length - (intOf iv).toNat)
      case atStart => exact ⟨0, Nat.zero_le _, rfl, hb, fun j hj => by omega⟩
      case round =>
        obtain ⟨k, hk', rfl, hb2, HB2⟩ := hrel
        have hsz2 := hb2.size
        have hbl2 : b < wr.heap.size := by omega
        by_cases hk2' : k < fs.length
        · have r0 := (hb2.cell (p := ⟨b, off + k * 2, none⟩) hlt).trans (HR.out (k * 2) (.string fs[k].name) (by unfold fldsC; rw [show k * 2 = k * 2 + 0 from rfl, flat_at fldC 2 fldC_len fs k hk2' 0 (by omega)]; rfl))
          have r1 := (hb2.cell (p := ⟨b, off + (k * 2 + 1), none⟩) hlt).trans (HR.out (k * 2 + 1) (.int .i64 fs[k].kind) (by unfold fldsC; rw [flat_at fldC 2 fldC_len fs k hk2' 1 (by omega)]; rfl))
          rw [← Nat.add_assoc] at r1
          have hxs := hnm k hk2'
          obtain ⟨x, HX⟩ : ∃ x, Hid (x = fs[k]) := ⟨fs[k], rfl⟩
          rw [← HX.out] at r0 r1 hxs
          obtain ⟨nb, HNB⟩ : ∃ nb, Hid (nb = Doc.nameB x.name) := ⟨Doc.nameB x.name, rfl⟩
          obtain ⟨hn, HHN⟩ : ∃ hn, Hid (hn = Doc.hasB (fs.take k) x.name) := ⟨Doc.hasB (fs.take k) x.name, rfl⟩
          have hba : Below w2.heap.size w2 (wr.alloc (.cells #[.string x.name, .int .i64 x.kind] 92)).drew := (hb2.alloc hsz2 _).drew
          have HSA : Hid (Signs (wr.alloc (.cells #[.string x.name, .int .i64 x.kind] 92)).drew) := HSG.out.below hba hg0
          have hga : 1 < (wr.alloc (.cells #[.string x.name, .int .i64 x.kind] 92)).drew.heap.size := Nat.lt_of_lt_of_le hg0 hba.size
          have hkl : (fs.take k).length = k := by rw [List.length_take]; omega
          have HSL : Hid (∀ w', Below w2.heap.size w2 w' → Sl w' (.slice (some ⟨b, off, none⟩) k cap) (fs.take k).length (fldsC (fs.take k))) := fun w' hb' => by rw [hkl]; exact Sl.take (fun j u hj => (hb'.cell (p := ⟨b, off + j, none⟩) hlt).trans (HR.out j u hj)) (Nat.lt_of_lt_of_le hlt hb'.size) hc k hk'
          cases nb with
          | false =>
            go_wp2_with fail
            go_cut [51] (fun v wx => v = .bool true ∧ Below w2.heap.size w2 wx)
            case first =>
              first | go_region_with (go_at_call 104; go_must (go_fit (isNameP_any x.name _ hxs HSA.out hga)); rw [← HNB.out]; rintro r w3 ⟨rfl, hb3⟩) | fail "stands"
              all_goals (go_wp2_with fail)
              all_goals go_meet
              all_goals exact ⟨rfl, hba.trans (hb3.mono hba.size)⟩
            case rest =>
              obtain ⟨rfl, hbx⟩ := hcut
              go_wp2_with fail
              go_ret
              refine ⟨hbx, .inr (.inl ⟨HALL.out, rfl, k, hk2', ?_⟩)⟩
              rw [← HX.out, ← HNB.out]; rfl
          | true =>
            cases hn with
            | false =>
              go_wp2_with fail
              go_region_with (first | (go_at_call 104; go_must (go_fit (isNameP_any x.name _ hxs HSA.out hga)); rw [← HNB.out]; rintro r w3 ⟨rfl, hb3⟩; have q3 := (hb3.block wr.heap.size (by show wr.heap.size < (wr.heap.push _).size; simp)).trans (heap_alloc_new wr _); have t0 := blk_cell q3 0 _ rfl; have hbc := hba.trans (hb3.mono hba.size)) | (go_at_call 105; go_must (go_fit (hasName_any (w := w3) (fs.take k) (by omega) _ (HSL.out _ hbc) x.name)); rw [← HHN.out]; rintro r w4 ⟨rfl, hb4⟩))
              all_goals
                go_wp2_with fail
                go_roundw
                case rel =>
                  refine ⟨k + 1, by omega, by go_num, hbc.trans (hb4.mono hbc.size), fun j hj h1 => ?_⟩
                  by_cases h : j = k
                  · subst h; rw [← HX.out, ← HNB.out, ← HHN.out]; rfl
                  · exact HB2.out j (by omega) h1
                case measure => simp [intOf]; omega
            | true =>
              go_wp2_with fail
              go_region_with (first | (go_at_call 104; go_must (go_fit (isNameP_any x.name _ hxs HSA.out hga)); rw [← HNB.out]; rintro r w3 ⟨rfl, hb3⟩; have q3 := (hb3.block wr.heap.size (by show wr.heap.size < (wr.heap.push _).size; simp)).trans (heap_alloc_new wr _); have t0 := blk_cell q3 0 _ rfl; have hbc := hba.trans (hb3.mono hba.size)) | (go_at_call 105; go_must (go_fit (hasName_any (w := w3) (fs.take k) (by omega) _ (HSL.out _ hbc) x.name)); rw [← HHN.out]; rintro r w4 ⟨rfl, hb4⟩))
              all_goals
                go_wp2_with fail
                go_ret
                refine ⟨hbc.trans (hb4.mono hbc.size), .inr (.inl ⟨HALL.out, rfl, k, hk2', ?_⟩)⟩
                rw [← HX.out, ← HNB.out, ← HHN.out]; rfl
        · obtain rfl : k = fs.length := by omega
          go_wp2_with fail
          go_ret
          exact ⟨hb2, .inr (.inr ⟨HALL.out, fun j h => HB2.out j h h, rfl⟩)⟩
end
end Go.Proofs.YtbnelaoeblhndaaGreatDoor
