import Derived.Test.YtbnelaoeblhndaaGreatDoorThN2
import Derived.Test.YtbnelaoeblhndaaGreatDoorRefRep
import Derived.Test.YtbnelaoeblhndaaGreatDoorThN4
import Derived.Test.YtbnelaoeblhndaaGreatDoorShelfT
import Derived.Deep.RegionHeldLaw
import Derived.Deep.AppendLies
/- The walk of New of package rummageref. -/
namespace Go.Proofs.YtbnelaoeblhndaaGreatDoor
open Go.RowKit
set_option maxRecDepth 100000

/-- What New was given that is wrong as a whole. -/
def Doc.newArg (fs : List Doc.Fld) (space : Int) : Prop := fs.length < 1 ∨ (1 ≤ fs.length ∧ 4 < fs.length) ∨ (1 ≤ fs.length ∧ fs.length ≤ 4 ∧ space < 1) ∨ (1 ≤ fs.length ∧ fs.length ≤ 4 ∧ 1 ≤ space ∧ 4 < space)
/-- A kind that a field may have. -/
def Doc.kindB (k : Int) : Bool := k == 1 || k == 2
/-- Is the name of the field at this place one, and no earlier field's? -/
def Doc.nameAt (fs : List Doc.Fld) (i : Nat) (nm : ByteArray) : Bool := Doc.nameB nm && !(decide (Doc.placeI (Doc.idxF fs nm) < i))

section
variable {w : World}

set_option maxHeartbeats 2000000 in
theorem rnew_arg (fs : List Doc.Fld) (fv : Value) (hs : Sl w fv fs.length (fldsC fs)) (space : Int) (hbad : Doc.newArg fs space) :
    Calls Tryz.prog 89 #[fv, .int .i64 space] w fun e w' => e = .returned (.tuple #[.pointer none, .int .i64 1]) ∧ w' = w := by
  obtain ⟨b, c, rfl⟩ := hs.slice
  clear hs
  rcases hbad with k1 | ⟨k1, k2⟩ | ⟨k1, k2, k3⟩ | ⟨k1, k2, k3, k4⟩
  all_goals
    go_enter Tryz.func89, Tryz.ntmps89
    go_wp2_with fail
    all_goals first
      | (go_ret2; exact ⟨rfl, rfl⟩)
      | (exfalso; simp_all; done)
      | (exfalso; simp_all; omega)

/-- What New has made when it has read k fields. -/
structure NewMid (w : World) (space : Int) (fs : List Doc.Fld) (k : Nat) (wr : World) (fv : Value) : Prop where
  below : Below w.heap.size w wr
  box : wr.heap[w.heap.size]? = some (.cells #[fv, .int .i64 space, .slice none 0 0] 193 (0, 0))
  row : wr.ownsRow (w.heap.size + 1) 92 2 fv k (fldsC (fs.take k))

theorem fldC_one (f : Doc.Fld) : ∀ u ∈ fldC f, u.oneCell' = true := by
  intro u hu
  simp only [fldC, List.mem_cons, List.not_mem_nil, or_false] at hu
  rcases hu with rfl | rfl <;> rfl

theorem NewMid.step {w3 w4 : World} {space : Int} {fs : List Doc.Fld} {k : Nat} {fv v4 : Value} {x : Doc.Fld} {o : Obj}
    (h : NewMid w space fs k w3 fv) (hown : w4.ownsRow (w.heap.size + 1) 92 2 v4 (k + 1) (fldsC (fs.take k) ++ fldC x)) (hgrow : (w3.alloc o).drew.grownBy w4 fv.ownBlock) (hk : k < fs.length) (hx : x = fs[k]) :
    w4.heap[w.heap.size]? = some (.cells #[fv, .int .i64 space, .slice none 0 0] 193 (0, 0)) ∧ NewMid w space fs (k + 1) (w4.setCell ⟨w.heap.size, 0, none⟩ v4) v4 := by
  have hl := lt_block h.box
  have old : ∀ j, j < w3.heap.size → some j ≠ fv.ownBlock → w4.heap[j]? = w3.heap[j]? := fun j hj hne =>
    (hgrow.block j (by show j < (w3.heap.push o).size; simp; omega) hne).trans (heap_alloc_old w3 o hj)
  have hbx := (old _ hl (fun e => by have := own_ge h.row e.symm; omega)).trans h.box
  have hbel : Below w.heap.size w w4 := by
    have := h.below.size
    exact ((h.below.alloc h.below.size o).drew).grown hgrow (by show w.heap.size ≤ (w3.heap.push o).size; simp; omega) (fun j e => by have := own_ge h.row e; omega)
  refine ⟨hbx, hbel.setCell (p := ⟨w.heap.size, 0, none⟩) (Nat.le_refl _) _, set_blk' hbx 0 _, ?_⟩
  have e3 : fldsC (fs.take (k + 1)) = fldsC (fs.take k) ++ fldC x := by
    rw [← List.take_append_getElem hk, hx]
    unfold fldsC
    rw [List.flatMap_append]
    simp
  rw [e3]
  refine rowKept hown (fun j u e hu => ?_)
  have h1 := own_ge hown e
  rw [Below.heap_setCell _ _ _ _ (by show j ≠ w.heap.size; omega)]
  exact hu

theorem own_zero {w : World} {m e size n : Nat} {v : Value} {cs : List Value} (h : w.ownsRow m e size v n cs) : w.ownsRow 0 e size v n cs := by
  obtain ⟨a, b⟩ := h
  refine ⟨a, ?_⟩
  rcases b with b | ⟨g', cap', cur', e1, _, r⟩
  · exact .inl b
  · exact .inr ⟨g', cap', cur', e1, Nat.zero_le _, r⟩

set_option maxHeartbeats 4000000 in
theorem rnew_any (fs : List Doc.Fld) (fv : Value) (hs : Sl w fv fs.length (fldsC fs)) (space : Int) (k1 : 1 ≤ fs.length) (k2 : fs.length ≤ 4) (k3 : 1 ≤ space) (k4 : space ≤ 4) (hnm : ∀ j (h : j < fs.length), fs[j].name.size ≤ 140737488351232) :
    Calls Tryz.prog 89 #[fv, .int .i64 space] w fun e w' =>
      (e = .returned (.tuple #[.pointer none, .int .i64 1]) ∧ Below w.heap.size w w' ∧ ∃ j, ∃ (h : j < fs.length), Doc.kindB fs[j].kind = false) ∨
      ((∀ j (h : j < fs.length), Doc.kindB fs[j].kind = true) ∧ e = .returned (.tuple #[.pointer none, .int .i64 2]) ∧ Below w.heap.size w w' ∧ ∃ j, ∃ (h : j < fs.length), Doc.nameAt fs j fs[j].name = false) ∨
      ((∀ j (h : j < fs.length), Doc.kindB fs[j].kind = true) ∧ (∀ j (h : j < fs.length), Doc.nameAt fs j fs[j].name = true) ∧ e = .returned (.tuple #[.pointer (some ⟨w.heap.size, 0, none⟩), .int .i64 0]) ∧ RefSt w' (fun k => w.heap.size ≤ k) w.heap.size fs space [] ∧ Below w.heap.size w w') := by
  obtain ⟨i0, hi, hz0, hz1, hz2⟩ := info_parts Tryz.infoFldT
  rcases hs.has with ⟨h0, _⟩ | ⟨_, b, off, cap, rfl, hc, hlt, hr⟩
  · omega
  have HS : Hid _ := hs
  have HR : Hid _ := hr
  clear hs hr
  go_enter Tryz.func89, Tryz.ntmps89
  go_wp2_with fail
  have hst : NewMid w space fs 0 (w.alloc (.cells #[.slice none 0 0, .int .i64 space, .slice none 0 0] 193)) (.slice none 0 0) := ⟨(Below.refl _ _).alloc (Nat.le_refl _) _, heap_alloc_new w _, World.ownsRow_nil _ _ _ _⟩
  go_loopw [7] (fun iv wr => ∃ (k : Nat) (fw : Value), k ≤ fs.length ∧ iv = .int .i64 k ∧ NewMid w space fs k wr fw ∧ Hid (∀ j (_ : j < k) (h1 : j < fs.length), Doc.kindB fs[j].kind = true)) (fun iv _ => fs.length - (intOf iv).toNat)
  case atStart => exact ⟨0, _, Nat.zero_le _, rfl, hst, fun j hj => by omega⟩
  case round =>
    obtain ⟨k, fw, hk, rfl, hm, HB⟩ := hrel
    clear hst
    obtain ⟨fb, fc, rfl⟩ := row_slice hm.row
    by_cases hk2 : k < fs.length
    · have r0 := (hm.below.cell (p := ⟨b, off + k * 2, none⟩) hlt).trans (HR.out (k * 2) (.string fs[k].name) (by unfold fldsC; rw [show k * 2 = k * 2 + 0 from rfl, flat_at fldC 2 fldC_len fs k hk2 0 (by omega)]; rfl))
      have r1 := (hm.below.cell (p := ⟨b, off + (k * 2 + 1), none⟩) hlt).trans (HR.out (k * 2 + 1) (.int .i64 fs[k].kind) (by unfold fldsC; rw [flat_at fldC 2 fldC_len fs k hk2 1 (by omega)]; rfl))
      rw [← Nat.add_assoc] at r1
      obtain ⟨x, HX⟩ : ∃ x, Hid (x = fs[k]) := ⟨fs[k], rfl⟩
      rw [← HX.out] at r0 r1
      obtain ⟨nm, kd⟩ := x
      simp only at r0 r1
      obtain ⟨b0, b1, b2⟩ := st_cells hm.box
      have f0 := blk_free hm.box 0
      have hbl := lt_block hm.box
      have hsz := hm.below.size
      by_cases hkd : kd = 1 ∨ kd = 2
      · have HKD : Hid (Doc.kindB kd = true) := (show Doc.kindB kd = true by rcases hkd with rfl | rfl <;> rfl)
        rcases hkd with rfl | rfl
        · go_wp2_with fail
          go_region_law (refine step_append_at rfl (.tmp 53) (.tmp 58) 85 rfl (w.heap.size + 1) 92 i0 _ 2 24 Tryz.underlying85 hi hz0 hz1 hz2 rfl (by decide) _ k (fldsC (fs.take k)) (by simp [Act.eval]) (own_drew (hm.row.alloc _)) ⟨wr.heap.size, 0, none⟩ 1 1 (fldC ⟨nm, 1⟩) (by simp [Act.eval]) rfl (fun j u hj => cells_new_drew _ (fldC ⟨nm, 1⟩) _ _ (by simp) j u hj) (fldC_one ⟨nm, 1⟩) (by unfold maxLen; omega) (by omega) (by simp; omega) ?_; intro v4 w4 hown4 hgrow4 _; obtain ⟨g4, cap4, rfl⟩ := own_slice' hown4 (by omega); obtain ⟨hbx4, hmid4⟩ := NewMid.step hm hown4 hgrow4 hk2 HX.out; have b40 := blk_cell hbx4 0 _ rfl; have f40 := blk_free hbx4 0; have HM : Hid _ := hmid4; clear hown4 hgrow4 hmid4)
          all_goals
            go_wp2_with fail
            go_roundw
            case rel =>
              refine ⟨k + 1, _, by omega, by go_num, HM.out, fun j hj h1 => ?_⟩
              by_cases h : j = k
              · subst h; rw [← HX.out]; exact HKD.out
              · exact HB.out j (by omega) h1
            case measure => simp [intOf]; omega
        · go_wp2_with fail
          go_region_law (refine step_append_at rfl (.tmp 53) (.tmp 58) 85 rfl (w.heap.size + 1) 92 i0 _ 2 24 Tryz.underlying85 hi hz0 hz1 hz2 rfl (by decide) _ k (fldsC (fs.take k)) (by simp [Act.eval]) (own_drew (hm.row.alloc _)) ⟨wr.heap.size, 0, none⟩ 1 1 (fldC ⟨nm, 2⟩) (by simp [Act.eval]) rfl (fun j u hj => cells_new_drew _ (fldC ⟨nm, 2⟩) _ _ (by simp) j u hj) (fldC_one ⟨nm, 2⟩) (by unfold maxLen; omega) (by omega) (by simp; omega) ?_; intro v4 w4 hown4 hgrow4 _; obtain ⟨g4, cap4, rfl⟩ := own_slice' hown4 (by omega); obtain ⟨hbx4, hmid4⟩ := NewMid.step hm hown4 hgrow4 hk2 HX.out; have b40 := blk_cell hbx4 0 _ rfl; have f40 := blk_free hbx4 0; have HM : Hid _ := hmid4; clear hown4 hgrow4 hmid4)
          all_goals
            go_wp2_with fail
            go_roundw
            case rel =>
              refine ⟨k + 1, _, by omega, by go_num, HM.out, fun j hj h1 => ?_⟩
              by_cases h : j = k
              · subst h; rw [← HX.out]; exact HKD.out
              · exact HB.out j (by omega) h1
            case measure => simp [intOf]; omega
      · have hkd1 : ¬ kd = 1 := fun h => hkd (.inl h)
        have hkd2 : ¬ kd = 2 := fun h => hkd (.inr h)
        have HKD : Hid (Doc.kindB kd = false) := (show Doc.kindB kd = false by simp [Doc.kindB, hkd1, hkd2])
        clear hkd
        go_wp2_with fail
        all_goals first
          | (go_ret2; refine .inl ⟨rfl, hm.below, k, hk2, ?_⟩; rw [← HX.out]; exact HKD.out)
          | (exfalso; simp_all; done)
    · obtain rfl : k = fs.length := by omega
      have hall : ∀ j (h : j < fs.length), Doc.kindB fs[j].kind = true := fun j h => HB.out j h h
      have HALL : Hid _ := hall
      have HM : Hid _ := hm
      have hsl2 : ∀ w', Below w.heap.size w w' → Sl w' (.slice (some ⟨b, off, none⟩) fs.length cap) fs.length (fldsC fs) := fun w' hb' => HS.out.below hb'
      have HSL : Hid _ := hsl2
      have hbel := hm.below
      clear hall hm hsl2
      go_wp2_with fail
      go_loopw [8] (fun iv wx => ∃ k : Nat, k ≤ fs.length ∧ iv = .int .i64 k ∧ wx = wr ∧ Hid (∀ j (_ : j < k) (h1 : j < fs.length), Doc.nameAt fs j fs[j].name = true)) (fun iv _ => fs.length - (intOf iv).toNat)
      case atStart => exact ⟨0, Nat.zero_le _, rfl, rfl, fun j hj => by omega⟩
      case round =>
        obtain ⟨k, hk', rfl, rfl, HB2⟩ := hrel
        by_cases hk2' : k < fs.length
        · have r0 := (hbel.cell (p := ⟨b, off + k * 2, none⟩) hlt).trans (HR.out (k * 2) (.string fs[k].name) (by unfold fldsC; rw [show k * 2 = k * 2 + 0 from rfl, flat_at fldC 2 fldC_len fs k hk2' 0 (by omega)]; rfl))
          obtain ⟨x, HX⟩ : ∃ x, Hid (x = fs[k].name) := ⟨fs[k].name, rfl⟩
          rw [← HX.out] at r0
          have hxs := hnm k hk2'
          rw [← HX.out] at hxs
          obtain ⟨nb, HNB⟩ : ∃ nb, Hid (nb = Doc.nameB x) := ⟨Doc.nameB x, rfl⟩
          obtain ⟨fp, HFP⟩ : ∃ fp, Hid (fp = Doc.placeI (Doc.idxF fs x)) := ⟨Doc.placeI (Doc.idxF fs x), rfl⟩
          have HNA : Hid (Doc.nameAt fs k x = (nb && !(decide (fp < k)))) := by show _ = _; unfold Doc.nameAt; rw [HNB.out, HFP.out]
          cases nb with
          | false =>
            go_wp2_with fail
            refine (name_any x _ hxs).mono ?_
            rw [← HNB.out]
            rintro r w5 ⟨rfl, hw5⟩
            subst hw5
            go_wp2_with fail
            go_ret2
            refine .inr (.inl ⟨HALL.out, rfl, hbel, k, hk2', ?_⟩)
            rw [← HX.out, HNA.out]; rfl
          | true =>
            by_cases hfp : fp < k
            · go_wp2_with fail
              refine (name_any x _ hxs).mono ?_
              rw [← HNB.out]
              rintro r w5 ⟨rfl, hw5⟩
              subst hw5
              go_wp2_with fail
              refine (field_any fs (by omega) _ (HSL.out _ hbel) x).mono ?_
              rw [← HFP.out]
              rintro r w6 ⟨rfl, hw6⟩
              subst hw6
              go_wp2_with fail
              go_ret2
              refine .inr (.inl ⟨HALL.out, rfl, hbel, k, hk2', ?_⟩)
              rw [← HX.out, HNA.out]; simp [hfp]
            · go_wp2_with fail
              refine (name_any x _ hxs).mono ?_
              rw [← HNB.out]
              rintro r w5 ⟨rfl, hw5⟩
              subst hw5
              go_wp2_with fail
              refine (field_any fs (by omega) _ (HSL.out _ hbel) x).mono ?_
              rw [← HFP.out]
              rintro r w6 ⟨rfl, hw6⟩
              subst hw6
              go_wp2_with fail
              go_roundw
              case rel =>
                refine ⟨k + 1, by omega, by go_num, by first | rfl | trivial, fun j hj h1 => ?_⟩
                by_cases h : j = k
                · subst h; rw [← HX.out, HNA.out]; simp [hfp]
                · exact HB2.out j (by omega) h1
              case measure => simp [intOf]; omega
        · obtain rfl : k = fs.length := by omega
          go_wp2_with fail
          go_ret2
          refine .inr (.inr ⟨HALL.out, fun j h => HB2.out j h h, rfl, ?_, hbel⟩)
          have hm := HM.out
          have hrow := hm.row
          rw [List.take_of_length_le (Nat.le_refl _)] at hrow
          have hr0 := own_zero hrow
          exact ⟨_, _, [], hm.box, hr0, World.ownsRow_nil _ _ _ _, rfl, fun i hi => (by simp at hi), Nat.le_refl _, fun k e => (by have := own_ge hrow e; omega), fun k e => (by cases e), fun i hi => (by simp at hi)⟩
end
end Go.Proofs.YtbnelaoeblhndaaGreatDoor
/- The walk of strings.Clone. -/
namespace Go.Proofs.YtbnelaoeblhndaaGreatDoor
open Go.RowKit
set_option maxRecDepth 100000

theorem sclone_any (s : ByteArray) (hs : s.size ≤ 140737488351232) (w : World) : Calls Tryz.prog 106 #[.string s] w fun e w' => e = .returned (.string s) ∧ Below w.heap.size w w' := by
  go_enter Tryz.func106, Tryz.ntmps106
  go_wp2_with fail
  refine (Tryz.stringslite_Clone s _ (by omega)).mono ?_
  rintro e w1 ⟨rfl, hb⟩
  go_wp2_with fail
  go_ret
  exact ⟨rfl, hb⟩

end Go.Proofs.YtbnelaoeblhndaaGreatDoor
/- The walk of the program's ownFields. -/
namespace Go.Proofs.YtbnelaoeblhndaaGreatDoor
open Go.RowKit
set_option maxRecDepth 100000

section
variable {w : World}

theorem box_kept {w3 w4 : World} {o u : Obj} {j : Nat} {row : Option Nat} (hg : (w3.alloc o).grownBy w4 row) (q : w3.heap[j]? = some u) (hne : some j ≠ row) : w4.heap[j]? = some u :=
  (hg.block j (by have := lt_block q; simp; omega) hne).trans ((heap_alloc_old w3 o (lt_block q)).trans q)
theorem grown_below {w3 w4 wr : World} {o : Obj} {e size k : Nat} {v : Value} {cs : List Value} (hb : Below w.heap.size w w3) (hg : (w3.alloc o).grownBy w4 v.ownBlock) (hr : wr.ownsRow w.heap.size e size v k cs) : Below w.heap.size w w4 :=
  (hb.alloc hb.size o).grown hg (by have := hb.size; simp; omega) (fun j ej => own_ge hr ej)

set_option maxHeartbeats 4000000 in
theorem ownFields_any (fs : List Doc.Fld) (h1 : 1 ≤ fs.length) (hl : fs.length ≤ 4) (fv : Value) (hs : Sl w fv fs.length (fldsC fs)) (hnm : ∀ j (h : j < fs.length), fs[j].name.size ≤ 140737488351232) :
    Calls Tryz.prog 62 #[fv] w fun e w' => ∃ v, e = .returned v ∧ w'.ownsRow w.heap.size 92 2 v fs.length (fldsC fs) ∧ Below w.heap.size w w' := by
  obtain ⟨i0, hi, hz0, hz1, hz2⟩ := info_parts Tryz.infoFldT
  rcases hs.has with ⟨h0, _⟩ | ⟨h0, b, off, cap, rfl, hc, hlt, hr⟩
  · omega
  have HR : Hid _ := hr
  clear hs hr
  go_enter Tryz.func62, Tryz.ntmps62
  go_wp2_with fail
  go_loopw [3, 8] (fun v i wr => ∃ k : Nat, k ≤ fs.length ∧ i = .int .i64 k ∧ wr.ownsRow w.heap.size 92 2 v k (fldsC (fs.take k)) ∧ Below w.heap.size w wr) (fun _ i _ => fs.length - (intOf i).toNat)
  case atStart => exact ⟨0, Nat.zero_le _, rfl, World.ownsRow_nil _ _ _ _, Below.refl _ _⟩
  case round =>
    obtain ⟨k, hk, rfl, hrow, hb⟩ := hrel
    obtain ⟨vb, vc, rfl⟩ := row_slice hrow
    have hsz := hb.size
    have hbl : b < wr.heap.size := by omega
    by_cases hk2 : k < fs.length
    · have r0 := (hb.cell (p := ⟨b, off + k * 2, none⟩) hlt).trans (HR.out (k * 2) (.string fs[k].name) (by unfold fldsC; rw [show k * 2 = k * 2 + 0 from rfl, flat_at fldC 2 fldC_len fs k hk2 0 (by omega)]; rfl))
      have r1 := (hb.cell (p := ⟨b, off + (k * 2 + 1), none⟩) hlt).trans (HR.out (k * 2 + 1) (.int .i64 fs[k].kind) (by unfold fldsC; rw [flat_at fldC 2 fldC_len fs k hk2 1 (by omega)]; rfl))
      rw [← Nat.add_assoc] at r1
      have hxs := hnm k hk2
      obtain ⟨x, HX⟩ : ∃ x, Hid (x = fs[k]) := ⟨fs[k], rfl⟩
      rw [← HX.out] at r0 r1 hxs
      go_wp2_with fail
      have hnb : some wr.heap.size ≠ (Value.slice vb k vc).ownBlock := fun e => by have := ownLt hrow e.symm; omega
      have hbox := heap_alloc_new wr (.cells #[.string x.name, .int .i64 x.kind] 92)
      have s0 := blk_cell hbox 0 _ rfl
      have s1 := blk_cell hbox 1 _ rfl
      go_region_held_law (fun w' => w'.cell? ⟨wr.heap.size, 0, none⟩ = some (.string x.name) ∧ w'.cell? ⟨wr.heap.size, 1, none⟩ = some (.int .i64 x.kind)) (first | exact ⟨u0, u1⟩ | go_keep | (exact ⟨(hb3.cell (p := ⟨wr.heap.size, 0, none⟩) (by show wr.heap.size < (wr.heap.push _).size; simp)).trans s0, (hb3.cell (p := ⟨wr.heap.size, 1, none⟩) (by show wr.heap.size < (wr.heap.push _).size; simp)).trans s1⟩)) (first | (go_at_call 106; refine (sclone_any x.name hxs _).mono ?_; rintro r w3 ⟨rfl, hb3⟩; have q3 := (hb3.block wr.heap.size (by show wr.heap.size < (wr.heap.push _).size; simp)).trans hbox; have hrow3 : w3.ownsRow w.heap.size 92 2 (.slice vb k vc) k (fldsC (fs.take k)) := rowKept (hrow.alloc _) (fun j o e ho => (hb3.block j (lt_block ho)).trans ho); have hb4 : Below w.heap.size w w3 := (hb.alloc hsz _).drew.trans (hb3.mono (by show w.heap.size ≤ (wr.heap.push _).size; simp; omega)); have hsz3 := hb4.size) | (refine step_append_at rfl (.tmp 12) (.tmp 19) 85 rfl w.heap.size 92 i0 _ 2 24 Tryz.underlying85 hi hz0 hz1 hz2 rfl (by decide) (.slice vb k vc) k (fldsC (fs.take k)) (by simp [Act.eval]) (by first | exact hrow3.alloc _ | exact own_drew (hrow3.alloc _)) ⟨w3.heap.size, 0, none⟩ 1 1 (fldC x) (by simp [Act.eval]) rfl (by first | exact fun j u hj => cells_new _ (fldC x) _ _ rfl j u hj | exact fun j u hj => cells_new_drew _ (fldC x) _ _ rfl j u hj) (fldC_one x) (by unfold maxLen; omega) (by omega) (by simp; omega) ?_; intro v4 w4 hown4 hgrow4 _; have q4 := box_kept hgrow4 q3 hnb; have u0 := blk_cell q4 0 _ rfl; have u1 := blk_cell q4 1 _ rfl; have hb5 := grown_below hb4 hgrow4 hrow; obtain ⟨g4, cap4, rfl⟩ := own_slice' hown4 (by omega)))
      all_goals
        go_wp2_with fail
        go_roundw
        case rel =>
          refine ⟨k + 1, by omega, by go_num, ?_, hb5⟩
          have e3 : fldsC (fs.take (k + 1)) = fldsC (fs.take k) ++ fldC x := by
            rw [← List.take_append_getElem hk2, HX.out]
            unfold fldsC
            rw [List.flatMap_append]
            simp
          rw [e3]; exact hown4
        case measure => simp [intOf]; omega
    · obtain rfl : k = fs.length := by omega
      rw [List.take_of_length_le (Nat.le_refl _)] at hrow
      go_wp2_with fail
      go_ret
      exact ⟨_, rfl, hrow, hb⟩
end
end Go.Proofs.YtbnelaoeblhndaaGreatDoor
