/- The walk of the program's ownFields. -/
import Derived.Test.YtbnelaoeblhndaaGreatDoorThProg4
import Derived.Test.YtbnelaoeblhndaaGreatDoorThRef5
import Derived.Test.YtbnelaoeblhndaaGreatDoorShelfT
import Derived.Deep.RegionHeldLaw
import Derived.Deep.AppendLies
namespace Go.Proofs.YtbnelaoeblhndaaGreatDoor
open Go.RowKit
set_option maxRecDepth 100000

section
variable {w : World}

theorem box_kept {w3 w4 : World} {o u : Obj} {j : Nat} {row : Option Nat} (hg : (w3.alloc o).grownBy w4 row) (q : w3.heap[j]? = some u) (hne : some j ≠ row) : w4.heap[j]? = some u :=
  (hg.block j (by have := lt_block q; simp; omega) hne).trans ((heap_alloc_old w3 o (lt_block q)).trans q)
theorem grown_below {w3 w4 wr : World} {o : Obj} {e size k : Nat} {v : Value} {cs : List Value} (hb : Below w.heap.size w w3) (hg : (w3.alloc o).grownBy w4 v.ownBlock) (hr : wr.ownsRow w.heap.size e size v k cs) : Below w.heap.size w w4 :=
  (hb.alloc hb.size o).grown hg (by have := hb.size; simp; omega) (fun j ej => own_ge hr ej)

set_option maxHeartbeats 4000000 in
theorem ownFields_any (fs : List Doc.Fld) (h1 : 1 ≤ fs.length) (hl : fs.length ≤ 4) (fv : Value) (hs : Sl w fv fs.length (fldsC fs)) (hnm : ∀ j (h : j < fs.length), fs[j].name.size ≤ 140737488351232) :
    Calls Tryz.prog 62 #[fv] w fun e w' => ∃ v, e = .returned v ∧ w'.ownsRow w.heap.size 92 2 v fs.length (fldsC fs) ∧ Below w.heap.size w w' := by
  obtain ⟨i0, hi, hz0, hz1, hz2⟩ := info_parts Tryz.infoFldT
  rcases hs.has with ⟨h0, _⟩ | ⟨h0, b, off, cap, rfl, hc, hlt, hr⟩
  · omega
  have HR : Hid _ := hr
  clear hs hr
  go_enter Tryz.func62, Tryz.ntmps62
  go_wp2_with fail
  go_loopw [3, 8] (fun v i wr => ∃ k : Nat, k ≤ fs.length ∧ i = .int .i64 k ∧ wr.ownsRow w.heap.size 92 2 v k (fldsC (fs.take k)) ∧ Below w.heap.size w wr) (fun _ i _ => fs.length - (intOf i).toNat)
  case atStart => exact ⟨0, Nat.zero_le _, rfl, World.ownsRow_nil _ _ _ _, Below.refl _ _⟩
  case round =>
    obtain ⟨k, hk, rfl, hrow, hb⟩ := hrel
    obtain ⟨vb, vc, rfl⟩ := row_slice hrow
    have hsz := hb.size
    have hbl : b < wr.heap.size := by omega
    by_cases hk2 : k < fs.length
    · have r0 := (hb.cell (p := ⟨b, off + k * 2, none⟩) hlt).trans (HR.out (k * 2) (.string fs[k].name) (by unfold fldsC; rw [show k * 2 = k * 2 + 0 from rfl, flat_at fldC 2 fldC_len fs k hk2 0 (by omega)]; rfl))
      have r1 := (hb.cell (p := ⟨b, off + (k * 2 + 1), none⟩) hlt).trans (HR.out (k * 2 + 1) (.int .i64 fs[k].kind) (by unfold fldsC; rw [flat_at fldC 2 fldC_len fs k hk2 1 (by omega)]; rfl))
      rw [← Nat.add_assoc] at r1
      have hxs := hnm k hk2
      obtain ⟨x, HX⟩ : ∃ x, Hid (x = fs[k]) := ⟨fs[k], rfl⟩
      rw [← HX.out] at r0 r1 hxs
      go_wp2_with fail
      have hnb : some wr.heap.size ≠ (Value.slice vb k vc).ownBlock := fun e => by have := ownLt hrow e.symm; omega
      have hbox := heap_alloc_new wr (.cells #[.string x.name, .int .i64 x.kind] 92)
      have s0 := blk_cell hbox 0 _ rfl
      have s1 := blk_cell hbox 1 _ rfl
      go_region_held_law (fun w' => w'.cell? ⟨wr.heap.size, 0, none⟩ = some (.string x.name) ∧ w'.cell? ⟨wr.heap.size, 1, none⟩ = some (.int .i64 x.kind)) (first | exact ⟨u0, u1⟩ | go_keep | (exact ⟨(hb3.cell (p := ⟨wr.heap.size, 0, none⟩) (by show wr.heap.size < (wr.heap.push _).size; simp)).trans s0, (hb3.cell (p := ⟨wr.heap.size, 1, none⟩) (by show wr.heap.size < (wr.heap.push _).size; simp)).trans s1⟩)) (first | (go_at_call 106; refine (sclone_any x.name hxs _).mono ?_; rintro r w3 ⟨rfl, hb3⟩; have q3 := (hb3.block wr.heap.size (by show wr.heap.size < (wr.heap.push _).size; simp)).trans hbox; have hrow3 : w3.ownsRow w.heap.size 92 2 (.slice vb k vc) k (fldsC (fs.take k)) := rowKept (hrow.alloc _) (fun j o e ho => (hb3.block j (lt_block ho)).trans ho); have hb4 : Below w.heap.size w w3 := (hb.alloc hsz _).drew.trans (hb3.mono (by show w.heap.size ≤ (wr.heap.push _).size; simp; omega)); have hsz3 := hb4.size) | (refine step_append_at rfl (.tmp 12) (.tmp 19) 85 rfl w.heap.size 92 i0 _ 2 24 Tryz.underlying85 hi hz0 hz1 hz2 rfl (by decide) (.slice vb k vc) k (fldsC (fs.take k)) (by simp [Act.eval]) (by first | exact hrow3.alloc _ | exact own_drew (hrow3.alloc _)) ⟨w3.heap.size, 0, none⟩ 1 1 (fldC x) (by simp [Act.eval]) rfl (by first | exact fun j u hj => cells_new _ (fldC x) _ _ rfl j u hj | exact fun j u hj => cells_new_drew _ (fldC x) _ _ rfl j u hj) (fldC_one x) (by unfold maxLen; omega) (by omega) (by simp; omega) ?_; intro v4 w4 hown4 hgrow4 _; have q4 := box_kept hgrow4 q3 hnb; have u0 := blk_cell q4 0 _ rfl; have u1 := blk_cell q4 1 _ rfl; have hb5 := grown_below hb4 hgrow4 hrow; obtain ⟨g4, cap4, rfl⟩ := own_slice' hown4 (by omega)))
      all_goals
        go_wp2_with fail
        go_roundw
        case rel =>
          refine ⟨k + 1, by omega, by go_num, ?_, hb5⟩
          have e3 : fldsC (fs.take (k + 1)) = fldsC (fs.take k) ++ fldC x := by
            rw [← List.take_append_getElem hk2, HX.out]
            unfold fldsC
            rw [List.flatMap_append]
            simp
          rw [e3]; exact hown4
        case measure => simp [intOf]; omega
    · obtain rfl : k = fs.length := by omega
      rw [List.take_of_length_le (Nat.le_refl _)] at hrow
      go_wp2_with fail
      go_ret
      exact ⟨_, rfl, hrow, hb⟩
end
end Go.Proofs.YtbnelaoeblhndaaGreatDoor
