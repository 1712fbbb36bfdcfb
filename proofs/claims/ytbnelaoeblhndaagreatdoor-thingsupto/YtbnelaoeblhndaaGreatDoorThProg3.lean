/- The walk of the program's hasName. -/
import Derived.Test.YtbnelaoeblhndaaGreatDoorThProg1
namespace Go.Proofs.YtbnelaoeblhndaaGreatDoor
open Go.RowKit
set_option maxRecDepth 100000

section
variable {w : World}

/-- Has one of the fields this name? -/
def Doc.hasB (fs : List Doc.Fld) (nm : ByteArray) : Bool := fs.any fun f => f.name.toList == nm.toList

set_option maxHeartbeats 2000000 in
theorem hasName_any (fs : List Doc.Fld) (hl : fs.length ≤ 9223372036854775807) (fv : Value) (hs : Sl w fv fs.length (fldsC fs)) (nm : ByteArray) :
    Calls Tryz.prog 105 #[fv, .string nm] w fun e w' => e = .returned (.bool (Doc.hasB fs nm)) ∧ Below w.heap.size w w' := by
  rcases hs.has with ⟨h0, a, cap, rfl⟩ | ⟨h0, b, off, cap, rfl, hc, hlt, hr⟩
  · obtain rfl := List.eq_nil_of_length_eq_zero h0
    go_enter Tryz.func105, Tryz.ntmps105
    go_wp2_with fail
    go_loop [9] (fun i => i = .int .i64 0) (fun _ => 0)
    case atStart => rfl
    case round =>
      obtain rfl := hrel
      go_wp2_with fail
      go_ret
      exact ⟨rfl, Below.refl _ _⟩
  · have HR : Hid _ := hr
    clear hs hr
    go_enter Tryz.func105, Tryz.ntmps105
    go_wp2_with fail
    go_loopw [9] (fun i wr => ∃ k : Nat, k ≤ fs.length ∧ i = .int .i64 k ∧ Below w.heap.size w wr ∧ Hid (∀ j (_ : j < k) (hj : j < fs.length), (fs[j].name.toList == nm.toList) = false)) (fun i _ => fs.length - (intOf i).toNat)
    case atStart => exact ⟨0, Nat.zero_le _, rfl, Below.refl _ _, fun j hj => by omega⟩
    case round =>
      obtain ⟨k, hk, rfl, hb, HB⟩ := hrel
      have hsz := hb.size
      have hbl : b < wr.heap.size := by omega
      by_cases hk2 : k < fs.length
      · have r0 := (hb.cell (p := ⟨b, off + k * 2, none⟩) hlt).trans (HR.out (k * 2) (.string fs[k].name) (by unfold fldsC; rw [show k * 2 = k * 2 + 0 from rfl, flat_at fldC 2 fldC_len fs k hk2 0 (by omega)]; rfl))
        have r1 := (hb.cell (p := ⟨b, off + (k * 2 + 1), none⟩) hlt).trans (HR.out (k * 2 + 1) (.int .i64 fs[k].kind) (by unfold fldsC; rw [flat_at fldC 2 fldC_len fs k hk2 1 (by omega)]; rfl))
        rw [← Nat.add_assoc] at r1
        obtain ⟨x, HX⟩ : ∃ x, Hid (x = fs[k]) := ⟨fs[k], rfl⟩
        rw [← HX.out] at r0 r1
        by_cases hin : (x.name.toList == nm.toList) = true
        · have HF : Hid (Doc.hasB fs nm = true) := by
            show _ = _
            unfold Doc.hasB
            rw [List.any_eq_true]
            exact ⟨fs[k], List.getElem_mem hk2, by rw [← HX.out]; exact hin⟩
          go_wp2_with fail
          go_ret
          exact ⟨by rw [HF.out]; rfl, hb.alloc hsz _⟩
        · have hin : (x.name.toList == nm.toList) = false := by simpa using hin
          have HI : Hid ((x.name.toList == nm.toList) = false) := hin
          go_wp2_with fail
          go_roundw
          case rel => exact ⟨k + 1, by omega, by go_num, hb.alloc hsz _, fun j hj hjl => by
            by_cases h : j = k
            · subst h; rw [← HX.out]; exact HI.out
            · exact HB.out j (by omega) hjl⟩
          case measure => simp [intOf]; omega
      · obtain rfl : k = fs.length := by omega
        have HF : Hid (Doc.hasB fs nm = false) := by
          show _ = _
          unfold Doc.hasB
          rw [List.any_eq_false]
          intro f hf
          obtain ⟨j, hj, rfl⟩ := List.getElem_of_mem hf
          rw [HB.out j hj hj]; simp
        go_wp2_with fail
        go_ret
        exact ⟨by rw [HF.out]; rfl, hb⟩
end
end Go.Proofs.YtbnelaoeblhndaaGreatDoor
