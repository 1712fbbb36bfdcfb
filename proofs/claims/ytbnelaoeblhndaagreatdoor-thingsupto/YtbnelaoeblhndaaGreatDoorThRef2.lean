/- The walk of Put of package rummageref. -/
import Derived.Test.YtbnelaoeblhndaaGreatDoorThRef1
namespace Go.Proofs.YtbnelaoeblhndaaGreatDoor
open Go.RowKit
set_option maxRecDepth 100000

theorem Tryz.infoIntT : (Tryz.prog.info? 3).map (fun i => (i.zero, i.size, i.bytes)) = some (some (.int .i64 0), 1, 8) := by kernel_rfl
theorem Tryz.infoValT : (Tryz.prog.info? 94).map (fun i => (i.zero, i.size, i.bytes)) = some (some (.agg #[.int .i64 0, .int .i64 0, .string ⟨#[]⟩]), 3, 32) := by kernel_rfl
theorem Tryz.infoThgT : (Tryz.prog.info? 237).map (fun i => (i.zero, i.size, i.bytes)) = some (some (.agg #[.int .i64 0, .slice none 0 0, .slice none 0 0]), 3, 56) := by kernel_rfl
theorem Tryz.infoFldT : (Tryz.prog.info? 92).map (fun i => (i.zero, i.size, i.bytes)) = some (some (.agg #[.string ⟨#[]⟩, .int .i64 0]), 2, 24) := by kernel_rfl

/-- What Put was given that is wrong as a whole. -/
def Doc.putArg (fs : List Doc.Fld) (space id : Int) (spot : List Int) (vals : List Doc.Val) : Prop :=
  id < 0 ∨ (0 ≤ id ∧ 4095 < id) ∨ (0 ≤ id ∧ id ≤ 4095 ∧ Doc.spotB space spot = false) ∨ (0 ≤ id ∧ id ≤ 4095 ∧ Doc.spotB space spot = true ∧ vals.length ≠ fs.length)

section
variable {w : World} {F : Nat → Prop} {sb : Nat} {fs : List Doc.Fld} {space : Int} {ts : List Doc.Thg} {fv tv : Value} {ps : List (Value × Value)}

theorem row_slice {w : World} {m e size n : Nat} {v : Value} {cs : List Value} (h : w.ownsRow m e size v n cs) : ∃ b c, v = .slice b n c := by
  obtain ⟨_, h2⟩ := h
  rcases h2 with ⟨rfl, rfl⟩ | ⟨g, cap, cur, rfl, _⟩ <;> exact ⟨_, _, rfl⟩
theorem Sl.slice {sv : Value} {n : Nat} {cs : List Value} (h : Sl w sv n cs) : ∃ b c, sv = .slice b n c := by
  rcases h.has with ⟨rfl, a, c, e⟩ | ⟨_, b, o, c, e, _⟩ <;> exact ⟨_, _, e⟩

set_option maxHeartbeats 2000000 in
theorem rput_arg (h : RefAt w F sb fs space ts fv tv ps) (id : Int) (spot : List Int) (vals : List Doc.Val) (sv vv : Value) (hs : Sl w sv spot.length (intC spot)) (hv : Sl w vv vals.length (valsC vals)) (hl : spot.length ≤ 9223372036854775807) (hbad : Doc.putArg fs space id spot vals) :
    Calls Tryz.prog 93 #[.pointer (some ⟨sb, 0, none⟩), .int .i64 id, sv, vv] w fun e w' => e = .returned (.int .i64 1) ∧ w' = w := by
  obtain ⟨c0, c1, c2⟩ := st_cells h.blk
  have HC : Hid _ := rspot_any sb space c1 spot hl sv hs
  obtain ⟨fb, fc, rfl⟩ := row_slice h.fld
  obtain ⟨vb, vc, rfl⟩ := hv.slice
  obtain ⟨sbk, sc, rfl⟩ := hs.slice
  clear hs hv
  obtain ⟨x, HX⟩ : ∃ x, Hid (x = Doc.spotB space spot) := ⟨Doc.spotB space spot, rfl⟩
  unfold Doc.putArg at hbad
  rw [← HX.out] at hbad
  rcases hbad with k1 | ⟨k1, k2⟩ | ⟨k1, k2, k3⟩ | ⟨k1, k2, k3, k4⟩
  all_goals
    go_enter Tryz.func93, Tryz.ntmps93
    go_wp2_with fail
    refine Calls.mono HC.out ?_
    rw [← HX.out]
    rintro e w1 ⟨rfl, hw⟩
    subst hw
    go_wp2_with fail
    all_goals first
      | (go_ret; exact ⟨rfl, rfl⟩)
      | (exfalso; simp_all; done)
      | (exfalso; simp_all; omega)
end
end Go.Proofs.YtbnelaoeblhndaaGreatDoor
