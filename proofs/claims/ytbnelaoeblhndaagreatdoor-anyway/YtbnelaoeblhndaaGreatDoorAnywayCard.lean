/- For every list of things, every list of numbers and every number the law Anyway returns true: a store into which things were put one behind the other and one into which each was put once, the last ones first, find the same, and the same nearest; what is handed in reads behind the call as it read before. Its condition: the package-level variables that the program's text lays hold, when the call begins, what that text lays (the card ties them); it speaks of the pruned copy of the project that the statement was turned from. -/
import Derived.Test.YtbnelaoeblhndaaGreatDoorFiNrA
import Derived.Test.YtbnelaoeblhndaaGreatDoorFiAnyw
import Derived.Test.YtbnelaoeblhndaaGreatDoorCards
import Derived.Test.YtbnelaoeblhndaaGreatDoorTie
import Derived.SevenTiedAt
import Derived.ChangeSame
namespace Go.Proofs.YtbnelaoeblhndaaGreatDoor
open Go.ChangeShapes Go.WideShapes Go.ChangeAt Go.WideMaps Go.WideElems Go.RowKit

set_option maxRecDepth 100000 in
theorem anyway_lifted (os : Os) (started : os.Started) (H : Type) (enc : TypeId × Value → H) :
    ReturnsInHanded {} Tryz.checked os 10 .any (fun w args => (Rows.anywaySpec.pre enc Tryz.prog Tryz.f10 [] false w args ∧ laidMetH Tryz.prog Rows.anywayRow.laid w) ∧ sizedMet enc Tryz.prog Tryz.f10 (OpenSpec.ofChange Rows.anywaySpec) false w args)
      (Rows.anywaySpec.post enc Tryz.prog Tryz.f10 false true false false) := by
  refine returnsInHanded_of_change_and (C := Tryz.checked) (X := fun w _ => laidMetH Tryz.prog Rows.anywayRow.laid w) (fun _ _ _ hh h => h.of_heap hh) Keep.own started (by kernel_rfl) Tryz.func10
    (ChangeSpec.witness_shaped (enc := enc) (C := Tryz.checked) (os := os) (X := fun w _ => laidMetH Tryz.prog Rows.anywayRow.laid w) false (World.doorLaid Tryz.prog 400 os) #[.slice none 0 0, .slice none 0 0, .int .i64 0] 8 rfl (World.shaped_of_RefB (by kernel_rfl) (by kernel_rfl)) (by kernel_rfl) (by kernel_rfl) (by kernel_rfl) (Keep.door_met os _)) ?_
  intro W base args ds gs before hval0 hW _ _ hL _
  have hval : ∀ (j : Nat) t v, Tryz.f10.params[j]? = some t → args[j]? = some v → Value.okWide Tryz.prog W .any base t v := hval0
  have hW' := hW
  obtain ⟨p, q, hA0, hV, rfl, hfz, hnd⟩ := hW
  have hA : DataW.TrodAll enc Tryz.prog W 0 (fun _ => true) true Tryz.f10.params.toList args.toList ds p := hA0
  rw [Tryz.params10] at hA hval
  obtain ⟨v0, v1, v2, d0, d1, d2, p0, p1, p2, rfl, rfl, rfl, h0, h1, h2⟩ := trodAll_three hA
  obtain ⟨rfl, rfl⟩ := trodVars_none hV
  obtain ⟨a0, len, cap, rfl⟩ := okWide_slice Tryz.underlying32 (hval 0 32 v0 rfl rfl)
  obtain ⟨a1, len1, cap1, rfl⟩ := okWide_slice Tryz.underlying33 (hval 1 33 v1 rfl rfl)
  obtain ⟨y, rfl, rfl, rfl, hy⟩ := open_int Tryz.underlying3 (hval 2 3 v2 rfl rfl) h2
  have h0k := h0
  obtain ⟨fuel, hf⟩ := h0
  have h1k := h1
  obtain ⟨fuel1, hf1⟩ := h1
  have hlaid := Keep.of_laid hL
  clear hA0 hval0
  simp only [List.append_nil] at hW'
  have hlt : ∀ x ∈ p0, x.block < W.heap.size := fun x hx => by simpa using hW'.lt x (by simp [hx])
  have hlt1 : ∀ x ∈ p1, x.block < W.heap.size := fun x hx => by simpa using hW'.lt x (by simp [hx])
  have hargs : ∀ (W' : World), Below W.heap.size W W' → DataW.Trod enc Tryz.prog W' 0 (fun b => decide (b < W.heap.size)) true 32 (.slice a0 len cap) d0 p0 :=
    fun W' hn => Below.trod Keep.laidOut_all (by kernel_rfl) (of_decide_eq_true (by kernel_rfl)) h0k hn hlt
  have hargs1 : ∀ (W' : World), Below W.heap.size W W' → DataW.Trod enc Tryz.prog W' 0 (fun b => decide (b < W.heap.size)) true 33 (.slice a1 len1 cap1) d1 p1 :=
    fun W' hn => Below.trod Keep.laidOut_all (by kernel_rfl) (of_decide_eq_true (by kernel_rfl)) h1k hn hlt1
  obtain ⟨r, hrl, hr64, hrs⟩ := Keep.open_ints (sv := .slice a1 len1 cap1) (by simpa [Value.cells] using hf1)
  obtain ⟨l, hl, h64, hs⟩ := Keep.open_things (sv := .slice a0 len cap) (by simpa [Value.cells] using hf)
  refine (anyway_any hlaid l hl h64 _ hs r hr64 hrl _ hrs y (Keep.wf_i64 hy)).mono fun e W' ⟨he, hnx⟩ => ?_
  subst he
  have hint : ∀ (W' : World) (n : Int), (Lit.int .i64 n).wf = true → DataW.Trod enc Tryz.prog W' 0 (fun b => decide (b < W.heap.size)) true 3 (.int .i64 n) (.lit (.int .i64 n)) [] := fun W' n hn => ⟨1, trod_int_mk 0 Tryz.underlying3 hn⟩
  have hall := trodAll_mk3 (hargs _ hnx) (hargs1 _ hnx) (hint W' y hy)
  simp only [List.append_nil] at hall
  exact ⟨_, rfl, _, _, _, [], p0 ++ p1, [], hW', trodAll_mk1 (shut_bool Tryz.underlying4 _), hall, rfl, hnx.frame _, fun h => by cases h⟩

theorem anyway_said : Rows.AnywaySaid :=
  OpenClaim.holds_of_wide 10 Tryz.f10 rfl rfl rfl rfl rfl rfl rfl ⟨rfl, rfl, rfl, rfl, rfl⟩ rfl rfl rfl rfl rfl (by kernel_rfl) Tryz.func10 (by kernel_rfl)
    (of_decide_eq_true (by kernel_rfl)) (by unfold Func.isWrapper; first | (rw [if_pos (by decide +kernel)]; kernel_rfl) | (rw [if_neg (by decide +kernel)]; exact ⟨rfl, rfl⟩))
    (fun os started H enc _ => anyway_lifted os started H enc)

theorem anyway_card : Rows.AnywayCardSaid :=
  Claim7.holds_tied_plain_at .later [] [.data, .data, .data, .sentinel, .sentinel, .data] true Rows.anywayCard.stood.harness true
    anyway_said (fun _ h => by cases h) (by kernel_rfl) (fun _ h => by cases h) anyway_row_tie rfl ⟨rfl, rfl⟩ (by kernel_rfl) rfl
    (fun f fn hf hfn => by
      obtain rfl : f = 10 := Option.some.inj ((show Tryz.prog.funcNamed Rows.anywayRow.func = some 10 by kernel_rfl).symm.trans hf) |>.symm
      obtain rfl : fn = Tryz.f10 := (Option.some.inj (Tryz.func10.symm.trans hfn)).symm
      exact ⟨by kernel_rfl, fun j t ht => by
        rw [Tryz.params10] at ht
        have hm : t ∈ [32, 33, 3] := by simpa using Array.mem_of_getElem? ht
        have hall : ([32, 33, 3].all fun u => !Tryz.prog.wantsStandIn u) = true := by kernel_rfl
        exact (show Tryz.prog.wantsStandIn t = false by simpa using List.all_eq_true.1 hall t hm)⟩)
    (by kernel_rfl)
#print axioms anyway_card
end Go.Proofs.YtbnelaoeblhndaaGreatDoor
