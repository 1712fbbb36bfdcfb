/- For every list of things, every list of numbers and every number the law Logic returns true: what a filter says is threefold, as the law reckons it; what is handed in reads behind the call as it read before. Its condition: the package-level variables that the program's text lays hold, when the call begins, what that text lays (the card ties them); it speaks of the pruned copy of the project that the statement was turned from. -/
import Derived.Test.YtbnelaoeblhndaaGreatDoorFiM4
import Derived.Test.YtbnelaoeblhndaaGreatDoorFiM6
import Derived.Test.YtbnelaoeblhndaaGreatDoorCards
import Derived.Test.YtbnelaoeblhndaaGreatDoorTie
import Derived.SevenTiedAt
import Derived.ChangeSame
namespace Go.Proofs.YtbnelaoeblhndaaGreatDoor
open Go.ChangeShapes Go.WideShapes Go.ChangeAt Go.WideMaps Go.WideElems Go.RowKit

namespace Keep
theorem cells_int : Tryz.prog.cellsOf 3 = 1 := by kernel_rfl
/-- Numbers that are handed in. -/
theorem open_ints {H : Type} {enc : TypeId × Value → H} {w : World} {sp : Nat → Bool} {held : Bool} {fuel : Nat} {sv : Value} {x : DataW H × List MemPlace} (h : DataW.trod enc Tryz.prog w 0 sp held fuel 33 [sv] = some x) :
    ∃ l : List Int, l.length ≤ 9223372036854775807 ∧ (∀ t ∈ l, In64 t) ∧ Sl w sv l.length (intC l) := by
  rcases Go.Deep.open_slice1 Tryz.underlying33 cells_int h with ⟨hc, rfl⟩ | ⟨a, len, cap, m, n, V, D, Pl, hc, _, hl, hm, hme, rfl, hel⟩
  · simp only [List.cons.injEq, and_true] at hc
    subst hc
    exact ⟨[], by simp, by simp, ⟨.inl ⟨rfl, none, 0, rfl⟩⟩⟩
  · simp only [List.cons.injEq, and_true] at hc
    subst hc
    have hlm : len ≤ m := by rw [hme]; split <;> omega
    obtain ⟨l, hll, hp⟩ := list_of (p := fun i (y : Int) => w.cell? (a.add i) = some (.int .i64 y) ∧ In64 y) len (fun i hi => by
      obtain ⟨h1, h2⟩ := hel i (by omega)
      obtain ⟨k, e, _, f⟩ := DataW.trod_int Tryz.underlying3 h2
      simp only [List.cons.injEq, and_true] at e
      rw [e] at h1
      exact ⟨k, h1, wf_i64 f⟩)
    unfold maxLen at hm
    refine ⟨l, by omega, fun t ht => ?_, ⟨?_⟩⟩
    · obtain ⟨i, hi, rfl⟩ := List.getElem_of_mem ht
      exact (hp i hi).2
    · by_cases h0 : l.length = 0
      · exact .inl ⟨h0, some a, cap, by rw [← hll, h0]⟩
      · have h1 := (hp 0 (by omega)).1
        have ha0 : a.add 0 = a := by simp [Addr.add]
        rw [ha0] at h1
        have hs := World.cell?_spot h1
        have hb := World.block_lt_of_cell? w _ h1
        obtain ⟨b, off, spot⟩ := a
        simp only at hs hb
        subst hs
        refine .inr ⟨by omega, b, off, cap, by rw [hll], by omega, hb, fun j u hj => ?_⟩
        have hjl : j < l.length := by have := (List.getElem?_eq_some_iff.1 hj).1; simpa [intC] using this
        have h2 := (hp j hjl).1
        rw [add_off] at h2
        rw [h2, ← int_at l j hjl]
        exact hj
end Keep

set_option maxRecDepth 100000 in
theorem logic_lifted (os : Os) (started : os.Started) (H : Type) (enc : TypeId × Value → H) :
    ReturnsInHanded {} Tryz.checked os 8 .any (fun w args => (Rows.logicSpec.pre enc Tryz.prog Tryz.f8 [] false w args ∧ laidMetH Tryz.prog Rows.logicRow.laid w) ∧ sizedMet enc Tryz.prog Tryz.f8 (OpenSpec.ofChange Rows.logicSpec) false w args)
      (Rows.logicSpec.post enc Tryz.prog Tryz.f8 false true false false) := by
  refine returnsInHanded_of_change_and (C := Tryz.checked) (X := fun w _ => laidMetH Tryz.prog Rows.logicRow.laid w) (fun _ _ _ hh h => h.of_heap hh) Keep.own started (by kernel_rfl) Tryz.func8
    (ChangeSpec.witness_shaped (enc := enc) (C := Tryz.checked) (os := os) (X := fun w _ => laidMetH Tryz.prog Rows.logicRow.laid w) false (World.doorLaid Tryz.prog 400 os) #[.slice none 0 0, .slice none 0 0, .int .i64 0] 8 rfl (World.shaped_of_RefB (by kernel_rfl) (by kernel_rfl)) (by kernel_rfl) (by kernel_rfl) (by kernel_rfl) (Keep.door_met os _)) ?_
  intro W base args ds gs before hval0 hW _ _ hL _
  have hval : ∀ (j : Nat) t v, Tryz.f8.params[j]? = some t → args[j]? = some v → Value.okWide Tryz.prog W .any base t v := hval0
  have hW' := hW
  obtain ⟨p, q, hA0, hV, rfl, hfz, hnd⟩ := hW
  have hA : DataW.TrodAll enc Tryz.prog W 0 (fun _ => true) true Tryz.f8.params.toList args.toList ds p := hA0
  rw [Tryz.params8] at hA hval
  obtain ⟨v0, v1, v2, d0, d1, d2, p0, p1, p2, rfl, rfl, rfl, h0, h1, h2⟩ := trodAll_three hA
  obtain ⟨rfl, rfl⟩ := trodVars_none hV
  obtain ⟨a0, len, cap, rfl⟩ := okWide_slice Tryz.underlying32 (hval 0 32 v0 rfl rfl)
  obtain ⟨a1, len1, cap1, rfl⟩ := okWide_slice Tryz.underlying33 (hval 1 33 v1 rfl rfl)
  obtain ⟨y, rfl, rfl, rfl, hy⟩ := open_int Tryz.underlying3 (hval 2 3 v2 rfl rfl) h2
  have h0k := h0
  obtain ⟨fuel, hf⟩ := h0
  have h1k := h1
  obtain ⟨fuel1, hf1⟩ := h1
  have hlaid := Keep.of_laid hL
  clear hA0 hval0
  simp only [List.append_nil] at hW'
  have hlt : ∀ x ∈ p0, x.block < W.heap.size := fun x hx => by simpa using hW'.lt x (by simp [hx])
  have hlt1 : ∀ x ∈ p1, x.block < W.heap.size := fun x hx => by simpa using hW'.lt x (by simp [hx])
  have hargs : ∀ (W' : World), Below W.heap.size W W' → DataW.Trod enc Tryz.prog W' 0 (fun b => decide (b < W.heap.size)) true 32 (.slice a0 len cap) d0 p0 :=
    fun W' hn => Below.trod Keep.laidOut_all (by kernel_rfl) (of_decide_eq_true (by kernel_rfl)) h0k hn hlt
  have hargs1 : ∀ (W' : World), Below W.heap.size W W' → DataW.Trod enc Tryz.prog W' 0 (fun b => decide (b < W.heap.size)) true 33 (.slice a1 len1 cap1) d1 p1 :=
    fun W' hn => Below.trod Keep.laidOut_all (by kernel_rfl) (of_decide_eq_true (by kernel_rfl)) h1k hn hlt1
  obtain ⟨r, hrl, hr64, hrs⟩ := Keep.open_ints (sv := .slice a1 len1 cap1) (by simpa [Value.cells] using hf1)
  obtain ⟨l, hl, h64, hs⟩ := Keep.open_things (sv := .slice a0 len cap) (by simpa [Value.cells] using hf)
  refine (logic_any hlaid l hl h64 _ hs r hr64 hrl _ hrs y (Keep.wf_i64 hy)).mono fun e W' ⟨he, hnx⟩ => ?_
  subst he
  have hint : ∀ (W' : World) (n : Int), (Lit.int .i64 n).wf = true → DataW.Trod enc Tryz.prog W' 0 (fun b => decide (b < W.heap.size)) true 3 (.int .i64 n) (.lit (.int .i64 n)) [] := fun W' n hn => ⟨1, trod_int_mk 0 Tryz.underlying3 hn⟩
  have hall := trodAll_mk3 (hargs _ hnx) (hargs1 _ hnx) (hint W' y hy)
  simp only [List.append_nil] at hall
  exact ⟨_, rfl, _, _, _, [], p0 ++ p1, [], hW', trodAll_mk1 (shut_bool Tryz.underlying4 _), hall, rfl, hnx.frame _, fun h => by cases h⟩

theorem logic_said : Rows.LogicSaid :=
  OpenClaim.holds_of_wide 8 Tryz.f8 rfl rfl rfl rfl rfl rfl rfl ⟨rfl, rfl, rfl, rfl, rfl⟩ rfl rfl rfl rfl rfl (by kernel_rfl) Tryz.func8 (by kernel_rfl)
    (of_decide_eq_true (by kernel_rfl)) (by unfold Func.isWrapper; first | (rw [if_pos (by decide +kernel)]; kernel_rfl) | (rw [if_neg (by decide +kernel)]; exact ⟨rfl, rfl⟩))
    (fun os started H enc _ => logic_lifted os started H enc)

theorem logic_card : Rows.LogicCardSaid :=
  Claim7.holds_tied_plain_at .later [] [.data, .data, .data, .sentinel, .sentinel, .data] true Rows.logicCard.stood.harness true
    logic_said (fun _ h => by cases h) (by kernel_rfl) (fun _ h => by cases h) logic_row_tie rfl ⟨rfl, rfl⟩ (by kernel_rfl) rfl
    (fun f fn hf hfn => by
      obtain rfl : f = 8 := Option.some.inj ((show Tryz.prog.funcNamed Rows.logicRow.func = some 8 by kernel_rfl).symm.trans hf) |>.symm
      obtain rfl : fn = Tryz.f8 := (Option.some.inj (Tryz.func8.symm.trans hfn)).symm
      exact ⟨by kernel_rfl, fun j t ht => by
        rw [Tryz.params8] at ht
        have hm : t ∈ [32, 33, 3] := by simpa using Array.mem_of_getElem? ht
        have hall : ([32, 33, 3].all fun u => !Tryz.prog.wantsStandIn u) = true := by kernel_rfl
        exact (show Tryz.prog.wantsStandIn t = false by simpa using List.all_eq_true.1 hall t hm)⟩)
    (by kernel_rfl)
#print axioms logic_card
end Go.Proofs.YtbnelaoeblhndaaGreatDoor
