/- Sets of numbers: the walks of And, Or and Minus. -/
import Derived.Test.YtbnelaoeblhndaaGreatDoorThSet2
namespace Go.Proofs.YtbnelaoeblhndaaGreatDoor
open Go.RowKit
set_option maxRecDepth 100000

def andB (a b : Bits) : Bits := fun j => a j &&& b j
def orB (a b : Bits) : Bits := fun j => a j ||| b j
def minusB (a b : Bits) : Bits := fun j => a j &&& ~~~b j
theorem memB_and (a b : Bits) (j : Nat) : memB (andB a b) j = (memB a j && memB b j) := by simp [memB, andB]
theorem memB_or (a b : Bits) (j : Nat) : memB (orB a b) j = (memB a j || memB b j) := by simp [memB, orB]
theorem memB_minus (a b : Bits) (j : Nat) : memB (minusB a b) j = (memB a j && !memB b j) := by
  have h1 : j % 64 < 64 := Nat.mod_lt _ (by decide)
  simp [memB, minusB, h1]

theorem run_index_set {V : Array Value} {k : Nat} {x : Int} (hk : k < 64) (hx : V[k]? = some (.int .u64 x)) (w : World) :
    (Instr.index 107 (.agg V) (.int .i64 k)).run Tryz.prog w = .ok (.int .u64 x) w := by
  have h1 : ∀ w, (sizeOf 105).run Tryz.prog w = .ok 1 w := fun w => by
    cases hq : Tryz.prog.info? 105 with
    | none => have := Tryz.infoU64; simp [hq] at this
    | some i => have := Tryz.infoU64; simp [hq] at this; simp [sizeOf, typeInfo, hq, this]
  have h2 : (part 105 V k).run Tryz.prog w = .ok (.int .u64 x) w := by
    unfold part
    simp [isAgg, run_underlying Tryz.underlying105, hx]
  simp [Instr.index, asIntOf, run_underlying Tryz.underlying107, h1, h2]
  omega

/-- The first k words laid together, the others as they were. -/
def uptoB (f : BitVec 64 → BitVec 64 → BitVec 64) (a b : Bits) (k : Nat) : Bits := fun j => if j < k then f (a j) (b j) else a j
theorem upto_zero (f : BitVec 64 → BitVec 64 → BitVec 64) (a b : Bits) : uptoB f a b 0 = a := by funext j; simp [uptoB]
theorem upto_step (f : BitVec 64 → BitVec 64 → BitVec 64) (a b : Bits) (k : Nat) : (fun j => if j = k then f (a k) (b k) else uptoB f a b k j) = uptoB f a b (k + 1) := by
  funext j
  unfold uptoB
  by_cases e : j = k
  · subst e; simp
  · by_cases e2 : j < k
    · simp [e, e2, show j < k + 1 by omega]
    · simp [e, e2, show ¬ j < k + 1 by omega]
theorem upto_all (f : BitVec 64 → BitVec 64 → BitVec 64) (a b : Bits) : setC (uptoB f a b 64) = setC (fun j => f (a j) (b j)) := by
  apply Array.ext_getElem?
  intro j
  by_cases hj : j < 64
  · rw [setC_get _ hj, setC_get _ hj]; simp [uptoB, hj]
  · rw [Array.getElem?_eq_none_iff.2 (by rw [setC_size]; omega), Array.getElem?_eq_none_iff.2 (by rw [setC_size]; omega)]

theorem heap_alloc3_0 (w : World) (A B C : Obj) : (((w.alloc A).alloc B).alloc C).heap[w.heap.size]? = some A := by
  rw [Below.heap_alloc _ _ _ (by simp; omega), Below.heap_alloc _ _ _ (by simp)]; exact heap_alloc_new w A
theorem heap_alloc3_1 (w : World) (A B C : Obj) : (((w.alloc A).alloc B).alloc C).heap[w.heap.size + 1]? = some B := by
  rw [Below.heap_alloc _ _ _ (by simp)]; exact heap_alloc2_new w A B
theorem heap_alloc3_2 (w : World) (A B C : Obj) : (((w.alloc A).alloc B).alloc C).heap[w.heap.size + 1 + 1]? = some C := by
  have := heap_alloc_new ((w.alloc A).alloc B) C
  simpa using this

set_option maxHeartbeats 2000000 in
theorem and_any (ws vs : Bits) (w : World) :
    Calls Tryz.prog 197 #[.agg (setC ws), .agg (setC vs)] w fun e w' => e = .returned (.agg (setC (andB ws vs))) ∧ Below w.heap.size w w' := by
  obtain ⟨Z, hz, HZ⟩ : ∃ Z, (∀ w, (zeroValue 107).run Tryz.prog w = .ok (.agg Z) w) ∧ Hid (Z = setC zeroB) := ⟨_, zero_set, rfl⟩
  obtain ⟨C, hC⟩ : ∃ C, C = setC ws := ⟨_, rfl⟩
  obtain ⟨V, hV⟩ : ∃ V, V = setC vs := ⟨_, rfl⟩
  obtain ⟨R, HR⟩ : ∃ R, Hid (R = setC (andB ws vs)) := ⟨_, rfl⟩
  rw [← hC, ← hV, ← HR.out]
  have HVI : Hid _ := setC_info vs
  rw [← hV] at HVI
  have HCC : Hid _ := hC
  have HVV : Hid _ := hV
  clear hC hV
  go_enter Tryz.func197, Tryz.ntmps197
  go_wp2_with (refine wpList_load_row rfl 107 _ rfl (w.heap.size + 1) rfl 107 V (0, 0) _ ?g1 Tryz.underlying107 rfl HVI.out ?_)
  case g1 => exact heap_alloc3_1 w _ _ _
  go_loopw [8] (fun i wr => ∃ k : Nat, k ≤ 64 ∧ i = .int .i64 k ∧ Below w.heap.size w wr ∧ Hid (wr.heap[w.heap.size]? = some (.cells (setC (uptoB (fun a b => a &&& b) ws vs k)) 107 (0, 0))) ∧ Hid (wr.heap[w.heap.size + 1 + 1]? = some (.cells Z 107 (0, 0)))) (fun i _ => 64 - (intOf i).toNat)
  case atStart => exact ⟨0, by omega, rfl, (((Below.refl _ _).alloc (Nat.le_refl _) _).alloc (by simp) _).alloc (by simp; omega) _, by show _ = _; rw [heap_alloc3_0, HCC.out, upto_zero], heap_alloc3_2 w _ _ _⟩
  case round =>
    obtain ⟨k, hk, rfl, hB, H0, H2⟩ := hrel
    by_cases hk2 : k < 64
    · have hi0 : (0 : Int) ≤ (k : Int) := by omega
      have hi1 : (k : Int) < 64 := by omega
      obtain ⟨U, HU⟩ : ∃ U, Hid (U = setC (uptoB (fun a b => a &&& b) ws vs k)) := ⟨_, rfl⟩
      have H0 := H0.out
      rw [← HU.out] at H0
      obtain ⟨x, HX⟩ : ∃ x, Hid (x = ((ws k).toNat : Int)) := ⟨_, rfl⟩
      obtain ⟨y, HY⟩ : ∃ y, Hid (y = ((vs k).toNat : Int)) := ⟨_, rfl⟩
      have c0 : wr.cell? ⟨w.heap.size, k, none⟩ = some (.int .u64 x) := by
        rw [cell_of_row _ _ k U _ _ H0, HU.out, setC_get _ hk2, HX.out]
        simp [uptoB]
      have f0 := frozen_of_row wr w.heap.size k U _ H0
      have hix := run_index_set (V := V) (x := y) hk2 (by rw [HVV.out, HY.out]; exact setC_get vs hk2)
      have HS : Hid ((wr.setCell ⟨w.heap.size, k, none⟩ (.int .u64 (bits .and .u64 x y))).heap[w.heap.size]? = some (.cells (setC (uptoB (fun a b => a &&& b) ws vs (k + 1))) 107 (0, 0))) := by
        show _ = _
        rw [heap_setCell_same _ _ _ U _ _ H0, HU.out, HX.out, HY.out, bits_and_bv, setC_set _ hk2, upto_step (fun a b => a &&& b)]
      have HT : Hid ((wr.setCell ⟨w.heap.size, k, none⟩ (.int .u64 (bits .and .u64 x y))).heap[w.heap.size + 1 + 1]? = some (.cells Z 107 (0, 0))) := by
        show _ = _
        rw [heap_setCell_other _ _ _ _ (by show w.heap.size + 1 + 1 ≠ w.heap.size; omega)]; exact H2.out
      have hsz := hB.size
      have hlt : w.heap.size < wr.heap.size := by
        rcases Nat.lt_or_ge w.heap.size wr.heap.size with h | h
        · exact h
        · rw [Array.getElem?_eq_none_iff.2 h] at H0; cases H0
      clear H0 hsz
      go_wp2_with fail
      go_roundw
      case rel => exact ⟨k + 1, by omega, by go_num, hB.setCell (p := ⟨w.heap.size, k, none⟩) (Nat.le_refl _) _, HS, HT⟩
      case measure => simp [intOf]; omega
    · obtain rfl : k = 64 := by omega
      have H0 := H0.out
      rw [upto_all (fun a b => a &&& b)] at H0
      rw [show setC (fun j => (fun a b => a &&& b) (ws j) (vs j)) = R from HR.out.symm] at H0
      have HRI : Hid _ := setC_info (andB ws vs)
      have HR1 : Hid _ := setC_one (andB ws vs)
      have HZS : Hid (Z.size = R.size) := by show _ = _; rw [HZ.out, HR.out, setC_size, setC_size]
      rw [← HR.out] at HRI HR1
      have H00 : Hid _ := H0
      clear H0
      go_wp2_with (first | (refine wpList_load_row rfl 107 _ rfl w.heap.size rfl 107 R (0, 0) _ ?g1 Tryz.underlying107 rfl ?g2 ?_) | (refine wpList_store_row rfl 107 _ _ rfl (w.heap.size + 1 + 1) rfl R rfl 107 Z ?g3 ?g4 ?g5 ?g6 ?_))
      case g1 => exact H00.out
      case g2 => exact HRI.out
      case g3 => exact H2.out
      case g4 => exact HRI.out
      case g5 => exact HZS.out
      case g6 => exact HR1.out
      refine bodyPost_ret (v := .agg R) (results_cell_row rfl _ _ (w.heap.size + 1 + 1) 107 R (0, 0) _ rfl ?_ Tryz.underlying107 rfl HRI.out) rfl ⟨rfl, ?_⟩
      · exact setRow_heap _ _ Z _ _ _ H2.out
      · exact Below.setRow hB (by omega) _

set_option maxHeartbeats 2000000 in
theorem or_any (ws vs : Bits) (w : World) :
    Calls Tryz.prog 198 #[.agg (setC ws), .agg (setC vs)] w fun e w' => e = .returned (.agg (setC (orB ws vs))) ∧ Below w.heap.size w w' := by
  obtain ⟨Z, hz, HZ⟩ : ∃ Z, (∀ w, (zeroValue 107).run Tryz.prog w = .ok (.agg Z) w) ∧ Hid (Z = setC zeroB) := ⟨_, zero_set, rfl⟩
  obtain ⟨C, hC⟩ : ∃ C, C = setC ws := ⟨_, rfl⟩
  obtain ⟨V, hV⟩ : ∃ V, V = setC vs := ⟨_, rfl⟩
  obtain ⟨R, HR⟩ : ∃ R, Hid (R = setC (orB ws vs)) := ⟨_, rfl⟩
  rw [← hC, ← hV, ← HR.out]
  have HVI : Hid _ := setC_info vs
  rw [← hV] at HVI
  have HCC : Hid _ := hC
  have HVV : Hid _ := hV
  clear hC hV
  go_enter Tryz.func198, Tryz.ntmps198
  go_wp2_with (refine wpList_load_row rfl 107 _ rfl (w.heap.size + 1) rfl 107 V (0, 0) _ ?g1 Tryz.underlying107 rfl HVI.out ?_)
  case g1 => exact heap_alloc3_1 w _ _ _
  go_loopw [8] (fun i wr => ∃ k : Nat, k ≤ 64 ∧ i = .int .i64 k ∧ Below w.heap.size w wr ∧ Hid (wr.heap[w.heap.size]? = some (.cells (setC (uptoB (fun a b => a ||| b) ws vs k)) 107 (0, 0))) ∧ Hid (wr.heap[w.heap.size + 1 + 1]? = some (.cells Z 107 (0, 0)))) (fun i _ => 64 - (intOf i).toNat)
  case atStart => exact ⟨0, by omega, rfl, (((Below.refl _ _).alloc (Nat.le_refl _) _).alloc (by simp) _).alloc (by simp; omega) _, by show _ = _; rw [heap_alloc3_0, HCC.out, upto_zero], heap_alloc3_2 w _ _ _⟩
  case round =>
    obtain ⟨k, hk, rfl, hB, H0, H2⟩ := hrel
    by_cases hk2 : k < 64
    · have hi0 : (0 : Int) ≤ (k : Int) := by omega
      have hi1 : (k : Int) < 64 := by omega
      obtain ⟨U, HU⟩ : ∃ U, Hid (U = setC (uptoB (fun a b => a ||| b) ws vs k)) := ⟨_, rfl⟩
      have H0 := H0.out
      rw [← HU.out] at H0
      obtain ⟨x, HX⟩ : ∃ x, Hid (x = ((ws k).toNat : Int)) := ⟨_, rfl⟩
      obtain ⟨y, HY⟩ : ∃ y, Hid (y = ((vs k).toNat : Int)) := ⟨_, rfl⟩
      have c0 : wr.cell? ⟨w.heap.size, k, none⟩ = some (.int .u64 x) := by
        rw [cell_of_row _ _ k U _ _ H0, HU.out, setC_get _ hk2, HX.out]
        simp [uptoB]
      have f0 := frozen_of_row wr w.heap.size k U _ H0
      have hix := run_index_set (V := V) (x := y) hk2 (by rw [HVV.out, HY.out]; exact setC_get vs hk2)
      have HS : Hid ((wr.setCell ⟨w.heap.size, k, none⟩ (.int .u64 (bits .or .u64 x y))).heap[w.heap.size]? = some (.cells (setC (uptoB (fun a b => a ||| b) ws vs (k + 1))) 107 (0, 0))) := by
        show _ = _
        rw [heap_setCell_same _ _ _ U _ _ H0, HU.out, HX.out, HY.out, bits_or_bv, setC_set _ hk2, upto_step (fun a b => a ||| b)]
      have HT : Hid ((wr.setCell ⟨w.heap.size, k, none⟩ (.int .u64 (bits .or .u64 x y))).heap[w.heap.size + 1 + 1]? = some (.cells Z 107 (0, 0))) := by
        show _ = _
        rw [heap_setCell_other _ _ _ _ (by show w.heap.size + 1 + 1 ≠ w.heap.size; omega)]; exact H2.out
      have hsz := hB.size
      have hlt : w.heap.size < wr.heap.size := by
        rcases Nat.lt_or_ge w.heap.size wr.heap.size with h | h
        · exact h
        · rw [Array.getElem?_eq_none_iff.2 h] at H0; cases H0
      clear H0 hsz
      go_wp2_with fail
      go_roundw
      case rel => exact ⟨k + 1, by omega, by go_num, hB.setCell (p := ⟨w.heap.size, k, none⟩) (Nat.le_refl _) _, HS, HT⟩
      case measure => simp [intOf]; omega
    · obtain rfl : k = 64 := by omega
      have H0 := H0.out
      rw [upto_all (fun a b => a ||| b)] at H0
      rw [show setC (fun j => (fun a b => a ||| b) (ws j) (vs j)) = R from HR.out.symm] at H0
      have HRI : Hid _ := setC_info (orB ws vs)
      have HR1 : Hid _ := setC_one (orB ws vs)
      have HZS : Hid (Z.size = R.size) := by show _ = _; rw [HZ.out, HR.out, setC_size, setC_size]
      rw [← HR.out] at HRI HR1
      have H00 : Hid _ := H0
      clear H0
      go_wp2_with (first | (refine wpList_load_row rfl 107 _ rfl w.heap.size rfl 107 R (0, 0) _ ?g1 Tryz.underlying107 rfl ?g2 ?_) | (refine wpList_store_row rfl 107 _ _ rfl (w.heap.size + 1 + 1) rfl R rfl 107 Z ?g3 ?g4 ?g5 ?g6 ?_))
      case g1 => exact H00.out
      case g2 => exact HRI.out
      case g3 => exact H2.out
      case g4 => exact HRI.out
      case g5 => exact HZS.out
      case g6 => exact HR1.out
      refine bodyPost_ret (v := .agg R) (results_cell_row rfl _ _ (w.heap.size + 1 + 1) 107 R (0, 0) _ rfl ?_ Tryz.underlying107 rfl HRI.out) rfl ⟨rfl, ?_⟩
      · exact setRow_heap _ _ Z _ _ _ H2.out
      · exact Below.setRow hB (by omega) _

set_option maxHeartbeats 2000000 in
theorem minus_any (ws vs : Bits) (w : World) :
    Calls Tryz.prog 171 #[.agg (setC ws), .agg (setC vs)] w fun e w' => e = .returned (.agg (setC (minusB ws vs))) ∧ Below w.heap.size w w' := by
  obtain ⟨Z, hz, HZ⟩ : ∃ Z, (∀ w, (zeroValue 107).run Tryz.prog w = .ok (.agg Z) w) ∧ Hid (Z = setC zeroB) := ⟨_, zero_set, rfl⟩
  obtain ⟨C, hC⟩ : ∃ C, C = setC ws := ⟨_, rfl⟩
  obtain ⟨V, hV⟩ : ∃ V, V = setC vs := ⟨_, rfl⟩
  obtain ⟨R, HR⟩ : ∃ R, Hid (R = setC (minusB ws vs)) := ⟨_, rfl⟩
  rw [← hC, ← hV, ← HR.out]
  have HVI : Hid _ := setC_info vs
  rw [← hV] at HVI
  have HCC : Hid _ := hC
  have HVV : Hid _ := hV
  clear hC hV
  go_enter Tryz.func171, Tryz.ntmps171
  go_wp2_with (refine wpList_load_row rfl 107 _ rfl (w.heap.size + 1) rfl 107 V (0, 0) _ ?g1 Tryz.underlying107 rfl HVI.out ?_)
  case g1 => exact heap_alloc3_1 w _ _ _
  go_loopw [8] (fun i wr => ∃ k : Nat, k ≤ 64 ∧ i = .int .i64 k ∧ Below w.heap.size w wr ∧ Hid (wr.heap[w.heap.size]? = some (.cells (setC (uptoB (fun a b => a &&& ~~~b) ws vs k)) 107 (0, 0))) ∧ Hid (wr.heap[w.heap.size + 1 + 1]? = some (.cells Z 107 (0, 0)))) (fun i _ => 64 - (intOf i).toNat)
  case atStart => exact ⟨0, by omega, rfl, (((Below.refl _ _).alloc (Nat.le_refl _) _).alloc (by simp) _).alloc (by simp; omega) _, by show _ = _; rw [heap_alloc3_0, HCC.out, upto_zero], heap_alloc3_2 w _ _ _⟩
  case round =>
    obtain ⟨k, hk, rfl, hB, H0, H2⟩ := hrel
    by_cases hk2 : k < 64
    · have hi0 : (0 : Int) ≤ (k : Int) := by omega
      have hi1 : (k : Int) < 64 := by omega
      obtain ⟨U, HU⟩ : ∃ U, Hid (U = setC (uptoB (fun a b => a &&& ~~~b) ws vs k)) := ⟨_, rfl⟩
      have H0 := H0.out
      rw [← HU.out] at H0
      obtain ⟨x, HX⟩ : ∃ x, Hid (x = ((ws k).toNat : Int)) := ⟨_, rfl⟩
      obtain ⟨y, HY⟩ : ∃ y, Hid (y = ((vs k).toNat : Int)) := ⟨_, rfl⟩
      have c0 : wr.cell? ⟨w.heap.size, k, none⟩ = some (.int .u64 x) := by
        rw [cell_of_row _ _ k U _ _ H0, HU.out, setC_get _ hk2, HX.out]
        simp [uptoB]
      have f0 := frozen_of_row wr w.heap.size k U _ H0
      have hix := run_index_set (V := V) (x := y) hk2 (by rw [HVV.out, HY.out]; exact setC_get vs hk2)
      have HS : Hid ((wr.setCell ⟨w.heap.size, k, none⟩ (.int .u64 (bits .andNot .u64 x y))).heap[w.heap.size]? = some (.cells (setC (uptoB (fun a b => a &&& ~~~b) ws vs (k + 1))) 107 (0, 0))) := by
        show _ = _
        rw [heap_setCell_same _ _ _ U _ _ H0, HU.out, HX.out, HY.out, bits_andNot_bv, setC_set _ hk2, upto_step (fun a b => a &&& ~~~b)]
      have HT : Hid ((wr.setCell ⟨w.heap.size, k, none⟩ (.int .u64 (bits .andNot .u64 x y))).heap[w.heap.size + 1 + 1]? = some (.cells Z 107 (0, 0))) := by
        show _ = _
        rw [heap_setCell_other _ _ _ _ (by show w.heap.size + 1 + 1 ≠ w.heap.size; omega)]; exact H2.out
      have hsz := hB.size
      have hlt : w.heap.size < wr.heap.size := by
        rcases Nat.lt_or_ge w.heap.size wr.heap.size with h | h
        · exact h
        · rw [Array.getElem?_eq_none_iff.2 h] at H0; cases H0
      clear H0 hsz
      go_wp2_with fail
      go_roundw
      case rel => exact ⟨k + 1, by omega, by go_num, hB.setCell (p := ⟨w.heap.size, k, none⟩) (Nat.le_refl _) _, HS, HT⟩
      case measure => simp [intOf]; omega
    · obtain rfl : k = 64 := by omega
      have H0 := H0.out
      rw [upto_all (fun a b => a &&& ~~~b)] at H0
      rw [show setC (fun j => (fun a b => a &&& ~~~b) (ws j) (vs j)) = R from HR.out.symm] at H0
      have HRI : Hid _ := setC_info (minusB ws vs)
      have HR1 : Hid _ := setC_one (minusB ws vs)
      have HZS : Hid (Z.size = R.size) := by show _ = _; rw [HZ.out, HR.out, setC_size, setC_size]
      rw [← HR.out] at HRI HR1
      have H00 : Hid _ := H0
      clear H0
      go_wp2_with (first | (refine wpList_load_row rfl 107 _ rfl w.heap.size rfl 107 R (0, 0) _ ?g1 Tryz.underlying107 rfl ?g2 ?_) | (refine wpList_store_row rfl 107 _ _ rfl (w.heap.size + 1 + 1) rfl R rfl 107 Z ?g3 ?g4 ?g5 ?g6 ?_))
      case g1 => exact H00.out
      case g2 => exact HRI.out
      case g3 => exact H2.out
      case g4 => exact HRI.out
      case g5 => exact HZS.out
      case g6 => exact HR1.out
      refine bodyPost_ret (v := .agg R) (results_cell_row rfl _ _ (w.heap.size + 1 + 1) 107 R (0, 0) _ rfl ?_ Tryz.underlying107 rfl HRI.out) rfl ⟨rfl, ?_⟩
      · exact setRow_heap _ _ Z _ _ _ H2.out
      · exact Below.setRow hB (by omega) _

end Go.Proofs.YtbnelaoeblhndaaGreatDoor
