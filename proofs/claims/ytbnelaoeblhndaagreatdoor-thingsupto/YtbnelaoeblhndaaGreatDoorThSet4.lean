/- == between two sets; a field and a value as a key. -/
import Derived.Test.YtbnelaoeblhndaaGreatDoorThSet2
import Derived.Test.YtbnelaoeblhndaaGreatDoorThMap
import Derived.DeepKeys4
namespace Go.Proofs.YtbnelaoeblhndaaGreatDoor
open Go.RowKit
open Go.Maps (Keyed)
set_option maxRecDepth 100000

theorem run_part_set (ws : Bits) {j : Nat} (h : j < 64) (w : World) : (part 105 (setC ws) j).run Tryz.prog w = .ok (.int .u64 ((ws j).toNat : Int)) w := by
  unfold part
  simp [isAgg, run_underlying Tryz.underlying105, setC_get ws h]

theorem run_eqItems_set (ws vs : Bits) (d : Nat) (w : World) : ∀ (is : List Nat), (∀ j ∈ is, j < 64) → (Op.eqItems (d + 1) 105 1 (setC ws) (setC vs) is).run Tryz.prog w = .ok (is.all fun j => ws j == vs j) w
  | [], _ => by simp [Op.eqItems]
  | j :: is, h => by
    have hj := h j (by simp)
    have ih := run_eqItems_set ws vs d w is (fun i hi => h i (by simp [hi]))
    have e : (((ws j).toNat : Int) == ((vs j).toNat : Int)) = (ws j == vs j) := by
      by_cases e : ws j = vs j
      · simp [e]
      · have : (ws j).toNat ≠ (vs j).toNat := fun h => e (BitVec.eq_of_toNat_eq h)
        have h2 : ((ws j).toNat : Int) ≠ ((vs j).toNat : Int) := by omega
        rw [beq_eq_false_iff_ne.2 h2, beq_eq_false_iff_ne.2 e]
    simp only [Op.eqItems, Sem.run_bind, Nat.mul_one, run_part_set ws hj, run_part_set vs hj, Result.andThen_ok, run_equalIn_int w d 105 .u64 .u64 _ _ Tryz.underlying105, e]
    rw [List.all_cons]
    generalize (ws j == vs j) = c
    cases c
    · simp
    · simp [ih]

theorem run_eql_set (ws vs : Bits) (w : World) : (binOp .eql 107 (.agg (setC ws)) (.agg (setC vs))).run Tryz.prog w = .ok (.bool ((List.range 64).all fun j => ws j == vs j)) w := by
  have hi : ∃ i, Tryz.prog.info? 105 = some i ∧ Tryz.prog.cellsOf 105 = 1 := by
    cases hq : Tryz.prog.info? 105 with
    | none => have := Tryz.infoU64; simp [hq] at this
    | some i => exact ⟨i, rfl, by kernel_rfl⟩
  obtain ⟨i, hi, hc⟩ := hi
  have := run_eqItems_set ws vs 9998 w (List.range 64) (fun j hj => by simpa using hj)
  show ((Op.equal 107 (.agg (setC ws)) (.agg (setC vs))) >>= fun b => pure (Value.bool b)).run _ _ = _
  unfold Op.equal
  rw [Sem.run_bind, show Op.maxDepth = 9999 + 1 from rfl, run_equalIn_array w 9999 _ _ Tryz.underlying107 hi, hc, this]
  rfl

def heldC (f : Nat) (x : Doc.Val) : Array Value := #[.int .i64 f, .int .i64 x.k, .int .i64 x.n, .string x.s]
/-- A value that is one: what a field may hold. -/
def Fine (x : Doc.Val) : Prop := (x.k = 0 ∨ x.k = 1 ∨ x.k = 2) ∧ -9999999 ≤ x.n ∧ x.n ≤ 9999999 ∧ x.s.size ≤ 200
theorem Tryz.laidOut : laidOutB Tryz.prog = true := by kernel_rfl
theorem Tryz.heldRow : (155 : TypeId) < Tryz.prog.types.size := of_decide_eq_true (by kernel_rfl)
theorem Tryz.heldDeep : Tryz.prog.keyType 155 = true := by kernel_rfl
theorem Tryz.heldCells : Tryz.prog.cellsOf 155 = 4 := by kernel_rfl
theorem heldKeyed : Keyed Tryz.prog 155 := Keyed.of_law (deep_law_laid Tryz.laidOut (m := 3) (by omega) Tryz.heldRow (by kernel_rfl) (by rw [Tryz.underlying155]))
theorem held_key {f : Nat} {x : Doc.Val} (hf : f < 4) (hx : Fine x) : ∃ l, keyOf Tryz.prog 155 (.agg (heldC f x)) = some l := by
  have hk : -9223372036854775808 ≤ x.k ∧ x.k ≤ 9223372036854775807 := by rcases hx.1 with h | h | h <;> omega
  have hn : -9223372036854775808 ≤ x.n ∧ x.n ≤ 9223372036854775807 := by have := hx.2; omega
  have hw : ∀ n : Int, -9223372036854775808 ≤ n ∧ n ≤ 9223372036854775807 → (Lit.int .i64 n).wf = true := by
    intro n hn
    simpa [Lit.wf, IntKind.min, IntKind.max, IntKind.signed, IntKind.bits] using hn
  have hs : x.s.size ≤ maxLen := by have := hx.2.2.2; unfold maxLen; omega
  have hv : Tryz.prog.cellsOf 94 = 3 := by kernel_rfl
  have h1 : Tryz.prog.cellsOf 3 = 1 := by kernel_rfl
  have h2 : Tryz.prog.cellsOf 9 = 1 := by kernel_rfl
  have hz : ∃ d, Tryz.prog.types.size + 1 = d + 4 := by
    have h : (155 : Nat) < Tryz.prog.types.size := Tryz.heldRow
    exact ⟨Tryz.prog.types.size - 3, by omega⟩
  obtain ⟨d, hd⟩ := hz
  have k1 : ∀ d n, (Lit.int .i64 n).wf = true → Tryz.prog.keyLits (d + 1) 3 [.int .i64 n] = some [.int .i64 n] := fun d n h => by
    simp [Program.keyLits, Tryz.underlying3, h]
  have k2 : ∀ d, Tryz.prog.keyLits (d + 1) 9 [.string x.s] = some [.string x.s.data.toList] := fun d => by
    simp [Program.keyLits, Tryz.underlying9, hs]
  have k3 : ∀ d, Tryz.prog.keyLits (d + 1 + 1) 94 [.int .i64 x.k, .int .i64 x.n, .string x.s] = some [.int .i64 x.k, .int .i64 x.n, .string x.s.data.toList] := fun d => by
    unfold Program.keyLits
    simp [Tryz.underlying94, hv, h1, h2, k1 d _ (hw _ hk), k1 d _ (hw _ hn), k2 d]
  have hkl : ∃ ls, Tryz.prog.keyLits (Tryz.prog.types.size + 1) 155 (heldC f x).toList = some ls := by
    rw [hd]
    refine ⟨[.int .i64 f, .int .i64 x.k, .int .i64 x.n, .string x.s.data.toList], ?_⟩
    unfold Program.keyLits
    simp [Tryz.underlying155, Tryz.heldCells, hv, h1, heldC, k1 (d + 2) f (hw (f : Int) (by omega)), k3 (d + 1)]
  obtain ⟨ls, hls⟩ := hkl
  refine ⟨.string (keyBytes ls), ?_⟩
  simp [keyOf, Tryz.underlying155, Tryz.heldDeep, Value.formed, Tryz.heldCells, Value.cells]
  exact ⟨rfl, ls, by simpa using hls, rfl⟩
theorem intKeyed : Keyed Tryz.prog 3 := Go.Maps.int_keyed Tryz.underlying3
end Go.Proofs.YtbnelaoeblhndaaGreatDoor
