/- Sets of numbers as arrays of bits: the walks of bit, With, Without; == between two sets. -/
import Derived.Test.YtbnelaoeblhndaaGreatDoorRefLeaf
import Derived.Deep.WholeRow
import Derived.WalkKit
import Derived.ChangeKeysEq
namespace Go.Proofs.YtbnelaoeblhndaaGreatDoor
open Go.RowKit
set_option maxRecDepth 100000

/-- The words of a set. -/
abbrev Bits := Nat → BitVec 64
/-- The cells of a set. -/
def setC (ws : Bits) : Array Value := Array.ofFn (n := 64) fun i => .int .u64 ((ws i.val).toNat : Int)
def memB (ws : Bits) (id : Nat) : Bool := (ws (id / 64)).getLsbD (id % 64)
def bitB (id : Nat) : BitVec 64 := 1#64 <<< (id % 64)
def withB (ws : Bits) (id : Nat) : Bits := fun j => if j = id / 64 then ws j ||| bitB id else ws j
def withoutB (ws : Bits) (id : Nat) : Bits := fun j => if j = id / 64 then ws j &&& ~~~bitB id else ws j

theorem setC_size (ws : Bits) : (setC ws).size = 64 := by simp [setC]
theorem setC_get (ws : Bits) {i : Nat} (h : i < 64) : (setC ws)[i]? = some (.int .u64 ((ws i).toNat : Int)) := by
  simp [setC, h]
theorem setC_one (ws : Bits) : (setC ws).all (·.oneCell') = true := by
  rw [Array.all_eq_true]
  intro i h
  have h' : i < 64 := by simpa [setC] using h
  have := setC_get ws h'
  rw [Array.getElem?_eq_getElem h] at this
  rw [Option.some.inj this]; rfl
theorem setC_set (ws : Bits) {i : Nat} (h : i < 64) (b : BitVec 64) : (setC ws).setIfInBounds i (.int .u64 (b.toNat : Int)) = setC (fun j => if j = i then b else ws j) := by
  apply Array.ext_getElem?
  intro j
  rw [Array.getElem?_setIfInBounds]
  by_cases hj : j < 64
  · rw [setC_get _ hj, setC_get _ hj]
    by_cases e : i = j
    · subst e; simp [setC_size, h]
    · simp [e, Ne.symm e]
  · have h1 : (setC ws)[j]? = none := by rw [Array.getElem?_eq_none_iff, setC_size]; omega
    have h2 : (setC (fun j => if j = i then b else ws j))[j]? = none := by rw [Array.getElem?_eq_none_iff, setC_size]; omega
    rw [h1, h2, if_neg (by omega)]

theorem getLsb_bitB (id j : Nat) : (bitB id).getLsbD (j % 64) = decide (j % 64 = id % 64) := by
  have h1 : j % 64 < 64 := Nat.mod_lt _ (by decide)
  unfold bitB
  rw [BitVec.getLsbD_shiftLeft, BitVec.getLsbD_one]
  by_cases e : j % 64 = id % 64
  · simp [e, Nat.mod_lt]
  · by_cases h2 : j % 64 < id % 64
    · simp [h2, e]
    · simp [e]; omega
theorem memB_with (ws : Bits) (id j : Nat) : memB (withB ws id) j = (decide (j = id) || memB ws j) := by
  unfold memB withB
  by_cases e : j / 64 = id / 64
  · rw [if_pos e, BitVec.getLsbD_or, getLsb_bitB, Bool.or_comm]
    congr 1
    rw [decide_eq_decide]
    omega
  · rw [if_neg e, show decide (j = id) = false by simp; rintro rfl; exact e rfl]; simp
theorem memB_without (ws : Bits) (id j : Nat) : memB (withoutB ws id) j = (!decide (j = id) && memB ws j) := by
  have h1 : j % 64 < 64 := Nat.mod_lt _ (by decide)
  unfold memB withoutB
  by_cases e : j / 64 = id / 64
  · rw [if_pos e, BitVec.getLsbD_and, BitVec.getLsbD_not, getLsb_bitB, Bool.and_comm]
    congr 1
    simp only [h1, decide_true, Bool.true_and]
    congr 1
    rw [decide_eq_decide]
    omega
  · rw [if_neg e, show decide (j = id) = false by simp; rintro rfl; exact e rfl]; simp

/-- Two sets with the same members have the same cells. -/
theorem setC_ext {ws vs : Bits} (h : ∀ j, j < 4096 → memB ws j = memB vs j) : setC ws = setC vs := by
  apply Array.ext_getElem?
  intro i
  by_cases hi : i < 64
  · rw [setC_get _ hi, setC_get _ hi]
    have : ws i = vs i := by
      apply BitVec.eq_of_getLsbD_eq
      intro k hk
      have := h (i * 64 + k) (by omega)
      unfold memB at this
      rw [show (i * 64 + k) / 64 = i by omega, show (i * 64 + k) % 64 = k by omega] at this
      exact this
    rw [this]
  · rw [Array.getElem?_eq_none_iff.2 (by rw [setC_size]; omega), Array.getElem?_eq_none_iff.2 (by rw [setC_size]; omega)]

def zeroB : Bits := fun _ => 0#64
theorem memB_zero (j : Nat) : memB zeroB j = false := by simp [memB, zeroB]

theorem Tryz.infoSet : (Tryz.prog.info? 107).map (fun i => (i.zero, i.size)) = some (some (.agg (setC zeroB)), 64) := by kernel_rfl
theorem Tryz.infoU64 : (Tryz.prog.info? 105).map (fun i => i.size) = some 1 := by kernel_rfl
theorem wrap_bit (id : Nat) : IntKind.u64.wrap (2 ^ (id % 64)) = ((bitB id).toNat : Int) := by
  have h1 : id % 64 < 64 := Nat.mod_lt _ (by decide)
  have h2 : (bitB id).toNat = 2 ^ (id % 64) := by
    unfold bitB
    rw [BitVec.toNat_shiftLeft, Nat.shiftLeft_eq]
    show 1 * 2 ^ (id % 64) % 2 ^ 64 = _
    rw [Nat.one_mul]
    exact Nat.mod_eq_of_lt (Nat.pow_lt_pow_right (by decide) h1)
  have h3 : (2 : Int) ^ (id % 64) = ((2 ^ (id % 64) : Nat) : Int) := by simp
  rw [h2, h3]
  have : 2 ^ (id % 64) < 2 ^ 64 := Nat.pow_lt_pow_right (by decide) h1
  simp [IntKind.wrap, IntKind.bits, IntKind.signed]
  omega

theorem bit_any (id : Nat) (w : World) :
    Calls Tryz.prog 111 #[.int .i64 id] w fun e w' => e = .returned (.int .u64 ((bitB id).toNat : Int)) ∧ w' = w := by
  go_enter Tryz.func111, Tryz.ntmps111
  go_wp2_with fail
  go_ret
  exact ⟨by rw [wrap_bit]; rfl, rfl⟩

end Go.Proofs.YtbnelaoeblhndaaGreatDoor
