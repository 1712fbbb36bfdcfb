/- Walks of the program's isName and compares. Walks of the program's literal. -/
import Derived.Test.YtppmobcmkkdbkaaGreatDoorSynRead1
import Derived.Test.YtppmobcmkkdbkaaGreatDoorSynAtoi
namespace Go.Proofs.YtppmobcmkkdbkaaGreatDoor
open Go.RowKit
set_option maxRecDepth 100000

def pName (t : PTok) : Bool := (t.kind == 2) && !(t.text.toList == [97, 110, 100] || t.text.toList == [111, 114] || t.text.toList == [110, 111, 116] || t.text.toList == [105, 110] || t.text.toList == [108, 105, 107, 101] || t.text.toList == [105, 115] || t.text.toList == [110, 117, 108, 108])
def pCmp (t : PTok) : Bool := t.text.toList == [61] || t.text.toList == [33, 61] || t.text.toList == [60] || t.text.toList == [60, 61] || t.text.toList == [62] || t.text.toList == [62, 61]

theorem pName_of {t : PTok} {b : Bool} (h : ((t.kind == 2) && !(t.text.toList == [97, 110, 100] || t.text.toList == [111, 114] || t.text.toList == [110, 111, 116] || t.text.toList == [105, 110] || t.text.toList == [108, 105, 107, 101] || t.text.toList == [105, 115] || t.text.toList == [110, 117, 108, 108])) = b) : b = pName t := h.symm
theorem pCmp_of {t : PTok} {b : Bool} (h : (t.text.toList == [61] || t.text.toList == [33, 61] || t.text.toList == [60] || t.text.toList == [60, 61] || t.text.toList == [62] || t.text.toList == [62, 61]) = b) : b = pCmp t := h.symm

set_option maxHeartbeats 2000000 in
theorem isName_any (t : PTok) (w : World) :
    Calls Tryz.prog 112 #[.agg #[.int .i64 t.kind, .string t.text, .int .i64 t.at_]] w fun e w' => e = .returned (.bool (pName t)) ∧ Below w.heap.size w w' := by
  have HB : Hid (∀ b, _ → b = pName t) := fun b h => pName_of (t := t) (b := b) h
  generalize pName t = nb at *
  go_enter Tryz.func112, Tryz.ntmps112
  go_wp2_with fail
  all_goals
    go_ret
    refine ⟨ret_bool (HB.out _ ?_), (Below.refl _ _).alloc (Nat.le_refl _) _⟩
    clear HB
    first | (simp [*]; done) | simp_all

set_option maxHeartbeats 2000000 in
theorem cmps_any (t : PTok) (w : World) :
    Calls Tryz.prog 151 #[.agg #[.int .i64 t.kind, .string t.text, .int .i64 t.at_]] w fun e w' => e = .returned (.bool (pCmp t)) ∧ Below w.heap.size w w' := by
  have HB : Hid (∀ b, _ → b = pCmp t) := fun b h => pCmp_of (t := t) (b := b) h
  generalize pCmp t = nb at *
  go_enter Tryz.func151, Tryz.ntmps151
  go_wp2_with fail
  all_goals
    go_ret
    refine ⟨ret_bool (HB.out _ ?_), (Below.refl _ _).alloc (Nat.le_refl _) _⟩
    clear HB
    first | (simp [*]; done) | simp_all
end Go.Proofs.YtppmobcmkkdbkaaGreatDoor

namespace Go.Proofs.YtppmobcmkkdbkaaGreatDoor
open Go.RowKit
set_option maxRecDepth 100000

theorem run_text (a c : Value) (b : ByteArray) (w : World) : Sem.run Tryz.prog (Instr.field 84 (.agg #[a, .string b, c]) 1) w = .ok (.string b) w := by
  simp [Instr.field, asAgg, go_sem]

section
variable {B : Nat} {w : World} {rb : Nat} {s : ByteArray} {t : PTok} {op fault : Nat}

/-- A block drawn behind the reader, at the end of a step. -/
theorem PM.kept {o : Obj} {w1 : World} (h : PSt B w rb s t op fault) (k : PM B rb (w.alloc o) w1) : w1.heap[w.heap.size]? = some o :=
  k.blk (heap_alloc_new w o) (by have := h.lt; omega)
theorem PM.fromAlloc {o : Obj} {w1 : World} (h : PSt B w rb s t op fault) (k : PM B rb (w.alloc o) w1) : PM B rb w w1 := ((PM.refl B rb w).alloc h.Ble o).trans k

set_option maxHeartbeats 1000000 in
theorem literal_num (h : PSt B w rb s t op fault) (hs : s.size ≤ 200) (hq : t.at_ + t.text.size ≤ s.size) (hk : t.kind = 3) (n : Int)
    (ha : ∀ w, Calls Tryz.prog 163 #[.string t.text] w fun e w' => e = .returned (.tuple #[.int .i64 n, .nilIface]) ∧ Below w.heap.size w w') :
    Calls Tryz.prog 157 #[.pointer (some ⟨rb, 0, none⟩)] w fun r w' => r = .returned (.tuple #[.agg #[.int .i64 1, .int .i64 n, .string ⟨#[]⟩], .bool true]) ∧ PSt B w' rb s (ptok s (t.at_ + t.text.size)) op fault ∧ PM B rb w w' := by
  have c1 := h.c1
  have hlt := h.lt
  have HA : Hid (∀ w, Calls Tryz.prog 163 #[.string t.text] w fun e w' => e = .returned (.tuple #[.int .i64 n, .nilIface]) ∧ Below w.heap.size w w') := ha
  clear ha
  rw [hk] at c1
  go_enter Tryz.func157, Tryz.ntmps157
  go_wp2_with fail
  refine (take_st (h.alloc _) hs hq).mono ?_
  rintro r w1 ⟨rfl, h1, k1⟩
  have q1 := PM.kept h k1
  have k2 := PM.fromAlloc h k1
  have hF := run_text
  go_wp2_with fail
  clear hF
  refine (HA.out _).mono ?_
  rintro r w2 ⟨rfl, hb2⟩
  have q2 := (hb2.block _ (lt_block q1)).trans q1
  obtain ⟨a0, a1, a2⟩ := th_cells q2
  obtain ⟨x0, x1, x2⟩ := th_free q2
  have h2 := h1.below hb2
  have k3 := k2.trans (PM.ofBelow hb2 h1.Ble)
  have hne : w.heap.size ≠ rb := by omega
  go_wp2_with fail
  exact bodyPost_ret (v := .tuple #[.agg #[.int .i64 1, .int .i64 n, .string ⟨#[]⟩], .bool true]) (by simp [results, Tryz.results157, go_sem, a0, a1, a2]) rfl ⟨rfl, ((h2.other _ hne h.Ble).other _ hne h.Ble).other _ hne h.Ble, ((k3.late _ (Nat.le_refl _) h.Ble).late _ (Nat.le_refl _) h.Ble).late _ (Nat.le_refl _) h.Ble⟩

set_option maxHeartbeats 1000000 in
theorem literal_str (h : PSt B w rb s t op fault) (hs : s.size ≤ 200) (hq : t.at_ + t.text.size ≤ s.size) (hk : t.kind = 4) (h2 : 2 ≤ t.text.size) :
    Calls Tryz.prog 157 #[.pointer (some ⟨rb, 0, none⟩)] w fun r w' => r = .returned (.tuple #[.agg #[.int .i64 2, .int .i64 0, .string (t.text.extract 1 (t.text.size - 1))], .bool true]) ∧ PSt B w' rb s (ptok s (t.at_ + t.text.size)) op fault ∧ PM B rb w w' := by
  have c1 := h.c1
  have hlt := h.lt
  rw [hk] at c1
  have hw : IntKind.i64.wrap ((t.text.size : Int) - 1) = ((t.text.size - 1 : Nat) : Int) := by rw [wrap_small _ (by omega) (by omega)]; omega
  go_enter Tryz.func157, Tryz.ntmps157
  go_wp2_with fail
  refine (take_st (h.alloc _) hs hq).mono ?_
  rintro r w1 ⟨rfl, h1, k1⟩
  have q2 := PM.kept h k1
  have k3 := PM.fromAlloc h k1
  obtain ⟨a0, a1, a2⟩ := th_cells q2
  obtain ⟨x0, x1, x2⟩ := th_free q2
  have hne : w.heap.size ≠ rb := by omega
  have hF := run_text
  go_wp2_with fail
  exact bodyPost_ret (v := .tuple #[.agg #[.int .i64 2, .int .i64 0, .string (t.text.extract 1 (t.text.size - 1))], .bool true]) (by simp [results, Tryz.results157, go_sem, a0, a1, a2]) rfl ⟨rfl, ((h1.other _ hne h.Ble).other _ hne h.Ble).other _ hne h.Ble, ((k3.late _ (Nat.le_refl _) h.Ble).late _ (Nat.le_refl _) h.Ble).late _ (Nat.le_refl _) h.Ble⟩

set_option maxHeartbeats 1000000 in
theorem literal_no (h : PSt B w rb s t op fault) (k3 : (t.kind == 3) = false) (k4 : (t.kind == 4) = false) :
    Calls Tryz.prog 157 #[.pointer (some ⟨rb, 0, none⟩)] w fun r w' => r = .returned (.tuple #[.agg #[.int .i64 0, .int .i64 0, .string ⟨#[]⟩], .bool false]) ∧ PSt B w' rb s t op fault ∧ PM B rb w w' := by
  have c1 := h.c1
  have hlt := h.lt
  go_enter Tryz.func157, Tryz.ntmps157
  go_wp2_with fail
  have k0 := (PM.refl B rb w).alloc h.Ble (.cells #[.int .i64 0, .int .i64 0, .string ⟨#[]⟩] 76 (0, 0))
  have h0 := h.alloc (.cells #[.int .i64 0, .int .i64 0, .string ⟨#[]⟩] 76 (0, 0))
  have hne : w.heap.size ≠ rb := by omega
  exact bodyPost_ret (v := .tuple #[.agg #[.int .i64 0, .int .i64 0, .string ⟨#[]⟩], .bool false]) (by simp [results, Tryz.results157, go_sem]) rfl ⟨rfl, by first | exact h0 | exact ((h0.other _ hne h.Ble).other _ hne h.Ble).other _ hne h.Ble, by first | exact k0 | exact ((k0.late _ (Nat.le_refl _) h.Ble).late _ (Nat.le_refl _) h.Ble).late _ (Nat.le_refl _) h.Ble⟩
end
end Go.Proofs.YtppmobcmkkdbkaaGreatDoor
