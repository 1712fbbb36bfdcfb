/- Walks of the program's isName and compares. Walks of the program's value and literal. -/
import Derived.Test.YtbnelaoeblhndaaGreatDoorSynRead1
import Derived.Test.YtbnelaoeblhndaaGreatDoorSynAtoi
namespace Go.Proofs.YtbnelaoeblhndaaGreatDoor
open Go.RowKit
set_option maxRecDepth 100000

def pName (t : PTok) : Bool := (t.kind == 2) && !(t.text.toList == [97, 110, 100] || t.text.toList == [111, 114] || t.text.toList == [110, 111, 116] || t.text.toList == [105, 110] || t.text.toList == [108, 105, 107, 101] || t.text.toList == [105, 115] || t.text.toList == [110, 117, 108, 108])
def pCmp (t : PTok) : Bool := t.text.toList == [61] || t.text.toList == [33, 61] || t.text.toList == [60] || t.text.toList == [60, 61] || t.text.toList == [62] || t.text.toList == [62, 61]

theorem pName_of {t : PTok} {b : Bool} (h : ((t.kind == 2) && !(t.text.toList == [97, 110, 100] || t.text.toList == [111, 114] || t.text.toList == [110, 111, 116] || t.text.toList == [105, 110] || t.text.toList == [108, 105, 107, 101] || t.text.toList == [105, 115] || t.text.toList == [110, 117, 108, 108])) = b) : b = pName t := h.symm
theorem pCmp_of {t : PTok} {b : Bool} (h : (t.text.toList == [61] || t.text.toList == [33, 61] || t.text.toList == [60] || t.text.toList == [60, 61] || t.text.toList == [62] || t.text.toList == [62, 61]) = b) : b = pCmp t := h.symm

set_option maxHeartbeats 2000000 in
theorem isName_any (t : PTok) (w : World) :
    Calls Tryz.prog 142 #[.agg #[.int .i64 t.kind, .string t.text, .int .i64 t.at_]] w fun e w' => e = .returned (.bool (pName t)) ∧ Below w.heap.size w w' := by
  have HB : Hid (∀ b, _ → b = pName t) := fun b h => pName_of (t := t) (b := b) h
  generalize pName t = nb at *
  go_enter Tryz.func142, Tryz.ntmps142
  go_wp2_with fail
  all_goals
    go_ret
    refine ⟨ret_bool (HB.out _ ?_), (Below.refl _ _).alloc (Nat.le_refl _) _⟩
    clear HB
    first | (simp [*]; done) | simp_all

set_option maxHeartbeats 2000000 in
theorem cmps_any (t : PTok) (w : World) :
    Calls Tryz.prog 210 #[.agg #[.int .i64 t.kind, .string t.text, .int .i64 t.at_]] w fun e w' => e = .returned (.bool (pCmp t)) ∧ Below w.heap.size w w' := by
  have HB : Hid (∀ b, _ → b = pCmp t) := fun b h => pCmp_of (t := t) (b := b) h
  generalize pCmp t = nb at *
  go_enter Tryz.func210, Tryz.ntmps210
  go_wp2_with fail
  all_goals
    go_ret
    refine ⟨ret_bool (HB.out _ ?_), (Below.refl _ _).alloc (Nat.le_refl _) _⟩
    clear HB
    first | (simp [*]; done) | simp_all
end Go.Proofs.YtbnelaoeblhndaaGreatDoor

namespace Go.Proofs.YtbnelaoeblhndaaGreatDoor
open Go.RowKit
set_option maxRecDepth 100000

theorem run_text (a c : Value) (b : ByteArray) (w : World) : Sem.run Tryz.prog (Instr.field 116 (.agg #[a, .string b, c]) 1) w = .ok (.string b) w := by
  simp [Instr.field, asAgg, go_sem]

section
variable {B : Nat} {w : World} {rb : Nat} {s : ByteArray} {t : PTok} {op fault : Nat}

/-- A block drawn behind the reader, at the end of a step. -/
theorem PM.kept {o : Obj} {w1 : World} (h : PSt B w rb s t op fault) (k : PM B rb (w.alloc o) w1) : w1.heap[w.heap.size]? = some o :=
  k.blk (heap_alloc_new w o) (by have := h.lt; omega)
theorem PM.fromAlloc {o : Obj} {w1 : World} (h : PSt B w rb s t op fault) (k : PM B rb (w.alloc o) w1) : PM B rb w w1 := ((PM.refl B rb w).alloc h.Ble o).trans k

theorem two_new (w : World) (o p : Obj) : ((w.alloc o).alloc p).heap[w.heap.size + 1]? = some p := by
  have := heap_alloc_new (w.alloc o) p
  rwa [World.size_alloc] at this

/-- What a number says. -/
theorem value_num (t : PTok) (hk : t.kind = 3) (n : Int) (w : World) (ha : ∀ w, Calls Tryz.prog 224 #[.string t.text] w fun e w' => e = .returned (.tuple #[.int .i64 n, .nilIface]) ∧ Below w.heap.size w w') :
    Calls Tryz.prog 222 #[.agg #[.int .i64 t.kind, .string t.text, .int .i64 t.at_]] w fun e w' => e = .returned (.agg #[.int .i64 1, .int .i64 n, .string ⟨#[]⟩]) ∧ Below w.heap.size w w' := by
  have HA : Hid (∀ w, Calls Tryz.prog 224 #[.string t.text] w fun e w' => e = .returned (.tuple #[.int .i64 n, .nilIface]) ∧ Below w.heap.size w w') := ha
  clear ha
  rw [hk]
  go_enter Tryz.func222, Tryz.ntmps222
  go_wp2_with fail
  refine (HA.out _).mono ?_
  rintro r w1 ⟨rfl, hb1⟩
  have q1 := (hb1.block (w.heap.size + 1) (by simp)).trans (two_new w _ _)
  obtain ⟨a0, a1, a2⟩ := th_cells q1
  obtain ⟨x0, x1, x2⟩ := th_free q1
  have hl := lt_block q1
  have hbw : Below w.heap.size w w1 := (((Below.refl _ w).alloc (Nat.le_refl _) _).alloc (by simp) _).trans (hb1.mono (by simp; omega))
  go_wp2_with fail
  exact bodyPost_ret (v := .agg #[.int .i64 1, .int .i64 n, .string ⟨#[]⟩]) (by simp [results, Tryz.results222, go_sem, a0, a1, a2]) rfl ⟨rfl, ((hbw.setCell (p := ⟨w.heap.size + 1, 0, none⟩) (by show w.heap.size ≤ w.heap.size + 1; omega) _).setCell (p := ⟨w.heap.size + 1, 1, none⟩) (by show w.heap.size ≤ w.heap.size + 1; omega) _).setCell (p := ⟨w.heap.size + 1, 2, none⟩) (by show w.heap.size ≤ w.heap.size + 1; omega) _⟩

/-- What a quoted string says. -/
theorem value_str (t : PTok) (hk : t.kind = 4) (h2 : 2 ≤ t.text.size) (hs : t.text.size ≤ 200) (w : World) :
    Calls Tryz.prog 222 #[.agg #[.int .i64 t.kind, .string t.text, .int .i64 t.at_]] w fun e w' => e = .returned (.agg #[.int .i64 2, .int .i64 0, .string (t.text.extract 1 (t.text.size - 1))]) ∧ Below w.heap.size w w' := by
  have hw : IntKind.i64.wrap ((t.text.size : Int) - 1) = ((t.text.size - 1 : Nat) : Int) := by rw [wrap_small _ (by omega) (by omega)]; omega
  rw [hk]
  go_enter Tryz.func222, Tryz.ntmps222
  go_wp2_with fail
  exact bodyPost_ret (v := .agg #[.int .i64 2, .int .i64 0, .string (t.text.extract 1 (t.text.size - 1))]) (by simp [results, Tryz.results222, go_sem]) rfl ⟨rfl, (((Below.refl _ w).alloc (Nat.le_refl _) _).alloc (by simp) _)⟩

theorem fo_cells {w : World} {b : Nat} {c0 c1 c2 c3 : Value} {T : TypeId} (h : w.heap[b]? = some (.cells #[c0, c1, c2, c3] T (0, 0))) :
    w.cell? ⟨b, 0, none⟩ = some c0 ∧ w.cell? ⟨b, 1, none⟩ = some c1 ∧ w.cell? ⟨b, 2, none⟩ = some c2 ∧ w.cell? ⟨b, 3, none⟩ = some c3 :=
  ⟨blk_cell h 0 _ rfl, blk_cell h 1 _ rfl, blk_cell h 2 _ rfl, blk_cell h 3 _ rfl⟩
theorem fo_free {w : World} {b : Nat} {cs : Array Value} {T : TypeId} (h : w.heap[b]? = some (.cells cs T (0, 0))) :
    w.frozen? ⟨b, 0, none⟩ = false ∧ w.frozen? ⟨b, 1, none⟩ = false ∧ w.frozen? ⟨b, 2, none⟩ = false ∧ w.frozen? ⟨b, 3, none⟩ = false :=
  ⟨blk_free h 0, blk_free h 1, blk_free h 2, blk_free h 3⟩

set_option maxHeartbeats 2000000 in
theorem literal_ok (h : PSt B w rb s t op fault) (hs : s.size ≤ 200) (hq : t.at_ + t.text.size ≤ s.size) (hk : t.kind = 3 ∨ t.kind = 4) (k n : Int) (sx : ByteArray)
    (hv : ∀ w, Calls Tryz.prog 222 #[.agg #[.int .i64 t.kind, .string t.text, .int .i64 t.at_]] w fun e w' => e = .returned (.agg #[.int .i64 k, .int .i64 n, .string sx]) ∧ Below w.heap.size w w') :
    Calls Tryz.prog 217 #[.pointer (some ⟨rb, 0, none⟩)] w fun r w' => r = .returned (.tuple #[.agg #[.int .i64 k, .int .i64 n, .string sx, .int .i64 t.at_], .bool true]) ∧ PSt B w' rb s (ptok s (t.at_ + t.text.size)) op fault ∧ PM B rb w w' := by
  have c1 := h.c1
  have hlt := h.lt
  have HV : Hid (∀ w, Calls Tryz.prog 222 #[.agg #[.int .i64 t.kind, .string t.text, .int .i64 t.at_]] w fun e w' => e = .returned (.agg #[.int .i64 k, .int .i64 n, .string sx]) ∧ Below w.heap.size w w') := hv
  have hne : w.heap.size ≠ rb := by omega
  clear hv
  rcases hk with hk | hk
  all_goals
    rw [hk] at c1
    clear hk
    go_enter Tryz.func217, Tryz.ntmps217
    go_wp2_with fail
    refine (take_st (h.alloc _) hs hq).mono ?_
    rintro r w1 ⟨rfl, h1, k1⟩
    have q1 := PM.kept h k1
    have k2 := PM.fromAlloc h k1
    have hl1 := lt_block q1
    clear c1
    go_wp2_with fail
    first | go_region_with (go_at_call 222; refine (HV.out _).mono ?_; rintro r w2 ⟨rfl, hb2⟩; have b2 := (hb2.block w1.heap.size (by show w1.heap.size < (w1.heap.push _).size; simp)).trans (heap_alloc_new w1 _); obtain ⟨a0, a1, a2⟩ := th_cells b2; have q2 := (hb2.block w.heap.size (by show w.heap.size < (w1.heap.push _).size; simp; omega)).trans ((heap_alloc_old w1 _ hl1).trans q1); obtain ⟨e0, e1, e2, e3⟩ := fo_cells q2; obtain ⟨x0, x1, x2, x3⟩ := fo_free q2; have hl2 := lt_block q2; have hlb := lt_block b2) | fail "stands"
  all_goals (go_wp2_with fail)
  all_goals
    have h2 := ((h1.alloc (.cells #[.int .i64 t.kind, .string t.text, .int .i64 t.at_] 116)).drew).below hb2
    have k3 := ((k2.alloc h1.Ble (.cells #[.int .i64 t.kind, .string t.text, .int .i64 t.at_] 116)).drew).trans (PM.ofBelow hb2 ((h1.alloc (.cells #[.int .i64 t.kind, .string t.text, .int .i64 t.at_] 116)).drew).Ble)
    exact bodyPost_ret (v := .tuple #[.agg #[.int .i64 k, .int .i64 n, .string sx, .int .i64 t.at_], .bool true]) (by simp [results, Tryz.results217, go_sem, e0, e1, e2, e3]) rfl ⟨rfl, (((h2.other _ hne h.Ble).other _ hne h.Ble).other _ hne h.Ble).other _ hne h.Ble, (((k3.late _ (Nat.le_refl _) h.Ble).late _ (Nat.le_refl _) h.Ble).late _ (Nat.le_refl _) h.Ble).late _ (Nat.le_refl _) h.Ble⟩

set_option maxHeartbeats 1000000 in
theorem literal_no (h : PSt B w rb s t op fault) (k3 : (t.kind == 3) = false) (k4 : (t.kind == 4) = false) :
    Calls Tryz.prog 217 #[.pointer (some ⟨rb, 0, none⟩)] w fun r w' => r = .returned (.tuple #[.agg #[.int .i64 0, .int .i64 0, .string ⟨#[]⟩, .int .i64 0], .bool false]) ∧ PSt B w' rb s t op fault ∧ PM B rb w w' := by
  have c1 := h.c1
  have hlt := h.lt
  have n3 : ((t.kind : Int) != 3) = true := by have := k3; simp only [beq_eq_false_iff_ne] at this; simp; omega
  have n4 : ((t.kind : Int) != 4) = true := by have := k4; simp only [beq_eq_false_iff_ne] at this; simp; omega
  clear k3 k4
  go_enter Tryz.func217, Tryz.ntmps217
  go_wp2_with fail
  have k0 := (PM.refl B rb w).alloc h.Ble (.cells #[.int .i64 0, .int .i64 0, .string ⟨#[]⟩, .int .i64 0] 230 (0, 0))
  have h0 := h.alloc (.cells #[.int .i64 0, .int .i64 0, .string ⟨#[]⟩, .int .i64 0] 230 (0, 0))
  have hne : w.heap.size ≠ rb := by omega
  exact bodyPost_ret (v := .tuple #[.agg #[.int .i64 0, .int .i64 0, .string ⟨#[]⟩, .int .i64 0], .bool false]) (by simp [results, Tryz.results217, go_sem]) rfl ⟨rfl, by first | exact h0 | exact (((h0.other _ hne h.Ble).other _ hne h.Ble).other _ hne h.Ble).other _ hne h.Ble, by first | exact k0 | exact (((k0.late _ (Nat.le_refl _) h.Ble).late _ (Nat.le_refl _) h.Ble).late _ (Nat.le_refl _) h.Ble).late _ (Nat.le_refl _) h.Ble⟩
end
end Go.Proofs.YtbnelaoeblhndaaGreatDoor
