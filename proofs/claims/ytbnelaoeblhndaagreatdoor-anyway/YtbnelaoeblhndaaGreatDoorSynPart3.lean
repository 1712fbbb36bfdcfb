/- Walks of the program's bracket, stepDown and part. -/
import Derived.Test.YtbnelaoeblhndaaGreatDoorSynPart2
import Derived.Defers
namespace Go.Proofs.YtbnelaoeblhndaaGreatDoor
open Go.RowKit
set_option maxRecDepth 100000

def Doc.brkR (L : List Doc.Tok) : Doc.Res Doc.Ast → Doc.Res Doc.Ast
  | .ok a j => if Doc.is (Doc.tk L j) [41] then .ok a (j + 1) else .err 6 (Doc.tk L j).at_
  | .err e p => .err e p

section
variable {B : Nat} {w : World} {rb : Nat} {s : ByteArray} {L : List Doc.Tok} {i op fault : Nat}

theorem PR.c4 (h : PR B w rb s L i op fault) : w.cell? ⟨rb, 4, none⟩ = some (.int .i64 op) := by obtain ⟨q, _, b⟩ := h.has; exact b.c4
theorem PR.c2 (h : PR B w rb s L i op fault) : ∃ x : ByteArray, w.cell? ⟨rb, 2, none⟩ = some (.string x) ∧ ∀ l, Bare l → (x.toList == l) = Doc.is (Doc.tk L i) l := by
  obtain ⟨q, a, b⟩ := h.has; exact ⟨_, b.c2, fun l hl => a.is hl⟩
theorem PR.fr (h : PR B w rb s L i op fault) (k : Nat) : w.frozen? ⟨rb, k, none⟩ = false := by obtain ⟨q, _, b⟩ := h.has; exact b.fr k
theorem PR.opset (h : PR B w rb s L i op fault) (op2 : Nat) : PR B (w.setCell ⟨rb, 4, none⟩ (.int .i64 op2)) rb s L i op2 fault ∧ PM B rb w (w.setCell ⟨rb, 4, none⟩ (.int .i64 op2)) := by
  obtain ⟨q, a, b⟩ := h.has
  obtain ⟨h1, h2⟩ := b.stored (i := 4) (u := .int .i64 op2) (t2 := ptok s q) (op2 := op2) (fault2 := fault) rfl
  exact ⟨⟨q, a, h1⟩, h2⟩

theorem PM.blk2 {o p : Obj} {w1 : World} (k : PM B rb ((w.alloc o).alloc p) w1) (hne : w.heap.size + 1 ≠ rb) : w1.heap[w.heap.size + 1]? = some p := by
  have := heap_alloc_new (w.alloc o) p
  rw [show (w.alloc o).heap.size = w.heap.size + 1 by simp] at this
  exact k.blk this hne
theorem PM.blk1 {o p : Obj} {w1 : World} (k : PM B rb ((w.alloc o).alloc p) w1) (hne : w.heap.size ≠ rb) : w1.heap[w.heap.size]? = some o := by
  have := heap_alloc_new w o
  exact k.blk ((heap_alloc_old (w.alloc o) p (by simp)).trans this) hne

/-- What stepDown leaves, by what its inner function left. -/
theorem TPost.up (h : PR B w rb s L i op fault) {res : Doc.Res Doc.Ast} {w1 w2 : World} (k0 : PM B rb w w1) (hz : w.heap.size + 2 ≤ w1.heap.size) {c0 c1 c2 c3 c4 c5 c6 b : Value} (hp : TPost B rb s L (op + 1) fault w1 res (.returned (.tuple #[.agg #[c0, c1, c2, c3, c4, c5, c6], b])) w2) :
    TPost B rb s L op fault w res (.returned (.tuple #[.agg #[c0, c1, c2, c3, c4, c5, c6], b])) ((((((((w2.setCell ⟨w.heap.size + 1, 0, none⟩ c0).setCell ⟨w.heap.size + 1, 1, none⟩ c1).setCell ⟨w.heap.size + 1, 2, none⟩ c2).setCell ⟨w.heap.size + 1, 3, none⟩ c3).setCell ⟨w.heap.size + 1, 4, none⟩ c4).setCell ⟨w.heap.size + 1, 5, none⟩ c5).setCell ⟨w.heap.size + 1, 6, none⟩ c6).setCell ⟨rb, 4, none⟩ (.int .i64 op)) := by
  have hlt := h.rlt
  have hB := h.Ble
  have hne : w.heap.size + 1 ≠ rb := by omega
  have hBn : B ≤ w.heap.size + 1 := by omega
  cases res with
  | ok a j =>
    obtain ⟨cs, e, hrep, h1, k2⟩ := hp
    have h3 := h1.set7 c0 c1 c2 c3 c4 c5 c6 hne hBn
    obtain ⟨h4, k4⟩ := h3.opset op
    refine ⟨cs, e, ?_, h4, ((k0.trans k2).set7 c0 c1 c2 c3 c4 c5 c6 (by omega) hBn).trans k4⟩
    refine hrep.kept (fun k u hF hu => ?_) (fun k hF _ => by omega)
    rw [Below.heap_setCell _ _ _ _ (by show k ≠ rb; omega), set7_block _ _ _ _ _ _ _ (by omega)]; exact hu
  | err e q =>
    obtain ⟨j, e1, e2, h1, k2⟩ := hp
    have h3 := h1.set7 c0 c1 c2 c3 c4 c5 c6 hne hBn
    obtain ⟨h4, k4⟩ := h3.opset op
    exact ⟨j, e1, e2, h4, ((k0.trans k2).set7 c0 c1 c2 c3 c4 c5 c6 (by omega) hBn).trans k4⟩

theorem TPost.pr {res : Doc.Res Doc.Ast} {r : Ending} {w' : World} (h : TPost B rb s L op fault w res r w') : ∃ j f, PR B w' rb s L j op f := by
  cases res with
  | ok a j => obtain ⟨_, _, _, h, _⟩ := h; exact ⟨_, _, h⟩
  | err e q => obtain ⟨_, _, _, h, _⟩ := h; exact ⟨_, _, h⟩

theorem back_any (u : FrameMode) (w : World) (pb rb : Nat) (x y : Int) (hx : x = y + 1) (h1 : 0 ≤ y) (h2 : y ≤ 6) (hp : w.cell? ⟨pb, 0, none⟩ = some (.pointer (some ⟨rb, 0, none⟩))) (c4 : w.cell? ⟨rb, 4, none⟩ = some (.int .i64 x)) (f4 : w.frozen? ⟨rb, 4, none⟩ = false) :
    CallsD Tryz.prog 201 #[.pointer (some ⟨pb, 0, none⟩)] u w fun e u' w' => u' = u ∧ (e = .returned (.tuple #[]) ∧ w' = w.setCell ⟨rb, 4, none⟩ (.int .i64 y)) := by
  have hw : IntKind.i64.wrap (x - 1) = y := by simp [IntKind.wrap_i64]; omega
  clear hx
  go_enter_d Tryz.func201, Tryz.ntmps201
  go_wp2_with fail
  go_end0
  exact ⟨rfl, rfl⟩

set_option maxHeartbeats 1000000 in
theorem sd_deep (h : PR B w rb s L i 6 fault) (f : FuncId) :
    Calls Tryz.prog 182 #[.pointer (some ⟨rb, 0, none⟩), .func (.func f) #[.pointer (some ⟨rb, 0, none⟩)] #[]] w (TPost B rb s L 6 fault w (.err 7 (Doc.tk L i).at_)) := by
  have c4 : w.cell? ⟨rb, 4, none⟩ = some (.int .i64 6) := h.c4
  have hlt := h.rlt
  have hne : w.heap.size + 1 ≠ rb := by omega
  go_enter_defers Tryz.func182, Tryz.ntmps182
  go_wp2_with fail
  refine (refuser ((h.alloc _).alloc _) 7).mono ?_
  rintro r w1 ⟨rfl, h1, k1⟩
  have q1 := k1.blk2 hne
  obtain ⟨a0, a1, a2, a3, a4, a5, a6⟩ := fv_cells q1
  obtain ⟨x0, x1, x2, x3, x4, x5, x6⟩ := fv_free q1
  have hl := lt_block q1
  go_wp2_with fail
  refine ⟨.tuple #[.agg #[.int .i64 0, .slice none 0 0, .string ⟨#[]⟩, .int .i64 0, .string ⟨#[]⟩, .int .i64 0, .slice none 0 0], .bool false], ?_, ?_⟩
  · simp [results, Tryz.results182, go_sem, a0, a1, a2, a3, a4, a5, a6]
  · exact ⟨i, rfl, rfl, h1.set7 _ _ _ _ _ _ _ hne (by have := h.Ble; omega), ((((PM.refl B rb w).alloc h.Ble _).alloc (h.alloc _).Ble _).trans k1).set7 _ _ _ _ _ _ _ (by omega) (by have := h.Ble; omega)⟩

set_option maxHeartbeats 2000000 in
theorem sd_any (h : PR B w rb s L i op fault) (ho : op < 6) (hE : Doc.Ended L) (hs : s.size ≤ 200) (t : Doc.Tok) (ht : t = Doc.tk L i) (hk : t.kind = 119 ∨ t.kind = 103) (f : FuncId) (hf : ∀ (xs : Array Value) (w : World), Sem.run Tryz.prog (callFunc f xs) w = .ok (.enter f xs) w) {res : Doc.Res Doc.Ast}
    (HI : ∀ w', PR B w' rb s L (i + 1) (op + 1) fault → Calls Tryz.prog f #[.pointer (some ⟨rb, 0, none⟩)] w' (TPost B rb s L (op + 1) fault w' res)) :
    Calls Tryz.prog 182 #[.pointer (some ⟨rb, 0, none⟩), .func (.func f) #[.pointer (some ⟨rb, 0, none⟩)] #[]] w (TPost B rb s L op fault w res) := by
  have HI' : Hid (∀ w', PR B w' rb s L (i + 1) (op + 1) fault → Calls Tryz.prog f #[.pointer (some ⟨rb, 0, none⟩)] w' (TPost B rb s L (op + 1) fault w' res)) := HI
  have HT : Hid (t = Doc.tk L i) := ht
  clear HI ht
  have c4 := h.c4
  have f4 := h.fr 4
  have hz : ((op : Int) == 6) = false := by rw [beq_eq_false_iff_ne]; omega
  have hlt := h.rlt
  have hb0 := h.Ble
  have hne : w.heap.size + 1 ≠ rb := by omega
  have hne0 : w.heap.size ≠ rb := by omega
  have hmf : ∀ (fn : Fn) (first cap : Array Value) (w : World), (Instr.makeFunc fn first cap).run Tryz.prog w = .ok (.func fn first cap) w := fun _ _ _ _ => rfl
  go_enter_defers Tryz.func182, Tryz.ntmps182
  go_wp2_with fail
  obtain ⟨h0, k0⟩ := h.opset (op + 1)
  obtain ⟨w0, hw0⟩ : ∃ w0, w0 = w.setCell ⟨rb, 4, none⟩ (.int .i64 ((op + 1 : Nat) : Int)) := ⟨_, rfl⟩
  have hsz : w0.heap.size = w.heap.size := by rw [hw0]; simp
  have hw1 : w.setCell ⟨rb, 4, none⟩ (.int .i64 ((op : Int) + 1)) = w0 := by rw [hw0]; simp
  rw [hw1]
  rw [← hw0] at h0 k0
  clear hw1 hw0
  refine (taker ((h0.alloc _).alloc _) hE hs t HT.out hk).mono ?_
  rintro r w1 ⟨kk, rfl, h2, k2⟩
  have k12 := ((k0.alloc h0.Ble _).alloc (h0.alloc _).Ble _).trans k2
  have hz2 : w.heap.size + 2 ≤ w1.heap.size := by have := k2.below.size; simp at this; omega
  have q0 := k2.blk1 (by omega)
  have q1 := k2.blk2 (by omega)
  rw [hsz] at q0 q1
  have r0 := blk_cell q0 0 _ rfl
  clear k2
  go_wp2_with fail
  refine Calls.mono (HI'.out _ h2) ?_
  intro r w2 hp
  obtain ⟨x, b1, n1, m1, s1, s2, na1, na2, b2, n2, m2, b, rfl⟩ := hp.ret
  have q2 := hp.pm.blk q0 hne0
  have q1 := hp.pm.blk q1 hne
  obtain ⟨j', f', hpr⟩ := TPost.pr hp
  have HP : Hid _ := hp
  clear hp
  obtain ⟨a0, a1, a2, a3, a4, a5, a6⟩ := fv_cells q1
  obtain ⟨x0, x1, x2, x3, x4, x5, x6⟩ := fv_free q1
  have hl := lt_block q1
  go_wp2_with fail
  refine leaves_cons (f := 201) (args := #[.pointer (some ⟨w.heap.size, 0, none⟩)]) (by simp) (by simp [go_sem]) ?_
  refine (back_any .returning _ w.heap.size rb ((op + 1 : Nat) : Int) (op : Int) (by omega) (by omega) (by omega) ?_ ?_ ?_).mono ?_
  · exact blk_cell ((set7_block _ _ _ _ _ _ _ (by omega)).trans q2) 0 _ rfl
  · exact (hpr.set7 _ _ _ _ _ _ _ hne (by omega)).c4
  · exact (hpr.set7 _ _ _ _ _ _ _ hne (by omega)).fr 4
  rintro e u' w3 ⟨rfl, rfl, rfl⟩
  refine ⟨.tuple #[.agg #[.int .i64 x, .slice b1 n1 m1, .string s1, .int .i64 na1, .string s2, .int .i64 na2, .slice b2 n2 m2], .bool b], ?_, TPost.up h k12 hz2 HP.out⟩
  simp [results, Tryz.results182, go_sem, a0, a1, a2, a3, a4, a5, a6]
end
end Go.Proofs.YtbnelaoeblhndaaGreatDoor
