/- A shelf in memory; the walk of release. -/
import Derived.Test.YtbnelaoeblhndaaGreatDoorThSet4
import Derived.Deep.RegionHeld3
import Derived.Deep.DeepCutAuto
namespace Go.Proofs.YtbnelaoeblhndaaGreatDoor
open Go.RowKit
open Go.Maps (Keyed)
set_option maxRecDepth 100000

/-- Who has which value in which field: the map of the holders. -/
def holdM (H : Nat → Nat → Doc.Val → Prop) : Value → Value → Prop := fun key v =>
  ∃ (f : Nat) (x : Doc.Val) (ws : Bits), f < 4 ∧ Fine x ∧ key = .agg (heldC f x) ∧ v = .agg (setC ws) ∧ (∀ j, j < 4096 → (memB ws j = true ↔ H j f x)) ∧ ∃ j, j < 4096 ∧ H j f x

theorem heldC_inj {f g : Nat} {x y : Doc.Val} (h : Value.agg (heldC f x) = .agg (heldC g y)) : f = g ∧ x = y := by
  simp [heldC] at h
  obtain ⟨a, b, c, d⟩ := h
  refine ⟨by omega, ?_⟩
  cases x; cases y
  simp_all

/-- The two maps of a shelf. -/
def shelfO (mt mh : Nat) : Obj := .cells #[.map (some mt), .map (some mh)] 152 (0, 0)

def lessH (H : Nat → Nat → Doc.Val → Prop) (id f : Nat) (x : Doc.Val) : Nat → Nat → Doc.Val → Prop := fun j g y => H j g y ∧ ¬ (j = id ∧ g = f ∧ y = x)
def moreH (H : Nat → Nat → Doc.Val → Prop) (id f : Nat) (x : Doc.Val) : Nat → Nat → Doc.Val → Prop := fun j g y => H j g y ∨ (j = id ∧ g = f ∧ y = x)

theorem less_iff {H : Nat → Nat → Doc.Val → Prop} {id f j g : Nat} {x y : Doc.Val} (h : ¬ (g = f ∧ y = x)) : lessH H id f x j g y ↔ H j g y := ⟨fun h1 => h1.1, fun h1 => ⟨h1, fun e => h e.2⟩⟩
theorem hold_del {H : Nat → Nat → Doc.Val → Prop} {id f : Nat} {x : Doc.Val} (hf : f < 4) (hx : Fine x) (hn : ∀ j, j < 4096 → ¬ lessH H id f x j f x) (key v : Value) : holdM (lessH H id f x) key v ↔ delM (holdM H) (.agg (heldC f x)) key v := by
  constructor
  · rintro ⟨g, y, ws, hg, hy, rfl, rfl, h1, j, hj, h2⟩
    refine ⟨fun e => ?_, g, y, ws, hg, hy, rfl, rfl, fun i hi => ?_, j, hj, h2.1⟩
    · obtain ⟨rfl, rfl⟩ := heldC_inj e
      exact hn j hj h2
    · rw [h1 i hi]
      refine ⟨fun h => h.1, fun h => ⟨h, ?_⟩⟩
      rintro ⟨rfl, rfl, rfl⟩
      exact hn j hj h2
  · rintro ⟨hne, g, y, ws, hg, hy, rfl, rfl, h1, j, hj, h2⟩
    have hd : ¬ (g = f ∧ y = x) := by rintro ⟨rfl, rfl⟩; exact hne rfl
    exact ⟨g, y, ws, hg, hy, rfl, rfl, fun i hi => (h1 i hi).trans ⟨fun h => ⟨h, fun e => hd e.2⟩, fun h => h.1⟩, j, hj, h2, fun e => hd e.2⟩

theorem hold_put {H H' : Nat → Nat → Doc.Val → Prop} {f : Nat} {x : Doc.Val} {ws : Bits} (hf : f < 4) (hx : Fine x) (hw : ∀ j, j < 4096 → (memB ws j = true ↔ H' j f x)) (hex : ∃ j, j < 4096 ∧ H' j f x) (ho : ∀ j g y, ¬ (g = f ∧ y = x) → (H' j g y ↔ H j g y)) (key v : Value) :
    holdM H' key v ↔ putM (holdM H) (.agg (heldC f x)) (.agg (setC ws)) key v := by
  constructor
  · rintro ⟨g, y, vs, hg, hy, rfl, rfl, h1, j, hj, h2⟩
    by_cases e : g = f ∧ y = x
    · obtain ⟨rfl, rfl⟩ := e
      exact .inl ⟨rfl, congrArg Value.agg (setC_ext (fun i hi => by rw [Bool.eq_iff_iff]; exact (h1 i hi).trans (hw i hi).symm))⟩
    · exact .inr ⟨fun h => e (heldC_inj h), g, y, vs, hg, hy, rfl, rfl, fun i hi => (h1 i hi).trans (ho i g y e), j, hj, (ho j g y e).1 h2⟩
  · rintro (⟨rfl, rfl⟩ | ⟨hne, g, y, vs, hg, hy, rfl, rfl, h1, j, hj, h2⟩)
    · exact ⟨f, x, ws, hf, hx, rfl, rfl, hw, hex⟩
    · have e : ¬ (g = f ∧ y = x) := by rintro ⟨rfl, rfl⟩; exact hne rfl
      exact ⟨g, y, vs, hg, hy, rfl, rfl, fun i hi => (h1 i hi).trans (ho i g y e).symm, j, hj, (ho j g y e).2 h2⟩

theorem Below.allocB {B : Nat} {a w : World} (h : Below B a w) (hB : B ≤ a.heap.size) (o : Obj) : Below B a (w.alloc o) := h.alloc (Nat.le_trans hB h.size) o
theorem Below.callB {B : Nat} {a w w' : World} (h : Below B a w) (hB : B ≤ a.heap.size) (k : Below w.heap.size w w') : Below B a w' := h.trans (k.mono (Nat.le_trans hB h.size))

theorem setCells_row : ∀ (cs : List Value) (b o : Nat) (w : World) (cur : Array Value) (T : TypeId) (fr : Nat × Nat), w.heap[b]? = some (.cells cur T fr) → (w.setCells b o cs).heap[b]? = some (.cells (cur.toList.take o ++ cs ++ cur.toList.drop (o + cs.length)).toArray T fr) ∨ cur.size < o + cs.length := by
  intro cs
  induction cs with
  | nil => intro b o w cur T fr h; left; simp [World.setCells, h]
  | cons c cs ih =>
    intro b o w cur T fr h
    by_cases hs : cur.size < o + (cs.length + 1)
    · exact .inr (by simpa using hs)
    · have h2 : (w.setCell ⟨b, o, none⟩ c).heap[b]? = some (.cells (cur.setIfInBounds o c) T fr) := by
        simp [World.setCell, Array.getElem?_modify, h]
      rcases ih b (o + 1) _ _ T fr h2 with h3 | h3
      · left
        rw [World.setCells, h3]
        have e : (cur.setIfInBounds o c).toList.take (o + 1) ++ cs ++ (cur.setIfInBounds o c).toList.drop (o + 1 + cs.length) = cur.toList.take o ++ c :: cs ++ cur.toList.drop (o + (c :: cs).length) := by
          rw [Array.toList_setIfInBounds, List.take_add_one, List.take_set_of_le (Nat.le_refl _), List.drop_set_of_lt (by omega)]
          simp [show o < cur.size by omega, Nat.add_assoc, Nat.add_comm 1]
        rw [e]
      · exfalso; simp at h3; omega
theorem setCells_all {w : World} {b : Nat} {cur : Array Value} {T : TypeId} {fr : Nat × Nat} {cs : List Value} (h : w.heap[b]? = some (.cells cur T fr)) (hl : cur.size = cs.length) : (w.setCells b 0 cs).heap[b]? = some (.cells cs.toArray T fr) := by
  rcases setCells_row cs b 0 w cur T fr h with h1 | h1
  · rw [h1]; simp [hl]
  · omega
theorem setCells_other (b : Nat) : ∀ (cs : List Value) (o : Nat) (w : World) (k : Nat), k ≠ b → (w.setCells b o cs).heap[k]? = w.heap[k]?
  | [], _, _, _, _ => rfl
  | c :: cs, o, w, k, h => by rw [World.setCells, setCells_other b cs (o + 1) _ k h]; exact Below.heap_setCell _ _ _ _ h
theorem setCells_below (b : Nat) {B : Nat} {a : World} (hb : B ≤ b) : ∀ (cs : List Value) (o : Nat) (w : World), Below B a w → Below B a (w.setCells b o cs)
  | [], _, _, h => h
  | c :: cs, o, w, h => by rw [World.setCells]; exact setCells_below b hb cs (o + 1) _ (h.setCell (p := ⟨b, o, none⟩) hb c)
theorem there_blk {w : World} {b : Nat} {cur : Array Value} {T : TypeId} (h : w.heap[b]? = some (.cells cur T (0, 0))) {n : Nat} (hn : n ≤ cur.size) : w.there b 0 n := fun j hj => by
  rw [Nat.zero_add]
  exact ⟨by rw [cell_of_row _ _ _ _ _ _ h]; simp; omega, frozen_of_row _ _ _ _ _ h⟩

theorem run_build_set : ∀ w, (Instr.build 107 #[]).run Tryz.prog w = .ok (.agg (setC zeroB)) w := fun w => run_build w _ _ _ (by kernel_rfl)
theorem set_none {ws : Bits} (h : ∀ j, j < 4096 → memB ws j = false) : ((List.range 64).all fun j => ws j == zeroB j) = true := by
  rw [List.all_eq_true]
  intro j hj
  have hj : j < 64 := by simpa using hj
  rw [beq_iff_eq]
  apply BitVec.eq_of_getLsbD_eq
  intro k hk
  have := h (j * 64 + k) (by omega)
  unfold memB at this
  rw [show (j * 64 + k) / 64 = j by omega, show (j * 64 + k) % 64 = k by omega] at this
  rw [this]; simp [zeroB]
theorem set_some {ws : Bits} (h : ∃ j, j < 4096 ∧ memB ws j = true) : ((List.range 64).all fun j => ws j == zeroB j) = false := by
  obtain ⟨j, hj, h⟩ := h
  rw [List.all_eq_false]
  refine ⟨j / 64, by simp; omega, fun e => ?_⟩
  unfold memB at h
  rw [beq_iff_eq.1 e] at h
  simp [zeroB] at h

section
variable {P : Program} {w : World} {o : Oper} {a : Act} {K : Act → World → Prop} {Q : Exit → Act → World → Prop}
theorem wp_put_is (m x v : Operand) (t : TypeId) (hop : o.op = Op.mapUpdate t m x v) (k e : TypeId) (Kd : Keyed P k) (ht : P.underlying t = some (.map k e)) (b : Nat) (f : Value → Value → Prop)
    (hm : a.eval m = .map (some b)) (h : MapIs P k w b f) (key val : Value) (kl : Lit) (hx : a.eval x = key) (hv : a.eval v = val) (hkey : keyOf P k key = some kl)
    (hK : ∀ w', MapIs P k w' b (putM f key val) → Md (fun j => j = b) w w' → w'.heap.size = w.heap.size → K (a.put o.dst undef) w') : o.wp P a w K Q := by
  obtain ⟨w', hrun, r1, r2, r3⟩ := h.put Kd ht val hkey
  unfold Oper.wp
  simp [execOp, hop, hm, hx, hv, hrun, Result.andThen]
  exact hK w' r1 r2 r3
theorem wp_del_is (m x : Operand) (t k : TypeId) (hop : o.op = Op.call { callee := Callee.builtin Builtin.delete, args := #[m, x], argTypes := #[t, k] }) (e : TypeId) (Kd : Keyed P k) (ht : P.underlying t = some (.map k e)) (b : Nat) (f : Value → Value → Prop)
    (hm : a.eval m = .map (some b)) (h : MapIs P k w b f) (key : Value) (kl : Lit) (hx : a.eval x = key) (hkey : keyOf P k key = some kl)
    (hK : ∀ w', MapIs P k w' b (delM f key) → Md (fun j => j = b) w w' → w'.heap.size = w.heap.size → K (a.put o.dst (.tuple #[])) w') : o.wp P a w K Q := by
  obtain ⟨w', hrun, r1, r2, r3⟩ := h.del Kd ht hkey o.type
  unfold Oper.wp
  simp [execOp, hop, resolve, invoke, builtin, hm, hx, hrun, Result.andThen]
  exact hK w' r1 r2 r3
end

theorem setBlock_other (w : World) {b k : Nat} (h : k ≠ b) (o : Obj) : (Go.ChangeMaps.setBlock w b o).heap[k]? = w.heap[k]? := by
  simp [Go.ChangeMaps.setBlock, Ne.symm h]
/-- There is a set of those that meet a condition. -/
theorem exists_set (p : Nat → Prop) : ∃ ws : Bits, ∀ j, j < 4096 → (memB ws j = true ↔ p j) := by
  have key : ∀ n, ∃ ws : Bits, ∀ j, j < 4096 → (memB ws j = true ↔ (j < n ∧ p j)) := by
    intro n
    induction n with
    | zero => exact ⟨zeroB, fun j _ => by simp [memB_zero]⟩
    | succ n ih =>
      obtain ⟨ws, h⟩ := ih
      by_cases hp : p n
      · refine ⟨withB ws n, fun j hj => ?_⟩
        rw [memB_with, Bool.or_eq_true, h j hj, decide_eq_true_iff]
        constructor
        · rintro (rfl | ⟨h1, h2⟩)
          · exact ⟨by omega, hp⟩
          · exact ⟨by omega, h2⟩
        · rintro ⟨h1, h2⟩
          by_cases e : j = n
          · exact .inl e
          · exact .inr ⟨by omega, h2⟩
      · refine ⟨ws, fun j hj => (h j hj).trans ⟨fun h => ⟨by omega, h.2⟩, fun h => ⟨?_, h.2⟩⟩⟩
        have : j ≠ n := by rintro rfl; exact hp h.2
        omega
  obtain ⟨ws, h⟩ := key 4096
  exact ⟨ws, fun j hj => (h j hj).trans ⟨fun h => h.2, fun h => ⟨hj, h⟩⟩⟩

set_option maxHeartbeats 1000000 in
theorem release_any {w : World} {hb mt mh : Nat} {H : Nat → Nat → Doc.Val → Prop} (hs : w.heap[hb]? = some (shelfO mt mh)) (hh : MapIs Tryz.prog 155 w mh (holdM H)) (f : Nat) (hf : f < 4) (x : Doc.Val) (hx : Fine x) (id : Nat) (hid : id < 4096) (hH : H id f x) :
    Calls Tryz.prog 65 #[.pointer (some ⟨hb, 0, none⟩), .agg (heldC f x), .int .i64 id] w fun e w' => e = .returned (.tuple #[]) ∧ MapIs Tryz.prog 155 w' mh (holdM (lessH H id f x)) ∧ Md (fun j => j = mh) w w' := by
  obtain ⟨kl, hkl⟩ := held_key hf hx
  have hex : ∃ ws : Bits, holdM H (.agg (heldC f x)) (.agg (setC ws)) ∧ (∀ j, j < 4096 → (memB ws j = true ↔ H j f x)) := by
    obtain ⟨ws, h⟩ := exists_set (fun j => H j f x)
    exact ⟨ws, ⟨f, x, ws, hf, hx, rfl, rfl, h, id, hid, hH⟩, h⟩
  obtain ⟨ws, hv, hm⟩ := hex
  obtain ⟨C, HC⟩ : ∃ C, Hid (C = setC ws) := ⟨_, rfl⟩
  obtain ⟨Z, hz, HZ⟩ : ∃ Z, (∀ w, (zeroValue 107).run Tryz.prog w = .ok (.agg Z) w) ∧ Hid (Z = setC zeroB) := ⟨_, zero_set, rfl⟩
  have c1 : w.cell? ⟨hb, 1, none⟩ = some (.map (some mh)) := blk_cell hs 1 _ rfl
  have hlt := lt_block hs
  have hmlt := hh.lt
  have hne : mh ≠ hb := by
    rintro rfl
    obtain ⟨es, clock, h1, _⟩ := hh.has
    rw [hs] at h1; cases h1
  obtain ⟨R, HR⟩ : ∃ R : List Value, Hid (R.toArray = setC (withoutB ws id)) := ⟨(setC (withoutB ws id)).toList, Array.toArray_toList⟩
  have HWO : Hid (∀ w : World, Calls Tryz.prog 108 #[.agg C, .int .i64 id] w fun e w' => e = .returned (.agg R.toArray) ∧ Below w.heap.size w w') := by
    rw [HC.out, HR.out]; exact without_any ws id hid
  obtain ⟨w0, HW0⟩ : ∃ w0, Hid (w0 = w.alloc (.cells (heldC f x) 155)) := ⟨_, rfl⟩
  have hz0 : w0.heap.size = w.heap.size + 1 := by rw [HW0.out]; simp
  have hb0 : Below w.heap.size w w0 := by rw [HW0.out]; exact (Below.refl _ _).alloc (Nat.le_refl _) _
  have hbx : w0.heap[w.heap.size]? = some (.cells #[.int .i64 f, .int .i64 x.k, .int .i64 x.n, .string x.s] 155 (0, 0)) := by rw [HW0.out]; exact heap_alloc_new w _
  have hlk : ∀ w' : World, w'.heap[mh]? = w.heap[mh]? → (Instr.lookup 150 (.map (some mh)) (.agg #[.int .i64 f, .int .i64 x.k, .int .i64 x.n, .string x.s]) false).run Tryz.prog w' = .ok (.agg C) w' := by
    intro w' h'
    have := (hh.kept h').look_some false heldKeyed Tryz.underlying150 hkl hv
    rw [← HC.out] at this
    exact this
  have HSB : Hid (∀ w' : World, Below (w.heap.size + 1) w0 w' → Below (w.heap.size + 1) w0 w' ∧ w'.cell? ⟨hb, 1, none⟩ = some (.map (some mh)) ∧ w'.cell? ⟨w.heap.size, 0, none⟩ = some (.int .i64 f) ∧ w'.cell? ⟨w.heap.size, 1, none⟩ = some (.int .i64 x.k) ∧ w'.cell? ⟨w.heap.size, 2, none⟩ = some (.int .i64 x.n) ∧ w'.cell? ⟨w.heap.size, 3, none⟩ = some (.string x.s) ∧ w'.heap[mh]? = w.heap[mh]?) := by
    intro w' h'
    have q := (h'.block w.heap.size (by omega)).trans hbx
    exact ⟨h', ((h'.cell (p := ⟨hb, 1, none⟩) (by show hb < _; omega)).trans (hb0.cell (p := ⟨hb, 1, none⟩) hlt)).trans c1, blk_cell q 0 _ rfl, blk_cell q 1 _ rfl, blk_cell q 2 _ rfl, blk_cell q 3 _ rfl, (h'.block mh (by omega)).trans (hb0.block mh hmlt)⟩
  have HH : Hid _ := hh
  have HM : Hid _ := hm
  have hB : w.heap.size + 1 ≤ w0.heap.size := by omega
  have hRl : R.length = 64 := by rw [← setC_size (withoutB ws id), ← HR.out]; simp
  have hRI : (Tryz.prog.info? 107).map (·.size) = some R.length := by rw [hRl]; exact (zero_of_info Tryz.infoSet).2
  have hR1 : ∀ v, v ∈ R → v.oneCell' = true := by
    have := setC_one (withoutB ws id)
    rw [← HR.out, Array.all_eq_true_iff_forall_mem] at this
    intro v hv
    exact this v (by simpa using hv)
  have hZS : Z.size = R.length := by rw [HZ.out, hRl, setC_size]
  have HZS : Hid _ := hZS
  have HRL : Hid _ := hRl
  clear hZS hRl
  have HS : Hid _ := hs
  have HZ0 : Hid _ := hz0
  have HKL : Hid _ := hkl
  clear hh hv hm hs hkl hz0
  unfold heldC at HW0 ⊢
  go_enter Tryz.func65, Tryz.ntmps65
  go_wp2_with fail
  rw [← HW0.out]
  go_cut [6] (fun v wx => ∃ g, v = .pointer (some ⟨g, 0, none⟩) ∧ Below (w.heap.size + 1) w0 wx ∧ wx.heap[g]? = some (.cells R.toArray 107 (0, 0)) ∧ w.heap.size + 1 ≤ g)
  case first =>
    go_region_held3 (fun w' => Below (w.heap.size + 1) w0 w' ∧ w'.cell? ⟨hb, 1, none⟩ = some (.map (some mh)) ∧ w'.cell? ⟨w.heap.size, 0, none⟩ = some (.int .i64 f) ∧ w'.cell? ⟨w.heap.size, 1, none⟩ = some (.int .i64 x.k) ∧ w'.cell? ⟨w.heap.size, 2, none⟩ = some (.int .i64 x.n) ∧ w'.cell? ⟨w.heap.size, 3, none⟩ = some (.string x.s) ∧ w'.heap[mh]? = w.heap[mh]?) (first | (refine HSB.out _ ?_; repeat (first | exact Below.refl _ _ | refine Below.drew ?_ | refine Below.allocB ?_ hB _ | refine Below.callB ?_ hB hb2 | refine setCells_below _ (by omega) _ _ _ ?_))) (first | (go_at_call 108; refine (HWO.out (w0.alloc (.cells Z 107)).drew).mono ?_; rintro r w2 ⟨rfl, hb2⟩; have q2 := (hb2.block w0.heap.size (by simp)).trans (heap_alloc_new w0 (.cells Z 107)); have th := there_blk q2 (Nat.le_of_eq HZS.out.symm); have hgg := hB) | (go_at_call 108; refine (HWO.out w0.drew).mono ?_; rintro r w2 ⟨rfl, hb2⟩; have q2 := heap_alloc_new w2 (.cells Z 107); have th := there_blk q2 (Nat.le_of_eq HZS.out.symm); have hgg : w.heap.size + 1 ≤ w2.heap.size := Nat.le_trans hB hb2.size))
    all_goals (go_wp2_with fail)
    all_goals go_meet
    all_goals (refine ⟨_, rfl, ?_, setCells_all q2 HZS.out, hgg⟩; repeat (first | exact Below.refl _ _ | refine Below.drew ?_ | refine Below.allocB ?_ hB _ | refine Below.callB ?_ hB hb2 | refine setCells_below _ (by omega) _ _ _ ?_))
  case rest =>
    obtain ⟨g, rfl, hbw, hg, hgg⟩ := hcut
    have HSW : Hid _ := HSB.out wc hbw
    obtain ⟨_, d1, e0, e1, e2, e3, hmm⟩ := HSW.out
    have HHW : Hid (MapIs Tryz.prog 155 wc mh (holdM H)) := HH.out.kept hmm
    have HMD : Hid (Md (fun j => j = mh) w wc) := (Md.ofBelow hb0).trans (Md.ofBelow (by rw [HZ0.out]; exact hbw))
    have hrg : wc.rangeAt g 0 R := fun j v hj => by rw [Nat.zero_add, cell_of_row _ _ _ _ _ _ hg]; simpa using hj
    have hld : ∀ j, j < 4096 → (memB (withoutB ws id) j = true ↔ lessH H id f x j f x) := by
      intro j hj
      rw [memB_without, Bool.and_eq_true, HM.out j hj]
      simp [lessH, and_comm]
    have HLD : Hid _ := hld
    have hq0 : (107 : Nat) = 107 := rfl
    have hgl := lt_block hg
    have hgm : g ≠ mh := by omega
    have HG : Hid _ := hg
    have hRI' := hRI
    have HRI : Hid ((Tryz.prog.info? 107).map (·.size) = some R.toArray.size) := by show _ = _; rw [hRI]; simp
    have hbu := run_build_set
    rw [← HZ.out] at hbu
    have HRG : Hid _ := hrg
    have HRI2 : Hid _ := hRI
    clear hmm hlk hld hrg hg hRI hRI' hR1 hq0
    by_cases he : ∃ j, j < 4096 ∧ lessH H id f x j f x
    · have heq : ∀ w, (binOp .eql 107 (.agg R.toArray) (.agg Z)).run Tryz.prog w = .ok (.bool false) w := by
        intro w
        rw [HR.out, HZ.out, run_eql_set, set_some (by obtain ⟨j, hj, h⟩ := he; exact ⟨j, hj, (HLD.out j hj).2 h⟩)]
      go_wp2_with (refine wpList_load_row rfl 107 _ rfl g rfl 107 R.toArray (0, 0) _ HG.out Tryz.underlying107 rfl HRI.out ?_)
      obtain ⟨ob, hob⟩ := HHW.out.putO heldKeyed Tryz.underlying150 (.agg R.toArray) HKL.out
      obtain ⟨hpu, hpm⟩ := hob wc.drew rfl
      rw [HR.out] at hpm
      have HPM : Hid _ := hpm
      unfold heldC at hpu
      clear hob hpm heq hbu
      have hu := Tryz.underlying107
      have hRI := HRI2.out
      have HSB4 : Hid (∀ w' : World, (∀ k, k ≠ mh → w'.heap[k]? = wc.heap[k]?) → w'.cell? ⟨hb, 1, none⟩ = some (.map (some mh)) ∧ w'.cell? ⟨w.heap.size, 0, none⟩ = some (.int .i64 f) ∧ w'.cell? ⟨w.heap.size, 1, none⟩ = some (.int .i64 x.k) ∧ w'.cell? ⟨w.heap.size, 2, none⟩ = some (.int .i64 x.n) ∧ w'.cell? ⟨w.heap.size, 3, none⟩ = some (.string x.s) ∧ w'.rangeAt g 0 R) := by
        intro w' h'
        have hc : ∀ (k i : Nat), k ≠ mh → w'.cell? ⟨k, i, none⟩ = wc.cell? ⟨k, i, none⟩ := fun k i hk => by simp [World.cell?, h' k hk]
        have hx : w.heap.size ≠ mh := by omega
        exact ⟨(hc _ _ (Ne.symm hne)).trans d1, (hc _ _ hx).trans e0, (hc _ _ hx).trans e1, (hc _ _ hx).trans e2, (hc _ _ hx).trans e3, fun j v hj => (hc _ _ hgm).trans (HRG.out j v hj)⟩
      go_region_held3 (fun w' => w'.cell? ⟨hb, 1, none⟩ = some (.map (some mh)) ∧ w'.cell? ⟨w.heap.size, 0, none⟩ = some (.int .i64 f) ∧ w'.cell? ⟨w.heap.size, 1, none⟩ = some (.int .i64 x.k) ∧ w'.cell? ⟨w.heap.size, 2, none⟩ = some (.int .i64 x.n) ∧ w'.cell? ⟨w.heap.size, 3, none⟩ = some (.string x.s) ∧ w'.rangeAt g 0 R) (first | exact HSB4.out _ (fun k hk => rfl) | exact HSB4.out _ (fun k hk => (setBlock_other _ hk _).trans rfl)) (first | fail)
      all_goals (go_wp2_with fail)
      all_goals
        go_end0
        exact ⟨rfl, HPM.out.congr (hold_put hf hx HLD.out he (fun _ _ _ h => less_iff h)), HMD.out.drew.trans (setBlock_md _ _ _)⟩
    · have heq : ∀ w, (binOp .eql 107 (.agg R.toArray) (.agg Z)).run Tryz.prog w = .ok (.bool true) w := by
        intro w
        rw [HR.out, HZ.out, run_eql_set, set_none (fun j hj => Bool.eq_false_iff.2 (fun h => he ⟨j, hj, (HLD.out j hj).1 h⟩))]
      go_wp2_with (refine wpList_load_row rfl 107 _ rfl g rfl 107 R.toArray (0, 0) _ HG.out Tryz.underlying107 rfl HRI.out ?_)
      obtain ⟨ob, hob⟩ := HHW.out.delO heldKeyed Tryz.underlying150 HKL.out 0
      obtain ⟨hpu, hpm⟩ := hob wc.drew rfl
      have HPM : Hid _ := hpm
      unfold heldC at hpu
      clear hob hpm heq hbu
      first | go_region | fail "stands"
      all_goals (go_wp2_with fail)
      all_goals
        refine bodyPost_ret (v := .tuple #[]) (by simp [results, Tryz.results65, go_sem]) rfl ?_
        exact ⟨rfl, HPM.out.congr (hold_del hf hx (fun j hj h => he ⟨j, hj, h⟩)), HMD.out.drew.trans (setBlock_md _ _ _)⟩
end Go.Proofs.YtbnelaoeblhndaaGreatDoor
