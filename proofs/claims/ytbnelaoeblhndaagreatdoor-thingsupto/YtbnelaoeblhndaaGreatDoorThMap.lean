/- A map in memory by what each key has; the look-up, the store and the delete. -/
import Derived.Test.YtbnelaoeblhndaaGreatDoorThRef1
import Derived.Maps.OwnSet
import Derived.Maps.Range
namespace Go.Proofs.YtbnelaoeblhndaaGreatDoor
open Go.RowKit
open Go.Maps (Keyed)
open Go.MapKept
open Go.ChangeMaps (setBlock)
set_option maxRecDepth 100000

/-- A map in memory: f says which value each key has. -/
structure MapIs (P : Program) (k : TypeId) (w : World) (b : Nat) (f : Value → Value → Prop) : Prop where
  has : ∃ es clock, w.heap[b]? = some (.map es clock) ∧ Stamped es clock ∧ (∀ e ∈ es.toList, ∃ l, keyOf P k e.key = some l) ∧ ∀ key v, f key v ↔ ∃ e ∈ es.toList, e.key = key ∧ e.val = v

/-- The map behind a store. -/
def putM (f : Value → Value → Prop) (key val : Value) : Value → Value → Prop := fun x v => (x = key ∧ v = val) ∨ (x ≠ key ∧ f x v)
/-- The map behind a delete. -/
def delM (f : Value → Value → Prop) (key : Value) : Value → Value → Prop := fun x v => x ≠ key ∧ f x v

theorem setBlock_at {w : World} {b : Nat} (h : b < w.heap.size) (o : Obj) : (setBlock w b o).heap[b]? = some o := by
  simp [setBlock, h]
theorem setBlock_md (w : World) (b : Nat) (o : Obj) : Md (fun j => j = b) w (setBlock w b o) :=
  ⟨⟨rfl, rfl, rfl, by simp [setBlock], fun k hk => by omega⟩, fun k hk hf => by simp [setBlock, Ne.symm hf]⟩
theorem setBlock_size (w : World) (b : Nat) (o : Obj) : (setBlock w b o).heap.size = w.heap.size := by simp [setBlock]

section
variable {P : Program} {k t e : TypeId} {w : World} {b : Nat} {f : Value → Value → Prop}

theorem mapIs_made (P : Program) (k : TypeId) (w : World) : MapIs P k (w.alloc (.map #[] 0)) w.heap.size (fun _ _ => False) :=
  ⟨#[], 0, heap_alloc_new w _, stamped_empty 0, by simp, by simp⟩
theorem MapIs.lt (h : MapIs P k w b f) : b < w.heap.size := by
  obtain ⟨es, clock, h1, _⟩ := h.has; exact lt_block h1
theorem MapIs.kept {w' : World} (h : MapIs P k w b f) (hk : w'.heap[b]? = w.heap[b]?) : MapIs P k w' b f := by
  obtain ⟨es, clock, h1, h2⟩ := h.has; exact ⟨es, clock, hk.trans h1, h2⟩
theorem MapIs.congr {g : Value → Value → Prop} (h : MapIs P k w b f) (hg : ∀ x v, g x v ↔ f x v) : MapIs P k w b g := by
  obtain ⟨es, clock, h1, h2, h3, h4⟩ := h.has; exact ⟨es, clock, h1, h2, h3, fun x v => (hg x v).trans (h4 x v)⟩
theorem MapIs.one (h : MapIs P k w b f) {key v u : Value} (h1 : f key v) (h2 : f key u) : v = u := by
  obtain ⟨es, clock, _, hs, _, h4⟩ := h.has
  obtain ⟨x, hx, rfl, rfl⟩ := (h4 key v).1 h1
  obtain ⟨y, hy, e1, rfl⟩ := (h4 x.key u).1 h2
  rw [entry_eq_of_key ((stamped_iff es clock).1 hs).2.2 hx hy e1.symm]
theorem MapIs.key (h : MapIs P k w b f) {key v : Value} (h1 : f key v) : ∃ l, keyOf P k key = some l := by
  obtain ⟨es, clock, _, _, h3, h4⟩ := h.has
  obtain ⟨x, hx, rfl, _⟩ := (h4 key v).1 h1
  exact h3 x hx

theorem MapIs.look_none (h : MapIs P k w b f) (c : Bool) (K : Keyed P k) (ht : P.underlying t = some (.map k e)) {z key : Value} {kl : Lit} (hz : (zeroValue e).run P w = .ok z w) (hkey : keyOf P k key = some kl) (hn : ∀ v, ¬ f key v) :
    (Instr.lookup t (.map (some b)) key c).run P w = .ok (if c then .tuple #[z, .bool false] else z) w := by
  obtain ⟨es, clock, hb, hs, h3, h4⟩ := h.has
  rcases K.find w hkey es.toList h3 with ⟨h1, _⟩ | ⟨j, e0, _, h2, h5⟩
  · simp [Instr.lookup, run_underlying ht, MapKept.run_getObj_map hb, K.check w _ hkey, h1, hz, Result.andThen]
  · exact absurd ((h4 key e0.val).2 ⟨e0, List.mem_of_getElem? h2, h5, rfl⟩) (hn _)

theorem MapIs.look_some (h : MapIs P k w b f) (c : Bool) (K : Keyed P k) (ht : P.underlying t = some (.map k e)) {key v : Value} {kl : Lit} (hkey : keyOf P k key = some kl) (hv : f key v) :
    (Instr.lookup t (.map (some b)) key c).run P w = .ok (if c then .tuple #[v, .bool true] else v) w := by
  obtain ⟨es, clock, hb, hs, h3, h4⟩ := h.has
  rcases K.find w hkey es.toList h3 with ⟨_, h2⟩ | ⟨j, e0, h1, h2, h5⟩
  · obtain ⟨x, hx, e1, _⟩ := (h4 key v).1 hv
    exact absurd e1 (h2 x hx)
  · obtain rfl : e0.val = v := MapIs.one h ((h4 key e0.val).2 ⟨e0, List.mem_of_getElem? h2, h5, rfl⟩) hv
    simp [Instr.lookup, run_underlying ht, MapKept.run_getObj_map hb, K.check w _ hkey, h1, Result.andThen]

theorem MapIs.put (h : MapIs P k w b f) (K : Keyed P k) (ht : P.underlying t = some (.map k e)) {key : Value} (val : Value) {kl : Lit} (hkey : keyOf P k key = some kl) :
    ∃ w', (Instr.mapUpdate t (.map (some b)) key val).run P w = .ok () w' ∧ MapIs P k w' b (putM f key val) ∧ Md (fun j => j = b) w w' ∧ w'.heap.size = w.heap.size := by
  obtain ⟨es, clock, hb, hs, h3, h4⟩ := h.has
  rcases K.find w hkey es.toList h3 with ⟨h1, h2⟩ | ⟨j, e0, h1, h2, h5⟩
  · refine ⟨setBlock w b (.map (es.push ⟨key, val, clock⟩) (clock + 1)), ?_, ⟨_, _, setBlock_at (lt_block hb) _, stamped_push hs h2, ?_, ?_⟩, setBlock_md _ _ _, setBlock_size _ _ _⟩
    · simp [Instr.mapUpdate, run_underlying ht, MapKept.run_getObj_map hb, K.check w false hkey, h1, MapKept.run_setObj_map _ hb, Result.andThen, setBlock]
    · intro x hx
      simp only [Array.toList_push, List.mem_append, List.mem_singleton] at hx
      rcases hx with hx | rfl
      · exact h3 x hx
      · exact ⟨kl, hkey⟩
    · intro x v
      simp only [Array.toList_push, List.mem_append, List.mem_singleton, putM]
      constructor
      · rintro (⟨rfl, rfl⟩ | ⟨hne, hf⟩)
        · exact ⟨_, .inr rfl, rfl, rfl⟩
        · obtain ⟨y, hy, e1, e2⟩ := (h4 x v).1 hf
          exact ⟨y, .inl hy, e1, e2⟩
      · rintro ⟨y, hy | rfl, rfl, rfl⟩
        · exact .inr ⟨h2 y hy, (h4 _ _).2 ⟨y, hy, rfl, rfl⟩⟩
        · exact .inl ⟨rfl, rfl⟩
  · have hj : es[j]? = some e0 := by simpa using h2
    have hkeyf : ∀ e', es[j]? = some e' → ({ e' with key := key, val := val } : MapEntry).key = e'.key := fun e' he' => by rw [hj] at he'; cases he'; exact h5.symm
    have hlist : (es.modify j (fun e' => { e' with key := key, val := val })).toList = es.toList.set j { e0 with key := key, val := val } := by rw [Array.toList_modify, ChangeMaps.modify_eq_set _ _ _ _ h2]
    have hjl : j < es.toList.length := (List.getElem?_eq_some_iff.1 h2).1
    have hpw := ((stamped_iff es clock).1 hs).2.2
    refine ⟨setBlock w b (.map (es.modify j (fun e' => { e' with key := key, val := val })) clock), ?_, ⟨_, _, setBlock_at (lt_block hb) _, stamped_modify hs _ _ (fun _ _ => rfl) (fun e' _ he' => hkeyf e' he'), ?_, ?_⟩, setBlock_md _ _ _, setBlock_size _ _ _⟩
    · simp [Instr.mapUpdate, run_underlying ht, MapKept.run_getObj_map hb, K.check w false hkey, h1, hj, h5, K.stays w hkey, MapKept.run_setObj_map _ hb, Result.andThen, setBlock]
    · intro x hx
      rw [hlist] at hx
      rcases List.mem_or_eq_of_mem_set hx with hx | rfl
      · exact h3 x hx
      · exact ⟨kl, hkey⟩
    · intro x v
      rw [hlist]
      constructor
      · rintro (⟨rfl, rfl⟩ | ⟨hne, hf⟩)
        · exact ⟨_, List.mem_iff_getElem.2 ⟨j, by simpa using hjl, by simp; rfl⟩, rfl, rfl⟩
        · obtain ⟨y, hy, e1, e2⟩ := (h4 x v).1 hf
          obtain ⟨i, hi, rfl⟩ := List.getElem_of_mem hy
          have hij : j ≠ i := by
            rintro rfl
            rw [List.getElem?_eq_getElem hi] at h2
            cases h2
            exact hne (e1.symm.trans h5)
          exact ⟨_, List.mem_iff_getElem.2 ⟨i, by simpa using hi, by rw [List.getElem_set_ne hij]⟩, e1, e2⟩
      · rintro ⟨y, hy, rfl, rfl⟩
        obtain ⟨i, hi, ex⟩ := List.getElem_of_mem hy
        have hi' : i < es.toList.length := by simpa using hi
        rw [List.getElem_set] at ex
        split at ex
        · subst ex; exact .inl ⟨rfl, rfl⟩
        · rename_i hne
          subst ex
          refine .inr ⟨fun e1 => ?_, (h4 _ _).2 ⟨_, List.getElem_mem hi', rfl, rfl⟩⟩
          have e2 := entry_eq_of_key hpw (List.getElem_mem hi') (List.mem_of_getElem? h2) (e1.trans h5.symm)
          have hjg : es.toList[j] = e0 := by rw [List.getElem?_eq_getElem hjl] at h2; exact Option.some.inj h2
          rcases Nat.lt_trichotomy i j with hlt | rfl | hlt
          · exact (List.pairwise_iff_getElem.1 hpw i j hi' hjl hlt) (by rw [e2, hjg])
          · exact hne rfl
          · exact (List.pairwise_iff_getElem.1 hpw j i hjl hi' hlt) (by rw [e2, hjg])

theorem MapIs.del (h : MapIs P k w b f) (K : Keyed P k) (ht : P.underlying t = some (.map k e)) {key : Value} {kl : Lit} (hkey : keyOf P k key = some kl) (ty : TypeId) :
    ∃ w', (Builtin.delete_ #[t, k] ty #[.map (some b), key]).run P w = .ok (.tuple #[]) w' ∧ MapIs P k w' b (delM f key) ∧ Md (fun j => j = b) w w' ∧ w'.heap.size = w.heap.size := by
  obtain ⟨es, clock, hb, hs, h3, h4⟩ := h.has
  rcases K.find w hkey es.toList h3 with ⟨h1, h2⟩ | ⟨j, e0, h1, h2, h5⟩
  · refine ⟨setBlock w b (.map es clock), ?_, ⟨_, _, setBlock_at (lt_block hb) _, hs, h3, ?_⟩, setBlock_md _ _ _, setBlock_size _ _ _⟩
    · simp [Builtin.delete_, run_underlying ht, MapKept.run_getObj_map hb, K.check w _ hkey, h1, MapKept.run_setObj_map _ hb, Result.andThen, setBlock]
    · intro x v
      constructor
      · rintro ⟨_, hf⟩; exact (h4 x v).1 hf
      · rintro ⟨y, hy, rfl, rfl⟩
        exact ⟨h2 y hy, (h4 _ _).2 ⟨y, hy, rfl, rfl⟩⟩
  · have hjl : j < es.toList.length := (List.getElem?_eq_some_iff.1 h2).1
    have hjs : j < es.size := by simpa using hjl
    have hsub : (es.eraseIdxIfInBounds j).toList = es.toList.eraseIdx j := by
      unfold Array.eraseIdxIfInBounds
      rw [dif_pos hjs]
      simp
    have hpw := ((stamped_iff es clock).1 hs).2.2
    have hjg : es.toList[j] = e0 := by rw [List.getElem?_eq_getElem hjl] at h2; exact Option.some.inj h2
    refine ⟨setBlock w b (.map (es.eraseIdxIfInBounds j) clock), ?_, ⟨_, _, setBlock_at (lt_block hb) _, stamped_erase hs j, ?_, ?_⟩, setBlock_md _ _ _, setBlock_size _ _ _⟩
    · simp [Builtin.delete_, run_underlying ht, MapKept.run_getObj_map hb, K.check w _ hkey, h1, MapKept.run_setObj_map _ hb, Result.andThen, setBlock]
    · intro x hx
      rw [hsub] at hx
      exact h3 x ((List.eraseIdx_sublist _ _).subset hx)
    · intro x v
      rw [hsub]
      constructor
      · rintro ⟨hne, hf⟩
        obtain ⟨y, hy, e1, e2⟩ := (h4 x v).1 hf
        obtain ⟨i, hi, rfl⟩ := List.getElem_of_mem hy
        have hij : i ≠ j := by
          rintro rfl
          exact hne (by rw [← e1, hjg]; exact h5)
        exact ⟨_, List.mem_eraseIdx_iff_getElem?.2 ⟨i, hij, List.getElem?_eq_getElem hi⟩, e1, e2⟩
      · rintro ⟨y, hy, rfl, rfl⟩
        obtain ⟨i, hij, hi⟩ := List.mem_eraseIdx_iff_getElem?.1 hy
        obtain ⟨hil, rfl⟩ := List.getElem?_eq_some_iff.1 hi
        refine ⟨fun e1 => ?_, (h4 _ _).2 ⟨_, List.getElem_mem hil, rfl, rfl⟩⟩
        rcases Nat.lt_or_gt_of_ne hij with hlt | hlt
        · exact (List.pairwise_iff_getElem.1 hpw i j hil hjl hlt) (by rw [e1, hjg, h5])
        · exact (List.pairwise_iff_getElem.1 hpw j i hjl hil hlt) (by rw [e1, hjg, h5])

/-- The block behind a store, and behind a delete: what it is hangs on the block alone. -/
theorem MapIs.putO (h : MapIs P k w b f) (K : Keyed P k) (ht : P.underlying t = some (.map k e)) {key : Value} (val : Value) {kl : Lit} (hkey : keyOf P k key = some kl) :
    ∃ o, ∀ w1 : World, w1.heap[b]? = w.heap[b]? → (Instr.mapUpdate t (.map (some b)) key val).run P w1 = .ok () (setBlock w1 b o) ∧ MapIs P k (setBlock w1 b o) b (putM f key val) := by
  obtain ⟨w', hrun, h1, h2, h3⟩ := h.put K ht val hkey
  obtain ⟨es, clock, hb, hs, hk, h4⟩ := h.has
  rcases K.find w hkey es.toList hk with ⟨q1, q2⟩ | ⟨j, e0, q1, q2, q5⟩
  · refine ⟨.map (es.push ⟨key, val, clock⟩) (clock + 1), fun w1 hw1 => ?_⟩
    have hb1 := hw1.trans hb
    have hr : (Instr.mapUpdate t (.map (some b)) key val).run P w1 = .ok () (setBlock w1 b (.map (es.push ⟨key, val, clock⟩) (clock + 1))) := by
      rcases K.find w1 hkey es.toList hk with ⟨p1, p2⟩ | ⟨i, e1, p1, p2, p5⟩
      · simp [Instr.mapUpdate, run_underlying ht, MapKept.run_getObj_map hb1, K.check w1 false hkey, p1, MapKept.run_setObj_map _ hb1, Result.andThen, setBlock]
      · exact absurd p5 (q2 e1 (List.mem_of_getElem? p2))
    refine ⟨hr, ?_⟩
    obtain ⟨w2, r2, r3, _⟩ := (h.kept hw1).put K ht val hkey
    rw [hr] at r2; cases r2; exact r3
  · refine ⟨.map (es.modify j (fun e' => { e' with key := key, val := val })) clock, fun w1 hw1 => ?_⟩
    have hb1 := hw1.trans hb
    have hj : es[j]? = some e0 := by simpa using q2
    have hr : (Instr.mapUpdate t (.map (some b)) key val).run P w1 = .ok () (setBlock w1 b (.map (es.modify j (fun e' => { e' with key := key, val := val })) clock)) := by
      rcases K.find w1 hkey es.toList hk with ⟨p1, p2⟩ | ⟨i, e1, p1, p2, p5⟩
      · exact absurd q5 (p2 e0 (List.mem_of_getElem? q2))
      · have hij : i = j := by
          have hpw := ((stamped_iff es clock).1 hs).2.2
          obtain ⟨hi, rfl⟩ := List.getElem?_eq_some_iff.1 p2
          obtain ⟨hj', rfl⟩ := List.getElem?_eq_some_iff.1 q2
          rcases Nat.lt_trichotomy i j with hlt | e | hlt
          · exact absurd (p5.trans q5.symm) (List.pairwise_iff_getElem.1 hpw i j hi hj' hlt)
          · exact e
          · exact absurd (q5.trans p5.symm) (List.pairwise_iff_getElem.1 hpw j i hj' hi hlt)
        subst hij
        rw [p2] at q2; cases q2
        simp [Instr.mapUpdate, run_underlying ht, MapKept.run_getObj_map hb1, K.check w1 false hkey, p1, hj, q5, K.stays w1 hkey, MapKept.run_setObj_map _ hb1, Result.andThen, setBlock]
    refine ⟨hr, ?_⟩
    obtain ⟨w2, r2, r3, _⟩ := (h.kept hw1).put K ht val hkey
    rw [hr] at r2; cases r2; exact r3

theorem MapIs.delO (h : MapIs P k w b f) (K : Keyed P k) (ht : P.underlying t = some (.map k e)) {key : Value} {kl : Lit} (hkey : keyOf P k key = some kl) (ty : TypeId) :
    ∃ o, ∀ w1 : World, w1.heap[b]? = w.heap[b]? → (Builtin.delete_ #[t, k] ty #[.map (some b), key]).run P w1 = .ok (.tuple #[]) (setBlock w1 b o) ∧ MapIs P k (setBlock w1 b o) b (delM f key) := by
  obtain ⟨es, clock, hb, hs, hk, h4⟩ := h.has
  rcases K.find w hkey es.toList hk with ⟨q1, q2⟩ | ⟨j, e0, q1, q2, q5⟩
  · refine ⟨.map es clock, fun w1 hw1 => ?_⟩
    have hb1 := hw1.trans hb
    have hr : (Builtin.delete_ #[t, k] ty #[.map (some b), key]).run P w1 = .ok (.tuple #[]) (setBlock w1 b (.map es clock)) := by
      rcases K.find w1 hkey es.toList hk with ⟨p1, p2⟩ | ⟨i, e1, p1, p2, p5⟩
      · simp [Builtin.delete_, run_underlying ht, MapKept.run_getObj_map hb1, K.check w1 _ hkey, p1, MapKept.run_setObj_map _ hb1, Result.andThen, setBlock]
      · exact absurd p5 (q2 e1 (List.mem_of_getElem? p2))
    refine ⟨hr, ?_⟩
    obtain ⟨w2, r2, r3, _⟩ := (h.kept hw1).del K ht hkey ty
    rw [hr] at r2; cases r2; exact r3
  · refine ⟨.map (es.eraseIdxIfInBounds j) clock, fun w1 hw1 => ?_⟩
    have hb1 := hw1.trans hb
    have hr : (Builtin.delete_ #[t, k] ty #[.map (some b), key]).run P w1 = .ok (.tuple #[]) (setBlock w1 b (.map (es.eraseIdxIfInBounds j) clock)) := by
      rcases K.find w1 hkey es.toList hk with ⟨p1, p2⟩ | ⟨i, e1, p1, p2, p5⟩
      · exact absurd q5 (p2 e0 (List.mem_of_getElem? q2))
      · have hij : i = j := by
          have hpw := ((stamped_iff es clock).1 hs).2.2
          obtain ⟨hi, rfl⟩ := List.getElem?_eq_some_iff.1 p2
          obtain ⟨hj', rfl⟩ := List.getElem?_eq_some_iff.1 q2
          rcases Nat.lt_trichotomy i j with hlt | e | hlt
          · exact absurd (p5.trans q5.symm) (List.pairwise_iff_getElem.1 hpw i j hi hj' hlt)
          · exact e
          · exact absurd (q5.trans p5.symm) (List.pairwise_iff_getElem.1 hpw j i hj' hi hlt)
        subst hij
        simp [Builtin.delete_, run_underlying ht, MapKept.run_getObj_map hb1, K.check w1 _ hkey, p1, MapKept.run_setObj_map _ hb1, Result.andThen, setBlock]
    refine ⟨hr, ?_⟩
    obtain ⟨w2, r2, r3, _⟩ := (h.kept hw1).del K ht hkey ty
    rw [hr] at r2; cases r2; exact r3

end

/-! At the operation, for the walk. -/
section
variable {P : Program} (w : World) {ops : Array Oper} {rest : List Oper} {o : Oper} {a : Act} {Q : Exit → Act → World → Prop}

theorem wpList_put_is (hg : o.guard = none) (m x v : Operand) (t : TypeId) (hop : o.op = Op.mapUpdate t m x v) (k e : TypeId) (K : Keyed P k) (ht : P.underlying t = some (.map k e)) (b : Nat) (f : Value → Value → Prop)
    (hm : a.eval m = .map (some b)) (h : MapIs P k w b f) (key val : Value) (kl : Lit) (hx : a.eval x = key) (hv : a.eval v = val) (hkey : keyOf P k key = some kl)
    (hK : ∀ w', MapIs P k w' b (putM f key val) → Md (fun j => j = b) w w' → w'.heap.size = w.heap.size → wpList P ops Q rest (a.put o.dst undef) w') : wpList P ops Q (o :: rest) a w := by
  refine wpList_plain hg fun K' hK' => ?_
  obtain ⟨w', hrun, r1, r2, r3⟩ := h.put K ht val hkey
  unfold Oper.wp
  simp [execOp, hop, hm, hx, hv, hrun, Result.andThen]
  exact hK' _ _ (hK w' r1 r2 r3)

theorem wpList_del_is (hg : o.guard = none) (m x : Operand) (t k : TypeId) (hop : o.op = Op.call { callee := Callee.builtin Builtin.delete, args := #[m, x], argTypes := #[t, k] }) (e : TypeId) (K : Keyed P k) (ht : P.underlying t = some (.map k e)) (b : Nat) (f : Value → Value → Prop)
    (hm : a.eval m = .map (some b)) (h : MapIs P k w b f) (key : Value) (kl : Lit) (hx : a.eval x = key) (hkey : keyOf P k key = some kl)
    (hK : ∀ w', MapIs P k w' b (delM f key) → Md (fun j => j = b) w w' → w'.heap.size = w.heap.size → wpList P ops Q rest (a.put o.dst (.tuple #[])) w') : wpList P ops Q (o :: rest) a w := by
  refine wpList_plain hg fun K' hK' => ?_
  obtain ⟨w', hrun, r1, r2, r3⟩ := h.del K ht hkey o.type
  unfold Oper.wp
  simp [execOp, hop, resolve, invoke, builtin, hm, hx, hrun, Result.andThen]
  exact hK' _ _ (hK w' r1 r2 r3)

theorem wpList_look_is (hg : o.guard = none) (m x : Operand) (t : TypeId) (c : Bool) (hop : o.op = Op.lookup t m x c) (k e : TypeId) (K : Keyed P k) (ht : P.underlying t = some (.map k e)) (b : Nat) (f : Value → Value → Prop)
    (hm : a.eval m = .map (some b)) (h : MapIs P k w b f) (key v : Value) (kl : Lit) (hx : a.eval x = key) (hkey : keyOf P k key = some kl) (hv : f key v)
    (hK : wpList P ops Q rest (a.put o.dst (if c then .tuple #[v, .bool true] else v)) w) : wpList P ops Q (o :: rest) a w := by
  refine wpList_plain hg fun K' hK' => ?_
  have hrun := h.look_some c K ht hkey hv
  unfold Oper.wp
  simp [execOp, hop, hm, hx, hrun, Result.andThen]
  exact hK' _ _ hK

theorem wpList_look_no (hg : o.guard = none) (m x : Operand) (t : TypeId) (c : Bool) (hop : o.op = Op.lookup t m x c) (k e : TypeId) (K : Keyed P k) (ht : P.underlying t = some (.map k e)) (z : Value) (hz : (zeroValue e).run P w = .ok z w) (b : Nat) (f : Value → Value → Prop)
    (hm : a.eval m = .map (some b)) (h : MapIs P k w b f) (key : Value) (kl : Lit) (hx : a.eval x = key) (hkey : keyOf P k key = some kl) (hv : ∀ v, ¬ f key v)
    (hK : wpList P ops Q rest (a.put o.dst (if c then .tuple #[z, .bool false] else z)) w) : wpList P ops Q (o :: rest) a w := by
  refine wpList_plain hg fun K' hK' => ?_
  have hrun := h.look_none c K ht hz hkey hv
  unfold Oper.wp
  simp [execOp, hop, hm, hx, hrun, Result.andThen]
  exact hK' _ _ hK
end
end Go.Proofs.YtbnelaoeblhndaaGreatDoor
