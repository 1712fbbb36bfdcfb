/- The walks of a shelf's Get, Put and of shelf.New. -/
import Derived.Test.YtbnelaoeblhndaaGreatDoorThCopied
import Derived.Test.YtbnelaoeblhndaaGreatDoorThSet3
namespace Go.Proofs.YtbnelaoeblhndaaGreatDoor
open Go.RowKit
open Go.Maps (Keyed)
set_option maxRecDepth 100000

section
variable {w w' : World} {F : Nat → Prop} {hb mt mh : Nat} {th : Has} {pos : Int → Value × Value}

theorem sget_none (h : ShelfAt w F hb th mt mh pos) (id : Int) (h0 : -9223372036854775808 ≤ id) (h1 : id ≤ 9223372036854775807) (hn : th id = none) :
    Calls Tryz.prog 47 #[.pointer (some ⟨hb, 0, none⟩), .int .i64 id] w fun e w' => e = .returned (.tuple #[.agg #[.slice none 0 0, .slice none 0 0], .bool false]) ∧ Below w.heap.size w w' := by
  have c0 : w.cell? ⟨hb, 0, none⟩ = some (.map (some mt)) := blk_cell h.blk 0 _ rfl
  have hlt := h.lt
  obtain ⟨zt, hzt, HZT⟩ : ∃ zt, (∀ w, (zeroValue 104).run Tryz.prog w = .ok (.agg zt) w) ∧ Hid (zt = #[.slice none 0 0, .slice none 0 0]) := ⟨_, Tryz.zeroValue104, rfl⟩
  have hal : ∀ o, (w.alloc o).heap[mt]? = w.heap[mt]? := fun o => Below.heap_alloc _ _ _ h.thg.lt
  have hlk := fun o => (h.thg.kept (hal o)).look_none true intKeyed Tryz.underlying149 (hzt _) (int_key h0 h1) (fun v hv => by
    obtain ⟨i, t, ht, e, _⟩ := hv
    simp at e; subst e
    rw [hn] at ht; cases ht)
  rw [HZT.out] at hlk
  simp only [if_true] at hlk
  clear hzt hal
  go_enter Tryz.func47, Tryz.ntmps47
  go_wp2_with fail
  refine bodyPost_ret (v := .tuple #[.agg #[.slice none 0 0, .slice none 0 0], .bool false]) (by simp [results, Tryz.results47, go_sem]) rfl ⟨rfl, ?_⟩
  exact ((Below.refl _ _).alloc (Nat.le_refl _) _).alloc (by simp) _

set_option maxHeartbeats 1000000 in
theorem sget_some (h : ShelfAt w F hb th mt mh pos) (id : Int) (t : List Int × List Doc.Val) (hn : th id = some t) :
    Calls Tryz.prog 47 #[.pointer (some ⟨hb, 0, none⟩), .int .i64 id] w fun e w' => ∃ v1 v2, e = .returned (.tuple #[.agg #[v1, v2], .bool true]) ∧ w'.ownsRow w.heap.size 3 1 v1 t.1.length (intC t.1) ∧ w'.ownsRow w.heap.size 94 3 v2 t.2.length (valsC t.2) ∧ Below w.heap.size w w' := by
  have c0 : w.cell? ⟨hb, 0, none⟩ = some (.map (some mt)) := blk_cell h.blk 0 _ rfl
  have hlt := h.lt
  obtain ⟨g0, g1, g4, g2, g3⟩ := h.rng id t hn
  obtain ⟨r1, r2⟩ := h.each id t hn
  have hlk : ∀ o, (Instr.lookup 149 (.map (some mt)) (.int .i64 id) true).run Tryz.prog (w.alloc o) = .ok (.tuple #[.agg #[(pos id).1, (pos id).2], .bool true]) (w.alloc o) := fun o =>
    (h.thg.kept (Below.heap_alloc _ _ _ h.thg.lt)).look_some true intKeyed Tryz.underlying149 (int_key (by omega) (by omega)) ⟨id, t, hn, rfl, rfl⟩
  obtain ⟨b1, m1, e1⟩ := row_slice r1
  obtain ⟨b2, m2, e2⟩ := row_slice r2
  rw [e1, e2] at hlk
  have s1 := rowSl r1
  have s2 := rowSl r2
  rw [e1] at s1
  rw [e2] at s2
  have HC : Hid (∀ W, Below w.heap.size w W → Calls Tryz.prog 68 #[.agg #[.slice b1 t.1.length m1, .slice b2 t.2.length m2]] W fun e w' => ∃ v1 v2, e = .returned (.agg #[v1, v2]) ∧ w'.ownsRow W.heap.size 3 1 v1 t.1.length (intC t.1) ∧ w'.ownsRow W.heap.size 94 3 v2 t.2.length (valsC t.2) ∧ Below W.heap.size W w') :=
    fun W hW => copied_any _ _ t.1 t.2 (s1.below hW) (s2.below hW) (by omega) (by omega) (fun x hx => (g3 x hx).2.2.2)
  clear s1 s2 r1 r2
  go_enter Tryz.func47, Tryz.ntmps47
  go_wp2_with fail
  have hbw : Below w.heap.size w ((w.alloc (.cells #[.slice none 0 0, .slice none 0 0] 104)).alloc (.cells #[.slice b1 t.1.length m1, .slice b2 t.2.length m2] 104)) := ((Below.refl _ _).alloc (Nat.le_refl _) _).alloc (by simp) _
  refine (HC.out _ hbw).mono ?_
  rintro e w3 ⟨v1, v2, rfl, r1, r2, hb3⟩
  obtain ⟨b3, m3, rfl⟩ := row_slice r1
  obtain ⟨b4, m4, rfl⟩ := row_slice r2
  have q3 := (hb3.block w.heap.size (by simp; omega)).trans (heap_alloc2_old w _ _)
  have y0 := blk_cell q3 0 _ rfl
  have y1 := blk_cell q3 1 _ rfl
  have y2 := blk_free q3 0
  have y3 := blk_free q3 1
  have y4 := lt_block q3
  have R1 : Hid _ := r1
  have R2 : Hid _ := r2
  have HB3 : Hid _ := hb3
  have HBW : Hid _ := hbw
  clear r1 r2 hb3 hbw
  go_wp2_with fail
  obtain ⟨p1, p2, p3⟩ := pair_set q3 R1.out R2.out (by decide) (by decide)
  have z0 := blk_cell p1 0 _ rfl
  have z1 := blk_cell p1 1 _ rfl
  refine bodyPost_ret (v := .tuple #[.agg #[.slice b3 t.1.length m3, .slice b4 t.2.length m4], .bool true]) (by simp [results, Tryz.results47, go_sem, z0, z1]) rfl ⟨_, _, rfl, own_less p2 (by simp; omega), own_less p3 (by simp; omega), ?_⟩
  exact Below.setCell (Below.setCell (Below.callB HBW.out (Nat.le_refl _) HB3.out) (Nat.le_refl _) _) (Nat.le_refl _) _

theorem cell_cells {b i : Nat} {u : Value} (h : w.cell? ⟨b, i, none⟩ = some u) : ∃ (cu : Array Value) (T : TypeId) (fr : Nat × Nat), w.heap[b]? = some (.cells cu T fr) := by
  cases hq : w.heap[b]? with
  | none => simp [World.cell?, hq] at h
  | some o =>
    cases o with
    | cells cu T fr => exact ⟨cu, T, fr, rfl⟩
    | _ => simp [World.cell?, hq] at h

/-- What stands in a slice stays where only maps are written. -/
theorem Sl.maps {sv : Value} {n : Nat} {cs : List Value} (h : Sl w sv n cs) (hcs : 0 < n → cs ≠ []) (hs : w.heap.size ≤ w'.heap.size) (hk : ∀ (k : Nat) (cu : Array Value) (T : TypeId) (fr : Nat × Nat), w.heap[k]? = some (.cells cu T fr) → w'.heap[k]? = w.heap[k]?) : Sl w' sv n cs := by
  rcases h.has with h | ⟨h0, b, off, cap, rfl, hc, hl, hr⟩
  · exact ⟨.inl h⟩
  · have hb : w'.heap[b]? = w.heap[b]? := by
      obtain ⟨c, r, rfl⟩ := List.exists_cons_of_ne_nil (hcs h0)
      obtain ⟨cu, T, fr, hq⟩ := cell_cells (hr 0 c rfl)
      exact hk b cu T fr hq
    exact ⟨.inr ⟨h0, b, off, cap, rfl, hc, Nat.lt_of_lt_of_le hl hs, fun j u hj => by have := hr j u hj; unfold World.cell? at this ⊢; simp only [hb]; exact this⟩⟩

theorem drop_none {th : Has} {id : Int} (h : th id = none) : dropT th id = th := by
  funext i
  by_cases e : i = id
  · subst e; simp [dropT, h]
  · simp [dropT, e]

theorem sdrop_any (h : ShelfAt w F hb th mt mh pos) (id : Nat) (hid : id < 4096) :
    Calls Tryz.prog 41 #[.pointer (some ⟨hb, 0, none⟩), .int .i64 id] w fun e w' => e = .returned (.bool (th id).isSome) ∧ ShelfAt w' F hb (dropT th id) mt mh pos ∧ Md (fun j => j = mt ∨ j = mh) w w' := by
  cases hn : th (id : Int) with
  | none =>
    refine (sdrop_none h id (by omega) (by omega) hn).mono ?_
    rintro e w' ⟨rfl, hb'⟩
    refine ⟨rfl, ?_, Md.ofBelow hb'⟩
    rw [drop_none hn]
    exact h.kept (fun k _ hk => hb'.block k hk) (fun k hk _ => hk)
  | some t => exact sdrop_some h id t hn
end
end Go.Proofs.YtbnelaoeblhndaaGreatDoor
