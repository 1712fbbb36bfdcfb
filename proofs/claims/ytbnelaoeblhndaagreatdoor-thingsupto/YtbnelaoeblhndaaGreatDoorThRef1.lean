/- A store of package rummageref in memory; the walk of its Get. -/
import Derived.Test.YtbnelaoeblhndaaGreatDoorThRead1
import Derived.Maps.AppendAt
import Derived.Deep.RegionWith
import Derived.Deep.DeepCutAuto
namespace Go.Proofs.YtbnelaoeblhndaaGreatDoor
open Go.RowKit
set_option maxRecDepth 100000

/-- A step that turns no old block but those of F. -/
structure Md (F : Nat → Prop) (w w' : World) : Prop where
  below : Below 0 w w'
  only : ∀ k, k < w.heap.size → ¬ F k → w'.heap[k]? = w.heap[k]?

section
variable {F : Nat → Prop} {a b c w w' : World}
theorem Md.refl (F : Nat → Prop) (w : World) : Md F w w := ⟨Below.refl _ _, fun _ _ _ => rfl⟩
theorem Md.trans (h : Md F a b) (k : Md F b c) : Md F a c := ⟨h.below.trans k.below, fun i hi hf => (k.only i (Nat.lt_of_lt_of_le hi h.below.size) hf).trans (h.only i hi hf)⟩
theorem Md.ofBelow (h : Below w.heap.size w w') : Md F w w' := ⟨h.mono (Nat.zero_le _), fun k hk _ => h.block k hk⟩
theorem Md.alloc (h : Md F a w) (o : Obj) : Md F a (w.alloc o) := h.trans (Md.ofBelow ((Below.refl _ _).alloc (Nat.le_refl _) o))
theorem Md.drew (h : Md F a w) : Md F a w.drew := ⟨h.below.drew, h.only⟩
theorem Md.set (h : Md F a w) {n i : Nat} (u : Value) (hn : F n ∨ a.heap.size ≤ n) : Md F a (w.setCell ⟨n, i, none⟩ u) :=
  ⟨h.below.setCell (p := ⟨n, i, none⟩) (Nat.zero_le _) u, fun k hk hf => (Below.heap_setCell _ _ _ _ (by rintro rfl; rcases hn with hn | hn; exact hf hn; omega)).trans (h.only k hk hf)⟩
theorem Md.grown {row : Option Nat} (h : Md F a w) (hg : w.grownBy w' row) (hr : ∀ k, row = some k → F k ∨ a.heap.size ≤ k) : Md F a w' :=
  ⟨h.below.grown hg (Nat.zero_le _) (fun _ _ => Nat.zero_le _), fun k hk hf => (hg.block k (Nat.lt_of_lt_of_le hk h.below.size) (fun e => by rcases hr k e.symm with h1 | h1; exact hf h1; omega)).trans (h.only k hk hf)⟩
theorem Md.blk (h : Md F w w') {k : Nat} {o : Obj} (hk : w.heap[k]? = some o) (hf : ¬ F k) : w'.heap[k]? = some o := (h.only k (lt_block hk) hf).trans hk
theorem Md.mono {G : Nat → Prop} (h : Md F a w) (hg : ∀ k, F k → G k) : Md G a w := ⟨h.below, fun k hk hf => h.only k hk (fun h => hf (hg k h))⟩
theorem Md.size (h : Md F a w) : a.heap.size ≤ w.heap.size := h.below.size
end

theorem rowSl {w : World} {m e size n : Nat} {v : Value} {cs : List Value} (h : w.ownsRow m e size v n cs) : Sl w v n cs := by
  obtain ⟨hl, h2⟩ := h
  rcases h2 with ⟨rfl, rfl⟩ | ⟨g, cap, cur, rfl, hg, hh, hn, hm, hz, ht⟩
  · exact ⟨.inl ⟨rfl, _, _, rfl⟩⟩
  · by_cases h0 : n = 0
    · subst h0; exact ⟨.inl ⟨rfl, _, _, rfl⟩⟩
    · refine ⟨.inr ⟨by omega, g, 0, cap, rfl, hn, lt_block hh, fun j u hj => ?_⟩⟩
      have hlen : j < cs.length := by
        rw [List.getElem?_eq_some_iff] at hj; exact hj.1
      have h3 : cur[j]? = some u := by
        rw [← ht, List.getElem?_take, if_pos (by omega), Array.getElem?_toList] at hj
        exact hj
      rw [Nat.zero_add]
      exact blk_cell hh j u h3

theorem set_blk' {w : World} {n : Nat} {cs : Array Value} {T : TypeId} {fr : Nat × Nat} (h : w.heap[n]? = some (.cells cs T fr)) (i : Nat) (u : Value) : (w.setCell ⟨n, i, none⟩ u).heap[n]? = some (.cells (cs.setIfInBounds i u) T fr) := by
  simp [World.setCell, Array.getElem?_modify, h]

theorem rowKept {w w' : World} {m e size n : Nat} {v : Value} {cs : List Value} (h : w.ownsRow m e size v n cs) (hk : ∀ k o, v.ownBlock = some k → w.heap[k]? = some o → w'.heap[k]? = some o) : w'.ownsRow m e size v n cs := by
  obtain ⟨h1, h2⟩ := h
  refine ⟨h1, ?_⟩
  rcases h2 with h2 | ⟨g, cap, cur, hv, hg, hh, r⟩
  · exact .inl h2
  · exact .inr ⟨g, cap, cur, hv, hg, hk g _ (by rw [hv]; rfl) hh, r⟩

/-- A store of the document's answer: where its fields, things, spots and values lie, F the blocks that are its own. -/
structure RefAt (w : World) (F : Nat → Prop) (sb : Nat) (fs : List Doc.Fld) (space : Int) (ts : List Doc.Thg) (fv tv : Value) (ps : List (Value × Value)) : Prop where
  blk : w.heap[sb]? = some (.cells #[fv, .int .i64 space, tv] 193 (0, 0))
  fld : w.ownsRow 0 92 2 fv fs.length (fldsC fs)
  thg : w.ownsRow 0 237 3 tv ts.length (thsC ts ps)
  len : ts.length = ps.length
  each : ∀ i (h : i < ts.length) (h' : i < ps.length), w.ownsRow 0 3 1 ps[i].1 ts[i].spot.length (intC ts[i].spot) ∧ w.ownsRow 0 94 3 ps[i].2 ts[i].vals.length (valsC ts[i].vals)
  inS : F sb
  inF : ∀ k, fv.ownBlock = some k → F k
  inT : ∀ k, tv.ownBlock = some k → F k
  inE : ∀ i (h : i < ps.length) k, ps[i].1.ownBlock = some k ∨ ps[i].2.ownBlock = some k → F k

def RefSt (w : World) (F : Nat → Prop) (sb : Nat) (fs : List Doc.Fld) (space : Int) (ts : List Doc.Thg) : Prop := ∃ fv tv ps, RefAt w F sb fs space ts fv tv ps

section
variable {w : World} {F : Nat → Prop} {sb : Nat} {fs : List Doc.Fld} {space : Int} {ts : List Doc.Thg} {fv tv : Value} {ps : List (Value × Value)}

theorem ownLt {w : World} {m e size n : Nat} {v : Value} {cs : List Value} (h : w.ownsRow m e size v n cs) {k : Nat} (hk : v.ownBlock = some k) : k < w.heap.size := by
  obtain ⟨_, h2⟩ := h
  rcases h2 with ⟨rfl, _⟩ | ⟨g, cap, cur, rfl, _, hh, _⟩
  · cases hk
  · cases hk; exact lt_block hh

theorem RefAt.kept {w' : World} {F' : Nat → Prop} (h : RefAt w F sb fs space ts fv tv ps) (hk : ∀ k o, F k → w.heap[k]? = some o → w'.heap[k]? = some o) (hF : ∀ k, F k → k < w.heap.size → F' k) : RefAt w' F' sb fs space ts fv tv ps := by
  refine ⟨hk _ _ h.inS h.blk, rowKept h.fld (fun k o e => hk k o (h.inF k e)), rowKept h.thg (fun k o e => hk k o (h.inT k e)), h.len, fun i hi hi' => ?_, hF _ h.inS (lt_block h.blk), fun k e => hF k (h.inF k e) (ownLt h.fld e), fun k e => hF k (h.inT k e) (ownLt h.thg e), fun i hi k e => ?_⟩
  · obtain ⟨h1, h2⟩ := h.each i hi hi'
    exact ⟨rowKept h1 (fun k o e => hk k o (h.inE i hi' k (.inl e))), rowKept h2 (fun k o e => hk k o (h.inE i hi' k (.inr e)))⟩
  · obtain ⟨h1, h2⟩ := h.each i (by rw [h.len]; exact hi) hi
    refine hF k (h.inE i hi k e) ?_
    rcases e with e | e
    · exact ownLt h1 e
    · exact ownLt h2 e

theorem RefSt.kept {w' : World} {F' : Nat → Prop} (h : RefSt w F sb fs space ts) (hk : ∀ k o, F k → w.heap[k]? = some o → w'.heap[k]? = some o) (hF : ∀ k, F k → k < w.heap.size → F' k) : RefSt w' F' sb fs space ts := by
  obtain ⟨fv, tv, ps, h⟩ := h
  exact ⟨fv, tv, ps, h.kept hk hF⟩

theorem st_cells {w : World} {b : Nat} {c0 c1 c2 : Value} {T : TypeId} (h : w.heap[b]? = some (.cells #[c0, c1, c2] T (0, 0))) :
    w.cell? ⟨b, 0, none⟩ = some c0 ∧ w.cell? ⟨b, 1, none⟩ = some c1 ∧ w.cell? ⟨b, 2, none⟩ = some c2 :=
  ⟨blk_cell h 0 _ rfl, blk_cell h 1 _ rfl, blk_cell h 2 _ rfl⟩

theorem rget_none (h : RefAt w F sb fs space ts fv tv ps) (hl : ts.length ≤ 9223372036854775807) (id : Int) (hn : Doc.idxT ts id = none) :
    Calls Tryz.prog 97 #[.pointer (some ⟨sb, 0, none⟩), .int .i64 id] w fun e w' => e = .returned (.tuple #[.slice none 0 0, .slice none 0 0, .int .i64 4]) ∧ w' = w := by
  obtain ⟨c0, c1, c2⟩ := st_cells h.blk
  have HC : Hid _ := at_any sb tv c2 ts ps h.len hl (rowSl h.thg) id
  have HN : Hid (Doc.idxT ts id = none) := hn
  clear hn
  go_enter Tryz.func97, Tryz.ntmps97
  go_wp2_with fail
  refine Calls.mono HC.out ?_
  rw [HN.out]
  rintro e w1 ⟨rfl, hw⟩
  subst hw
  simp only [Doc.placeI]
  go_wp2_with fail
  go_ret3
  exact ⟨rfl, rfl⟩

set_option maxHeartbeats 2000000 in
theorem rget_some (h : RefAt w F sb fs space ts fv tv ps) (hl : ts.length ≤ 9223372036854775807) (id : Int) (k : Nat) (hn : Doc.idxT ts id = some k) (hk : k < ts.length) (hk' : k < ps.length) :
    Calls Tryz.prog 97 #[.pointer (some ⟨sb, 0, none⟩), .int .i64 id] w fun e w' => e = .returned (.tuple #[ps[k].1, ps[k].2, .int .i64 0]) ∧ Below w.heap.size w w' := by
  obtain ⟨c0, c1, c2⟩ := st_cells h.blk
  have HC : Hid _ := at_any sb tv c2 ts ps h.len hl (rowSl h.thg) id
  have HN : Hid (Doc.idxT ts id = some k) := hn
  rcases (rowSl h.thg).has with ⟨h0, _⟩ | ⟨h0, b, off, cap, rfl, hc, hlt, hr⟩
  · omega
  have r1 := hr (k * 3 + 1) ps[k].1 (by rw [thsC_at ts ps h.len k hk hk' 1 (by omega)]; rfl)
  have r2 := hr (k * 3 + 2) ps[k].2 (by rw [thsC_at ts ps h.len k hk hk' 2 (by omega)]; rfl)
  obtain ⟨e1, e2⟩ := h.each k hk hk'
  obtain ⟨b1, n1, m1, f1⟩ : ∃ b n c, ps[k].1 = .slice b n c := by
    rcases (rowSl e1).has with ⟨_, a, c, e⟩ | ⟨_, b, o, c, e, _⟩ <;> exact ⟨_, _, _, e⟩
  obtain ⟨b2, n2, m2, f2⟩ : ∃ b n c, ps[k].2 = .slice b n c := by
    rcases (rowSl e2).has with ⟨_, a, c, e⟩ | ⟨_, b, o, c, e, _⟩ <;> exact ⟨_, _, _, e⟩
  rw [f1, ← Nat.add_assoc] at r1
  rw [f2, ← Nat.add_assoc] at r2
  rw [f1, f2]
  clear hn hr e1 e2 f1 f2
  go_enter Tryz.func97, Tryz.ntmps97
  go_wp2_with fail
  refine Calls.mono HC.out ?_
  rw [HN.out]
  rintro e w1 ⟨rfl, hw⟩
  subst hw
  simp only [Doc.placeI]
  clear HC
  go_wp2_with fail
  go_region
  all_goals
    go_wp2_with fail
    go_ret3
    exact ⟨rfl, (Below.refl _ _).drew⟩
end
end Go.Proofs.YtbnelaoeblhndaaGreatDoor
