/- What the statement keeps: stores in pairs, lists that came out. -/
import Derived.Test.YtbnelaoeblhndaaGreatDoorThKept
import Derived.Test.YtbnelaoeblhndaaGreatDoorThStill2
import Derived.Test.YtbnelaoeblhndaaGreatDoorThRef5
namespace Go.Proofs.YtbnelaoeblhndaaGreatDoor
open Go.RowKit
set_option maxRecDepth 100000

/-- A pair of stores: where they lie, and what they are. -/
structure Pr where
  xb : Nat
  yb : Nat
  fs : List Doc.Fld
  space : Int
  ts : List Doc.Thg

def prC (p : Pr) : List Value := [.pointer (some ⟨p.xb, 0, none⟩), .pointer (some ⟨p.yb, 0, none⟩)]
def prsC (ps : List Pr) : List Value := ps.flatMap prC
/-- The things of a list by their numbers. -/
def hasOf (ts : List Doc.Thg) : Has := fun id => (ts.find? (fun t => t.id == id)).map (fun t => (t.spot, t.vals))
/-- No number twice. -/
def Uniq (ts : List Doc.Thg) : Prop := ts.Pairwise (fun a b => a.id ≠ b.id)
/-- The blocks of one colour. -/
def Cl (B N : Nat) (own : Nat → Nat) (c : Nat) : Nat → Prop := fun k => B ≤ k ∧ k < N ∧ own k = c

structure LawAt (B : Nat) (w : World) (own : Nat → Nat) (wb : Nat) (ps : List Pr) (lv nsv knv vsv kvv : Value) (rows : List Value) (marks : List Int) (vrows : List Value) (vmarks : List Int) : Prop where
  blk : w.heap[wb]? = some (worldO lv nsv knv vsv kvv (.slice none 0 0) (.slice none 0 0))
  wbc : Cl B w.heap.size own 0 wb
  prs : w.ownsRow 0 140 2 lv ps.length (prsC ps)
  prc : ∀ k, lv.ownBlock = some k → Cl B w.heap.size own 0 k
  bkn : BookN w (Cl B w.heap.size own 1) nsv knv rows marks
  bkv : BookV w (Cl B w.heap.size own 2) vsv kvv vrows vmarks
  sts : ∀ i (h : i < ps.length), ProgSt w (Cl B w.heap.size own (2 * i + 3)) ps[i].xb ps[i].fs ps[i].space (hasOf ps[i].ts) ∧ RefSt w (Cl B w.heap.size own (2 * i + 4)) ps[i].yb ps[i].fs ps[i].space ps[i].ts ∧ Uniq ps[i].ts

def LawSt (B : Nat) (w : World) (wb n g : Nat) : Prop := ∃ own ps lv nsv knv vsv kvv rows marks vrows vmarks, LawAt B w own wb ps lv nsv knv vsv kvv rows marks vrows vmarks ∧ ps.length = n ∧ rows.length = 4 * g ∧ vrows.length = 4 * g

theorem BookN.kept {w w' : World} {F F' : Nat → Prop} {nsv knv : Value} {rows : List Value} {marks : List Int} (h : BookN w F nsv knv rows marks) (hk : ∀ k, F k → k < w.heap.size → w'.heap[k]? = w.heap[k]?) (hF : ∀ k, F k → k < w.heap.size → F' k) : BookN w' F' nsv knv rows marks := by
  refine ⟨rowKept h.ns (fun k _ e ho => (hk k (h.inN k e) (ownLt h.ns e)).trans ho), rowKept h.kn (fun k _ e ho => (hk k (h.inK k e) (ownLt h.kn e)).trans ho), h.len, fun i h1 h2 => ?_, fun k e => hF k (h.inN k e) (ownLt h.ns e), fun k e => hF k (h.inK k e) (ownLt h.kn e)⟩
  obtain ⟨n, r, hr⟩ := h.each i h1 h2
  exact ⟨n, rowKept r (fun k _ e ho => (hk k (hr k e).1 (ownLt r e)).trans ho), fun k e => ⟨hF k (hr k e).1 (ownLt r e), (hr k e).2⟩⟩
theorem BookV.kept {w w' : World} {F F' : Nat → Prop} {nsv knv : Value} {rows : List Value} {marks : List Int} (h : BookV w F nsv knv rows marks) (hk : ∀ k, F k → k < w.heap.size → w'.heap[k]? = w.heap[k]?) (hF : ∀ k, F k → k < w.heap.size → F' k) : BookV w' F' nsv knv rows marks := by
  refine ⟨rowKept h.ns (fun k _ e ho => (hk k (h.inN k e) (ownLt h.ns e)).trans ho), rowKept h.kn (fun k _ e ho => (hk k (h.inK k e) (ownLt h.kn e)).trans ho), h.len, fun i h1 h2 => ?_, fun k e => hF k (h.inN k e) (ownLt h.ns e), fun k e => hF k (h.inK k e) (ownLt h.kn e)⟩
  obtain ⟨n, r, hr⟩ := h.each i h1 h2
  exact ⟨n, rowKept r (fun k _ e ho => (hk k (hr k e).1 (ownLt r e)).trans ho), fun k e => ⟨hF k (hr k e).1 (ownLt r e), (hr k e).2⟩⟩
theorem RefSt.kept' {w w' : World} {F F' : Nat → Prop} {sb : Nat} {fs : List Doc.Fld} {space : Int} {ts : List Doc.Thg} (h : RefSt w F sb fs space ts) (hk : ∀ k, F k → k < w.heap.size → w'.heap[k]? = w.heap[k]?) (hF : ∀ k, F k → k < w.heap.size → F' k) : RefSt w' F' sb fs space ts :=
  h.kept (fun k _ hf ho => (hk k hf (lt_block ho)).trans ho) hF

theorem pig : ∀ (n : Nat) (l : List Nat), l.Nodup → (∀ x ∈ l, x < n) → l.length ≤ n := by
  intro n
  induction n with
  | zero =>
    intro l _ h
    cases l with
    | nil => simp
    | cons a r => exact absurd (h a (by simp)) (by omega)
  | succ n ih =>
    intro l hn h
    have h1 := ih (l.erase n) (hn.erase n) (fun x hx => by
      have := (hn.mem_erase_iff).1 hx
      have := h x this.2
      omega)
    have h2 : l.length ≤ (l.erase n).length + 1 := by
      rw [List.length_erase]; split <;> omega
    omega

theorem uniq_len {ts : List Doc.Thg} (hu : Uniq ts) (hr : ∀ t ∈ ts, 0 ≤ t.id ∧ t.id ≤ 4095) : ts.length ≤ 4096 := by
  have := pig 4096 (ts.map (fun t => t.id.toNat)) (by
    rw [List.Nodup, List.pairwise_map]
    refine List.Pairwise.imp_of_mem ?_ hu
    intro a b ha hb h e
    have h1 := hr a ha
    have h2 := hr b hb
    exact h (by omega)) (by
    intro x hx
    obtain ⟨t, ht, rfl⟩ := List.mem_map.1 hx
    have := hr t ht
    omega)
  simpa using this

theorem has_none {ts : List Doc.Thg} {id : Int} (h : Doc.idxT ts id = none) : hasOf ts id = none := by
  unfold hasOf
  unfold Doc.idxT at h
  rw [List.findIdx?_eq_none_iff] at h
  rw [List.find?_eq_none.2 (fun t ht => by simpa using h t ht)]; rfl
theorem has_some {ts : List Doc.Thg} {id : Int} {k : Nat} (h : Doc.idxT ts id = some k) : ∃ (hk : k < ts.length), ts[k].id = id ∧ hasOf ts id = some (ts[k].spot, ts[k].vals) := by
  unfold Doc.idxT at h
  obtain ⟨hk, h1, h2⟩ := List.findIdx?_eq_some_iff_getElem.1 h
  refine ⟨hk, by simpa using h1, ?_⟩
  unfold hasOf
  have : ts.find? (fun t => t.id == id) = some ts[k] := List.find?_eq_some_iff_getElem.2 ⟨h1, k, hk, rfl, fun j hj => by simpa using h2 j hj⟩
  rw [this]; rfl
theorem has_mem {ts : List Doc.Thg} (hu : Uniq ts) {t : Doc.Thg} (ht : t ∈ ts) : hasOf ts t.id = some (t.spot, t.vals) := by
  unfold hasOf
  obtain ⟨k, hk, rfl⟩ := List.getElem_of_mem ht
  have : ts.find? (fun t => t.id == ts[k].id) = some ts[k] := List.find?_eq_some_iff_getElem.2 ⟨by simp, k, hk, rfl, fun j hj => by
    have := List.pairwise_iff_getElem.1 hu j k (by omega) hk hj
    simpa using this⟩
  rw [this]; rfl
/-- Which thing has a number: of a list without doubles. -/
theorem has_iff {ts : List Doc.Thg} (hu : Uniq ts) (id : Int) (p : List Int × List Doc.Val) : hasOf ts id = some p ↔ ∃ t ∈ ts, t.id = id ∧ p = (t.spot, t.vals) := by
  constructor
  · intro h
    unfold hasOf at h
    cases hf : ts.find? (fun t => t.id == id) with
    | none => rw [hf] at h; cases h
    | some t =>
      rw [hf] at h
      cases h
      exact ⟨t, List.mem_of_find?_eq_some hf, by simpa using List.find?_some hf, rfl⟩
  · rintro ⟨t, ht, rfl, rfl⟩
    exact has_mem hu ht
theorem uniq_put {ts : List Doc.Thg} (hu : Uniq ts) (t : Doc.Thg) : Uniq (Doc.putT ts t) := by
  unfold Doc.putT
  cases hi : Doc.idxT ts t.id with
  | none =>
    unfold Doc.idxT at hi
    rw [List.findIdx?_eq_none_iff] at hi
    refine List.pairwise_append.2 ⟨hu, by simp, fun a ha b hb => ?_⟩
    rw [List.mem_singleton.1 hb]
    simpa using hi a ha
  | some k =>
    obtain ⟨hk, h1, _⟩ := has_some hi
    show (ts.set k t).Pairwise _
    rw [List.pairwise_iff_getElem]
    intro i j hi' hj' hij
    have hi2 : i < ts.length := by simpa using hi'
    have hj2 : j < ts.length := by simpa using hj'
    have base := fun a b (ha : a < ts.length) (hb : b < ts.length) (hab : a < b) => List.pairwise_iff_getElem.1 hu a b ha hb hab
    rw [List.getElem_set, List.getElem_set]
    split
    · rename_i e; subst e
      rw [if_neg (by omega), ← h1]
      exact base _ _ hi2 hj2 hij
    · split
      · rename_i e; subst e
        rw [← h1]
        exact base _ _ hi2 hj2 hij
      · exact base _ _ hi2 hj2 hij
theorem has_put {ts : List Doc.Thg} (hu : Uniq ts) (t : Doc.Thg) : hasOf (Doc.putT ts t) = putT (hasOf ts) t.id (t.spot, t.vals) := by
  funext id
  have hu2 := uniq_put hu t
  have mem : ∀ s, s ∈ Doc.putT ts t ↔ s = t ∨ (s ∈ ts ∧ s.id ≠ t.id) := by
    intro s
    unfold Doc.putT
    cases hi : Doc.idxT ts t.id with
    | none =>
      unfold Doc.idxT at hi
      rw [List.findIdx?_eq_none_iff] at hi
      simp only [List.mem_append, List.mem_singleton]
      constructor
      · rintro (h | h)
        · exact .inr ⟨h, by simpa using hi s h⟩
        · exact .inl h
      · rintro (h | h)
        · exact .inr h
        · exact .inl h.1
    | some k =>
      obtain ⟨hk, h1, _⟩ := has_some hi
      show s ∈ ts.set k t ↔ _
      rw [List.mem_iff_getElem]
      constructor
      · rintro ⟨j, hj, rfl⟩
        have hj2 : j < ts.length := by simpa using hj
        rw [List.getElem_set]
        split
        · exact .inl rfl
        · rename_i e
          refine .inr ⟨List.getElem_mem hj2, ?_⟩
          rw [← h1]
          rcases Nat.lt_or_gt_of_ne e with hlt | hlt
          · exact (List.pairwise_iff_getElem.1 hu k j hk hj2 hlt).symm
          · exact List.pairwise_iff_getElem.1 hu j k hj2 hk hlt
      · rintro (rfl | ⟨h2, h3⟩)
        · exact ⟨k, by simpa using hk, by simp⟩
        · obtain ⟨j, hj, rfl⟩ := List.getElem_of_mem h2
          have : k ≠ j := by rintro rfl; exact h3 h1
          exact ⟨j, by simpa using hj, by rw [List.getElem_set_ne this]⟩
  apply Option.ext
  intro p
  rw [has_iff hu2]
  unfold putT
  by_cases e : id = t.id
  · subst e
    rw [if_pos rfl]
    constructor
    · rintro ⟨s, hs, h1, rfl⟩
      rcases (mem s).1 hs with rfl | ⟨_, h⟩
      · rfl
      · exact absurd h1 h
    · intro h; cases h; exact ⟨t, (mem t).2 (.inl rfl), rfl, rfl⟩
  · rw [if_neg e, has_iff hu]
    constructor
    · rintro ⟨s, hs, h1, rfl⟩
      rcases (mem s).1 hs with rfl | ⟨h2, _⟩
      · exact absurd h1.symm e
      · exact ⟨s, h2, h1, rfl⟩
    · rintro ⟨s, hs, h1, rfl⟩
      exact ⟨s, (mem s).2 (.inr ⟨hs, by rw [h1]; exact e⟩), h1, rfl⟩
theorem uniq_drop {ts : List Doc.Thg} (hu : Uniq ts) (k : Nat) : Uniq (ts.eraseIdx k) := List.Pairwise.sublist (List.eraseIdx_sublist _ _) hu
theorem has_drop {ts : List Doc.Thg} (hu : Uniq ts) {id : Int} {k : Nat} (h : Doc.idxT ts id = some k) : hasOf (ts.eraseIdx k) = dropT (hasOf ts) id := by
  obtain ⟨hk, h1, _⟩ := has_some h
  funext i
  apply Option.ext
  intro p
  rw [has_iff (uniq_drop hu k)]
  unfold dropT
  by_cases e : i = id
  · subst e
    rw [if_pos rfl]
    constructor
    · rintro ⟨s, hs, h2, rfl⟩
      exfalso
      obtain ⟨j, hjk, hj⟩ := List.mem_eraseIdx_iff_getElem?.1 hs
      obtain ⟨hjl, rfl⟩ := List.getElem?_eq_some_iff.1 hj
      rcases Nat.lt_or_gt_of_ne hjk with hlt | hlt
      · exact List.pairwise_iff_getElem.1 hu j k hjl hk hlt (h2.trans h1.symm)
      · exact List.pairwise_iff_getElem.1 hu k j hk hjl hlt (h1.trans h2.symm)
    · intro h; cases h
  · rw [if_neg e, has_iff hu]
    constructor
    · rintro ⟨s, hs, h2, rfl⟩
      exact ⟨s, (List.eraseIdx_sublist _ _).subset hs, h2, rfl⟩
    · rintro ⟨s, hs, h2, rfl⟩
      obtain ⟨j, hj, rfl⟩ := List.getElem_of_mem hs
      have : j ≠ k := by rintro rfl; exact e (h2.symm.trans h1)
      exact ⟨_, List.mem_eraseIdx_iff_getElem?.2 ⟨j, this, List.getElem?_eq_getElem hj⟩, h2, rfl⟩
end Go.Proofs.YtbnelaoeblhndaaGreatDoor
