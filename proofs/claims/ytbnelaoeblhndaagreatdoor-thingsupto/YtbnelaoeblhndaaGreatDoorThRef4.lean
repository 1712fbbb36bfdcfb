/- The walk of Drop of package rummageref. -/
import Derived.Test.YtbnelaoeblhndaaGreatDoorThRef3
namespace Go.Proofs.YtbnelaoeblhndaaGreatDoor
open Go.RowKit
set_option maxRecDepth 100000

theorem thsC_erase : ∀ (ts : List Doc.Thg) (ps : List (Value × Value)) (_ : ts.length = ps.length) (k : Nat) (_ : k < ts.length), thsC (ts.eraseIdx k) (ps.eraseIdx k) = (thsC ts ps).take (k * 3) ++ (thsC ts ps).drop ((k + 1) * 3) := by
  intro ts
  induction ts with
  | nil => intro ps _ k hk; simp at hk
  | cons a ts ih =>
    intro ps h k hk
    cases ps with
    | nil => simp at h
    | cons q ps =>
      cases k with
      | zero => simp [thsC, thgC]
      | succ k =>
        have := ih ps (by simpa using h) k (by simpa using hk)
        simp only [List.eraseIdx_cons_succ, thsC, this]
        have e1 : (k + 1) * 3 = k * 3 + 3 := by omega
        have e2 : (k + 1 + 1) * 3 = (k + 1) * 3 + 3 := by omega
        rw [e2, e1]
        simp [thgC]

theorem thsC_len : ∀ (ts : List Doc.Thg) (ps : List (Value × Value)) (_ : ts.length = ps.length), (thsC ts ps).length = ts.length * 3 := by
  intro ts
  induction ts with
  | nil => intro ps _; simp [thsC]
  | cons a ts ih =>
    intro ps h
    cases ps with
    | nil => simp at h
    | cons q ps =>
      have := ih ps (by simpa using h)
      simp only [thsC, List.length_append, this, List.length_cons]
      simp [thgC]; omega

theorem erase_sub (ts : List Doc.Thg) (ps : List (Value × Value)) (hl : ts.length = ps.length) (k : Nat) (hk : k < ts.length) (i : Nat) (hi : i < (ts.eraseIdx k).length) (hi' : i < (ps.eraseIdx k).length) :
    ∃ j, ∃ (hj : j < ts.length) (hj' : j < ps.length), (ts.eraseIdx k)[i] = ts[j] ∧ (ps.eraseIdx k)[i] = ps[j] := by
  rw [List.length_eraseIdx] at hi
  simp only [hk, if_true] at hi
  by_cases h : i < k
  · exact ⟨i, by omega, by omega, by rw [List.getElem_eraseIdx_of_lt _ h], by rw [List.getElem_eraseIdx_of_lt _ h]⟩
  · exact ⟨i + 1, by omega, by omega, by rw [List.getElem_eraseIdx_of_ge _ (by omega)], by rw [List.getElem_eraseIdx_of_ge _ (by omega)]⟩

section
variable {w : World} {F : Nat → Prop} {sb : Nat} {fs : List Doc.Fld} {space : Int} {ts : List Doc.Thg} {fv tv : Value} {ps : List (Value × Value)}

theorem thsC_one (h : RefAt w F sb fs space ts fv tv ps) : ∀ u ∈ thsC ts ps, u.oneCell' = true := by
  have key : ∀ (ts : List Doc.Thg) (ps : List (Value × Value)), (∀ p ∈ ps, p.1.oneCell' = true ∧ p.2.oneCell' = true) → ∀ u ∈ thsC ts ps, u.oneCell' = true := by
    intro ts
    induction ts with
    | nil => intro ps _ u hu; simp [thsC] at hu
    | cons a ts ih =>
      intro ps hp u hu
      cases ps with
      | nil => simp [thsC] at hu
      | cons q ps =>
        rcases List.mem_append.1 hu with hu | hu
        · simp only [thgC, List.mem_cons, List.not_mem_nil, or_false] at hu
          have := hp q (by simp)
          rcases hu with rfl | rfl | rfl
          · rfl
          · exact this.1
          · exact this.2
        · exact ih ps (fun p hp' => hp p (by simp [hp'])) u hu
  refine key ts ps (fun p hp => ?_)
  obtain ⟨i, hi, rfl⟩ := List.getElem_of_mem hp
  obtain ⟨r1, r2⟩ := h.each i (by rw [h.len]; exact hi) hi
  obtain ⟨b1, c1, e1⟩ := row_slice r1
  obtain ⟨b2, c2, e2⟩ := row_slice r2
  rw [e1, e2]; exact ⟨rfl, rfl⟩

theorem rdrop_none (h : RefAt w F sb fs space ts fv tv ps) (hl : ts.length ≤ 9223372036854775807) (id : Int) (hn : Doc.idxT ts id = none) :
    Calls Tryz.prog 57 #[.pointer (some ⟨sb, 0, none⟩), .int .i64 id] w fun e w' => e = .returned (.int .i64 4) ∧ w' = w := by
  obtain ⟨c0, c1, c2⟩ := st_cells h.blk
  have HC : Hid _ := at_any sb tv c2 ts ps h.len hl (rowSl h.thg) id
  have HN : Hid (Doc.idxT ts id = none) := hn
  clear hn
  go_enter Tryz.func57, Tryz.ntmps57
  go_wp2_with fail
  refine Calls.mono HC.out ?_
  rw [HN.out]
  rintro e w1 ⟨rfl, hw⟩
  subst hw
  simp only [Doc.placeI]
  go_wp2_with fail
  go_ret
  exact ⟨rfl, rfl⟩

/-- The store behind another row of things. -/
theorem RefAt.row {w5 : World} {v6 : Value} {ts' : List Doc.Thg} {ps' : List (Value × Value)} (h : RefAt w F sb fs space ts fv tv ps) (hb : Below w.heap.size w w5) (hlen : ts'.length = ps'.length)
    (hown : w5.ownsRow w.heap.size 237 3 v6 ts'.length (thsC ts' ps'))
    (hsub : ∀ i (hi : i < ts'.length) (hi' : i < ps'.length), ∃ j, ∃ (hj : j < ts.length) (hj' : j < ps.length), ts'[i] = ts[j] ∧ ps'[i] = ps[j]) :
    w5.heap[sb]? = some (.cells #[fv, .int .i64 space, tv] 193 (0, 0)) ∧ RefSt (w5.setCell ⟨sb, 2, none⟩ v6) (fun k => F k ∨ w.heap.size ≤ k) sb fs space ts' ∧ Md F w (w5.setCell ⟨sb, 2, none⟩ v6) := by
  have hl := lt_block h.blk
  have hsb := (hb.block sb hl).trans h.blk
  have other : ∀ j, j ≠ sb → (w5.setCell ⟨sb, 2, none⟩ v6).heap[j]? = w5.heap[j]? := fun j hj => Below.heap_setCell _ _ _ _ hj
  have row1 : ∀ {e size n : Nat} {v : Value} {cs : List Value}, w.ownsRow 0 e size v n cs → e ≠ 193 → (w5.setCell ⟨sb, 2, none⟩ v6).ownsRow 0 e size v n cs := by
    intro e size n v cs hr h1
    refine rowKept hr (fun j u ej hu => ?_)
    obtain ⟨_, cs', t⟩ := own_type hr ej
    rw [other j (by rintro rfl; rw [h.blk] at t; simp at t; exact h1 t.2.symm), hb.block j (lt_block hu)]
    exact hu
  refine ⟨hsb, ⟨fv, v6, ps', set_blk' hsb 2 _, row1 h.fld (by decide), ?_, hlen, ?_, .inl h.inS, fun k e => .inl (h.inF k e), fun k e => .inr (own_ge hown e), ?_⟩, (Md.ofBelow hb).set _ (.inl h.inS)⟩
  · have h0 : w5.ownsRow 0 237 3 v6 ts'.length (thsC ts' ps') := by
      obtain ⟨a, b⟩ := hown
      refine ⟨a, ?_⟩
      rcases b with b | ⟨g', cap', cur', e1, _, r⟩
      · exact .inl b
      · exact .inr ⟨g', cap', cur', e1, Nat.zero_le _, r⟩
    refine rowKept h0 (fun j u ej hu => ?_)
    have := own_ge hown ej
    rw [other j (by omega)]
    exact hu
  · intro i hi hi'
    obtain ⟨j, hj, hj', e1, e2⟩ := hsub i hi hi'
    obtain ⟨r1, r2⟩ := h.each j hj hj'
    rw [e1, e2]
    exact ⟨row1 r1 (by decide), row1 r2 (by decide)⟩
  · intro i hi k e
    obtain ⟨j, hj, hj', _, e2⟩ := hsub i (by rw [hlen]; exact hi) hi
    rw [e2] at e
    exact .inl (h.inE j hj' k e)

set_option maxHeartbeats 2000000 in
theorem rdrop_some (h : RefAt w F sb fs space ts fv tv ps) (hl : ts.length ≤ 1000000) (id : Int) (k : Nat) (hn : Doc.idxT ts id = some k) :
    Calls Tryz.prog 57 #[.pointer (some ⟨sb, 0, none⟩), .int .i64 id] w fun e w' => e = .returned (.int .i64 0) ∧ RefSt w' (fun k => F k ∨ w.heap.size ≤ k) sb fs space (ts.eraseIdx k) ∧ Md F w w' := by
  obtain ⟨c0, c1, c2⟩ := st_cells h.blk
  obtain ⟨hk, _⟩ := List.findIdx?_eq_some_iff_getElem.1 hn
  obtain ⟨i2, ht, hx0, hx1, hx2⟩ := info_parts Tryz.infoThgT
  have HC : Hid _ := at_any sb tv c2 ts ps h.len (by omega) (rowSl h.thg) id
  have HN : Hid (Doc.idxT ts id = some k) := hn
  have HA : Hid _ := h
  have f2 := blk_free h.blk 2
  have hlt := lt_block h.blk
  obtain ⟨g, cap, rfl⟩ := own_slice' h.thg (by omega)
  obtain ⟨cur, hcur, hcap, hcz⟩ := own_block h.thg
  have hgl := lt_block hcur
  have hcells := h.thg.cells (g := g) rfl
  have HCE : Hid _ := hcells
  have HONE : Hid _ := thsC_one h
  have hL := thsC_len ts ps h.len
  clear hn h hcells hcur
  go_enter Tryz.func57, Tryz.ntmps57
  go_wp2_with fail
  refine Calls.mono HC.out ?_
  rw [HN.out]
  rintro e w1 ⟨rfl, hw⟩
  subst hw
  simp only [Doc.placeI]
  clear HC
  go_wp2_with (at_builtin; refine wpList_append_own_at _ rfl (.tmp 12) (.tmp 18) 191 rfl w1.heap.size 237 i2 _ 3 56 Tryz.underlying191 ht hx0 hx1 hx2 rfl (by decide) _ _ _ rfl (World.ownsRow_nil _ _ _ _) ⟨g, 0, none⟩ k cap ((thsC ts ps).take (k * 3)) rfl ?c0 ?c1 ?c2 ?c3 ?c4 ?c5 ?_)
  case c0 => rw [List.length_take, hL]; omega
  case c1 =>
    intro j u hj
    refine HCE.out j u ?_
    rw [List.getElem?_take] at hj
    split at hj
    · exact hj
    · cases hj
  case c2 => exact fun u hu => HONE.out u (List.mem_of_mem_take hu)
  case c3 => unfold maxLen; omega
  case c4 => omega
  case c5 => exact Nat.le_refl _
  intro v2 w2 hown2 hgrow2 _ _
  have hown2 : w2.ownsRow w1.heap.size 237 3 v2 k ((thsC ts ps).take (k * 3)) := by simpa using hown2
  have hb2 : Below w1.heap.size w1 w2 := (Below.refl _ _).grown hgrow2 (Nat.le_refl _) (fun j e => by cases e)
  obtain ⟨vb, vc, rfl⟩ := row_slice hown2
  have d2 := (hb2.cell (p := ⟨sb, 2, none⟩) hlt).trans c2
  clear hgrow2 c2
  by_cases hcc : cap = k + 1
  · go_wp2_with (at_builtin; refine wpList_append_own_at _ rfl (.tmp 21) (.tmp 28) 191 rfl w1.heap.size 237 i2 _ 3 56 Tryz.underlying191 ht hx0 hx1 hx2 rfl (by decide) _ _ _ rfl hown2 ⟨g, 0, none⟩ (ts.length - (k + 1)) 0 ((thsC ts ps).drop ((k + 1) * 3)) rfl ?e0 ?e1 ?e2 ?e3 ?e4 ?e5 ?_)
    case e1 =>
      intro j u hj
      rw [List.getElem?_eq_none (by rw [List.length_drop, hL]; omega)] at hj
      cases hj
    case e0 => rw [List.length_drop, hL]; omega
    case e2 => exact fun u hu => HONE.out u (List.mem_of_mem_drop hu)
    case e3 => unfold maxLen; omega
    case e4 => omega
    case e5 => exact hb2.size
    intro v3 w3 hown3 hgrow3 _ _
    have hlen3 : k + (ts.length - (k + 1)) = (ts.eraseIdx k).length := by rw [List.length_eraseIdx]; simp [hk]; omega
    rw [← thsC_erase ts ps HA.out.len k hk, hlen3] at hown3
    have hb3 : Below w1.heap.size w1 w3 := hb2.grown hgrow3 hb2.size (fun j e => own_ge hown2 e)
    obtain ⟨q1, q2, q3⟩ := RefAt.row (ts' := ts.eraseIdx k) (ps' := ps.eraseIdx k) HA.out hb3 (by rw [List.length_eraseIdx, List.length_eraseIdx, HA.out.len]) hown3 (fun i hi hi' => erase_sub ts ps HA.out.len k hk i hi hi')
    obtain ⟨xb, xc, rfl⟩ := row_slice hown3
    have d3 := blk_cell q1 2 _ rfl
    have f3 := blk_free q1 2
    have HQ2 : Hid _ := q2
    have HQ3 : Hid _ := q3
    clear hown3 hgrow3 hb3 q1 q2 q3 hown2
    go_wp2_with fail
    go_ret
    exact ⟨rfl, HQ2.out, HQ3.out⟩
  · have hcc2 : (cap == k + 1) = false := by simpa using hcc
    go_wp2_with (at_builtin; refine wpList_append_own_at _ rfl (.tmp 21) (.tmp 28) 191 rfl w1.heap.size 237 i2 _ 3 56 Tryz.underlying191 ht hx0 hx1 hx2 rfl (by decide) _ _ _ rfl hown2 ⟨g, (k + 1) * 3, none⟩ (ts.length - (k + 1)) (cap - (k + 1)) ((thsC ts ps).drop ((k + 1) * 3)) rfl ?e0 ?e1 ?e2 ?e3 ?e4 ?e5 ?_)
    case e1 =>
      intro j u hj
      rw [List.getElem?_drop] at hj
      have h1 := HCE.out _ u hj
      rw [addr_add2, Nat.zero_add] at h1
      rw [addr_add2]
      exact (hb2.cell (p := ⟨g, (k + 1) * 3 + j, none⟩) hgl).trans h1
    case e0 => rw [List.length_drop, hL]; omega
    case e2 => exact fun u hu => HONE.out u (List.mem_of_mem_drop hu)
    case e3 => unfold maxLen; omega
    case e4 => omega
    case e5 => exact hb2.size
    intro v3 w3 hown3 hgrow3 _ _
    have hlen3 : k + (ts.length - (k + 1)) = (ts.eraseIdx k).length := by rw [List.length_eraseIdx]; simp [hk]; omega
    rw [← thsC_erase ts ps HA.out.len k hk, hlen3] at hown3
    have hb3 : Below w1.heap.size w1 w3 := hb2.grown hgrow3 hb2.size (fun j e => own_ge hown2 e)
    obtain ⟨q1, q2, q3⟩ := RefAt.row (ts' := ts.eraseIdx k) (ps' := ps.eraseIdx k) HA.out hb3 (by rw [List.length_eraseIdx, List.length_eraseIdx, HA.out.len]) hown3 (fun i hi hi' => erase_sub ts ps HA.out.len k hk i hi hi')
    obtain ⟨xb, xc, rfl⟩ := row_slice hown3
    have d3 := blk_cell q1 2 _ rfl
    have f3 := blk_free q1 2
    have HQ2 : Hid _ := q2
    have HQ3 : Hid _ := q3
    clear hown3 hgrow3 hb3 q1 q2 q3 hown2
    go_wp2_with fail
    go_ret
    exact ⟨rfl, HQ2.out, HQ3.out⟩
end
end Go.Proofs.YtbnelaoeblhndaaGreatDoor
