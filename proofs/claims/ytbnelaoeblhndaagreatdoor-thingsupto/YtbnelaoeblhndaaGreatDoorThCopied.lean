/- The walk of copied: a thing's spot and values in memory of their own. -/
import Derived.Test.YtbnelaoeblhndaaGreatDoorThClone
import Derived.Test.YtbnelaoeblhndaaGreatDoorThShelf2
import Derived.Test.YtbnelaoeblhndaaGreatDoorThProg4
namespace Go.Proofs.YtbnelaoeblhndaaGreatDoor
open Go.RowKit
set_option maxRecDepth 100000

theorem valsC_one' (l : List Doc.Val) : ∀ u ∈ valsC l, u.oneCell' = true := by
  intro u hu
  obtain ⟨v, _, hv⟩ := List.mem_flatMap.1 hu
  simp only [valC, List.mem_cons, List.not_mem_nil, or_false] at hv
  rcases hv with rfl | rfl | rfl <;> rfl
theorem intC_len (l : List Int) : (intC l).length = l.length * 1 := by simp [intC]
theorem valsC_len' (l : List Doc.Val) : (valsC l).length = l.length * 3 := by
  induction l with
  | nil => rfl
  | cons a r ih => simp [valsC, List.flatMap_cons, valC] at ih ⊢; omega

theorem row_below {w w' : World} {m e size n : Nat} {v : Value} {cs : List Value} (h : w.ownsRow m e size v n cs) (hb : Below w.heap.size w w') : w'.ownsRow m e size v n cs :=
  rowKept h (fun k _ ek ho => (hb.block k (ownLt h ek)).trans ho)

theorem own_less {w : World} {m m' e size n : Nat} {v : Value} {cs : List Value} (h : w.ownsRow m e size v n cs) (hm : m' ≤ m) : w.ownsRow m' e size v n cs := by
  obtain ⟨a, b⟩ := h
  refine ⟨a, ?_⟩
  rcases b with b | ⟨g', cap', cur', e1, h1, r⟩
  · exact .inl b
  · exact .inr ⟨g', cap', cur', e1, Nat.le_trans hm h1, r⟩
theorem row_set {w : World} {m e size n : Nat} {v : Value} {cs : List Value} {g i : Nat} {u : Value} {cu : Array Value} {T : TypeId} (h : w.ownsRow m e size v n cs) (hg : w.heap[g]? = some (.cells cu T (0, 0))) (hT : e ≠ T) : (w.setCell ⟨g, i, none⟩ u).ownsRow m e size v n cs :=
  rowKept h (fun k _ ek ho => by
    have hne : k ≠ g := by
      rintro rfl
      obtain ⟨_, cs', t⟩ := own_type h ek
      rw [hg] at t; simp at t; exact hT t.2.symm
    rw [Below.heap_setCell _ _ _ _ hne]; exact ho)
theorem pair_set {w3 : World} {g m n1 n2 c1 c2 : Nat} {z0 z1 : Value} {b1 b2 : Option Addr} {T : TypeId} {e1 e2 s1 s2 : Nat} {cs1 cs2 : List Value} {m' : Nat} (hg : w3.heap[g]? = some (.cells #[z0, z1] T (0, 0)))
    (r1 : w3.ownsRow m e1 s1 (.slice b1 n1 c1) n1 cs1) (r2 : w3.ownsRow m' e2 s2 (.slice b2 n2 c2) n2 cs2) (h1 : e1 ≠ T) (h2 : e2 ≠ T) :
    ((w3.setCell ⟨g, 0, none⟩ (.slice b1 n1 c1)).setCell ⟨g, 1, none⟩ (.slice b2 n2 c2)).heap[g]? = some (.cells #[.slice b1 n1 c1, .slice b2 n2 c2] T (0, 0)) ∧
    ((w3.setCell ⟨g, 0, none⟩ (.slice b1 n1 c1)).setCell ⟨g, 1, none⟩ (.slice b2 n2 c2)).ownsRow m e1 s1 (.slice b1 n1 c1) n1 cs1 ∧ ((w3.setCell ⟨g, 0, none⟩ (.slice b1 n1 c1)).setCell ⟨g, 1, none⟩ (.slice b2 n2 c2)).ownsRow m' e2 s2 (.slice b2 n2 c2) n2 cs2 := by
  have q1 := set_blk' hg 0 (.slice b1 n1 c1)
  exact ⟨set_blk' q1 1 _, row_set (row_set r1 hg h1) q1 h1, row_set (row_set r2 hg h2) q1 h2⟩

theorem set_same {w : World} {b i : Nat} {cu : Array Value} {T : TypeId} {fr : Nat × Nat} {v : Value} (h : w.heap[b]? = some (.cells cu T fr)) (hv : cu[i]? = some v) : (w.setCell ⟨b, i, none⟩ v).heap[b]? = w.heap[b]? := by
  rw [set_blk' h, h]
  congr 2
  apply Array.ext_getElem?
  intro j
  rw [Array.getElem?_setIfInBounds]
  by_cases e : i = j
  · subst e
    rw [hv]
    have := (Array.getElem?_eq_some_iff.1 hv).1
    simp [this]
  · simp [e]

section
variable {w : World}
set_option maxHeartbeats 2000000 in
theorem copied_any (sv vv : Value) (spot : List Int) (vals : List Doc.Val) (hs : Sl w sv spot.length (intC spot)) (hv : Sl w vv vals.length (valsC vals)) (hn : spot.length ≤ 1000000) (hm : vals.length ≤ 1000000) (hx : ∀ x ∈ vals, x.s.size ≤ 200) :
    Calls Tryz.prog 68 #[.agg #[sv, vv]] w fun e w' => ∃ v1 v2, e = .returned (.agg #[v1, v2]) ∧ w'.ownsRow w.heap.size 3 1 v1 spot.length (intC spot) ∧ w'.ownsRow w.heap.size 94 3 v2 vals.length (valsC vals) ∧ Below w.heap.size w w' := by
  obtain ⟨b1, c1, e1⟩ := hs.slice
  obtain ⟨b2, c2, e2⟩ := hv.slice
  subst e1 e2
  obtain ⟨w0, HW0⟩ : ∃ w0, Hid (w0 = (w.alloc (.cells #[.slice b1 spot.length c1, .slice b2 vals.length c2] 104)).alloc (.cells #[.slice none 0 0, .slice none 0 0] 104)) := ⟨_, rfl⟩
  have hz0 : w0.heap.size = w.heap.size + 2 := by rw [HW0.out]; simp
  have hb0 : Below w.heap.size w w0 := by rw [HW0.out]; exact ((Below.refl _ _).alloc (Nat.le_refl _) _).alloc (by simp) _
  have hq0 : w0.heap[w.heap.size]? = some (.cells #[.slice b1 spot.length c1, .slice b2 vals.length c2] 104 (0, 0)) := by rw [HW0.out]; exact heap_alloc2_old w _ _
  have hq1 : w0.heap[w.heap.size + 1]? = some (.cells #[.slice none 0 0, .slice none 0 0] 104 (0, 0)) := by rw [HW0.out]; exact heap_alloc2_new w _ _
  have hB : w.heap.size + 2 ≤ w0.heap.size := by omega
  have HSB : Hid (∀ w' : World, Below (w.heap.size + 2) w0 w' → Below (w.heap.size + 2) w0 w' ∧ w'.cell? ⟨w.heap.size, 0, none⟩ = some (.slice b1 spot.length c1) ∧ w'.cell? ⟨w.heap.size, 1, none⟩ = some (.slice b2 vals.length c2)) := by
    intro w' h'
    have q := (h'.block w.heap.size (by omega)).trans hq0
    exact ⟨h', blk_cell q 0 _ rfl, blk_cell q 1 _ rfl⟩
  have HI : Hid (∀ W, Below w.heap.size w W → Calls Tryz.prog 109 #[.slice b1 spot.length c1] W fun e w' => ∃ v', e = .returned v' ∧ w'.ownsRow W.heap.size 3 1 v' spot.length (intC spot) ∧ Below W.heap.size W w') :=
    fun W hW => cloneI_any _ _ _ (hs.below hW) (intC_len _) hn (intC_one _)
  have HV : Hid (∀ W, Below w.heap.size w W → Calls Tryz.prog 110 #[.slice b2 vals.length c2] W fun e w' => ∃ v', e = .returned v' ∧ w'.ownsRow W.heap.size 94 3 v' vals.length (valsC vals) ∧ Below W.heap.size W w') :=
    fun W hW => cloneV_any _ _ _ (hv.below hW) (valsC_len' _) hm (valsC_one' _)
  have HZ0 : Hid _ := hz0
  have HQ1 : Hid _ := hq1
  have HQ3 : Hid (∀ W w3 : World, Below (W.alloc (.cells #[.slice none 0 0, .slice none 0 0] 104)).heap.size (W.alloc (.cells #[.slice none 0 0, .slice none 0 0] 104)) w3 → w3.cell? ⟨W.heap.size, 0, none⟩ = some (.slice none 0 0) ∧ w3.cell? ⟨W.heap.size, 1, none⟩ = some (.slice none 0 0) ∧ w3.frozen? ⟨W.heap.size, 0, none⟩ = false ∧ w3.frozen? ⟨W.heap.size, 1, none⟩ = false ∧ W.heap.size < w3.heap.size) := fun W w3 h => by
    have q := (h.block W.heap.size (by simp)).trans (heap_alloc_new W _)
    exact ⟨blk_cell q 0 _ rfl, blk_cell q 1 _ rfl, blk_free q 0, blk_free q 1, lt_block q⟩
  have HQ : Hid (∀ W w2 : World, Below (W.alloc (.cells #[.slice none 0 0, .slice none 0 0] 104)).drew.heap.size (W.alloc (.cells #[.slice none 0 0, .slice none 0 0] 104)).drew w2 → ∀ w3, Below w2.heap.size w2 w3 → w3.cell? ⟨W.heap.size, 0, none⟩ = some (.slice none 0 0) ∧ w3.cell? ⟨W.heap.size, 1, none⟩ = some (.slice none 0 0) ∧ w3.frozen? ⟨W.heap.size, 0, none⟩ = false ∧ w3.frozen? ⟨W.heap.size, 1, none⟩ = false ∧ W.heap.size < w3.heap.size) := fun W w2 h w3 h3 => HQ3.out W w3 (Below.callB ((Below.refl _ _).drew.trans h) (Nat.le_refl _) h3)
  have HG2 : Hid (∀ w2 : World, Below (w0.alloc (.cells #[.slice none 0 0, .slice none 0 0] 104)).drew.heap.size (w0.alloc (.cells #[.slice none 0 0, .slice none 0 0] 104)).drew w2 → w.heap.size + 2 ≤ w2.heap.size) := fun w2 h => by
    have := h.size
    simp at this
    omega
  clear hz0 hq0 hq1 hs hv
  go_enter Tryz.func68, Tryz.ntmps68
  go_wp2_with fail
  rw [← HW0.out]
  go_cut [3] (fun v wx => ∃ g b3 c3 b4 c4, v = .pointer (some ⟨g, 0, none⟩) ∧ Below (w.heap.size + 2) w0 wx ∧ w.heap.size + 2 ≤ g ∧ wx.heap[g]? = some (.cells #[.slice b3 spot.length c3, .slice b4 vals.length c4] 104 (0, 0)) ∧ wx.ownsRow (w.heap.size + 2) 3 1 (.slice b3 spot.length c3) spot.length (intC spot) ∧ wx.ownsRow (w.heap.size + 2) 94 3 (.slice b4 vals.length c4) vals.length (valsC vals))
  case first =>
    (first | go_region_held3 (fun w' => Below (w.heap.size + 2) w0 w' ∧ w'.cell? ⟨w.heap.size, 0, none⟩ = some (.slice b1 spot.length c1) ∧ w'.cell? ⟨w.heap.size, 1, none⟩ = some (.slice b2 vals.length c2)) (first | (refine HSB.out _ ?_; repeat (first | exact Below.refl _ _ | refine Below.drew ?_ | refine Below.allocB ?_ hB _ | refine Below.callB ?_ hB hb3 | refine Below.callB ?_ hB hb2 | refine Below.setCell ?_ hB _ | refine Below.setCell ?_ hgg _))) (first | (go_at_call 109; refine (HI.out w0.drew hb0.drew).mono ?_; rintro r w2 ⟨v1, rfl, hown1, hb2⟩; obtain ⟨b3, c3, rfl⟩ := row_slice hown1; have hbw := Below.callB hb0.drew (Nat.le_refl _) hb2; have hq : ∀ w3 : World, Below w2.heap.size w2 w3 → w2.heap.size ≤ w3.heap.size := fun _ h => h.size; have hg2 : w.heap.size + 2 ≤ w2.heap.size := Nat.le_trans hB hb2.size) | (go_at_call 109; refine (HI.out (w0.alloc (.cells #[.slice none 0 0, .slice none 0 0] 104)).drew (Below.drew (Below.allocB hb0 (Nat.le_refl _) _))).mono ?_; rintro r w2 ⟨v1, rfl, hown1, hb2⟩; obtain ⟨b3, c3, rfl⟩ := row_slice hown1; have hbw := Below.callB (Below.drew (Below.allocB hb0 (Nat.le_refl _) (.cells #[.slice none 0 0, .slice none 0 0] 104))) (Nat.le_refl _) hb2; have hq := HQ.out w0 w2 hb2; have hg2 := HG2.out w2 hb2) | (go_at_call 110; refine (HV.out (w2.alloc (.cells #[.slice none 0 0, .slice none 0 0] 104)) (Below.allocB hbw (Nat.le_refl _) _)).mono ?_; rintro r w3 ⟨v2, rfl, hown2, hb3⟩; obtain ⟨b4, c4, rfl⟩ := row_slice hown2; have q3 := HQ3.out w2 w3 hb3; have hgg := hg2) | (go_at_call 110; refine (HV.out w2 hbw).mono ?_; rintro r w3 ⟨v2, rfl, hown2, hb3⟩; obtain ⟨b4, c4, rfl⟩ := row_slice hown2; have q3 := hq w3 hb3; have hgg := Nat.le_trans hg2 hb3.size)))
    all_goals (go_wp2_with fail)
    all_goals go_meet
    · refine ⟨w3.heap.size, b3, c3, b4, c4, rfl, Below.allocB (Below.callB (Below.callB (Below.refl _ _).drew hB hb2) hB hb3) hB _, hgg, heap_alloc_new w3 _, row_below (own_less (row_below hown1 hb3) hB) ((Below.refl _ _).alloc (Nat.le_refl _) _), row_below (own_less hown2 hg2) ((Below.refl _ _).alloc (Nat.le_refl _) _)⟩
    · have r1 := row_below (row_below hown1 ((Below.refl _ _).alloc (Nat.le_refl _) _)) hb3
      obtain ⟨p1, p2, p3⟩ := pair_set ((hb3.block w2.heap.size (by simp)).trans (heap_alloc_new w2 _)) r1 hown2 (by decide) (by decide)
      exact ⟨w2.heap.size, b3, c3, b4, c4, rfl, Below.setCell (Below.setCell (Below.callB (Below.allocB (Below.callB (Below.refl _ _).drew hB hb2) hB _) hB hb3) hgg _) hgg _, hgg, p1, own_less p2 hB, own_less p3 (Nat.le_trans hg2 (by simp))⟩
    · have r1 := row_below hown1 hb3
      obtain ⟨p1, p2, p3⟩ := pair_set ((hb3.block w0.heap.size (Nat.lt_of_lt_of_le (by simp) hb2.size)).trans ((hb2.block w0.heap.size (by simp)).trans (heap_alloc_new w0 _))) r1 hown2 (by decide) (by decide)
      exact ⟨w0.heap.size, b3, c3, b4, c4, rfl, Below.setCell (Below.setCell (Below.callB (Below.callB (Below.allocB (Below.refl _ _) hB _).drew hB hb2) hB hb3) hB _) hB _, hB, p1, own_less p2 (Nat.le_trans hB (by simp)), own_less p3 hg2⟩
  case rest =>
    obtain ⟨g, b3, c3, b4, c4, rfl, hbw, hgg, hg, r1, r2⟩ := hcut
    have d0 := blk_cell hg 0 _ rfl
    have d1 := blk_cell hg 1 _ rfl
    have HR1 : Hid _ := r1
    have HR2 : Hid _ := r2
    have HG : Hid _ := hg
    have HBW : Hid _ := hbw
    have hgl := lt_block hg
    clear r1 r2 hg hbw
    go_wp2_with fail
    go_loopw [15] (fun i wr => ∃ k : Nat, k ≤ vals.length ∧ i = .int .i64 k ∧ Hid (Below (w.heap.size + 2) w0 wr) ∧ Hid (wr.heap[g]? = some (.cells #[.slice b3 spot.length c3, .slice b4 vals.length c4] 104 (0, 0))) ∧ Hid (wr.ownsRow (w.heap.size + 2) 3 1 (.slice b3 spot.length c3) spot.length (intC spot)) ∧ Hid (wr.ownsRow (w.heap.size + 2) 94 3 (.slice b4 vals.length c4) vals.length (valsC vals))) (fun i _ => vals.length - (intOf i).toNat)
    case atStart => exact ⟨0, Nat.zero_le _, rfl, HBW, HG, HR1, HR2⟩
    case round =>
      obtain ⟨k, hk, rfl, KB, KG, KR1, KR2⟩ := hrel
      have d1 := blk_cell KG.out 1 _ rfl
      by_cases hk2 : k < vals.length
      · obtain ⟨vb, vc, hvb⟩ := own_slice' KR2.out (by omega)
        obtain rfl : b4 = some ⟨vb, 0, none⟩ := by simp at hvb; exact hvb.1
        obtain rfl : c4 = vc := by simp at hvb; exact hvb
        clear hvb
        obtain ⟨cur, hcur, hcap, hcz⟩ := own_block KR2.out
        obtain ⟨x, HX⟩ : ∃ x, Hid (x = vals[k]) := ⟨vals[k], rfl⟩
        have hx2 : wr.cell? ⟨vb, k * 3 + 2, none⟩ = some (.string x.s) := by
          have := KR2.out.cells (g := vb) rfl (k * 3 + 2) (.string x.s) (by unfold valsC; rw [flat_at valC 3 valC_len vals k hk2 2 (by omega), HX.out]; rfl)
          rw [addr_add2, Nat.zero_add] at this
          exact this
        have hxs : x.s.size ≤ 140737488351232 := by have := hx x (by rw [HX.out]; exact List.getElem_mem hk2); omega
        have hvl := lt_block hcur
        have hglr := lt_block KG.out
        have hvg : vb ≠ g := by rintro rfl; rw [KG.out] at hcur; cases hcur
        have hci : cur[k * 3 + 2]? = some (.string x.s) := by rw [← hx2, cell_of_row _ _ _ _ _ _ hcur]
        have hvm := own_ge KR2.out (k := vb) rfl
        have HCU : Hid _ := hcur
        have HCI : Hid _ := hci
        have HS5 : Hid (∀ w' : World, w'.heap[g]? = wr.heap[g]? → w'.heap[vb]? = wr.heap[vb]? → w'.cell? ⟨g, 1, none⟩ = some (.slice (some ⟨vb, 0, none⟩) vals.length c4) ∧ w'.cell? ⟨vb, k * 3 + 2, none⟩ = some (.string x.s) ∧ w'.frozen? ⟨vb, k * 3 + 2, none⟩ = false ∧ vb < w'.heap.size) := by
          intro w' h1 h2
          have q1 := h1.trans KG.out
          have q2 := h2.trans hcur
          exact ⟨blk_cell q1 1 _ rfl, by rw [cell_of_row _ _ _ _ _ _ q2]; exact hci, frozen_of_row _ _ _ _ _ q2, lt_block q2⟩
        clear hcur hci hx
        go_wp2_with fail
        (first | go_region_held3 (fun w' => w'.cell? ⟨g, 1, none⟩ = some (.slice (some ⟨vb, 0, none⟩) vals.length c4) ∧ w'.cell? ⟨vb, k * 3 + 2, none⟩ = some (.string x.s) ∧ w'.frozen? ⟨vb, k * 3 + 2, none⟩ = false ∧ vb < w'.heap.size) (first | exact HS5.out _ rfl rfl | exact HS5.out _ p1 p2 | exact HS5.out _ p3 p4) (first | (go_at_call 106; refine (sclone_any x.s hxs wr.drew).mono ?_; rintro r w2 ⟨rfl, hb2⟩; have p1 := hb2.block g hglr; have p2 := hb2.block vb hvl; have p3 := (Below.heap_setCell w2 ⟨vb, k * 3 + 2, none⟩ (.string x.s) g (Ne.symm hvg)).trans p1; have p4 := (set_same (p2.trans HCU.out) HCI.out).trans p2)))
        all_goals (go_wp2_with fail)
        all_goals
          go_roundw
          case rel => exact ⟨k + 1, by omega, by go_num, Below.setCell (Below.callB (KB.out.drew) hB hb2) hvm _, p3.trans KG.out, rowKept KR1.out (fun j _ ej ho => by
            have hj : j ≠ vb := by
              rintro rfl
              obtain ⟨_, cs', t⟩ := own_type KR1.out ej
              rw [HCU.out] at t; cases t
            rw [Below.heap_setCell _ _ _ _ hj, hb2.block j (ownLt KR1.out ej)]; exact ho), rowKept KR2.out (fun j _ ej ho => by
            cases ej; exact p4.trans ho)⟩
          case measure => simp [intOf]; omega
      · obtain rfl : k = vals.length := by omega
        have q1 := (KB.out.block (w.heap.size + 1) (by omega)).trans HQ1.out
        have d0 := blk_cell KG.out 0 _ rfl
        have y0 := blk_cell q1 0 _ rfl
        have y1 := blk_cell q1 1 _ rfl
        have y2 := blk_free q1 0
        have y3 := blk_free q1 1
        have y4 := lt_block q1
        go_wp2_with fail
        obtain ⟨p1, p2, p3⟩ := pair_set q1 KR1.out KR2.out (by decide) (by decide)
        refine bodyPost_ret (v := .agg #[.slice b3 spot.length c3, .slice b4 vals.length c4]) (results_cell_row rfl _ _ (w.heap.size + 1) 104 _ (0, 0) _ rfl p1 Tryz.underlying104 rfl (by kernel_rfl)) rfl ⟨_, _, rfl, own_less p2 (by omega), own_less p3 (by omega), ?_⟩
        exact Below.setCell (Below.setCell (hb0.trans (KB.out.mono (by omega))) (by show w.heap.size ≤ w.heap.size + 1; omega) _) (by show w.heap.size ≤ w.heap.size + 1; omega) _
end
end Go.Proofs.YtbnelaoeblhndaaGreatDoor
