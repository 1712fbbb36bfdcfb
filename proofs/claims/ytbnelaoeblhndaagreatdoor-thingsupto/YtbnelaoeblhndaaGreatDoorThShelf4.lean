/- The walk of a shelf's Put. -/
import Derived.Test.YtbnelaoeblhndaaGreatDoorThShelf3
namespace Go.Proofs.YtbnelaoeblhndaaGreatDoor
open Go.RowKit
open Go.Maps (Keyed)
set_option maxRecDepth 100000

/-- What others have, and the first k values of a thing that is laid down. -/
def layH (th : Has) (id : Nat) (vals : List Doc.Val) (k : Nat) : Nat → Nat → Doc.Val → Prop := fun j f x => Hof (dropT th id) j f x ∨ (j = id ∧ f < k ∧ vals[f]? = some x)

theorem lay_zero (th : Has) (id : Nat) (vals : List Doc.Val) : ∀ j f x, j < 4096 → (Hof (dropT th id) j f x ↔ layH th id vals 0 j f x) := fun j f x _ => ⟨fun h => .inl h, fun h => by rcases h with h | ⟨_, h, _⟩; exact h; omega⟩
theorem lay_all (th : Has) (id : Nat) (spot : List Int) (vals : List Doc.Val) : ∀ j f x, j < 4096 → (layH th id vals vals.length j f x ↔ Hof (putT th id (spot, vals)) j f x) := by
  intro j f x _
  constructor
  · rintro (⟨t, ht, hx⟩ | ⟨rfl, _, hx⟩)
    · by_cases e : (j : Int) = id
      · simp [dropT, e] at ht
      · simp [dropT, e] at ht
        exact ⟨t, by simp [putT, e, ht], hx⟩
    · exact ⟨(spot, vals), by simp [putT], hx⟩
  · rintro ⟨t, ht, hx⟩
    by_cases e : (j : Int) = id
    · simp [putT, e] at ht
      subst ht
      exact .inr ⟨by omega, (List.getElem?_eq_some_iff.1 hx).1, hx⟩
    · simp [putT, e] at ht
      exact .inl ⟨t, by simp [dropT, e, ht], hx⟩

section
variable {w w' : World} {F : Nat → Prop} {hb mt mh : Nat} {th : Has} {pos : Int → Value × Value}
set_option maxHeartbeats 2000000 in
theorem sput_any (h : ShelfAt w F hb th mt mh pos) (id : Nat) (hid : id < 4096) (sv vv : Value) (spot : List Int) (vals : List Doc.Val) (hs : Sl w sv spot.length (intC spot)) (hv : Sl w vv vals.length (valsC vals)) (hn : spot.length ≤ 4) (hm : vals.length ≤ 4) (hx : ∀ x ∈ vals, Fine x) :
    Calls Tryz.prog 43 #[.pointer (some ⟨hb, 0, none⟩), .int .i64 id, .agg #[sv, vv]] w fun e w' => e = .returned (.tuple #[]) ∧ (∃ pos', ShelfAt w' (fun k => F k ∨ w.heap.size ≤ k) hb (putT th id (spot, vals)) mt mh pos') ∧ Md (fun j => j = mt ∨ j = mh) w w' := by
  obtain ⟨b1, c1, e1⟩ := hs.slice
  obtain ⟨b2, c2, e2⟩ := hv.slice
  subst e1 e2
  have hba : Below w.heap.size w (w.alloc (.cells #[.slice b1 spot.length c1, .slice b2 vals.length c2] 104)) := (Below.refl _ _).alloc (Nat.le_refl _) _
  have HD : Hid _ := sdrop_any (h.kept (w' := w.alloc (.cells #[.slice b1 spot.length c1, .slice b2 vals.length c2] 104)) (F' := F) (fun k _ hk => hba.block k hk) (fun k hk _ => hk)) id hid
  have hlt := h.lt
  have hmt := h.thg.lt
  have hmh := h.hold.lt
  have H : Hid _ := h
  have HS : Hid _ := hs
  have HV : Hid _ := hv
  clear h hs hv
  go_enter Tryz.func43, Tryz.ntmps43
  go_wp2_with fail
  refine Calls.mono HD.out ?_
  rintro e w1 ⟨rfl, h1, hd1⟩
  have hsz1 := hd1.size
  have hsz1 : w.heap.size + 1 ≤ w1.heap.size := by simpa using hsz1
  have hold1 : ∀ k, k < w.heap.size + 1 → k ≠ mt → k ≠ mh → w1.heap[k]? = (w.alloc (.cells #[.slice b1 spot.length c1, .slice b2 vals.length c2] 104)).heap[k]? := fun k hk n1 n2 => hd1.only k (by simpa using hk) (by rintro (e | e); exact n1 e; exact n2 e)
  have q1 := (hold1 w.heap.size (by omega) (by omega) (by omega)).trans (heap_alloc_new w _)
  have y0 := blk_cell q1 0 _ rfl
  have y1 := blk_cell q1 1 _ rfl
  have hcl : ∀ (k : Nat) (cu : Array Value) (T : TypeId) (fr : Nat × Nat), w.heap[k]? = some (.cells cu T fr) → w1.heap[k]? = w.heap[k]? := fun k cu T fr hk => by
    have hkl := lt_block hk
    rw [hold1 k (by omega) (by rintro rfl; obtain ⟨es, cl, hq, _⟩ := H.out.thg.has; rw [hk] at hq; cases hq) (by rintro rfl; obtain ⟨es, cl, hq, _⟩ := H.out.hold.has; rw [hk] at hq; cases hq)]
    exact hba.block k hkl
  have HC : Hid _ := copied_any _ _ spot vals (HS.out.maps (w' := w1) (fun h0 e => by have := intC_len spot; rw [e] at this; simp at this; omega) (by omega) hcl) (HV.out.maps (w' := w1) (fun h0 e => by have := valsC_len' vals; rw [e] at this; simp at this; omega) (by omega) hcl) (by omega) (by omega) (fun x hx' => (hx x hx').2.2.2)
  have H1 : Hid _ := h1
  have HD1 : Hid _ := hd1
  have HO1 : Hid _ := hold1
  have HQ1 : Hid _ := q1
  clear hcl h1 hd1 hold1 q1 HD
  go_wp2_with fail
  refine Calls.mono HC.out ?_
  rintro e w2 ⟨v1, v2, rfl, r1, r2, hb2⟩
  obtain ⟨b3, c3, rfl⟩ := row_slice r1
  obtain ⟨b4, c4, rfl⟩ := row_slice r2
  clear HC y0 y1
  have hsz2 := hb2.size
  have c0 : w2.cell? ⟨hb, 0, none⟩ = some (.map (some mt)) := blk_cell ((hb2.block hb H1.out.lt).trans H1.out.blk) 0 _ rfl
  obtain ⟨W, HW⟩ : ∃ W, Hid (W = w2.alloc (.cells #[.slice b3 spot.length c3, .slice b4 vals.length c4] 104)) := ⟨_, rfl⟩
  have hbW : Below w1.heap.size w1 W := by rw [HW.out]; exact hb2.alloc hb2.size _
  have hqW : W.heap[w2.heap.size]? = some (.cells #[.slice b3 spot.length c3, .slice b4 vals.length c4] 104 (0, 0)) := by rw [HW.out]; exact heap_alloc_new w2 _
  have hpK := (H1.out.thg.kept (hbW.block mt H1.out.thg.lt)).putO intKeyed Tryz.underlying149 (.agg #[.slice b3 spot.length c3, .slice b4 vals.length c4]) (int_key (id := (id : Int)) (by omega) (by omega))
  obtain ⟨ob, hob⟩ := hpK
  obtain ⟨hpu, hpm⟩ := hob W.drew rfl
  have HPM : Hid _ := hpm
  have k0 : W.cell? ⟨hb, 0, none⟩ = some (.map (some mt)) := blk_cell ((hbW.block hb H1.out.lt).trans H1.out.blk) 0 _ rfl
  have k1 := blk_cell hqW 0 _ rfl
  have k2 := blk_cell hqW 1 _ rfl
  have hlW := lt_block hqW
  clear hob hpm c0
  go_wp2_with fail
  rw [← HW.out]
  go_cut [] (fun wx => wx = Go.ChangeMaps.setBlock W.drew mt ob)
  case first =>
    first | go_region | fail "stands"
    all_goals (go_wp2_with fail)
    all_goals go_meet
    all_goals rfl
  case rest =>
    subst hcut
    obtain ⟨X, HX⟩ : ∃ X, Hid (X = Go.ChangeMaps.setBlock W.drew mt ob) := ⟨_, rfl⟩
    rw [← HX.out] at HPM ⊢
    have hoX : ∀ k, k ≠ mt → X.heap[k]? = W.heap[k]? := fun k hk => by rw [HX.out, setBlock_other _ hk]; rfl
    have hzX : X.heap.size = W.heap.size := by rw [HX.out, setBlock_size]; rfl
    have q0 := (hoX w2.heap.size (by omega)).trans hqW
    have x1 := blk_cell q0 1 _ rfl
    have HOX : Hid _ := hoX
    have HHX : Hid (MapIs Tryz.prog 155 X mh (holdM (Hof (dropT th id)))) := H1.out.hold.kept ((hoX mh (Ne.symm H.out.ne)).trans (hbW.block mh H1.out.hold.lt))
    have HR2 : Hid (X.ownsRow w1.heap.size 94 3 (.slice b4 vals.length c4) vals.length (valsC vals)) := rowKept r2 (fun k _ ek ho => by
      rw [hoX k (by have := own_ge r2 ek; have := H1.out.thg.lt; omega), HW.out, Below.heap_alloc _ _ _ (lt_block ho)]; exact ho)
    have HR1 : Hid (X.ownsRow w1.heap.size 3 1 (.slice b3 spot.length c3) spot.length (intC spot)) := rowKept r1 (fun k _ ek ho => by
      rw [hoX k (by have := own_ge r1 ek; have := H1.out.thg.lt; omega), HW.out, Below.heap_alloc _ _ _ (lt_block ho)]; exact ho)
    have HBX : Hid (X.heap[hb]? = some (shelfO mt mh)) := (hoX hb H.out.hbt).trans ((hbW.block hb H1.out.lt).trans H1.out.blk)
    clear k0 k1 k2 hpu hoX r1 r2 hqW q0
    go_wp2_with fail
    go_loopw [24] (fun i wr => ∃ k : Nat, k ≤ vals.length ∧ i = .int .i64 k ∧ Hid (MapIs Tryz.prog 155 wr mh (holdM (layH th id vals k))) ∧ Hid (Md (fun j => j = mh) X wr)) (fun i _ => vals.length - (intOf i).toNat)
    case atStart => exact ⟨0, Nat.zero_le _, rfl, MapIs.congr HHX.out (holdM_congr (fun j f x hj => (lay_zero th id vals j f x hj).symm)), Md.refl _ _⟩
    case round =>
      obtain ⟨k, hk, rfl, KM, KD⟩ := hrel
      by_cases hk2 : k < vals.length
      · obtain ⟨vb, vc, hvb⟩ := own_slice' HR2.out (by omega)
        obtain rfl : b4 = some ⟨vb, 0, none⟩ := by simp at hvb; exact hvb.1
        obtain rfl : c4 = vc := by simp at hvb; exact hvb
        clear hvb
        obtain ⟨cur, hcur, _, _⟩ := own_block HR2.out
        obtain ⟨x, HXX⟩ : ∃ x, Hid (x = vals[k]) := ⟨vals[k], rfl⟩
        have hvl := lt_block hcur
        have hvm : vb ≠ mh := row_not_map HR2.out HHX.out rfl
        have hce : ∀ c u, c < 3 → (valC x)[c]? = some u → wr.cell? ⟨vb, k * 3 + c, none⟩ = some u := fun c u hc hu => by
          have := HR2.out.cells (g := vb) rfl (k * 3 + c) u (by unfold valsC; rw [flat_at valC 3 valC_len vals k hk2 c hc, ← HXX.out]; exact hu)
          rw [addr_add2, Nat.zero_add] at this
          rw [cell_of_row _ _ _ _ _ _ ((KD.out.only vb hvl hvm).trans hcur), ← cell_of_row _ _ _ _ _ _ hcur]
          exact this
        have hx0 : wr.cell? ⟨vb, k * 3, none⟩ = some (.int .i64 x.k) := hce 0 _ (by omega) rfl
        have hx1 := hce 1 (.int .i64 x.n) (by omega) rfl
        have hx2 := hce 2 (.string x.s) (by omega) rfl
        have HFX : Hid (Fine x) := hx x (by rw [HXX.out]; exact List.getElem_mem hk2)
        clear hce hcur
        obtain ⟨Y, HY⟩ : ∃ Y, Hid (Y = (wr.alloc (.cells #[.int .i64 x.k, .int .i64 x.n, .string x.s] 94)).alloc (.cells #[.int .i64 k, .int .i64 x.k, .int .i64 x.n, .string x.s] 155)) := ⟨_, rfl⟩
        have hbY : Below wr.heap.size wr Y := by rw [HY.out]; exact ((Below.refl _ _).alloc (Nat.le_refl _) _).alloc (by simp) _
        have hqY : Y.heap[wr.heap.size + 1]? = some (.cells #[.int .i64 k, .int .i64 x.k, .int .i64 x.n, .string x.s] 155 (0, 0)) := by rw [HY.out]; exact heap_alloc2_new wr _ _
        have hzY : Y.heap.size = wr.heap.size + 2 := by rw [HY.out]; simp
        have KMY : Hid (MapIs Tryz.prog 155 Y mh (holdM (layH th id vals k))) := KM.out.kept (hbY.block mh KM.out.lt)
        have hlm := KM.out.lt
        have hhl : hb < wr.heap.size := by have := KD.out.size; have := lt_block HBX.out; omega
        have hsY : Y.heap[hb]? = some (shelfO mt mh) := (hbY.block hb hhl).trans ((KD.out.only hb (lt_block HBX.out) H.out.hbh).trans HBX.out)
        obtain ⟨kl, hkl⟩ := held_key (f := k) (by omega) HFX.out
        have hex : ∃ ws : Bits, (Instr.lookup 150 (.map (some mh)) (.agg (heldC k x)) false).run Tryz.prog Y.drew = .ok (.agg (setC ws)) Y.drew ∧ ∀ j, j < 4096 → (memB ws j = true ↔ layH th id vals k j k x) := by
          by_cases he : ∃ j, j < 4096 ∧ layH th id vals k j k x
          · obtain ⟨ws, hws⟩ := exists_set (fun j => layH th id vals k j k x)
            refine ⟨ws, ?_, hws⟩
            exact (KMY.out.kept (w' := Y.drew) rfl).look_some false heldKeyed Tryz.underlying150 hkl ⟨k, x, ws, by omega, HFX.out, rfl, rfl, hws, he⟩
          · refine ⟨zeroB, ?_, fun j hj => ⟨fun h => (by rw [memB_zero] at h; cases h), fun h => absurd ⟨j, hj, h⟩ he⟩⟩
            exact (KMY.out.kept (w' := Y.drew) rfl).look_none false heldKeyed Tryz.underlying150 (zero_set _) hkl (fun v hv => by
              obtain ⟨f, y, ws, _, _, e, _, _, hj⟩ := hv
              obtain ⟨rfl, rfl⟩ := heldC_inj e
              exact he hj)
        obtain ⟨ws, hlk, hws⟩ := hex
        obtain ⟨C, HC2⟩ : ∃ C, Hid (C = setC ws) := ⟨_, rfl⟩
        obtain ⟨R, HR⟩ : ∃ R, Hid (R = setC (withB ws id)) := ⟨_, rfl⟩
        rw [← HC2.out] at hlk
        have HWI : Hid (∀ w : World, Calls Tryz.prog 69 #[.agg C, .int .i64 id] w fun e w' => e = .returned (.agg R) ∧ Below w.heap.size w w') := by
          rw [HC2.out, HR.out]; exact with_any ws id hid
        obtain ⟨ob2, hob2⟩ := KMY.out.putO heldKeyed Tryz.underlying150 (.agg R) hkl
        unfold heldC at hlk hob2
        have HOB2 : Hid _ := hob2
        have hnm : hb ≠ mh := H.out.hbh
        have hnb : wr.heap.size + 1 ≠ mh := by omega
        have HS8 : Hid (∀ w' : World, (∀ j, j ≠ mh → j < Y.heap.size → w'.heap[j]? = Y.heap[j]?) → w'.cell? ⟨hb, 1, none⟩ = some (.map (some mh)) ∧ w'.cell? ⟨wr.heap.size + 1, 0, none⟩ = some (.int .i64 k) ∧ w'.cell? ⟨wr.heap.size + 1, 1, none⟩ = some (.int .i64 x.k) ∧ w'.cell? ⟨wr.heap.size + 1, 2, none⟩ = some (.int .i64 x.n) ∧ w'.cell? ⟨wr.heap.size + 1, 3, none⟩ = some (.string x.s)) := by
          intro w' h'
          have a1 := (h' hb hnm (by omega)).trans hsY
          have a2 := (h' _ hnb (by omega)).trans hqY
          exact ⟨blk_cell a1 1 _ rfl, blk_cell a2 0 _ rfl, blk_cell a2 1 _ rfl, blk_cell a2 2 _ rfl, blk_cell a2 3 _ rfl⟩
        have HWS : Hid _ := hws
        have HHY : Hid _ := hbY
        have hmY : mh < Y.heap.size := by omega
        clear hob2 hws hsY hqY hkl
        go_wp2_with fail
        rw [← HY.out]
        (first | go_region_held3 (fun w' => w'.cell? ⟨hb, 1, none⟩ = some (.map (some mh)) ∧ w'.cell? ⟨wr.heap.size + 1, 0, none⟩ = some (.int .i64 k) ∧ w'.cell? ⟨wr.heap.size + 1, 1, none⟩ = some (.int .i64 x.k) ∧ w'.cell? ⟨wr.heap.size + 1, 2, none⟩ = some (.int .i64 x.n) ∧ w'.cell? ⟨wr.heap.size + 1, 3, none⟩ = some (.string x.s)) (first | exact HS8.out _ (fun j _ _ => rfl) | exact HS8.out _ (fun j _ hj => hb4.block j hj) | exact HS8.out _ (fun j hj hl => (setBlock_other _ hj _).trans (hb4.block j hl))) (first | (go_at_call 69; refine (HWI.out Y.drew).mono ?_; rintro r w4 ⟨rfl, hb4⟩; have hpu2 := (HOB2.out w4 (hb4.block mh hmY)).1)))
        all_goals (go_wp2_with fail)
        all_goals
          go_roundw
          case rel =>
            refine ⟨k + 1, by omega, by go_num, ?_, (KD.out.trans (Md.ofBelow HHY.out)).drew.trans (((Md.ofBelow hb4).trans (setBlock_md _ _ _)))⟩
            have hmm := (HOB2.out w4 (hb4.block mh hmY)).2
            rw [HR.out] at hmm
            refine MapIs.congr hmm (hold_put (by omega) HFX.out (fun j hj => ?_) ⟨id, hid, .inr ⟨rfl, by omega, by rw [HXX.out]; exact List.getElem?_eq_getElem hk2⟩⟩ (fun j g y hg => ?_))
            · rw [memB_with, Bool.or_eq_true, HWS.out j hj, decide_eq_true_iff]
              constructor
              · rintro (rfl | h | ⟨h1, h2, h3⟩)
                · exact .inr ⟨rfl, by omega, by rw [HXX.out]; exact List.getElem?_eq_getElem hk2⟩
                · exact .inl h
                · omega
              · rintro (h | ⟨h1, h2, h3⟩)
                · exact .inr (.inl h)
                · exact .inl h1
            · constructor
              · rintro (h | ⟨h1, h2, h3⟩)
                · exact .inl h
                · refine .inr ⟨h1, ?_, h3⟩
                  by_cases e : g = k
                  · subst e
                    rw [List.getElem?_eq_getElem hk2, ← HXX.out] at h3
                    cases h3
                    exact absurd ⟨rfl, rfl⟩ hg
                  · omega
              · rintro (h | ⟨h1, h2, h3⟩)
                · exact .inl h
                · exact .inr ⟨h1, by omega, h3⟩
          case measure => simp [intOf]; omega
      · obtain rfl : k = vals.length := by omega
        go_wp2_with fail
        go_end0
        have hout : ∀ j, j < W.heap.size → j ≠ mt → j ≠ mh → wr.heap[j]? = W.heap[j]? := fun j hj h1 h2 => (KD.out.only j (by omega) h2).trans (HOX.out j h1)
        have hw1 : ∀ j, j < w1.heap.size → j ≠ mt → j ≠ mh → wr.heap[j]? = w1.heap[j]? := fun j hj h1 h2 => (hout j (by have := hbW.size; omega) h1 h2).trans (hbW.block j hj)
        refine ⟨rfl, ⟨fun i => if i = id then (.slice b3 spot.length c3, .slice b4 vals.length c4) else pos i, ?_⟩, ?_⟩
        · refine ⟨(KD.out.only hb (lt_block HBX.out) H.out.hbh).trans HBX.out, ?_, MapIs.congr KM.out (holdM_congr (fun j f x hj => (lay_all th id spot vals j f x hj).symm)), H.out.ne, fun i t ht => ?_, fun i t ht => ?_, .inl H.out.inS, .inl H.out.inT, .inl H.out.inH, fun i t ht => ?_⟩
          · refine MapIs.congr (HPM.out.kept (KD.out.only mt HPM.out.lt H.out.ne)) (fun key v => ?_)
            constructor
            · rintro ⟨i, t, ht, rfl, rfl⟩
              by_cases e : i = id
              · subst e; exact .inl ⟨rfl, by simp⟩
              · simp [putT, e] at ht
                exact .inr ⟨by simp [e], i, t, by simp [dropT, e, ht], rfl, by simp [e]⟩
            · rintro (⟨rfl, rfl⟩ | ⟨hne, i, t, ht, rfl, rfl⟩)
              · exact ⟨id, (spot, vals), by simp [putT], rfl, by simp⟩
              · have e : i ≠ id := by rintro rfl; exact hne rfl
                simp [dropT, e] at ht
                exact ⟨i, t, by simp [putT, e, ht], rfl, by simp [e]⟩
          · by_cases e : i = id
            · simp [putT, e] at ht
              subst ht
              exact ⟨by omega, by omega, hn, hm, hx⟩
            · simp [putT, e] at ht
              exact H.out.rng i t ht
          · by_cases e : i = id
            · simp [putT, e] at ht
              subst ht
              simp only [e, if_true]
              exact ⟨rowKept (own_less HR1.out (Nat.zero_le _)) (fun j _ ej ho => (KD.out.only j (ownLt HR1.out ej) (row_not_map HR1.out HHX.out ej)).trans ho), rowKept (own_less HR2.out (Nat.zero_le _)) (fun j _ ej ho => (KD.out.only j (ownLt HR2.out ej) (row_not_map HR2.out HHX.out ej)).trans ho)⟩
            · simp [putT, e] at ht
              simp only [e, if_false]
              obtain ⟨p1, p2⟩ := H1.out.each i t (by simp [dropT, e, ht])
              exact ⟨rowKept p1 (fun j _ ej ho => (hw1 j (ownLt p1 ej) (row_not_map p1 H1.out.thg ej) (row_not_map p1 H1.out.hold ej)).trans ho), rowKept p2 (fun j _ ej ho => (hw1 j (ownLt p2 ej) (row_not_map p2 H1.out.thg ej) (row_not_map p2 H1.out.hold ej)).trans ho)⟩
          · by_cases e : i = id
            · simp only [e, if_true]
              rintro j (ej | ej)
              · have := own_ge HR1.out ej; exact .inr (by omega)
              · have := own_ge HR2.out ej; exact .inr (by omega)
            · simp [putT, e] at ht
              simp only [e, if_false]
              intro j ej
              exact .inl (H.out.inE i t ht j ej)
        · exact ((Md.ofBelow hba).trans (HD1.out.trans (Md.ofBelow hbW))).trans ((⟨by rw [HX.out]; exact (Below.refl 0 W).drew.trans (setBlock_md W.drew mt ob).below, fun j hj h' => HOX.out j (fun e => h' (.inl e))⟩ : Md (fun j => j = mt ∨ j = mh) W X).trans (KD.out.mono (fun j hj => .inr hj)))
end
end Go.Proofs.YtbnelaoeblhndaaGreatDoor
