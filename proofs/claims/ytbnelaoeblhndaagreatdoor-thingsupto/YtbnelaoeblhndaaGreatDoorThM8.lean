import Derived.Test.YtbnelaoeblhndaaGreatDoorThM7
import Derived.Test.YtbnelaoeblhndaaGreatDoorThM4
import Derived.Test.YtbnelaoeblhndaaGreatDoorThM5
import Derived.Test.YtbnelaoeblhndaaGreatDoorThM6
import Derived.Test.YtbnelaoeblhndaaGreatDoorSynRead6
import Derived.Deep.QuietTactic
import Derived.BigQuiet
/- A store of the program in memory; the walks of New, Put, Drop and Get. -/
namespace Go.Proofs.YtbnelaoeblhndaaGreatDoor
open Go.RowKit
set_option maxRecDepth 100000

/-- A store of the program: F the blocks that are its own. -/
structure ProgAt (w : World) (F : Nat → Prop) (sb : Nat) (fs : List Doc.Fld) (space : Int) (th : Has) (fv : Value) (hb mt mh : Nat) (pos : Int → Value × Value) : Prop where
  blk : w.heap[sb]? = some (.cells #[fv, .int .i64 space, .pointer (some ⟨hb, 0, none⟩)] 99 (0, 0))
  fld : w.ownsRow 0 92 2 fv fs.length (fldsC fs)
  shf : ShelfAt w F hb th mt mh pos
  len : 1 ≤ fs.length ∧ fs.length ≤ 4
  spc : 1 ≤ space ∧ space ≤ 4
  kind : ∀ j (h : j < fs.length), fs[j].kind = 1 ∨ fs[j].kind = 2
  fits : ∀ id t, th id = some t → Doc.spotB space t.1 = true ∧ t.2.length = fs.length ∧ ∀ j (h1 : j < t.2.length) (h2 : j < fs.length), Doc.goodV t.2[j] fs[j].kind = true
  inS : F sb
  inF : ∀ k, fv.ownBlock = some k → F k

def ProgSt (w : World) (F : Nat → Prop) (sb : Nat) (fs : List Doc.Fld) (space : Int) (th : Has) : Prop := ∃ fv hb mt mh pos, ProgAt w F sb fs space th fv hb mt mh pos

theorem good_fine {v : Doc.Val} {kind : Int} (h : Doc.goodV v kind = true) : Fine v := by
  unfold Doc.goodV at h
  simp only [Bool.or_eq_true, Bool.and_eq_true, beq_iff_eq, decide_eq_true_eq] at h
  have hz : v.s.toList = [] → v.s.size = 0 := fun e => by
    rw [ByteArray.toList_eq] at e
    show v.s.data.size = 0
    rw [← Array.length_toList, e]; rfl
  rcases h with (⟨h1, h2, h3⟩ | ⟨h1, ⟨⟨h2, h3⟩, h4⟩, h5⟩) | ⟨h1, ⟨h2, h3⟩, h4⟩
  · exact ⟨.inl h1, by omega, by omega, by have := hz h3; omega⟩
  · exact ⟨.inr (.inl h1), by omega, by omega, by have := hz h3; omega⟩
  · exact ⟨.inr (.inr h1), by omega, by omega, by omega⟩

theorem spot_len {space : Int} {l : List Int} (h : Doc.spotB space l = true) : (l.length : Int) = space := by
  unfold Doc.spotB at h
  simp only [Bool.and_eq_true, beq_iff_eq] at h
  exact h.2

section
variable {w w' : World} {F : Nat → Prop} {sb : Nat} {fs : List Doc.Fld} {space : Int} {th : Has} {fv : Value} {hb mt mh : Nat} {pos : Int → Value × Value}

theorem ProgAt.lt (h : ProgAt w F sb fs space th fv hb mt mh pos) : sb < w.heap.size := lt_block h.blk
theorem ProgAt.kept {F' : Nat → Prop} (h : ProgAt w F sb fs space th fv hb mt mh pos) (hk : ∀ k, F k → k < w.heap.size → w'.heap[k]? = w.heap[k]?) (hF : ∀ k, F k → k < w.heap.size → F' k) : ProgAt w' F' sb fs space th fv hb mt mh pos :=
  ⟨(hk _ h.inS h.lt).trans h.blk, rowKept h.fld (fun k _ e ho => (hk k (h.inF k e) (ownLt h.fld e)).trans ho), h.shf.kept hk hF, h.len, h.spc, h.kind, h.fits, hF _ h.inS h.lt, fun k e => hF k (h.inF k e) (ownLt h.fld e)⟩
theorem ProgSt.kept {F' : Nat → Prop} (h : ProgSt w F sb fs space th) (hk : ∀ k, F k → k < w.heap.size → w'.heap[k]? = w.heap[k]?) (hF : ∀ k, F k → k < w.heap.size → F' k) : ProgSt w' F' sb fs space th := by
  obtain ⟨a, b, c, d, e, h⟩ := h
  exact ⟨a, b, c, d, e, h.kept hk hF⟩

theorem ProgAt.cells (h : ProgAt w F sb fs space th fv hb mt mh pos) : w.cell? ⟨sb, 0, none⟩ = some fv ∧ w.cell? ⟨sb, 1, none⟩ = some (.int .i64 space) ∧ w.cell? ⟨sb, 2, none⟩ = some (.pointer (some ⟨hb, 0, none⟩)) := st_cells h.blk

/-- The store behind a turn of its shelf. -/
theorem ProgAt.turn {th' : Has} {pos' : Int → Value × Value} {F' : Nat → Prop} (h : ProgAt w F sb fs space th fv hb mt mh pos) (hs : ShelfAt w' F' hb th' mt mh pos') (hd : Md (fun j => j = mt ∨ j = mh) w w') (hF : ∀ k, F k → F' k)
    (hf : ∀ id t, th' id = some t → Doc.spotB space t.1 = true ∧ t.2.length = fs.length ∧ ∀ j (h1 : j < t.2.length) (h2 : j < fs.length), Doc.goodV t.2[j] fs[j].kind = true) : ProgAt w' F' sb fs space th' fv hb mt mh pos' := by
  have hm : ∀ (k : Nat) (cu : Array Value) (T : TypeId) (fr : Nat × Nat), w.heap[k]? = some (.cells cu T fr) → w'.heap[k]? = w.heap[k]? := fun k cu T fr hk => hd.only k (lt_block hk) (by
    rintro (rfl | rfl)
    · obtain ⟨es, cl, hq, _⟩ := h.shf.thg.has; rw [hk] at hq; cases hq
    · obtain ⟨es, cl, hq, _⟩ := h.shf.hold.has; rw [hk] at hq; cases hq)
  refine ⟨(hm _ _ _ _ h.blk).trans h.blk, rowKept h.fld (fun k o e ho => ?_), hs, h.len, h.spc, h.kind, hf, hF _ h.inS, fun k e => hF _ (h.inF k e)⟩
  obtain ⟨_, cs', t⟩ := own_type h.fld e
  exact (hm k _ _ _ t).trans ho

theorem pdrop_none (h : ProgAt w F sb fs space th fv hb mt mh pos) (id : Int) (h0 : -9223372036854775808 ≤ id) (h1 : id ≤ 9223372036854775807) (hn : th id = none) :
    Calls Tryz.prog 22 #[.pointer (some ⟨sb, 0, none⟩), .int .i64 id] w fun e w' => e = .returned (.int .i64 4) ∧ Below w.heap.size w w' := by
  obtain ⟨c0, c1, c2⟩ := h.cells
  have HD : Hid _ := sdrop_none h.shf id h0 h1 hn
  go_enter Tryz.func22, Tryz.ntmps22
  go_wp2_with fail
  refine Calls.mono HD.out ?_
  rintro e w1 ⟨rfl, hb1⟩
  go_wp2_with fail
  go_ret
  exact ⟨rfl, hb1⟩

theorem pdrop_some (h : ProgAt w F sb fs space th fv hb mt mh pos) (id : Int) (t : List Int × List Doc.Val) (hn : th id = some t) :
    Calls Tryz.prog 22 #[.pointer (some ⟨sb, 0, none⟩), .int .i64 id] w fun e w' => e = .returned (.int .i64 0) ∧ ProgAt w' F sb fs space (dropT th id) fv hb mt mh pos ∧ Md F w w' := by
  obtain ⟨c0, c1, c2⟩ := h.cells
  obtain ⟨n, rfl⟩ : ∃ n : Nat, id = n := ⟨id.toNat, by have := (h.shf.rng id t hn).1; omega⟩
  have HD : Hid _ := sdrop_some h.shf n t hn
  have H : Hid _ := h
  clear h
  go_enter Tryz.func22, Tryz.ntmps22
  go_wp2_with fail
  refine Calls.mono HD.out ?_
  rintro e w1 ⟨rfl, h1, hd1⟩
  have H1 : Hid _ := h1
  have HD1 : Hid _ := hd1
  clear h1 hd1
  go_wp2_with fail
  go_ret
  refine ⟨rfl, H.out.turn H1.out HD1.out (fun k hk => hk) (fun i s hs => ?_), HD1.out.mono (fun k hk => by rcases hk with rfl | rfl; exact H.out.shf.inT; exact H.out.shf.inH)⟩
  by_cases e : i = n
  · simp [dropT, e] at hs
  · simp [dropT, e] at hs
    exact H.out.fits i s hs

theorem pget_none (h : ProgAt w F sb fs space th fv hb mt mh pos) (id : Int) (h0 : -9223372036854775808 ≤ id) (h1 : id ≤ 9223372036854775807) (hn : th id = none) :
    Calls Tryz.prog 32 #[.pointer (some ⟨sb, 0, none⟩), .int .i64 id] w fun e w' => e = .returned (.tuple #[.slice none 0 0, .slice none 0 0, .int .i64 4]) ∧ Below w.heap.size w w' := by
  obtain ⟨c0, c1, c2⟩ := h.cells
  have HD : Hid _ := sget_none h.shf id h0 h1 hn
  go_enter Tryz.func32, Tryz.ntmps32
  go_wp2_with fail
  refine Calls.mono HD.out ?_
  rintro e w1 ⟨rfl, hb1⟩
  go_wp2_with fail
  go_ret3
  exact ⟨rfl, hb1.alloc hb1.size _⟩

theorem pget_some (h : ProgAt w F sb fs space th fv hb mt mh pos) (id : Int) (t : List Int × List Doc.Val) (hn : th id = some t) :
    Calls Tryz.prog 32 #[.pointer (some ⟨sb, 0, none⟩), .int .i64 id] w fun e w' => ∃ v1 v2, e = .returned (.tuple #[v1, v2, .int .i64 0]) ∧ w'.ownsRow w.heap.size 3 1 v1 t.1.length (intC t.1) ∧ w'.ownsRow w.heap.size 94 3 v2 t.2.length (valsC t.2) ∧ Below w.heap.size w w' := by
  obtain ⟨c0, c1, c2⟩ := h.cells
  have HD : Hid _ := sget_some h.shf id t hn
  clear h
  go_enter Tryz.func32, Tryz.ntmps32
  go_wp2_with fail
  refine Calls.mono HD.out ?_
  rintro e w1 ⟨v1, v2, rfl, r1, r2, hb1⟩
  obtain ⟨b1, m1, rfl⟩ := row_slice r1
  obtain ⟨b2, m2, rfl⟩ := row_slice r2
  have R1 : Hid _ := row_below r1 ((Below.refl _ _).alloc (Nat.le_refl _) (.cells #[.slice b1 t.1.length m1, .slice b2 t.2.length m2] 104))
  have R2 : Hid _ := row_below r2 ((Below.refl _ _).alloc (Nat.le_refl _) (.cells #[.slice b1 t.1.length m1, .slice b2 t.2.length m2] 104))
  clear r1 r2
  go_wp2_with fail
  go_region
  all_goals
    go_wp2_with fail
    go_ret3
    exact ⟨_, _, rfl, R1.out, R2.out, (hb1.alloc hb1.size _).drew⟩

set_option maxHeartbeats 1000000 in
theorem pput_bad (id E : Int) (hE : E ≠ 0) (sv vv : Value) (hc : Calls Tryz.prog 42 #[.pointer (some ⟨sb, 0, none⟩), .int .i64 id, sv, vv] w fun e w' => e = .returned (.int .i64 E) ∧ Below w.heap.size w w') :
    Calls Tryz.prog 28 #[.pointer (some ⟨sb, 0, none⟩), .int .i64 id, sv, vv] w fun e w' => e = .returned (.int .i64 E) ∧ Below w.heap.size w w' := by
  have HC : Hid _ := hc
  have hE2 : (E != 0) = true := by simpa using hE
  clear hc hE
  go_enter Tryz.func28, Tryz.ntmps28
  go_wp2_with fail
  refine Calls.mono HC.out ?_
  rintro e w1 ⟨rfl, hb1⟩
  go_wp2_with fail
  go_ret
  exact ⟨rfl, hb1⟩

set_option maxHeartbeats 1000000 in
theorem pput_ok (h : ProgAt w F sb fs space th fv hb mt mh pos) (id : Int) (sv vv : Value) (spot : List Int) (vals : List Doc.Val) (hs : Sl w sv spot.length (intC spot)) (hv : Sl w vv vals.length (valsC vals))
    (k1 : 0 ≤ id) (k2 : id ≤ 4095) (k3 : Doc.spotB space spot = true) (k4 : vals.length = fs.length) (k5 : ∀ j (h1 : j < vals.length) (h2 : j < fs.length), Doc.goodV vals[j] fs[j].kind = true) :
    Calls Tryz.prog 28 #[.pointer (some ⟨sb, 0, none⟩), .int .i64 id, sv, vv] w fun e w' => e = .returned (.int .i64 0) ∧ ProgSt w' (fun k => F k ∨ w.heap.size ≤ k) sb fs space (putT th id (spot, vals)) ∧ Md F w w' := by
  obtain ⟨c0, c1, c2⟩ := h.cells
  obtain ⟨n, rfl⟩ : ∃ n : Nat, id = n := ⟨id.toNat, by omega⟩
  have hl := spot_len k3
  have hsp := h.spc
  have hfl := h.len
  have hfine : ∀ x ∈ vals, Fine x := fun x hx => by
    obtain ⟨j, hj, rfl⟩ := List.getElem_of_mem hx
    exact good_fine (k5 j hj (by omega))
  have HC : Hid _ := cput_any sb h.lt fs h.kind space n fv sv vv c0 c1 (rowSl h.fld) spot vals hs hv (by omega) (by omega) (by omega) k1 k2 k3 k4
  have HS : Hid (∀ W, Below w.heap.size w W → Calls Tryz.prog 43 #[.pointer (some ⟨hb, 0, none⟩), .int .i64 n, .agg #[sv, vv]] W fun e w' => e = .returned (.tuple #[]) ∧ (∃ pos', ShelfAt w' (fun k => F k ∨ W.heap.size ≤ k) hb (putT th n (spot, vals)) mt mh pos') ∧ Md (fun j => j = mt ∨ j = mh) W w') :=
    fun W hW => sput_any (h.shf.kept (w' := W) (F' := F) (fun k _ hk => hW.block k hk) (fun k hk _ => hk)) n (by omega) sv vv spot vals (hs.below hW) (hv.below hW) (by omega) (by omega) hfine
  obtain ⟨b1, m1, e1⟩ := hs.slice
  obtain ⟨b2, m2, e2⟩ := hv.slice
  subst e1 e2
  have H : Hid _ := h
  have K5 : Hid _ := k5
  have hlt := h.lt
  have K3 : Hid _ := k3
  have K4 : Hid _ := k4
  clear hs hv h k5 k3 k4 hl
  go_enter Tryz.func28, Tryz.ntmps28
  go_wp2_with fail
  refine Calls.mono HC.out ?_
  rintro e w1 ⟨hb1, he⟩
  obtain rfl : e = .returned (.int .i64 0) := by
    rcases he with ⟨_, j, h1, h2, hbad⟩ | ⟨e1, _⟩
    · rw [K5.out j h1 h2] at hbad; cases hbad
    · exact e1
  clear he
  have d2 := (hb1.cell (p := ⟨sb, 2, none⟩) hlt).trans c2
  have HB1 : Hid _ := hb1
  go_wp2_with fail
  refine (HS.out w1 HB1.out).mono ?_
  rintro e w2 ⟨rfl, ⟨pos', hs2⟩, hd2⟩
  have HS2 : Hid _ := hs2
  have HD2 : Hid _ := hd2
  clear hs2 hd2
  go_wp2_with fail
  go_ret
  have hk1 := H.out.kept (w' := w1) (F' := F) (fun k _ hk => HB1.out.block k hk) (fun k hk _ => hk)
  have hsz := HB1.out.size
  refine ⟨rfl, ⟨fv, hb, mt, mh, pos', ?_⟩, (Md.ofBelow HB1.out).trans (HD2.out.mono (fun k hk => by rcases hk with rfl | rfl; exact H.out.shf.inT; exact H.out.shf.inH))⟩
  refine hk1.turn (HS2.out.kept (fun k _ _ => rfl) (fun k hk _ => ?_)) HD2.out (fun k hk => .inl hk) (fun i s hs => ?_)
  · rcases hk with hk | hk
    · exact .inl hk
    · exact .inr (by omega)
  · by_cases e : i = n
    · simp [putT, e] at hs
      subst hs
      exact ⟨K3.out, K4.out, K5.out⟩
    · simp [putT, e] at hs
      exact H.out.fits i s hs
end
end Go.Proofs.YtbnelaoeblhndaaGreatDoor
/- The walks of shelf.New and of the program's New. -/
namespace Go.Proofs.YtbnelaoeblhndaaGreatDoor
open Go.RowKit
set_option maxRecDepth 100000

def noneT : Has := fun _ => none

section
variable {w w' : World}

theorem snew_any (w : World) : Calls Tryz.prog 63 #[] w fun e w' => ∃ mt mh hb, e = .returned (.pointer (some ⟨hb, 0, none⟩)) ∧ ShelfAt w' (fun k => w.heap.size ≤ k) hb noneT mt mh (fun _ => (.slice none 0 0, .slice none 0 0)) ∧ Below w.heap.size w w' := by
  have hmm := @run_makeMap Tryz.prog
  go_enter Tryz.func63, Tryz.ntmps63
  go_wp2_with fail
  go_ret
  have q0 := heap_alloc3_0 w (.map #[] 0) (.map #[] 0) (.cells #[.map (some w.heap.size), .map (some (w.heap.size + 1))] 152)
  have q1 := heap_alloc3_1 w (.map #[] 0) (.map #[] 0) (.cells #[.map (some w.heap.size), .map (some (w.heap.size + 1))] 152)
  have q2 := heap_alloc3_2 w (.map #[] 0) (.map #[] 0) (.cells #[.map (some w.heap.size), .map (some (w.heap.size + 1))] 152)
  refine ⟨w.heap.size, w.heap.size + 1, w.heap.size + 1 + 1, rfl, ⟨q2, ?_, ?_, by omega, fun id t h => (by cases h), fun id t h => (by cases h), by omega, by omega, by omega, fun id t h => (by cases h)⟩, ((((Below.refl _ _).alloc (Nat.le_refl _) _).alloc (by simp) _).alloc (by simp; omega) _)⟩
  · exact ⟨#[], 0, q0, MapKept.stamped_empty 0, by simp, fun key v => ⟨fun h => (by obtain ⟨i, t, h, _⟩ := h; cases h), fun h => (by obtain ⟨e, h, _⟩ := h; simp at h)⟩⟩
  · exact ⟨#[], 0, q1, MapKept.stamped_empty 0, by simp, fun key v => ⟨fun h => (by obtain ⟨f, x, ws, _, _, _, _, _, j, _, t, h, _⟩ := h; cases h), fun h => (by obtain ⟨e, h, _⟩ := h; simp at h)⟩⟩

theorem pnew_bad (fv : Value) (space E : Int) (hE : E ≠ 0) (hc : Calls Tryz.prog 61 #[fv, .int .i64 space] w fun e w' => e = .returned (.int .i64 E) ∧ Below w.heap.size w w') :
    Calls Tryz.prog 39 #[fv, .int .i64 space] w fun e w' => e = .returned (.tuple #[.pointer none, .int .i64 E]) ∧ Below w.heap.size w w' := by
  have HC : Hid _ := hc
  have hE2 : (E != 0) = true := by simpa using hE
  clear hc hE
  go_enter Tryz.func39, Tryz.ntmps39
  go_wp2_with fail
  refine Calls.mono HC.out ?_
  rintro e w1 ⟨rfl, hb1⟩
  go_wp2_with fail
  go_ret2
  exact ⟨rfl, hb1⟩

set_option maxHeartbeats 1000000 in
theorem pnew_ok (hsg : Signs w) (hg0 : 1 < w.heap.size) (fs : List Doc.Fld) (fv : Value) (hs : Sl w fv fs.length (fldsC fs)) (space : Int) (k1 : 1 ≤ fs.length) (k2 : fs.length ≤ 4) (k3 : 1 ≤ space) (k4 : space ≤ 4) (hnm : ∀ j (h : j < fs.length), fs[j].name.size ≤ 140737488351232)
    (k5 : ∀ j (h : j < fs.length), Doc.kindB fs[j].kind = true) (k6 : ∀ j (h : j < fs.length), (Doc.nameB fs[j].name && !Doc.hasB (fs.take j) fs[j].name) = true) :
    Calls Tryz.prog 39 #[fv, .int .i64 space] w fun e w' => ∃ sb, e = .returned (.tuple #[.pointer (some ⟨sb, 0, none⟩), .int .i64 0]) ∧ ProgSt w' (fun k => w.heap.size ≤ k) sb fs space noneT ∧ Below w.heap.size w w' := by
  have HC : Hid _ := cnew_any hsg hg0 fs fv hs space k1 k2 k3 k4 hnm
  have HO : Hid (∀ W, Below w.heap.size w W → Calls Tryz.prog 62 #[fv] W fun e w' => ∃ v, e = .returned v ∧ w'.ownsRow W.heap.size 92 2 v fs.length (fldsC fs) ∧ Below W.heap.size W w') := fun W hW => ownFields_any fs k1 k2 fv (hs.below hW) hnm
  have K5 : Hid _ := k5
  have K6 : Hid _ := k6
  clear k5 k6 hs
  go_enter Tryz.func39, Tryz.ntmps39
  go_wp2_with fail
  refine Calls.mono HC.out ?_
  rintro e w1 ⟨hb1, he⟩
  obtain rfl : e = .returned (.int .i64 0) := by
    rcases he with ⟨_, j, h1, hbad⟩ | ⟨_, _, j, h1, hbad⟩ | ⟨_, _, e1⟩
    · rw [K5.out j h1] at hbad; cases hbad
    · rw [K6.out j h1] at hbad; cases hbad
    · exact e1
  clear he
  have HB1 : Hid _ := hb1
  go_wp2_with fail
  refine (HO.out w1 HB1.out).mono ?_
  rintro e w2 ⟨v, rfl, r2, hb2⟩
  obtain ⟨b, c, rfl⟩ := row_slice r2
  have R2 : Hid _ := r2
  have HB2 : Hid _ := hb2
  clear r2 hb1 hb2
  go_wp2_with fail
  refine (snew_any w2).mono ?_
  rintro e w3 ⟨mt, mh, hb, rfl, hs3, hb3⟩
  have HS3 : Hid _ := hs3
  have HB3 : Hid _ := hb3
  clear hs3 hb3
  go_wp2_with fail
  go_ret2
  have s1 := HB1.out.size
  have s2 := HB2.out.size
  have s3 := HB3.out.size
  have hal : ∀ k, k < w3.heap.size → (w3.alloc (.cells #[.slice b fs.length c, .int .i64 space, .pointer (some ⟨hb, 0, none⟩)] 99)).heap[k]? = w3.heap[k]? := fun k hk => Below.heap_alloc _ _ _ hk
  refine ⟨w3.heap.size, rfl, ⟨.slice b fs.length c, hb, mt, mh, _, ⟨heap_alloc_new w3 _, ?_, HS3.out.kept (fun k _ hk => hal k hk) (fun k hk _ => by show w.heap.size ≤ k; omega), ⟨k1, k2⟩, ⟨k3, k4⟩, fun j h => ?_, fun id t h => (by cases h), by show w.heap.size ≤ w3.heap.size; omega, fun k e => ?_⟩⟩, ?_⟩
  · exact rowKept (own_less R2.out (Nat.zero_le _)) (fun k _ ek ho => (hal k (Nat.lt_of_lt_of_le (ownLt R2.out ek) s3)).trans ((HB3.out.block k (ownLt R2.out ek)).trans ho))
  · have := K5.out j h
    simp [Doc.kindB] at this
    exact this
  · have := own_ge R2.out e; show w.heap.size ≤ k; omega
  · exact ((HB1.out.trans (HB2.out.mono s1)).trans (HB3.out.mono (by omega))).alloc (by omega) _
end
end Go.Proofs.YtbnelaoeblhndaaGreatDoor
/- append onto a list that stays in use; the book's numbers. -/
namespace Go.Proofs.YtbnelaoeblhndaaGreatDoor
open Go.RowKit
set_option maxRecDepth 100000

/-- append: either there was room, and the row of the old list alone is written, or a new row is made, and nothing is written. -/
theorem wpList_append_or {P : Program} (w : World) {ops : Array Oper} {rest : List Oper} {o : Oper} {a : Act} {Q : Exit → Act → World → Prop} (hgd : o.guard = none) (s x : Operand) (t : TypeId)
    (ho : o.op = .call { callee := .builtin .append, args := #[s, x], argTypes := #[t, t] })
    (base : Nat) (e : TypeId) (i : TypeInfo) (z : Value) (size bytes : Nat) (ht : P.underlying t = some (.slice e)) (hi : P.info? e = some i) (hz : i.zero = some z)
    (hsize : i.size = size) (hby : i.bytes = bytes) (hzs : z.cells.size = size) (hsz : 0 < size)
    (v : Value) (n : Nat) (xs : List Value) (hs : a.eval s = v) (hown : w.ownsRow base e size v n xs)
    (ad : Addr) (m c : Nat) (news : List Value) (hx : a.eval x = .slice (some ad) m c) (hm : 0 < m) (hl : news.length = m * size) (hnews : ∀ j u, news[j]? = some u → w.cell? (ad.add j) = some u) (h1 : ∀ u ∈ news, u.oneCell' = true)
    (h63 : n + m ≤ maxLen) (hbytes : (n + m) * bytes ≤ 140737488355328) (hbase : base ≤ w.heap.size)
    (h : ∀ g cap w', w'.ownsRow base e size (.slice (some ⟨g, 0, none⟩) (n + m) cap) (n + m) (xs ++ news) → ((v = .slice (some ⟨g, 0, none⟩) n cap ∧ w.grownBy w' (some g)) ∨ (g = w.heap.size ∧ Below w.heap.size w w')) → wpList P ops Q rest (a.put o.dst (.slice (some ⟨g, 0, none⟩) (n + m) cap)) w') :
    wpList P ops Q (o :: rest) a w := by
  refine wpList_plain hgd fun K hK => ?_
  obtain ⟨v', w', hr, h2, h3, _, h5⟩ := run_append_own_at (P := P) w base t o.type e i z size bytes ht hi hz hsize hby hzs hsz v n xs hown ad m c news hl hnews h1 h63 hbytes hbase
  obtain ⟨g, cap, rfl⟩ := own_slice' h2 (by omega)
  have key : (v = .slice (some ⟨g, 0, none⟩) n cap ∧ w.grownBy w' (some g)) ∨ (g = w.heap.size ∧ Below w.heap.size w w') := by
    rcases hown.2 with ⟨rfl, rfl⟩ | ⟨g0, cap0, cur, rfl, hbg, hg0, hnc, hcm, hcs, htake⟩
    · refine .inr ⟨?_, (Below.refl _ _).grown h3 (Nat.le_refl _) (fun k e => by cases e)⟩
      rcases h5 with h5 | h5
      · cases h5
      · simpa [Value.ownBlock] using h5
    · by_cases hroom : n + m ≤ cap0
      · have hfit : n * i.size + news.length ≤ cur.size := by rw [hl, hsize, hcs, ← Nat.add_mul]; exact Nat.mul_le_mul_right _ hroom
        have hr2 := run_append_room (P := P) w t o.type e i ht hi g0 n cap0 cur hg0 ad m c news (by rw [hsize]; exact hl) hnews h1 hroom hfit
        rw [hr] at hr2
        simp only [Result.ok.injEq, Value.slice.injEq, Option.some.injEq] at hr2
        have hk : g = g0 := congrArg Addr.block hr2.1.1
        have hc : cap = cap0 := hr2.1.2.2
        subst hk hc
        exact .inl ⟨rfl, h3⟩
      · have hr2 := run_append_grow (P := P) w t o.type e i z ht hi hz ⟨g0, 0, none⟩ n cap0 xs (by rw [hsize]; exact hown.1) (hown.cells (g := g0) rfl) ad m c news (by rw [hsize]; exact hl) hnews (by omega) (by simp only [maxLen] at h63; omega) (by rw [hby]; exact growslice_fits (by omega) hbytes)
        rw [hr] at hr2
        simp only [Result.ok.injEq, Value.slice.injEq, Option.some.injEq] at hr2
        have hk : g = w.heap.size := congrArg Addr.block hr2.1.1
        refine .inr ⟨hk, ?_⟩
        rw [hr2.2]
        exact (Below.refl w.heap.size w).drew.alloc (Nat.le_refl _) _
  unfold Oper.wp execOp
  simp only [ho, resolve, invoke, builtin, Sem.run_bind, Sem.run_pure, Result.andThen_ok, List.map_toArray, List.map_cons, List.map_nil, hs, hx, hr]
  exact hK _ _ (h g cap w' h2 key)

theorem flat_take {α : Type} (mk : List α) (size : Nat) (hs : mk.length = size) : ∀ (k m : Nat), ((List.replicate (k + m) mk).flatten).take (k * size) = (List.replicate k mk).flatten := by
  intro k m
  rw [← List.replicate_append_replicate, List.flatten_append, List.take_left']
  simp [hs]

/-- A row of marks beside another of the same mark: it stays behind an append to that. -/
theorem row_marks {w w' : World} {e size : Nat} {v r : Value} {n m k g cap : Nat} {mk : List Value} (hs : mk.length = size) (hv : w.ownsRow 0 e size v n (List.replicate n mk).flatten) (hr : w.ownsRow 0 e size r k (List.replicate k mk).flatten) (hk : k ≤ n + m)
    (h' : w'.ownsRow 0 e size (.slice (some ⟨g, 0, none⟩) (n + m) cap) (n + m) (List.replicate (n + m) mk).flatten) (ho : (v = .slice (some ⟨g, 0, none⟩) n cap ∧ w.grownBy w' (some g)) ∨ (g = w.heap.size ∧ Below w.heap.size w w')) :
    w'.ownsRow 0 e size r k (List.replicate k mk).flatten := by
  rcases hr.2 with ⟨h0, h1⟩ | ⟨gr, capr, curr, rfl, h0, h1, h2, h3, h4, h5⟩
  · exact ⟨hr.1, .inl ⟨h0, h1⟩⟩
  rcases ho with ⟨rfl, hg⟩ | ⟨rfl, hb⟩
  · by_cases e1 : gr = g
    · subst e1
      obtain ⟨cv, q1, q2, q3⟩ := own_block hv
      rw [h1] at q1; cases q1
      obtain ⟨cur', p1, p2, p3⟩ := own_block h'
      refine ⟨hr.1, .inr ⟨gr, capr, cur', rfl, h0, p1, h2, h3, by omega, ?_⟩⟩
      obtain ⟨d, hd⟩ : ∃ d, n + m = k + d := ⟨n + m - k, by omega⟩
      have : cur'.toList.take ((n + m) * size) = (List.replicate (n + m) mk).flatten := by
        rcases h'.2 with ⟨e2, _⟩ | ⟨g2, c2, cur2, e2, _, a1, _, _, _, a2⟩
        · cases e2
        · cases e2; rw [p1] at a1; cases a1; exact a2
      rw [hd] at this
      have h6 := congrArg (List.take (k * size)) this
      rw [flat_take mk size hs k d, List.take_take, Nat.min_eq_left (Nat.mul_le_mul_right _ (by omega))] at h6
      exact h6
    · exact ⟨hr.1, .inr ⟨gr, capr, curr, rfl, h0, (hg.block gr (lt_block h1) (fun e => e1 (Option.some.inj e))).trans h1, h2, h3, h4, h5⟩⟩
  · exact ⟨hr.1, .inr ⟨gr, capr, curr, rfl, h0, (hb.block gr (lt_block h1)).trans h1, h2, h3, h4, h5⟩⟩

/-- The numbers' half of the book. -/
structure BookN (w : World) (F : Nat → Prop) (nsv knv : Value) (rows : List Value) (marks : List Int) : Prop where
  ns : w.ownsRow 0 33 1 nsv rows.length rows
  kn : w.ownsRow 0 3 1 knv marks.length (intC marks)
  len : rows.length = marks.length
  each : ∀ i (h : i < rows.length) (h' : i < marks.length), ∃ n, w.ownsRow 0 3 1 rows[i] n (List.replicate n (.int .i64 marks[i])) ∧ ∀ k, rows[i].ownBlock = some k → F k ∧ knv.ownBlock ≠ some k
  inN : ∀ k, nsv.ownBlock = some k → F k
  inK : ∀ k, knv.ownBlock = some k → F k

section
variable {w : World} {F : Nat → Prop} {wb : Nat} {lv nsv knv vsv kvv hsv khv : Value} {rows : List Value} {marks : List Int}

theorem rep_flat (n : Nat) (u : Value) : (List.replicate n [u]).flatten = List.replicate n u := by
  induction n with
  | zero => rfl
  | succ n ih => rw [List.replicate_succ, List.flatten_cons, ih]; rfl

/-- Behind an append of marks to a row of the same. -/
theorem appI {W w1 : World} {lb : Option Addr} {lc n m g cap S : Nat} {u : Value} {ms : List Value} (hl : W.ownsRow 0 3 1 (.slice lb n lc) n (List.replicate n u)) (hown : w1.ownsRow 0 3 1 (.slice (some ⟨g, 0, none⟩) (n + m) cap) (n + m) (List.replicate n u ++ ms)) (hms : ms = List.replicate m u) (hS : W.heap.size = S)
    (hor : (lb = some ⟨g, 0, none⟩ ∧ lc = cap) ∧ W.grownBy w1 (some g) ∨ g = S ∧ Below S W w1) :
    (∀ r k, k ≤ n + m → W.ownsRow 0 3 1 r k (List.replicate k u) → w1.ownsRow 0 3 1 r k (List.replicate k u)) ∧ w1.ownsRow 0 3 1 (.slice (some ⟨g, 0, none⟩) (n + m) cap) (n + m) (List.replicate (n + m) u) ∧ Md (fun k => (Value.slice lb n lc).ownBlock = some k) W w1 ∧ ((Value.slice lb n lc).ownBlock = some g ∨ W.heap.size ≤ g) := by
  subst hS
  rw [hms, List.replicate_append_replicate] at hown
  have hor' : (Value.slice lb n lc = .slice (some ⟨g, 0, none⟩) n cap ∧ W.grownBy w1 (some g)) ∨ (g = W.heap.size ∧ Below W.heap.size W w1) := by
    rcases hor with ⟨⟨rfl, rfl⟩, h⟩ | h
    · exact .inl ⟨rfl, h⟩
    · exact .inr h
  refine ⟨fun r k hk hr => ?_, hown, ?_, ?_⟩
  · have := row_marks (mk := [u]) (m := m) rfl (by rw [rep_flat]; exact hl) (by rw [rep_flat]; exact hr) hk (by rw [rep_flat]; exact hown) hor'
    rw [rep_flat] at this
    exact this
  · rcases hor with ⟨⟨rfl, rfl⟩, h⟩ | ⟨_, h⟩
    · exact (Md.refl _ W).grown h (fun k e => .inl e)
    · exact Md.ofBelow h
  · rcases hor with ⟨⟨rfl, rfl⟩, _⟩ | ⟨h, _⟩
    · exact .inl rfl
    · exact .inr (by omega)

theorem orMd {W w1 : World} {lb : Option Addr} {lc n g cap S : Nat} (hS : W.heap.size = S) (hor : (lb = some ⟨g, 0, none⟩ ∧ lc = cap) ∧ W.grownBy w1 (some g) ∨ g = S ∧ Below S W w1) :
    Md (fun k => (Value.slice lb n lc).ownBlock = some k) W w1 ∧ ((Value.slice lb n lc).ownBlock = some g ∨ W.heap.size ≤ g) := by
  subst hS
  refine ⟨?_, ?_⟩
  · rcases hor with ⟨⟨rfl, rfl⟩, h⟩ | ⟨_, h⟩
    · exact (Md.refl _ W).grown h (fun k e => .inl e)
    · exact Md.ofBelow h
  · rcases hor with ⟨⟨rfl, rfl⟩, _⟩ | ⟨h, _⟩
    · exact .inl rfl
    · exact .inr (by omega)

theorem Tryz.infoSlI : (Tryz.prog.info? 33).map (fun i => (i.zero, i.size, i.bytes)) = some (some (.slice none 0 0), 1, 24) := by kernel_rfl
def worldO (lv nsv knv vsv kvv hsv khv : Value) : Obj := .cells #[lv, nsv, knv, vsv, kvv, hsv, khv] 83 (0, 0)

set_option maxHeartbeats 2000000 in
theorem numbers_any (hw : w.heap[wb]? = some (worldO lv nsv knv vsv kvv hsv khv)) (hb : BookN w F nsv knv rows marks) (hF : ¬ F wb) (hrl : rows.length ≤ 1000000000) (xs : List Int) (l : Value) (hl : w.ownsRow 0 3 1 l xs.length (intC xs)) (hxl : xs.length ≤ 1000000000) (hlF : ∀ k, l.ownBlock = some k → ¬ F k) :
    Calls Tryz.prog 99 #[.pointer (some ⟨wb, 1, none⟩), l] w fun e w' => e = .returned (.tuple #[]) ∧ ∃ nsv' knv' rows' marks', w'.heap[wb]? = some (worldO lv nsv' knv' vsv kvv hsv khv) ∧ BookN w' (fun k => F k ∨ l.ownBlock = some k ∨ w.heap.size ≤ k) nsv' knv' rows' marks' ∧ rows'.length = rows.length + 4 ∧ Md (fun k => k = wb ∨ F k ∨ l.ownBlock = some k) w w' := by
  obtain ⟨i0, hi, hz0, hz1, hz2⟩ := info_parts Tryz.infoIntT
  have c1 : w.cell? ⟨wb, 1, none⟩ = some nsv := blk_cell hw 1 _ rfl
  obtain ⟨b1, m1, e1⟩ := row_slice hb.ns
  subst e1
  obtain ⟨lb, lc, e2⟩ := row_slice hl
  subst e2
  obtain ⟨b5, m5, e3⟩ := row_slice hb.kn
  subst e3
  have hml := hb.len
  obtain ⟨q, hq, hql⟩ : ∃ q : Nat, (rows.length : Int) / 4 = (q : Int) ∧ q ≤ 1000000000 := ⟨rows.length / 4, by omega, by omega⟩
  have hwq : IntKind.i64.wrap (q : Int) = (q : Int) := by rw [IntKind.wrap_i64]; omega
  have HW : Hid _ := hw
  have HB : Hid _ := hb
  have HL : Hid _ := hl
  have hwl := lt_block hw
  have hmk5 : marks.length ≤ 1000000000 := by omega
  clear hw hb hl hml
  go_enter Tryz.func99, Tryz.ntmps99
  go_wp2_with fail
  obtain ⟨mk, HMK⟩ : ∃ mk : Int, Hid (mk = -20000000 - (q : Int)) := ⟨_, rfl⟩
  rw [← HMK.out]
  have HLF : Hid _ := hlF
  clear hq hql hwq c1 hlF
  go_loopw [5] (fun i wr => ∃ k : Nat, k ≤ xs.length ∧ i = .int .i64 k ∧ Hid (wr.ownsRow 0 3 1 (.slice lb xs.length lc) xs.length (List.replicate k (.int .i64 mk) ++ (intC xs).drop k)) ∧ Hid (Md (fun k => (Value.slice lb xs.length lc).ownBlock = some k) w wr)) (fun i _ => xs.length - (intOf i).toNat)
  case atStart => exact ⟨0, Nat.zero_le _, rfl, HL.out, Md.refl _ _⟩
  case round =>
    obtain ⟨k, hk, rfl, KR, KD⟩ := hrel
    by_cases hk2 : k < xs.length
    · obtain ⟨vb, vc, hvb⟩ := own_slice' KR.out (by omega)
      obtain rfl : lb = some ⟨vb, 0, none⟩ := by simp at hvb; exact hvb.1
      obtain rfl : lc = vc := by simp at hvb; exact hvb
      clear hvb
      obtain ⟨cur, hcur, hc1, hc2⟩ := own_block KR.out
      have hvl := lt_block hcur
      have hkc : k < cur.size := by omega
      obtain ⟨u, z0⟩ : ∃ u, wr.cell? ⟨vb, k, none⟩ = some u := ⟨_, blk_cell hcur k _ (Array.getElem?_eq_getElem hkc)⟩
      have f0 := blk_free hcur k
      have HST : Hid ((wr.setCell ⟨vb, k, none⟩ (.int .i64 mk)).ownsRow 0 3 1 (.slice (some ⟨vb, 0, none⟩) xs.length lc) xs.length (List.replicate (k + 1) (.int .i64 mk) ++ (intC xs).drop (k + 1))) := by
        rcases KR.out.2 with ⟨e, _⟩ | ⟨g, cap, cu, e, p0, p1, p2, p3, p4, p5⟩
        · cases e
        · cases e
          refine ⟨by simp [intC]; omega, .inr ⟨vb, lc, _, rfl, p0, set_blk' p1 k _, p2, p3, by simpa using p4, ?_⟩⟩
          rw [Array.toList_setIfInBounds, List.take_set, p5]
          apply List.ext_getElem?
          intro j
          rw [List.getElem?_set]
          simp only [List.getElem?_append, List.length_replicate, List.getElem?_replicate, List.getElem?_drop]
          have hil : (intC xs).length = xs.length := by simp [intC]
          by_cases e1 : k = j
          · subst e1; simp [hil]; omega
          · by_cases e2 : j < k
            · simp [e1, e2, show j < k + 1 by omega]
            · simp [e1, e2, show ¬ j < k + 1 by omega, show k + (j - k) = k + 1 + (j - (k + 1)) by omega]
      clear hcur hc1 hc2 hkc
      go_wp2_with fail
      go_roundw
      case rel => exact ⟨k + 1, by omega, by go_num, HST, KD.out.set _ (.inl rfl)⟩
      case measure => simp [intOf]; omega
    · obtain rfl : k = xs.length := by omega
      obtain ⟨n, hn⟩ : ∃ n, n = xs.length := ⟨_, rfl⟩
      have KR0 : Hid (wr.ownsRow 0 3 1 (.slice lb xs.length lc) xs.length (List.replicate xs.length (.int .i64 mk))) := by
        have := KR.out
        rw [show (intC xs).drop xs.length = [] from List.drop_of_length_le (by simp [intC]), List.append_nil] at this
        exact this
      clear hn KR
      go_wp2_with (at_builtin; refine wpList_append_or _ rfl _ _ 33 rfl 0 3 i0 _ 1 8 Tryz.underlying33 hi hz0 hz1 hz2 rfl (by decide) _ _ _ rfl (row_below KR0.out ((Below.refl _ _).alloc (Nat.le_refl _) _)) ⟨wr.heap.size, 0, none⟩ 1 1 [.int .i64 mk] rfl (by decide) rfl ?c1 ?c2 ?c3 ?c4 ?c5 ?_)
      case c1 => exact cells_new_at _ [.int .i64 mk] _ _ (by simp)
      case c2 => intro u hu; simp only [List.mem_cons, List.not_mem_nil, or_false] at hu; rw [hu]; rfl
      case c3 => unfold maxLen; omega
      case c4 => omega
      case c5 => omega
      intro g1 p1 w1 own1 or1
      obtain ⟨A1, B1, D1, E1⟩ := appI (row_below KR0.out ((Below.refl _ _).alloc (Nat.le_refl _) _)) own1 rfl (by simp) or1
      have HA0 : Hid _ := A1 _ xs.length (by omega) (row_below KR0.out ((Below.refl _ _).alloc (Nat.le_refl _) _))
      have HB1 : Hid _ := B1
      have HD1 : Hid (Md (fun k => (Value.slice lb xs.length lc).ownBlock = some k) w w1) := (KD.out.alloc _).trans D1
      have HE1 : Hid ((Value.slice lb xs.length lc).ownBlock = some g1 ∨ w.heap.size ≤ g1) := by
        rcases E1 with h | h
        · exact .inl h
        · have := KD.out.size; exact .inr (by simp at h; omega)
      clear own1 or1 A1 B1 D1 E1
      go_wp2_with (at_builtin; refine wpList_append_or _ rfl _ _ 33 rfl 0 3 i0 _ 1 8 Tryz.underlying33 hi hz0 hz1 hz2 rfl (by decide) _ _ _ rfl (row_below HA0.out ((Below.refl _ _).alloc (Nat.le_refl _) _)) ⟨w1.heap.size, 0, none⟩ 2 2 [.int .i64 mk, .int .i64 mk] rfl (by decide) rfl ?c1 ?c2 ?c3 ?c4 ?c5 ?_)
      case c1 => exact cells_new_at _ [.int .i64 mk, .int .i64 mk] _ _ (by simp)
      case c2 => intro u hu; simp only [List.mem_cons, List.not_mem_nil, or_false, or_self] at hu; rw [hu]; rfl
      case c3 => unfold maxLen; omega
      case c4 => omega
      case c5 => omega
      intro g2 p2 w2 own2 or2
      obtain ⟨A2, B2, D2, E2⟩ := appI (row_below HA0.out ((Below.refl _ _).alloc (Nat.le_refl _) _)) own2 rfl (by simp) or2
      have HA1 : Hid _ := A2 _ xs.length (by omega) (row_below HA0.out ((Below.refl _ _).alloc (Nat.le_refl _) _))
      have HG1 : Hid _ := A2 _ (xs.length + 1) (by omega) (row_below HB1.out ((Below.refl _ _).alloc (Nat.le_refl _) _))
      have HB2 : Hid _ := B2
      have HD2 : Hid (Md (fun k => (Value.slice lb xs.length lc).ownBlock = some k) w w2) := (HD1.out.alloc _).trans D2
      have HE2 : Hid ((Value.slice lb xs.length lc).ownBlock = some g2 ∨ w.heap.size ≤ g2) := by
        rcases E2 with h | h
        · exact .inl h
        · have := HD1.out.size; exact .inr (by simp at h; omega)
      clear own2 or2 A2 B2 D2 E2 HA0 HB1 HD1
      go_wp2_with (at_builtin; refine wpList_append_or _ rfl _ _ 33 rfl 0 3 i0 _ 1 8 Tryz.underlying33 hi hz0 hz1 hz2 rfl (by decide) _ _ _ rfl (row_below HA1.out ((Below.refl _ _).alloc (Nat.le_refl _) _)) ⟨w2.heap.size, 0, none⟩ 3 3 [.int .i64 mk, .int .i64 mk, .int .i64 mk] rfl (by decide) rfl ?c1 ?c2 ?c3 ?c4 ?c5 ?_)
      case c1 => exact cells_new_at _ [.int .i64 mk, .int .i64 mk, .int .i64 mk] _ _ (by simp)
      case c2 => intro u hu; simp only [List.mem_cons, List.not_mem_nil, or_false, or_self] at hu; rw [hu]; rfl
      case c3 => unfold maxLen; omega
      case c4 => omega
      case c5 => omega
      intro g3 p3 w3 own3 or3
      obtain ⟨A3, B3, D3, E3⟩ := appI (row_below HA1.out ((Below.refl _ _).alloc (Nat.le_refl _) _)) own3 rfl (by simp) or3
      have HL3 : Hid _ := A3 _ xs.length (by omega) (row_below HA1.out ((Below.refl _ _).alloc (Nat.le_refl _) _))
      have HG3 : Hid _ := A3 _ (xs.length + 1) (by omega) (row_below HG1.out ((Below.refl _ _).alloc (Nat.le_refl _) _))
      have HH3 : Hid _ := A3 _ (xs.length + 2) (by omega) (row_below HB2.out ((Below.refl _ _).alloc (Nat.le_refl _) _))
      have HJ3 : Hid _ := B3
      have HD3 : Hid (Md (fun k => (Value.slice lb xs.length lc).ownBlock = some k) w w3) := (HD2.out.alloc _).trans D3
      have HE3 : Hid ((Value.slice lb xs.length lc).ownBlock = some g3 ∨ w.heap.size ≤ g3) := by
        rcases E3 with h | h
        · exact .inl h
        · have := HD2.out.size; exact .inr (by simp at h; omega)
      clear own3 or3 A3 B3 D3 E3 HA1 HG1 HB2 HD2
      have hnl : ∀ (k : Nat) (cu : Array Value) (T : TypeId) (fr : Nat × Nat), w.heap[k]? = some (.cells cu T fr) → T ≠ 3 → w3.heap[k]? = w.heap[k]? := fun k cu T fr hk hT => HD3.out.only k (lt_block hk) (fun e => by
        obtain ⟨_, cs', t⟩ := own_type HL.out e
        rw [hk] at t; cases t; exact hT rfl)
      have hw3 : w3.heap[wb]? = some (worldO lv (.slice b1 rows.length m1) (.slice b5 marks.length m5) vsv kvv hsv khv) := (hnl wb _ _ _ HW.out (by decide)).trans HW.out
      have hns3 : w3.ownsRow 0 33 1 (.slice b1 rows.length m1) rows.length rows := rowKept HB.out.ns (fun k _ ek ho => by
        obtain ⟨_, cs', t⟩ := own_type HB.out.ns ek
        exact (hnl k _ _ _ t (by decide)).trans ho)
      have d1 : w3.cell? ⟨wb, 1, none⟩ = some (.slice b1 rows.length m1) := blk_cell hw3 1 _ rfl
      obtain ⟨i1, hi1, hy0, hy1, hy2⟩ := info_parts Tryz.infoSlI
      have HNS3 : Hid _ := hns3
      have HW3 : Hid _ := hw3
      have hwl3 := lt_block hw3
      clear hns3 hw3 hnl
      go_wp2_with (at_builtin; refine wpList_append_or _ rfl _ _ 77 rfl 0 33 i1 _ 1 24 Tryz.underlying77 hi1 hy0 hy1 hy2 rfl (by decide) _ _ _ rfl (row_below HNS3.out ((Below.refl _ _).alloc (Nat.le_refl _) _)) ⟨w3.heap.size, 0, none⟩ 4 4 [.slice lb xs.length lc, .slice (some ⟨g1, 0, none⟩) (xs.length + 1) p1, .slice (some ⟨g2, 0, none⟩) (xs.length + 2) p2, .slice (some ⟨g3, 0, none⟩) (xs.length + 3) p3] rfl (by decide) rfl ?c1 ?c2 ?c3 ?c4 ?c5 ?_)
      case c1 => exact cells_new_at _ [.slice lb xs.length lc, .slice (some ⟨g1, 0, none⟩) (xs.length + 1) p1, .slice (some ⟨g2, 0, none⟩) (xs.length + 2) p2, .slice (some ⟨g3, 0, none⟩) (xs.length + 3) p3] _ _ (by simp)
      case c2 => intro u hu; simp only [List.mem_cons, List.not_mem_nil, or_false] at hu; rcases hu with rfl | rfl | rfl | rfl <;> rfl
      case c3 => unfold maxLen; omega
      case c4 => omega
      case c5 => omega
      intro g4 p4 w4 own4 or4
      obtain ⟨D4, E4⟩ := orMd (n := rows.length) (by simp) or4
      have hn4 : ∀ (k : Nat) (cu : Array Value) (T : TypeId) (fr : Nat × Nat), w3.heap[k]? = some (.cells cu T fr) → T ≠ 33 → w4.heap[k]? = w3.heap[k]? := fun k cu T fr hk hT => by
        have hkl := lt_block hk
        rw [D4.only k (by simp; omega) (fun e => ?_), Below.heap_alloc _ _ _ hkl]
        obtain ⟨_, cs', t⟩ := own_type HNS3.out e
        rw [hk] at t; cases t; exact hT rfl
      have hw4 : w4.heap[wb]? = some (worldO lv (.slice b1 rows.length m1) (.slice b5 marks.length m5) vsv kvv hsv khv) := (hn4 wb _ _ _ HW3.out (by decide)).trans HW3.out
      have d4 := blk_cell hw4 1 _ rfl
      have f4 := blk_free hw4 1
      have hwl4 := lt_block hw4
      obtain ⟨w5, HW5⟩ : ∃ w5, Hid (w5 = w4.setCell ⟨wb, 1, none⟩ (.slice (some ⟨g4, 0, none⟩) (rows.length + 4) p4)) := ⟨_, rfl⟩
      have hb5 : w5.heap[wb]? = some (worldO lv (.slice (some ⟨g4, 0, none⟩) (rows.length + 4) p4) (.slice b5 marks.length m5) vsv kvv hsv khv) := by rw [HW5.out]; exact set_blk' hw4 1 _
      have ho5 : ∀ k, k ≠ wb → w5.heap[k]? = w4.heap[k]? := fun k hk => by rw [HW5.out]; exact Below.heap_setCell _ _ _ _ hk
      have hz5 : w5.heap.size = w4.heap.size := by rw [HW5.out]; simp
      have hI : ∀ {k : Nat} {cu : Array Value} {fr : Nat × Nat}, w3.heap[k]? = some (.cells cu 3 fr) → w5.heap[k]? = w3.heap[k]? := fun {k cu fr} hk => by
        rw [ho5 k (by rintro rfl; rw [HW3.out] at hk; cases hk), hn4 k _ _ _ hk (by decide)]
      have rowI : ∀ {r : Value} {n : Nat} {cs : List Value}, w3.ownsRow 0 3 1 r n cs → w5.ownsRow 0 3 1 r n cs := fun {r n cs} hr => rowKept hr (fun k _ ek ho => by
        obtain ⟨_, cs', t⟩ := own_type hr ek
        exact (hI t).trans ho)
      have hnk : ∀ k, (Value.slice b5 marks.length m5).ownBlock = some k → (Value.slice lb xs.length lc).ownBlock ≠ some k := fun k e1 e2 => HLF.out k e2 (HB.out.inK k e1)
      have hkn3 : w3.ownsRow 0 3 1 (.slice b5 marks.length m5) marks.length (intC marks) := rowKept HB.out.kn (fun k _ ek ho => (HD3.out.only k (ownLt HB.out.kn ek) (hnk k ek)).trans ho)
      have HKN5 : Hid _ := rowI hkn3
      have d5 := blk_cell hb5 2 _ rfl
      have HNS5 : Hid (w5.ownsRow 0 33 1 (.slice (some ⟨g4, 0, none⟩) (rows.length + 4) p4) (rows.length + 4) (rows ++ [.slice lb xs.length lc, .slice (some ⟨g1, 0, none⟩) (xs.length + 1) p1, .slice (some ⟨g2, 0, none⟩) (xs.length + 2) p2, .slice (some ⟨g3, 0, none⟩) (xs.length + 3) p3])) := rowKept own4 (fun k _ ek ho => by
        obtain ⟨_, cs', t⟩ := own_type own4 ek
        rw [ho5 k (by rintro rfl; rw [hw4] at t; cases t)]; exact ho)
      have hs43 : w3.heap.size + 1 ≤ w4.heap.size := by have := D4.size; simpa using this
      have HD5 : Hid (Md (fun k => k = wb ∨ F k ∨ (Value.slice lb xs.length lc).ownBlock = some k) w w5) := by
        rw [HW5.out]
        exact (((HD3.out.mono (fun k hk => .inr (.inr hk))).alloc _).trans (D4.mono (fun k hk => .inr (.inl (HB.out.inN k hk))))).set _ (.inl (.inl rfl))
      have HE4 : Hid ((Value.slice b1 rows.length m1).ownBlock = some g4 ∨ w.heap.size ≤ g4) := by
        rcases E4 with h | h
        · exact .inl h
        · have := HD3.out.size; exact .inr (by simp at h; omega)
      have HB5 : Hid _ := hb5
      have HRI : Hid (∀ (r : Value) (n : Nat) (cs : List Value), w3.ownsRow 0 3 1 r n cs → w5.ownsRow 0 3 1 r n cs) := fun r n cs hr => rowI hr
      have HNK : Hid _ := hnk
      have hwl5 := lt_block hb5
      clear own4 or4 D4 E4 hn4 hw4 hb5 ho5 hI rowI hkn3 hnk d1
      have HKN6 : Hid ((w4.setCell ⟨wb, 1, none⟩ (.slice (some ⟨g4, 0, none⟩) (rows.length + 4) p4)).ownsRow 0 3 1 (.slice b5 marks.length m5) marks.length (intC marks)) := by rw [← HW5.out]; exact HKN5.out
      have d6 : (w4.setCell ⟨wb, 1, none⟩ (.slice (some ⟨g4, 0, none⟩) (rows.length + 4) p4)).cell? ⟨wb, 2, none⟩ = some (.slice b5 marks.length m5) := by rw [← HW5.out]; exact d5
      clear d5
      go_wp2_with (at_builtin; refine wpList_append_or _ rfl _ _ 33 rfl 0 3 i0 _ 1 8 Tryz.underlying33 hi hz0 hz1 hz2 rfl (by decide) _ _ _ rfl (row_below HKN6.out ((Below.refl _ _).alloc (Nat.le_refl _) _)) ⟨w4.heap.size, 0, none⟩ 4 4 [.int .i64 mk, .int .i64 mk, .int .i64 mk, .int .i64 mk] rfl (by decide) rfl ?c1 ?c2 ?c3 ?c4 ?c5 ?_)
      case c1 => exact cells_new_at _ [.int .i64 mk, .int .i64 mk, .int .i64 mk, .int .i64 mk] _ _ (by simp)
      case c2 => intro u hu; simp only [List.mem_cons, List.not_mem_nil, or_false, or_self] at hu; rw [hu]; rfl
      case c3 => unfold maxLen; omega
      case c4 => omega
      case c5 => omega
      intro g6 p6 w6 own6 or6
      rw [← HW5.out] at or6
      obtain ⟨D6, E6⟩ := orMd (n := marks.length) (by simp [hz5]) or6
      have hkl : ∀ k, (Value.slice b5 marks.length m5).ownBlock = some k → k < w5.heap.size := fun k e => ownLt HKN5.out e
      have hn6 : ∀ k, k < w5.heap.size → (Value.slice b5 marks.length m5).ownBlock ≠ some k → w6.heap[k]? = w5.heap[k]? := fun k hk hne => by
        rw [D6.only k (by simp; omega) hne, Below.heap_alloc _ _ _ hk]
      have hw6 : w6.heap[wb]? = some (worldO lv (.slice (some ⟨g4, 0, none⟩) (rows.length + 4) p4) (.slice b5 marks.length m5) vsv kvv hsv khv) := (hn6 wb hwl5 (fun e => by
        obtain ⟨_, cs', t⟩ := own_type HKN5.out e
        rw [HB5.out] at t; cases t)).trans HB5.out
      have d7 := blk_cell hw6 2 _ rfl
      have f7 := blk_free hw6 2
      have hwl6 := lt_block hw6
      have HO6 : Hid _ := own6
      have HW6 : Hid _ := hw6
      have HN6 : Hid _ := hn6
      have HD6 : Hid _ := D6
      have HE6 : Hid _ := E6
      clear own6 or6 D6 E6 hkl hn6 hw6
      go_wp2_with fail
      go_end0
      have hset : ∀ k, k ≠ wb → (w6.setCell ⟨wb, 2, none⟩ (.slice (some ⟨g6, 0, none⟩) (marks.length + 4) p6)).heap[k]? = w6.heap[k]? := fun k hk => Below.heap_setCell _ _ _ _ hk
      have hs5 := HD5.out.size
      have hs6 : w5.heap.size + 1 ≤ w6.heap.size := by have := HD6.out.size; simpa using this
      have hg6 : (Value.slice b5 marks.length m5).ownBlock = some g6 ∨ w5.heap.size ≤ g6 := by
        rcases HE6.out with h | h
        · exact .inl h
        · exact .inr (by simp at h; omega)
      have fin : ∀ {r : Value} {n : Nat} {cs : List Value}, w5.ownsRow 0 3 1 r n cs → (∀ k, r.ownBlock = some k → (Value.slice b5 marks.length m5).ownBlock ≠ some k) → (w6.setCell ⟨wb, 2, none⟩ (.slice (some ⟨g6, 0, none⟩) (marks.length + 4) p6)).ownsRow 0 3 1 r n cs := fun {r n cs} hr hne => rowKept hr (fun k _ ek ho => by
        obtain ⟨_, cs', t⟩ := own_type hr ek
        rw [hset k (by rintro rfl; rw [HB5.out] at t; cases t), HN6.out k (ownLt hr ek) (hne k ek)]; exact ho)
      have kne : ∀ k, (Value.slice b5 marks.length m5).ownBlock = some k → k < w.heap.size := fun k e => ownLt HB.out.kn e
      have newr : ∀ (g n p : Nat), ((Value.slice lb xs.length lc).ownBlock = some g ∨ w.heap.size ≤ g) → ∀ k, (Value.slice (some ⟨g, 0, none⟩) n p).ownBlock = some k → (F k ∨ (Value.slice lb xs.length lc).ownBlock = some k ∨ w.heap.size ≤ k) ∧ (Value.slice b5 marks.length m5).ownBlock ≠ some k := by
        intro g n p hg k ek
        obtain rfl : g = k := by cases ek; rfl
        rcases hg with h | h
        · exact ⟨.inr (.inl h), fun e => HNK.out _ e h⟩
        · exact ⟨.inr (.inr h), fun e => by have := kne _ e; omega⟩
      have knew : ∀ k, k < w5.heap.size → (Value.slice b5 marks.length m5).ownBlock ≠ some k → (Value.slice (some ⟨g6, 0, none⟩) (marks.length + 4) p6).ownBlock ≠ some k := by
        intro k hk hne e
        obtain rfl : g6 = k := by cases e; rfl
        rcases hg6 with h | h
        · exact hne h
        · omega
      refine ⟨rfl, .slice (some ⟨g4, 0, none⟩) (rows.length + 4) p4, .slice (some ⟨g6, 0, none⟩) (marks.length + 4) p6, rows ++ [.slice lb xs.length lc, .slice (some ⟨g1, 0, none⟩) (xs.length + 1) p1, .slice (some ⟨g2, 0, none⟩) (xs.length + 2) p2, .slice (some ⟨g3, 0, none⟩) (xs.length + 3) p3], marks ++ [mk, mk, mk, mk], set_blk' HW6.out 2 _, ⟨?_, ?_, by simp [HB.out.len], ?_, ?_, ?_⟩, by simp, ?_⟩
      · rw [List.length_append]
        exact rowKept HNS5.out (fun k _ ek ho => by
          obtain ⟨_, cs', t⟩ := own_type HNS5.out ek
          rw [hset k (by rintro rfl; rw [HB5.out] at t; cases t), HN6.out k (ownLt HNS5.out ek) (fun e => by
            obtain ⟨_, cs'', t2⟩ := own_type HKN5.out e
            rw [t] at t2; cases t2)]; exact ho)
      · rw [List.length_append, show intC (marks ++ [mk, mk, mk, mk]) = intC marks ++ [.int .i64 mk, .int .i64 mk, .int .i64 mk, .int .i64 mk] by simp [intC]]
        exact rowKept HO6.out (fun k _ ek ho => by
          obtain ⟨_, cs', t⟩ := own_type HO6.out ek
          rw [hset k (by rintro rfl; rw [HW6.out] at t; cases t)]; exact ho)
      · intro i h1 h2
        by_cases hi' : i < rows.length
        · obtain ⟨n, r1, r2⟩ := HB.out.each i hi' (by rw [← HB.out.len]; exact hi')
          have r3 : w3.ownsRow 0 3 1 rows[i] n (List.replicate n (.int .i64 (marks[i]'(by rw [← HB.out.len]; exact hi')))) := rowKept r1 (fun k _ ek ho => (HD3.out.only k (ownLt r1 ek) (fun e => HLF.out k e (r2 k ek).1)).trans ho)
          rw [List.getElem_append_left hi', List.getElem_append_left (by rw [← HB.out.len]; exact hi')]
          have r5 := HRI.out _ _ _ r3
          exact ⟨n, fin r5 (fun k ek => (r2 k ek).2), fun k ek => ⟨.inl (r2 k ek).1, knew k (ownLt r5 ek) (r2 k ek).2⟩⟩
        · have hlen := HB.out.len
          rw [List.getElem_append_right (by omega), List.getElem_append_right (by omega)]
          have hi4 : i - rows.length < 4 := by simp at h1; omega
          have hmi : i - marks.length = i - rows.length := by omega
          have hmk : ∀ (j : Nat) (hj : j < [mk, mk, mk, mk].length), [mk, mk, mk, mk][j] = mk := by
            intro j hj
            have : j < 4 := by simpa using hj
            rcases (by omega : j = 0 ∨ j = 1 ∨ j = 2 ∨ j = 3) with rfl | rfl | rfl | rfl <;> rfl
          rw [hmk]
          obtain ⟨d, hd⟩ : ∃ d, i - rows.length = d := ⟨_, rfl⟩
          have hL5 := HRI.out _ _ _ HL3.out
          have hG5 := HRI.out _ _ _ HG3.out
          have hH5 := HRI.out _ _ _ HH3.out
          have hJ5 := HRI.out _ _ _ HJ3.out
          have base : ∀ (r : Value) (n : Nat), w5.ownsRow 0 3 1 r n (List.replicate n (.int .i64 mk)) → (∀ k, r.ownBlock = some k → (F k ∨ (Value.slice lb xs.length lc).ownBlock = some k ∨ w.heap.size ≤ k) ∧ (Value.slice b5 marks.length m5).ownBlock ≠ some k) → ∃ n, (w6.setCell ⟨wb, 2, none⟩ (.slice (some ⟨g6, 0, none⟩) (marks.length + 4) p6)).ownsRow 0 3 1 r n (List.replicate n (.int .i64 mk)) ∧ ∀ k, r.ownBlock = some k → (F k ∨ (Value.slice lb xs.length lc).ownBlock = some k ∨ w.heap.size ≤ k) ∧ (Value.slice (some ⟨g6, 0, none⟩) (marks.length + 4) p6).ownBlock ≠ some k :=
            fun r n hr hk => ⟨n, fin hr (fun k ek => (hk k ek).2), fun k ek => ⟨(hk k ek).1, knew k (ownLt hr ek) (hk k ek).2⟩⟩
          have hcases : ∀ (d : Nat) (hd4 : d < 4), ∃ n, (w6.setCell ⟨wb, 2, none⟩ (.slice (some ⟨g6, 0, none⟩) (marks.length + 4) p6)).ownsRow 0 3 1 ([Value.slice lb xs.length lc, .slice (some ⟨g1, 0, none⟩) (xs.length + 1) p1, .slice (some ⟨g2, 0, none⟩) (xs.length + 2) p2, .slice (some ⟨g3, 0, none⟩) (xs.length + 3) p3][d]'(by simpa using hd4)) n (List.replicate n (.int .i64 mk)) ∧ ∀ k, ([Value.slice lb xs.length lc, .slice (some ⟨g1, 0, none⟩) (xs.length + 1) p1, .slice (some ⟨g2, 0, none⟩) (xs.length + 2) p2, .slice (some ⟨g3, 0, none⟩) (xs.length + 3) p3][d]'(by simpa using hd4)).ownBlock = some k → (F k ∨ (Value.slice lb xs.length lc).ownBlock = some k ∨ w.heap.size ≤ k) ∧ (Value.slice (some ⟨g6, 0, none⟩) (marks.length + 4) p6).ownBlock ≠ some k := by
            intro d hd4
            rcases (by omega : d = 0 ∨ d = 1 ∨ d = 2 ∨ d = 3) with rfl | rfl | rfl | rfl
            · exact base _ _ hL5 (fun k ek => ⟨.inr (.inl ek), fun e => HNK.out _ e ek⟩)
            · exact base _ _ hG5 (newr g1 _ _ HE1.out)
            · exact base _ _ hH5 (newr g2 _ _ HE2.out)
            · exact base _ _ hJ5 (newr g3 _ _ HE3.out)
          exact hcases (i - rows.length) hi4
      · intro k ek
        obtain rfl : g4 = k := by cases ek; rfl
        rcases HE4.out with h | h
        · exact .inl (HB.out.inN _ h)
        · exact .inr (.inr h)
      · intro k ek
        obtain rfl : g6 = k := by cases ek; rfl
        rcases hg6 with h | h
        · exact .inl (HB.out.inK _ h)
        · exact .inr (.inr (by omega))
      · exact ((HD5.out.alloc _).trans (HD6.out.mono (fun k hk => .inr (.inl (HB.out.inK k hk))))).set _ (.inl (.inl rfl))
end
end Go.Proofs.YtbnelaoeblhndaaGreatDoor
/- The book's values. -/
namespace Go.Proofs.YtbnelaoeblhndaaGreatDoor
open Go.RowKit
set_option maxRecDepth 100000

/-- The mark of a list of values. -/
def mV (k : Int) : List Value := [.int .i64 1, .int .i64 k, .string ⟨#[]⟩]

/-- Behind an append of marks to a row of the same. -/
theorem appV {W w1 : World} {lb : Option Addr} {lc n m g cap S : Nat} {u : List Value} {ms : List Value} (hu : u.length = 3) (hl : W.ownsRow 0 94 3 (.slice lb n lc) n (List.replicate n u).flatten) (hown : w1.ownsRow 0 94 3 (.slice (some ⟨g, 0, none⟩) (n + m) cap) (n + m) ((List.replicate n u).flatten ++ ms)) (hms : ms = (List.replicate m u).flatten) (hS : W.heap.size = S)
    (hor : (lb = some ⟨g, 0, none⟩ ∧ lc = cap) ∧ W.grownBy w1 (some g) ∨ g = S ∧ Below S W w1) :
    (∀ r k, k ≤ n + m → W.ownsRow 0 94 3 r k (List.replicate k u).flatten → w1.ownsRow 0 94 3 r k (List.replicate k u).flatten) ∧ w1.ownsRow 0 94 3 (.slice (some ⟨g, 0, none⟩) (n + m) cap) (n + m) (List.replicate (n + m) u).flatten ∧ Md (fun k => (Value.slice lb n lc).ownBlock = some k) W w1 ∧ ((Value.slice lb n lc).ownBlock = some g ∨ W.heap.size ≤ g) := by
  subst hS
  rw [hms, ← List.flatten_append, List.replicate_append_replicate] at hown
  have hor' : (Value.slice lb n lc = .slice (some ⟨g, 0, none⟩) n cap ∧ W.grownBy w1 (some g)) ∨ (g = W.heap.size ∧ Below W.heap.size W w1) := by
    rcases hor with ⟨⟨rfl, rfl⟩, h⟩ | h
    · exact .inl ⟨rfl, h⟩
    · exact .inr h
  refine ⟨fun r k hk hr => ?_, hown, ?_, ?_⟩
  · exact row_marks (mk := u) (m := m) hu hl hr hk hown hor'
  · rcases hor with ⟨⟨rfl, rfl⟩, h⟩ | ⟨_, h⟩
    · exact (Md.refl _ W).grown h (fun k e => .inl e)
    · exact Md.ofBelow h
  · rcases hor with ⟨⟨rfl, rfl⟩, _⟩ | ⟨h, _⟩
    · exact .inl rfl
    · exact .inr (by omega)


theorem Tryz.infoSlV : (Tryz.prog.info? 55).map (fun i => (i.zero, i.size, i.bytes)) = some (some (.slice none 0 0), 1, 24) := by kernel_rfl
theorem boxB {w : World} {b : Nat} {c0 c1 c2 : Value} {T : TypeId} (h : w.heap[b]? = some (.cells #[c0, c1, c2] T (0, 0))) : w.cell? ⟨b, 0, none⟩ = some c0 ∧ w.cell? ⟨b, 1, none⟩ = some c1 ∧ w.cell? ⟨b, 2, none⟩ = some c2 := st_cells h
theorem rep_len {α : Type} (n : Nat) (m : List α) : (List.replicate n m).flatten.length = n * m.length := by simp
theorem rep_snoc {α : Type} (n : Nat) (m : List α) : (List.replicate n m).flatten ++ m = (List.replicate (n + 1) m).flatten := by
  rw [List.replicate_succ', List.flatten_append]; simp
theorem drop_vals (xs : List Doc.Val) (k : Nat) (hk : k < xs.length) : (valsC xs).drop (k * 3) = valC xs[k] ++ (valsC xs).drop ((k + 1) * 3) := by
  induction xs generalizing k with
  | nil => simp at hk
  | cons a r ih =>
    cases k with
    | zero => simp [valsC, List.flatMap_cons, valC]
    | succ k =>
      have := ih k (by simpa using hk)
      simp only [valsC, List.flatMap_cons] at this ⊢
      rw [show (k + 1) * 3 = (valC a).length + k * 3 by rw [valC_len]; omega, List.drop_append, show (k + 1 + 1) * 3 = (valC a).length + (k + 1) * 3 by rw [valC_len]; omega, List.drop_append, List.drop_of_length_le (show (valC a).length ≤ (valC a).length + k * 3 by omega), List.drop_of_length_le (show (valC a).length ≤ (valC a).length + (k + 1) * 3 by omega)]
      simpa using this
theorem splice3 (A B : List Value) (x y z : Value) {v : Doc.Val} {k : Nat} (h : A.length = k * 3) : (((A ++ (valC v ++ B)).set (k * 3) x).set (k * 3 + 1) y).set (k * 3 + 2) z = A ++ ([x, y, z] ++ B) := by
  rw [← h]
  rw [List.set_append_right _ _ (Nat.le_refl _), List.set_append_right _ _ (by omega), List.set_append_right _ _ (by omega)]
  simp [valC]

/-- The values' half of the book. -/
structure BookV (w : World) (F : Nat → Prop) (nsv knv : Value) (rows : List Value) (marks : List Int) : Prop where
  ns : w.ownsRow 0 55 1 nsv rows.length rows
  kn : w.ownsRow 0 3 1 knv marks.length (intC marks)
  len : rows.length = marks.length
  each : ∀ i (h : i < rows.length) (h' : i < marks.length), ∃ n, w.ownsRow 0 94 3 rows[i] n (List.replicate n (mV marks[i])).flatten ∧ ∀ k, rows[i].ownBlock = some k → F k ∧ knv.ownBlock ≠ some k
  inN : ∀ k, nsv.ownBlock = some k → F k
  inK : ∀ k, knv.ownBlock = some k → F k

section
variable {w : World} {F : Nat → Prop} {wb : Nat} {lv nsv knv vsv kvv hsv khv : Value} {rows : List Value} {marks : List Int}
set_option maxHeartbeats 2000000 in
theorem values_any (hw : w.heap[wb]? = some (worldO lv vsv kvv nsv knv hsv khv)) (hb : BookV w F nsv knv rows marks) (hF : ¬ F wb) (hrl : rows.length ≤ 1000000000) (xs : List Doc.Val) (l : Value) (hl : w.ownsRow 0 94 3 l xs.length (valsC xs)) (hxl : xs.length ≤ 1000000000) (hlF : ∀ k, l.ownBlock = some k → ¬ F k) :
    Calls Tryz.prog 100 #[.pointer (some ⟨wb, 1, none⟩), l] w fun e w' => e = .returned (.tuple #[]) ∧ ∃ nsv' knv' rows' marks', w'.heap[wb]? = some (worldO lv vsv kvv nsv' knv' hsv khv) ∧ BookV w' (fun k => F k ∨ l.ownBlock = some k ∨ w.heap.size ≤ k) nsv' knv' rows' marks' ∧ rows'.length = rows.length + 4 ∧ Md (fun k => k = wb ∨ F k ∨ l.ownBlock = some k) w w' := by
  obtain ⟨i0, hi, hz0, hz1, hz2⟩ := info_parts Tryz.infoIntT
  obtain ⟨iv, hiv, hv0, hv1, hv2⟩ := info_parts Tryz.infoValT
  have c1 : w.cell? ⟨wb, 3, none⟩ = some nsv := blk_cell hw 3 _ rfl
  obtain ⟨b1, m1, e1⟩ := row_slice hb.ns
  subst e1
  obtain ⟨lb, lc, e2⟩ := row_slice hl
  subst e2
  obtain ⟨b5, m5, e3⟩ := row_slice hb.kn
  subst e3
  have hml := hb.len
  obtain ⟨q, hq, hql⟩ : ∃ q : Nat, (rows.length : Int) / 4 = (q : Int) ∧ q ≤ 1000000000 := ⟨rows.length / 4, by omega, by omega⟩
  have hwq : IntKind.i64.wrap (q : Int) = (q : Int) := by rw [IntKind.wrap_i64]; omega
  have HW : Hid _ := hw
  have HB : Hid _ := hb
  have HL : Hid _ := hl
  have hwl := lt_block hw
  have hmk5 : marks.length ≤ 1000000000 := by omega
  clear hw hb hl hml
  go_enter Tryz.func100, Tryz.ntmps100
  go_wp2_with fail
  obtain ⟨mk, HMK⟩ : ∃ mk : Int, Hid (mk = 20000000 + (q : Int)) := ⟨_, rfl⟩
  rw [← HMK.out]
  have HLF : Hid _ := hlF
  obtain ⟨w0, HW0⟩ : ∃ w0, Hid (w0 = w.alloc (.cells #[.int .i64 1, .int .i64 mk, .string ⟨#[]⟩] 94)) := ⟨_, rfl⟩
  rw [← HW0.out]
  have hb0 : Below w.heap.size w w0 := by rw [HW0.out]; exact (Below.refl _ _).alloc (Nat.le_refl _) _
  have HBX : Hid (w0.heap[w.heap.size]? = some (.cells #[.int .i64 1, .int .i64 mk, .string ⟨#[]⟩] 94 (0, 0))) := by show _ = _; rw [HW0.out]; exact heap_alloc_new w _
  have HL0 : Hid (w0.ownsRow 0 94 3 (.slice lb xs.length lc) xs.length (valsC xs)) := row_below HL.out hb0
  have hne : (Value.slice lb xs.length lc).ownBlock ≠ some w.heap.size := fun e => by have := ownLt HL.out e; omega
  clear hq hql hwq c1 hlF
  go_loopw [6] (fun i wr => ∃ k : Nat, k ≤ xs.length ∧ i = .int .i64 k ∧ Hid (wr.ownsRow 0 94 3 (.slice lb xs.length lc) xs.length ((List.replicate k (mV mk)).flatten ++ (valsC xs).drop (k * 3))) ∧ Hid (Md (fun k => (Value.slice lb xs.length lc).ownBlock = some k) w0 wr)) (fun i _ => xs.length - (intOf i).toNat)
  case atStart => exact ⟨0, Nat.zero_le _, rfl, HL0.out, Md.refl _ _⟩
  case round =>
    obtain ⟨k, hk, rfl, KR, KD⟩ := hrel
    by_cases hk2 : k < xs.length
    · obtain ⟨vb, vc, hvb⟩ := own_slice' KR.out (by omega)
      obtain rfl : lb = some ⟨vb, 0, none⟩ := by simp at hvb; exact hvb.1
      obtain rfl : lc = vc := by simp at hvb; exact hvb
      clear hvb
      obtain ⟨cur, hcur, hc1, hc2⟩ := own_block KR.out
      have hvl := lt_block hcur
      obtain ⟨u0, z0⟩ : ∃ u, wr.cell? ⟨vb, k * 3, none⟩ = some u := ⟨_, blk_cell hcur (k * 3) _ (Array.getElem?_eq_getElem (by omega))⟩
      obtain ⟨u1, z1⟩ : ∃ u, wr.cell? ⟨vb, k * 3 + 1, none⟩ = some u := ⟨_, blk_cell hcur (k * 3 + 1) _ (Array.getElem?_eq_getElem (by omega))⟩
      obtain ⟨u2, z2⟩ : ∃ u, wr.cell? ⟨vb, k * 3 + 2, none⟩ = some u := ⟨_, blk_cell hcur (k * 3 + 2) _ (Array.getElem?_eq_getElem (by omega))⟩
      obtain ⟨y0, y1, y2⟩ := boxB (KD.out.blk HBX.out (fun e => hne e))
      have f0 := blk_free hcur (k * 3)
      have f1 := blk_free hcur (k * 3 + 1)
      have f2 := blk_free hcur (k * 3 + 2)
      have HST : Hid ((((wr.setCell ⟨vb, k * 3, none⟩ (.int .i64 1)).setCell ⟨vb, k * 3 + 1, none⟩ (.int .i64 mk)).setCell ⟨vb, k * 3 + 2, none⟩ (.string ⟨#[]⟩)).ownsRow 0 94 3 (.slice (some ⟨vb, 0, none⟩) xs.length lc) xs.length ((List.replicate (k + 1) (mV mk)).flatten ++ (valsC xs).drop ((k + 1) * 3))) := by
        rcases KR.out.2 with ⟨e, _⟩ | ⟨g, cap, cu, e, p0, p1, p2, p3, p4, p5⟩
        · cases e
        · cases e
          refine ⟨by rw [List.length_append, rep_len, List.length_drop, valsC_len']; simp [mV]; omega, .inr ⟨vb, lc, _, rfl, p0, set_blk' (set_blk' (set_blk' p1 (k * 3) _) (k * 3 + 1) _) (k * 3 + 2) _, p2, p3, by simpa using p4, ?_⟩⟩
          rw [Array.toList_setIfInBounds, Array.toList_setIfInBounds, Array.toList_setIfInBounds, List.take_set, List.take_set, List.take_set, p5, drop_vals xs k hk2]
          rw [splice3 _ _ _ _ _ (by rw [rep_len]; simp [mV]), ← List.append_assoc, ← rep_snoc k (mV mk)]
          rfl
      clear hcur hc1 hc2
      go_wp2_with fail
      go_roundw
      case rel => exact ⟨k + 1, by omega, by go_num, HST, ((KD.out.set _ (.inl rfl)).set _ (.inl rfl)).set _ (.inl rfl)⟩
      case measure => simp [intOf]; omega
    · obtain rfl : k = xs.length := by omega
      obtain ⟨n, hn⟩ : ∃ n, n = xs.length := ⟨_, rfl⟩
      have KR0 : Hid (wr.ownsRow 0 94 3 (.slice lb xs.length lc) xs.length (List.replicate xs.length (mV mk)).flatten) := by
        have := KR.out
        rw [show (valsC xs).drop (xs.length * 3) = [] from List.drop_of_length_le (by rw [valsC_len']; omega), List.append_nil] at this
        exact this
      obtain ⟨y0, y1, y2⟩ := boxB (KD.out.blk HBX.out (fun e => hne e))
      clear hn KR
      go_wp2_with (at_builtin; refine wpList_append_or _ rfl _ _ 55 rfl 0 94 iv _ 3 32 Tryz.underlying55 hiv hv0 hv1 hv2 rfl (by decide) _ _ _ rfl (row_below KR0.out ((Below.refl _ _).alloc (Nat.le_refl _) _)) ⟨wr.heap.size, 0, none⟩ 1 1 [.int .i64 1, .int .i64 mk, .string ⟨#[]⟩] rfl (by decide) rfl ?c1 ?c2 ?c3 ?c4 ?c5 ?_)
      case c1 => exact cells_new_at _ [.int .i64 1, .int .i64 mk, .string ⟨#[]⟩] _ _ (by simp)
      case c2 => intro u hu; simp only [List.mem_cons, List.not_mem_nil, or_false] at hu; (repeat (rcases hu with rfl | hu; rfl)); try (rw [hu]; rfl)
      case c3 => unfold maxLen; omega
      case c4 => omega
      case c5 => omega
      intro g1 p1 w1 own1 or1
      obtain ⟨A1, B1, D1, E1⟩ := appV (u := mV mk) rfl (row_below KR0.out ((Below.refl _ _).alloc (Nat.le_refl _) _)) own1 rfl (by simp) or1
      have HA0 : Hid _ := A1 _ xs.length (by omega) (row_below KR0.out ((Below.refl _ _).alloc (Nat.le_refl _) _))
      have HB1 : Hid _ := B1
      have HD1 : Hid (Md (fun k => (Value.slice lb xs.length lc).ownBlock = some k) w w1) := ((Md.ofBelow hb0).trans KD.out |>.alloc _).trans D1
      have HE1 : Hid ((Value.slice lb xs.length lc).ownBlock = some g1 ∨ w.heap.size ≤ g1) := by
        rcases E1 with h | h
        · exact .inl h
        · have := KD.out.size; have := hb0.size; exact .inr (by simp at h; omega)
      have HX1 : Hid (w1.heap[w.heap.size]? = some (.cells #[.int .i64 1, .int .i64 mk, .string ⟨#[]⟩] 94 (0, 0))) := D1.blk ((Below.heap_alloc _ _ _ (lt_block (KD.out.blk HBX.out (fun e => hne e)))).trans (KD.out.blk HBX.out (fun e => hne e))) (fun e => hne e)
      clear own1 or1 A1 B1 D1 E1 y0 y1 y2
      obtain ⟨y0, y1, y2⟩ := boxB HX1.out
      go_wp2_with (at_builtin; refine wpList_append_or _ rfl _ _ 55 rfl 0 94 iv _ 3 32 Tryz.underlying55 hiv hv0 hv1 hv2 rfl (by decide) _ _ _ rfl (row_below HA0.out ((Below.refl _ _).alloc (Nat.le_refl _) _)) ⟨w1.heap.size, 0, none⟩ 2 2 [.int .i64 1, .int .i64 mk, .string ⟨#[]⟩, .int .i64 1, .int .i64 mk, .string ⟨#[]⟩] rfl (by decide) rfl ?c1 ?c2 ?c3 ?c4 ?c5 ?_)
      case c1 => exact cells_new_at _ [.int .i64 1, .int .i64 mk, .string ⟨#[]⟩, .int .i64 1, .int .i64 mk, .string ⟨#[]⟩] _ _ (by simp)
      case c2 => intro u hu; simp only [List.mem_cons, List.not_mem_nil, or_false] at hu; (repeat (rcases hu with rfl | hu; rfl)); try (rw [hu]; rfl)
      case c3 => unfold maxLen; omega
      case c4 => omega
      case c5 => omega
      intro g2 p2 w2 own2 or2
      obtain ⟨A2, B2, D2, E2⟩ := appV (u := mV mk) rfl (row_below HA0.out ((Below.refl _ _).alloc (Nat.le_refl _) _)) own2 rfl (by simp) or2
      have HA1 : Hid _ := A2 _ xs.length (by omega) (row_below HA0.out ((Below.refl _ _).alloc (Nat.le_refl _) _))
      have HG1 : Hid _ := A2 _ (xs.length + 1) (by omega) (row_below HB1.out ((Below.refl _ _).alloc (Nat.le_refl _) _))
      have HB2 : Hid _ := B2
      have HD2 : Hid (Md (fun k => (Value.slice lb xs.length lc).ownBlock = some k) w w2) := (HD1.out.alloc _).trans D2
      have HE2 : Hid ((Value.slice lb xs.length lc).ownBlock = some g2 ∨ w.heap.size ≤ g2) := by
        rcases E2 with h | h
        · exact .inl h
        · have := HD1.out.size; exact .inr (by simp at h; omega)
      have HX2 : Hid (w2.heap[w.heap.size]? = some (.cells #[.int .i64 1, .int .i64 mk, .string ⟨#[]⟩] 94 (0, 0))) := D2.blk ((Below.heap_alloc _ _ _ (lt_block HX1.out)).trans HX1.out) (fun e => hne e)
      clear own2 or2 A2 B2 D2 E2 HA0 HB1 HD1 y0 y1 y2
      obtain ⟨y0, y1, y2⟩ := boxB HX2.out
      go_wp2_with (at_builtin; refine wpList_append_or _ rfl _ _ 55 rfl 0 94 iv _ 3 32 Tryz.underlying55 hiv hv0 hv1 hv2 rfl (by decide) _ _ _ rfl (row_below HA1.out ((Below.refl _ _).alloc (Nat.le_refl _) _)) ⟨w2.heap.size, 0, none⟩ 3 3 [.int .i64 1, .int .i64 mk, .string ⟨#[]⟩, .int .i64 1, .int .i64 mk, .string ⟨#[]⟩, .int .i64 1, .int .i64 mk, .string ⟨#[]⟩] rfl (by decide) rfl ?c1 ?c2 ?c3 ?c4 ?c5 ?_)
      case c1 => exact cells_new_at _ [.int .i64 1, .int .i64 mk, .string ⟨#[]⟩, .int .i64 1, .int .i64 mk, .string ⟨#[]⟩, .int .i64 1, .int .i64 mk, .string ⟨#[]⟩] _ _ (by simp)
      case c2 => intro u hu; simp only [List.mem_cons, List.not_mem_nil, or_false] at hu; (repeat (rcases hu with rfl | hu; rfl)); try (rw [hu]; rfl)
      case c3 => unfold maxLen; omega
      case c4 => omega
      case c5 => omega
      intro g3 p3 w3 own3 or3
      obtain ⟨A3, B3, D3, E3⟩ := appV (u := mV mk) rfl (row_below HA1.out ((Below.refl _ _).alloc (Nat.le_refl _) _)) own3 rfl (by simp) or3
      have HL3 : Hid _ := A3 _ xs.length (by omega) (row_below HA1.out ((Below.refl _ _).alloc (Nat.le_refl _) _))
      have HG3 : Hid _ := A3 _ (xs.length + 1) (by omega) (row_below HG1.out ((Below.refl _ _).alloc (Nat.le_refl _) _))
      have HH3 : Hid _ := A3 _ (xs.length + 2) (by omega) (row_below HB2.out ((Below.refl _ _).alloc (Nat.le_refl _) _))
      have HJ3 : Hid _ := B3
      have HD3 : Hid (Md (fun k => (Value.slice lb xs.length lc).ownBlock = some k) w w3) := (HD2.out.alloc _).trans D3
      have HE3 : Hid ((Value.slice lb xs.length lc).ownBlock = some g3 ∨ w.heap.size ≤ g3) := by
        rcases E3 with h | h
        · exact .inl h
        · have := HD2.out.size; exact .inr (by simp at h; omega)
      clear own3 or3 A3 B3 D3 E3 HA1 HG1 HB2 HD2 y0 y1 y2
      have hnl : ∀ (k : Nat) (cu : Array Value) (T : TypeId) (fr : Nat × Nat), w.heap[k]? = some (.cells cu T fr) → T ≠ 94 → w3.heap[k]? = w.heap[k]? := fun k cu T fr hk hT => HD3.out.only k (lt_block hk) (fun e => by
        obtain ⟨_, cs', t⟩ := own_type HL.out e
        rw [hk] at t; cases t; exact hT rfl)
      have hw3 : w3.heap[wb]? = some (worldO lv vsv kvv (.slice b1 rows.length m1) (.slice b5 marks.length m5) hsv khv) := (hnl wb _ _ _ HW.out (by decide)).trans HW.out
      have hns3 : w3.ownsRow 0 55 1 (.slice b1 rows.length m1) rows.length rows := rowKept HB.out.ns (fun k _ ek ho => by
        obtain ⟨_, cs', t⟩ := own_type HB.out.ns ek
        exact (hnl k _ _ _ t (by decide)).trans ho)
      have d1 : w3.cell? ⟨wb, 3, none⟩ = some (.slice b1 rows.length m1) := blk_cell hw3 3 _ rfl
      obtain ⟨i1, hi1, hy0, hy1, hy2⟩ := info_parts Tryz.infoSlV
      have HNS3 : Hid _ := hns3
      have HW3 : Hid _ := hw3
      have hwl3 := lt_block hw3
      clear hns3 hw3 hnl
      go_wp2_with (at_builtin; refine wpList_append_or _ rfl _ _ 78 rfl 0 55 i1 _ 1 24 Tryz.underlying78 hi1 hy0 hy1 hy2 rfl (by decide) _ _ _ rfl (row_below HNS3.out ((Below.refl _ _).alloc (Nat.le_refl _) _)) ⟨w3.heap.size, 0, none⟩ 4 4 [.slice lb xs.length lc, .slice (some ⟨g1, 0, none⟩) (xs.length + 1) p1, .slice (some ⟨g2, 0, none⟩) (xs.length + 2) p2, .slice (some ⟨g3, 0, none⟩) (xs.length + 3) p3] rfl (by decide) rfl ?c1 ?c2 ?c3 ?c4 ?c5 ?_)
      case c1 => exact cells_new_at _ [.slice lb xs.length lc, .slice (some ⟨g1, 0, none⟩) (xs.length + 1) p1, .slice (some ⟨g2, 0, none⟩) (xs.length + 2) p2, .slice (some ⟨g3, 0, none⟩) (xs.length + 3) p3] _ _ (by simp)
      case c2 => intro u hu; simp only [List.mem_cons, List.not_mem_nil, or_false] at hu; rcases hu with rfl | rfl | rfl | rfl <;> rfl
      case c3 => unfold maxLen; omega
      case c4 => omega
      case c5 => omega
      intro g4 p4 w4 own4 or4
      obtain ⟨D4, E4⟩ := orMd (n := rows.length) (by simp) or4
      have hn4 : ∀ (k : Nat) (cu : Array Value) (T : TypeId) (fr : Nat × Nat), w3.heap[k]? = some (.cells cu T fr) → T ≠ 55 → w4.heap[k]? = w3.heap[k]? := fun k cu T fr hk hT => by
        have hkl := lt_block hk
        rw [D4.only k (by simp; omega) (fun e => ?_), Below.heap_alloc _ _ _ hkl]
        obtain ⟨_, cs', t⟩ := own_type HNS3.out e
        rw [hk] at t; cases t; exact hT rfl
      have hw4 : w4.heap[wb]? = some (worldO lv vsv kvv (.slice b1 rows.length m1) (.slice b5 marks.length m5) hsv khv) := (hn4 wb _ _ _ HW3.out (by decide)).trans HW3.out
      have d4 := blk_cell hw4 3 _ rfl
      have f4 := blk_free hw4 3
      have hwl4 := lt_block hw4
      obtain ⟨w5, HW5⟩ : ∃ w5, Hid (w5 = w4.setCell ⟨wb, 3, none⟩ (.slice (some ⟨g4, 0, none⟩) (rows.length + 4) p4)) := ⟨_, rfl⟩
      have hb5 : w5.heap[wb]? = some (worldO lv vsv kvv (.slice (some ⟨g4, 0, none⟩) (rows.length + 4) p4) (.slice b5 marks.length m5) hsv khv) := by rw [HW5.out]; exact set_blk' hw4 3 _
      have ho5 : ∀ k, k ≠ wb → w5.heap[k]? = w4.heap[k]? := fun k hk => by rw [HW5.out]; exact Below.heap_setCell _ _ _ _ hk
      have hz5 : w5.heap.size = w4.heap.size := by rw [HW5.out]; simp
      have rowG : ∀ {e size : Nat} {r : Value} {n : Nat} {cs : List Value}, e ≠ 55 → e ≠ 83 → w3.ownsRow 0 e size r n cs → w5.ownsRow 0 e size r n cs := fun {e size r n cs} h1 h2 hr => rowKept hr (fun k _ ek ho => by
        obtain ⟨_, cs', t⟩ := own_type hr ek
        rw [ho5 k (by rintro rfl; rw [HW3.out] at t; cases t; exact h2 rfl), hn4 k _ _ _ t h1]; exact ho)
      have hnk : ∀ k, (Value.slice b5 marks.length m5).ownBlock = some k → (Value.slice lb xs.length lc).ownBlock ≠ some k := fun k e1 e2 => HLF.out k e2 (HB.out.inK k e1)
      have hkn3 : w3.ownsRow 0 3 1 (.slice b5 marks.length m5) marks.length (intC marks) := rowKept HB.out.kn (fun k _ ek ho => (HD3.out.only k (ownLt HB.out.kn ek) (hnk k ek)).trans ho)
      have HKN5 : Hid _ := rowG (by decide) (by decide) hkn3
      have d5 := blk_cell hb5 4 _ rfl
      have HNS5 : Hid (w5.ownsRow 0 55 1 (.slice (some ⟨g4, 0, none⟩) (rows.length + 4) p4) (rows.length + 4) (rows ++ [.slice lb xs.length lc, .slice (some ⟨g1, 0, none⟩) (xs.length + 1) p1, .slice (some ⟨g2, 0, none⟩) (xs.length + 2) p2, .slice (some ⟨g3, 0, none⟩) (xs.length + 3) p3])) := rowKept own4 (fun k _ ek ho => by
        obtain ⟨_, cs', t⟩ := own_type own4 ek
        rw [ho5 k (by rintro rfl; rw [hw4] at t; cases t)]; exact ho)
      have hs43 : w3.heap.size + 1 ≤ w4.heap.size := by have := D4.size; simpa using this
      have HD5 : Hid (Md (fun k => k = wb ∨ F k ∨ (Value.slice lb xs.length lc).ownBlock = some k) w w5) := by
        rw [HW5.out]
        exact (((HD3.out.mono (fun k hk => .inr (.inr hk))).alloc _).trans (D4.mono (fun k hk => .inr (.inl (HB.out.inN k hk))))).set _ (.inl (.inl rfl))
      have HE4 : Hid ((Value.slice b1 rows.length m1).ownBlock = some g4 ∨ w.heap.size ≤ g4) := by
        rcases E4 with h | h
        · exact .inl h
        · have := HD3.out.size; exact .inr (by simp at h; omega)
      have HB5 : Hid _ := hb5
      have HRI : Hid (∀ (r : Value) (n : Nat) (cs : List Value), w3.ownsRow 0 94 3 r n cs → w5.ownsRow 0 94 3 r n cs) := fun r n cs hr => rowG (by decide) (by decide) hr
      have HNK : Hid _ := hnk
      have hwl5 := lt_block hb5
      clear own4 or4 D4 E4 hn4 hw4 hb5 ho5 rowG hkn3 hnk d1
      have HKN6 : Hid ((w4.setCell ⟨wb, 3, none⟩ (.slice (some ⟨g4, 0, none⟩) (rows.length + 4) p4)).ownsRow 0 3 1 (.slice b5 marks.length m5) marks.length (intC marks)) := by rw [← HW5.out]; exact HKN5.out
      have d6 : (w4.setCell ⟨wb, 3, none⟩ (.slice (some ⟨g4, 0, none⟩) (rows.length + 4) p4)).cell? ⟨wb, 4, none⟩ = some (.slice b5 marks.length m5) := by rw [← HW5.out]; exact d5
      clear d5
      go_wp2_with (at_builtin; refine wpList_append_or _ rfl _ _ 33 rfl 0 3 i0 _ 1 8 Tryz.underlying33 hi hz0 hz1 hz2 rfl (by decide) _ _ _ rfl (row_below HKN6.out ((Below.refl _ _).alloc (Nat.le_refl _) _)) ⟨w4.heap.size, 0, none⟩ 4 4 [.int .i64 mk, .int .i64 mk, .int .i64 mk, .int .i64 mk] rfl (by decide) rfl ?c1 ?c2 ?c3 ?c4 ?c5 ?_)
      case c1 => exact cells_new_at _ [.int .i64 mk, .int .i64 mk, .int .i64 mk, .int .i64 mk] _ _ (by simp)
      case c2 => intro u hu; simp only [List.mem_cons, List.not_mem_nil, or_false, or_self] at hu; rw [hu]; rfl
      case c3 => unfold maxLen; omega
      case c4 => omega
      case c5 => omega
      intro g6 p6 w6 own6 or6
      rw [← HW5.out] at or6
      obtain ⟨D6, E6⟩ := orMd (n := marks.length) (by simp [hz5]) or6
      have hkl : ∀ k, (Value.slice b5 marks.length m5).ownBlock = some k → k < w5.heap.size := fun k e => ownLt HKN5.out e
      have hn6 : ∀ k, k < w5.heap.size → (Value.slice b5 marks.length m5).ownBlock ≠ some k → w6.heap[k]? = w5.heap[k]? := fun k hk hne => by
        rw [D6.only k (by simp; omega) hne, Below.heap_alloc _ _ _ hk]
      have hw6 : w6.heap[wb]? = some (worldO lv vsv kvv (.slice (some ⟨g4, 0, none⟩) (rows.length + 4) p4) (.slice b5 marks.length m5) hsv khv) := (hn6 wb hwl5 (fun e => by
        obtain ⟨_, cs', t⟩ := own_type HKN5.out e
        rw [HB5.out] at t; cases t)).trans HB5.out
      have d7 := blk_cell hw6 4 _ rfl
      have f7 := blk_free hw6 4
      have hwl6 := lt_block hw6
      have HO6 : Hid _ := own6
      have HW6 : Hid _ := hw6
      have HN6 : Hid _ := hn6
      have HD6 : Hid _ := D6
      have HE6 : Hid _ := E6
      clear own6 or6 D6 E6 hkl hn6 hw6
      go_wp2_with fail
      go_end0
      have hset : ∀ k, k ≠ wb → (w6.setCell ⟨wb, 4, none⟩ (.slice (some ⟨g6, 0, none⟩) (marks.length + 4) p6)).heap[k]? = w6.heap[k]? := fun k hk => Below.heap_setCell _ _ _ _ hk
      have hs5 := HD5.out.size
      have hs6 : w5.heap.size + 1 ≤ w6.heap.size := by have := HD6.out.size; simpa using this
      have hg6 : (Value.slice b5 marks.length m5).ownBlock = some g6 ∨ w5.heap.size ≤ g6 := by
        rcases HE6.out with h | h
        · exact .inl h
        · exact .inr (by simp at h; omega)
      have fin : ∀ {r : Value} {n : Nat} {cs : List Value}, w5.ownsRow 0 94 3 r n cs → (∀ k, r.ownBlock = some k → (Value.slice b5 marks.length m5).ownBlock ≠ some k) → (w6.setCell ⟨wb, 4, none⟩ (.slice (some ⟨g6, 0, none⟩) (marks.length + 4) p6)).ownsRow 0 94 3 r n cs := fun {r n cs} hr hne => rowKept hr (fun k _ ek ho => by
        obtain ⟨_, cs', t⟩ := own_type hr ek
        rw [hset k (by rintro rfl; rw [HB5.out] at t; cases t), HN6.out k (ownLt hr ek) (hne k ek)]; exact ho)
      have kne : ∀ k, (Value.slice b5 marks.length m5).ownBlock = some k → k < w.heap.size := fun k e => ownLt HB.out.kn e
      have newr : ∀ (g n p : Nat), ((Value.slice lb xs.length lc).ownBlock = some g ∨ w.heap.size ≤ g) → ∀ k, (Value.slice (some ⟨g, 0, none⟩) n p).ownBlock = some k → (F k ∨ (Value.slice lb xs.length lc).ownBlock = some k ∨ w.heap.size ≤ k) ∧ (Value.slice b5 marks.length m5).ownBlock ≠ some k := by
        intro g n p hg k ek
        obtain rfl : g = k := by cases ek; rfl
        rcases hg with h | h
        · exact ⟨.inr (.inl h), fun e => HNK.out _ e h⟩
        · exact ⟨.inr (.inr h), fun e => by have := kne _ e; omega⟩
      have knew : ∀ k, k < w5.heap.size → (Value.slice b5 marks.length m5).ownBlock ≠ some k → (Value.slice (some ⟨g6, 0, none⟩) (marks.length + 4) p6).ownBlock ≠ some k := by
        intro k hk hne e
        obtain rfl : g6 = k := by cases e; rfl
        rcases hg6 with h | h
        · exact hne h
        · omega
      refine ⟨rfl, .slice (some ⟨g4, 0, none⟩) (rows.length + 4) p4, .slice (some ⟨g6, 0, none⟩) (marks.length + 4) p6, rows ++ [.slice lb xs.length lc, .slice (some ⟨g1, 0, none⟩) (xs.length + 1) p1, .slice (some ⟨g2, 0, none⟩) (xs.length + 2) p2, .slice (some ⟨g3, 0, none⟩) (xs.length + 3) p3], marks ++ [mk, mk, mk, mk], set_blk' HW6.out 4 _, ⟨?_, ?_, by simp [HB.out.len], ?_, ?_, ?_⟩, by simp, ?_⟩
      · rw [List.length_append]
        exact rowKept HNS5.out (fun k _ ek ho => by
          obtain ⟨_, cs', t⟩ := own_type HNS5.out ek
          rw [hset k (by rintro rfl; rw [HB5.out] at t; cases t), HN6.out k (ownLt HNS5.out ek) (fun e => by
            obtain ⟨_, cs'', t2⟩ := own_type HKN5.out e
            rw [t] at t2; cases t2)]; exact ho)
      · rw [List.length_append, show intC (marks ++ [mk, mk, mk, mk]) = intC marks ++ [.int .i64 mk, .int .i64 mk, .int .i64 mk, .int .i64 mk] by simp [intC]]
        exact rowKept HO6.out (fun k _ ek ho => by
          obtain ⟨_, cs', t⟩ := own_type HO6.out ek
          rw [hset k (by rintro rfl; rw [HW6.out] at t; cases t)]; exact ho)
      · intro i h1 h2
        by_cases hi' : i < rows.length
        · obtain ⟨n, r1, r2⟩ := HB.out.each i hi' (by rw [← HB.out.len]; exact hi')
          have r3 : w3.ownsRow 0 94 3 rows[i] n (List.replicate n (mV (marks[i]'(by rw [← HB.out.len]; exact hi')))).flatten := rowKept r1 (fun k _ ek ho => (HD3.out.only k (ownLt r1 ek) (fun e => HLF.out k e (r2 k ek).1)).trans ho)
          rw [List.getElem_append_left hi', List.getElem_append_left (by rw [← HB.out.len]; exact hi')]
          have r5 := HRI.out _ _ _ r3
          exact ⟨n, fin r5 (fun k ek => (r2 k ek).2), fun k ek => ⟨.inl (r2 k ek).1, knew k (ownLt r5 ek) (r2 k ek).2⟩⟩
        · have hlen := HB.out.len
          rw [List.getElem_append_right (by omega), List.getElem_append_right (by omega)]
          have hi4 : i - rows.length < 4 := by simp at h1; omega
          have hmi : i - marks.length = i - rows.length := by omega
          have hmk : ∀ (j : Nat) (hj : j < [mk, mk, mk, mk].length), [mk, mk, mk, mk][j] = mk := by
            intro j hj
            have : j < 4 := by simpa using hj
            rcases (by omega : j = 0 ∨ j = 1 ∨ j = 2 ∨ j = 3) with rfl | rfl | rfl | rfl <;> rfl
          rw [hmk]
          obtain ⟨d, hd⟩ : ∃ d, i - rows.length = d := ⟨_, rfl⟩
          have hL5 := HRI.out _ _ _ HL3.out
          have hG5 := HRI.out _ _ _ HG3.out
          have hH5 := HRI.out _ _ _ HH3.out
          have hJ5 := HRI.out _ _ _ HJ3.out
          have base : ∀ (r : Value) (n : Nat), w5.ownsRow 0 94 3 r n (List.replicate n (mV mk)).flatten → (∀ k, r.ownBlock = some k → (F k ∨ (Value.slice lb xs.length lc).ownBlock = some k ∨ w.heap.size ≤ k) ∧ (Value.slice b5 marks.length m5).ownBlock ≠ some k) → ∃ n, (w6.setCell ⟨wb, 4, none⟩ (.slice (some ⟨g6, 0, none⟩) (marks.length + 4) p6)).ownsRow 0 94 3 r n (List.replicate n (mV mk)).flatten ∧ ∀ k, r.ownBlock = some k → (F k ∨ (Value.slice lb xs.length lc).ownBlock = some k ∨ w.heap.size ≤ k) ∧ (Value.slice (some ⟨g6, 0, none⟩) (marks.length + 4) p6).ownBlock ≠ some k :=
            fun r n hr hk => ⟨n, fin hr (fun k ek => (hk k ek).2), fun k ek => ⟨(hk k ek).1, knew k (ownLt hr ek) (hk k ek).2⟩⟩
          have hcases : ∀ (d : Nat) (hd4 : d < 4), ∃ n, (w6.setCell ⟨wb, 4, none⟩ (.slice (some ⟨g6, 0, none⟩) (marks.length + 4) p6)).ownsRow 0 94 3 ([Value.slice lb xs.length lc, .slice (some ⟨g1, 0, none⟩) (xs.length + 1) p1, .slice (some ⟨g2, 0, none⟩) (xs.length + 2) p2, .slice (some ⟨g3, 0, none⟩) (xs.length + 3) p3][d]'(by simpa using hd4)) n (List.replicate n (mV mk)).flatten ∧ ∀ k, ([Value.slice lb xs.length lc, .slice (some ⟨g1, 0, none⟩) (xs.length + 1) p1, .slice (some ⟨g2, 0, none⟩) (xs.length + 2) p2, .slice (some ⟨g3, 0, none⟩) (xs.length + 3) p3][d]'(by simpa using hd4)).ownBlock = some k → (F k ∨ (Value.slice lb xs.length lc).ownBlock = some k ∨ w.heap.size ≤ k) ∧ (Value.slice (some ⟨g6, 0, none⟩) (marks.length + 4) p6).ownBlock ≠ some k := by
            intro d hd4
            rcases (by omega : d = 0 ∨ d = 1 ∨ d = 2 ∨ d = 3) with rfl | rfl | rfl | rfl
            · exact base _ _ hL5 (fun k ek => ⟨.inr (.inl ek), fun e => HNK.out _ e ek⟩)
            · exact base _ _ hG5 (newr g1 _ _ HE1.out)
            · exact base _ _ hH5 (newr g2 _ _ HE2.out)
            · exact base _ _ hJ5 (newr g3 _ _ HE3.out)
          exact hcases (i - rows.length) hi4
      · intro k ek
        obtain rfl : g4 = k := by cases ek; rfl
        rcases HE4.out with h | h
        · exact .inl (HB.out.inN _ h)
        · exact .inr (.inr h)
      · intro k ek
        obtain rfl : g6 = k := by cases ek; rfl
        rcases hg6 with h | h
        · exact .inl (HB.out.inK _ h)
        · exact .inr (.inr (by omega))
      · exact ((HD5.out.alloc _).trans (HD6.out.mono (fun k hk => .inr (.inl (HB.out.inK k hk))))).set _ (.inl (.inl rfl))
end
end Go.Proofs.YtbnelaoeblhndaaGreatDoor
/- The book's kept. -/
namespace Go.Proofs.YtbnelaoeblhndaaGreatDoor
open Go.RowKit
set_option maxRecDepth 100000

section
variable {w : World} {F G : Nat → Prop} {wb : Nat} {lv nsv knv vsv kvv : Value} {rows vrows : List Value} {marks vmarks : List Int}

theorem row_cell {w : World} {m e n g cap j : Nat} {cs : List Value} {u : Value} (h : w.ownsRow m e 1 (.slice (some ⟨g, 0, none⟩) n cap) n cs) (hj : cs[j]? = some u) : w.cell? ⟨g, j, none⟩ = some u := by
  have := h.cells (g := g) rfl j u hj
  rw [addr_add2, Nat.zero_add] at this
  exact this

theorem row_max {w : World} {m e size n : Nat} {v : Value} {cs : List Value} (h : w.ownsRow m e size v n cs) : n ≤ 9223372036854775807 := by
  rcases h.2 with ⟨_, h0⟩ | ⟨_, cap, _, _, _, _, h1, h2, _⟩
  · omega
  · simp only [maxLen] at h2; omega
theorem below_drewN {B : Nat} {a w : World} {n : Nat} (h : Below B a w) : Below B a (w.drewN n) := ⟨h.os, h.tape, h.output, h.size, h.block⟩
theorem rep_at {α : Type} (mk : List α) (size : Nat) (hs : mk.length = size) {n : Nat} (j : Nat) (hj : j < n) (c : Nat) (hc : c < size) : (List.replicate n mk).flatten[j * size + c]? = mk[c]? := by
  induction n generalizing j with
  | zero => omega
  | succ n ih =>
    rw [List.replicate_succ, List.flatten_cons]
    cases j with
    | zero => rw [List.getElem?_append_left (by omega)]; simp
    | succ j =>
      rw [List.getElem?_append_right (by rw [hs, Nat.succ_mul]; omega), show (j + 1) * size + c - mk.length = j * size + c by rw [hs, Nat.succ_mul]; omega]
      exact ih j (by omega)

set_option maxHeartbeats 4000000 in
theorem kept_any (hw : w.heap[wb]? = some (worldO lv nsv knv vsv kvv (.slice none 0 0) (.slice none 0 0))) (hn : BookN w F nsv knv rows marks) (hv : BookV w G vsv kvv vrows vmarks) (h1 : rows.length ≤ 1000000000) (h2 : vrows.length ≤ 1000000000) :
    Calls Tryz.prog 38 #[.pointer (some ⟨wb, 1, none⟩)] w fun e w' => e = .returned (.bool true) ∧ Below w.heap.size w w' := by
  obtain ⟨b1, m1, e1⟩ := row_slice hn.ns
  obtain ⟨b2, m2, e2⟩ := row_slice hn.kn
  obtain ⟨b3, m3, e3⟩ := row_slice hv.ns
  obtain ⟨b4, m4, e4⟩ := row_slice hv.kn
  subst e1 e2 e3 e4
  have c1 : w.cell? ⟨wb, 1, none⟩ = some (.slice b1 rows.length m1) := blk_cell hw 1 _ rfl
  have c2 : w.cell? ⟨wb, 2, none⟩ = some (.slice b2 marks.length m2) := blk_cell hw 2 _ rfl
  have c3 : w.cell? ⟨wb, 3, none⟩ = some (.slice b3 vrows.length m3) := blk_cell hw 3 _ rfl
  have c4 : w.cell? ⟨wb, 4, none⟩ = some (.slice b4 vmarks.length m4) := blk_cell hw 4 _ rfl
  have c5 : w.cell? ⟨wb, 5, none⟩ = some (.slice none 0 0) := blk_cell hw 5 _ rfl
  have hwl := lt_block hw
  have HN : Hid _ := hn
  have HV : Hid _ := hv
  have HW : Hid _ := hw
  clear hn hv hw
  go_enter Tryz.func38, Tryz.ntmps38
  go_wp2_with fail
  go_loopw [3] (fun i wr => ∃ k : Nat, k ≤ rows.length ∧ i = .int .i64 k ∧ Below w.heap.size w wr) (fun i _ => rows.length - (intOf i).toNat)
  case atStart => exact ⟨0, Nat.zero_le _, rfl, Below.refl _ _⟩
  case round =>
    obtain ⟨k, hk, rfl, hb⟩ := hrel
    have d1 := (hb.cell (p := ⟨wb, 1, none⟩) hwl).trans c1
    by_cases hk2 : k < rows.length
    · have hk3 : k < marks.length := by rw [← HN.out.len]; exact hk2
      obtain ⟨n, r, hro⟩ := HN.out.each k hk2 hk3
      obtain ⟨rb, rc, hre⟩ := row_slice r
      obtain ⟨nb, nc, hnb⟩ := own_slice' HN.out.ns (by omega)
      obtain ⟨kb, kc, hkb⟩ := own_slice' HN.out.kn (by omega)
      obtain rfl : b1 = some ⟨nb, 0, none⟩ := by simp at hnb; exact hnb.1
      obtain rfl : b2 = some ⟨kb, 0, none⟩ := by simp at hkb; exact hkb.1
      have n1 := row_cell HN.out.ns (List.getElem?_eq_getElem hk2)
      rw [hre] at n1
      have k1 := row_cell HN.out.kn (int_at marks k hk3)
      obtain ⟨mk, HMK⟩ : ∃ mk, Hid (mk = marks[k]) := ⟨marks[k], rfl⟩
      rw [← HMK.out] at k1 r
      rw [hre] at r
      have hnl := ownLt HN.out.ns (k := nb) rfl
      have hkl := ownLt HN.out.kn (k := kb) rfl
      have HR : Hid _ := r
      have hnn : n ≤ 9223372036854775807 := row_max r
      clear r hre hro hnb hkb
      have x1 := (hb.cell (p := ⟨nb, k, none⟩) hnl).trans n1
      go_wp2_with fail
      go_loopw [4] (fun i wx => ∃ j : Nat, j ≤ n ∧ i = .int .i64 j ∧ Below w.heap.size w wx) (fun i _ => n - (intOf i).toNat)
      case atStart => exact ⟨0, Nat.zero_le _, rfl, hb⟩
      case round =>
        obtain ⟨j, hj, rfl, hb2⟩ := hrel
        have d1 := (hb2.cell (p := ⟨wb, 1, none⟩) hwl).trans c1
        have d2 := (hb2.cell (p := ⟨wb, 2, none⟩) hwl).trans c2
        have x1 := (hb2.cell (p := ⟨nb, k, none⟩) hnl).trans n1
        have x2 := (hb2.cell (p := ⟨kb, k, none⟩) hkl).trans k1
        by_cases hj2 : j < n
        · obtain ⟨g, cap, hg⟩ := own_slice' HR.out (by omega)
          obtain rfl : rb = some ⟨g, 0, none⟩ := by simp at hg; exact hg.1
          have y1 := (hb2.cell (p := ⟨g, j, none⟩) (ownLt HR.out (k := g) rfl)).trans (row_cell HR.out (u := .int .i64 mk) (j := j) (by simp [hj2]))
          clear hg
          go_wp2_with fail
          go_quiet (fail)
          go_wp2_with fail
          exact ⟨⟨j + 1, by omega, by go_num, below_drewN hb2⟩, by simp [intOf]; omega⟩
        · obtain rfl : j = n := by omega
          go_wp2_with fail
          exact ⟨⟨k + 1, by omega, by go_num, hb2⟩, by simp [intOf]; omega⟩
    · obtain rfl : k = rows.length := by omega
      go_wp2_with fail
      clear d1
      go_loopw [5] (fun i wr => ∃ k : Nat, k ≤ vrows.length ∧ i = .int .i64 k ∧ Below w.heap.size w wr) (fun i _ => vrows.length - (intOf i).toNat)
      case atStart => exact ⟨0, Nat.zero_le _, rfl, hb⟩
      case round =>
        obtain ⟨k, hk, rfl, hb⟩ := hrel
        have d1 := (hb.cell (p := ⟨wb, 3, none⟩) hwl).trans c3
        by_cases hk2 : k < vrows.length
        · have hk3 : k < vmarks.length := by rw [← HV.out.len]; exact hk2
          obtain ⟨n, r, hro⟩ := HV.out.each k hk2 hk3
          obtain ⟨rb, rc, hre⟩ := row_slice r
          obtain ⟨nb, nc, hnb⟩ := own_slice' HV.out.ns (by omega)
          obtain ⟨kb, kc, hkb⟩ := own_slice' HV.out.kn (by omega)
          obtain rfl : b3 = some ⟨nb, 0, none⟩ := by simp at hnb; exact hnb.1
          obtain rfl : b4 = some ⟨kb, 0, none⟩ := by simp at hkb; exact hkb.1
          have n1 := row_cell HV.out.ns (List.getElem?_eq_getElem hk2)
          rw [hre] at n1
          have k1 := row_cell HV.out.kn (int_at vmarks k hk3)
          obtain ⟨mk, HMK⟩ : ∃ mk, Hid (mk = vmarks[k]) := ⟨vmarks[k], rfl⟩
          rw [← HMK.out] at k1 r
          rw [hre] at r
          have hnl := ownLt HV.out.ns (k := nb) rfl
          have hkl := ownLt HV.out.kn (k := kb) rfl
          have HR : Hid _ := r
          have hnn : n ≤ 9223372036854775807 := row_max r
          clear r hre hro hnb hkb
          have x1 := (hb.cell (p := ⟨nb, k, none⟩) hnl).trans n1
          go_wp2_with fail
          go_loopw [6] (fun i wx => ∃ j : Nat, j ≤ n ∧ i = .int .i64 j ∧ Below w.heap.size w wx) (fun i _ => n - (intOf i).toNat)
          case atStart => exact ⟨0, Nat.zero_le _, rfl, hb⟩
          case round =>
            obtain ⟨j, hj, rfl, hb2⟩ := hrel
            have d1 := (hb2.cell (p := ⟨wb, 3, none⟩) hwl).trans c3
            have d2 := (hb2.cell (p := ⟨wb, 4, none⟩) hwl).trans c4
            have x1 := (hb2.cell (p := ⟨nb, k, none⟩) hnl).trans n1
            have x2 := (hb2.cell (p := ⟨kb, k, none⟩) hkl).trans k1
            by_cases hj2 : j < n
            · obtain ⟨g, cap, hg⟩ := own_slice' HR.out (by omega)
              obtain rfl : rb = some ⟨g, 0, none⟩ := by simp at hg; exact hg.1
              have hcell : ∀ c u, (mV mk)[c]? = some u → wr.cell? ⟨g, j * 3 + c, none⟩ = some u := fun c u hu => by
                have h3 : c < 3 := (List.getElem?_eq_some_iff.1 hu).1
                have := World.ownsRow.cells HR.out (g := g) rfl (j * 3 + c) u (by rw [rep_at (mV mk) 3 rfl j hj2 c h3]; exact hu)
                rw [addr_add2, Nat.zero_add] at this
                exact (hb2.cell (p := ⟨g, j * 3 + c, none⟩) (ownLt HR.out (k := g) rfl)).trans this
              have y0 : wr.cell? ⟨g, j * 3, none⟩ = some (.int .i64 1) := hcell 0 _ rfl
              have y1 : wr.cell? ⟨g, j * 3 + 1, none⟩ = some (.int .i64 mk) := hcell 1 _ rfl
              have y2 : wr.cell? ⟨g, j * 3 + 2, none⟩ = some (.string ⟨#[]⟩) := hcell 2 _ rfl
              have hsw : wb < wr.heap.size := Nat.lt_of_lt_of_le hwl hb2.size
              have hsk : kb < wr.heap.size := Nat.lt_of_lt_of_le hkl hb2.size
              clear hg hcell
              go_wp2_with fail
              go_quiet (fail)
              go_wp2_with fail
              exact ⟨⟨j + 1, by omega, by go_num, below_drewN (hb2.alloc hb2.size _)⟩, by simp [intOf]; omega⟩
            · obtain rfl : j = n := by omega
              go_wp2_with fail
              exact ⟨⟨k + 1, by omega, by go_num, hb2⟩, by simp [intOf]; omega⟩
        · obtain rfl : k = vrows.length := by omega
          have d5 := (hb.cell (p := ⟨wb, 5, none⟩) hwl).trans c5
          go_wp2_with fail
          go_loopw [8] (fun i wx => i = .int .i64 0 ∧ Below w.heap.size w wx) (fun _ _ => 0)
          case atStart => exact ⟨rfl, hb⟩
          case round =>
            obtain ⟨rfl, hb⟩ := hrel
            have d5 := (hb.cell (p := ⟨wb, 5, none⟩) hwl).trans c5
            go_wp2_with fail
            go_ret
            exact ⟨rfl, hb⟩
end
end Go.Proofs.YtbnelaoeblhndaaGreatDoor
/- What the statement keeps: stores in pairs, lists that came out. -/
namespace Go.Proofs.YtbnelaoeblhndaaGreatDoor
open Go.RowKit
set_option maxRecDepth 100000

/-- A pair of stores: where they lie, and what they are. -/
structure Pr where
  xb : Nat
  yb : Nat
  fs : List Doc.Fld
  space : Int
  ts : List Doc.Thg

def prC (p : Pr) : List Value := [.pointer (some ⟨p.xb, 0, none⟩), .pointer (some ⟨p.yb, 0, none⟩)]
def prsC (ps : List Pr) : List Value := ps.flatMap prC
/-- The things of a list by their numbers. -/
def hasOf (ts : List Doc.Thg) : Has := fun id => (ts.find? (fun t => t.id == id)).map (fun t => (t.spot, t.vals))
/-- No number twice. -/
def Uniq (ts : List Doc.Thg) : Prop := ts.Pairwise (fun a b => a.id ≠ b.id)
/-- The blocks of one colour. -/
def Cl (B N : Nat) (own : Nat → Nat) (c : Nat) : Nat → Prop := fun k => B ≤ k ∧ k < N ∧ own k = c

structure LawAt (B : Nat) (w : World) (own : Nat → Nat) (wb : Nat) (ps : List Pr) (lv nsv knv vsv kvv : Value) (rows : List Value) (marks : List Int) (vrows : List Value) (vmarks : List Int) : Prop where
  blk : w.heap[wb]? = some (worldO lv nsv knv vsv kvv (.slice none 0 0) (.slice none 0 0))
  wbc : Cl B w.heap.size own 0 wb
  prs : w.ownsRow 0 140 2 lv ps.length (prsC ps)
  prc : ∀ k, lv.ownBlock = some k → Cl B w.heap.size own 0 k
  bkn : BookN w (Cl B w.heap.size own 1) nsv knv rows marks
  bkv : BookV w (Cl B w.heap.size own 2) vsv kvv vrows vmarks
  sts : ∀ i (h : i < ps.length), ProgSt w (Cl B w.heap.size own (2 * i + 3)) ps[i].xb ps[i].fs ps[i].space (hasOf ps[i].ts) ∧ RefSt w (Cl B w.heap.size own (2 * i + 4)) ps[i].yb ps[i].fs ps[i].space ps[i].ts ∧ Uniq ps[i].ts

def LawSt (B : Nat) (w : World) (wb n g : Nat) : Prop := ∃ own ps lv nsv knv vsv kvv rows marks vrows vmarks, LawAt B w own wb ps lv nsv knv vsv kvv rows marks vrows vmarks ∧ ps.length = n ∧ rows.length = 4 * g ∧ vrows.length = 4 * g

theorem BookN.kept {w w' : World} {F F' : Nat → Prop} {nsv knv : Value} {rows : List Value} {marks : List Int} (h : BookN w F nsv knv rows marks) (hk : ∀ k, F k → k < w.heap.size → w'.heap[k]? = w.heap[k]?) (hF : ∀ k, F k → k < w.heap.size → F' k) : BookN w' F' nsv knv rows marks := by
  refine ⟨rowKept h.ns (fun k _ e ho => (hk k (h.inN k e) (ownLt h.ns e)).trans ho), rowKept h.kn (fun k _ e ho => (hk k (h.inK k e) (ownLt h.kn e)).trans ho), h.len, fun i h1 h2 => ?_, fun k e => hF k (h.inN k e) (ownLt h.ns e), fun k e => hF k (h.inK k e) (ownLt h.kn e)⟩
  obtain ⟨n, r, hr⟩ := h.each i h1 h2
  exact ⟨n, rowKept r (fun k _ e ho => (hk k (hr k e).1 (ownLt r e)).trans ho), fun k e => ⟨hF k (hr k e).1 (ownLt r e), (hr k e).2⟩⟩
theorem BookV.kept {w w' : World} {F F' : Nat → Prop} {nsv knv : Value} {rows : List Value} {marks : List Int} (h : BookV w F nsv knv rows marks) (hk : ∀ k, F k → k < w.heap.size → w'.heap[k]? = w.heap[k]?) (hF : ∀ k, F k → k < w.heap.size → F' k) : BookV w' F' nsv knv rows marks := by
  refine ⟨rowKept h.ns (fun k _ e ho => (hk k (h.inN k e) (ownLt h.ns e)).trans ho), rowKept h.kn (fun k _ e ho => (hk k (h.inK k e) (ownLt h.kn e)).trans ho), h.len, fun i h1 h2 => ?_, fun k e => hF k (h.inN k e) (ownLt h.ns e), fun k e => hF k (h.inK k e) (ownLt h.kn e)⟩
  obtain ⟨n, r, hr⟩ := h.each i h1 h2
  exact ⟨n, rowKept r (fun k _ e ho => (hk k (hr k e).1 (ownLt r e)).trans ho), fun k e => ⟨hF k (hr k e).1 (ownLt r e), (hr k e).2⟩⟩
theorem RefSt.kept' {w w' : World} {F F' : Nat → Prop} {sb : Nat} {fs : List Doc.Fld} {space : Int} {ts : List Doc.Thg} (h : RefSt w F sb fs space ts) (hk : ∀ k, F k → k < w.heap.size → w'.heap[k]? = w.heap[k]?) (hF : ∀ k, F k → k < w.heap.size → F' k) : RefSt w' F' sb fs space ts :=
  h.kept (fun k _ hf ho => (hk k hf (lt_block ho)).trans ho) hF

theorem pig : ∀ (n : Nat) (l : List Nat), l.Nodup → (∀ x ∈ l, x < n) → l.length ≤ n := by
  intro n
  induction n with
  | zero =>
    intro l _ h
    cases l with
    | nil => simp
    | cons a r => exact absurd (h a (by simp)) (by omega)
  | succ n ih =>
    intro l hn h
    have h1 := ih (l.erase n) (hn.erase n) (fun x hx => by
      have := (hn.mem_erase_iff).1 hx
      have := h x this.2
      omega)
    have h2 : l.length ≤ (l.erase n).length + 1 := by
      rw [List.length_erase]; split <;> omega
    omega

theorem uniq_len {ts : List Doc.Thg} (hu : Uniq ts) (hr : ∀ t ∈ ts, 0 ≤ t.id ∧ t.id ≤ 4095) : ts.length ≤ 4096 := by
  have := pig 4096 (ts.map (fun t => t.id.toNat)) (by
    rw [List.Nodup, List.pairwise_map]
    refine List.Pairwise.imp_of_mem ?_ hu
    intro a b ha hb h e
    have h1 := hr a ha
    have h2 := hr b hb
    exact h (by omega)) (by
    intro x hx
    obtain ⟨t, ht, rfl⟩ := List.mem_map.1 hx
    have := hr t ht
    omega)
  simpa using this

theorem has_none {ts : List Doc.Thg} {id : Int} (h : Doc.idxT ts id = none) : hasOf ts id = none := by
  unfold hasOf
  unfold Doc.idxT at h
  rw [List.findIdx?_eq_none_iff] at h
  rw [List.find?_eq_none.2 (fun t ht => by simpa using h t ht)]; rfl
theorem has_some {ts : List Doc.Thg} {id : Int} {k : Nat} (h : Doc.idxT ts id = some k) : ∃ (hk : k < ts.length), ts[k].id = id ∧ hasOf ts id = some (ts[k].spot, ts[k].vals) := by
  unfold Doc.idxT at h
  obtain ⟨hk, h1, h2⟩ := List.findIdx?_eq_some_iff_getElem.1 h
  refine ⟨hk, by simpa using h1, ?_⟩
  unfold hasOf
  have : ts.find? (fun t => t.id == id) = some ts[k] := List.find?_eq_some_iff_getElem.2 ⟨h1, k, hk, rfl, fun j hj => by simpa using h2 j hj⟩
  rw [this]; rfl
theorem has_mem {ts : List Doc.Thg} (hu : Uniq ts) {t : Doc.Thg} (ht : t ∈ ts) : hasOf ts t.id = some (t.spot, t.vals) := by
  unfold hasOf
  obtain ⟨k, hk, rfl⟩ := List.getElem_of_mem ht
  have : ts.find? (fun t => t.id == ts[k].id) = some ts[k] := List.find?_eq_some_iff_getElem.2 ⟨by simp, k, hk, rfl, fun j hj => by
    have := List.pairwise_iff_getElem.1 hu j k (by omega) hk hj
    simpa using this⟩
  rw [this]; rfl
/-- Which thing has a number: of a list without doubles. -/
theorem has_iff {ts : List Doc.Thg} (hu : Uniq ts) (id : Int) (p : List Int × List Doc.Val) : hasOf ts id = some p ↔ ∃ t ∈ ts, t.id = id ∧ p = (t.spot, t.vals) := by
  constructor
  · intro h
    unfold hasOf at h
    cases hf : ts.find? (fun t => t.id == id) with
    | none => rw [hf] at h; cases h
    | some t =>
      rw [hf] at h
      cases h
      exact ⟨t, List.mem_of_find?_eq_some hf, by simpa using List.find?_some hf, rfl⟩
  · rintro ⟨t, ht, rfl, rfl⟩
    exact has_mem hu ht
theorem uniq_put {ts : List Doc.Thg} (hu : Uniq ts) (t : Doc.Thg) : Uniq (Doc.putT ts t) := by
  unfold Doc.putT
  cases hi : Doc.idxT ts t.id with
  | none =>
    unfold Doc.idxT at hi
    rw [List.findIdx?_eq_none_iff] at hi
    refine List.pairwise_append.2 ⟨hu, by simp, fun a ha b hb => ?_⟩
    rw [List.mem_singleton.1 hb]
    simpa using hi a ha
  | some k =>
    obtain ⟨hk, h1, _⟩ := has_some hi
    show (ts.set k t).Pairwise _
    rw [List.pairwise_iff_getElem]
    intro i j hi' hj' hij
    have hi2 : i < ts.length := by simpa using hi'
    have hj2 : j < ts.length := by simpa using hj'
    have base := fun a b (ha : a < ts.length) (hb : b < ts.length) (hab : a < b) => List.pairwise_iff_getElem.1 hu a b ha hb hab
    rw [List.getElem_set, List.getElem_set]
    split
    · rename_i e; subst e
      rw [if_neg (by omega), ← h1]
      exact base _ _ hi2 hj2 hij
    · split
      · rename_i e; subst e
        rw [← h1]
        exact base _ _ hi2 hj2 hij
      · exact base _ _ hi2 hj2 hij
theorem has_put {ts : List Doc.Thg} (hu : Uniq ts) (t : Doc.Thg) : hasOf (Doc.putT ts t) = putT (hasOf ts) t.id (t.spot, t.vals) := by
  funext id
  have hu2 := uniq_put hu t
  have mem : ∀ s, s ∈ Doc.putT ts t ↔ s = t ∨ (s ∈ ts ∧ s.id ≠ t.id) := by
    intro s
    unfold Doc.putT
    cases hi : Doc.idxT ts t.id with
    | none =>
      unfold Doc.idxT at hi
      rw [List.findIdx?_eq_none_iff] at hi
      simp only [List.mem_append, List.mem_singleton]
      constructor
      · rintro (h | h)
        · exact .inr ⟨h, by simpa using hi s h⟩
        · exact .inl h
      · rintro (h | h)
        · exact .inr h
        · exact .inl h.1
    | some k =>
      obtain ⟨hk, h1, _⟩ := has_some hi
      show s ∈ ts.set k t ↔ _
      rw [List.mem_iff_getElem]
      constructor
      · rintro ⟨j, hj, rfl⟩
        have hj2 : j < ts.length := by simpa using hj
        rw [List.getElem_set]
        split
        · exact .inl rfl
        · rename_i e
          refine .inr ⟨List.getElem_mem hj2, ?_⟩
          rw [← h1]
          rcases Nat.lt_or_gt_of_ne e with hlt | hlt
          · exact (List.pairwise_iff_getElem.1 hu k j hk hj2 hlt).symm
          · exact List.pairwise_iff_getElem.1 hu j k hj2 hk hlt
      · rintro (rfl | ⟨h2, h3⟩)
        · exact ⟨k, by simpa using hk, by simp⟩
        · obtain ⟨j, hj, rfl⟩ := List.getElem_of_mem h2
          have : k ≠ j := by rintro rfl; exact h3 h1
          exact ⟨j, by simpa using hj, by rw [List.getElem_set_ne this]⟩
  apply Option.ext
  intro p
  rw [has_iff hu2]
  unfold putT
  by_cases e : id = t.id
  · subst e
    rw [if_pos rfl]
    constructor
    · rintro ⟨s, hs, h1, rfl⟩
      rcases (mem s).1 hs with rfl | ⟨_, h⟩
      · rfl
      · exact absurd h1 h
    · intro h; cases h; exact ⟨t, (mem t).2 (.inl rfl), rfl, rfl⟩
  · rw [if_neg e, has_iff hu]
    constructor
    · rintro ⟨s, hs, h1, rfl⟩
      rcases (mem s).1 hs with rfl | ⟨h2, _⟩
      · exact absurd h1.symm e
      · exact ⟨s, h2, h1, rfl⟩
    · rintro ⟨s, hs, h1, rfl⟩
      exact ⟨s, (mem s).2 (.inr ⟨hs, by rw [h1]; exact e⟩), h1, rfl⟩
theorem uniq_drop {ts : List Doc.Thg} (hu : Uniq ts) (k : Nat) : Uniq (ts.eraseIdx k) := List.Pairwise.sublist (List.eraseIdx_sublist _ _) hu
theorem has_drop {ts : List Doc.Thg} (hu : Uniq ts) {id : Int} {k : Nat} (h : Doc.idxT ts id = some k) : hasOf (ts.eraseIdx k) = dropT (hasOf ts) id := by
  obtain ⟨hk, h1, _⟩ := has_some h
  funext i
  apply Option.ext
  intro p
  rw [has_iff (uniq_drop hu k)]
  unfold dropT
  by_cases e : i = id
  · subst e
    rw [if_pos rfl]
    constructor
    · rintro ⟨s, hs, h2, rfl⟩
      exfalso
      obtain ⟨j, hjk, hj⟩ := List.mem_eraseIdx_iff_getElem?.1 hs
      obtain ⟨hjl, rfl⟩ := List.getElem?_eq_some_iff.1 hj
      rcases Nat.lt_or_gt_of_ne hjk with hlt | hlt
      · exact List.pairwise_iff_getElem.1 hu j k hjl hk hlt (h2.trans h1.symm)
      · exact List.pairwise_iff_getElem.1 hu k j hk hjl hlt (h1.trans h2.symm)
    · intro h; cases h
  · rw [if_neg e, has_iff hu]
    constructor
    · rintro ⟨s, hs, h2, rfl⟩
      exact ⟨s, (List.eraseIdx_sublist _ _).subset hs, h2, rfl⟩
    · rintro ⟨s, hs, h2, rfl⟩
      obtain ⟨j, hj, rfl⟩ := List.getElem_of_mem hs
      have : j ≠ k := by rintro rfl; exact e (h2.symm.trans h1)
      exact ⟨_, List.mem_eraseIdx_iff_getElem?.2 ⟨j, this, List.getElem?_eq_getElem hj⟩, h2, rfl⟩
end Go.Proofs.YtbnelaoeblhndaaGreatDoor
/- The statement's gets. -/
namespace Go.Proofs.YtbnelaoeblhndaaGreatDoor
open Go.RowKit
set_option maxRecDepth 100000

/-- What Get tells: spot, values, error. -/
def gotS (o : Option (List Int × List Doc.Val)) : List Int := match o with | some t => t.1 | none => []
def gotV (o : Option (List Int × List Doc.Val)) : List Doc.Val := match o with | some t => t.2 | none => []
def gotE (o : Option (List Int × List Doc.Val)) : Int := match o with | some _ => 0 | none => 4

section
variable {w : World} {F : Nat → Prop} {sb : Nat} {fs : List Doc.Fld} {space : Int} {ts : List Doc.Thg} {th : Has}

theorem pget_any (h : ProgSt w F sb fs space th) (id : Int) (h0 : -9223372036854775808 ≤ id) (h1 : id ≤ 9223372036854775807) :
    Calls Tryz.prog 32 #[.pointer (some ⟨sb, 0, none⟩), .int .i64 id] w fun e w' => ∃ v1 v2, e = .returned (.tuple #[v1, v2, .int .i64 (gotE (th id))]) ∧ w'.ownsRow w.heap.size 3 1 v1 (gotS (th id)).length (intC (gotS (th id))) ∧ w'.ownsRow w.heap.size 94 3 v2 (gotV (th id)).length (valsC (gotV (th id))) ∧ Below w.heap.size w w' := by
  obtain ⟨fv, hb, mt, mh, pos, h⟩ := h
  cases hn : th id with
  | none =>
    refine (pget_none h id h0 h1 hn).mono ?_
    rintro e w' ⟨rfl, hb'⟩
    exact ⟨_, _, rfl, World.ownsRow_nil _ _ _ _, World.ownsRow_nil _ _ _ _, hb'⟩
  | some t => exact pget_some h id t hn

theorem rget_any (h : RefSt w F sb fs space ts) (hl : ts.length ≤ 1000000) (id : Int) :
    Calls Tryz.prog 97 #[.pointer (some ⟨sb, 0, none⟩), .int .i64 id] w fun e w' => ∃ v1 v2, e = .returned (.tuple #[v1, v2, .int .i64 (gotE (hasOf ts id))]) ∧ Sl w' v1 (gotS (hasOf ts id)).length (intC (gotS (hasOf ts id))) ∧ Sl w' v2 (gotV (hasOf ts id)).length (valsC (gotV (hasOf ts id))) ∧ Below w.heap.size w w' := by
  obtain ⟨fv, tv, ps, h⟩ := h
  cases hn : Doc.idxT ts id with
  | none =>
    rw [has_none hn]
    refine (rget_none h (by omega) id hn).mono ?_
    rintro e w' ⟨rfl, rfl⟩
    exact ⟨_, _, rfl, ⟨.inl ⟨rfl, _, _, rfl⟩⟩, ⟨.inl ⟨rfl, _, _, rfl⟩⟩, Below.refl _ _⟩
  | some k =>
    obtain ⟨hk, h1, h2⟩ := has_some hn
    rw [h2]
    have hk' : k < ps.length := by rw [← h.len]; exact hk
    obtain ⟨r1, r2⟩ := h.each k hk hk'
    refine (rget_some h (by omega) id k hn hk hk').mono ?_
    rintro e w' ⟨rfl, hb'⟩
    exact ⟨_, _, rfl, (rowSl r1).below hb', (rowSl r2).below hb', hb'⟩
end

theorem num_any' (E : Int) (w : World) : Calls Tryz.prog 13 #[.int .i64 E] w fun e w' => e = .returned (.int .i64 E) ∧ w' = w := by
  go_enter Tryz.func13, Tryz.ntmps13
  go_wp2_with fail
  go_ret
  exact ⟨rfl, rfl⟩

section
variable {B : Nat} {w : World} {own : Nat → Nat} {wb : Nat} {ps : List Pr} {lv nsv knv vsv kvv : Value} {rows : List Value} {marks : List Int} {vrows : List Value} {vmarks : List Int}

set_option maxHeartbeats 4000000 in
/-- The walk of gets, of whatever the two stores tell. -/
theorem gets_walk (xb yb : Nat) (id : Int) (spot : List Int) (vals : List Doc.Val) (E : Int) (hsl : spot.length ≤ 1000) (hvl : vals.length ≤ 1000)
    (hX : ∀ W, Below w.heap.size w W → Calls Tryz.prog 32 #[.pointer (some ⟨xb, 0, none⟩), .int .i64 id] W fun e w' => ∃ v1 v2, e = .returned (.tuple #[v1, v2, .int .i64 E]) ∧ w'.ownsRow W.heap.size 3 1 v1 spot.length (intC spot) ∧ w'.ownsRow W.heap.size 94 3 v2 vals.length (valsC vals) ∧ Below W.heap.size W w')
    (hY : ∀ W, Below w.heap.size w W → Calls Tryz.prog 97 #[.pointer (some ⟨yb, 0, none⟩), .int .i64 id] W fun e w' => ∃ v1 v2, e = .returned (.tuple #[v1, v2, .int .i64 E]) ∧ Sl w' v1 spot.length (intC spot) ∧ Sl w' v2 vals.length (valsC vals) ∧ Below W.heap.size W w')
    (R : World → World → Prop)
    (hN : ∀ W l v, Below w.heap.size w W → W.ownsRow w.heap.size 3 1 l spot.length (intC spot) → W.ownsRow w.heap.size 94 3 v vals.length (valsC vals) → Calls Tryz.prog 99 #[.pointer (some ⟨wb, 1, none⟩), l] W fun e w1 => e = .returned (.tuple #[]) ∧ Calls Tryz.prog 100 #[.pointer (some ⟨wb, 1, none⟩), v] w1 fun e w2 => e = .returned (.tuple #[]) ∧ R W w2) :
    Calls Tryz.prog 58 #[.pointer (some ⟨wb, 0, none⟩), .agg #[.pointer (some ⟨xb, 0, none⟩), .pointer (some ⟨yb, 0, none⟩)], .int .i64 id] w fun e w' => e = .returned (.bool true) ∧ ∃ W, Below w.heap.size w W ∧ R W w' := by
  have HX : Hid _ := hX
  have HY : Hid _ := hY
  have HN : Hid _ := hN
  clear hX hY hN
  have hba : Below w.heap.size w (w.alloc (.cells #[.pointer (some ⟨xb, 0, none⟩), .pointer (some ⟨yb, 0, none⟩)] 140)) := (Below.refl _ _).alloc (Nat.le_refl _) _
  have HBA : Hid _ := hba
  go_enter Tryz.func58, Tryz.ntmps58
  go_wp2_with fail
  refine (HX.out _ HBA.out).mono ?_
  rintro e w1 ⟨v1, v2, rfl, r1, r2, hb1⟩
  obtain ⟨b1, c1, rfl⟩ := row_slice r1
  obtain ⟨b2, c2, rfl⟩ := row_slice r2
  have q1 := (hb1.block w.heap.size (by simp)).trans (heap_alloc_new w _)
  have y1 := blk_cell q1 1 _ rfl
  have HB1 : Hid _ := Below.callB HBA.out (Nat.le_refl _) hb1
  have R1 : Hid _ := own_less r1 (by simp : w.heap.size ≤ _)
  have R2 : Hid _ := own_less r2 (by simp : w.heap.size ≤ _)
  clear r1 r2 hb1 q1 hba
  go_wp2_with fail
  refine (HY.out w1 HB1.out).mono ?_
  rintro e w2 ⟨u1, u2, rfl, s1, s2, hb2⟩
  obtain ⟨b3, c3, rfl⟩ := s1.slice
  obtain ⟨b4, c4, rfl⟩ := s2.slice
  have R3 : Hid _ := row_below R1.out hb2
  have R4 : Hid _ := row_below R2.out hb2
  have HB2 : Hid _ := Below.callB HB1.out (Nat.le_refl _) hb2
  have HSA : Hid _ := same_any spot (by omega) _ _ (rowSl R3.out) s1
  have S2 : Hid _ := s2
  clear s1 s2 hb2 y1
  go_wp2_with fail
  refine Calls.mono HSA.out ?_
  rintro e w3 ⟨rfl, hb3⟩
  have R5 : Hid _ := row_below R3.out hb3
  have R6 : Hid _ := row_below R4.out hb3
  have S6 : Hid _ := S2.out.below hb3
  have HB3 : Hid _ := Below.callB HB2.out (Nat.le_refl _) hb3
  clear hb3
  go_wp2_with fail
  refine (num_any' E w3).mono ?_
  rintro e w3' ⟨rfl, hw3⟩
  subst hw3
  go_wp2_with fail
  go_loopw [13, 14] (fun ok i wr => ok = .bool true ∧ ∃ k : Nat, k ≤ vals.length ∧ i = .int .i64 k ∧ Below w3'.heap.size w3' wr) (fun _ i _ => vals.length - (intOf i).toNat)
  case atStart => exact ⟨rfl, 0, Nat.zero_le _, rfl, Below.refl _ _⟩
  case round =>
    obtain ⟨rfl, k, hk, rfl, hb⟩ := hrel
    by_cases hk2 : k < vals.length
    · have hrow := rowSl (row_below R6.out hb)
      have hsl2 := S6.out.below hb
      rcases hrow.has with ⟨h0, _⟩ | ⟨_, g, o1, cp1, he1, _, _, hr1⟩
      · omega
      rcases hsl2.has with ⟨h0, _⟩ | ⟨_, b, off, cp2, he2, _, _, hr2⟩
      · omega
      simp only [Value.slice.injEq] at he1 he2
      obtain ⟨rfl, _, rfl⟩ := he1
      obtain ⟨rfl, _, rfl⟩ := he2
      obtain ⟨x, HX2⟩ : ∃ x, Hid (x = vals[k]) := ⟨vals[k], rfl⟩
      have hv : ∀ c, c < 3 → (valsC vals)[k * 3 + c]? = (valC x)[c]? := fun c hc => by unfold valsC; rw [flat_at valC 3 valC_len vals k hk2 c hc, HX2.out]
      have a0 := hr1 (k * 3 + 0) (.int .i64 x.k) (hv 0 (by omega))
      have a1 := hr1 (k * 3 + 1) (.int .i64 x.n) (hv 1 (by omega))
      have a2 := hr1 (k * 3 + 2) (.string x.s) (hv 2 (by omega))
      have d0 := hr2 (k * 3 + 0) (.int .i64 x.k) (hv 0 (by omega))
      have d1 := hr2 (k * 3 + 1) (.int .i64 x.n) (hv 1 (by omega))
      have d2 := hr2 (k * 3 + 2) (.string x.s) (hv 2 (by omega))
      rw [Nat.add_zero] at a0 d0
      rw [← Nat.add_assoc] at a1 a2 d1 d2
      clear hr1 hr2 hv hrow hsl2
      go_wp2_with fail
      go_quiet (fail)
      go_wp2_with fail
      exact ⟨⟨by first | rfl | simp, k + 1, by omega, by go_num, below_drewN hb⟩, by simp [intOf]; omega⟩
    · obtain rfl : k = vals.length := by omega
      have HBW : Hid _ := Below.callB HB3.out (Nat.le_refl _) hb
      have HNV : Hid _ := HN.out wr _ _ HBW.out (row_below R5.out hb) (row_below R6.out hb)
      go_wp2_with fail
      refine Calls.mono HNV.out ?_
      rintro e w5 ⟨rfl, hv5⟩
      have HV5 : Hid _ := hv5
      clear hv5
      go_wp2_with fail
      refine Calls.mono HV5.out ?_
      rintro e w6 ⟨rfl, hr6⟩
      go_wp2_with fail
      go_ret
      exact ⟨rfl, wr, HBW.out, hr6⟩
end
end Go.Proofs.YtbnelaoeblhndaaGreatDoor
/- What gets leaves. -/
namespace Go.Proofs.YtbnelaoeblhndaaGreatDoor
open Go.RowKit
set_option maxRecDepth 100000

section
variable {B : Nat} {w : World} {own : Nat → Nat} {wb : Nat} {ps : List Pr} {lv nsv knv vsv kvv : Value} {rows : List Value} {marks : List Int} {vrows : List Value} {vmarks : List Int}

/-- Blocks of a colour stay of it. -/
theorem Cl.mono {N N' : Nat} {own own' : Nat → Nat} {c k : Nat} (h : Cl B N own c k) (hN : N ≤ N') (ho : ∀ k, k < N → own' k = own k) : Cl B N' own' c k := ⟨h.1, by have := h.2.1; omega, by rw [ho k h.2.1]; exact h.2.2⟩

theorem gets_book (_hB : B ≤ w.heap.size) (hA : LawAt B w own wb ps lv nsv knv vsv kvv rows marks vrows vmarks) (hr1 : rows.length ≤ 1000000000) (hr2 : vrows.length ≤ 1000000000) (spot : List Int) (vals : List Doc.Val) (hsl : spot.length ≤ 1000) (hvl : vals.length ≤ 1000) (W : World) (l v : Value) (hW : Below w.heap.size w W)
    (hl : W.ownsRow w.heap.size 3 1 l spot.length (intC spot)) (hv : W.ownsRow w.heap.size 94 3 v vals.length (valsC vals)) :
    Calls Tryz.prog 99 #[.pointer (some ⟨wb, 1, none⟩), l] W fun e w1 => e = .returned (.tuple #[]) ∧ Calls Tryz.prog 100 #[.pointer (some ⟨wb, 1, none⟩), v] w1 fun e w2 => e = .returned (.tuple #[]) ∧
      (Below B w w2 ∧ ∃ own' nsv' knv' vsv' kvv' rows' marks' vrows' vmarks', LawAt B w2 own' wb ps lv nsv' knv' vsv' kvv' rows' marks' vrows' vmarks' ∧ rows'.length = rows.length + 4 ∧ vrows'.length = vrows.length + 4) := by
  obtain ⟨wb1, wb2, wb3⟩ := hA.wbc
  have hWs := hW.size
  have hwW : W.heap[wb]? = some (worldO lv nsv knv vsv kvv (.slice none 0 0) (.slice none 0 0)) := (hW.block wb wb2).trans hA.blk
  have hlt : ∀ k, l.ownBlock = some k → w.heap.size ≤ k ∧ k < W.heap.size := fun k e => ⟨own_ge hl e, ownLt hl e⟩
  have hvt : ∀ k, v.ownBlock = some k → w.heap.size ≤ k ∧ k < W.heap.size := fun k e => ⟨own_ge hv e, ownLt hv e⟩
  have hlv : ∀ k, l.ownBlock = some k → v.ownBlock ≠ some k := fun k e1 e2 => by
    obtain ⟨_, c1, t1⟩ := own_type hl e1
    obtain ⟨_, c2, t2⟩ := own_type hv e2
    rw [t1] at t2; cases t2
  have bN : BookN W (Cl B w.heap.size own 1) nsv knv rows marks := hA.bkn.kept (fun k _ hk => hW.block k hk) (fun k h _ => h)
  refine (numbers_any hwW bN (fun h => by have := h.2.2; omega) hr1 spot l (own_less hl (Nat.zero_le _)) (by omega) (fun k e h => by have := (hlt k e).1; have := h.2.1; omega)).mono ?_
  rintro e w1 ⟨rfl, nsv', knv', rows', marks', hw1, bN1, hl1, hd1⟩
  refine ⟨rfl, ?_⟩
  have hs1 := hd1.size
  have keep1 : ∀ k, k < W.heap.size → k ≠ wb → ¬ Cl B w.heap.size own 1 k → l.ownBlock ≠ some k → w1.heap[k]? = W.heap[k]? := fun k hk h1 h2 h3 => hd1.only k hk (by rintro (h | h | h); exact h1 h; exact h2 h; exact h3 h)
  have old1 : ∀ k, k < w.heap.size → k ≠ wb → own k ≠ 1 → w1.heap[k]? = w.heap[k]? := fun k hk h1 h2 => (keep1 k (by omega) h1 (fun h => h2 h.2.2) (fun e => by have := (hlt k e).1; omega)).trans (hW.block k hk)
  have bV : BookV w1 (Cl B w.heap.size own 2) vsv kvv vrows vmarks := hA.bkv.kept (fun k h hk => old1 k hk (by rintro rfl; have := h.2.2; omega) (by have := h.2.2; omega)) (fun k h _ => h)
  have hv1 : w1.ownsRow w.heap.size 94 3 v vals.length (valsC vals) := rowKept hv (fun k _ ek ho => (keep1 k (hvt k ek).2 (by have := (hvt k ek).1; omega) (fun h => by have := (hvt k ek).1; have := h.2.1; omega) (fun e => hlv k e ek)).trans ho)
  refine (values_any hw1 bV (fun h => by have := h.2.2; omega) hr2 vals v (own_less hv1 (Nat.zero_le _)) (by omega) (fun k e h => by have := (hvt k e).1; have := h.2.1; omega)).mono ?_
  rintro e w2 ⟨rfl, vsv', kvv', vrows', vmarks', hw2, bV2, hl2, hd2⟩
  have hs2 := hd2.size
  have keep2 : ∀ k, k < w1.heap.size → k ≠ wb → ¬ Cl B w.heap.size own 2 k → v.ownBlock ≠ some k → w2.heap[k]? = w1.heap[k]? := fun k hk h1 h2 h3 => hd2.only k hk (by rintro (h | h | h); exact h1 h; exact h2 h; exact h3 h)
  have old2 : ∀ k, k < w.heap.size → k ≠ wb → own k ≠ 1 → own k ≠ 2 → w2.heap[k]? = w.heap[k]? := fun k hk h1 h2 h3 => (keep2 k (by omega) h1 (fun h => h3 h.2.2) (fun e => by have := (hvt k e).1; omega)).trans (old1 k hk h1 h2)
  refine ⟨rfl, ?_, ?_⟩
  · refine ⟨hd2.below.os.trans (hd1.below.os.trans hW.os), hd2.below.tape.trans (hd1.below.tape.trans hW.tape), hd2.below.output.trans (hd1.below.output.trans hW.output), by omega, fun k hk => ?_⟩
    refine (hd2.only k (by omega) ?_).trans ((hd1.only k (by omega) ?_).trans (hW.block k (by omega)))
    · rintro (h | h | h)
      · omega
      · have := h.1; omega
      · have := (hvt k h).1; omega
    · rintro (h | h | h)
      · omega
      · have := h.1; omega
      · have := (hlt k h).1; omega
  obtain ⟨own', ho1, ho2, ho3, ho4, ho5⟩ : ∃ own' : Nat → Nat, (∀ k, k < w.heap.size → own' k = own k) ∧ (∀ k, l.ownBlock = some k → own' k = 1) ∧ (∀ k, v.ownBlock = some k → own' k = 2) ∧ (∀ k, W.heap.size ≤ k → k < w1.heap.size → own' k = 1) ∧ (∀ k, w1.heap.size ≤ k → own' k = 2) := by
    refine ⟨fun k => if k < w.heap.size then own k else if l.ownBlock = some k then 1 else if v.ownBlock = some k then 2 else if k < W.heap.size then 0 else if k < w1.heap.size then 1 else 2, fun k hk => ?_, fun k e => ?_, fun k e => ?_, fun k h1 h2 => ?_, fun k h1 => ?_⟩
    · simp [hk]
    · have := hlt k e
      simp [e, show ¬ k < w.heap.size by omega]
    · have := hvt k e
      have h3 : l.ownBlock ≠ some k := fun e1 => hlv k e1 e
      simp [e, h3, show ¬ k < w.heap.size by omega]
    · have h3 : l.ownBlock ≠ some k := fun e1 => by have := hlt k e1; omega
      have h4 : v.ownBlock ≠ some k := fun e1 => by have := hvt k e1; omega
      simp [h3, h4, show ¬ k < w.heap.size by omega, show ¬ k < W.heap.size by omega, h2]
    · have h3 : l.ownBlock ≠ some k := fun e1 => by have := hlt k e1; omega
      have h4 : v.ownBlock ≠ some k := fun e1 => by have := hvt k e1; omega
      simp [h3, h4, show ¬ k < w.heap.size by omega, show ¬ k < W.heap.size by omega, show ¬ k < w1.heap.size by omega]
  have hN : w.heap.size ≤ w2.heap.size := by omega
  refine ⟨own', nsv', knv', vsv', kvv', rows', marks', vrows', vmarks', ⟨hw2, hA.wbc.mono hN ho1, rowKept hA.prs (fun k _ ek ho => ?_), fun k e => (hA.prc k e).mono hN ho1, ?_, ?_, fun i hi => ?_⟩, hl1, hl2⟩
  · obtain ⟨_, c, t⟩ := own_type hA.prs ek
    have hc := hA.prc k ek
    exact (old2 k hc.2.1 (by rintro rfl; rw [hA.blk] at t; cases t) (by have := hc.2.2; omega) (by have := hc.2.2; omega)).trans ho
  · refine bN1.kept (fun k h hk => ?_) (fun k h hk => ?_)
    · rcases h with h | h | h
      · exact keep2 k hk (by rintro rfl; have := h.2.2; omega) (fun h' => by have := h.2.2; have := h'.2.2; omega) (fun e => by have := (hvt k e).1; have := h.2.1; omega)
      · have := hlt k h
        exact keep2 k hk (by omega) (fun h' => by have := h'.2.1; omega) (hlv k h)
      · exact keep2 k hk (by omega) (fun h' => by have := h'.2.1; omega) (fun e => by have := (hvt k e).2; omega)
    · rcases h with h | h | h
      · exact h.mono hN ho1
      · have := hlt k h; exact ⟨by omega, by omega, ho2 k h⟩
      · exact ⟨by omega, by omega, ho4 k h hk⟩
  · refine bV2.kept (fun k h hk => rfl) (fun k h hk => ?_)
    rcases h with h | h | h
    · exact h.mono hN ho1
    · have := hvt k h; exact ⟨by omega, by omega, ho3 k h⟩
    · exact ⟨by omega, by omega, ho5 k h⟩
  · obtain ⟨h1, h2, h3⟩ := hA.sts i hi
    refine ⟨h1.kept (fun k h hk => old2 k hk (by rintro rfl; have := h.2.2; omega) (by have := h.2.2; omega) (by have := h.2.2; omega)) (fun k h _ => h.mono hN ho1), h2.kept' (fun k h hk => old2 k hk (by rintro rfl; have := h.2.2; omega) (by have := h.2.2; omega) (by have := h.2.2; omega)) (fun k h _ => h.mono hN ho1), h3⟩

theorem ref_rng {ts : List Doc.Thg} {th : Has} {fs : List Doc.Fld} {space : Int} {F : Nat → Prop} {xb : Nat} (hp : ProgSt w F xb fs space th) (hth : th = hasOf ts) (hu : Uniq ts) : ts.length ≤ 4096 ∧ ∀ t ∈ ts, t.spot.length ≤ 4 ∧ t.vals.length ≤ 4 := by
  obtain ⟨_, _, _, _, _, h⟩ := hp
  subst hth
  have hr : ∀ t ∈ ts, (0 ≤ t.id ∧ t.id ≤ 4095) ∧ t.spot.length ≤ 4 ∧ t.vals.length ≤ 4 := fun t ht => by
    obtain ⟨a, b, c, d, _⟩ := h.shf.rng t.id _ (has_mem hu ht)
    exact ⟨⟨a, b⟩, c, d⟩
  exact ⟨uniq_len hu (fun t ht => (hr t ht).1), fun t ht => (hr t ht).2⟩

theorem got_len {th : Has} {fs : List Doc.Fld} {space : Int} {F : Nat → Prop} {xb : Nat} (hp : ProgSt w F xb fs space th) (id : Int) : (gotS (th id)).length ≤ 1000 ∧ (gotV (th id)).length ≤ 1000 := by
  obtain ⟨_, _, _, _, _, h⟩ := hp
  cases ht : th id with
  | none => exact ⟨by simp [gotS], by simp [gotV]⟩
  | some t =>
    obtain ⟨_, _, c, d, _⟩ := h.shf.rng id t ht
    exact ⟨by show t.1.length ≤ 1000; omega, by show t.2.length ≤ 1000; omega⟩

theorem gets_any (hB : B ≤ w.heap.size) (hA : LawAt B w own wb ps lv nsv knv vsv kvv rows marks vrows vmarks) (hr1 : rows.length ≤ 1000000000) (hr2 : vrows.length ≤ 1000000000) (i : Nat) (hi : i < ps.length) (id : Int) (h0 : -9223372036854775808 ≤ id) (h1 : id ≤ 9223372036854775807) :
    Calls Tryz.prog 58 #[.pointer (some ⟨wb, 0, none⟩), .agg #[.pointer (some ⟨ps[i].xb, 0, none⟩), .pointer (some ⟨ps[i].yb, 0, none⟩)], .int .i64 id] w fun e w' => e = .returned (.bool true) ∧ Below B w w' ∧ ∃ own' nsv' knv' vsv' kvv' rows' marks' vrows' vmarks', LawAt B w' own' wb ps lv nsv' knv' vsv' kvv' rows' marks' vrows' vmarks' ∧ rows'.length = rows.length + 4 ∧ vrows'.length = vrows.length + 4 := by
  obtain ⟨s1, s2, s3⟩ := hA.sts i hi
  obtain ⟨hl1, _⟩ := ref_rng s1 rfl s3
  obtain ⟨g1, g2⟩ := got_len s1 id
  refine (gets_walk (wb := wb) ps[i].xb ps[i].yb id (gotS (hasOf ps[i].ts id)) (gotV (hasOf ps[i].ts id)) (gotE (hasOf ps[i].ts id)) g1 g2 (fun W hW => pget_any (s1.kept (fun k _ hk => hW.block k hk) (fun k h _ => h)) id h0 h1) (fun W hW => rget_any (s2.kept' (fun k _ hk => hW.block k hk) (fun k h _ => h)) (by omega) id)
    (fun _ w2 => Below B w w2 ∧ ∃ own' nsv' knv' vsv' kvv' rows' marks' vrows' vmarks', LawAt B w2 own' wb ps lv nsv' knv' vsv' kvv' rows' marks' vrows' vmarks' ∧ rows'.length = rows.length + 4 ∧ vrows'.length = vrows.length + 4) (fun W l v hW hl hv => gets_book hB hA hr1 hr2 _ _ g1 g2 W l v hW hl hv)).mono ?_
  rintro e w' ⟨rfl, W, _, hR⟩
  exact ⟨rfl, hR⟩
end
end Go.Proofs.YtbnelaoeblhndaaGreatDoor
/- Put and Drop of the program and of the document's answer, side by side. -/
namespace Go.Proofs.YtbnelaoeblhndaaGreatDoor
open Go.RowKit
set_option maxRecDepth 100000

/-- What a turn of the program's store leaves. -/
def PTurn (fs : List Doc.Fld) (space : Int) (xb : Nat) (th' : Has) (E : Int) (W : World) (F : Nat → Prop) (e : Ending) (w' : World) : Prop := e = .returned (.int .i64 E) ∧ ProgSt w' (fun k => F k ∨ W.heap.size ≤ k) xb fs space th' ∧ Md F W w'
def RTurn (fs : List Doc.Fld) (space : Int) (yb : Nat) (ts' : List Doc.Thg) (E : Int) (W : World) (F : Nat → Prop) (e : Ending) (w' : World) : Prop := e = .returned (.int .i64 E) ∧ RefSt w' (fun k => F k ∨ W.heap.size ≤ k) yb fs space ts' ∧ Md F W w'

theorem pturn_below {fs : List Doc.Fld} {space : Int} {xb : Nat} {th : Has} {E : Int} {W w' : World} {F : Nat → Prop} (h : ProgSt W F xb fs space th) (hb : Below W.heap.size W w') : PTurn fs space xb th E W F (.returned (.int .i64 E)) w' :=
  ⟨rfl, h.kept (fun k _ hk => hb.block k hk) (fun _ hk _ => .inl hk), Md.ofBelow hb⟩
theorem rturn_below {fs : List Doc.Fld} {space : Int} {yb : Nat} {ts : List Doc.Thg} {E : Int} {W w' : World} {F : Nat → Prop} (h : RefSt W F yb fs space ts) (hb : Below W.heap.size W w') : RTurn fs space yb ts E W F (.returned (.int .i64 E)) w' :=
  ⟨rfl, h.kept' (fun k _ hk => hb.block k hk) (fun _ hk _ => .inl hk), Md.ofBelow hb⟩

theorem put_both {w : World} {F0 : Nat → Prop} {xb0 : Nat} (fs : List Doc.Fld) (space id : Int) (ts : List Doc.Thg) (hu : Uniq ts) (hP : ProgSt w F0 xb0 fs space (hasOf ts)) (spot : List Int) (vals : List Doc.Val) (hsl : spot.length ≤ 9223372036854775807) :
    ∃ (E : Int) (ts' : List Doc.Thg), Uniq ts' ∧
      (∀ (W : World) (F : Nat → Prop) (xb : Nat) (sv vv : Value), ProgSt W F xb fs space (hasOf ts) → Sl W sv spot.length (intC spot) → Sl W vv vals.length (valsC vals) → Calls Tryz.prog 28 #[.pointer (some ⟨xb, 0, none⟩), .int .i64 id, sv, vv] W (PTurn fs space xb (hasOf ts') E W F)) ∧
      (∀ (W : World) (F : Nat → Prop) (yb : Nat) (sv vv : Value), RefSt W F yb fs space ts → Sl W sv spot.length (intC spot) → Sl W vv vals.length (valsC vals) → Calls Tryz.prog 93 #[.pointer (some ⟨yb, 0, none⟩), .int .i64 id, sv, vv] W (RTurn fs space yb ts' E W F)) := by
  obtain ⟨hlen, _⟩ := ref_rng hP rfl hu
  obtain ⟨_, _, _, _, _, h0⟩ := hP
  have hfl := h0.len
  have hsp := h0.spc
  have hkd := h0.kind
  by_cases ha : Doc.putArg fs space id spot vals
  · refine ⟨1, ts, hu, fun W F xb sv vv hp hs hv => ?_, fun W F yb sv vv hr hs hv => ?_⟩
    · have hp' := hp
      obtain ⟨fv, hb, mt, mh, pos, h⟩ := hp
      obtain ⟨c0, c1, c2⟩ := h.cells
      refine (pput_bad id 1 (by decide) sv vv ((cput_arg xb fs space id fv sv vv c0 c1 (rowSl h.fld) spot vals hs hv hsl ha).mono ?_)).mono ?_
      · rintro e w' ⟨rfl, rfl⟩; exact ⟨rfl, Below.refl _ _⟩
      · rintro e w' ⟨rfl, hb'⟩; exact pturn_below hp' hb'
    · have hr' := hr
      obtain ⟨fv, tv, ps, h⟩ := hr
      refine (rput_arg h id spot vals sv vv hs hv hsl ha).mono ?_
      rintro e w' ⟨rfl, rfl⟩
      exact rturn_below hr' (Below.refl _ _)
  · have hk : 0 ≤ id ∧ id ≤ 4095 ∧ Doc.spotB space spot = true ∧ vals.length = fs.length := by
      unfold Doc.putArg at ha
      by_cases a1 : id < 0
      · exact absurd (.inl a1) ha
      by_cases a2 : 4095 < id
      · exact absurd (.inr (.inl ⟨by omega, a2⟩)) ha
      cases a3 : Doc.spotB space spot with
      | false => exact absurd (.inr (.inr (.inl ⟨by omega, by omega, a3⟩))) ha
      | true =>
        by_cases a4 : vals.length = fs.length
        · exact ⟨by omega, by omega, rfl, a4⟩
        · exact absurd (.inr (.inr (.inr ⟨by omega, by omega, a3, a4⟩))) ha
    obtain ⟨k1, k2, k3, k4⟩ := hk
    have hl := spot_len k3
    by_cases hg : ∀ j (h1 : j < vals.length) (h2 : j < fs.length), Doc.goodV vals[j] fs[j].kind = true
    · refine ⟨0, Doc.putT ts ⟨id, spot, vals⟩, uniq_put hu _, fun W F xb sv vv hp hs hv => ?_, fun W F yb sv vv hr hs hv => ?_⟩
      · obtain ⟨fv, hb, mt, mh, pos, h⟩ := hp
        rw [has_put hu]
        exact pput_ok h id sv vv spot vals hs hv k1 k2 k3 k4 hg
      · obtain ⟨fv, tv, ps, h⟩ := hr
        refine (rput_any h (by omega) id spot vals sv vv hs hv (by omega) (by omega) (by omega) (by omega) k1 k2 k3 k4).mono ?_
        rintro e w' (⟨_, _, j, h1, h2, hbad⟩ | ⟨rfl, _, hr', hd⟩)
        · rw [hg j h1 h2] at hbad; cases hbad
        · exact ⟨rfl, hr', hd⟩
    · have hbad : ∃ j, ∃ (h1 : j < vals.length) (h2 : j < fs.length), Doc.goodV vals[j] fs[j].kind = false := by
        apply Classical.byContradiction
        intro hc
        exact hg (fun j h1 h2 => by
          cases hx : Doc.goodV vals[j] fs[j].kind with
          | true => rfl
          | false => exact absurd ⟨j, h1, h2, hx⟩ hc)
      refine ⟨3, ts, hu, fun W F xb sv vv hp hs hv => ?_, fun W F yb sv vv hr hs hv => ?_⟩
      · have hp' := hp
        obtain ⟨fv, hb, mt, mh, pos, h⟩ := hp
        obtain ⟨c0, c1, c2⟩ := h.cells
        refine (pput_bad id 3 (by decide) sv vv ((cput_any xb h.lt fs hkd space id fv sv vv c0 c1 (rowSl h.fld) spot vals hs hv hsl (by omega) (by omega) k1 k2 k3 k4).mono ?_)).mono ?_
        · rintro e w' ⟨hb', ⟨rfl, _⟩ | ⟨_, hall⟩⟩
          · exact ⟨rfl, hb'⟩
          · exact absurd hall hg
        · rintro e w' ⟨rfl, hb'⟩; exact pturn_below hp' hb'
      · have hr' := hr
        obtain ⟨fv, tv, ps, h⟩ := hr
        refine (rput_any h (by omega) id spot vals sv vv hs hv (by omega) (by omega) (by omega) (by omega) k1 k2 k3 k4).mono ?_
        rintro e w' (⟨rfl, hb', _⟩ | ⟨_, hall, _⟩)
        · exact rturn_below hr' hb'
        · exact absurd hall hg

theorem drop_both {w : World} {F0 : Nat → Prop} {xb0 : Nat} (fs : List Doc.Fld) (space id : Int) (h0 : -9223372036854775808 ≤ id) (h1 : id ≤ 9223372036854775807) (ts : List Doc.Thg) (hu : Uniq ts) (hP : ProgSt w F0 xb0 fs space (hasOf ts)) :
    ∃ (E : Int) (ts' : List Doc.Thg), Uniq ts' ∧
      (∀ (W : World) (F : Nat → Prop) (xb : Nat), ProgSt W F xb fs space (hasOf ts) → Calls Tryz.prog 22 #[.pointer (some ⟨xb, 0, none⟩), .int .i64 id] W (PTurn fs space xb (hasOf ts') E W F)) ∧
      (∀ (W : World) (F : Nat → Prop) (yb : Nat), RefSt W F yb fs space ts → Calls Tryz.prog 57 #[.pointer (some ⟨yb, 0, none⟩), .int .i64 id] W (RTurn fs space yb ts' E W F)) := by
  obtain ⟨hlen, _⟩ := ref_rng hP rfl hu
  cases hn : Doc.idxT ts id with
  | none =>
    have hh := has_none hn
    refine ⟨4, ts, hu, fun W F xb hp => ?_, fun W F yb hr => ?_⟩
    · have hp' := hp
      obtain ⟨fv, hb, mt, mh, pos, h⟩ := hp
      refine (pdrop_none h id h0 h1 hh).mono ?_
      rintro e w' ⟨rfl, hb'⟩; exact pturn_below hp' hb'
    · have hr' := hr
      obtain ⟨fv, tv, ps, h⟩ := hr
      refine (rdrop_none h (by omega) id hn).mono ?_
      rintro e w' ⟨rfl, rfl⟩; exact rturn_below hr' (Below.refl _ _)
  | some k =>
    obtain ⟨hk, _, hh⟩ := has_some hn
    refine ⟨0, ts.eraseIdx k, uniq_drop hu k, fun W F xb hp => ?_, fun W F yb hr => ?_⟩
    · obtain ⟨fv, hb, mt, mh, pos, h⟩ := hp
      rw [has_drop hu hn]
      refine (pdrop_some h id _ hh).mono ?_
      rintro e w' ⟨rfl, h', hd⟩
      exact ⟨rfl, ⟨fv, hb, mt, mh, pos, h'.kept (fun _ _ _ => rfl) (fun k hk _ => .inl hk)⟩, hd⟩
    · obtain ⟨fv, tv, ps, h⟩ := hr
      exact rdrop_some h (by omega) id k hn
end Go.Proofs.YtbnelaoeblhndaaGreatDoor
/- The statement's puts. -/
namespace Go.Proofs.YtbnelaoeblhndaaGreatDoor
open Go.RowKit
set_option maxRecDepth 100000

/-- A list that is handed in: nil, or somewhere. -/
structure In (w : World) (sv : Value) (n : Nat) (cs : List Value) : Prop where
  sl : Sl w sv n cs
  form : sv = .slice none 0 0 ∨ ∃ a c, sv = .slice (some a) n c

theorem In.below {w w' : World} {sv : Value} {n : Nat} {cs : List Value} (h : In w sv n cs) (hb : Below w.heap.size w w') : In w' sv n cs := ⟨h.sl.below hb, h.form⟩
/-- A list stays where its block does. -/
theorem Sl.own {w w' : World} {sv : Value} {n : Nat} {cs : List Value} (h : Sl w sv n cs) (hs : w.heap.size ≤ w'.heap.size) (hk : 0 < n → ∀ k, sv.ownBlock = some k → k < w.heap.size → w'.heap[k]? = w.heap[k]?) : Sl w' sv n cs := by
  rcases h.has with h | ⟨h0, b, off, cap, rfl, hc, hl, hr⟩
  · exact ⟨.inl h⟩
  · have hb := hk h0 b rfl hl
    exact ⟨.inr ⟨h0, b, off, cap, rfl, hc, Nat.lt_of_lt_of_le hl hs, fun j u hj => by have := hr j u hj; simp only [World.cell?, hb] at this ⊢; exact this⟩⟩
theorem In.own {w w' : World} {sv : Value} {n : Nat} {cs : List Value} (h : In w sv n cs) (hs : w.heap.size ≤ w'.heap.size) (hk : 0 < n → ∀ k, sv.ownBlock = some k → k < w.heap.size → w'.heap[k]? = w.heap[k]?) : In w' sv n cs := ⟨h.sl.own hs hk, h.form⟩

section
variable {w : World}
theorem lent_any (l : List Int) (hl : l.length ≤ 1000000000) (sv : Value) (h : In w sv l.length (intC l)) :
    Calls Tryz.prog 91 #[sv] w (Lent w 3 (intC l) l.length [.int .i64 77, .int .i64 78]) := by
  rcases h.form with rfl | ⟨a, c, rfl⟩
  · rcases h.sl.has with ⟨h0, _⟩ | ⟨_, b, off, cap, e, _⟩
    · obtain rfl := List.eq_nil_of_length_eq_zero h0
      exact lent_nil
    · cases e
  · rcases h.sl.has with ⟨h0, _⟩ | ⟨_, b, off, cap, e, _, hlt, hr⟩
    · obtain rfl := List.eq_nil_of_length_eq_zero h0
      exact lent_core [] (by simp) a c (fun j u hj => by simp [intC] at hj) (fun h => absurd rfl h)
    · simp only [Value.slice.injEq, Option.some.injEq] at e
      obtain ⟨rfl, _, rfl⟩ := e
      exact lent_core l (by omega) _ c (fun j u hj => by rw [addr_add2]; exact hr j u hj) (fun _ => hlt)
theorem lentV_any (l : List Doc.Val) (hl : l.length ≤ 1000000000) (sv : Value) (h : In w sv l.length (valsC l)) :
    Calls Tryz.prog 92 #[sv] w (Lent w 94 (valsC l) l.length (zV 77 ++ zV 78)) := by
  rcases h.form with rfl | ⟨a, c, rfl⟩
  · rcases h.sl.has with ⟨h0, _⟩ | ⟨_, b, off, cap, e, _⟩
    · obtain rfl := List.eq_nil_of_length_eq_zero h0
      exact lentV_nil
    · cases e
  · rcases h.sl.has with ⟨h0, _⟩ | ⟨_, b, off, cap, e, _, hlt, hr⟩
    · obtain rfl := List.eq_nil_of_length_eq_zero h0
      exact lentV_core [] (by simp) a c (fun j u hj => by simp [valsC] at hj) (fun h => absurd rfl h)
    · simp only [Value.slice.injEq, Option.some.injEq] at e
      obtain ⟨rfl, _, rfl⟩ := e
      exact lentV_core l (by omega) _ c (fun j u hj => by rw [addr_add2]; exact hr j u hj) (fun _ => hlt)
theorem lentF_any (l : List Doc.Fld) (hl : l.length ≤ 1000000000) (sv : Value) (h : In w sv l.length (fldsC l)) :
    Calls Tryz.prog 88 #[sv] w (Lent w 92 (fldsC l) l.length (zF 77 ++ zF 78)) := by
  rcases h.form with rfl | ⟨a, c, rfl⟩
  · rcases h.sl.has with ⟨h0, _⟩ | ⟨_, b, off, cap, e, _⟩
    · obtain rfl := List.eq_nil_of_length_eq_zero h0
      exact lentF_nil
    · cases e
  · rcases h.sl.has with ⟨h0, _⟩ | ⟨_, b, off, cap, e, _, hlt, hr⟩
    · obtain rfl := List.eq_nil_of_length_eq_zero h0
      exact lentF_core [] (by simp) a c (fun j u hj => by simp [fldsC] at hj) (fun h => absurd rfl h)
    · simp only [Value.slice.injEq, Option.some.injEq] at e
      obtain ⟨rfl, _, rfl⟩ := e
      exact lentF_core l (by omega) _ c (fun j u hj => by rw [addr_add2]; exact hr j u hj) (fun _ => hlt)

/-- What was lent reads as it did. -/
theorem Lent.sl {w : World} {T : TypeId} {cs : List Value} {n : Nat} {tail : List Value} {e : Ending} {w' : World} (h : Lent w T cs n tail e w') :
    ∃ b c, e = .returned (.tuple #[.slice (some ⟨w.heap.size, 0, none⟩) (n + 2) (n + 2), .slice b n c]) ∧ w'.heap[w.heap.size]? = some (.cells (cs ++ tail).toArray T (0, 0)) ∧ (∀ k, (Value.slice b n c).ownBlock = some k → k = w.heap.size) ∧ Sl w' (.slice b n c) n cs ∧ Below w.heap.size w w' := by
  obtain ⟨sv, rfl, h1, h2, h3⟩ := h.has
  rcases h2 with ⟨rfl, rfl⟩ | rfl
  · exact ⟨none, 0, rfl, h1, fun k e => (by cases e), ⟨.inl ⟨rfl, _, _, rfl⟩⟩, h3⟩
  · refine ⟨some ⟨w.heap.size, 0, none⟩, n + 2, rfl, h1, fun k e => (by cases e; rfl), ?_, h3⟩
    by_cases h0 : n = 0
    · subst h0; exact ⟨.inl ⟨rfl, _, _, rfl⟩⟩
    · refine ⟨.inr ⟨by omega, w.heap.size, 0, n + 2, rfl, by omega, lt_block h1, fun j u hj => ?_⟩⟩
      rw [Nat.zero_add]
      exact blkl_cell h1 j u (by rw [List.getElem?_append_left (List.getElem?_eq_some_iff.1 hj).1]; exact hj)

set_option maxHeartbeats 4000000 in
theorem puts_walk {FX FY : Nat → Prop} (xb yb : Nat) (fs : List Doc.Fld) (space id : Int) (th' : Has) (ts' : List Doc.Thg) (E : Int) (wb : Nat) (s0 s1 : Int) (s2 : ByteArray) (Fb : Option Addr) (Fn Fc : Nat)
    (spot : List Int) (vals : List Doc.Val) (hsl : spot.length ≤ 1000000000) (hvl : vals.length ≤ 1000000000) (Lv Vv : Value) (hL : In w Lv spot.length (intC spot)) (hV : In w Vv vals.length (valsC vals))
    (hX : ∀ W sv vv, Below w.heap.size w W → Sl W sv spot.length (intC spot) → Sl W vv vals.length (valsC vals) → Calls Tryz.prog 28 #[.pointer (some ⟨xb, 0, none⟩), .int .i64 id, sv, vv] W (PTurn fs space xb th' E W FX))
    (hY : ∀ W0 W, Below w.heap.size w W0 → Md FX W0 W → Calls Tryz.prog 93 #[.pointer (some ⟨yb, 0, none⟩), .int .i64 id, Lv, Vv] W (RTurn fs space yb ts' E W FY))
    (hLf : 0 < spot.length → ∀ k, Lv.ownBlock = some k → k < w.heap.size ∧ ¬ FX k ∧ ¬ FY k) (hVf : 0 < vals.length → ∀ k, Vv.ownBlock = some k → k < w.heap.size ∧ ¬ FX k ∧ ¬ FY k) (hFX : ∀ k, FX k → k < w.heap.size) (hFY : ∀ k, FY k → k < w.heap.size) :
    Calls Tryz.prog 56 #[.pointer (some ⟨wb, 0, none⟩), .agg #[.pointer (some ⟨xb, 0, none⟩), .pointer (some ⟨yb, 0, none⟩)], .agg #[.int .i64 s0, .int .i64 s1, .int .i64 id, .string s2, .slice Fb Fn Fc, Lv, Vv]] w fun e w' => e = .returned (.bool true) ∧ ∃ W2 W3 W4, Below w.heap.size w W2 ∧ (∃ e3, PTurn fs space xb th' E W2 FX e3 W3) ∧ (∃ e4, RTurn fs space yb ts' E W3 FY e4 W4) ∧ Md (fun k => w.heap.size ≤ k ∧ k < W2.heap.size) W4 w' := by
  obtain ⟨Lb, Lc, e1⟩ := hL.sl.slice
  obtain ⟨Vb, Vc, e2⟩ := hV.sl.slice
  subst e1 e2
  obtain ⟨W0, HW0⟩ : ∃ W0, Hid (W0 = (w.alloc (.cells #[.pointer (some ⟨xb, 0, none⟩), .pointer (some ⟨yb, 0, none⟩)] 140)).alloc (.cells #[.int .i64 s0, .int .i64 s1, .int .i64 id, .string s2, .slice Fb Fn Fc, .slice Lb spot.length Lc, .slice Vb vals.length Vc] 87)) := ⟨_, rfl⟩
  have hb0 : Below w.heap.size w W0 := by rw [HW0.out]; exact ((Below.refl _ _).alloc (Nat.le_refl _) _).alloc (by simp) _
  have qp : W0.heap[w.heap.size]? = some (.cells #[.pointer (some ⟨xb, 0, none⟩), .pointer (some ⟨yb, 0, none⟩)] 140 (0, 0)) := by rw [HW0.out]; exact heap_alloc2_old w _ _
  have qs : W0.heap[w.heap.size + 1]? = some (.cells #[.int .i64 s0, .int .i64 s1, .int .i64 id, .string s2, .slice Fb Fn Fc, .slice Lb spot.length Lc, .slice Vb vals.length Vc] 87 (0, 0)) := by rw [HW0.out]; exact heap_alloc2_new w _ _
  have hz0 : W0.heap.size = w.heap.size + 2 := by rw [HW0.out]; simp
  have c5 : W0.cell? ⟨w.heap.size + 1, 5, none⟩ = some (.slice Lb spot.length Lc) := blk_cell qs 5 _ rfl
  have HLA : Hid _ := lent_any spot hsl _ (hL.below hb0)
  have HX : Hid _ := hX
  have HY : Hid _ := hY
  have HB0 : Hid _ := hb0
  have HIL : Hid _ := hL
  have HIV : Hid _ := hV
  have HLF : Hid _ := hLf
  have HVF : Hid _ := hVf
  have QP : Hid _ := qp
  have QS : Hid _ := qs
  have HZ0 : Hid _ := hz0
  clear hX hY hL hV hLf hVf qp qs hb0 hz0
  go_enter Tryz.func56, Tryz.ntmps56
  go_wp2_with fail
  rw [← HW0.out]
  refine Calls.mono HLA.out ?_
  rintro e w1 hl1
  obtain ⟨b1, c1, rfl, g1, o1, s1', hb1⟩ := hl1.sl
  have HB1 : Hid _ := Below.callB HB0.out (Nat.le_refl _) hb1
  have HS1 : Hid _ := s1'
  have HG1 : Hid _ := g1
  have HO1 : Hid _ := o1
  have QP1 : Hid _ := (hb1.block w.heap.size (by rw [HZ0.out]; omega)).trans QP.out
  have QS1 : Hid _ := (hb1.block (w.heap.size + 1) (by rw [HZ0.out]; omega)).trans QS.out
  have c6 : w1.cell? ⟨w.heap.size + 1, 6, none⟩ = some (.slice Vb vals.length Vc) := blk_cell QS1.out 6 _ rfl
  have HLV : Hid _ := lentV_any vals hvl _ (HIV.out.below HB1.out)
  have hz1 := hb1.size
  have HZ1 : Hid _ := hz1
  clear hl1 s1' g1 o1 hb1 c5 HLA hz1
  go_wp2_with fail
  refine Calls.mono HLV.out ?_
  rintro e w2 hl2
  obtain ⟨b2, c2, rfl, g2, o2, s2', hb2⟩ := hl2.sl
  have HB2 : Hid _ := Below.callB HB1.out (Nat.le_refl _) hb2
  have HS2 : Hid _ := s2'
  have HS1' : Hid _ := HS1.out.below hb2
  have HG2 : Hid _ := g2
  have HG1' : Hid _ := (hb2.block W0.heap.size (lt_block HG1.out)).trans HG1.out
  have hz2 := hb2.size
  have HZ2 : Hid _ := hz2
  have QP2 : Hid _ := (hb2.block w.heap.size (lt_block QP1.out)).trans QP1.out
  have QS2 : Hid _ := (hb2.block (w.heap.size + 1) (lt_block QS1.out)).trans QS1.out
  have d0 : w2.cell? ⟨w.heap.size, 0, none⟩ = some (.pointer (some ⟨xb, 0, none⟩)) := blk_cell QP2.out 0 _ rfl
  have d2 : w2.cell? ⟨w.heap.size + 1, 2, none⟩ = some (.int .i64 id) := blk_cell QS2.out 2 _ rfl
  have HCX : Hid _ := HX.out w2 _ _ HB2.out HS1'.out HS2.out
  clear hl2 s2' g2 o2 hb2 c6 HLV hz2
  go_wp2_with fail
  refine Calls.mono HCX.out ?_
  rintro e w3 ⟨rfl, hp3, hd3⟩
  have HP3 : Hid _ := hp3
  have HD3 : Hid _ := hd3
  have hz2w : w.heap.size + 4 ≤ w2.heap.size := by
    have a0 := HZ0.out
    have a1 := lt_block HG1.out
    have a2 := lt_block HG2.out
    omega
  have hn3 : ∀ k, w.heap.size ≤ k → k < w2.heap.size → w3.heap[k]? = w2.heap[k]? := fun k h1 h2 => hd3.only k h2 (fun h => by have := hFX k h; omega)
  have QP3 : Hid _ := (hn3 w.heap.size (by omega) (by omega)).trans QP2.out
  have QS3 : Hid _ := (hn3 (w.heap.size + 1) (by omega) (by omega)).trans QS2.out
  have hz3 := hd3.size
  have HG1'' : Hid _ := (hn3 W0.heap.size (by rw [HZ0.out]; omega) (lt_block HG1'.out)).trans HG1'.out
  have HG2' : Hid _ := (hn3 w1.heap.size (by have := HZ1.out; have := HZ0.out; omega) (lt_block HG2.out)).trans HG2.out
  have e1' : w3.cell? ⟨w.heap.size, 1, none⟩ = some (.pointer (some ⟨yb, 0, none⟩)) := blk_cell QP3.out 1 _ rfl
  have e2 : w3.cell? ⟨w.heap.size + 1, 2, none⟩ = some (.int .i64 id) := blk_cell QS3.out 2 _ rfl
  have e5 : w3.cell? ⟨w.heap.size + 1, 5, none⟩ = some (.slice Lb spot.length Lc) := blk_cell QS3.out 5 _ rfl
  have e6 : w3.cell? ⟨w.heap.size + 1, 6, none⟩ = some (.slice Vb vals.length Vc) := blk_cell QS3.out 6 _ rfl
  have HCY : Hid _ := HY.out w2 w3 HB2.out hd3
  clear hp3 hd3 d0 d2 HCX hn3
  go_wp2_with fail
  refine Calls.mono HCY.out ?_
  rintro e w4 ⟨rfl, hr4, hd4⟩
  have HR4 : Hid _ := hr4
  have HD4 : Hid _ := hd4
  have hz4 := hd4.size
  have hn4 : ∀ k, w.heap.size ≤ k → k < w3.heap.size → w4.heap[k]? = w3.heap[k]? := fun k h1 h2 => hd4.only k h2 (fun h => by have := hFY k h; omega)
  have QS4 : Hid _ := (hn4 (w.heap.size + 1) (by omega) (by omega)).trans QS3.out
  have HG14 : Hid _ := (hn4 W0.heap.size (by rw [HZ0.out]; omega) (lt_block HG1''.out)).trans HG1''.out
  have HG24 : Hid _ := (hn4 w1.heap.size (by have := HZ1.out; have := HZ0.out; omega) (lt_block HG2'.out)).trans HG2'.out
  have e7 : w4.cell? ⟨w.heap.size + 1, 5, none⟩ = some (.slice Lb spot.length Lc) := blk_cell QS4.out 5 _ rfl
  have arg : ∀ {sv : Value} {n : Nat} {cs : List Value}, Sl w sv n cs → (0 < n → ∀ k, sv.ownBlock = some k → k < w.heap.size ∧ ¬ FX k ∧ ¬ FY k) → Sl w4 sv n cs := fun {sv n cs} hs hf => hs.own (by have := HB2.out.size; omega) (fun h0 k ek hk => by
    obtain ⟨h1, h2, h3⟩ := hf h0 k ek
    have := HB2.out.size
    rw [HD4.out.only k (by omega) h3, HD3.out.only k (by omega) h2, HB2.out.block k hk])
  have HSL4 : Hid _ := arg HIL.out.sl HLF.out
  have HSV4 : Hid _ := arg HIV.out.sl HVF.out
  have HST : Hid _ := still_any spot (by omega) _ HSL4.out W0.heap.size HG14.out
  clear hr4 hd4 e1' e2 e5 e6 HCY hn4 arg
  go_wp2_with fail
  refine Calls.mono HST.out ?_
  rintro e w5 ⟨rfl, hd5⟩
  have HD5 : Hid _ := hd5
  have hz5 := hd5.size
  have hn5 : ∀ k, k ≠ W0.heap.size → k < w4.heap.size → w5.heap[k]? = w4.heap[k]? := fun k h1 h2 => hd5.only k h2 h1
  have QS5 : Hid _ := (hn5 (w.heap.size + 1) (by rw [HZ0.out]; omega) (lt_block QS4.out)).trans QS4.out
  have HG25 : Hid _ := (hn5 w1.heap.size (by have := lt_block HG1.out; omega) (lt_block HG24.out)).trans HG24.out
  have e8 : w5.cell? ⟨w.heap.size + 1, 6, none⟩ = some (.slice Vb vals.length Vc) := blk_cell QS5.out 6 _ rfl
  have HSV5 : Hid _ := HSV4.out.own (w' := w5) hz5 (fun h0 k ek hk => hn5 k (by have := (HVF.out h0 k ek).1; have := HZ0.out; omega) hk)
  have HSTV : Hid _ := stillV_any vals (by omega) _ HSV5.out w1.heap.size HG25.out
  clear hd5 e7 HST hn5
  go_wp2_with fail
  refine Calls.mono HSTV.out ?_
  rintro e w6 ⟨rfl, hd6⟩
  have HD6 : Hid _ := hd6
  clear hd6 e8 HSTV
  go_wp2_with fail
  refine (num_any' E w6).mono ?_
  rintro e w6' ⟨rfl, hw6⟩
  subst hw6
  go_wp2_with fail
  go_ret
  have hw1l := lt_block HG1'.out
  refine ⟨by simp, w2, w3, w4, HB2.out, ⟨_, rfl, HP3.out, HD3.out⟩, ⟨_, rfl, HR4.out, HD4.out⟩, (HD5.out.mono (fun k hk => ?_)).trans (HD6.out.mono (fun k hk => ?_))⟩
  · have := HZ0.out; subst hk; exact ⟨by omega, hw1l⟩
  · have := HZ0.out; have := HZ1.out; subst hk; exact ⟨by omega, lt_block HG2.out⟩
end
end Go.Proofs.YtbnelaoeblhndaaGreatDoor
/- What a turn of one pair leaves; puts and drops. -/
namespace Go.Proofs.YtbnelaoeblhndaaGreatDoor
open Go.RowKit
set_option maxRecDepth 100000

theorem prsC_set (ps : List Pr) (i : Nat) (hi : i < ps.length) (ts' : List Doc.Thg) : prsC (ps.set i { ps[i] with ts := ts' }) = prsC ps := by
  induction ps generalizing i with
  | nil => rfl
  | cons a r ih =>
    cases i with
    | zero => simp [prsC, prC]
    | succ i =>
      have := ih i (by simpa using hi)
      simp only [prsC, List.set_cons_succ, List.flatMap_cons, List.getElem_cons_succ] at this ⊢
      rw [this]

section
variable {B : Nat} {w : World} {own : Nat → Nat} {wb : Nat} {ps : List Pr} {lv nsv knv vsv kvv : Value} {rows : List Value} {marks : List Int} {vrows : List Value} {vmarks : List Int}

theorem law_turn (hA : LawAt B w own wb ps lv nsv knv vsv kvv rows marks vrows vmarks) (i : Nat) (hi : i < ps.length) (ts' : List Doc.Thg) (hu : Uniq ts') {w' : World} {own' : Nat → Nat} (hs : w.heap.size ≤ w'.heap.size) (ho : ∀ k, k < w.heap.size → own' k = own k)
    (hk : ∀ k, B ≤ k → k < w.heap.size → own k ≠ 2 * i + 3 → own k ≠ 2 * i + 4 → w'.heap[k]? = w.heap[k]?)
    (hP : ProgSt w' (Cl B w'.heap.size own' (2 * i + 3)) ps[i].xb ps[i].fs ps[i].space (hasOf ts')) (hR : RefSt w' (Cl B w'.heap.size own' (2 * i + 4)) ps[i].yb ps[i].fs ps[i].space ts') :
    LawAt B w' own' wb (ps.set i { ps[i] with ts := ts' }) lv nsv knv vsv kvv rows marks vrows vmarks := by
  have kc : ∀ c, c ≠ 2 * i + 3 → c ≠ 2 * i + 4 → ∀ k, Cl B w.heap.size own c k → k < w.heap.size → w'.heap[k]? = w.heap[k]? := fun c h1 h2 k h hkl => hk k h.1 hkl (by rw [h.2.2]; exact h1) (by rw [h.2.2]; exact h2)
  have mv : ∀ c k, Cl B w.heap.size own c k → k < w.heap.size → Cl B w'.heap.size own' c k := fun c k h _ => h.mono hs ho
  refine ⟨(kc 0 (by omega) (by omega) wb hA.wbc hA.wbc.2.1).trans hA.blk, hA.wbc.mono hs ho, ?_, fun k e => (hA.prc k e).mono hs ho, hA.bkn.kept (kc 1 (by omega) (by omega)) (mv 1), hA.bkv.kept (kc 2 (by omega) (by omega)) (mv 2), fun j hj => ?_⟩
  · rw [prsC_set ps i hi, List.length_set]
    exact rowKept hA.prs (fun k _ ek ho' => (kc 0 (by omega) (by omega) k (hA.prc k ek) (ownLt hA.prs ek)).trans ho')
  · have hj' : j < ps.length := by simpa using hj
    by_cases e : i = j
    · subst e
      rw [List.getElem_set_self]
      exact ⟨hP, hR, hu⟩
    · rw [List.getElem_set_ne e]
      obtain ⟨h1, h2, h3⟩ := hA.sts j hj'
      exact ⟨h1.kept (kc _ (by omega) (by omega)) (mv _), h2.kept' (kc _ (by omega) (by omega)) (mv _), h3⟩

/-- A turn of a pair, as puts and the step leave it. -/
theorem law_both (hB : B ≤ w.heap.size) (hA : LawAt B w own wb ps lv nsv knv vsv kvv rows marks vrows vmarks) (i : Nat) (hi : i < ps.length) (ts' : List Doc.Thg) (hu : Uniq ts') (E : Int) {W2 W3 W4 w' : World} {e3 e4 : Ending} (h2 : Below w.heap.size w W2)
    (h3 : PTurn ps[i].fs ps[i].space ps[i].xb (hasOf ts') E W2 (Cl B w.heap.size own (2 * i + 3)) e3 W3) (h4 : RTurn ps[i].fs ps[i].space ps[i].yb ts' E W3 (Cl B w.heap.size own (2 * i + 4)) e4 W4) (h5 : Md (fun k => w.heap.size ≤ k ∧ k < W2.heap.size) W4 w') :
    Below B w w' ∧ ∃ own', LawAt B w' own' wb (ps.set i { ps[i] with ts := ts' }) lv nsv knv vsv kvv rows marks vrows vmarks := by
  obtain ⟨_, p3, d3⟩ := h3
  obtain ⟨_, r4, d4⟩ := h4
  have s2 := h2.size
  have s3 := d3.size
  have s4 := d4.size
  have s5 := h5.size
  refine ⟨⟨h5.below.os.trans (d4.below.os.trans (d3.below.os.trans h2.os)), h5.below.tape.trans (d4.below.tape.trans (d3.below.tape.trans h2.tape)), h5.below.output.trans (d4.below.output.trans (d3.below.output.trans h2.output)), by omega, fun k hk => ?_⟩, ?_⟩
  · rw [h5.only k (by omega) (fun h => by have := h.1; omega), d4.only k (by omega) (fun h => by have := h.1; omega), d3.only k (by omega) (fun h => by have := h.1; omega), h2.block k (by omega)]
  obtain ⟨own', ho1, ho2, ho3⟩ : ∃ own' : Nat → Nat, (∀ k, k < w.heap.size → own' k = own k) ∧ (∀ k, W2.heap.size ≤ k → k < W3.heap.size → own' k = 2 * i + 3) ∧ (∀ k, W3.heap.size ≤ k → k < W4.heap.size → own' k = 2 * i + 4) := by
    refine ⟨fun k => if k < w.heap.size then own k else if k < W2.heap.size then 0 else if k < W3.heap.size then 2 * i + 3 else 2 * i + 4, fun k hk => by simp [hk], fun k h1 h2 => ?_, fun k h1 h2 => ?_⟩
    · simp [show ¬ k < w.heap.size by omega, show ¬ k < W2.heap.size by omega, h2]
    · simp [show ¬ k < w.heap.size by omega, show ¬ k < W2.heap.size by omega, show ¬ k < W3.heap.size by omega]
  refine ⟨own', law_turn hA i hi ts' hu (by omega) ho1 (fun k h1 h2' h3' h4' => ?_) (p3.kept (fun k h hk => ?_) (fun k h hk => ?_)) (r4.kept' (fun k h hk => ?_) (fun k h hk => ?_))⟩
  · rw [h5.only k (by omega) (fun h => by have := h.1; omega), d4.only k (by omega) (fun h => h4' h.2.2), d3.only k (by omega) (fun h => h3' h.2.2), h2.block k h2']
  · rw [h5.only k (by omega) (fun h' => by rcases h with h | h; have := h.2.1; omega; omega), d4.only k hk (fun h' => by rcases h with h | h; have := h.2.2; have := h'.2.2; omega; have := h'.2.1; omega)]
  · rcases h with h | h
    · exact h.mono (by omega) ho1
    · exact ⟨by omega, by omega, ho2 k h hk⟩
  · rw [h5.only k hk (fun h' => by rcases h with h | h; have := h.2.1; omega; omega)]
  · rcases h with h | h
    · exact h.mono (by omega) ho1
    · exact ⟨by omega, by omega, ho3 k h hk⟩

theorem puts_any (hB : B ≤ w.heap.size) (hA : LawAt B w own wb ps lv nsv knv vsv kvv rows marks vrows vmarks) (i : Nat) (hi : i < ps.length) (id : Int) (s0 s1 : Int) (s2 : ByteArray) (Fb : Option Addr) (Fn Fc : Nat)
    (spot : List Int) (vals : List Doc.Val) (hsl : spot.length ≤ 1000000000) (hvl : vals.length ≤ 1000000000) (Lv Vv : Value) (hL : In w Lv spot.length (intC spot)) (hV : In w Vv vals.length (valsC vals))
    (hLf : 0 < spot.length → ∀ k, Lv.ownBlock = some k → k < w.heap.size ∧ (k < B ∨ own k = 0)) (hVf : 0 < vals.length → ∀ k, Vv.ownBlock = some k → k < w.heap.size ∧ (k < B ∨ own k = 0)) :
    Calls Tryz.prog 56 #[.pointer (some ⟨wb, 0, none⟩), .agg #[.pointer (some ⟨ps[i].xb, 0, none⟩), .pointer (some ⟨ps[i].yb, 0, none⟩)], .agg #[.int .i64 s0, .int .i64 s1, .int .i64 id, .string s2, .slice Fb Fn Fc, Lv, Vv]] w fun e w' => e = .returned (.bool true) ∧ Below B w w' ∧ ∃ own' ps', ps'.length = ps.length ∧ LawAt B w' own' wb ps' lv nsv knv vsv kvv rows marks vrows vmarks := by
  obtain ⟨q1, q2, q3⟩ := hA.sts i hi
  obtain ⟨E, ts', hu, hX, hY⟩ := put_both ps[i].fs ps[i].space id ps[i].ts q3 q1 spot vals (by omega)
  have free : ∀ {v : Value}, (∀ k, v.ownBlock = some k → k < w.heap.size ∧ (k < B ∨ own k = 0)) → ∀ k, v.ownBlock = some k → k < w.heap.size ∧ ¬ Cl B w.heap.size own (2 * i + 3) k ∧ ¬ Cl B w.heap.size own (2 * i + 4) k := fun {v} hf k ek => by
    obtain ⟨h1, h2⟩ := hf k ek
    refine ⟨h1, fun h => ?_, fun h => ?_⟩
    · have a := h.1; have b := h.2.2; omega
    · have a := h.1; have b := h.2.2; omega
  refine (puts_walk (FX := Cl B w.heap.size own (2 * i + 3)) (FY := Cl B w.heap.size own (2 * i + 4)) ps[i].xb ps[i].yb ps[i].fs ps[i].space id (hasOf ts') ts' E wb s0 s1 s2 Fb Fn Fc spot vals hsl hvl Lv Vv hL hV (fun W sv vv hW h1 h2 => hX W _ _ sv vv (q1.kept (fun k _ hk => hW.block k hk) (fun k h _ => h)) h1 h2)
    (fun W0 W hW0 hd => hY W _ _ Lv Vv (q2.kept' (fun k h hk => ?_) (fun k h _ => h)) (hL.sl.own ?_ (fun h0 k ek hk => ?_)) (hV.sl.own ?_ (fun h0 k ek hk => ?_))) (fun h0 => free (hLf h0)) (fun h0 => free (hVf h0)) (fun k h => h.2.1) (fun k h => h.2.1)).mono ?_
  · have := hW0.size
    rw [hd.only k (by omega) (fun h' => by have a := h.2.2; have b := h'.2.2; omega), hW0.block k hk]
  · have := hW0.size; have := hd.size; omega
  · have := hW0.size
    rw [hd.only k (by omega) (free (hLf h0) k ek).2.1, hW0.block k hk]
  · have := hW0.size; have := hd.size; omega
  · have := hW0.size
    rw [hd.only k (by omega) (free (hVf h0) k ek).2.1, hW0.block k hk]
  · rintro e w' ⟨rfl, W2, W3, W4, h2, ⟨e3, h3⟩, ⟨e4, h4⟩, h5⟩
    obtain ⟨hb, own', hl⟩ := law_both hB hA i hi ts' hu E h2 h3 h4 h5
    exact ⟨rfl, hb, own', _, by simp, hl⟩
end
end Go.Proofs.YtbnelaoeblhndaaGreatDoor
/- New of the program and of the document's answer, side by side; the walk of more. -/
namespace Go.Proofs.YtbnelaoeblhndaaGreatDoor
open Go.RowKit
set_option maxRecDepth 100000

/-- What New leaves, of the program and of the document's answer. -/
def PNew (fs : List Doc.Fld) (space E : Int) (W : World) (e : Ending) (w' : World) : Prop := Below W.heap.size W w' ∧ ((E ≠ 0 ∧ e = .returned (.tuple #[.pointer none, .int .i64 E])) ∨ (E = 0 ∧ ∃ xb, e = .returned (.tuple #[.pointer (some ⟨xb, 0, none⟩), .int .i64 0]) ∧ ProgSt w' (fun k => W.heap.size ≤ k) xb fs space noneT))
def RNew (fs : List Doc.Fld) (space E : Int) (W : World) (e : Ending) (w' : World) : Prop := Below W.heap.size W w' ∧ ((E ≠ 0 ∧ e = .returned (.tuple #[.pointer none, .int .i64 E])) ∨ (E = 0 ∧ ∃ yb, e = .returned (.tuple #[.pointer (some ⟨yb, 0, none⟩), .int .i64 0]) ∧ RefSt w' (fun k => W.heap.size ≤ k) yb fs space []))

/-- A store is made of these. -/
def Doc.newOK (fs : List Doc.Fld) (space : Int) : Prop := ¬ Doc.newArg fs space ∧ (∀ j (h : j < fs.length), Doc.kindB fs[j].kind = true) ∧ ∀ j (h : j < fs.length), (Doc.nameB fs[j].name && !Doc.hasB (fs.take j) fs[j].name) = true

theorem new_both (fs : List Doc.Fld) (space : Int) (hnm : ∀ j (h : j < fs.length), fs[j].name.size ≤ 140737488351232) :
    ∃ E : Int, (Doc.newOK fs space → E = 0) ∧ (∀ (W : World) (sv : Value), Signs W → 1 < W.heap.size → Sl W sv fs.length (fldsC fs) → Calls Tryz.prog 39 #[sv, .int .i64 space] W (PNew fs space E W)) ∧
      (∀ (W : World) (sv : Value), Sl W sv fs.length (fldsC fs) → Calls Tryz.prog 89 #[sv, .int .i64 space] W (RNew fs space E W)) := by
  by_cases ha : Doc.newArg fs space
  · refine ⟨1, fun h => absurd ha h.1, fun W sv _ _ hs => ?_, fun W sv hs => ?_⟩
    · refine (pnew_bad sv space 1 (by decide) ((cnew_arg fs sv hs space ha).mono ?_)).mono ?_
      · rintro e w' ⟨rfl, rfl⟩; exact ⟨rfl, Below.refl _ _⟩
      · rintro e w' ⟨rfl, hb⟩; exact ⟨hb, .inl ⟨by decide, rfl⟩⟩
    · refine (rnew_arg fs sv hs space ha).mono ?_
      rintro e w' ⟨rfl, rfl⟩; exact ⟨Below.refl _ _, .inl ⟨by decide, rfl⟩⟩
  · have hk : 1 ≤ fs.length ∧ fs.length ≤ 4 ∧ 1 ≤ space ∧ space ≤ 4 := by
      unfold Doc.newArg at ha
      by_cases a1 : fs.length < 1
      · exact absurd (.inl a1) ha
      by_cases a2 : 4 < fs.length
      · exact absurd (.inr (.inl ⟨by omega, a2⟩)) ha
      by_cases a3 : space < 1
      · exact absurd (.inr (.inr (.inl ⟨by omega, by omega, a3⟩))) ha
      by_cases a4 : 4 < space
      · exact absurd (.inr (.inr (.inr ⟨by omega, by omega, by omega, a4⟩))) ha
      omega
    obtain ⟨k1, k2, k3, k4⟩ := hk
    by_cases hkd : ∀ j (h : j < fs.length), Doc.kindB fs[j].kind = true
    · by_cases hn : ∀ j (h : j < fs.length), (Doc.nameB fs[j].name && !Doc.hasB (fs.take j) fs[j].name) = true
      · refine ⟨0, fun _ => rfl, fun W sv hsg hg hs => ?_, fun W sv hs => ?_⟩
        · refine (pnew_ok hsg hg fs sv hs space k1 k2 k3 k4 hnm hkd hn).mono ?_
          rintro e w' ⟨xb, rfl, hp, hb⟩; exact ⟨hb, .inr ⟨rfl, xb, rfl, hp⟩⟩
        · refine (rnew_any fs sv hs space k1 k2 k3 k4 hnm).mono ?_
          rintro e w' (⟨_, _, j, h, hbad⟩ | ⟨_, _, _, j, h, hbad⟩ | ⟨_, _, rfl, hr, hb⟩)
          · rw [hkd j h] at hbad; cases hbad
          · rw [nameAt_eq fs j h, hn j h] at hbad; cases hbad
          · exact ⟨hb, .inr ⟨rfl, _, rfl, hr⟩⟩
      · refine ⟨2, fun h => absurd h.2.2 hn, fun W sv hsg hg hs => ?_, fun W sv hs => ?_⟩
        · refine (pnew_bad sv space 2 (by decide) ((cnew_any hsg hg fs sv hs space k1 k2 k3 k4 hnm).mono ?_)).mono ?_
          · rintro e w' ⟨hb, ⟨_, j, h, hbad⟩ | ⟨_, rfl, _⟩ | ⟨_, hall, _⟩⟩
            · rw [hkd j h] at hbad; cases hbad
            · exact ⟨rfl, hb⟩
            · exact absurd hall hn
          · rintro e w' ⟨rfl, hb⟩; exact ⟨hb, .inl ⟨by decide, rfl⟩⟩
        · refine (rnew_any fs sv hs space k1 k2 k3 k4 hnm).mono ?_
          rintro e w' (⟨_, _, j, h, hbad⟩ | ⟨_, rfl, hb, _⟩ | ⟨_, hall, _⟩)
          · rw [hkd j h] at hbad; cases hbad
          · exact ⟨hb, .inl ⟨by decide, rfl⟩⟩
          · exact absurd (fun j h => by rw [← nameAt_eq fs j h]; exact hall j h) hn
    · refine ⟨1, fun h => absurd h.2.1 hkd, fun W sv hsg hg hs => ?_, fun W sv hs => ?_⟩
      · refine (pnew_bad sv space 1 (by decide) ((cnew_any hsg hg fs sv hs space k1 k2 k3 k4 hnm).mono ?_)).mono ?_
        · rintro e w' ⟨hb, ⟨rfl, _⟩ | ⟨hall, _⟩ | ⟨hall, _⟩⟩
          · exact ⟨rfl, hb⟩
          · exact absurd hall hkd
          · exact absurd hall hkd
        · rintro e w' ⟨rfl, hb⟩; exact ⟨hb, .inl ⟨by decide, rfl⟩⟩
      · refine (rnew_any fs sv hs space k1 k2 k3 k4 hnm).mono ?_
        rintro e w' (⟨rfl, hb, _⟩ | ⟨hall, _⟩ | ⟨hall, _⟩)
        · exact ⟨hb, .inl ⟨by decide, rfl⟩⟩
        · exact absurd hall hkd
        · exact absurd hall hkd

theorem Tryz.infoPr : (Tryz.prog.info? 140).map (fun i => (i.zero, i.size, i.bytes)) = some (some (.agg #[.pointer none, .pointer none]), 2, 16) := by kernel_rfl

section
variable {w : World}
set_option maxHeartbeats 4000000 in
/-- The walk of more where no store is made. -/
theorem more_bad (fs : List Doc.Fld) (space E : Int) (hE : E ≠ 0) (hfl : fs.length ≤ 1000000000) (Fv : Value) (hF : In w Fv fs.length (fldsC fs)) (wb : Nat)
    (hX : ∀ W sv, Below w.heap.size w W → Sl W sv fs.length (fldsC fs) → Calls Tryz.prog 39 #[sv, .int .i64 space] W (PNew fs space E W))
    (hY : ∀ W, Below w.heap.size w W → Calls Tryz.prog 89 #[Fv, .int .i64 space] W (RNew fs space E W)) :
    Calls Tryz.prog 54 #[.pointer (some ⟨wb, 0, none⟩), Fv, .int .i64 space] w fun e w' => e = .returned (.bool true) ∧ Md (fun k => w.heap.size ≤ k) w w' := by
  obtain ⟨Fb, Fc, e1⟩ := hF.sl.slice
  subst e1
  have HLA : Hid _ := lentF_any fs hfl _ hF
  have HX : Hid _ := hX
  have HY : Hid _ := hY
  have HIF : Hid _ := hF
  clear hX hY hF
  go_enter Tryz.func54, Tryz.ntmps54
  go_wp2_with fail
  refine Calls.mono HLA.out ?_
  rintro e w1 hl1
  obtain ⟨b1, c1, rfl, g1, o1, s1, hb1⟩ := hl1.sl
  have HB1 : Hid _ := hb1
  have HG1 : Hid _ := g1
  have HCX : Hid _ := HX.out w1 _ hb1 s1
  clear hl1 g1 o1 s1 hb1 HLA
  go_wp2_with fail
  refine Calls.mono HCX.out ?_
  rintro e w2 ⟨hb2, he⟩
  obtain rfl : e = .returned (.tuple #[.pointer none, .int .i64 E]) := by
    rcases he with ⟨_, h⟩ | ⟨h, _⟩
    · exact h
    · exact absurd h hE
  have HB2 : Hid _ := Below.callB HB1.out (Nat.le_refl _) hb2
  have HG2 : Hid _ := (hb2.block w.heap.size (lt_block HG1.out)).trans HG1.out
  have HCY : Hid _ := HY.out w2 HB2.out
  clear he hb2 HCX
  go_wp2_with fail
  refine Calls.mono HCY.out ?_
  rintro e w3 ⟨hb3, he⟩
  obtain rfl : e = .returned (.tuple #[.pointer none, .int .i64 E]) := by
    rcases he with ⟨_, h⟩ | ⟨h, _⟩
    · exact h
    · exact absurd h hE
  have HB3 : Hid _ := Below.callB HB2.out (Nat.le_refl _) hb3
  have HG3 : Hid _ := (hb3.block w.heap.size (lt_block HG2.out)).trans HG2.out
  have HST : Hid _ := stillF_any fs hfl _ (HIF.out.sl.below HB3.out) w.heap.size HG3.out
  clear he hb3 HCY
  go_wp2_with fail
  refine Calls.mono HST.out ?_
  rintro e w4 ⟨rfl, hd4⟩
  have HD4 : Hid _ := hd4
  clear hd4 HST
  go_wp2_with fail
  refine (num_any' E w4).mono ?_
  rintro e w4' ⟨rfl, hw4⟩
  subst hw4
  go_wp2_with fail
  go_ret
  exact ⟨rfl, (Md.ofBelow HB3.out).trans (HD4.out.mono (fun k hk => by subst hk; exact Nat.le_refl _))⟩
end
end Go.Proofs.YtbnelaoeblhndaaGreatDoor
/- The walk of more where a store is made; more whole. -/
namespace Go.Proofs.YtbnelaoeblhndaaGreatDoor
open Go.RowKit
set_option maxRecDepth 100000

section
variable {w : World}
set_option maxHeartbeats 4000000 in
theorem more_ok (fs : List Doc.Fld) (space : Int) (hfl : fs.length ≤ 1000000000) (Fv : Value) (hF : In w Fv fs.length (fldsC fs)) (wb : Nat) (ps : List Pr) (hpl : ps.length ≤ 1000000000) (lv nsv knv vsv kvv hsv khv : Value) (hw : w.heap[wb]? = some (worldO lv nsv knv vsv kvv hsv khv)) (hlv : w.ownsRow 0 140 2 lv ps.length (prsC ps))
    (hX : ∀ W sv, Below w.heap.size w W → Sl W sv fs.length (fldsC fs) → Calls Tryz.prog 39 #[sv, .int .i64 space] W (PNew fs space 0 W))
    (hY : ∀ W, Below w.heap.size w W → Calls Tryz.prog 89 #[Fv, .int .i64 space] W (RNew fs space 0 W)) :
    Calls Tryz.prog 54 #[.pointer (some ⟨wb, 0, none⟩), Fv, .int .i64 space] w fun e w' => e = .returned (.bool true) ∧ ∃ W1 W2 W3 xb yb lv', Below w.heap.size w W1 ∧ Below W1.heap.size W1 W2 ∧ ProgSt W2 (fun k => W1.heap.size ≤ k) xb fs space noneT ∧ Below W2.heap.size W2 W3 ∧ RefSt W3 (fun k => W2.heap.size ≤ k) yb fs space [] ∧
      w'.heap[wb]? = some (worldO lv' nsv knv vsv kvv hsv khv) ∧ w'.ownsRow 0 140 2 lv' (ps.length + 1) (prsC ps ++ prC ⟨xb, yb, fs, space, []⟩) ∧ (∀ k, lv'.ownBlock = some k → lv.ownBlock = some k ∨ W3.heap.size ≤ k) ∧ Md (fun k => k = wb ∨ lv.ownBlock = some k ∨ k = w.heap.size) W3 w' ∧ w.heap.size < W1.heap.size := by
  obtain ⟨Fb, Fc, e1⟩ := hF.sl.slice
  subst e1
  obtain ⟨Lb, Lc, e2⟩ := row_slice hlv
  subst e2
  obtain ⟨i0, hi, hz0, hz1, hz2⟩ := info_parts Tryz.infoPr
  have HLA : Hid _ := lentF_any fs hfl _ hF
  have HX : Hid _ := hX
  have HY : Hid _ := hY
  have HIF : Hid _ := hF
  have HW : Hid _ := hw
  have HLV : Hid _ := hlv
  clear hX hY hF hw hlv
  go_enter Tryz.func54, Tryz.ntmps54
  go_wp2_with fail
  refine Calls.mono HLA.out ?_
  rintro e w1 hl1
  obtain ⟨b1, c1, rfl, g1, o1, s1, hb1⟩ := hl1.sl
  have HB1 : Hid _ := hb1
  have HG1 : Hid _ := g1
  have HCX : Hid _ := HX.out w1 _ hb1 s1
  clear hl1 g1 o1 s1 hb1 HLA
  go_wp2_with fail
  refine Calls.mono HCX.out ?_
  rintro e w2 ⟨hb2, he⟩
  obtain ⟨xb, rfl, hp2⟩ : ∃ xb, e = .returned (.tuple #[.pointer (some ⟨xb, 0, none⟩), .int .i64 0]) ∧ ProgSt w2 (fun k => w1.heap.size ≤ k) xb fs space noneT := by
    rcases he with ⟨h, _⟩ | ⟨_, h⟩
    · exact absurd rfl h
    · exact h
  have HP2 : Hid _ := hp2
  have HB12 : Hid _ := hb2
  have HB2 : Hid _ := Below.callB HB1.out (Nat.le_refl _) hb2
  have HG2 : Hid _ := (hb2.block w.heap.size (lt_block HG1.out)).trans HG1.out
  have HCY : Hid _ := HY.out w2 HB2.out
  clear he hb2 HCX hp2
  go_wp2_with fail
  refine Calls.mono HCY.out ?_
  rintro e w3 ⟨hb3, he⟩
  obtain ⟨yb, rfl, hr3⟩ : ∃ yb, e = .returned (.tuple #[.pointer (some ⟨yb, 0, none⟩), .int .i64 0]) ∧ RefSt w3 (fun k => w2.heap.size ≤ k) yb fs space [] := by
    rcases he with ⟨h, _⟩ | ⟨_, h⟩
    · exact absurd rfl h
    · exact h
  have HR3 : Hid _ := hr3
  have HB23 : Hid _ := hb3
  have HB3 : Hid _ := Below.callB HB2.out (Nat.le_refl _) hb3
  have HG3 : Hid _ := (hb3.block w.heap.size (lt_block HG2.out)).trans HG2.out
  have HST : Hid _ := stillF_any fs hfl _ (HIF.out.sl.below HB3.out) w.heap.size HG3.out
  clear he hb3 HCY hr3
  go_wp2_with fail
  refine Calls.mono HST.out ?_
  rintro e w4 ⟨rfl, hd4⟩
  have HD4 : Hid _ := hd4
  have hn4 : ∀ k, k < w.heap.size → w4.heap[k]? = w.heap[k]? := fun k hk => (hd4.only k (by have := HB3.out.size; omega) (by omega)).trans (HB3.out.block k hk)
  have hw4 : w4.heap[wb]? = some (worldO (.slice Lb ps.length Lc) nsv knv vsv kvv hsv khv) := (hn4 wb (lt_block HW.out)).trans HW.out
  have HW4 : Hid _ := hw4
  have d0 : w4.cell? ⟨wb, 0, none⟩ = some (.slice Lb ps.length Lc) := blk_cell hw4 0 _ rfl
  have HLV4 : Hid _ := rowKept (w' := w4) HLV.out (fun k _ ek ho => (hn4 k (ownLt HLV.out ek)).trans ho)
  have hwl4 := lt_block hw4
  clear hd4 HST hn4 hw4
  go_wp2_with fail
  refine (num_any' 0 w4).mono ?_
  rintro e w4' ⟨rfl, hw4⟩
  subst hw4
  go_wp2_with (at_builtin; refine wpList_append_or _ rfl _ _ 76 rfl 0 140 i0 _ 2 16 Tryz.underlying76 hi hz0 hz1 hz2 rfl (by decide) _ _ _ rfl (row_below HLV4.out ((Below.refl _ _).alloc (Nat.le_refl _) _)) ⟨w4'.heap.size, 0, none⟩ 1 1 [.pointer (some ⟨xb, 0, none⟩), .pointer (some ⟨yb, 0, none⟩)] rfl (by decide) rfl ?c1 ?c2 ?c3 ?c4 ?c5 ?_)
  case c1 => exact cells_new_at _ [.pointer (some ⟨xb, 0, none⟩), .pointer (some ⟨yb, 0, none⟩)] _ _ (by simp)
  case c2 => intro u hu; simp only [List.mem_cons, List.not_mem_nil, or_false] at hu; rcases hu with rfl | rfl <;> rfl
  case c3 => unfold maxLen; omega
  case c4 => omega
  case c5 => omega
  intro g5 p5 w5 own5 or5
  obtain ⟨D5, E5⟩ := orMd (n := ps.length) (by simp) or5
  have hw5 : w5.heap[wb]? = some (worldO (.slice Lb ps.length Lc) nsv knv vsv kvv hsv khv) := by
    rw [D5.only wb (by simp; omega) (fun e => ?_), Below.heap_alloc _ _ _ hwl4]
    · exact HW4.out
    · obtain ⟨_, cs', t⟩ := own_type HLV4.out e
      rw [HW4.out] at t; cases t
  have d5 := blk_cell hw5 0 _ rfl
  have f5 := blk_free hw5 0
  have hwl5 := lt_block hw5
  have HW5 : Hid _ := hw5
  have HO5 : Hid _ := own5
  have HD5 : Hid _ := D5
  have HE5 : Hid _ := E5
  clear own5 or5 D5 E5 hw5 d0
  go_wp2_with fail
  go_ret
  have s3 := HB3.out.size
  have s4 := HD4.out.size
  refine ⟨rfl, w1, w2, w3, xb, yb, .slice (some ⟨g5, 0, none⟩) (ps.length + 1) p5, HB1.out, HB12.out, HP2.out, HB23.out, HR3.out, set_blk' HW5.out 0 _, rowKept HO5.out (fun k _ ek ho => ?_), fun k ek => ?_, ?_, lt_block HG1.out⟩
  · obtain ⟨_, cs', t⟩ := own_type HO5.out ek
    rw [Below.heap_setCell _ _ _ _ (by rintro rfl; rw [HW5.out] at t; cases t)]; exact ho
  · obtain rfl : g5 = k := by cases ek; rfl
    rcases HE5.out with h | h
    · exact .inl h
    · exact .inr (by simp at h; omega)
  · exact (((HD4.out.mono (fun k hk => .inr (.inr hk))).alloc _).trans (HD5.out.mono (fun k hk => .inr (.inl hk)))).set _ (.inl (.inl rfl))
end

section
variable {B : Nat} {w : World} {own : Nat → Nat} {wb : Nat} {ps : List Pr} {lv nsv knv vsv kvv : Value} {rows : List Value} {marks : List Int} {vrows : List Value} {vmarks : List Int}

theorem law_same (hA : LawAt B w own wb ps lv nsv knv vsv kvv rows marks vrows vmarks) {w' : World} (hd : Md (fun k => w.heap.size ≤ k) w w') : LawAt B w' (fun k => if k < w.heap.size then own k else 0) wb ps lv nsv knv vsv kvv rows marks vrows vmarks := by
  have ho : ∀ k, k < w.heap.size → (fun k => if k < w.heap.size then own k else 0) k = own k := fun k hk => by simp [hk]
  have kc : ∀ c k, Cl B w.heap.size own c k → k < w.heap.size → w'.heap[k]? = w.heap[k]? := fun c k _ hk => hd.only k hk (by omega)
  have mv : ∀ c k, Cl B w.heap.size own c k → k < w.heap.size → Cl B w'.heap.size (fun k => if k < w.heap.size then own k else 0) c k := fun c k h _ => h.mono hd.size ho
  refine ⟨(kc 0 wb hA.wbc hA.wbc.2.1).trans hA.blk, hA.wbc.mono hd.size ho, rowKept hA.prs (fun k _ ek ho' => (kc 0 k (hA.prc k ek) (ownLt hA.prs ek)).trans ho'), fun k e => (hA.prc k e).mono hd.size ho, hA.bkn.kept (kc 1) (mv 1), hA.bkv.kept (kc 2) (mv 2), fun j hj => ?_⟩
  obtain ⟨h1, h2, h3⟩ := hA.sts j hj
  exact ⟨h1.kept (kc _) (mv _), h2.kept' (kc _) (mv _), h3⟩

theorem hasOf_nil : hasOf [] = noneT := rfl

theorem more_any (hB : B ≤ w.heap.size) (hA : LawAt B w own wb ps lv nsv knv vsv kvv rows marks vrows vmarks) (hpl : ps.length ≤ 1000000000) (hsg : Signs w) (hg0 : 1 < w.heap.size) (fs : List Doc.Fld) (space : Int) (hnm : ∀ j (h : j < fs.length), fs[j].name.size ≤ 140737488351232) (hfl : fs.length ≤ 1000000000) (Fv : Value) (hF : In w Fv fs.length (fldsC fs)) :
    Calls Tryz.prog 54 #[.pointer (some ⟨wb, 0, none⟩), Fv, .int .i64 space] w fun e w' => e = .returned (.bool true) ∧ Below B w w' ∧ ∃ own' ps' lv', ps.length ≤ ps'.length ∧ ps'.length ≤ ps.length + 1 ∧ (Doc.newOK fs space → ps'.length = ps.length + 1) ∧ LawAt B w' own' wb ps' lv' nsv knv vsv kvv rows marks vrows vmarks := by
  obtain ⟨E, hOK, hX, hY⟩ := new_both fs space hnm
  by_cases hE : E = 0
  · subst hE
    refine (more_ok fs space hfl Fv hF wb ps hpl lv nsv knv vsv kvv _ _ hA.blk hA.prs (fun W sv hW hs => hX W sv (hsg.below hW hg0) (Nat.lt_of_lt_of_le hg0 hW.size) hs) (fun W hW => hY W Fv (hF.sl.below hW))).mono ?_
    rintro e w' ⟨rfl, W1, W2, W3, xb, yb, lv', h1, h2, p2, h3, r3, hw', hl', hlb, hd, hlt⟩
    have s1 := h1.size
    have s2 := h2.size
    have s3 := h3.size
    have s4 := hd.size
    obtain ⟨wb1, wb2, wb3⟩ := hA.wbc
    have hlold : ∀ k, lv.ownBlock = some k → k < w.heap.size ∧ own k = 0 ∧ B ≤ k := fun k e => ⟨(hA.prc k e).2.1, (hA.prc k e).2.2, (hA.prc k e).1⟩
    have old3 : ∀ k, k < w.heap.size → W3.heap[k]? = w.heap[k]? := fun k hk => (h3.block k (by omega)).trans ((h2.block k (by omega)).trans (h1.block k hk))
    have keep : ∀ k, k < W3.heap.size → k ≠ wb → lv.ownBlock ≠ some k → k ≠ w.heap.size → w'.heap[k]? = W3.heap[k]? := fun k hk a b c => hd.only k hk (by rintro (h | h | h); exact a h; exact b h; exact c h)
    have old : ∀ k, k < w.heap.size → own k ≠ 0 → w'.heap[k]? = w.heap[k]? := fun k hk h0 => (keep k (by omega) (by rintro rfl; exact h0 wb3) (fun e => h0 (hlold k e).2.1) (by omega)).trans (old3 k hk)
    refine ⟨rfl, ⟨hd.below.os.trans (h3.os.trans (h2.os.trans h1.os)), hd.below.tape.trans (h3.tape.trans (h2.tape.trans h1.tape)), hd.below.output.trans (h3.output.trans (h2.output.trans h1.output)), by omega, fun k hk => (keep k (by omega) (by omega) (fun e => by have := (hlold k e).2.2; omega) (by omega)).trans (old3 k (by omega))⟩, ?_⟩
    obtain ⟨own', ho, ho2, ho3, ho4⟩ : ∃ own' : Nat → Nat, (∀ k, k < w.heap.size → own' k = own k) ∧ (∀ k, W1.heap.size ≤ k → k < W2.heap.size → own' k = 2 * ps.length + 3) ∧ (∀ k, W2.heap.size ≤ k → k < W3.heap.size → own' k = 2 * ps.length + 4) ∧ (∀ k, W3.heap.size ≤ k → own' k = 0) := by
      refine ⟨fun k => if k < w.heap.size then own k else if k < W1.heap.size then 0 else if k < W2.heap.size then 2 * ps.length + 3 else if k < W3.heap.size then 2 * ps.length + 4 else 0, fun k hk => by simp [hk], fun k a b => ?_, fun k a b => ?_, fun k a => ?_⟩
      · simp [show ¬ k < w.heap.size by omega, show ¬ k < W1.heap.size by omega, b]
      · simp [show ¬ k < w.heap.size by omega, show ¬ k < W1.heap.size by omega, show ¬ k < W2.heap.size by omega, b]
      · simp [show ¬ k < w.heap.size by omega, show ¬ k < W1.heap.size by omega, show ¬ k < W2.heap.size by omega, show ¬ k < W3.heap.size by omega]
    have hN : w.heap.size ≤ w'.heap.size := by omega
    have kc : ∀ c, c ≠ 0 → ∀ k, Cl B w.heap.size own c k → k < w.heap.size → w'.heap[k]? = w.heap[k]? := fun c hc k h hk => old k hk (by rw [h.2.2]; exact hc)
    have mv : ∀ c k, Cl B w.heap.size own c k → k < w.heap.size → Cl B w'.heap.size own' c k := fun c k h _ => h.mono hN ho
    refine ⟨own', ps ++ [⟨xb, yb, fs, space, []⟩], lv', by simp, by simp, fun _ => by simp, ⟨hw', hA.wbc.mono hN ho, ?_, fun k e => ?_, hA.bkn.kept (kc 1 (by omega)) (mv 1), hA.bkv.kept (kc 2 (by omega)) (mv 2), fun j hj => ?_⟩⟩
    · rw [List.length_append, show prsC (ps ++ [⟨xb, yb, fs, space, []⟩]) = prsC ps ++ prC ⟨xb, yb, fs, space, []⟩ by simp [prsC]]
      exact hl'
    · rcases hlb k e with h | h
      · exact (hA.prc k h).mono hN ho
      · exact ⟨by omega, ownLt hl' e, ho4 k h⟩
    · by_cases hj' : j < ps.length
      · rw [List.getElem_append_left hj']
        obtain ⟨a1, a2, a3⟩ := hA.sts j hj'
        exact ⟨a1.kept (kc _ (by omega)) (mv _), a2.kept' (kc _ (by omega)) (mv _), a3⟩
      · have hje : j = ps.length := by simp at hj; omega
        subst hje
        rw [List.getElem_append_right (Nat.le_refl _)]
        simp only [Nat.sub_self, List.getElem_cons_zero]
        refine ⟨?_, r3.kept' (fun k h hk => keep k hk (by omega) (fun e => by have := (hlold k e).1; omega) (by omega)) (fun k h hk => ⟨by omega, by omega, ho3 k h hk⟩), List.Pairwise.nil⟩
        rw [hasOf_nil]
        exact p2.kept (fun k h hk => (keep k (by omega) (by omega) (fun e => by have := (hlold k e).1; omega) (by omega)).trans (h3.block k hk)) (fun k h hk => ⟨by omega, by omega, ho2 k h hk⟩)
  · refine (more_bad fs space E hE hfl Fv hF wb (fun W sv hW hs => hX W sv (hsg.below hW hg0) (Nat.lt_of_lt_of_le hg0 hW.size) hs) (fun W hW => hY W Fv (hF.sl.below hW))).mono ?_
    rintro e w' ⟨rfl, hd⟩
    refine ⟨rfl, ⟨hd.below.os, hd.below.tape, hd.below.output, hd.size, fun k hk => hd.only k (by omega) (by omega)⟩, _, ps, lv, Nat.le_refl _, by omega, fun h => absurd (hOK h) hE, law_same hA hd⟩
end
end Go.Proofs.YtbnelaoeblhndaaGreatDoor
