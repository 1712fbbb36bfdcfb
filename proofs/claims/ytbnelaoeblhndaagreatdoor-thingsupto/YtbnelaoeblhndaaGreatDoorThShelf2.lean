/- A shelf in memory, whole; the walk of its Drop. -/
import Derived.Test.YtbnelaoeblhndaaGreatDoorThShelf1
import Derived.Test.YtbnelaoeblhndaaGreatDoorThRef3
namespace Go.Proofs.YtbnelaoeblhndaaGreatDoor
open Go.RowKit
open Go.Maps (Keyed)
set_option maxRecDepth 100000

/-- Things by their numbers: spot and values. -/
abbrev Has := Int → Option (List Int × List Doc.Val)
/-- Who has which value in which field. -/
def Hof (th : Has) : Nat → Nat → Doc.Val → Prop := fun j f x => ∃ t, th (j : Int) = some t ∧ t.2[f]? = some x
/-- The same but for the first k fields of a thing. -/
def cutH (th : Has) (id : Int) (k : Nat) : Nat → Nat → Doc.Val → Prop := fun j f x => Hof th j f x ∧ ¬ ((j : Int) = id ∧ f < k)
def thingM (th : Has) (pos : Int → Value × Value) : Value → Value → Prop := fun key v => ∃ id t, th id = some t ∧ key = .int .i64 id ∧ v = .agg #[(pos id).1, (pos id).2]
def dropT (th : Has) (id : Int) : Has := fun i => if i = id then none else th i
def putT (th : Has) (id : Int) (t : List Int × List Doc.Val) : Has := fun i => if i = id then some t else th i

theorem holdM_congr {H H' : Nat → Nat → Doc.Val → Prop} (h : ∀ j f x, j < 4096 → (H j f x ↔ H' j f x)) (key v : Value) : holdM H key v ↔ holdM H' key v := by
  constructor
  · rintro ⟨f, x, ws, a, b, c, d, e, j, hj, g⟩
    exact ⟨f, x, ws, a, b, c, d, fun i hi => (e i hi).trans (h i f x hi), j, hj, (h j f x hj).1 g⟩
  · rintro ⟨f, x, ws, a, b, c, d, e, j, hj, g⟩
    exact ⟨f, x, ws, a, b, c, d, fun i hi => (e i hi).trans (h i f x hi).symm, j, hj, (h j f x hj).2 g⟩

structure ShelfAt (w : World) (F : Nat → Prop) (hb : Nat) (th : Has) (mt mh : Nat) (pos : Int → Value × Value) : Prop where
  blk : w.heap[hb]? = some (shelfO mt mh)
  thg : MapIs Tryz.prog 3 w mt (thingM th pos)
  hold : MapIs Tryz.prog 155 w mh (holdM (Hof th))
  ne : mt ≠ mh
  rng : ∀ id t, th id = some t → 0 ≤ id ∧ id ≤ 4095 ∧ t.1.length ≤ 4 ∧ t.2.length ≤ 4 ∧ ∀ x ∈ t.2, Fine x
  each : ∀ id t, th id = some t → w.ownsRow 0 3 1 (pos id).1 t.1.length (intC t.1) ∧ w.ownsRow 0 94 3 (pos id).2 t.2.length (valsC t.2)
  inS : F hb
  inT : F mt
  inH : F mh
  inE : ∀ id t, th id = some t → ∀ k, (pos id).1.ownBlock = some k ∨ (pos id).2.ownBlock = some k → F k

def ShelfSt (w : World) (F : Nat → Prop) (hb : Nat) (th : Has) : Prop := ∃ mt mh pos, ShelfAt w F hb th mt mh pos

section
variable {w w' : World} {F : Nat → Prop} {hb mt mh : Nat} {th : Has} {pos : Int → Value × Value}

theorem row_not_map {m e size n : Nat} {v : Value} {cs : List Value} {P : Program} {k : TypeId} {f : Value → Value → Prop} {b j : Nat} (h : w.ownsRow m e size v n cs) (hm : MapIs P k w b f) (hj : v.ownBlock = some j) : j ≠ b := by
  rintro rfl
  obtain ⟨_, cs', t⟩ := own_type h hj
  obtain ⟨es, clock, h1, _⟩ := hm.has
  rw [t] at h1; cases h1
theorem ShelfAt.lt (h : ShelfAt w F hb th mt mh pos) : hb < w.heap.size := lt_block h.blk
theorem ShelfAt.hbt (h : ShelfAt w F hb th mt mh pos) : hb ≠ mt := by
  rintro rfl
  obtain ⟨es, clock, h1, _⟩ := h.thg.has
  rw [h.blk] at h1; cases h1
theorem ShelfAt.hbh (h : ShelfAt w F hb th mt mh pos) : hb ≠ mh := by
  rintro rfl
  obtain ⟨es, clock, h1, _⟩ := h.hold.has
  rw [h.blk] at h1; cases h1
theorem ShelfAt.kept {F' : Nat → Prop} (h : ShelfAt w F hb th mt mh pos) (hk : ∀ k, F k → k < w.heap.size → w'.heap[k]? = w.heap[k]?) (hF : ∀ k, F k → k < w.heap.size → F' k) : ShelfAt w' F' hb th mt mh pos := by
  refine ⟨(hk _ h.inS h.lt).trans h.blk, h.thg.kept (hk _ h.inT h.thg.lt), h.hold.kept (hk _ h.inH h.hold.lt), h.ne, h.rng, fun id t ht => ?_, hF _ h.inS h.lt, hF _ h.inT h.thg.lt, hF _ h.inH h.hold.lt, fun id t ht k hk2 => ?_⟩
  · obtain ⟨r1, r2⟩ := h.each id t ht
    exact ⟨rowKept r1 (fun k o e ho => (hk k (h.inE id t ht k (.inl e)) (ownLt r1 e)).trans ho), rowKept r2 (fun k o e ho => (hk k (h.inE id t ht k (.inr e)) (ownLt r2 e)).trans ho)⟩
  · obtain ⟨r1, r2⟩ := h.each id t ht
    refine hF k (h.inE id t ht k hk2) ?_
    rcases hk2 with e | e
    · exact ownLt r1 e
    · exact ownLt r2 e

theorem int_key {id : Int} (h0 : -9223372036854775808 ≤ id) (h1 : id ≤ 9223372036854775807) : keyOf Tryz.prog 3 (.int .i64 id) = some (.int .i64 id) :=
  Go.Maps.keyOf_int_mk Tryz.underlying3 (by simpa [Lit.wf, IntKind.min, IntKind.max, IntKind.signed, IntKind.bits] using ⟨h0, h1⟩)

/-- No such thing. -/
theorem sdrop_none (h : ShelfAt w F hb th mt mh pos) (id : Int) (h0 : -9223372036854775808 ≤ id) (h1 : id ≤ 9223372036854775807) (hn : th id = none) :
    Calls Tryz.prog 41 #[.pointer (some ⟨hb, 0, none⟩), .int .i64 id] w fun e w' => e = .returned (.bool false) ∧ Below w.heap.size w w' := by
  have c0 : w.cell? ⟨hb, 0, none⟩ = some (.map (some mt)) := blk_cell h.blk 0 _ rfl
  obtain ⟨zt, hzt, HZT⟩ : ∃ zt, (∀ w, (zeroValue 104).run Tryz.prog w = .ok (.agg zt) w) ∧ Hid (zt = #[.slice none 0 0, .slice none 0 0]) := ⟨_, Tryz.zeroValue104, rfl⟩
  have hlk := h.thg.look_none true intKeyed Tryz.underlying149 (hzt w) (int_key h0 h1) (fun v hv => by
    obtain ⟨i, t, ht, e, _⟩ := hv
    simp at e; subst e
    rw [hn] at ht; cases ht)
  rw [HZT.out] at hlk
  simp only [if_true] at hlk
  clear hzt
  go_enter Tryz.func41, Tryz.ntmps41
  go_wp2_with fail
  go_ret
  exact ⟨rfl, (Below.refl _ _).alloc (Nat.le_refl _) _⟩

theorem cut_zero (th : Has) (id : Int) : ∀ j f x, j < 4096 → (Hof th j f x ↔ cutH th id 0 j f x) := fun j f x _ => ⟨fun h => ⟨h, by omega⟩, fun h => h.1⟩
theorem cut_step {th : Has} {id : Nat} {t : List Int × List Doc.Val} (ht : th (id : Int) = some t) {k : Nat} {x : Doc.Val} (hx : t.2[k]? = some x) : ∀ j f y, j < 4096 → (lessH (cutH th id k) id k x j f y ↔ cutH th id (k + 1) j f y) := by
  intro j f y _
  constructor
  · rintro ⟨⟨h1, h2⟩, h3⟩
    refine ⟨h1, ?_⟩
    rintro ⟨e, hf⟩
    obtain rfl : j = id := by omega
    by_cases hfk : f = k
    · subst hfk
      obtain ⟨t', ht', hy⟩ := h1
      rw [ht] at ht'; cases ht'
      rw [hx] at hy; cases hy
      exact h3 ⟨rfl, rfl, rfl⟩
    · exact h2 ⟨e, by omega⟩
  · rintro ⟨h1, h2⟩
    exact ⟨⟨h1, fun h => h2 ⟨h.1, by omega⟩⟩, fun h => h2 ⟨by omega, by omega⟩⟩
theorem cut_all {th : Has} {id : Nat} {t : List Int × List Doc.Val} (ht : th (id : Int) = some t) : ∀ j f y, j < 4096 → (cutH th id t.2.length j f y ↔ Hof (dropT th id) j f y) := by
  intro j f y _
  constructor
  · rintro ⟨⟨t', ht', hy⟩, h2⟩
    have hne : (j : Int) ≠ id := by
      intro e
      rw [e, ht] at ht'; cases ht'
      exact h2 ⟨e, (List.getElem?_eq_some_iff.1 hy).1⟩
    exact ⟨t', by simp [dropT, hne, ht'], hy⟩
  · rintro ⟨t', ht', hy⟩
    by_cases e : (j : Int) = id
    · simp [dropT, e] at ht'
    · simp [dropT, e] at ht'
      exact ⟨⟨t', ht', hy⟩, fun h => e h.1⟩

set_option maxHeartbeats 2000000 in
/-- A thing is taken away. -/
theorem sdrop_some (h : ShelfAt w F hb th mt mh pos) (id : Nat) (t : List Int × List Doc.Val) (hn : th (id : Int) = some t) :
    Calls Tryz.prog 41 #[.pointer (some ⟨hb, 0, none⟩), .int .i64 id] w fun e w' => e = .returned (.bool true) ∧ ShelfAt w' F hb (dropT th id) mt mh pos ∧ Md (fun j => j = mt ∨ j = mh) w w' := by
  have c0 : w.cell? ⟨hb, 0, none⟩ = some (.map (some mt)) := blk_cell h.blk 0 _ rfl
  obtain ⟨g0, g1, _, g2, g3⟩ := h.rng id t hn
  obtain ⟨r1, r2⟩ := h.each id t hn
  have hkey := int_key (id := (id : Int)) (by omega) (by omega)
  have hlk := h.thg.look_some true intKeyed Tryz.underlying149 hkey ⟨id, t, hn, rfl, rfl⟩
  simp only [if_true] at hlk
  obtain ⟨b1, m1, e1⟩ := row_slice r1
  obtain ⟨b2, m2, e2⟩ := row_slice r2
  rw [e1, e2] at hlk
  obtain ⟨ob, hob⟩ := h.thg.delO intKeyed Tryz.underlying149 hkey 0
  obtain ⟨hde, hdm⟩ := hob (w.alloc (.cells #[.slice b1 t.1.length m1, .slice b2 t.2.length m2] 104)) (Below.heap_alloc _ _ _ h.thg.lt)
  obtain ⟨w1, HW1⟩ : ∃ w1, Hid (w1 = Go.ChangeMaps.setBlock (w.alloc (.cells #[.slice b1 t.1.length m1, .slice b2 t.2.length m2] 104)) mt ob) := ⟨_, rfl⟩
  rw [← HW1.out] at hde hdm
  have hmd1 : Md (fun j => j = mt ∨ j = mh) w w1 := by
    rw [HW1.out]; exact ((Md.refl _ w).alloc _).trans ((setBlock_md _ _ _).mono (fun k hk => .inl hk))
  have hsz : w.heap.size < w1.heap.size := by rw [HW1.out, setBlock_size]; simp
  have hbx : w1.heap[w.heap.size]? = some (.cells #[.slice b1 t.1.length m1, .slice b2 t.2.length m2] 104 (0, 0)) := by
    rw [HW1.out, setBlock_other _ (by have := h.thg.lt; omega)]; exact heap_alloc_new w _
  have HMH : Hid (w1.heap[mh]? = w.heap[mh]?) := by
    show _ = _
    rw [HW1.out, setBlock_other _ (Ne.symm h.ne)]; exact Below.heap_alloc _ _ _ h.hold.lt
  have HOLD : Hid (∀ k, k < w.heap.size → k ≠ mt → w1.heap[k]? = w.heap[k]?) := by
    intro k hk hne
    rw [HW1.out, setBlock_other _ hne]; exact Below.heap_alloc _ _ _ hk
  have HNM : Hid (∀ k, (pos id).1.ownBlock = some k ∨ (pos id).2.ownBlock = some k → k ≠ mt ∧ k ≠ mh) := by
    rintro k (e | e)
    · exact ⟨row_not_map r1 h.thg e, row_not_map r1 h.hold e⟩
    · exact ⟨row_not_map r2 h.thg e, row_not_map r2 h.hold e⟩
  rw [e1, e2] at HNM
  have k1 := blk_cell hbx 1 _ rfl
  have hlt := h.lt
  have H : Hid _ := h
  have HDM : Hid _ := hdm
  have HR2 : Hid _ := rowSl r2
  rw [e2] at HR2
  have HMD1 : Hid _ := hmd1
  clear hob hdm hmd1 hbx r1 r2 hkey h
  go_enter Tryz.func41, Tryz.ntmps41
  go_wp2_with fail
  go_loopw [28] (fun i wr => ∃ k : Nat, k ≤ t.2.length ∧ i = .int .i64 k ∧ Hid (MapIs Tryz.prog 155 wr mh (holdM (cutH th id k))) ∧ Hid (Md (fun j => j = mh) w1 wr)) (fun i _ => t.2.length - (intOf i).toNat)
  case atStart =>
    refine ⟨0, Nat.zero_le _, rfl, ?_, Md.refl _ _⟩
    exact MapIs.congr (H.out.hold.kept HMH.out) (holdM_congr (fun j f x hj => (cut_zero th id j f x hj).symm))
  case round =>
    obtain ⟨k, hk, rfl, HM, HMD⟩ := hrel
    by_cases hk2 : k < t.2.length
    · have hsl := HR2.out.has
      obtain ⟨b, off, hb2, hbl, hrd⟩ : ∃ b off, b2 = some ⟨b, off, none⟩ ∧ b < w.heap.size ∧ ∀ j u, (valsC t.2)[j]? = some u → w.cell? ⟨b, off + j, none⟩ = some u := by
        rcases hsl with ⟨h0, _⟩ | ⟨h0, b, off, cap, e, _, hl, hr⟩
        · omega
        · simp at e; exact ⟨b, off, e.1, hl, hr⟩
      clear hsl
      subst hb2
      obtain ⟨n1, n2⟩ := HNM.out b (.inr rfl)
      have hcell : ∀ i, wr.cell? ⟨b, i, none⟩ = w.cell? ⟨b, i, none⟩ := fun i => by
        have := (HMD.out.only b (by have := HMD1.out.size; omega) n2).trans (HOLD.out b hbl n1)
        simp [World.cell?, this]
      obtain ⟨x, HX⟩ : ∃ x, Hid (t.2[k]? = some x) := ⟨t.2[k], List.getElem?_eq_getElem hk2⟩
      have hx0 := (hcell _).trans (hrd (k * 3 + 0) (.int .i64 x.k) (by unfold valsC; rw [flat_at valC 3 valC_len t.2 k hk2 0 (by omega)]; rw [List.getElem?_eq_getElem hk2] at HX; obtain rfl := Option.some.inj HX.out; rfl))
      have hx1 := (hcell _).trans (hrd (k * 3 + 1) (.int .i64 x.n) (by unfold valsC; rw [flat_at valC 3 valC_len t.2 k hk2 1 (by omega)]; rw [List.getElem?_eq_getElem hk2] at HX; obtain rfl := Option.some.inj HX.out; rfl))
      have hx2 := (hcell _).trans (hrd (k * 3 + 2) (.string x.s) (by unfold valsC; rw [flat_at valC 3 valC_len t.2 k hk2 2 (by omega)]; rw [List.getElem?_eq_getElem hk2] at HX; obtain rfl := Option.some.inj HX.out; rfl))
      rw [← Nat.add_assoc] at hx1 hx2
      rw [Nat.add_zero] at hx0
      have HFX : Hid (Fine x) := g3 x (List.mem_of_getElem? HX.out)
      have hal : ∀ o, MapIs Tryz.prog 155 (wr.alloc o) mh (holdM (cutH th id k)) := fun o => HM.out.kept (Below.heap_alloc _ _ _ HM.out.lt)
      have hsb : ∀ o, (wr.alloc o).heap[hb]? = some (shelfO mt mh) := fun o => by
        have hl2 : hb < wr.heap.size := by have := HMD.out.size; omega
        rw [Below.heap_alloc _ _ _ hl2, HMD.out.only hb (by omega) H.out.hbh, HOLD.out hb hlt H.out.hbt]; exact H.out.blk
      have HREL : Hid (∀ o, Calls Tryz.prog 65 #[.pointer (some ⟨hb, 0, none⟩), .agg #[.int .i64 k, .int .i64 x.k, .int .i64 x.n, .string x.s], .int .i64 id] (wr.alloc o) fun e w' => e = .returned (.tuple #[]) ∧ MapIs Tryz.prog 155 w' mh (holdM (lessH (cutH th id k) id k x)) ∧ Md (fun j => j = mh) (wr.alloc o) w') :=
        fun o => release_any (hsb o) (hal o) k (by omega) x HFX.out id (by omega) ⟨⟨t, hn, HX.out⟩, by omega⟩
      clear hcell hrd hal hsb
      go_wp2_with fail
      refine (HREL.out _).mono ?_
      rintro e w3 ⟨rfl, hm3, hd3⟩
      have HM3 : Hid _ := hm3
      have HD3 : Hid _ := hd3
      clear hm3 hd3
      go_wp2_with fail
      go_roundw
      case rel => exact ⟨k + 1, by omega, by go_num, MapIs.congr HM3.out (holdM_congr (fun j f y hj => (cut_step hn HX.out j f y hj).symm)), (HMD.out.alloc _).trans HD3.out⟩
      case measure => simp [intOf]; omega
    · obtain rfl : k = t.2.length := by omega
      go_wp2_with fail
      go_ret
      have hold : ∀ k, k < w.heap.size → k ≠ mt → k ≠ mh → wr.heap[k]? = w.heap[k]? := fun k hk h1 h2 => (HMD.out.only k (by have := HMD1.out.size; omega) h2).trans (HOLD.out k hk h1)
      refine ⟨rfl, ⟨(hold hb hlt H.out.hbt H.out.hbh).trans H.out.blk, ?_, MapIs.congr HM.out (holdM_congr (fun j f y hj => (cut_all hn j f y hj).symm)), H.out.ne, fun i s hs => ?_, fun i s hs => ?_, H.out.inS, H.out.inT, H.out.inH, fun i s hs => ?_⟩, HMD1.out.trans (HMD.out.mono (fun j hj => .inr hj))⟩
      · refine MapIs.congr (HDM.out.kept (HMD.out.only mt HDM.out.lt H.out.ne)) (fun key v => ?_)
        constructor
        · rintro ⟨i, s, hs, rfl, rfl⟩
          by_cases e : i = id
          · simp [dropT, e] at hs
          · simp [dropT, e] at hs
            exact ⟨by simp [e], i, s, hs, rfl, rfl⟩
        · rintro ⟨hne, i, s, hs, rfl, rfl⟩
          have e : i ≠ id := by rintro rfl; exact hne rfl
          exact ⟨i, s, by simp [dropT, e, hs], rfl, rfl⟩
      all_goals
        by_cases e : i = id
        · simp [dropT, e] at hs
        · simp [dropT, e] at hs
          first
            | exact H.out.rng i s hs
            | exact H.out.inE i s hs
            | (obtain ⟨q1, q2⟩ := H.out.each i s hs
               exact ⟨rowKept q1 (fun k o ek ho => (hold k (ownLt q1 ek) (row_not_map q1 H.out.thg ek) (row_not_map q1 H.out.hold ek)).trans ho), rowKept q2 (fun k o ek ho => (hold k (ownLt q2 ek) (row_not_map q2 H.out.thg ek) (row_not_map q2 H.out.hold ek)).trans ho)⟩)
end
end Go.Proofs.YtbnelaoeblhndaaGreatDoor
