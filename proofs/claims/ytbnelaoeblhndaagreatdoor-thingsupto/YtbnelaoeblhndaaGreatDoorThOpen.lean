/- A script that is handed in, opened. -/
import Derived.Test.YtbnelaoeblhndaaGreatDoorThPlays
import Derived.Deep.Slices
import Derived.ProofKit
namespace Go.Proofs.YtbnelaoeblhndaaGreatDoor
open Go.RowKit Go.ChangeShapes Go.WideShapes
set_option maxRecDepth 100000

theorem list_of {α : Type} {p : Nat → α → Prop} : ∀ (n : Nat), (∀ i, i < n → ∃ a, p i a) → ∃ l : List α, l.length = n ∧ ∀ i (h : i < l.length), p i l[i] := by
  intro n
  induction n with
  | zero => exact fun _ => ⟨[], rfl, fun i h => by simp at h⟩
  | succ n ih =>
    intro h
    obtain ⟨l, hl, hp⟩ := ih (fun i hi => h i (by omega))
    obtain ⟨a, ha⟩ := h n (by omega)
    refine ⟨l ++ [a], by simp [hl], fun i hi => ?_⟩
    by_cases hi' : i < l.length
    · rw [List.getElem_append_left hi']; exact hp i hi'
    · have : i = l.length := by simp at hi; omega
      subst this
      rw [List.getElem_append_right (Nat.le_refl _)]
      simp only [Nat.sub_self, List.getElem_cons_zero]
      rw [hl]; exact ha

section
variable {H : Type} {enc : TypeId × Value → H} {P : Program} {w : World} {sp : Nat → Bool} {held : Bool}

theorem open_list {t e : TypeId} {sz : Nat} (ht : P.underlying t = some (.slice e)) (hsz : P.cellsOf e = sz) (hz : 0 < sz) {fuel : Nat} {sv : Value} {x : DataW H × List MemPlace} (h : DataW.trod enc P w 0 sp held fuel t [sv] = some x)
    {α : Type} (dec : α → List Value) (Q : α → DataW H → Prop) (hdec : ∀ a, (dec a).length = sz)
    (he : ∀ n cs' d pl, DataW.trod enc P w 0 sp held n e cs' = some (d, pl) → ∃ a, cs' = dec a ∧ Q a d) :
    ∃ l : List α, In w sv l.length (l.flatMap dec) ∧ ((x.1 = .nil ∧ l = []) ∨ ∃ elems spare, x.1 = .slice elems spare ∧ elems.length = l.length ∧ ∀ i (h1 : i < l.length) (h2 : i < elems.length), Q l[i] elems[i]) ∧ (0 < l.length → ∀ k, sv.ownBlock = some k → k < w.heap.size) := by
  rcases Go.Deep.open_slice ht h with ⟨hc, rfl⟩ | ⟨a, len, cap, m, n, D, Pl, hc, _, hl, hm, hme, rfl, hel⟩
  · simp only [List.cons.injEq, and_true] at hc
    subst hc
    exact ⟨[], in_nil w, .inl ⟨rfl, rfl⟩, fun h => by simp at h⟩
  · simp only [List.cons.injEq, and_true] at hc
    subst hc
    have hlm : len ≤ m := by rw [hme]; split <;> omega
    obtain ⟨l, hll, hp⟩ := list_of (p := fun i (y : α) => w.cells? 0 (a.add (i * sz)) sz = some (dec y) ∧ Q y (D i)) len (fun i hi => by
      obtain ⟨cs', h1, h2⟩ := hel i (by omega)
      rw [hsz] at h1
      obtain ⟨y, rfl, hq⟩ := he n cs' _ _ h2
      exact ⟨y, h1, hq⟩)
    have hcell : ∀ i (hi : i < l.length) c, c < sz → w.cell? (a.add (i * sz + c)) = (dec l[i])[c]? := fun i hi c hc => by
      have := (World.cells?_some (hp i hi).1).2.2 c hc
      rw [← this, Go.Deep.add_add]
    have hblk : 0 < l.length → a.spot = none ∧ a.block < w.heap.size := fun h0 => by
      have h1 := hcell 0 h0 0 hz
      have hd := hdec l[0]
      rw [List.getElem?_eq_getElem (by omega)] at h1
      have ha0 : a.add 0 = a := by simp [Addr.add]
      simp only [Nat.zero_mul, Nat.zero_add] at h1
      rw [ha0] at h1
      exact ⟨World.cell?_spot h1, World.block_lt_of_cell? w _ h1⟩
    refine ⟨l, ⟨⟨?_⟩, .inr ⟨a, cap, by rw [hll]⟩⟩, .inr ⟨(List.range len).map D, _, rfl, by simp [hll], fun i h1 h2 => ?_⟩, fun h0 k ek => ?_⟩
    · by_cases h0 : l.length = 0
      · exact .inl ⟨h0, some a, cap, by rw [← hll, h0]⟩
      · obtain ⟨hs, hb⟩ := hblk (by omega)
        obtain ⟨b, off, spot⟩ := a
        simp only at hs hb
        subst hs
        refine .inr ⟨by omega, b, off, cap, by rw [hll], by omega, hb, fun j u hj => ?_⟩
        have hfl : (l.flatMap dec).length = l.length * sz := by
          clear hj hcell hp hblk hll h0
          induction l with
          | nil => simp
          | cons y r ih => rw [List.flatMap_cons, List.length_append, ih, hdec, List.length_cons, Nat.succ_mul, Nat.add_comm]
        have hjl : j < l.length * sz := by rw [← hfl]; exact (List.getElem?_eq_some_iff.1 hj).1
        have hi : j / sz < l.length := Nat.div_lt_of_lt_mul (by rw [Nat.mul_comm]; exact hjl)
        have hjd : j / sz * sz + j % sz = j := by rw [Nat.mul_comm]; exact Nat.div_add_mod j sz
        have h1 := hcell (j / sz) hi (j % sz) (Nat.mod_lt _ hz)
        rw [hjd, addr_add2] at h1
        rw [h1, ← flat_at dec sz hdec l (j / sz) hi (j % sz) (Nat.mod_lt _ hz), hjd]
        exact hj
    · have := (hp i h1).2
      simpa using this
    · have := (hblk h0).2
      obtain rfl : a.block = k := by
        have : (Value.slice (some a) len cap).ownBlock = some a.block := rfl
        rw [this] at ek; cases ek; rfl
      exact this

theorem bulk_one (d : DataW H) : 1 ≤ Rows.uptoBulk d := by
  cases d <;> first | (unfold Rows.uptoBulk; omega) | (rename_i l; cases l <;> (unfold Rows.uptoBulk; omega))
theorem bulk_len : ∀ (l : List (DataW H)), l.length ≤ Rows.uptoBulkAll l
  | [] => by simp [Rows.uptoBulkAll]
  | d :: r => by
    have h1 := bulk_one d
    have h2 := bulk_len r
    simp only [Rows.uptoBulkAll, List.length_cons]
    omega
theorem bulk_mem {d : DataW H} : ∀ {l : List (DataW H)}, d ∈ l → Rows.uptoBulk d ≤ Rows.uptoBulkAll l
  | [], h => by cases h
  | x :: r, h => by
    simp only [Rows.uptoBulkAll]
    rcases List.mem_cons.1 h with rfl | h
    · omega
    · have := bulk_mem h; omega
theorem wf_i64 {n : Int} (h : (Lit.int .i64 n).wf = true) : -9223372036854775808 ≤ n ∧ n ≤ 9223372036854775807 := by
  simpa [Lit.wf, IntKind.min, IntKind.max, IntKind.signed, IntKind.bits] using h
theorem Tryz.cInt : Tryz.prog.cellsOf 3 = 1 := by kernel_rfl
theorem Tryz.cStr : Tryz.prog.cellsOf 9 = 1 := by kernel_rfl
theorem Tryz.cFld : Tryz.prog.cellsOf 92 = 2 := by kernel_rfl
theorem Tryz.cVal : Tryz.prog.cellsOf 94 = 3 := by kernel_rfl
theorem Tryz.cStep : Tryz.prog.cellsOf 87 = 7 := by kernel_rfl
theorem Tryz.cFs : Tryz.prog.cellsOf 85 = 1 := by kernel_rfl
theorem Tryz.cIs : Tryz.prog.cellsOf 33 = 1 := by kernel_rfl
theorem Tryz.cVs : Tryz.prog.cellsOf 55 = 1 := by kernel_rfl

theorem drop_take_one {cs : List Value} {i : Nat} {v : Value} (h : (cs.drop i).take 1 = [v]) : cs[i]? = some v := by
  have := congrArg (fun l => l[0]?) h
  simpa using this

theorem open_fld {n : Nat} {cs : List Value} {d : DataW H} {pl : List MemPlace} (h : DataW.trod enc Tryz.prog w 0 sp held n 92 cs = some (d, pl)) : ∃ f : Doc.Fld, cs = fldC f ∧ f.name.size ≤ Rows.uptoBulk d := by
  obtain ⟨xs, m, _, hx, hcl, hxl, hf⟩ := DataW.trod_struct Tryz.underlying92 h
  rw [Tryz.cFld] at hcl
  have hl : xs.length = 2 := hxl
  have g0 := hf 0 _ rfl
  have g1 := hf 1 _ rfl
  rw [List.getElem?_eq_getElem (by omega)] at g0 g1
  obtain ⟨s, e0, hd0, _⟩ := DataW.trod_string Tryz.underlying9 g0
  obtain ⟨k, e1, _, _⟩ := DataW.trod_int Tryz.underlying3 g1
  have e0 := drop_take_one e0
  have e1 := drop_take_one e1
  have hs : s.size ≤ Rows.uptoBulk d := by
    have hd : d = .agg (xs.map (·.1)) := congrArg Prod.fst hx
    have := bulk_mem (H := H) (d := xs[0].1) (l := xs.map (·.1)) (List.mem_map.2 ⟨xs[0], List.getElem_mem _, rfl⟩)
    rw [hd]
    rw [hd0] at this
    simp only [Rows.uptoBulk, Array.length_toList] at this ⊢
    have hz : s.size = s.data.size := rfl
    omega
  refine ⟨⟨s, k⟩, ?_, hs⟩
  match cs, hcl, e0, e1 with
  | [x, y], _, e0, e1 => simp at e0 e1; subst e0 e1; rfl

theorem open_val {n : Nat} {cs : List Value} {d : DataW H} {pl : List MemPlace} (h : DataW.trod enc Tryz.prog w 0 sp held n 94 cs = some (d, pl)) : ∃ v : Doc.Val, cs = valC v := by
  obtain ⟨xs, m, _, hx, hcl, hxl, hf⟩ := DataW.trod_struct Tryz.underlying94 h
  rw [Tryz.cVal] at hcl
  have hl : xs.length = 3 := hxl
  have g0 := hf 0 _ rfl
  have g1 := hf 1 _ rfl
  have g2 := hf 2 _ rfl
  rw [List.getElem?_eq_getElem (by omega)] at g0 g1 g2
  obtain ⟨k, e0, _, _⟩ := DataW.trod_int Tryz.underlying3 g0
  obtain ⟨n', e1, _, _⟩ := DataW.trod_int Tryz.underlying3 g1
  obtain ⟨s, e2, _, _⟩ := DataW.trod_string Tryz.underlying9 g2
  have e0 := drop_take_one e0
  have e1 := drop_take_one e1
  have e2 := drop_take_one e2
  refine ⟨⟨k, n', s⟩, ?_⟩
  match cs, hcl, e0, e1, e2 with
  | [x, y, z], _, e0, e1, e2 => simp at e0 e1 e2; subst e0 e1 e2; rfl

/-- A step, opened. -/
theorem open_step {n : Nat} {cs : List Value} {d : DataW H} {pl : List MemPlace} (h : DataW.trod enc Tryz.prog w 0 sp held n 87 cs = some (d, pl)) :
    ∃ s : StepD, cs = stepC s ∧ (Rows.uptoBulk d ≤ 1048576 → StepOk w s) := by
  obtain ⟨xs, m, _, hx, hcl, hxl, hf⟩ := DataW.trod_struct Tryz.underlying87 h
  rw [Tryz.cStep] at hcl
  have hl : xs.length = 7 := hxl
  have g0 := hf 0 _ rfl
  have g1 := hf 1 _ rfl
  have g2 := hf 2 _ rfl
  have g3 := hf 3 _ rfl
  have g4 := hf 4 _ rfl
  have g5 := hf 5 _ rfl
  have g6 := hf 6 _ rfl
  rw [List.getElem?_eq_getElem (by omega)] at g0 g1 g2 g3 g4 g5 g6
  obtain ⟨k, e0, _, _⟩ := DataW.trod_int Tryz.underlying3 g0
  obtain ⟨e, e1, _, w1⟩ := DataW.trod_int Tryz.underlying3 g1
  obtain ⟨a, e2, _, w2⟩ := DataW.trod_int Tryz.underlying3 g2
  obtain ⟨s, e3, _, _⟩ := DataW.trod_string Tryz.underlying9 g3
  have y0 := drop_take_one e0
  have y1 := drop_take_one e1
  have y2 := drop_take_one e2
  have y3 := drop_take_one e3
  clear e0 e1 e2 e3
  obtain ⟨c0, c1, c2, c3, c4, c5, c6, rfl⟩ : ∃ c0 c1 c2 c3 c4 c5 c6, cs = [c0, c1, c2, c3, c4, c5, c6] := by
    match cs, hcl with
    | [c0, c1, c2, c3, c4, c5, c6], _ => exact ⟨_, _, _, _, _, _, _, rfl⟩
  simp at y0 y1 y2 y3
  subst y0 y1 y2 y3
  have g4' : DataW.trod enc Tryz.prog w 0 sp held m 85 [c4] = some xs[4] := by simpa [Tryz.cFs] using g4
  have g5' : DataW.trod enc Tryz.prog w 0 sp held m 33 [c5] = some xs[5] := by simpa [Tryz.cIs] using g5
  have g6' : DataW.trod enc Tryz.prog w 0 sp held m 55 [c6] = some xs[6] := by simpa [Tryz.cVs] using g6
  obtain ⟨fs, i4, q4, _⟩ := open_list Tryz.underlying85 Tryz.cFld (by decide) g4' fldC (fun f d => f.name.size ≤ Rows.uptoBulk d) fldC_len (fun n cs' d pl h => open_fld h)
  obtain ⟨is, i5, q5, b5⟩ := open_list Tryz.underlying33 Tryz.cInt (by decide) g5' (fun n : Int => [Value.int .i64 n]) (fun _ _ => True) (fun _ => rfl) (fun n cs' d pl h => by
    obtain ⟨z, rfl, _, _⟩ := DataW.trod_int Tryz.underlying3 h
    exact ⟨z, rfl, trivial⟩)
  obtain ⟨vs, i6, q6, b6⟩ := open_list Tryz.underlying55 Tryz.cVal (by decide) g6' valC (fun _ _ => True) valC_len (fun n cs' d pl h => by
    obtain ⟨v, rfl⟩ := open_val h
    exact ⟨v, rfl, trivial⟩)
  refine ⟨⟨k, e, a, s, fs, c4, is, c5, vs, c6⟩, rfl, fun hb => ?_⟩
  have hint : is.flatMap (fun n : Int => [Value.int .i64 n]) = intC is := by
    clear i5 q5 b5
    induction is with
    | nil => rfl
    | cons z r ih => rw [List.flatMap_cons, ih]; rfl
  rw [hint] at i5
  have hd : d = .agg (xs.map (·.1)) := congrArg Prod.fst hx
  subst hd
  have part : ∀ i (hi : i < xs.length), Rows.uptoBulk xs[i].1 ≤ 1048576 := fun i hi => by
    have := bulk_mem (H := H) (d := xs[i].1) (l := xs.map (·.1)) (List.mem_map.2 ⟨xs[i], List.getElem_mem hi, rfl⟩)
    simp only [Rows.uptoBulk] at hb
    omega
  have len : ∀ {β : Type} {l : List β} {y : DataW H}, Rows.uptoBulk y ≤ 1048576 → ((y = .nil ∧ l = []) ∨ ∃ elems spare, y = .slice elems spare ∧ elems.length = l.length) → l.length ≤ 1048576 := by
    intro β l y hy hq
    rcases hq with ⟨_, rfl⟩ | ⟨elems, spare, rfl, hl⟩
    · simp
    · have := bulk_len elems
      simp only [Rows.uptoBulk] at hy
      omega
  have l4 := len (part 4 (by omega)) (q4.imp id fun ⟨e, s, h, hl, _⟩ => ⟨e, s, h, hl⟩)
  have l5 := len (part 5 (by omega)) (q5.imp id fun ⟨e, s, h, hl, _⟩ => ⟨e, s, h, hl⟩)
  have l6 := len (part 6 (by omega)) (q6.imp id fun ⟨e, s, h, hl, _⟩ => ⟨e, s, h, hl⟩)
  refine ⟨(wf_i64 w1).1, (wf_i64 w1).2, (wf_i64 w2).1, (wf_i64 w2).2, fun j hj => ?_, by show fs.length ≤ _; omega, by show is.length ≤ _; omega, by show vs.length ≤ _; omega, i4, i5, i6, b5, b6⟩
  rcases q4 with ⟨_, rfl⟩ | ⟨elems, spare, he4, hl', hq⟩
  · simp at hj
  · have hje : j < elems.length := by rw [hl']; exact hj
    have h1 := hq j hj hje
    have h2 := bulk_mem (List.getElem_mem hje)
    have h3 := part 4 (by omega)
    rw [he4] at h3
    simp only [Rows.uptoBulk] at h3
    show fs[j].name.size ≤ 140737488351232
    omega

/-- A script, opened. -/
theorem open_script {fuel : Nat} {sv : Value} {x : DataW H × List MemPlace} (h : DataW.trod enc Tryz.prog w 0 sp held fuel 29 [sv] = some x) (hb : Rows.uptoBulk x.1 ≤ 1048576) :
    ∃ ds : List StepD, ds.length ≤ 2000000 ∧ Sl w sv ds.length (ds.flatMap stepC) ∧ ∀ j (h : j < ds.length), StepOk w ds[j] := by
  obtain ⟨ds, i0, q0, _⟩ := open_list Tryz.underlying29 Tryz.cStep (by decide) h stepC (fun s d => Rows.uptoBulk d ≤ 1048576 → StepOk w s) (fun _ => rfl) (fun n cs' d pl h => open_step h)
  refine ⟨ds, ?_, i0.sl, fun j hj => ?_⟩
  · rcases q0 with ⟨_, rfl⟩ | ⟨elems, spare, hx, hl, _⟩
    · simp
    · have := bulk_len elems
      rw [hx] at hb
      simp only [Rows.uptoBulk] at hb
      omega
  · rcases q0 with ⟨_, rfl⟩ | ⟨elems, spare, hx, hl, hq⟩
    · simp at hj
    · have hje : j < elems.length := by rw [hl]; exact hj
      refine hq j hj hje ?_
      have := bulk_mem (List.getElem_mem hje)
      rw [hx] at hb
      simp only [Rows.uptoBulk] at hb
      omega
end
end Go.Proofs.YtbnelaoeblhndaaGreatDoor
