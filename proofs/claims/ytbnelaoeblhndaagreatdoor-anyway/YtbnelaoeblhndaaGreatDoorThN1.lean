import Derived.Test.YtbnelaoeblhndaaGreatDoorParse
import Derived.Test.YtbnelaoeblhndaaGreatDoorRefMoves2
import Derived.Maps.AppendAt
import Derived.Deep.RegionWith
import Derived.Deep.DeepCutAuto
/- Stores of things, as the document has them; no program is named here. -/
namespace Go.Proofs.YtbnelaoeblhndaaGreatDoor
namespace Doc

/-- A value: its kind, number, string. -/
structure Val where
  k : Int
  n : Int
  s : ByteArray
/-- A field: its name and kind. -/
structure Fld where
  name : ByteArray
  kind : Int
/-- A thing: its number, spot and values. -/
structure Thg where
  id : Int
  spot : List Int
  vals : List Val

/-- Is a value one that may stand in a field of this kind? -/
def goodV (v : Val) (kind : Int) : Bool :=
  (v.k == 0 && (v.n == 0 && v.s.toList == [])) || (v.k == 1 && (kind == 1 && v.s.toList == [] && decide (-9999999 ≤ v.n) && decide (v.n ≤ 9999999))) || (v.k == 2 && (kind == 2 && v.n == 0 && decide (v.s.size ≤ 12)))

def inSpot (n : Int) : Bool := decide (-1000 ≤ n) && decide (n ≤ 1000)
/-- Are numbers a spot of the space? -/
def spotB (space : Int) (l : List Int) : Bool := l.all inSpot && ((l.length : Int) == space)

/-- Where the first thing of this number stands. -/
def idxT (ths : List Thg) (id : Int) : Option Nat := ths.findIdx? (fun t => t.id == id)
/-- A place as a number; -1 for none. -/
def placeI : Option Nat → Int | some k => k | none => -1

theorem idxT_some {ths : List Thg} {id : Int} {k : Nat} (hk : k < ths.length) (h : (ths[k].id == id) = true) (hb : ∀ j (hj : j < k), (ths[j].id == id) = false) : idxT ths id = some k := by
  unfold idxT
  rw [List.findIdx?_eq_some_iff_getElem]
  exact ⟨hk, h, fun j hj => by rw [hb j hj]; simp⟩
theorem idxT_none {ths : List Thg} {id : Int} (hb : ∀ j (hj : j < ths.length), (ths[j].id == id) = false) : idxT ths id = none := by
  unfold idxT
  rw [List.findIdx?_eq_none_iff]
  intro t ht
  obtain ⟨j, hj, rfl⟩ := List.getElem_of_mem ht
  exact hb j hj

/-- Where the first field of this name stands. -/
def idxF (fs : List Fld) (nm : ByteArray) : Option Nat := fs.findIdx? (fun f => f.name.toList == nm.toList)
theorem idxF_some {fs : List Fld} {nm : ByteArray} {k : Nat} (hk : k < fs.length) (h : (fs[k].name.toList == nm.toList) = true) (hb : ∀ j (hj : j < k), (fs[j].name.toList == nm.toList) = false) : idxF fs nm = some k := by
  unfold idxF
  rw [List.findIdx?_eq_some_iff_getElem]
  exact ⟨hk, h, fun j hj => by rw [hb j hj]; simp⟩
theorem idxF_none {fs : List Fld} {nm : ByteArray} (hb : ∀ j (hj : j < fs.length), (fs[j].name.toList == nm.toList) = false) : idxF fs nm = none := by
  unfold idxF
  rw [List.findIdx?_eq_none_iff]
  intro t ht
  obtain ⟨j, hj, rfl⟩ := List.getElem_of_mem ht
  exact hb j hj
end Doc
end Go.Proofs.YtbnelaoeblhndaaGreatDoor
/- Walks of functions that only read: of package rummageref spot, good, at, field; of package rummagelaw pick, same. -/
namespace Go.Proofs.YtbnelaoeblhndaaGreatDoor
open Go.RowKit
set_option maxRecDepth 100000

def valC (v : Doc.Val) : List Value := [.int .i64 v.k, .int .i64 v.n, .string v.s]
def fldC (f : Doc.Fld) : List Value := [.string f.name, .int .i64 f.kind]
def intC (l : List Int) : List Value := l.map (Value.int .i64)
def valsC (l : List Doc.Val) : List Value := l.flatMap valC
def fldsC (l : List Doc.Fld) : List Value := l.flatMap fldC

/-- A slice that reads so: n elements, their cells cs. -/
structure Sl (w : World) (sv : Value) (n : Nat) (cs : List Value) : Prop where
  has : (n = 0 ∧ ∃ a cap, sv = .slice a 0 cap) ∨ (0 < n ∧ ∃ b off cap, sv = .slice (some ⟨b, off, none⟩) n cap ∧ n ≤ cap ∧ b < w.heap.size ∧ ∀ j u, cs[j]? = some u → w.cell? ⟨b, off + j, none⟩ = some u)

theorem Sl.below {w w' : World} {sv : Value} {n : Nat} {cs : List Value} (h : Sl w sv n cs) (hb : Below w.heap.size w w') : Sl w' sv n cs := by
  rcases h.has with h | ⟨h0, b, off, cap, rfl, hc, hl, hr⟩
  · exact ⟨.inl h⟩
  · exact ⟨.inr ⟨h0, b, off, cap, rfl, hc, Nat.lt_of_lt_of_le hl hb.size, fun j u hj => (hb.cell (p := ⟨b, off + j, none⟩) hl).trans (hr j u hj)⟩⟩

/-- The cells of one element of several. -/
theorem flat_at {α : Type} (f : α → List Value) (size : Nat) (hf : ∀ a, (f a).length = size) : ∀ (ls : List α) (j : Nat) (hj : j < ls.length) (c : Nat), c < size → (ls.flatMap f)[j * size + c]? = (f ls[j])[c]? := by
  intro ls
  induction ls with
  | nil => intro j hj; simp at hj
  | cons a r ih =>
    intro j hj c hc
    have ha := hf a
    rw [List.flatMap_cons]
    cases j with
    | zero => rw [List.getElem?_append_left (by omega)]; simp
    | succ j =>
      rw [List.getElem?_append_right (by rw [ha, Nat.succ_mul]; omega)]
      rw [show (j + 1) * size + c - (f a).length = j * size + c by rw [ha, Nat.succ_mul]; omega]
      exact ih j (by simpa using hj) c hc

section
variable {w : World}

set_option maxHeartbeats 2000000 in
theorem rspot_any (sb : Nat) (space : Int) (hsp : w.cell? ⟨sb, 1, none⟩ = some (.int .i64 space)) (l : List Int) (hl : l.length ≤ 9223372036854775807) (sv : Value) (hs : Sl w sv l.length (intC l)) :
    Calls Tryz.prog 137 #[.pointer (some ⟨sb, 0, none⟩), sv] w fun e w' => e = .returned (.bool (Doc.spotB space l)) ∧ w' = w := by
  rcases hs.has with ⟨h0, a, cap, rfl⟩ | ⟨h0, b, off, cap, rfl, hc, hlt, hr⟩
  · obtain rfl := List.eq_nil_of_length_eq_zero h0
    go_enter Tryz.func137, Tryz.ntmps137
    go_wp2_with fail
    go_loop [5] (fun i => i = .int .i64 0) (fun _ => 0)
    case atStart => rfl
    case round =>
      obtain rfl := hrel
      go_wp2_with fail
      go_ret
      exact ⟨by simp [Doc.spotB], rfl⟩
  · have HR : Hid (∀ j u, (intC l)[j]? = some u → w.cell? ⟨b, off + j, none⟩ = some u) := hr
    clear hs hr
    go_enter Tryz.func137, Tryz.ntmps137
    go_wp2_with fail
    go_loop [5] (fun i => ∃ k : Nat, k ≤ l.length ∧ i = .int .i64 k ∧ Hid (∀ j (_ : j < k) (hj : j < l.length), Doc.inSpot l[j] = true)) (fun i => l.length - (intOf i).toNat)
    case atStart => exact ⟨0, Nat.zero_le _, rfl, fun j hj => by omega⟩
    case round =>
      obtain ⟨k, hk, rfl, HB⟩ := hrel
      by_cases hk2 : k < l.length
      · have r0 := HR.out k (.int .i64 l[k]) (by simp [intC, hk2])
        obtain ⟨x, HX⟩ : ∃ x, Hid (x = l[k]) := ⟨l[k], rfl⟩
        rw [← HX.out] at r0
        by_cases hin : Doc.inSpot x = true
        · have hin1 : -1000 ≤ x := by simp [Doc.inSpot] at hin; exact hin.1
          have hin2 : x ≤ 1000 := by simp [Doc.inSpot] at hin; exact hin.2
          have HI : Hid (Doc.inSpot x = true) := hin
          clear hin
          go_wp2_with fail
          go_round
          case rel => exact ⟨k + 1, by omega, by go_num, fun j hj hjl => by
            by_cases h : j = k
            · subst h; rw [← HX.out]; exact HI.out
            · exact HB.out j (by omega) hjl⟩
          case measure => simp [intOf]; omega
        · have HI : Hid (Doc.inSpot x = false) := (show Doc.inSpot x = false by simpa using hin)
          have HF : Hid (Doc.spotB space l = false) := by
            show _ = _
            unfold Doc.spotB
            rw [show l.all Doc.inSpot = false from ?_]
            · rfl
            · rw [List.all_eq_false]
              exact ⟨l[k], List.getElem_mem hk2, by rw [← HX.out, HI.out]; simp⟩
          have hin1 : x < -1000 ∨ (-1000 ≤ x ∧ 1000 < x) := by
            have := HI.out
            simp only [Doc.inSpot, Bool.and_eq_false_iff, decide_eq_false_iff_not] at this
            omega
          clear hin
          rcases hin1 with h1 | ⟨h1, h2⟩
          all_goals
            go_wp2_with fail
            go_ret
            exact ⟨by rw [HF.out]; rfl, rfl⟩
      · obtain rfl : k = l.length := by omega
        have HF : Hid (Doc.spotB space l = ((l.length : Int) == space)) := by
          show _ = _
          unfold Doc.spotB
          rw [show l.all Doc.inSpot = true from ?_]
          · rfl
          · rw [List.all_eq_true]
            intro y hy
            obtain ⟨j, hj, rfl⟩ := List.getElem_of_mem hy
            exact HB.out j hj hj
        go_wp2_with fail
        go_ret
        exact ⟨by rw [HF.out]; rfl, rfl⟩

theorem goodV_of {v : Doc.Val} {kind : Int} {b : Bool} (h : ((v.k == 0 && (v.n == 0 && v.s.toList == [])) || (v.k == 1 && (kind == 1 && v.s.toList == [] && decide (-9999999 ≤ v.n) && decide (v.n ≤ 9999999))) || (v.k == 2 && (kind == 2 && v.n == 0 && decide (v.s.size ≤ 12)))) = b) : b = Doc.goodV v kind := h.symm

set_option maxHeartbeats 4000000 in
theorem good_any (v : Doc.Val) (kind : Int) :
    Calls Tryz.prog 138 #[.agg #[.int .i64 v.k, .int .i64 v.n, .string v.s], .int .i64 kind] w fun e w' => e = .returned (.bool (Doc.goodV v kind)) ∧ Below w.heap.size w w' := by
  have HB : Hid (∀ b, _ → b = Doc.goodV v kind) := fun b h => goodV_of (v := v) (kind := kind) (b := b) h
  generalize Doc.goodV v kind = nb at *
  go_enter Tryz.func138, Tryz.ntmps138
  go_wp2_with fail
  all_goals
    go_ret
    refine ⟨ret_bool (HB.out _ ?_), (Below.refl _ _).alloc (Nat.le_refl _) _⟩
    clear HB
    first | (simp [*]; done) | (simp_all; done) | (simp_all; omega)

def thgC (t : Doc.Thg) (p : Value × Value) : List Value := [.int .i64 t.id, p.1, p.2]
/-- The cells of a row of things; where the spots and the values lie, beside. -/
def thsC : List Doc.Thg → List (Value × Value) → List Value
  | t :: ts, p :: ps => thgC t p ++ thsC ts ps
  | _, _ => []

theorem thsC_at : ∀ (ts : List Doc.Thg) (ps : List (Value × Value)) (_ : ts.length = ps.length) (j : Nat) (hj : j < ts.length) (hp : j < ps.length) (c : Nat), c < 3 → (thsC ts ps)[j * 3 + c]? = (thgC ts[j] ps[j])[c]? := by
  intro ts
  induction ts with
  | nil => intro ps _ j hj; simp at hj
  | cons t ts ih =>
    intro ps hl j hj hp c hc
    cases ps with
    | nil => simp at hp
    | cons p ps =>
      show (thgC t p ++ thsC ts ps)[j * 3 + c]? = _
      cases j with
      | zero => rw [List.getElem?_append_left (by simp [thgC]; omega)]; simp
      | succ j =>
        rw [List.getElem?_append_right (by simp [thgC]; omega)]
        rw [show (j + 1) * 3 + c - (thgC t p).length = j * 3 + c by simp [thgC]; omega]
        exact ih ps (by simpa using hl) j (by simpa using hj) (by simpa using hp) c hc

set_option maxHeartbeats 2000000 in
theorem at_any (sb : Nat) (tv : Value) (htv : w.cell? ⟨sb, 2, none⟩ = some tv) (ts : List Doc.Thg) (ps : List (Value × Value)) (hps : ts.length = ps.length) (hl : ts.length ≤ 9223372036854775807) (hs : Sl w tv ts.length (thsC ts ps)) (id : Int) :
    Calls Tryz.prog 96 #[.pointer (some ⟨sb, 0, none⟩), .int .i64 id] w fun e w' => e = .returned (.int .i64 (Doc.placeI (Doc.idxT ts id))) ∧ w' = w := by
  rcases hs.has with ⟨h0, a, cap, rfl⟩ | ⟨h0, b, off, cap, rfl, hc, hlt, hr⟩
  · obtain rfl := List.eq_nil_of_length_eq_zero h0
    go_enter Tryz.func96, Tryz.ntmps96
    go_wp2_with fail
    go_loop [5] (fun i => i = .int .i64 0) (fun _ => 0)
    case atStart => rfl
    case round =>
      obtain rfl := hrel
      go_wp2_with fail
      go_ret
      exact ⟨rfl, rfl⟩
  · have HR : Hid (∀ j u, (thsC ts ps)[j]? = some u → w.cell? ⟨b, off + j, none⟩ = some u) := hr
    clear hs hr
    go_enter Tryz.func96, Tryz.ntmps96
    go_wp2_with fail
    go_loop [5] (fun i => ∃ k : Nat, k ≤ ts.length ∧ i = .int .i64 k ∧ Hid (∀ j (_ : j < k) (hj : j < ts.length), (ts[j].id == id) = false)) (fun i => ts.length - (intOf i).toNat)
    case atStart => exact ⟨0, Nat.zero_le _, rfl, fun j hj => by omega⟩
    case round =>
      obtain ⟨k, hk, rfl, HB⟩ := hrel
      by_cases hk2 : k < ts.length
      · have r0 := HR.out (k * 3) (.int .i64 ts[k].id) (by rw [show k * 3 = k * 3 + 0 from rfl, thsC_at ts ps hps k hk2 (by omega) 0 (by omega)]; rfl)
        obtain ⟨x, HX⟩ : ∃ x, Hid (x = ts[k].id) := ⟨ts[k].id, rfl⟩
        rw [← HX.out] at r0
        by_cases hin : (x == id) = true
        · have HF : Hid (Doc.idxT ts id = some k) := Doc.idxT_some hk2 (by rw [← HX.out]; exact hin) (fun j hj => HB.out j hj (by omega))
          go_wp2_with fail
          go_ret
          exact ⟨by rw [HF.out]; rfl, rfl⟩
        · have hin : (x == id) = false := by simpa using hin
          have HI : Hid ((x == id) = false) := hin
          go_wp2_with fail
          go_round
          case rel => exact ⟨k + 1, by omega, by go_num, fun j hj hjl => by
            by_cases h : j = k
            · subst h; rw [← HX.out]; exact HI.out
            · exact HB.out j (by omega) hjl⟩
          case measure => simp [intOf]; omega
      · obtain rfl : k = ts.length := by omega
        have HF : Hid (Doc.idxT ts id = none) := Doc.idxT_none (fun j hj => HB.out j hj hj)
        go_wp2_with fail
        go_ret
        exact ⟨by rw [HF.out]; rfl, rfl⟩

theorem fldC_len (f : Doc.Fld) : (fldC f).length = 2 := rfl
theorem valC_len (v : Doc.Val) : (valC v).length = 3 := rfl

set_option maxHeartbeats 2000000 in
theorem field_any (fs : List Doc.Fld) (hl : fs.length ≤ 9223372036854775807) (fv : Value) (hs : Sl w fv fs.length (fldsC fs)) (nm : ByteArray) :
    Calls Tryz.prog 136 #[fv, .string nm] w fun e w' => e = .returned (.int .i64 (Doc.placeI (Doc.idxF fs nm))) ∧ w' = w := by
  rcases hs.has with ⟨h0, a, cap, rfl⟩ | ⟨h0, b, off, cap, rfl, hc, hlt, hr⟩
  · obtain rfl := List.eq_nil_of_length_eq_zero h0
    go_enter Tryz.func136, Tryz.ntmps136
    go_wp2_with fail
    go_loop [5] (fun i => i = .int .i64 0) (fun _ => 0)
    case atStart => rfl
    case round =>
      obtain rfl := hrel
      go_wp2_with fail
      go_ret
      exact ⟨rfl, rfl⟩
  · have HR : Hid (∀ j u, (fldsC fs)[j]? = some u → w.cell? ⟨b, off + j, none⟩ = some u) := hr
    clear hs hr
    go_enter Tryz.func136, Tryz.ntmps136
    go_wp2_with fail
    go_loop [5] (fun i => ∃ k : Nat, k ≤ fs.length ∧ i = .int .i64 k ∧ Hid (∀ j (_ : j < k) (hj : j < fs.length), (fs[j].name.toList == nm.toList) = false)) (fun i => fs.length - (intOf i).toNat)
    case atStart => exact ⟨0, Nat.zero_le _, rfl, fun j hj => by omega⟩
    case round =>
      obtain ⟨k, hk, rfl, HB⟩ := hrel
      by_cases hk2 : k < fs.length
      · have r0 := HR.out (k * 2) (.string fs[k].name) (by unfold fldsC; rw [show k * 2 = k * 2 + 0 from rfl, flat_at fldC 2 fldC_len fs k hk2 0 (by omega)]; rfl)
        obtain ⟨x, HX⟩ : ∃ x, Hid (x = fs[k].name) := ⟨fs[k].name, rfl⟩
        rw [← HX.out] at r0
        by_cases hin : (x.toList == nm.toList) = true
        · have HF : Hid (Doc.idxF fs nm = some k) := Doc.idxF_some hk2 (by rw [← HX.out]; exact hin) (fun j hj => HB.out j hj (by omega))
          go_wp2_with fail
          go_ret
          exact ⟨by rw [HF.out]; rfl, rfl⟩
        · have hin : (x.toList == nm.toList) = false := by simpa using hin
          have HI : Hid ((x.toList == nm.toList) = false) := hin
          go_wp2_with fail
          go_round
          case rel => exact ⟨k + 1, by omega, by go_num, fun j hj hjl => by
            by_cases h : j = k
            · subst h; rw [← HX.out]; exact HI.out
            · exact HB.out j (by omega) hjl⟩
          case measure => simp [intOf]; omega
      · obtain rfl : k = fs.length := by omega
        have HF : Hid (Doc.idxF fs nm = none) := Doc.idxF_none (fun j hj => HB.out j hj hj)
        go_wp2_with fail
        go_ret
        exact ⟨by rw [HF.out]; rfl, rfl⟩
end
end Go.Proofs.YtbnelaoeblhndaaGreatDoor
/- A store of package rummageref in memory; the walk of its Get. -/
namespace Go.Proofs.YtbnelaoeblhndaaGreatDoor
open Go.RowKit
set_option maxRecDepth 100000

/-- A step that turns no old block but those of F. -/
structure Md (F : Nat → Prop) (w w' : World) : Prop where
  below : Below 0 w w'
  only : ∀ k, k < w.heap.size → ¬ F k → w'.heap[k]? = w.heap[k]?

section
variable {F : Nat → Prop} {a b c w w' : World}
theorem Md.refl (F : Nat → Prop) (w : World) : Md F w w := ⟨Below.refl _ _, fun _ _ _ => rfl⟩
theorem Md.trans (h : Md F a b) (k : Md F b c) : Md F a c := ⟨h.below.trans k.below, fun i hi hf => (k.only i (Nat.lt_of_lt_of_le hi h.below.size) hf).trans (h.only i hi hf)⟩
theorem Md.ofBelow (h : Below w.heap.size w w') : Md F w w' := ⟨h.mono (Nat.zero_le _), fun k hk _ => h.block k hk⟩
theorem Md.alloc (h : Md F a w) (o : Obj) : Md F a (w.alloc o) := h.trans (Md.ofBelow ((Below.refl _ _).alloc (Nat.le_refl _) o))
theorem Md.drew (h : Md F a w) : Md F a w.drew := ⟨h.below.drew, h.only⟩
theorem Md.set (h : Md F a w) {n i : Nat} (u : Value) (hn : F n ∨ a.heap.size ≤ n) : Md F a (w.setCell ⟨n, i, none⟩ u) :=
  ⟨h.below.setCell (p := ⟨n, i, none⟩) (Nat.zero_le _) u, fun k hk hf => (Below.heap_setCell _ _ _ _ (by rintro rfl; rcases hn with hn | hn; exact hf hn; omega)).trans (h.only k hk hf)⟩
theorem Md.grown {row : Option Nat} (h : Md F a w) (hg : w.grownBy w' row) (hr : ∀ k, row = some k → F k ∨ a.heap.size ≤ k) : Md F a w' :=
  ⟨h.below.grown hg (Nat.zero_le _) (fun _ _ => Nat.zero_le _), fun k hk hf => (hg.block k (Nat.lt_of_lt_of_le hk h.below.size) (fun e => by rcases hr k e.symm with h1 | h1; exact hf h1; omega)).trans (h.only k hk hf)⟩
theorem Md.blk (h : Md F w w') {k : Nat} {o : Obj} (hk : w.heap[k]? = some o) (hf : ¬ F k) : w'.heap[k]? = some o := (h.only k (lt_block hk) hf).trans hk
theorem Md.mono {G : Nat → Prop} (h : Md F a w) (hg : ∀ k, F k → G k) : Md G a w := ⟨h.below, fun k hk hf => h.only k hk (fun h => hf (hg k h))⟩
theorem Md.size (h : Md F a w) : a.heap.size ≤ w.heap.size := h.below.size
end

theorem rowSl {w : World} {m e size n : Nat} {v : Value} {cs : List Value} (h : w.ownsRow m e size v n cs) : Sl w v n cs := by
  obtain ⟨hl, h2⟩ := h
  rcases h2 with ⟨rfl, rfl⟩ | ⟨g, cap, cur, rfl, hg, hh, hn, hm, hz, ht⟩
  · exact ⟨.inl ⟨rfl, _, _, rfl⟩⟩
  · by_cases h0 : n = 0
    · subst h0; exact ⟨.inl ⟨rfl, _, _, rfl⟩⟩
    · refine ⟨.inr ⟨by omega, g, 0, cap, rfl, hn, lt_block hh, fun j u hj => ?_⟩⟩
      have hlen : j < cs.length := by
        rw [List.getElem?_eq_some_iff] at hj; exact hj.1
      have h3 : cur[j]? = some u := by
        rw [← ht, List.getElem?_take, if_pos (by omega), Array.getElem?_toList] at hj
        exact hj
      rw [Nat.zero_add]
      exact blk_cell hh j u h3

theorem set_blk' {w : World} {n : Nat} {cs : Array Value} {T : TypeId} {fr : Nat × Nat} (h : w.heap[n]? = some (.cells cs T fr)) (i : Nat) (u : Value) : (w.setCell ⟨n, i, none⟩ u).heap[n]? = some (.cells (cs.setIfInBounds i u) T fr) := by
  simp [World.setCell, Array.getElem?_modify, h]

theorem rowKept {w w' : World} {m e size n : Nat} {v : Value} {cs : List Value} (h : w.ownsRow m e size v n cs) (hk : ∀ k o, v.ownBlock = some k → w.heap[k]? = some o → w'.heap[k]? = some o) : w'.ownsRow m e size v n cs := by
  obtain ⟨h1, h2⟩ := h
  refine ⟨h1, ?_⟩
  rcases h2 with h2 | ⟨g, cap, cur, hv, hg, hh, r⟩
  · exact .inl h2
  · exact .inr ⟨g, cap, cur, hv, hg, hk g _ (by rw [hv]; rfl) hh, r⟩

/-- A store of the document's answer: where its fields, things, spots and values lie, F the blocks that are its own. -/
structure RefAt (w : World) (F : Nat → Prop) (sb : Nat) (fs : List Doc.Fld) (space : Int) (ts : List Doc.Thg) (fv tv : Value) (ps : List (Value × Value)) : Prop where
  blk : w.heap[sb]? = some (.cells #[fv, .int .i64 space, tv] 193 (0, 0))
  fld : w.ownsRow 0 92 2 fv fs.length (fldsC fs)
  thg : w.ownsRow 0 237 3 tv ts.length (thsC ts ps)
  len : ts.length = ps.length
  each : ∀ i (h : i < ts.length) (h' : i < ps.length), w.ownsRow 0 3 1 ps[i].1 ts[i].spot.length (intC ts[i].spot) ∧ w.ownsRow 0 94 3 ps[i].2 ts[i].vals.length (valsC ts[i].vals)
  inS : F sb
  inF : ∀ k, fv.ownBlock = some k → F k
  inT : ∀ k, tv.ownBlock = some k → F k
  inE : ∀ i (h : i < ps.length) k, ps[i].1.ownBlock = some k ∨ ps[i].2.ownBlock = some k → F k

def RefSt (w : World) (F : Nat → Prop) (sb : Nat) (fs : List Doc.Fld) (space : Int) (ts : List Doc.Thg) : Prop := ∃ fv tv ps, RefAt w F sb fs space ts fv tv ps

section
variable {w : World} {F : Nat → Prop} {sb : Nat} {fs : List Doc.Fld} {space : Int} {ts : List Doc.Thg} {fv tv : Value} {ps : List (Value × Value)}

theorem ownLt {w : World} {m e size n : Nat} {v : Value} {cs : List Value} (h : w.ownsRow m e size v n cs) {k : Nat} (hk : v.ownBlock = some k) : k < w.heap.size := by
  obtain ⟨_, h2⟩ := h
  rcases h2 with ⟨rfl, _⟩ | ⟨g, cap, cur, rfl, _, hh, _⟩
  · cases hk
  · cases hk; exact lt_block hh

theorem RefAt.kept {w' : World} {F' : Nat → Prop} (h : RefAt w F sb fs space ts fv tv ps) (hk : ∀ k o, F k → w.heap[k]? = some o → w'.heap[k]? = some o) (hF : ∀ k, F k → k < w.heap.size → F' k) : RefAt w' F' sb fs space ts fv tv ps := by
  refine ⟨hk _ _ h.inS h.blk, rowKept h.fld (fun k o e => hk k o (h.inF k e)), rowKept h.thg (fun k o e => hk k o (h.inT k e)), h.len, fun i hi hi' => ?_, hF _ h.inS (lt_block h.blk), fun k e => hF k (h.inF k e) (ownLt h.fld e), fun k e => hF k (h.inT k e) (ownLt h.thg e), fun i hi k e => ?_⟩
  · obtain ⟨h1, h2⟩ := h.each i hi hi'
    exact ⟨rowKept h1 (fun k o e => hk k o (h.inE i hi' k (.inl e))), rowKept h2 (fun k o e => hk k o (h.inE i hi' k (.inr e)))⟩
  · obtain ⟨h1, h2⟩ := h.each i (by rw [h.len]; exact hi) hi
    refine hF k (h.inE i hi k e) ?_
    rcases e with e | e
    · exact ownLt h1 e
    · exact ownLt h2 e

theorem RefSt.kept {w' : World} {F' : Nat → Prop} (h : RefSt w F sb fs space ts) (hk : ∀ k o, F k → w.heap[k]? = some o → w'.heap[k]? = some o) (hF : ∀ k, F k → k < w.heap.size → F' k) : RefSt w' F' sb fs space ts := by
  obtain ⟨fv, tv, ps, h⟩ := h
  exact ⟨fv, tv, ps, h.kept hk hF⟩

theorem st_cells {w : World} {b : Nat} {c0 c1 c2 : Value} {T : TypeId} (h : w.heap[b]? = some (.cells #[c0, c1, c2] T (0, 0))) :
    w.cell? ⟨b, 0, none⟩ = some c0 ∧ w.cell? ⟨b, 1, none⟩ = some c1 ∧ w.cell? ⟨b, 2, none⟩ = some c2 :=
  ⟨blk_cell h 0 _ rfl, blk_cell h 1 _ rfl, blk_cell h 2 _ rfl⟩

theorem rget_none (h : RefAt w F sb fs space ts fv tv ps) (hl : ts.length ≤ 9223372036854775807) (id : Int) (hn : Doc.idxT ts id = none) :
    Calls Tryz.prog 97 #[.pointer (some ⟨sb, 0, none⟩), .int .i64 id] w fun e w' => e = .returned (.tuple #[.slice none 0 0, .slice none 0 0, .int .i64 4]) ∧ w' = w := by
  obtain ⟨c0, c1, c2⟩ := st_cells h.blk
  have HC : Hid _ := at_any sb tv c2 ts ps h.len hl (rowSl h.thg) id
  have HN : Hid (Doc.idxT ts id = none) := hn
  clear hn
  go_enter Tryz.func97, Tryz.ntmps97
  go_wp2_with fail
  refine Calls.mono HC.out ?_
  rw [HN.out]
  rintro e w1 ⟨rfl, hw⟩
  subst hw
  simp only [Doc.placeI]
  go_wp2_with fail
  go_ret3
  exact ⟨rfl, rfl⟩

set_option maxHeartbeats 2000000 in
theorem rget_some (h : RefAt w F sb fs space ts fv tv ps) (hl : ts.length ≤ 9223372036854775807) (id : Int) (k : Nat) (hn : Doc.idxT ts id = some k) (hk : k < ts.length) (hk' : k < ps.length) :
    Calls Tryz.prog 97 #[.pointer (some ⟨sb, 0, none⟩), .int .i64 id] w fun e w' => e = .returned (.tuple #[ps[k].1, ps[k].2, .int .i64 0]) ∧ Below w.heap.size w w' := by
  obtain ⟨c0, c1, c2⟩ := st_cells h.blk
  have HC : Hid _ := at_any sb tv c2 ts ps h.len hl (rowSl h.thg) id
  have HN : Hid (Doc.idxT ts id = some k) := hn
  rcases (rowSl h.thg).has with ⟨h0, _⟩ | ⟨h0, b, off, cap, rfl, hc, hlt, hr⟩
  · omega
  have r1 := hr (k * 3 + 1) ps[k].1 (by rw [thsC_at ts ps h.len k hk hk' 1 (by omega)]; rfl)
  have r2 := hr (k * 3 + 2) ps[k].2 (by rw [thsC_at ts ps h.len k hk hk' 2 (by omega)]; rfl)
  obtain ⟨e1, e2⟩ := h.each k hk hk'
  obtain ⟨b1, n1, m1, f1⟩ : ∃ b n c, ps[k].1 = .slice b n c := by
    rcases (rowSl e1).has with ⟨_, a, c, e⟩ | ⟨_, b, o, c, e, _⟩ <;> exact ⟨_, _, _, e⟩
  obtain ⟨b2, n2, m2, f2⟩ : ∃ b n c, ps[k].2 = .slice b n c := by
    rcases (rowSl e2).has with ⟨_, a, c, e⟩ | ⟨_, b, o, c, e, _⟩ <;> exact ⟨_, _, _, e⟩
  rw [f1, ← Nat.add_assoc] at r1
  rw [f2, ← Nat.add_assoc] at r2
  rw [f1, f2]
  clear hn hr e1 e2 f1 f2
  go_enter Tryz.func97, Tryz.ntmps97
  go_wp2_with fail
  refine Calls.mono HC.out ?_
  rw [HN.out]
  rintro e w1 ⟨rfl, hw⟩
  subst hw
  simp only [Doc.placeI]
  clear HC
  go_wp2_with fail
  go_region
  all_goals
    go_wp2_with fail
    go_ret3
    exact ⟨rfl, (Below.refl _ _).drew⟩
end
end Go.Proofs.YtbnelaoeblhndaaGreatDoor
/- The walk of Put of package rummageref. -/
namespace Go.Proofs.YtbnelaoeblhndaaGreatDoor
open Go.RowKit
set_option maxRecDepth 100000

theorem Tryz.infoIntT : (Tryz.prog.info? 3).map (fun i => (i.zero, i.size, i.bytes)) = some (some (.int .i64 0), 1, 8) := by kernel_rfl
theorem Tryz.infoValT : (Tryz.prog.info? 94).map (fun i => (i.zero, i.size, i.bytes)) = some (some (.agg #[.int .i64 0, .int .i64 0, .string ⟨#[]⟩]), 3, 32) := by kernel_rfl
theorem Tryz.infoThgT : (Tryz.prog.info? 237).map (fun i => (i.zero, i.size, i.bytes)) = some (some (.agg #[.int .i64 0, .slice none 0 0, .slice none 0 0]), 3, 56) := by kernel_rfl
theorem Tryz.infoFldT : (Tryz.prog.info? 92).map (fun i => (i.zero, i.size, i.bytes)) = some (some (.agg #[.string ⟨#[]⟩, .int .i64 0]), 2, 24) := by kernel_rfl

/-- What Put was given that is wrong as a whole. -/
def Doc.putArg (fs : List Doc.Fld) (space id : Int) (spot : List Int) (vals : List Doc.Val) : Prop :=
  id < 0 ∨ (0 ≤ id ∧ 4095 < id) ∨ (0 ≤ id ∧ id ≤ 4095 ∧ Doc.spotB space spot = false) ∨ (0 ≤ id ∧ id ≤ 4095 ∧ Doc.spotB space spot = true ∧ vals.length ≠ fs.length)

section
variable {w : World} {F : Nat → Prop} {sb : Nat} {fs : List Doc.Fld} {space : Int} {ts : List Doc.Thg} {fv tv : Value} {ps : List (Value × Value)}

theorem row_slice {w : World} {m e size n : Nat} {v : Value} {cs : List Value} (h : w.ownsRow m e size v n cs) : ∃ b c, v = .slice b n c := by
  obtain ⟨_, h2⟩ := h
  rcases h2 with ⟨rfl, rfl⟩ | ⟨g, cap, cur, rfl, _⟩ <;> exact ⟨_, _, rfl⟩
theorem Sl.slice {sv : Value} {n : Nat} {cs : List Value} (h : Sl w sv n cs) : ∃ b c, sv = .slice b n c := by
  rcases h.has with ⟨rfl, a, c, e⟩ | ⟨_, b, o, c, e, _⟩ <;> exact ⟨_, _, e⟩

set_option maxHeartbeats 2000000 in
theorem rput_arg (h : RefAt w F sb fs space ts fv tv ps) (id : Int) (spot : List Int) (vals : List Doc.Val) (sv vv : Value) (hs : Sl w sv spot.length (intC spot)) (hv : Sl w vv vals.length (valsC vals)) (hl : spot.length ≤ 9223372036854775807) (hbad : Doc.putArg fs space id spot vals) :
    Calls Tryz.prog 93 #[.pointer (some ⟨sb, 0, none⟩), .int .i64 id, sv, vv] w fun e w' => e = .returned (.int .i64 1) ∧ w' = w := by
  obtain ⟨c0, c1, c2⟩ := st_cells h.blk
  have HC : Hid _ := rspot_any sb space c1 spot hl sv hs
  obtain ⟨fb, fc, rfl⟩ := row_slice h.fld
  obtain ⟨vb, vc, rfl⟩ := hv.slice
  obtain ⟨sbk, sc, rfl⟩ := hs.slice
  clear hs hv
  obtain ⟨x, HX⟩ : ∃ x, Hid (x = Doc.spotB space spot) := ⟨Doc.spotB space spot, rfl⟩
  unfold Doc.putArg at hbad
  rw [← HX.out] at hbad
  rcases hbad with k1 | ⟨k1, k2⟩ | ⟨k1, k2, k3⟩ | ⟨k1, k2, k3, k4⟩
  all_goals
    go_enter Tryz.func93, Tryz.ntmps93
    go_wp2_with fail
    refine Calls.mono HC.out ?_
    rw [← HX.out]
    rintro e w1 ⟨rfl, hw⟩
    subst hw
    go_wp2_with fail
    all_goals first
      | (go_ret; exact ⟨rfl, rfl⟩)
      | (exfalso; simp_all; done)
      | (exfalso; simp_all; omega)
end
end Go.Proofs.YtbnelaoeblhndaaGreatDoor
