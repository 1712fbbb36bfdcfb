/- Walks of functions that only read: of package rummageref spot, good, at, field; of package rummagelaw pick, same. -/
import Derived.Test.YtbnelaoeblhndaaGreatDoorThDoc
import Derived.Test.YtbnelaoeblhndaaGreatDoorRefMoves2
namespace Go.Proofs.YtbnelaoeblhndaaGreatDoor
open Go.RowKit
set_option maxRecDepth 100000

def valC (v : Doc.Val) : List Value := [.int .i64 v.k, .int .i64 v.n, .string v.s]
def fldC (f : Doc.Fld) : List Value := [.string f.name, .int .i64 f.kind]
def intC (l : List Int) : List Value := l.map (Value.int .i64)
def valsC (l : List Doc.Val) : List Value := l.flatMap valC
def fldsC (l : List Doc.Fld) : List Value := l.flatMap fldC

/-- A slice that reads so: n elements, their cells cs. -/
structure Sl (w : World) (sv : Value) (n : Nat) (cs : List Value) : Prop where
  has : (n = 0 ∧ ∃ a cap, sv = .slice a 0 cap) ∨ (0 < n ∧ ∃ b off cap, sv = .slice (some ⟨b, off, none⟩) n cap ∧ n ≤ cap ∧ b < w.heap.size ∧ ∀ j u, cs[j]? = some u → w.cell? ⟨b, off + j, none⟩ = some u)

theorem Sl.below {w w' : World} {sv : Value} {n : Nat} {cs : List Value} (h : Sl w sv n cs) (hb : Below w.heap.size w w') : Sl w' sv n cs := by
  rcases h.has with h | ⟨h0, b, off, cap, rfl, hc, hl, hr⟩
  · exact ⟨.inl h⟩
  · exact ⟨.inr ⟨h0, b, off, cap, rfl, hc, Nat.lt_of_lt_of_le hl hb.size, fun j u hj => (hb.cell (p := ⟨b, off + j, none⟩) hl).trans (hr j u hj)⟩⟩

/-- The cells of one element of several. -/
theorem flat_at {α : Type} (f : α → List Value) (size : Nat) (hf : ∀ a, (f a).length = size) : ∀ (ls : List α) (j : Nat) (hj : j < ls.length) (c : Nat), c < size → (ls.flatMap f)[j * size + c]? = (f ls[j])[c]? := by
  intro ls
  induction ls with
  | nil => intro j hj; simp at hj
  | cons a r ih =>
    intro j hj c hc
    have ha := hf a
    rw [List.flatMap_cons]
    cases j with
    | zero => rw [List.getElem?_append_left (by omega)]; simp
    | succ j =>
      rw [List.getElem?_append_right (by rw [ha, Nat.succ_mul]; omega)]
      rw [show (j + 1) * size + c - (f a).length = j * size + c by rw [ha, Nat.succ_mul]; omega]
      exact ih j (by simpa using hj) c hc

section
variable {w : World}

set_option maxHeartbeats 2000000 in
theorem rspot_any (sb : Nat) (space : Int) (hsp : w.cell? ⟨sb, 1, none⟩ = some (.int .i64 space)) (l : List Int) (hl : l.length ≤ 9223372036854775807) (sv : Value) (hs : Sl w sv l.length (intC l)) :
    Calls Tryz.prog 137 #[.pointer (some ⟨sb, 0, none⟩), sv] w fun e w' => e = .returned (.bool (Doc.spotB space l)) ∧ w' = w := by
  rcases hs.has with ⟨h0, a, cap, rfl⟩ | ⟨h0, b, off, cap, rfl, hc, hlt, hr⟩
  · obtain rfl := List.eq_nil_of_length_eq_zero h0
    go_enter Tryz.func137, Tryz.ntmps137
    go_wp2_with fail
    go_loop [5] (fun i => i = .int .i64 0) (fun _ => 0)
    case atStart => rfl
    case round =>
      obtain rfl := hrel
      go_wp2_with fail
      go_ret
      exact ⟨by simp [Doc.spotB], rfl⟩
  · have HR : Hid (∀ j u, (intC l)[j]? = some u → w.cell? ⟨b, off + j, none⟩ = some u) := hr
    clear hs hr
    go_enter Tryz.func137, Tryz.ntmps137
    go_wp2_with fail
    go_loop [5] (fun i => ∃ k : Nat, k ≤ l.length ∧ i = .int .i64 k ∧ Hid (∀ j (_ : j < k) (hj : j < l.length), Doc.inSpot l[j] = true)) (fun i => l.length - (intOf i).toNat)
    case atStart => exact ⟨0, Nat.zero_le _, rfl, fun j hj => by omega⟩
    case round =>
      obtain ⟨k, hk, rfl, HB⟩ := hrel
      by_cases hk2 : k < l.length
      · have r0 := HR.out k (.int .i64 l[k]) (by simp [intC, hk2])
        obtain ⟨x, HX⟩ : ∃ x, Hid (x = l[k]) := ⟨l[k], rfl⟩
        rw [← HX.out] at r0
        by_cases hin : Doc.inSpot x = true
        · have hin1 : -1000 ≤ x := by simp [Doc.inSpot] at hin; exact hin.1
          have hin2 : x ≤ 1000 := by simp [Doc.inSpot] at hin; exact hin.2
          have HI : Hid (Doc.inSpot x = true) := hin
          clear hin
          go_wp2_with fail
          go_round
          case rel => exact ⟨k + 1, by omega, by go_num, fun j hj hjl => by
            by_cases h : j = k
            · subst h; rw [← HX.out]; exact HI.out
            · exact HB.out j (by omega) hjl⟩
          case measure => simp [intOf]; omega
        · have HI : Hid (Doc.inSpot x = false) := (show Doc.inSpot x = false by simpa using hin)
          have HF : Hid (Doc.spotB space l = false) := by
            show _ = _
            unfold Doc.spotB
            rw [show l.all Doc.inSpot = false from ?_]
            · rfl
            · rw [List.all_eq_false]
              exact ⟨l[k], List.getElem_mem hk2, by rw [← HX.out, HI.out]; simp⟩
          have hin1 : x < -1000 ∨ (-1000 ≤ x ∧ 1000 < x) := by
            have := HI.out
            simp only [Doc.inSpot, Bool.and_eq_false_iff, decide_eq_false_iff_not] at this
            omega
          clear hin
          rcases hin1 with h1 | ⟨h1, h2⟩
          all_goals
            go_wp2_with fail
            go_ret
            exact ⟨by rw [HF.out]; rfl, rfl⟩
      · obtain rfl : k = l.length := by omega
        have HF : Hid (Doc.spotB space l = ((l.length : Int) == space)) := by
          show _ = _
          unfold Doc.spotB
          rw [show l.all Doc.inSpot = true from ?_]
          · rfl
          · rw [List.all_eq_true]
            intro y hy
            obtain ⟨j, hj, rfl⟩ := List.getElem_of_mem hy
            exact HB.out j hj hj
        go_wp2_with fail
        go_ret
        exact ⟨by rw [HF.out]; rfl, rfl⟩

theorem goodV_of {v : Doc.Val} {kind : Int} {b : Bool} (h : ((v.k == 0 && (v.n == 0 && v.s.toList == [])) || (v.k == 1 && (kind == 1 && v.s.toList == [] && decide (-9999999 ≤ v.n) && decide (v.n ≤ 9999999))) || (v.k == 2 && (kind == 2 && v.n == 0 && decide (v.s.size ≤ 12)))) = b) : b = Doc.goodV v kind := h.symm

set_option maxHeartbeats 4000000 in
theorem good_any (v : Doc.Val) (kind : Int) :
    Calls Tryz.prog 138 #[.agg #[.int .i64 v.k, .int .i64 v.n, .string v.s], .int .i64 kind] w fun e w' => e = .returned (.bool (Doc.goodV v kind)) ∧ Below w.heap.size w w' := by
  have HB : Hid (∀ b, _ → b = Doc.goodV v kind) := fun b h => goodV_of (v := v) (kind := kind) (b := b) h
  generalize Doc.goodV v kind = nb at *
  go_enter Tryz.func138, Tryz.ntmps138
  go_wp2_with fail
  all_goals
    go_ret
    refine ⟨ret_bool (HB.out _ ?_), (Below.refl _ _).alloc (Nat.le_refl _) _⟩
    clear HB
    first | (simp [*]; done) | (simp_all; done) | (simp_all; omega)

def thgC (t : Doc.Thg) (p : Value × Value) : List Value := [.int .i64 t.id, p.1, p.2]
/-- The cells of a row of things; where the spots and the values lie, beside. -/
def thsC : List Doc.Thg → List (Value × Value) → List Value
  | t :: ts, p :: ps => thgC t p ++ thsC ts ps
  | _, _ => []

theorem thsC_at : ∀ (ts : List Doc.Thg) (ps : List (Value × Value)) (_ : ts.length = ps.length) (j : Nat) (hj : j < ts.length) (hp : j < ps.length) (c : Nat), c < 3 → (thsC ts ps)[j * 3 + c]? = (thgC ts[j] ps[j])[c]? := by
  intro ts
  induction ts with
  | nil => intro ps _ j hj; simp at hj
  | cons t ts ih =>
    intro ps hl j hj hp c hc
    cases ps with
    | nil => simp at hp
    | cons p ps =>
      show (thgC t p ++ thsC ts ps)[j * 3 + c]? = _
      cases j with
      | zero => rw [List.getElem?_append_left (by simp [thgC]; omega)]; simp
      | succ j =>
        rw [List.getElem?_append_right (by simp [thgC]; omega)]
        rw [show (j + 1) * 3 + c - (thgC t p).length = j * 3 + c by simp [thgC]; omega]
        exact ih ps (by simpa using hl) j (by simpa using hj) (by simpa using hp) c hc

set_option maxHeartbeats 2000000 in
theorem at_any (sb : Nat) (tv : Value) (htv : w.cell? ⟨sb, 2, none⟩ = some tv) (ts : List Doc.Thg) (ps : List (Value × Value)) (hps : ts.length = ps.length) (hl : ts.length ≤ 9223372036854775807) (hs : Sl w tv ts.length (thsC ts ps)) (id : Int) :
    Calls Tryz.prog 96 #[.pointer (some ⟨sb, 0, none⟩), .int .i64 id] w fun e w' => e = .returned (.int .i64 (Doc.placeI (Doc.idxT ts id))) ∧ w' = w := by
  rcases hs.has with ⟨h0, a, cap, rfl⟩ | ⟨h0, b, off, cap, rfl, hc, hlt, hr⟩
  · obtain rfl := List.eq_nil_of_length_eq_zero h0
    go_enter Tryz.func96, Tryz.ntmps96
    go_wp2_with fail
    go_loop [5] (fun i => i = .int .i64 0) (fun _ => 0)
    case atStart => rfl
    case round =>
      obtain rfl := hrel
      go_wp2_with fail
      go_ret
      exact ⟨rfl, rfl⟩
  · have HR : Hid (∀ j u, (thsC ts ps)[j]? = some u → w.cell? ⟨b, off + j, none⟩ = some u) := hr
    clear hs hr
    go_enter Tryz.func96, Tryz.ntmps96
    go_wp2_with fail
    go_loop [5] (fun i => ∃ k : Nat, k ≤ ts.length ∧ i = .int .i64 k ∧ Hid (∀ j (_ : j < k) (hj : j < ts.length), (ts[j].id == id) = false)) (fun i => ts.length - (intOf i).toNat)
    case atStart => exact ⟨0, Nat.zero_le _, rfl, fun j hj => by omega⟩
    case round =>
      obtain ⟨k, hk, rfl, HB⟩ := hrel
      by_cases hk2 : k < ts.length
      · have r0 := HR.out (k * 3) (.int .i64 ts[k].id) (by rw [show k * 3 = k * 3 + 0 from rfl, thsC_at ts ps hps k hk2 (by omega) 0 (by omega)]; rfl)
        obtain ⟨x, HX⟩ : ∃ x, Hid (x = ts[k].id) := ⟨ts[k].id, rfl⟩
        rw [← HX.out] at r0
        by_cases hin : (x == id) = true
        · have HF : Hid (Doc.idxT ts id = some k) := Doc.idxT_some hk2 (by rw [← HX.out]; exact hin) (fun j hj => HB.out j hj (by omega))
          go_wp2_with fail
          go_ret
          exact ⟨by rw [HF.out]; rfl, rfl⟩
        · have hin : (x == id) = false := by simpa using hin
          have HI : Hid ((x == id) = false) := hin
          go_wp2_with fail
          go_round
          case rel => exact ⟨k + 1, by omega, by go_num, fun j hj hjl => by
            by_cases h : j = k
            · subst h; rw [← HX.out]; exact HI.out
            · exact HB.out j (by omega) hjl⟩
          case measure => simp [intOf]; omega
      · obtain rfl : k = ts.length := by omega
        have HF : Hid (Doc.idxT ts id = none) := Doc.idxT_none (fun j hj => HB.out j hj hj)
        go_wp2_with fail
        go_ret
        exact ⟨by rw [HF.out]; rfl, rfl⟩

theorem fldC_len (f : Doc.Fld) : (fldC f).length = 2 := rfl
theorem valC_len (v : Doc.Val) : (valC v).length = 3 := rfl

set_option maxHeartbeats 2000000 in
theorem field_any (fs : List Doc.Fld) (hl : fs.length ≤ 9223372036854775807) (fv : Value) (hs : Sl w fv fs.length (fldsC fs)) (nm : ByteArray) :
    Calls Tryz.prog 136 #[fv, .string nm] w fun e w' => e = .returned (.int .i64 (Doc.placeI (Doc.idxF fs nm))) ∧ w' = w := by
  rcases hs.has with ⟨h0, a, cap, rfl⟩ | ⟨h0, b, off, cap, rfl, hc, hlt, hr⟩
  · obtain rfl := List.eq_nil_of_length_eq_zero h0
    go_enter Tryz.func136, Tryz.ntmps136
    go_wp2_with fail
    go_loop [5] (fun i => i = .int .i64 0) (fun _ => 0)
    case atStart => rfl
    case round =>
      obtain rfl := hrel
      go_wp2_with fail
      go_ret
      exact ⟨rfl, rfl⟩
  · have HR : Hid (∀ j u, (fldsC fs)[j]? = some u → w.cell? ⟨b, off + j, none⟩ = some u) := hr
    clear hs hr
    go_enter Tryz.func136, Tryz.ntmps136
    go_wp2_with fail
    go_loop [5] (fun i => ∃ k : Nat, k ≤ fs.length ∧ i = .int .i64 k ∧ Hid (∀ j (_ : j < k) (hj : j < fs.length), (fs[j].name.toList == nm.toList) = false)) (fun i => fs.length - (intOf i).toNat)
    case atStart => exact ⟨0, Nat.zero_le _, rfl, fun j hj => by omega⟩
    case round =>
      obtain ⟨k, hk, rfl, HB⟩ := hrel
      by_cases hk2 : k < fs.length
      · have r0 := HR.out (k * 2) (.string fs[k].name) (by unfold fldsC; rw [show k * 2 = k * 2 + 0 from rfl, flat_at fldC 2 fldC_len fs k hk2 0 (by omega)]; rfl)
        obtain ⟨x, HX⟩ : ∃ x, Hid (x = fs[k].name) := ⟨fs[k].name, rfl⟩
        rw [← HX.out] at r0
        by_cases hin : (x.toList == nm.toList) = true
        · have HF : Hid (Doc.idxF fs nm = some k) := Doc.idxF_some hk2 (by rw [← HX.out]; exact hin) (fun j hj => HB.out j hj (by omega))
          go_wp2_with fail
          go_ret
          exact ⟨by rw [HF.out]; rfl, rfl⟩
        · have hin : (x.toList == nm.toList) = false := by simpa using hin
          have HI : Hid ((x.toList == nm.toList) = false) := hin
          go_wp2_with fail
          go_round
          case rel => exact ⟨k + 1, by omega, by go_num, fun j hj hjl => by
            by_cases h : j = k
            · subst h; rw [← HX.out]; exact HI.out
            · exact HB.out j (by omega) hjl⟩
          case measure => simp [intOf]; omega
      · obtain rfl : k = fs.length := by omega
        have HF : Hid (Doc.idxF fs nm = none) := Doc.idxF_none (fun j hj => HB.out j hj hj)
        go_wp2_with fail
        go_ret
        exact ⟨by rw [HF.out]; rfl, rfl⟩
end
end Go.Proofs.YtbnelaoeblhndaaGreatDoor
