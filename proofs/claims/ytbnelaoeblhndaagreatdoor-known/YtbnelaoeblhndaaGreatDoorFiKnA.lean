import Derived.Test.YtbnelaoeblhndaaGreatDoorFiM6
import Derived.Test.YtbnelaoeblhndaaGreatDoorFiM5
/- The walk of the statements' shown, where a thing is gone; what the sixteen tests say. -/
namespace Go.Proofs.YtbnelaoeblhndaaGreatDoor
open Go.RowKit
set_option maxRecDepth 100000

namespace Doc
/-- What the sixteen tests say of a thing. -/
def told (x y : Val) : List Bool := (List.range 16).map fun c => (eval fsK [x, y] (testB c)).1
theorem told_at (x y : Val) (c : Nat) (h : c < 16) : (told x y)[c]? = some (eval fsK [x, y] (testB c)).1 := by
  unfold told
  rw [List.getElem?_map, List.getElem?_range h]
  rfl
theorem xs_one {x : Val} (h : x ∈ xsK) : x = ⟨0, 0, ⟨#[]⟩⟩ ∨ x = ⟨1, -3, ⟨#[]⟩⟩ ∨ x = ⟨1, -2, ⟨#[]⟩⟩ ∨ x = ⟨1, -1, ⟨#[]⟩⟩ ∨ x = ⟨1, 0, ⟨#[]⟩⟩ ∨ x = ⟨1, 1, ⟨#[]⟩⟩ ∨ x = ⟨1, 2, ⟨#[]⟩⟩ ∨ x = ⟨1, 3, ⟨#[]⟩⟩ := by
  have e : xsK = [⟨0, 0, ⟨#[]⟩⟩, ⟨1, -3, ⟨#[]⟩⟩, ⟨1, -2, ⟨#[]⟩⟩, ⟨1, -1, ⟨#[]⟩⟩, ⟨1, 0, ⟨#[]⟩⟩, ⟨1, 1, ⟨#[]⟩⟩, ⟨1, 2, ⟨#[]⟩⟩, ⟨1, 3, ⟨#[]⟩⟩] := rfl
  rw [e] at h
  simpa only [List.mem_cons, List.not_mem_nil, or_false] using h
theorem ys_one {y : Val} (h : y ∈ ysK) : y = ⟨0, 0, ⟨#[]⟩⟩ ∨ y = ⟨2, 0, sixS 0⟩ ∨ y = ⟨2, 0, sixS 1⟩ ∨ y = ⟨2, 0, sixS 2⟩ ∨ y = ⟨2, 0, sixS 3⟩ ∨ y = ⟨2, 0, sixS 4⟩ ∨ y = ⟨2, 0, sixS 5⟩ := by
  have e : ysK = [⟨0, 0, ⟨#[]⟩⟩, ⟨2, 0, sixS 0⟩, ⟨2, 0, sixS 1⟩, ⟨2, 0, sixS 2⟩, ⟨2, 0, sixS 3⟩, ⟨2, 0, sixS 4⟩, ⟨2, 0, sixS 5⟩] := rfl
  rw [e] at h
  simpa only [List.mem_cons, List.not_mem_nil, or_false] using h
theorem idK_lt (t : Raw) : idK t < 4096 := by
  have := pickN_lt t.i (n := 40) (by decide)
  unfold idK
  omega
end Doc

section
variable {w : World} {F : Nat → Prop} {sb : Nat} {th : Has}
theorem shown_gone (h : ProgSt w F sb Doc.fsK 2 th) (hL : LaidF w) (ho : OfK th) (t : Doc.Raw) (h64 : Raw64 t) (hn : th (Doc.idK t : Int) = none) :
    Calls Tryz.prog 23 #[.pointer (some ⟨sb, 0, none⟩), .agg #[.int .i64 t.i, .int .i64 t.x, .int .i64 t.y, .int .i64 t.n, .int .i64 t.s], .bool true] w fun e w' => e = .returned (.bool true) ∧ Below w.heap.size w w' := by
  have HLW : Hid (∀ W : World, Below w.heap.size w W → LaidF W ∧ ProgSt W F sb Doc.fsK 2 th) := fun W hW => ⟨hL.below hW hL.g1 hL.g2, h.kept (fun k hk hl => hW.block k hl) (fun k hk _ => hk)⟩
  have HID : Hid (∀ W : World, Calls Tryz.prog 21 #[.agg #[.int .i64 t.i, .int .i64 t.x, .int .i64 t.y, .int .i64 t.n, .int .i64 t.s]] W fun e w' => e = .returned (.int .i64 (Doc.idK t : Nat)) ∧ Below W.heap.size W w') := fun W => kid_any t.i t.x t.y t.n t.s h64.1.1 h64.1.2
  obtain ⟨n, HN⟩ : ∃ n : Nat, Hid (Doc.idK t = n) := ⟨_, rfl⟩
  have hnl : n < 4096 := by rw [← HN.out]; exact Doc.idK_lt t
  rw [HN.out] at HID hn
  have HG : Hid (∀ W : World, Below w.heap.size w W → Calls Tryz.prog 32 #[.pointer (some ⟨sb, 0, none⟩), .int .i64 (n : Int)] W fun e w' => e = .returned (.tuple #[.slice none 0 0, .slice none 0 0, .int .i64 4]) ∧ Below W.heap.size W w') := fun W hW => by
    obtain ⟨a, b, c, d, e, hp⟩ := (HLW.out W hW).2
    exact pget_none hp n (by omega) (by omega) hn
  have HB0 : Hid (∀ ob : Obj, Below w.heap.size w (w.alloc ob)) := fun ob => (Below.refl _ _).alloc (Nat.le_refl _) ob
  have HOF : Hid _ := ho
  clear h hL h64 ho
  go_enter Tryz.func23, Tryz.ntmps23
  go_wp2_with fail
  refine Calls.mono (HID.out _) ?_
  rintro e w1 ⟨rfl, hb1⟩
  have HB1 : Hid (Below w.heap.size w w1) := (HB0.out _).trans (hb1.mono (HB0.out _).size)
  clear hb1
  go_wp2_with fail
  refine Calls.mono (HG.out _ HB1.out) ?_
  rintro e w2 ⟨rfl, hb2⟩
  have HB2 : Hid (Below w.heap.size w w2) := HB1.out.trans (hb2.mono HB1.out.size)
  clear hb2
  go_wp2_with fail
  refine Calls.mono (kall_any (HLW.out _ HB2.out).2 (HLW.out _ HB2.out).1) ?_
  rintro e w3 ⟨v, ys, rfl, hy, hs, hb3⟩
  obtain ⟨c, d, hv⟩ := hs.slice
  subst hv
  have HB3 : Hid (Below w.heap.size w w3) := HB2.out.trans (hb3.mono HB2.out.size)
  have HI : Hid (Calls Tryz.prog 26 #[.slice c (nums ys).length d, .int .i64 (n : Int)] w3 fun e w' => e = .returned (.bool false) ∧ Below w3.heap.size w3 w') := by
    have h1 := kin_any ((nums ys).map Int.ofNat) (by have := nums_short ys; simp; omega) (.slice c (nums ys).length d) (by rw [List.length_map]; exact hs) (n : Int)
    rw [any_false (fun hb => by
      have hm := mem_nums.1 hb
      have e1 := (hy n hm.1).symm.trans hm.2
      rw [all_says HOF.out n, hn] at e1
      cases e1)] at h1
    exact h1
  clear hb3 hy hs
  go_wp2_with fail
  refine Calls.mono HI.out ?_
  rintro e w4 ⟨rfl, hb4⟩
  have HB4 : Hid (Below w.heap.size w w4) := HB3.out.trans (hb4.mono HB3.out.size)
  clear hb4
  go_wp2_with fail
  all_goals go_ret
  all_goals exact ⟨rfl, HB4.out⟩
end
end Go.Proofs.YtbnelaoeblhndaaGreatDoor
/- Of the things that were put one behind the other: the last of a number stands. -/
namespace Go.Proofs.YtbnelaoeblhndaaGreatDoor
set_option maxRecDepth 100000

theorem putsK_step (L : List Doc.Raw) (m : Nat) (h : m < L.length) : putsK (L.take (m + 1)) = putT (putsK (L.take m)) (Doc.idK L[m] : Int) (Doc.thingK L[m]) := by
  rw [List.take_add_one, List.getElem?_eq_getElem h, Option.toList_some]
  unfold putsK
  rw [List.foldl_append]
  rfl
/-- Behind m puts the thing number j stands, where no later one of them has its number. -/
theorem putsK_lastAt (L : List Doc.Raw) (j : Nat) (hj : j < L.length) : ∀ m, j < m → m ≤ L.length → (∀ k (h : k < L.length), j < k → k < m → Doc.idK L[k] ≠ Doc.idK L[j]) → putsK (L.take m) (Doc.idK L[j] : Int) = some (Doc.thingK L[j])
  | 0, h, _, _ => by omega
  | m + 1, h, hm, hk => by
    rw [putsK_step L m (by omega)]
    unfold putT
    by_cases e : j = m
    · subst e; rw [if_pos rfl]
    · have hne : Doc.idK L[m] ≠ Doc.idK L[j] := hk m (by omega) (by omega) (by omega)
      rw [if_neg (by omega)]
      exact putsK_lastAt L j hj m (by omega) (by omega) (fun k h h1 h2 => hk k h h1 (by omega))
theorem putsK_someAt (L : List Doc.Raw) (j : Nat) (hj : j < L.length) : ∀ m, j < m → m ≤ L.length → ∃ t, putsK (L.take m) (Doc.idK L[j] : Int) = some t
  | 0, h, _ => by omega
  | m + 1, h, hm => by
    rw [putsK_step L m (by omega)]
    unfold putT
    by_cases e : (Doc.idK L[j] : Int) = (Doc.idK L[m] : Int)
    · rw [if_pos e]; exact ⟨_, rfl⟩
    · rw [if_neg e]
      have : j ≠ m := fun e2 => e (by subst e2; rfl)
      exact putsK_someAt L j hj m (by omega) (by omega)
theorem idK_ne (t : Doc.Raw) : (Doc.idK t : Int) ≠ 4000 := by
  unfold Doc.idK
  omega
theorem storeK_id (L : List Doc.Raw) (t : Doc.Raw) : storeK L (Doc.idK t : Int) = putsK L (Doc.idK t : Int) := by
  unfold storeK putT
  rw [if_neg (idK_ne t)]
theorem storeK_last (L : List Doc.Raw) (j : Nat) (hj : j < L.length) (hk : ∀ k (h : k < L.length), j < k → Doc.idK L[k] ≠ Doc.idK L[j]) : storeK L (Doc.idK L[j] : Int) = some (Doc.thingK L[j]) := by
  have h := putsK_lastAt L j hj L.length hj (Nat.le_refl _) (fun k h h1 _ => hk k h h1)
  rw [List.take_length] at h
  rw [storeK_id, h]
theorem storeK_some (L : List Doc.Raw) (j : Nat) (hj : j < L.length) : ∃ t, storeK L (Doc.idK L[j] : Int) = some t := by
  have h := putsK_someAt L j hj L.length hj (Nat.le_refl _)
  rw [List.take_length] at h
  rw [storeK_id]
  exact h
theorem OfK.drop {th : Has} (h : OfK th) (id : Int) : OfK (dropT th id) := fun i t e => by
  unfold dropT at e
  by_cases hi : i = id
  · rw [if_pos hi] at e; cases e
  · rw [if_neg hi] at e; exact h i t e
theorem dropK_at (th : Has) (id : Int) : dropT th id id = none := by unfold dropT; rw [if_pos rfl]
theorem dropK_ne (th : Has) {id i : Int} (h : i ≠ id) : dropT th id i = th i := by unfold dropT; rw [if_neg h]

/-- No later thing has the number of this one, as far as looked. -/
def lastB (L : List Doc.Raw) (j k : Nat) : Prop := ∀ i (h : i < L.length) (hj : j < L.length), j < i → i < k → Doc.idK L[i] ≠ Doc.idK L[j]
end Go.Proofs.YtbnelaoeblhndaaGreatDoor
