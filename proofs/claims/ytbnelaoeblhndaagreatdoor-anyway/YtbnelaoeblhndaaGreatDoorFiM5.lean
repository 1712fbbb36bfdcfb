import Derived.Test.YtbnelaoeblhndaaGreatDoorFiM4
/- The pairs of filters of the statement Alike: reckoned; and the walk of number. -/
namespace Go.Proofs.YtbnelaoeblhndaaGreatDoor
open Go.RowKit
set_option maxRecDepth 100000

namespace Doc
/-- A number from -4 to 4 in digits. -/
def numS : Nat → ByteArray
  | 0 => ⟨#[45, 52]⟩
  | 1 => ⟨#[45, 51]⟩
  | 2 => ⟨#[45, 50]⟩
  | 3 => ⟨#[45, 49]⟩
  | 4 => ⟨#[48]⟩
  | 5 => ⟨#[49]⟩
  | 6 => ⟨#[50]⟩
  | 7 => ⟨#[51]⟩
  | _ => ⟨#[52]⟩
/-- The sixteen filters. -/
def pairS (a b : ByteArray) : Nat → ByteArray
  | 0 => ⟨#[110, 32, 105, 110, 32, 40]⟩ ++ a ++ ⟨#[44, 32]⟩ ++ b ++ ⟨#[41]⟩
  | 1 => ⟨#[110, 32, 61, 32]⟩ ++ a ++ ⟨#[32, 111, 114, 32, 110, 32, 61, 32]⟩ ++ b
  | 2 => ⟨#[110, 32, 33, 61, 32]⟩ ++ a
  | 3 => ⟨#[110, 111, 116, 32, 110, 32, 61, 32]⟩ ++ a
  | 4 => ⟨#[110, 32, 60, 61, 32]⟩ ++ a
  | 5 => ⟨#[110, 32, 60, 32]⟩ ++ a ++ ⟨#[32, 111, 114, 32, 110, 32, 61, 32]⟩ ++ a
  | 6 => ⟨#[110, 32, 62, 32]⟩ ++ a
  | 7 => ⟨#[110, 111, 116, 32, 110, 32, 60, 61, 32]⟩ ++ a
  | 8 => ⟨#[110, 32, 62, 61, 32]⟩ ++ a ++ ⟨#[32, 97, 110, 100, 32, 110, 32, 60, 61, 32]⟩ ++ b
  | 9 => ⟨#[110, 111, 116, 32, 40, 110, 32, 60, 32]⟩ ++ a ++ ⟨#[32, 111, 114, 32, 110, 32, 62, 32]⟩ ++ b ++ ⟨#[41]⟩
  | 10 => ⟨#[115, 32, 108, 105, 107, 101, 32, 34, 34]⟩
  | 11 => ⟨#[110, 111, 116, 32, 115, 32, 105, 115, 32, 110, 117, 108, 108]⟩
  | 12 => ⟨#[115, 32, 62, 32, 34, 97, 34, 32, 97, 110, 100, 32, 115, 32, 60, 32, 34, 98, 34]⟩
  | 13 => ⟨#[115, 32, 108, 105, 107, 101, 32, 34, 97, 34, 32, 97, 110, 100, 32, 115, 32, 33, 61, 32, 34, 97, 34]⟩
  | 14 => ⟨#[110, 32, 105, 115, 32, 110, 117, 108, 108, 32, 111, 114, 32, 110, 32, 61, 32]⟩ ++ a
  | _ => ⟨#[110, 111, 116, 32, 110, 32, 33, 61, 32]⟩ ++ a ++ ⟨#[32, 111, 114, 32, 110, 32, 105, 115, 32, 110, 117, 108, 108]⟩
/-- The values that a statement's things have. -/
def xsK : List Val := nullV :: (List.range 7).map (fun k : Nat => ⟨1, (k : Int) - 3, ⟨#[]⟩⟩)
def ysK : List Val := nullV :: (List.range 6).map (fun k => ⟨2, 0, sixS k⟩)
/-- Is a text let in? -/
def readB (s : ByteArray) : Bool := match parse (toks s 0) with
  | .ok a _ => decide (s.size ≤ 200) && ((check fsK a).1 == 0 && (check fsK a).2 == 0)
  | .err _ _ => false
/-- Do two texts find the same, of whatever a thing has? -/
def sameB (s t : ByteArray) : Bool := match parse (toks s 0), parse (toks t 0) with
  | .ok a _, .ok b _ => xsK.all fun x => ysK.all fun y => (eval fsK [x, y] a).1 == (eval fsK [x, y] b).1
  | _, _ => false
def alikeB (r q j : Nat) : Bool := readB (pairS (numS r) (numS q) (2 * j)) && readB (pairS (numS r) (numS q) (2 * j + 1)) && sameB (pairS (numS r) (numS q) (2 * j)) (pairS (numS r) (numS q) (2 * j + 1))
theorem alike_0 : ((List.range 9).all fun r => (List.range 9).all fun q => alikeB r q 0) = true := by kernel_rfl
theorem alike_1 : ((List.range 9).all fun r => alikeB r 0 1) = true := by kernel_rfl
theorem alike_2 : ((List.range 9).all fun r => alikeB r 0 2) = true := by kernel_rfl
theorem alike_3 : ((List.range 9).all fun r => alikeB r 0 3) = true := by kernel_rfl
theorem alike_4 : ((List.range 9).all fun r => (List.range 9).all fun q => alikeB r q 4) = true := by kernel_rfl
theorem alike_5 : alikeB 0 0 5 = true := by kernel_rfl
theorem alike_6 : alikeB 0 0 6 = true := by kernel_rfl
theorem alike_7 : ((List.range 9).all fun r => alikeB r 0 7) = true := by kernel_rfl
end Doc
end Go.Proofs.YtbnelaoeblhndaaGreatDoor
/- What the things of a statement's store have; the walk of number. -/
namespace Go.Proofs.YtbnelaoeblhndaaGreatDoor
open Go.RowKit
set_option maxRecDepth 100000

theorem numV_mem (n : Int) : Doc.numV n ∈ Doc.xsK := by
  unfold Doc.numV Doc.xsK
  have hl := Doc.pickN_lt n (n := 7) (by decide)
  cases h : (Doc.pickN n 4 == 0)
  · exact List.mem_cons_of_mem _ (List.mem_map.2 ⟨Doc.pickN n 7, List.mem_range.2 hl, rfl⟩)
  · exact List.mem_cons_self
theorem strV_mem (s : Int) : Doc.strV s ∈ Doc.ysK := by
  unfold Doc.strV Doc.ysK
  have hl := Doc.pickN_lt s (n := 6) (by decide)
  cases h : (Doc.pickN s 4 == 0)
  · exact List.mem_cons_of_mem _ (List.mem_map.2 ⟨Doc.pickN s 6, List.mem_range.2 hl, rfl⟩)
  · exact List.mem_cons_self

/-- The values of a store's things are of those. -/
def OfK (th : Has) : Prop := ∀ id t, th id = some t → ∃ x ∈ Doc.xsK, ∃ y ∈ Doc.ysK, t.2 = [x, y]
theorem OfK.put {th : Has} (h : OfK th) (id : Int) (sp : List Int) {x y : Doc.Val} (hx : x ∈ Doc.xsK) (hy : y ∈ Doc.ysK) : OfK (putT th id (sp, [x, y])) := by
  intro i t ht
  unfold putT at ht
  split at ht
  · cases ht; exact ⟨x, hx, y, hy, rfl⟩
  · exact h i t ht
theorem putsK_of (l : List Doc.Raw) : OfK (putsK l) := by
  have : ∀ (l : List Doc.Raw) (th : Has), OfK th → OfK (l.foldl (fun th t => putT th (Doc.idK t : Int) (Doc.thingK t)) th) := by
    intro l
    induction l with
    | nil => intro th h; exact h
    | cons a r ih => intro th h; exact ih _ (h.put _ _ (numV_mem _) (strV_mem _))
  exact this l _ (fun id t h => by cases h)
theorem storeK_of (l : List Doc.Raw) : OfK (storeK l) :=
  (putsK_of l).put 4000 [0, 0] (x := ⟨1, 1, ⟨#[]⟩⟩) (y := ⟨2, 0, ⟨#[97]⟩⟩) (List.mem_cons_of_mem _ (List.mem_map.2 ⟨4, by decide, rfl⟩)) (List.mem_cons_of_mem _ (List.mem_map.2 ⟨1, by decide, rfl⟩))

/-- A text that is let in. -/
def LetIn (s : ByteArray) (a : Doc.Ast) : Prop := s.size ≤ 200 ∧ (∃ j, Doc.parse (Doc.toks s 0) = .ok a j) ∧ Doc.check Doc.fsK a = (0, 0)
theorem readB_in {s : ByteArray} (h : Doc.readB s = true) : ∃ a, LetIn s a := by
  unfold Doc.readB at h
  cases hp : Doc.parse (Doc.toks s 0) with
  | err e p => rw [hp] at h; cases h
  | ok a j =>
    rw [hp] at h
    simp only [Bool.and_eq_true, decide_eq_true_eq, beq_iff_eq] at h
    exact ⟨a, h.1, ⟨j, hp⟩, Prod.ext h.2.1 h.2.2⟩
theorem sameB_says {s t : ByteArray} {a b : Doc.Ast} (h : Doc.sameB s t = true) (ha : LetIn s a) (hb : LetIn t b) {th : Has} (ho : OfK th) (j : Nat) : saysY Doc.fsK th a j = saysY Doc.fsK th b j := by
  obtain ⟨_, ⟨i, ha⟩, _⟩ := ha
  obtain ⟨_, ⟨k, hb⟩, _⟩ := hb
  unfold Doc.sameB at h
  rw [ha, hb] at h
  unfold saysY
  cases ht : th (j : Int) with
  | none => rfl
  | some q =>
    obtain ⟨x, hx, y, hy, e⟩ := ho _ q ht
    have h1 := List.all_eq_true.1 h x hx
    have h2 := List.all_eq_true.1 h1 y hy
    simp only
    rw [e]
    simpa using h2

theorem alike_at (r q j : Nat) (hr : r < 9) (hq : q < 9) (hj : j < 8) : ∃ a b, LetIn (Doc.pairS (Doc.numS r) (Doc.numS q) (2 * j)) a ∧ LetIn (Doc.pairS (Doc.numS r) (Doc.numS q) (2 * j + 1)) b ∧ ∀ th, OfK th → ∀ i, saysY Doc.fsK th a i = saysY Doc.fsK th b i := by
  have key : Doc.alikeB r q j = true := by
    have hr' := List.mem_range.2 hr
    have hq' := List.mem_range.2 hq
    have h8 : j = 0 ∨ j = 1 ∨ j = 2 ∨ j = 3 ∨ j = 4 ∨ j = 5 ∨ j = 6 ∨ j = 7 := by omega
    rcases h8 with rfl | rfl | rfl | rfl | rfl | rfl | rfl | rfl
    · exact List.all_eq_true.1 (List.all_eq_true.1 Doc.alike_0 r hr') q hq'
    · exact List.all_eq_true.1 Doc.alike_1 r hr'
    · exact List.all_eq_true.1 Doc.alike_2 r hr'
    · exact List.all_eq_true.1 Doc.alike_3 r hr'
    · exact List.all_eq_true.1 (List.all_eq_true.1 Doc.alike_4 r hr') q hq'
    · exact Doc.alike_5
    · exact Doc.alike_6
    · exact List.all_eq_true.1 Doc.alike_7 r hr'
  unfold Doc.alikeB at key
  simp only [Bool.and_eq_true] at key
  obtain ⟨⟨h1, h2⟩, h3⟩ := key
  obtain ⟨a, ha⟩ := readB_in h1
  obtain ⟨b, hb⟩ := readB_in h2
  exact ⟨a, b, ha, hb, fun th ho i => sameB_says h3 ha hb ho i⟩

section
variable {w : World}
set_option maxHeartbeats 2000000 in
theorem number_pos (r : Nat) (h1 : 4 ≤ r) (h2 : r < 9) : Calls Tryz.prog 27 #[.int .i64 ((r : Int) - 4)] w fun e w' => e = .returned (.string (Doc.numS r)) ∧ w' = w := by
  have h5 : r = 4 ∨ r = 5 ∨ r = 6 ∨ r = 7 ∨ r = 8 := by omega
  rcases h5 with rfl | rfl | rfl | rfl | rfl <;> (
    go_enter Tryz.func27, Tryz.ntmps27
    go_wp2_with fail
    go_ret
    exact ⟨rfl, rfl⟩)
set_option maxHeartbeats 2000000 in
theorem number_any (r : Nat) (h2 : r < 9) : Calls Tryz.prog 27 #[.int .i64 ((r : Int) - 4)] w fun e w' => e = .returned (.string (Doc.numS r)) ∧ w' = w := by
  rcases Nat.lt_or_ge r 4 with h | h
  · have HN : Hid (∀ w : World, Calls Tryz.prog 27 #[.int .i64 (((8 - r : Nat) : Int) - 4)] w fun e w' => e = .returned (.string (Doc.numS (8 - r))) ∧ w' = w) := fun w => number_pos (8 - r) (by omega) (by omega)
    have h5 : r = 0 ∨ r = 1 ∨ r = 2 ∨ r = 3 := by omega
    rcases h5 with rfl | rfl | rfl | rfl <;> (
      go_enter Tryz.func27, Tryz.ntmps27
      go_wp2_with fail
      refine Calls.mono (HN.out _) ?_
      rintro e w1 ⟨rfl, hw1⟩
      rw [hw1]
      go_wp2_with fail
      go_ret
      exact ⟨rfl, rfl⟩)
  · exact number_pos r h h2
end
end Go.Proofs.YtbnelaoeblhndaaGreatDoor
/- The walk of the statement Alike. -/
namespace Go.Proofs.YtbnelaoeblhndaaGreatDoor
open Go.RowKit
set_option maxRecDepth 100000

section
variable {w : World} {F : Nat → Prop} {sb : Nat} {th : Has}

/-- What chosen gives of a text that is let in. -/
theorem chosen_in (h : ProgSt w F sb Doc.fsK 2 th) (hL : LaidF w) {s : ByteArray} {a : Doc.Ast} (ha : LetIn s a) :
    Calls Tryz.prog 18 #[.pointer (some ⟨sb, 0, none⟩), .string s] w fun e w' => ∃ v ys, e = .returned (.tuple #[v, .bool true]) ∧ (∀ j, j < 4096 → memB ys j = saysY Doc.fsK th a j) ∧ Sl w' v (nums ys).length (natC (nums ys)) ∧ Below w.heap.size w w' := by
  obtain ⟨fv, hb, mt, mh, pos, h⟩ := h
  obtain ⟨hs, ⟨j, hp⟩, hc⟩ := ha
  exact chosen_ok h hL s hs a j hp (Doc.parse_ok (Doc.ok_toks s hs) hp) hc

theorem numS_size (r : Nat) : (Doc.numS r).size ≤ 2 := by
  unfold Doc.numS
  split <;> decide
theorem nums_short (ys : Bits) : (nums ys).length ≤ 4096 := numsTo_len ys 64

def rowP (A B : ByteArray) : Array Value := #[.string (Doc.pairS A B 0), .string (Doc.pairS A B 1), .string (Doc.pairS A B 2), .string (Doc.pairS A B 3), .string (Doc.pairS A B 4), .string (Doc.pairS A B 5), .string (Doc.pairS A B 6), .string (Doc.pairS A B 7), .string (Doc.pairS A B 8), .string (Doc.pairS A B 9), .string (Doc.pairS A B 10), .string (Doc.pairS A B 11), .string (Doc.pairS A B 12), .string (Doc.pairS A B 13), .string (Doc.pairS A B 14), .string (Doc.pairS A B 15)]
theorem rowP_at (A B : ByteArray) (k : Nat) (h : k < 16) : (rowP A B)[k]? = some (.string (Doc.pairS A B k)) := by
  have h16 : k = 0 ∨ k = 1 ∨ k = 2 ∨ k = 3 ∨ k = 4 ∨ k = 5 ∨ k = 6 ∨ k = 7 ∨ k = 8 ∨ k = 9 ∨ k = 10 ∨ k = 11 ∨ k = 12 ∨ k = 13 ∨ k = 14 ∨ k = 15 := by omega
  rcases h16 with rfl | rfl | rfl | rfl | rfl | rfl | rfl | rfl | rfl | rfl | rfl | rfl | rfl | rfl | rfl | rfl <;> rfl
theorem chk_says (L : List Doc.Raw) : saysY Doc.fsK (storeK L) Doc.chkA 4000 = true := by
  have h : storeK L ((4000 : Nat) : Int) = some ([0, 0], [⟨1, 1, ⟨#[]⟩⟩, ⟨2, 0, ⟨#[97]⟩⟩]) := by simp [storeK, putT]
  unfold saysY
  rw [h]
  show _ = _
  kernel_rfl
theorem natC_any {l : List Nat} {n : Nat} (h : n ∈ l) : (l.map Int.ofNat).any (· == (n : Int)) = true := by
  rw [List.any_eq_true]; exact ⟨Int.ofNat n, List.mem_map.2 ⟨n, h, rfl⟩, by simp⟩

set_option maxHeartbeats 8000000 in
theorem alike_any (hL : LaidF w) (L : List Doc.Raw) (hll : L.length ≤ 9223372036854775807) (h64 : ∀ t ∈ L, Raw64 t) (tv : Value) (ht : Sl w tv L.length (rawsC L)) (x y : Int) (hx : In64 x) (hy : In64 y) :
    Calls Tryz.prog 9 #[tv, .int .i64 x, .int .i64 y] w fun e w' => e = .returned (.bool true) ∧ Below w.heap.size w w' := by
  have HFI : Hid _ := filled_any hL.sg hL.g1 L hll h64 tv ht
  obtain ⟨ta, tc, htv⟩ := ht.slice
  subst htv
  obtain ⟨r, er, hr, HPX⟩ := pick_all x hx 9 (by decide) (by decide)
  obtain ⟨q, eq, hq, HPY⟩ := pick_all y hy 9 (by decide) (by decide)
  clear er eq
  have HNR : Hid (∀ w : World, Calls Tryz.prog 27 #[.int .i64 ((r : Int) - 4)] w fun e w' => e = .returned (.string (Doc.numS r)) ∧ w' = w) := fun w => number_any r hr
  have HNQ : Hid (∀ w : World, Calls Tryz.prog 27 #[.int .i64 ((q : Int) - 4)] w fun e w' => e = .returned (.string (Doc.numS q)) ∧ w' = w) := fun w => number_any q hq
  have HAL : Hid _ := fun j => alike_at r q j hr hq
  obtain ⟨A, HA⟩ : ∃ A, Hid (A = Doc.numS r) := ⟨_, rfl⟩
  obtain ⟨B, HB⟩ : ∃ A, Hid (A = Doc.numS q) := ⟨_, rfl⟩
  have hA2 : A.size ≤ 2 := by rw [HA.out]; exact numS_size r
  have hB2 : B.size ≤ 2 := by rw [HB.out]; exact numS_size q
  rw [← HA.out] at HNR HAL
  rw [← HB.out] at HNQ HAL
  have HLL : Hid _ := hL
  have g1 := hL.g1
  have g2 := hL.g2
  clear ht h64 hL
  go_enter Tryz.func9, Tryz.ntmps9
  go_wp2_with fail
  refine Calls.mono HFI.out ?_
  rintro e w1 ⟨sb, rfl, hp1, hb1⟩
  have HP1 : Hid _ := hp1
  have HB1 : Hid _ := hb1
  clear hp1 hb1
  go_wp2_with fail
  refine Calls.mono (HPX.out _) ?_
  rintro e w2 ⟨rfl, hw2⟩
  rw [hw2]
  clear hw2 w2
  go_wp2_with fail
  refine Calls.mono (HNR.out _) ?_
  rintro e w2 ⟨rfl, hw2⟩
  rw [hw2]
  clear hw2 w2
  go_wp2_with fail
  refine Calls.mono (HPY.out _) ?_
  rintro e w2 ⟨rfl, hw2⟩
  rw [hw2]
  clear hw2 w2
  go_wp2_with fail
  refine Calls.mono (HNQ.out _) ?_
  rintro e w2 ⟨rfl, hw2⟩
  rw [hw2]
  clear hw2 w2
  go_wp2_with fail
  all_goals first | (exfalso; omega) | skip
  have HLW : Hid (∀ W : World, Below w1.heap.size w1 W → LaidF W ∧ ProgSt W (fun k => w.heap.size ≤ k ∧ k < w1.heap.size) sb Doc.fsK 2 (storeK L)) := fun W hW =>
    ⟨HLL.out.below (HB1.out.trans (hW.mono HB1.out.size)) g1 g2, ProgSt.kept HP1.out (fun k hk _ => hW.block k hk.2) (fun k hk _ => hk)⟩
  go_loopw [11] (fun i wr => ∃ j k : Nat, j ≤ 8 ∧ Hid (k = 2 * j) ∧ k ≤ 16 ∧ i = .int .i64 k ∧ Below w1.heap.size w1 wr ∧ Hid (wr.heap[w1.heap.size]? = some (.cells (rowP A B) 9 (0, 0)))) (fun i _ => 16 - (intOf i).toNat)
  case atStart => exact ⟨0, 0, by omega, rfl, by omega, rfl, (Below.refl _ _).alloc (Nat.le_refl _) _, heap_alloc_new w1 _⟩
  case round =>
    obtain ⟨j, k, hj, HK, hk16, rfl, hB, HRW⟩ := hrel
    have hlw := lt_block HRW.out
    by_cases hj2 : j < 8
    · have hk2 : k < 16 := by have := HK.out; omega
      have hk1 : k + 1 < 16 := by have := HK.out; omega
      have r0 : wr.cell? ⟨w1.heap.size, k, none⟩ = some (.string (Doc.pairS A B k)) := by rw [cell_of_row _ _ _ _ _ _ HRW.out]; exact rowP_at A B k hk2
      obtain ⟨a, b, ha, hb, hsame⟩ := HAL.out j hj2
      rw [← HK.out] at ha hb
      obtain ⟨S1, HS1⟩ : ∃ S, Hid (S = Doc.pairS A B k) := ⟨_, rfl⟩
      obtain ⟨S2, HS2⟩ : ∃ S, Hid (S = Doc.pairS A B (k + 1)) := ⟨_, rfl⟩
      rw [← HS1.out] at ha r0
      rw [← HS2.out] at hb
      have HC1 : Hid _ := chosen_in (HLW.out wr hB).2 (HLW.out wr hB).1 ha
      have HSAME : Hid _ := hsame (storeK L) (storeK_of L)
      have HBIN : Hid _ := hb
      clear ha hb hsame
      go_wp2_with fail
      refine Calls.mono HC1.out ?_
      rintro e w2 ⟨v1, ys1, rfl, hys1, hsl1, hb2⟩
      have hB2 : Below w1.heap.size w1 w2 := hB.trans (hb2.mono hB.size)
      have r1 : w2.cell? ⟨w1.heap.size, k + 1, none⟩ = some (.string S2) := by rw [hb2.cell (p := ⟨w1.heap.size, k + 1, none⟩) hlw, cell_of_row _ _ _ _ _ _ HRW.out, HS2.out]; exact rowP_at A B (k + 1) hk1
      have HC2 : Hid _ := chosen_in (HLW.out w2 hB2).2 (HLW.out w2 hB2).1 HBIN.out
      have HY1 : Hid _ := hys1
      have HSL1 : Hid _ := hsl1
      obtain ⟨c1, d1, hv1⟩ := hsl1.slice
      subst hv1
      have HB2 : Hid _ := hB2
      have hlw2 : w1.heap.size < w2.heap.size := Nat.lt_of_lt_of_le hlw hb2.size
      clear hys1 hsl1 hB2
      go_wp2_with fail
      refine Calls.mono HC2.out ?_
      rintro e w3 ⟨v2, ys2, rfl, hys2, hsl2, hb3⟩
      have hnn : nums ys2 = nums ys1 := nums_congr (fun i hi => by rw [hys2 i hi, HY1.out i hi, HSAME.out i])
      obtain ⟨l, HLN⟩ : ∃ l : List Int, Hid ((nums ys1).map Int.ofNat = l) := ⟨_, rfl⟩
      have hll : l.length = (nums ys1).length := by rw [← HLN.out]; simp
      have hs1 : Sl w3 (.slice c1 (nums ys1).length d1) l.length (intC l) := by
        rw [hll, ← HLN.out]; exact HSL1.out.below hb3
      have hs2 : Sl w3 v2 l.length (intC l) := by
        rw [hll, ← HLN.out, ← hnn]; exact hsl2
      have HSM : Hid _ := ksame_any l (by rw [hll]; have := nums_short ys1; omega) _ _ hs1 hs2
      obtain ⟨c2, d2, hv2⟩ := hs2.slice
      subst hv2
      have HB3 : Hid (Below w1.heap.size w1 w3) := HB2.out.trans (hb3.mono HB2.out.size)
      clear hnn hll hs1 hs2 hsl2 hys2
      go_wp2_with fail
      refine Calls.mono HSM.out ?_
      rintro e w4 ⟨rfl, hb4⟩
      have HB4 : Hid (Below w1.heap.size w1 w4) := HB3.out.trans (hb4.mono HB3.out.size)
      have HR4 : Hid (w4.heap[w1.heap.size]? = some (.cells (rowP A B) 9 (0, 0))) := ((hb4.block _ (by have := hb3.size; omega)).trans ((hb3.block _ hlw2).trans (hb2.block _ hlw))).trans HRW.out
      clear hb4 hb3 hb2
      go_wp2_with fail
      go_roundw
      case rel => exact ⟨j + 1, k + 2, by omega, by have := HK.out; show _ = _; omega, by omega, by go_num, HB4.out, HR4⟩
      case measure => simp [intOf]; omega
    · obtain rfl : j = 8 := by omega
      obtain rfl : k = 16 := by have := HK.out; omega
      have HC1 : Hid _ := chosen_in (HLW.out wr hB).2 (HLW.out wr hB).1 (s := Doc.chkS) (a := Doc.chkA) Doc.read_chk
      go_wp2_with fail
      refine Calls.mono HC1.out ?_
      rintro e w2 ⟨v1, ys1, rfl, hys1, hsl1, hb2⟩
      have hmem : 4000 ∈ nums ys1 := mem_nums.2 ⟨by decide, (hys1 4000 (by decide)).trans (chk_says L)⟩
      have HIN : Hid _ := kin_any ((nums ys1).map Int.ofNat) (by have := nums_short ys1; simp; omega) v1 (by rw [List.length_map]; exact hsl1) 4000
      have hany : ((nums ys1).map Int.ofNat).any (· == (4000 : Int)) = true := natC_any hmem
      rw [hany] at HIN
      obtain ⟨c1, d1, hv1⟩ := hsl1.slice
      subst hv1
      have HBF : Hid (Below w.heap.size w w2) := HB1.out.trans ((hB.trans (hb2.mono hB.size)).mono HB1.out.size)
      clear hys1 hsl1 hb2 hmem hany
      go_wp2_with fail
      refine Calls.mono HIN.out ?_
      rintro e w3 ⟨rfl, hb3⟩
      go_wp2_with fail
      go_ret
      exact ⟨rfl, HBF.out.trans (hb3.mono HBF.out.size)⟩
end
end Go.Proofs.YtbnelaoeblhndaaGreatDoor
