import Derived.Test.YtbnelaoeblhndaaGreatDoorFiM1
import Derived.Test.YtbnelaoeblhndaaGreatDoorFiM3
import Derived.Test.YtbnelaoeblhndaaGreatDoorRows
import Derived.ProofKit
import Derived.LaidMore
import Derived.OpenShut
import Derived.Stop.Joined
import Derived.Deep.Slices
import Derived.Lib.LaidTab
/- The tests of the statements: how they are read, and what they say. Written by wip/genwords.py. -/
namespace Go.Proofs.YtbnelaoeblhndaaGreatDoor
open Go.RowKit
set_option maxRecDepth 100000
namespace Doc
def wrd (l : List UInt8) (a : Nat) : Tok := ⟨119, ⟨l.toArray⟩, 0, a⟩
def sgn (l : List UInt8) (a : Nat) : Tok := ⟨103, ⟨l.toArray⟩, 0, a⟩
def str (l : List UInt8) (a : Nat) : Tok := ⟨115, ⟨l.toArray⟩, 0, a⟩
def nbr (n : Int) (a : Nat) : Tok := ⟨110, ⟨#[]⟩, n, a⟩
/-- The two fields of the statements' stores. -/
def fsK : List Fld := [⟨⟨#[110]⟩, 1⟩, ⟨⟨#[115]⟩, 2⟩]
/-- The sixteen tests. -/
def testS : Nat → ByteArray
  | 0 => ⟨#[110, 32, 61, 32, 49]⟩
  | 1 => ⟨#[110, 32, 33, 61, 32, 48]⟩
  | 2 => ⟨#[110, 32, 60, 32, 50]⟩
  | 3 => ⟨#[110, 32, 60, 61, 32, 45, 49]⟩
  | 4 => ⟨#[110, 32, 62, 32, 48]⟩
  | 5 => ⟨#[110, 32, 62, 61, 32, 51]⟩
  | 6 => ⟨#[110, 32, 105, 110, 32, 40, 49, 44, 32, 51, 44, 32, 45, 50, 41]⟩
  | 7 => ⟨#[110, 32, 105, 115, 32, 110, 117, 108, 108]⟩
  | 8 => ⟨#[115, 32, 61, 32, 34, 97, 34]⟩
  | 9 => ⟨#[115, 32, 33, 61, 32, 34, 98, 34]⟩
  | 10 => ⟨#[115, 32, 60, 32, 34, 97, 98, 34]⟩
  | 11 => ⟨#[115, 32, 62, 61, 32, 34, 98, 34]⟩
  | 12 => ⟨#[115, 32, 108, 105, 107, 101, 32, 34, 97, 34]⟩
  | 13 => ⟨#[115, 32, 108, 105, 107, 101, 32, 34, 34]⟩
  | 14 => ⟨#[115, 32, 105, 110, 32, 40, 34, 34, 44, 32, 34, 98, 34, 41]⟩
  | _ => ⟨#[115, 32, 105, 115, 32, 110, 117, 108, 108]⟩
def testA : Nat → Ast
  | 0 => (.test (wrd [110] 0) (sgn [61] 2) [(nbr (1) 4)])
  | 1 => (.test (wrd [110] 0) (sgn [33, 61] 2) [(nbr (0) 5)])
  | 2 => (.test (wrd [110] 0) (sgn [60] 2) [(nbr (2) 4)])
  | 3 => (.test (wrd [110] 0) (sgn [60, 61] 2) [(nbr (-1) 5)])
  | 4 => (.test (wrd [110] 0) (sgn [62] 2) [(nbr (0) 4)])
  | 5 => (.test (wrd [110] 0) (sgn [62, 61] 2) [(nbr (3) 5)])
  | 6 => (.test (wrd [110] 0) (wrd [105, 110] 2) [(nbr (1) 6), (nbr (3) 9), (nbr (-2) 12)])
  | 7 => (.test (wrd [110] 0) (wrd [105, 115] 2) [])
  | 8 => (.test (wrd [115] 0) (sgn [61] 2) [(str [97] 4)])
  | 9 => (.test (wrd [115] 0) (sgn [33, 61] 2) [(str [98] 5)])
  | 10 => (.test (wrd [115] 0) (sgn [60] 2) [(str [97, 98] 4)])
  | 11 => (.test (wrd [115] 0) (sgn [62, 61] 2) [(str [98] 5)])
  | 12 => (.test (wrd [115] 0) (wrd [108, 105, 107, 101] 2) [(str [97] 7)])
  | 13 => (.test (wrd [115] 0) (wrd [108, 105, 107, 101] 2) [(str [] 7)])
  | 14 => (.test (wrd [115] 0) (wrd [105, 110] 2) [(str [] 6), (str [98] 10)])
  | _ => (.test (wrd [115] 0) (wrd [105, 115] 2) [])
/-- A text is read as a filter that the fields fit. -/
def ReadAs (s : ByteArray) (a : Ast) : Prop := s.size ≤ 200 ∧ (∃ j, parse (toks s 0) = .ok a j) ∧ check fsK a = (0, 0)
theorem read_0 : ReadAs (testS 0) (testA 0) := ⟨by decide, ⟨3, by kernel_rfl⟩, by kernel_rfl⟩
theorem read_1 : ReadAs (testS 1) (testA 1) := ⟨by decide, ⟨3, by kernel_rfl⟩, by kernel_rfl⟩
theorem read_2 : ReadAs (testS 2) (testA 2) := ⟨by decide, ⟨3, by kernel_rfl⟩, by kernel_rfl⟩
theorem read_3 : ReadAs (testS 3) (testA 3) := ⟨by decide, ⟨3, by kernel_rfl⟩, by kernel_rfl⟩
theorem read_4 : ReadAs (testS 4) (testA 4) := ⟨by decide, ⟨3, by kernel_rfl⟩, by kernel_rfl⟩
theorem read_5 : ReadAs (testS 5) (testA 5) := ⟨by decide, ⟨3, by kernel_rfl⟩, by kernel_rfl⟩
theorem read_6 : ReadAs (testS 6) (testA 6) := ⟨by decide, ⟨9, by kernel_rfl⟩, by kernel_rfl⟩
theorem read_7 : ReadAs (testS 7) (testA 7) := ⟨by decide, ⟨3, by kernel_rfl⟩, by kernel_rfl⟩
theorem read_8 : ReadAs (testS 8) (testA 8) := ⟨by decide, ⟨3, by kernel_rfl⟩, by kernel_rfl⟩
theorem read_9 : ReadAs (testS 9) (testA 9) := ⟨by decide, ⟨3, by kernel_rfl⟩, by kernel_rfl⟩
theorem read_10 : ReadAs (testS 10) (testA 10) := ⟨by decide, ⟨3, by kernel_rfl⟩, by kernel_rfl⟩
theorem read_11 : ReadAs (testS 11) (testA 11) := ⟨by decide, ⟨3, by kernel_rfl⟩, by kernel_rfl⟩
theorem read_12 : ReadAs (testS 12) (testA 12) := ⟨by decide, ⟨3, by kernel_rfl⟩, by kernel_rfl⟩
theorem read_13 : ReadAs (testS 13) (testA 13) := ⟨by decide, ⟨3, by kernel_rfl⟩, by kernel_rfl⟩
theorem read_14 : ReadAs (testS 14) (testA 14) := ⟨by decide, ⟨7, by kernel_rfl⟩, by kernel_rfl⟩
theorem read_15 : ReadAs (testS 15) (testA 15) := ⟨by decide, ⟨3, by kernel_rfl⟩, by kernel_rfl⟩
theorem read_test : ∀ c, c < 16 → ReadAs (testS c) (testA c)
  | 0, _ => read_0
  | 1, _ => read_1
  | 2, _ => read_2
  | 3, _ => read_3
  | 4, _ => read_4
  | 5, _ => read_5
  | 6, _ => read_6
  | 7, _ => read_7
  | 8, _ => read_8
  | 9, _ => read_9
  | 10, _ => read_10
  | 11, _ => read_11
  | 12, _ => read_12
  | 13, _ => read_13
  | 14, _ => read_14
  | 15, _ => read_15
  | c + 16, h => by omega
def allS : ByteArray := ⟨#[110, 32, 105, 115, 32, 110, 117, 108, 108, 32, 111, 114, 32, 110, 111, 116, 32, 110, 32, 105, 115, 32, 110, 117, 108, 108]⟩
def allA : Ast := .or (.test (wrd [110] 0) (wrd [105, 115] 2) []) (.not (.test (wrd [110] 17) (wrd [105, 115] 19) []))
theorem read_all : ReadAs allS allA := ⟨by decide, ⟨8, by kernel_rfl⟩, by kernel_rfl⟩
def chkS : ByteArray := ⟨#[110, 32, 61, 32, 49, 32, 97, 110, 100, 32, 115, 32, 61, 32, 34, 97, 34]⟩
def chkA : Ast := .and (.test (wrd [110] 0) (sgn [61] 2) [(nbr (1) 4)]) (.test (wrd [115] 10) (sgn [61] 12) [(str [97] 14)])
theorem read_chk : ReadAs chkS chkA := ⟨by decide, ⟨7, by kernel_rfl⟩, by kernel_rfl⟩
end Doc
end Go.Proofs.YtbnelaoeblhndaaGreatDoor
/- Walks of the statements' values, spot, chosen and test (rummagekeep). -/
namespace Go.Proofs.YtbnelaoeblhndaaGreatDoor
open Go.RowKit
set_option maxRecDepth 100000

namespace Doc
/-- The six strings. -/
def sixS : Nat → ByteArray
  | 0 => ⟨#[]⟩
  | 1 => ⟨#[97]⟩
  | 2 => ⟨#[97, 98]⟩
  | 3 => ⟨#[98]⟩
  | 4 => ⟨#[34]⟩
  | _ => ⟨#[97, 98, 99]⟩
/-- What a raw thing has. -/
def numV (n : Int) : Val := bif pickN n 4 == 0 then nullV else ⟨1, (pickN n 7 : Int) - 3, ⟨#[]⟩⟩
def strV (s : Int) : Val := bif pickN s 4 == 0 then nullV else ⟨2, 0, sixS (pickN s 6)⟩
def spotK (x y : Int) : List Int := [(pickN x 21 : Int) - 10, (pickN y 21 : Int) - 10]
end Doc
/-- A number that an int can hold. -/
def In64 (c : Int) : Prop := -9223372036854775808 ≤ c ∧ c ≤ 9223372036854775807

section
variable {w : World}

theorem pick_all (c : Int) (h : In64 c) (m : Nat) (hm : 0 < m) (hm2 : m ≤ 9223372036854775807) : ∃ r : Nat, Doc.pickN c m = r ∧ r < m ∧ Hid (∀ w : World, Calls Tryz.prog 20 #[.int .i64 c, .int .i64 m] w fun e w' => e = .returned (.int .i64 (r : Int)) ∧ w' = w) :=
  ⟨_, rfl, Doc.pickN_lt c hm, fun _ => kpick_any c h.1 h.2 m hm hm2⟩

theorem sl_new {W : World} {g n : Nat} {C : Array Value} {T : TypeId} {cs : List Value} (h : W.heap[g]? = some (.cells C T (0, 0))) (hn : 0 < n) (hC : C.toList = cs) : Sl W (.slice (some ⟨g, 0, none⟩) n n) n cs :=
  ⟨.inr ⟨hn, g, 0, n, rfl, Nat.le_refl _, lt_block h, fun j u hj => by rw [Nat.zero_add, cell_of_row _ _ _ _ _ _ h, ← Array.getElem?_toList, hC]; exact hj⟩⟩
theorem below2 (w : World) (A B : Obj) : Below w.heap.size w ((w.alloc A).alloc B) := ((Below.refl _ _).alloc (Nat.le_refl _) _).alloc (by simp) _
theorem below3 (w : World) (A B C : Obj) : Below w.heap.size w (((w.alloc A).alloc B).alloc C) := (below2 w A B).alloc (by simp; omega) _

set_option maxHeartbeats 8000000 in
theorem kvalues_any (i x y n s : Int) (hn : In64 n) (hs : In64 s) :
    Calls Tryz.prog 30 #[.agg #[.int .i64 i, .int .i64 x, .int .i64 y, .int .i64 n, .int .i64 s]] w fun e w' => ∃ v, e = .returned v ∧ Sl w' v 2 (valsC [Doc.numV n, Doc.strV s]) ∧ Below w.heap.size w w' := by
  unfold Doc.numV Doc.strV
  obtain ⟨a, ea, hal, HA⟩ := pick_all n hn 4 (by decide) (by decide)
  obtain ⟨b, eb, hbl, HB⟩ := pick_all n hn 7 (by decide) (by decide)
  obtain ⟨c, ec, hcl, HC⟩ := pick_all s hs 4 (by decide) (by decide)
  obtain ⟨d, ed, hdl, HD⟩ := pick_all s hs 6 (by decide) (by decide)
  rw [ea, eb, ec, ed]
  clear ea eb ec ed
  rcases Nat.eq_zero_or_pos a with rfl | ha
  · rcases Nat.eq_zero_or_pos c with rfl | hc
    · go_enter Tryz.func30, Tryz.ntmps30
      go_wp2_with fail
      refine Calls.mono (HA.out _) ?_
      rintro e w1 ⟨rfl, hw1⟩
      rw [hw1]
      clear hw1 w1
      go_wp2_with fail
      refine Calls.mono (HC.out _) ?_
      rintro e w1 ⟨rfl, hw1⟩
      rw [hw1]
      clear hw1 w1
      go_wp2_with fail
      go_ret
      exact ⟨_, rfl, sl_new (heap_alloc2_new w _ _) (by decide) rfl, below2 w _ _⟩
    · have hc0 : (c == 0) = false := by simp; omega
      rw [hc0]
      simp only [cond_false]
      have h6 : d = 0 ∨ d = 1 ∨ d = 2 ∨ d = 3 ∨ d = 4 ∨ d = 5 := by omega
      clear hc0 hcl hdl
      rcases h6 with rfl | rfl | rfl | rfl | rfl | rfl <;> (
      go_enter Tryz.func30, Tryz.ntmps30
      go_wp2_with fail
      refine Calls.mono (HA.out _) ?_
      rintro e w1 ⟨rfl, hw1⟩
      rw [hw1]
      clear hw1 w1
      go_wp2_with fail
      refine Calls.mono (HC.out _) ?_
      rintro e w1 ⟨rfl, hw1⟩
      rw [hw1]
      clear hw1 w1
      go_wp2_with fail
      refine Calls.mono (HD.out _) ?_
      rintro e w1 ⟨rfl, hw1⟩
      rw [hw1]
      clear hw1 w1
      go_wp2_with fail
      go_ret
      exact ⟨_, rfl, sl_new (heap_alloc3_1 w _ _ _) (by decide) rfl, below3 w _ _ _⟩)
  · have ha0 : (a == 0) = false := by simp; omega
    rw [ha0]
    simp only [cond_false]
    clear ha0
    rcases Nat.eq_zero_or_pos c with rfl | hc
    · go_enter Tryz.func30, Tryz.ntmps30
      go_wp2_with fail
      refine Calls.mono (HA.out _) ?_
      rintro e w1 ⟨rfl, hw1⟩
      rw [hw1]
      clear hw1 w1
      go_wp2_with fail
      refine Calls.mono (HB.out _) ?_
      rintro e w1 ⟨rfl, hw1⟩
      rw [hw1]
      clear hw1 w1
      go_wp2_with fail
      refine Calls.mono (HC.out _) ?_
      rintro e w1 ⟨rfl, hw1⟩
      rw [hw1]
      clear hw1 w1
      go_wp2_with fail
      go_ret
      exact ⟨_, rfl, sl_new (heap_alloc2_new w _ _) (by decide) rfl, below2 w _ _⟩
    · have hc0 : (c == 0) = false := by simp; omega
      rw [hc0]
      simp only [cond_false]
      have h6 : d = 0 ∨ d = 1 ∨ d = 2 ∨ d = 3 ∨ d = 4 ∨ d = 5 := by omega
      clear hc0 hcl hdl
      rcases h6 with rfl | rfl | rfl | rfl | rfl | rfl <;> (
      go_enter Tryz.func30, Tryz.ntmps30
      go_wp2_with fail
      refine Calls.mono (HA.out _) ?_
      rintro e w1 ⟨rfl, hw1⟩
      rw [hw1]
      clear hw1 w1
      go_wp2_with fail
      refine Calls.mono (HB.out _) ?_
      rintro e w1 ⟨rfl, hw1⟩
      rw [hw1]
      clear hw1 w1
      go_wp2_with fail
      refine Calls.mono (HC.out _) ?_
      rintro e w1 ⟨rfl, hw1⟩
      rw [hw1]
      clear hw1 w1
      go_wp2_with fail
      refine Calls.mono (HD.out _) ?_
      rintro e w1 ⟨rfl, hw1⟩
      rw [hw1]
      clear hw1 w1
      go_wp2_with fail
      go_ret
      exact ⟨_, rfl, sl_new (heap_alloc3_1 w _ _ _) (by decide) rfl, below3 w _ _ _⟩)

end
end Go.Proofs.YtbnelaoeblhndaaGreatDoor
/- Walks of the statements' spot, chosen, all and test (rummagekeep). -/
namespace Go.Proofs.YtbnelaoeblhndaaGreatDoor
open Go.RowKit
set_option maxRecDepth 100000

theorem wrap_i64_id {n : Int} (h1 : -9223372036854775808 ≤ n) (h2 : n ≤ 9223372036854775807) : IntKind.i64.wrap n = n := by
  simp only [IntKind.wrap, IntKind.signed, IntKind.bits]
  simp
  omega

section
variable {w : World}

set_option maxHeartbeats 4000000 in
theorem kspot_any (i x y n s : Int) (hx : In64 x) (hy : In64 y) :
    Calls Tryz.prog 29 #[.agg #[.int .i64 i, .int .i64 x, .int .i64 y, .int .i64 n, .int .i64 s]] w fun e w' => ∃ v, e = .returned v ∧ Sl w' v 2 (intC (Doc.spotK x y)) ∧ Below w.heap.size w w' := by
  unfold Doc.spotK
  obtain ⟨a, ea, hal, HA⟩ := pick_all x hx 21 (by decide) (by decide)
  obtain ⟨b, eb, hbl, HB⟩ := pick_all y hy 21 (by decide) (by decide)
  rw [ea, eb]
  clear ea eb
  obtain ⟨W0, HW0⟩ : ∃ W0, Hid (W0 = w.alloc (.cells #[.int .i64 i, .int .i64 x, .int .i64 y, .int .i64 n, .int .i64 s] 42)) := ⟨_, rfl⟩
  have hb0 : Below w.heap.size w W0 := by rw [HW0.out]; exact (Below.refl _ _).alloc (Nat.le_refl _) _
  have hq : W0.heap[w.heap.size]? = some (.cells #[.int .i64 i, .int .i64 x, .int .i64 y, .int .i64 n, .int .i64 s] 42 (0, 0)) := by rw [HW0.out]; exact heap_alloc_new w _
  have hl := lt_block hq
  have HSB : Hid (∀ w' : World, Below W0.heap.size W0 w' → w'.cell? ⟨w.heap.size, 1, none⟩ = some (.int .i64 x) ∧ w'.cell? ⟨w.heap.size, 2, none⟩ = some (.int .i64 y)) := fun w' h' => ⟨blk_cell ((h'.block _ hl).trans hq) 1 _ rfl, blk_cell ((h'.block _ hl).trans hq) 2 _ rfl⟩
  have HS0 : Hid (Below W0.heap.size W0 W0.drew) := Below.drew (Below.refl _ _)
  have HB0 : Hid _ := hb0
  clear hb0 hq
  go_enter Tryz.func29, Tryz.ntmps29
  go_wp2_with fail
  rw [← HW0.out]
  refine wp_region_M 9 (fun w' => Below W0.heap.size W0 w') (by kernel_rfl) ?_
  refine anyM_take (i := 0) (v := .pointer (some ⟨w.heap.size, 1, none⟩)) rfl (by kernel_rfl) (by kernel_rfl) (by kernel_rfl) (by kernel_rfl) (fun _ _ _ h => h) rfl rfl HS0.out (fun w' hSw => by go_simp) ?_
  simp only [List.setIfInBounds_toArray, List.set_cons_zero, List.set_cons_succ]
  refine anyM_take (i := 1) (v := .int .i64 x) rfl (by kernel_rfl) (by kernel_rfl) (by kernel_rfl) (by kernel_rfl) (fun _ _ _ h => h) rfl rfl HS0.out (fun w' hSw => by obtain ⟨p1, p2⟩ := HSB.out w' hSw; go_simp) ?_
  simp only [List.setIfInBounds_toArray, List.set_cons_zero, List.set_cons_succ]
  refine anyM_take (i := 4) (v := .pointer (some ⟨w.heap.size, 2, none⟩)) rfl (by kernel_rfl) (by kernel_rfl) (by kernel_rfl) (by kernel_rfl) (fun _ _ _ h => h) rfl rfl HS0.out (fun w' hSw => by go_simp) ?_
  simp only [List.setIfInBounds_toArray, List.set_cons_zero, List.set_cons_succ]
  refine anyM_take (i := 5) (v := .int .i64 y) rfl (by kernel_rfl) (by kernel_rfl) (by kernel_rfl) (by kernel_rfl) (fun _ _ _ h => h) rfl rfl HS0.out (fun w' hSw => by obtain ⟨p1, p2⟩ := HSB.out w' hSw; go_simp) ?_
  simp only [List.setIfInBounds_toArray, List.set_cons_zero, List.set_cons_succ]
  refine anyM_one (i := 2) (by kernel_rfl) rfl rfl (fun K hK => ?_)
  go_simp
  refine (HA.out _).mono ?_
  rintro r w2 ⟨rfl, hw2⟩
  rw [hw2]
  refine hK.out _ _ (fun _ => HS0.out) ?_
  clear hK K hw2 w2
  try simp only [Act.put, List.setIfInBounds_toArray, List.set_cons_zero, List.set_cons_succ]
  refine anyM_take (i := 3) (v := .int .i64 ((a : Int) - 10)) rfl (by kernel_rfl) (by kernel_rfl) (by kernel_rfl) (by kernel_rfl) (fun _ _ _ h => h) rfl rfl HS0.out (fun w' hSw => by go_simp; exact wrap_i64_id (by omega) (by omega)) ?_
  simp only [List.setIfInBounds_toArray, List.set_cons_zero, List.set_cons_succ]
  refine anyM_one (i := 6) (by kernel_rfl) rfl rfl (fun K hK => ?_)
  go_simp
  refine (HB.out _).mono ?_
  rintro r w2 ⟨rfl, hw2⟩
  rw [hw2]
  refine hK.out _ _ (fun _ => HS0.out) ?_
  clear hK K hw2 w2
  try simp only [Act.put, List.setIfInBounds_toArray, List.set_cons_zero, List.set_cons_succ]
  refine anyM_take (i := 7) (v := .int .i64 ((b : Int) - 10)) rfl (by kernel_rfl) (by kernel_rfl) (by kernel_rfl) (by kernel_rfl) (fun _ _ _ h => h) rfl rfl HS0.out (fun w' hSw => by go_simp; exact wrap_i64_id (by omega) (by omega)) ?_
  simp only [List.setIfInBounds_toArray, List.set_cons_zero, List.set_cons_succ]
  refine anyM_one (i := 8) (by kernel_rfl) rfl rfl (fun K hK => ?_)
  go_simp
  have hq5 : Below W0.heap.size W0 (W0.drew.alloc (.cells #[.int .i64 ((a : Int) - 10), .int .i64 ((b : Int) - 10)] 3)) := HS0.out.alloc HS0.out.size _
  refine hK.out _ _ (fun _ => hq5) ?_
  clear hK K
  try simp only [Act.put, List.setIfInBounds_toArray, List.set_cons_zero, List.set_cons_succ]
  refine anyM_one (i := 9) (by kernel_rfl) rfl rfl (fun K hK => ?_)
  go_simp
  refine hK.out _ _ (fun _ => hq5) ?_
  clear hK K
  refine anyM_done (by kernel_rfl) ?_
  have HQ5 : Hid _ := hq5
  clear hq5
  go_wp2_with fail
  go_ret
  exact ⟨_, rfl, sl_new (heap_alloc_new W0.drew _) (by decide) rfl, HB0.out.trans (HQ5.out.mono HB0.out.size)⟩

/-- What is laid, for finding. -/
structure LaidF (w : World) : Prop where
  sg : Signs w
  g1 : 1 < w.heap.size
  tab : Tab64 w
  g2 : 0 < w.heap.size
theorem LaidF.below {w w' : World} {B : Nat} (h : LaidF w) (hb : Below B w w') (h1 : 1 < B) (h2 : 0 < B) : LaidF w' :=
  ⟨h.sg.below hb h1, Nat.lt_of_lt_of_le h.g1 hb.size, h.tab.below hb h2, Nat.lt_of_lt_of_le h.g2 hb.size⟩

variable {F : Nat → Prop} {sb : Nat} {fs : List Doc.Fld} {space : Int} {th : Has} {fv : Value} {hb mt mh : Nat} {pos : Int → Value × Value}

theorem chosen_ok (h : ProgAt w F sb fs space th fv hb mt mh pos) (hL : LaidF w) (s : ByteArray) (hs : s.size ≤ 200) (a : Doc.Ast) (j : Nat) (hp : Doc.parse (Doc.toks s 0) = .ok a j) (hev : Doc.Every Doc.TestOk a) (hc : Doc.check fs a = (0, 0)) :
    Calls Tryz.prog 18 #[.pointer (some ⟨sb, 0, none⟩), .string s] w fun e w' => ∃ v ys, e = .returned (.tuple #[v, .bool true]) ∧ (∀ j, j < 4096 → memB ys j = saysY fs th a j) ∧ Sl w' v (nums ys).length (natC (nums ys)) ∧ Below w.heap.size w w' := by
  have HS : Hid _ := select_ok h hL.sg hL.g1 hL.tab hL.g2 s hs a j hp hev hc
  clear h hL hp hev hc
  go_enter Tryz.func18, Tryz.ntmps18
  go_wp2_with fail
  refine Calls.mono HS.out ?_
  rintro e w1 ⟨v, ys, rfl, hys, hown, hb1⟩
  obtain ⟨vb, vc, rfl⟩ := row_slice hown
  have HO : Hid _ := rowSl hown
  have HY : Hid _ := hys
  clear hown hys
  go_wp2_with fail
  go_ret2
  exact ⟨_, ys, rfl, HY.out, HO.out, hb1⟩
end
end Go.Proofs.YtbnelaoeblhndaaGreatDoor
/- The walk of the statements' filled (rummagekeep). -/
namespace Go.Proofs.YtbnelaoeblhndaaGreatDoor
open Go.RowKit
set_option maxRecDepth 100000

namespace Doc
/-- A raw thing. -/
structure Raw where
  i : Int
  x : Int
  y : Int
  n : Int
  s : Int
def idK (t : Raw) : Nat := pickN t.i 40 * 105
def thingK (t : Raw) : List Int × List Val := (spotK t.x t.y, [numV t.n, strV t.s])
end Doc
def rawC (t : Doc.Raw) : List Value := [.int .i64 t.i, .int .i64 t.x, .int .i64 t.y, .int .i64 t.n, .int .i64 t.s]
def rawsC (l : List Doc.Raw) : List Value := l.flatMap rawC
theorem rawC_len (t : Doc.Raw) : (rawC t).length = 5 := rfl
def Raw64 (t : Doc.Raw) : Prop := In64 t.i ∧ In64 t.x ∧ In64 t.y ∧ In64 t.n ∧ In64 t.s
/-- The things behind some puts. -/
def putsK (l : List Doc.Raw) : Has := l.foldl (fun th t => putT th (Doc.idK t : Int) (Doc.thingK t)) noneT
/-- The store of a statement. -/
def storeK (l : List Doc.Raw) : Has := putT (putsK l) 4000 ([0, 0], [⟨1, 1, ⟨#[]⟩⟩, ⟨2, 0, ⟨#[97]⟩⟩])

theorem Md.toBelow {F : Nat → Prop} {B : Nat} {w w' : World} (h : Md F w w') (hB : B ≤ w.heap.size) (hF : ∀ k, F k → B ≤ k) : Below B w w' := { h.below with block := fun k hk => h.only k (by omega) (fun e => by have := hF k e; omega) }

theorem numV_good (n : Int) : Doc.goodV (Doc.numV n) 1 = true := by
  unfold Doc.numV
  have hl := Doc.pickN_lt n (n := 7) (by decide)
  cases h : (Doc.pickN n 4 == 0)
  · simp only [cond_false, Doc.goodV]
    have e1 : decide (-9999999 ≤ (Doc.pickN n 7 : Int) - 3) = true := decide_eq_true (by omega)
    have e2 : decide ((Doc.pickN n 7 : Int) - 3 ≤ 9999999) = true := decide_eq_true (by omega)
    rw [e1, e2]; show _ = _; kernel_rfl
  · show _ = _; kernel_rfl
theorem strV_good (s : Int) : Doc.goodV (Doc.strV s) 2 = true := by
  unfold Doc.strV
  have hl := Doc.pickN_lt s (n := 6) (by decide)
  cases h : (Doc.pickN s 4 == 0)
  · simp only [cond_false]
    generalize Doc.pickN s 6 = d at hl
    have h6 : d = 0 ∨ d = 1 ∨ d = 2 ∨ d = 3 ∨ d = 4 ∨ d = 5 := by omega
    rcases h6 with rfl | rfl | rfl | rfl | rfl | rfl <;> (show _ = _; kernel_rfl)
  · show _ = _; kernel_rfl
theorem spotK_good (x y : Int) : Doc.spotB 2 (Doc.spotK x y) = true := by
  have h1 := Doc.pickN_lt x (n := 21) (by decide)
  have h2 := Doc.pickN_lt y (n := 21) (by decide)
  simp only [Doc.spotB, Doc.spotK, List.all_cons, List.all_nil, Doc.inSpot, Bool.and_true, Bool.and_eq_true, decide_eq_true_eq, List.length_cons, List.length_nil, beq_iff_eq]
  omega

section
variable {w : World}

set_option maxHeartbeats 8000000 in
theorem filled_any (hsg : Signs w) (hg0 : 1 < w.heap.size) (L : List Doc.Raw) (hll : L.length ≤ 9223372036854775807) (h64 : ∀ t ∈ L, Raw64 t) (tv : Value) (ht : Sl w tv L.length (rawsC L)) :
    Calls Tryz.prog 16 #[tv] w fun e w' => ∃ sb, e = .returned (.pointer (some ⟨sb, 0, none⟩)) ∧ ProgSt w' (fun k => w.heap.size ≤ k ∧ k < w'.heap.size) sb Doc.fsK 2 (storeK L) ∧ Below w.heap.size w w' := by
  have hb0 : Below w.heap.size w (w.alloc (.cells #[.string ⟨#[110]⟩, .int .i64 1, .string ⟨#[115]⟩, .int .i64 2] 92)) := (Below.refl _ _).alloc (Nat.le_refl _) _
  have hsl : Sl (w.alloc (.cells #[.string ⟨#[110]⟩, .int .i64 1, .string ⟨#[115]⟩, .int .i64 2] 92)) (.slice (some ⟨w.heap.size, 0, none⟩) 2 2) 2 (fldsC Doc.fsK) := sl_new (heap_alloc_new w _) (by decide) rfl
  have HNEW : Hid _ := pnew_ok (hsg.below hb0 hg0) (by simp; omega) Doc.fsK _ hsl 2 (by decide) (by decide) (by decide) (by decide) (fun j h => by
      have h2 : j < 2 := h
      have : j = 0 ∨ j = 1 := by omega
      rcases this with rfl | rfl <;> exact (by decide : (1 : Nat) ≤ 140737488351232)) (fun j h => by
      have h2 : j < 2 := h
      have : j = 0 ∨ j = 1 := by omega
      rcases this with rfl | rfl <;> (show _ = _; kernel_rfl)) (fun j h => by
      have h2 : j < 2 := h
      have : j = 0 ∨ j = 1 := by omega
      rcases this with rfl | rfl <;> (show _ = _; kernel_rfl))
  have HT : Hid _ := ht
  have H64 : Hid _ := h64
  obtain ⟨ta, tc, htv⟩ := ht.slice
  subst htv
  clear hsl hsg ht h64
  go_enter Tryz.func16, Tryz.ntmps16
  go_wp2_with fail
  refine Calls.mono HNEW.out ?_
  rintro e w1 ⟨sb, rfl, hp1, hb1⟩
  have hbw : Below w.heap.size w w1 := hb0.trans (hb1.mono (by simp))
  have HP1 : Hid (ProgSt w1 (fun k => w.heap.size ≤ k ∧ k < w1.heap.size) sb Doc.fsK 2 noneT) := hp1.kept (fun _ _ _ => rfl) (fun k hk hk2 => ⟨(by have h1 : w.heap.size + 1 ≤ k := (by simpa using hk); omega), hk2⟩)
  have HBW : Hid _ := hbw
  clear hp1 hb1 hb0 hbw
  go_wp2_with fail
  go_loopw [5] (fun i wr => ∃ j : Nat, j ≤ L.length ∧ i = .int .i64 j ∧ Below w.heap.size w wr ∧ Hid (ProgSt wr (fun k => w.heap.size ≤ k ∧ k < wr.heap.size) sb Doc.fsK 2 (putsK (L.take j)))) (fun i _ => L.length - (intOf i).toNat)
  case atStart => exact ⟨0, Nat.zero_le _, rfl, HBW.out, HP1⟩
  case round =>
    obtain ⟨j, hj, rfl, hB, HP⟩ := hrel
    have hsz := hB.size
    by_cases hj2 : j < L.length
    · rcases HT.out.has with ⟨h0', _⟩ | ⟨_, lb, lo, lcap, elv, hc2, hlt2, hr2⟩
      · omega
      cases elv
      obtain ⟨t, HX⟩ : ∃ t, Hid (t = L[j]) := ⟨L[j], rfl⟩
      have rr : ∀ i (_ : i < 5), wr.cell? ⟨lb, lo + j * 5 + i, none⟩ = (rawC t)[i]? := fun i hi => by
        have hf := flat_at rawC 5 rawC_len L j hj2 i hi
        have hlc : ((rawC L[j])[i]?).isSome = true := by
          rw [List.getElem?_eq_getElem (by rw [rawC_len]; exact hi)]; rfl
        obtain ⟨u, hu⟩ := Option.isSome_iff_exists.1 hlc
        rw [hB.cell (p := ⟨lb, lo + j * 5 + i, none⟩) hlt2, HX.out, hu, Nat.add_assoc]
        exact hr2 (j * 5 + i) u (by unfold rawsC; rw [hf, hu])
      have r0 : wr.cell? ⟨lb, lo + j * 5, none⟩ = some (.int .i64 t.i) := rr 0 (by omega)
      have r1 : wr.cell? ⟨lb, lo + j * 5 + 1, none⟩ = some (.int .i64 t.x) := rr 1 (by omega)
      have r2 : wr.cell? ⟨lb, lo + j * 5 + 2, none⟩ = some (.int .i64 t.y) := rr 2 (by omega)
      have r3 : wr.cell? ⟨lb, lo + j * 5 + 3, none⟩ = some (.int .i64 t.n) := rr 3 (by omega)
      have r4 : wr.cell? ⟨lb, lo + j * 5 + 4, none⟩ = some (.int .i64 t.s) := rr 4 (by omega)
      clear rr hr2
      have h64 := H64.out t (by rw [HX.out]; exact List.getElem_mem hj2)
      obtain ⟨g1, g2, g3, g4, g5⟩ := h64
      have HID : Hid (∀ W : World, Calls Tryz.prog 21 #[.agg #[.int .i64 t.i, .int .i64 t.x, .int .i64 t.y, .int .i64 t.n, .int .i64 t.s]] W fun e w' => e = .returned (.int .i64 (Doc.idK t : Nat)) ∧ Below W.heap.size W w') := fun W => kid_any t.i t.x t.y t.n t.s g1.1 g1.2
      have HSP : Hid (∀ W : World, Calls Tryz.prog 29 #[.agg #[.int .i64 t.i, .int .i64 t.x, .int .i64 t.y, .int .i64 t.n, .int .i64 t.s]] W fun e w' => ∃ v, e = .returned v ∧ Sl w' v 2 (intC (Doc.spotK t.x t.y)) ∧ Below W.heap.size W w') := fun W => kspot_any t.i t.x t.y t.n t.s g2 g3
      have HVA : Hid (∀ W : World, Calls Tryz.prog 30 #[.agg #[.int .i64 t.i, .int .i64 t.x, .int .i64 t.y, .int .i64 t.n, .int .i64 t.s]] W fun e w' => ∃ v, e = .returned v ∧ Sl w' v 2 (valsC [Doc.numV t.n, Doc.strV t.s]) ∧ Below W.heap.size W w') := fun W => kvalues_any t.i t.x t.y t.n t.s g4 g5
      obtain ⟨q, HQ⟩ : ∃ q : Nat, Hid (q = Doc.idK t) := ⟨_, rfl⟩
      have hq4 : q ≤ 4095 := by rw [HQ.out]; have := Doc.pickN_lt t.i (n := 40) (by decide); unfold Doc.idK; omega
      rw [← HQ.out] at HID
      have HPUT : Hid (∀ (W : World) (v1 v2 : Value), Below wr.heap.size wr W → Sl W v1 2 (intC (Doc.spotK t.x t.y)) → Sl W v2 2 (valsC [Doc.numV t.n, Doc.strV t.s]) → Calls Tryz.prog 28 #[.pointer (some ⟨sb, 0, none⟩), .int .i64 (q : Int), v1, v2] W fun e w' => e = .returned (.int .i64 0) ∧ ProgSt w' (fun k => w.heap.size ≤ k ∧ k < w'.heap.size) sb Doc.fsK 2 (putsK (L.take (j + 1))) ∧ Md (fun k => w.heap.size ≤ k ∧ k < wr.heap.size) W w') := by
        intro W v1 v2 hW h1 h2
        obtain ⟨fv, hb, mt, mh, pos, hp⟩ := HP.out
        have hp2 := hp.kept (w' := W) (F' := fun k => w.heap.size ≤ k ∧ k < wr.heap.size) (fun k hk _ => hW.block k hk.2) (fun k hk _ => hk)
        refine (pput_ok hp2 (q : Int) v1 v2 (Doc.spotK t.x t.y) [Doc.numV t.n, Doc.strV t.s] h1 h2 (by omega) (by omega) (spotK_good _ _) rfl (fun i h1 h2 => ?_)).mono ?_
        · have h3 : i < 2 := h1
          have : i = 0 ∨ i = 1 := by omega
          rcases this with rfl | rfl
          · exact numV_good _
          · exact strV_good _
        · rintro e w' ⟨rfl, h3, h4⟩
          refine ⟨rfl, ?_, h4⟩
          have he : putsK (L.take (j + 1)) = putT (putsK (L.take j)) (q : Int) (Doc.spotK t.x t.y, [Doc.numV t.n, Doc.strV t.s]) := by
            rw [List.take_add_one, List.getElem?_eq_getElem hj2, Option.toList_some]
            unfold putsK
            rw [List.foldl_append, ← HX.out, HQ.out]; rfl
          rw [he]
          refine ProgSt.kept h3 (fun _ _ _ => rfl) (fun k hk hk2 => ⟨?_, hk2⟩)
          rcases hk with hk | hk
          · exact hk.1
          · have := hW.size; omega
      obtain ⟨W0, HW0⟩ : ∃ W0, Hid (W0 = wr.alloc (.cells #[.int .i64 t.i, .int .i64 t.x, .int .i64 t.y, .int .i64 t.n, .int .i64 t.s] 42)) := ⟨_, rfl⟩
      have hb0 : Below wr.heap.size wr W0 := by rw [HW0.out]; exact (Below.refl _ _).alloc (Nat.le_refl _) _
      have hbx : W0.heap[wr.heap.size]? = some (.cells #[.int .i64 t.i, .int .i64 t.x, .int .i64 t.y, .int .i64 t.n, .int .i64 t.s] 42 (0, 0)) := by rw [HW0.out]; exact heap_alloc_new wr _
      have HTI : Hid ((Tryz.prog.info? 42).map (·.size) = some (#[Value.int .i64 t.i, .int .i64 t.x, .int .i64 t.y, .int .i64 t.n, .int .i64 t.s] : Array Value).size) := (by kernel_rfl : (Tryz.prog.info? 42).map (·.size) = some 5)
      have HB0 : Hid _ := hb0
      have HS0 : Hid (W0.drew.heap[wr.heap.size]? = some (.cells #[.int .i64 t.i, .int .i64 t.x, .int .i64 t.y, .int .i64 t.n, .int .i64 t.s] 42 (0, 0))) := hbx
      have hbl := lt_block hbx
      clear hb0 hbx g1 g2 g3 g4 g5
      go_wp2_with fail
      rw [← HW0.out]
      refine wp_region_M 8 (fun w' => w'.heap[wr.heap.size]? = some (.cells #[.int .i64 t.i, .int .i64 t.x, .int .i64 t.y, .int .i64 t.n, .int .i64 t.s] 42 (0, 0))) (by kernel_rfl) ?_
      refine anyM_take (i := 0) (v := .pointer (some ⟨sb, 0, none⟩)) rfl (by kernel_rfl) (by kernel_rfl) (by kernel_rfl) (by kernel_rfl) (fun _ _ _ h => h) rfl rfl HS0.out (fun w' hSw => by go_simp) ?_
      simp only [List.setIfInBounds_toArray, List.set_cons_zero, List.set_cons_succ]
      refine anyM_take (i := 1) (v := .agg #[.int .i64 t.i, .int .i64 t.x, .int .i64 t.y, .int .i64 t.n, .int .i64 t.s]) rfl (by kernel_rfl) (by kernel_rfl) (by kernel_rfl) (by kernel_rfl) (fun _ _ _ h => h) rfl rfl HS0.out (fun w' hSw => run_load_all 42 _ rfl wr.heap.size rfl 42 _ (0, 0) _ hSw Tryz.underlying42 rfl HTI.out) ?_
      simp only [List.setIfInBounds_toArray, List.set_cons_zero, List.set_cons_succ]
      refine anyM_take (i := 3) (v := .agg #[.int .i64 t.i, .int .i64 t.x, .int .i64 t.y, .int .i64 t.n, .int .i64 t.s]) rfl (by kernel_rfl) (by kernel_rfl) (by kernel_rfl) (by kernel_rfl) (fun _ _ _ h => h) rfl rfl HS0.out (fun w' hSw => run_load_all 42 _ rfl wr.heap.size rfl 42 _ (0, 0) _ hSw Tryz.underlying42 rfl HTI.out) ?_
      simp only [List.setIfInBounds_toArray, List.set_cons_zero, List.set_cons_succ]
      refine anyM_take (i := 5) (v := .agg #[.int .i64 t.i, .int .i64 t.x, .int .i64 t.y, .int .i64 t.n, .int .i64 t.s]) rfl (by kernel_rfl) (by kernel_rfl) (by kernel_rfl) (by kernel_rfl) (fun _ _ _ h => h) rfl rfl HS0.out (fun w' hSw => run_load_all 42 _ rfl wr.heap.size rfl 42 _ (0, 0) _ hSw Tryz.underlying42 rfl HTI.out) ?_
      simp only [List.setIfInBounds_toArray, List.set_cons_zero, List.set_cons_succ]
      refine anyM_one (i := 2) (by kernel_rfl) rfl rfl (fun K hK => ?_)
      go_simp
      refine (HID.out _).mono ?_
      rintro r w2 ⟨rfl, hb2⟩
      have hq2 : Below W0.heap.size W0 w2 := Below.callB (Below.drew (Below.refl _ _)) (Nat.le_refl _) hb2
      refine hK.out _ _ (fun _ => (hq2.block _ hbl).trans HS0.out) ?_
      clear hK K
      try simp only [Act.put, List.setIfInBounds_toArray, List.set_cons_zero, List.set_cons_succ]
      refine anyM_one (i := 4) (by kernel_rfl) rfl rfl (fun K hK => ?_)
      go_simp
      refine (HSP.out _).mono ?_
      rintro r w3 ⟨v1, rfl, hs3, hb3⟩
      have hq3 : Below W0.heap.size W0 w3 := Below.callB hq2 (Nat.le_refl _) hb3
      obtain ⟨va, vc, rfl⟩ := hs3.slice
      refine hK.out _ _ (fun _ => (hq3.block _ hbl).trans HS0.out) ?_
      clear hK K
      try simp only [Act.put, List.setIfInBounds_toArray, List.set_cons_zero, List.set_cons_succ]
      refine anyM_one (i := 6) (by kernel_rfl) rfl rfl (fun K hK => ?_)
      go_simp
      refine (HVA.out _).mono ?_
      rintro r w4 ⟨v2, rfl, hs4, hb4⟩
      have hq4' : Below W0.heap.size W0 w4 := Below.callB hq3 (Nat.le_refl _) hb4
      obtain ⟨va2, vc2, rfl⟩ := hs4.slice
      refine hK.out _ _ (fun _ => (hq4'.block _ hbl).trans HS0.out) ?_
      clear hK K
      try simp only [Act.put, List.setIfInBounds_toArray, List.set_cons_zero, List.set_cons_succ]
      refine anyM_one (i := 7) (by kernel_rfl) rfl rfl (fun K hK => ?_)
      go_simp
      have hw4 : Below wr.heap.size wr w4 := HB0.out.trans (hq4'.mono HB0.out.size)
      refine (HPUT.out w4 _ _ hw4 (hs3.below hb4) hs4).mono ?_
      rintro r w5 ⟨rfl, hp5, hd5⟩
      have hS5 : w5.heap[wr.heap.size]? = some (.cells #[.int .i64 t.i, .int .i64 t.x, .int .i64 t.y, .int .i64 t.n, .int .i64 t.s] 42 (0, 0)) := (hd5.only _ (by have := hq4'.size; omega) (by omega)).trans ((hq4'.block _ hbl).trans HS0.out)
      refine hK.out _ _ (fun _ => hS5) ?_
      clear hK K
      try simp only [Act.put, List.setIfInBounds_toArray, List.set_cons_zero, List.set_cons_succ]
      refine anyM_one (i := 8) (by kernel_rfl) rfl rfl (fun K hK => ?_)
      go_simp
      refine hK.out _ _ (fun _ => hS5) ?_
      clear hK K
      refine anyM_done (by kernel_rfl) ?_
      have HP5 : Hid _ := hp5
      have HB5 : Hid (Below w.heap.size w w5) := (hB.trans (hw4.mono hB.size)).trans (hd5.toBelow (by have := hw4.size; omega) (fun k hk => hk.1))
      clear hp5 hd5 hS5 hw4 hs3 hs4 hb2 hb3 hb4 hq2 hq3 hq4' r0 r1 r2 r3 r4
      go_wp2_with fail
      go_roundw
      case rel => exact ⟨j + 1, by omega, by go_num, HB5.out, HP5⟩
      case measure => simp [intOf]; omega
    · obtain rfl : j = L.length := by omega
      have HPF : Hid (ProgSt wr (fun k => w.heap.size ≤ k ∧ k < wr.heap.size) sb Doc.fsK 2 (putsK L)) := by
        have := HP.out
        rw [List.take_length] at this
        exact this
      obtain ⟨W0, HW0⟩ : ∃ W0, Hid (W0 = (wr.alloc (.cells #[.int .i64 0, .int .i64 0] 3)).alloc (.cells #[.int .i64 1, .int .i64 1, .string ⟨#[]⟩, .int .i64 2, .int .i64 0, .string ⟨#[97]⟩] 94)) := ⟨_, rfl⟩
      have hbw : Below wr.heap.size wr W0 := by rw [HW0.out]; exact below2 wr _ _
      have hs1 : Sl W0 (.slice (some ⟨wr.heap.size, 0, none⟩) 2 2) 2 (intC [0, 0]) := by rw [HW0.out]; exact sl_new (heap_alloc2_old wr _ _) (by decide) rfl
      have hs2 : Sl W0 (.slice (some ⟨wr.heap.size + 1, 0, none⟩) 2 2) 2 (valsC [⟨1, 1, ⟨#[]⟩⟩, ⟨2, 0, ⟨#[97]⟩⟩]) := by rw [HW0.out]; exact sl_new (heap_alloc2_new wr _ _) (by decide) rfl
      have HPUT : Hid (Calls Tryz.prog 28 #[.pointer (some ⟨sb, 0, none⟩), .int .i64 4000, .slice (some ⟨wr.heap.size, 0, none⟩) 2 2, .slice (some ⟨wr.heap.size + 1, 0, none⟩) 2 2] W0 fun e w' => e = .returned (.int .i64 0) ∧ ProgSt w' (fun k => w.heap.size ≤ k ∧ k < w'.heap.size) sb Doc.fsK 2 (storeK L) ∧ Md (fun k => w.heap.size ≤ k ∧ k < wr.heap.size) W0 w') := by
        obtain ⟨fv, hb, mt, mh, pos, hp⟩ := HPF.out
        have hp2 := hp.kept (w' := W0) (F' := fun k => w.heap.size ≤ k ∧ k < wr.heap.size) (fun k hk _ => hbw.block k hk.2) (fun k hk _ => hk)
        refine (pput_ok hp2 4000 _ _ [0, 0] [⟨1, 1, ⟨#[]⟩⟩, ⟨2, 0, ⟨#[97]⟩⟩] hs1 hs2 (by decide) (by decide) (by show _ = _; kernel_rfl) rfl (fun i h1 h2 => ?_)).mono ?_
        · have h3 : i < 2 := h1
          have : i = 0 ∨ i = 1 := by omega
          rcases this with rfl | rfl
          · show _ = _; kernel_rfl
          · show _ = _; kernel_rfl
        · rintro e w' ⟨rfl, h3, h4⟩
          refine ⟨rfl, ?_, h4⟩
          refine ProgSt.kept h3 (fun _ _ _ => rfl) (fun k hk hk2 => ⟨?_, hk2⟩)
          rcases hk with hk | hk
          · exact hk.1
          · have := hbw.size; omega
      have HBB : Hid _ := hbw
      clear hbw hs1 hs2
      go_wp2_with fail
      rw [← HW0.out]
      refine Calls.mono HPUT.out ?_
      rintro e w5 ⟨rfl, hp5, hd5⟩
      have HP5 : Hid _ := hp5
      have HB5 : Hid (Below w.heap.size w w5) := (hB.trans (HBB.out.mono hB.size)).trans (hd5.toBelow (by have := HBB.out.size; omega) (fun k hk => hk.1))
      clear hp5 hd5
      go_wp2_with fail
      go_ret
      exact ⟨sb, rfl, HP5.out, HB5.out⟩
end
end Go.Proofs.YtbnelaoeblhndaaGreatDoor
/- What the rows' condition gives to finding; things that are handed in, opened. -/
namespace Go.Proofs.YtbnelaoeblhndaaGreatDoor
namespace Keep
open Go.ChangeShapes Go.WideShapes Go.ChangeAt Go.WideMaps Go.WideElems Go.RowKit
set_option maxRecDepth 100000

theorem own : ownKnob Tryz.prog.godebug = none := by kernel_rfl
theorem laidOut_all : laidOutB Tryz.prog = true := by kernel_rfl
theorem signs_at : Tryz.prog.globalNamed "rummage/syntax.signs" = some 1 := by kernel_rfl
theorem signs_type : (Tryz.prog.globals[1]?).map (·.type) = some 255 := by kernel_rfl
theorem tab_at : Tryz.prog.globalNamed "math/bits.deBruijn64tab" = some 0 := by kernel_rfl
theorem tab_type : (Tryz.prog.globals[0]?).map (·.type) = some 241 := by kernel_rfl
theorem cells_str : Tryz.prog.cellsOf 9 = 1 := by kernel_rfl
theorem cells_signs : Tryz.prog.cellsOf 255 = 9 := by kernel_rfl
theorem cells_u8 : Tryz.prog.cellsOf 5 = 1 := by kernel_rfl
theorem cells_tab : Tryz.prog.cellsOf 241 = 64 := by kernel_rfl
theorem cells_thing : Tryz.prog.cellsOf 42 = 5 := by kernel_rfl

theorem bytes_of_list {s : ByteArray} {l : List UInt8} (h : (l : List UInt8) = s.data.toList) : s = ⟨l.toArray⟩ := by
  apply ByteArray.ext
  apply Array.ext'
  rw [h]

/-- The cells of an array of strings. -/
theorem cells_of_strs {P : Program} {w : World} {base : Nat} {sp : Nat → Bool} {held : Bool} {fuel : Nat} {t e : TypeId} {n : Nat} {cs : List Value} {ls : List (List UInt8)} {p : List MemPlace}
    (ht : P.underlying t = some (.array n e)) (he : P.underlying e = some .string) (hce : P.cellsOf e = 1) (hct : P.cellsOf t = n)
    (h : DataW.trod (fun _ => ()) P w base sp held fuel t cs = some (.agg (ls.map fun l => .lit (.string l)), p)) : ∀ i (hi : i < ls.length), cs[i]? = some (.string ⟨ls[i].toArray⟩) := by
  obtain ⟨xs, m, rfl, hx, hlen, hn, hel⟩ := DataW.trod_array ht h
  simp only [Prod.mk.injEq, DataW.agg.injEq] at hx
  obtain ⟨hx, _⟩ := hx
  intro i hi
  have hxl : xs.length = ls.length := by
    have := congrArg List.length hx
    simpa using this.symm
  have hi2 : i < n := by omega
  have h1 := hel i hi2
  rw [hce, Nat.mul_one, List.getElem?_eq_getElem (by omega)] at h1
  obtain ⟨s, hc, hs, _⟩ := DataW.trod_string he h1
  have hxi : xs[i].1 = .lit (.string ls[i]) := by
    have := congrArg (fun l => l[i]?) hx
    simp only [List.getElem?_map] at this
    rw [List.getElem?_eq_getElem hi, List.getElem?_eq_getElem (by omega : i < xs.length)] at this
    simpa using this.symm
  rw [hs] at hxi
  simp only [DataW.lit.injEq, Lit.string.injEq] at hxi
  rw [← bytes_of_list hxi.symm]
  have hd : (cs.drop i).take 1 = [cs[i]'(by omega)] := by
    rw [List.drop_eq_getElem_cons (by omega)]
    rfl
  rw [hd] at hc
  rw [List.getElem?_eq_getElem (by omega)]
  exact congrArg some (List.cons.inj hc).1

theorem lt_of_var {P : Program} {W : World} {n : String} {g : Nat} {cs : Array Value} (hg : P.globalNamed n = some g) (h : W.var? P n = some cs) : g < W.heap.size := by
  unfold World.var? at h
  rw [hg] at h
  simp only [Option.bind_some] at h
  cases hh : W.heap[g]? with
  | none => rw [hh] at h; cases h
  | some o => exact lt_block hh

/-- What the rows' condition gives the walks. -/
theorem of_laid {W : World} (h : laidMetH Tryz.prog Rows.alikeRow.laid W) : LaidF W := by
  rw [MakeChecks.laidMetH_plain _ _ _ (by kernel_rfl)] at h
  obtain ⟨ps, ⟨g0, t0, cs0, f0, p0, q0, hg0, ht0, hv0, hd0, ⟨g1, t1, cs1, f1, p1, q1, hg1, ht1, hv1, hd1, ⟨g2, t2, cs2, f2, p2, q2, hg2, ht2, hv2, hd2, ⟨g3, t3, cs3, f3, p3, q3, hg3, ht3, hv3, hd3, ⟨g4, t4, cs4, f4, p4, q4, hg4, ht4, hv4, hd4, ⟨g5, t5, cs5, f5, p5, q5, hg5, ht5, hv5, hd5, _, _⟩, _⟩, _⟩, _⟩, _⟩, _⟩, _, _⟩ := h
  obtain rfl := Option.some.inj (tab_at.symm.trans hg1)
  obtain rfl := Option.some.inj (tab_type.symm.trans ht1)
  obtain rfl := Option.some.inj (signs_at.symm.trans hg5)
  obtain rfl := Option.some.inj (signs_type.symm.trans ht5)
  have hs := cells_of_strs (ls := [[33, 61], [60, 61], [62, 61], [61], [60], [62], [40], [41], [44]]) Tryz.underlying255 Tryz.underlying9 cells_str cells_signs hd5
  have hc : ∀ i (hi : i < 9), W.cell? ⟨1, i, none⟩ = some (.string ⟨([[33, 61], [60, 61], [62, 61], [61], [60], [62], [40], [41], [44]] : List (List UInt8))[i].toArray⟩) := by
    intro i hi
    have h1 := World.var?_cell hg5 hv5 i
    have h2 := hs i hi
    rw [Array.getElem?_toList] at h2
    rw [h1, h2]
  have ht := Lib.cells_of_tab (zs := Lib.deBruijn64tab.map Int.ofNat) Tryz.underlying241 Tryz.underlying5 cells_u8 cells_tab hd1
  refine ⟨⟨hc 0 (by decide), hc 1 (by decide), hc 2 (by decide), hc 3 (by decide), hc 4 (by decide), hc 5 (by decide), hc 6 (by decide), hc 7 (by decide), hc 8 (by decide)⟩, lt_of_var hg5 hv5, fun j hj => ?_, lt_of_var hg1 hv1⟩
  have h1 := World.var?_cell hg1 hv1 j
  rw [h1, ← Array.getElem?_toList, ht]
  have hl : j < Lib.deBruijn64tab.length := hj
  simp [List.getElem?_eq_getElem hl, List.getD_eq_getElem?_getD]

/-- The door's own heap meets the condition: closed facts. -/
theorem door_met (os : Os) (args : Array Value) : laidMetH Tryz.prog Rows.alikeRow.laid ((World.doorLaid Tryz.prog 400 os).forCall (fun _ _ => 0) ⟨#[], args, []⟩).memory :=
  laidMetH_of_parts3 (fuel := 8) (laidMet_of_run' 8 (by kernel_rfl) (by kernel_rfl)) (by kernel_rfl) (by kernel_rfl)

theorem list_of {α : Type} {p : Nat → α → Prop} : ∀ (n : Nat), (∀ i, i < n → ∃ a, p i a) → ∃ l : List α, l.length = n ∧ ∀ i (h : i < l.length), p i l[i] := by
  intro n
  induction n with
  | zero => exact fun _ => ⟨[], rfl, fun i h => by simp at h⟩
  | succ n ih =>
    intro h
    obtain ⟨l, hl, hp⟩ := ih (fun i hi => h i (by omega))
    obtain ⟨a, ha⟩ := h n (by omega)
    refine ⟨l ++ [a], by simp [hl], fun i hi => ?_⟩
    by_cases hi' : i < l.length
    · rw [List.getElem_append_left hi']; exact hp i hi'
    · have : i = l.length := by simp at hi; omega
      subst this
      rw [List.getElem_append_right (Nat.le_refl _)]
      simp only [Nat.sub_self, List.getElem_cons_zero]
      rw [hl]; exact ha
theorem wf_i64 {n : Int} (h : (Lit.int .i64 n).wf = true) : In64 n := by
  simpa [Lit.wf, IntKind.min, IntKind.max, IntKind.signed, IntKind.bits, In64] using h
theorem drop_take_one {cs : List Value} {i : Nat} {v : Value} (h : (cs.drop i).take 1 = [v]) : cs[i]? = some v := by
  have := congrArg (fun l => l[0]?) h
  simpa using this

section
variable {H : Type} {enc : TypeId × Value → H} {w : World} {sp : Nat → Bool} {held : Bool}

theorem open_raw {n : Nat} {cs : List Value} {d : DataW H} {pl : List MemPlace} (h : DataW.trod enc Tryz.prog w 0 sp held n 42 cs = some (d, pl)) : ∃ t : Doc.Raw, cs = rawC t ∧ Raw64 t := by
  obtain ⟨xs, m, _, hx, hcl, hxl, hf⟩ := DataW.trod_struct Tryz.underlying42 h
  rw [cells_thing] at hcl
  have hl : xs.length = 5 := hxl
  have g0 := hf 0 _ rfl
  have g1 := hf 1 _ rfl
  have g2 := hf 2 _ rfl
  have g3 := hf 3 _ rfl
  have g4 := hf 4 _ rfl
  rw [List.getElem?_eq_getElem (by omega)] at g0 g1 g2 g3 g4
  obtain ⟨k0, e0, _, f0⟩ := DataW.trod_int Tryz.underlying3 g0
  obtain ⟨k1, e1, _, f1⟩ := DataW.trod_int Tryz.underlying3 g1
  obtain ⟨k2, e2, _, f2⟩ := DataW.trod_int Tryz.underlying3 g2
  obtain ⟨k3, e3, _, f3⟩ := DataW.trod_int Tryz.underlying3 g3
  obtain ⟨k4, e4, _, f4⟩ := DataW.trod_int Tryz.underlying3 g4
  have e0 := drop_take_one e0
  have e1 := drop_take_one e1
  have e2 := drop_take_one e2
  have e3 := drop_take_one e3
  have e4 := drop_take_one e4
  refine ⟨⟨k0, k1, k2, k3, k4⟩, ?_, wf_i64 f0, wf_i64 f1, wf_i64 f2, wf_i64 f3, wf_i64 f4⟩
  match cs, hcl, e0, e1, e2, e3, e4 with
  | [a, b, c, d, e], _, e0, e1, e2, e3, e4 => simp at e0 e1 e2 e3 e4; subst e0 e1 e2 e3 e4; rfl

/-- Things that are handed in. -/
theorem open_things {fuel : Nat} {sv : Value} {x : DataW H × List MemPlace} (h : DataW.trod enc Tryz.prog w 0 sp held fuel 32 [sv] = some x) :
    ∃ l : List Doc.Raw, l.length ≤ 9223372036854775807 ∧ (∀ t ∈ l, Raw64 t) ∧ Sl w sv l.length (rawsC l) := by
  rcases Go.Deep.open_slice Tryz.underlying32 h with ⟨hc, rfl⟩ | ⟨a, len, cap, m, n, D, Pl, hc, _, hl, hm, hme, rfl, hel⟩
  · simp only [List.cons.injEq, and_true] at hc
    subst hc
    exact ⟨[], by simp, by simp, ⟨.inl ⟨rfl, none, 0, rfl⟩⟩⟩
  · simp only [List.cons.injEq, and_true] at hc
    subst hc
    have hlm : len ≤ m := by rw [hme]; split <;> omega
    obtain ⟨l, hll, hp⟩ := list_of (p := fun i (y : Doc.Raw) => w.cells? 0 (a.add (i * 5)) 5 = some (rawC y) ∧ Raw64 y) len (fun i hi => by
      obtain ⟨cs', h1, h2⟩ := hel i (by omega)
      rw [cells_thing] at h1
      obtain ⟨y, rfl, hq⟩ := open_raw h2
      exact ⟨y, h1, hq⟩)
    have hcell : ∀ i (hi : i < l.length) c, c < 5 → w.cell? (a.add (i * 5 + c)) = (rawC l[i])[c]? := fun i hi c hc => by
      have := (World.cells?_some (hp i hi).1).2.2 c hc
      rw [← this, Go.Deep.add_add]
    have hblk : 0 < l.length → a.spot = none ∧ a.block < w.heap.size := fun h0 => by
      have h1 := hcell 0 h0 0 (by decide)
      have ha0 : a.add 0 = a := by simp [Addr.add]
      simp only [Nat.zero_mul, Nat.zero_add] at h1
      rw [ha0] at h1
      exact ⟨World.cell?_spot h1, World.block_lt_of_cell? w _ h1⟩
    unfold maxLen at hm
    refine ⟨l, by omega, fun t ht => ?_, ⟨?_⟩⟩
    · obtain ⟨i, hi, rfl⟩ := List.getElem_of_mem ht
      exact (hp i hi).2
    · by_cases h0 : l.length = 0
      · exact .inl ⟨h0, some a, cap, by rw [← hll, h0]⟩
      · obtain ⟨hs, hb⟩ := hblk (by omega)
        obtain ⟨b, off, spot⟩ := a
        simp only at hs hb
        subst hs
        refine .inr ⟨by omega, b, off, cap, by rw [hll], by omega, hb, fun j u hj => ?_⟩
        have hfl : (rawsC l).length = l.length * 5 := by
          unfold rawsC
          clear hj hcell hp hblk hll h0
          induction l with
          | nil => simp
          | cons y r ih => rw [List.flatMap_cons, List.length_append, ih, rawC_len, List.length_cons, Nat.succ_mul, Nat.add_comm]
        have hjl : j < l.length * 5 := by rw [← hfl]; exact (List.getElem?_eq_some_iff.1 hj).1
        have hi : j / 5 < l.length := by omega
        have hjd : j / 5 * 5 + j % 5 = j := by omega
        have h1 := hcell (j / 5) hi (j % 5) (Nat.mod_lt _ (by decide))
        rw [hjd, add_off] at h1
        rw [h1, ← flat_at rawC 5 rawC_len l (j / 5) hi (j % 5) (Nat.mod_lt _ (by decide)), hjd]
        exact hj
end
end Keep
end Go.Proofs.YtbnelaoeblhndaaGreatDoor
