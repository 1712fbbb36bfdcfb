/- Walks of a Filter's small methods: is, wrong, must, node, literal. -/
import Derived.Test.YtbnelaoeblhndaaGreatDoorRefState
import Derived.Deep.RegionLaw
namespace Go.Proofs.YtbnelaoeblhndaaGreatDoor
open Go.RowKit
set_option maxRecDepth 100000

/-- Is a token this word or sign? -/
def isW (t : Doc.Tok) (s : ByteArray) : Bool := (t.kind == 119 || t.kind == 103) && (t.S.toList == s.toList)

theorem ret_bool {a b : Bool} (h : a = b) : Ending.returned (.bool a) = .returned (.bool b) := by rw [h]

theorem kind_int (x : UInt8) (n : Nat) (h : n < 256) (b : Bool) (hb : (x == UInt8.ofNat n) = b) : ((x.toNat : Int) == (n : Int)) = b := by
  rw [← u8_int x n h]; exact hb

section
variable {B : Nat} {w : World} {fb : Nat} {Lv : Value} {L : List Doc.Tok} {at_ op : Nat} {Nv : Value} {nodes : List NodeR} {E place : Nat}

set_option maxHeartbeats 1000000 in
theorem is_st (h : RSt B w fb Lv L at_ op Nv nodes E place) (hat : at_ < L.length) (hL : L.length ≤ 300) (t : Doc.Tok) (ht : L[at_] = t) (s : ByteArray) :
    Calls Tryz.prog 133 #[.pointer (some ⟨fb, 0, none⟩), .string s] w fun e w' => e = .returned (.bool (isW t s)) ∧ Below w.heap.size w w' := by
  have HT : Hid (L[at_] = t) := ht
  by_cases k1 : (t.kind == 119) = true
  · have k2 : ((t.kind.toNat : Int) == 119) = true := kind_int t.kind 119 (by omega) _ k1
    have HE : Hid ((t.S.toList == s.toList) = isW t s) := by simp [Hid, isW, k1]
    clear ht k1
    go_enter Tryz.func133, Tryz.ntmps133
    go_wp2_with (go_at_call 84; refine (now_st h hat hL t HT.out).mono ?_; rintro e w1 ⟨rfl, hb⟩)
    go_ret
    exact ⟨ret_bool HE.out, hb.alloc hb.size _⟩
  · have k1 : (t.kind == 119) = false := by simpa using k1
    have k2 : ((t.kind.toNat : Int) == 119) = false := kind_int t.kind 119 (by omega) _ k1
    by_cases k3 : (t.kind == 103) = true
    · have k4 : ((t.kind.toNat : Int) == 103) = true := kind_int t.kind 103 (by omega) _ k3
      have HE : Hid ((t.S.toList == s.toList) = isW t s) := by simp [Hid, isW, k3]
      clear ht k1 k3
      go_enter Tryz.func133, Tryz.ntmps133
      go_wp2_with (go_at_call 84; refine (now_st h hat hL t HT.out).mono ?_; rintro e w1 ⟨rfl, hb⟩)
      go_ret
      exact ⟨ret_bool HE.out, hb.alloc hb.size _⟩
    · have k3 : (t.kind == 103) = false := by simpa using k3
      have k4 : ((t.kind.toNat : Int) == 103) = false := kind_int t.kind 103 (by omega) _ k3
      have HE : Hid (isW t s = false) := by simp [Hid, isW, k1, k3]
      clear ht k1 k3
      go_enter Tryz.func133, Tryz.ntmps133
      go_wp2_with (go_at_call 84; refine (now_st h hat hL t HT.out).mono ?_; rintro e w1 ⟨rfl, hb⟩)
      go_ret
      exact ⟨ret_bool HE.out.symm, hb.alloc hb.size _⟩

theorem RSt.c0 (h : RSt B w fb Lv L at_ op Nv nodes E place) : w.cell? ⟨fb, 0, none⟩ = some Lv := blk_cell h.blk 0 _ rfl
theorem RSt.c1 (h : RSt B w fb Lv L at_ op Nv nodes E place) : w.cell? ⟨fb, 1, none⟩ = some (.int .i64 at_) := blk_cell h.blk 1 _ rfl
theorem RSt.c2 (h : RSt B w fb Lv L at_ op Nv nodes E place) : w.cell? ⟨fb, 2, none⟩ = some (.int .i64 op) := blk_cell h.blk 2 _ rfl
theorem RSt.c3 (h : RSt B w fb Lv L at_ op Nv nodes E place) : w.cell? ⟨fb, 3, none⟩ = some Nv := blk_cell h.blk 3 _ rfl
theorem RSt.c4 (h : RSt B w fb Lv L at_ op Nv nodes E place) : w.cell? ⟨fb, 4, none⟩ = some (.int .i64 E) := blk_cell h.blk 4 _ rfl
theorem RSt.c4z (h : RSt B w fb Lv L at_ op Nv nodes 0 place) : w.cell? ⟨fb, 4, none⟩ = some (.int .i64 0) := blk_cell h.blk 4 _ rfl
theorem RSt.c5 (h : RSt B w fb Lv L at_ op Nv nodes E place) : w.cell? ⟨fb, 5, none⟩ = some (.int .i64 place) := blk_cell h.blk 5 _ rfl
theorem RSt.fr (h : RSt B w fb Lv L at_ op Nv nodes E place) (i : Nat) : w.frozen? ⟨fb, i, none⟩ = false := blk_free h.blk i
theorem RSt.Ble (h : RSt B w fb Lv L at_ op Nv nodes E place) : B ≤ w.heap.size := by have := h.base; have := h.lt; omega

theorem RSt.alloc (h : RSt B w fb Lv L at_ op Nv nodes E place) (o : Obj) : RSt B (w.alloc o) fb Lv L at_ op Nv nodes E place := h.below ((Below.refl _ _).alloc (Nat.le_refl _) o)
theorem RSt.drew (h : RSt B w fb Lv L at_ op Nv nodes E place) : RSt B w.drew fb Lv L at_ op Nv nodes E place := ⟨h.blk, h.ltok, h.nds, h.base⟩

/-- The Filter behind a store into one of its cells. -/
theorem RSt.stored (h : RSt B w fb Lv L at_ op Nv nodes E place) {i : Nat} {u : Value} {at2 op2 E2 p2 : Nat}
    (hc : (#[Lv, .int .i64 at_, .int .i64 op, Nv, .int .i64 E, .int .i64 place] : Array Value).setIfInBounds i u = #[Lv, .int .i64 at2, .int .i64 op2, Nv, .int .i64 E2, .int .i64 p2]) :
    RSt B (w.setCell ⟨fb, i, none⟩ u) fb Lv L at2 op2 Nv nodes E2 p2 ∧ Mv B fb w (w.setCell ⟨fb, i, none⟩ u) := by
  have hst : Step B w (w.setCell ⟨fb, i, none⟩ u) := (Step.refl B w).setCell (p := ⟨fb, i, none⟩) h.base u h.blk (by decide)
  refine ⟨⟨?_, ownsRow_step h.ltok hst, ?_, h.base⟩, hst, fun k _ hf => Below.heap_setCell _ _ _ _ hf⟩
  · rw [← hc]
    simp [World.setCell, Array.getElem?_modify, h.blk]
  · obtain ⟨h1, h2⟩ := h.nds
    refine ⟨h1, ?_⟩
    rcases h2 with h2 | ⟨g, cap, cur, hv, hg, hh, r⟩
    · exact .inl h2
    · refine .inr ⟨g, cap, cur, hv, hg, ?_, r⟩
      rw [Below.heap_setCell _ _ _ _ (by rintro rfl; have := h.blk; rw [hh] at this; simp at this)]
      exact hh

set_option maxHeartbeats 1000000 in
theorem wrong_new (h : RSt B w fb Lv L at_ op Nv nodes 0 place) (hat : at_ < L.length) (hL : L.length ≤ 300) (t : Doc.Tok) (ht : L[at_] = t) (e : Nat) :
    Calls Tryz.prog 85 #[.pointer (some ⟨fb, 0, none⟩), .int .i64 e] w fun r w' => r = .returned (.int .i64 0) ∧ RSt B w' fb Lv L at_ op Nv nodes e t.at_ ∧ Mv B fb w w' := by
  have HT : Hid (L[at_] = t) := ht
  clear ht
  have c4 := h.c4z
  have f4 := h.fr 4
  have hlt := h.lt
  obtain ⟨h2, hs2⟩ := RSt.stored h (i := 4) (u := .int .i64 e) (at2 := at_) (op2 := op) (E2 := e) (p2 := place) rfl
  go_enter Tryz.func85, Tryz.ntmps85
  go_wp2_with (go_at_call 84; refine (now_st h2 hat hL t HT.out).mono ?_; rintro r w1 ⟨rfl, hb⟩; have h3 := h2.below hb; have hs3 := hs2.trans (Mv.ofBelow (fb := fb) hb h2.Ble); have f5 := h3.fr 5; have c5 := h3.c5; have hlt3 := h3.lt; clear h2 hs2 hb)
  go_ret
  refine ⟨rfl, ?_⟩
  obtain ⟨h5, hs5⟩ := RSt.stored h3 (i := 5) (u := .int .i64 t.at_) (at2 := at_) (op2 := op) (E2 := e) (p2 := t.at_) rfl
  exact ⟨h5.alloc _, (hs3.trans hs5).alloc h5.Ble _⟩

set_option maxHeartbeats 1000000 in
theorem wrong_old (h : RSt B w fb Lv L at_ op Nv nodes E place) (hE : 0 < E) (e : Nat) :
    Calls Tryz.prog 85 #[.pointer (some ⟨fb, 0, none⟩), .int .i64 e] w fun r w' => r = .returned (.int .i64 0) ∧ w' = w := by
  have c4 := h.c4
  have hz : ((E : Int) == 0) = false := by rw [beq_eq_false_iff_ne]; omega
  go_enter Tryz.func85, Tryz.ntmps85
  go_wp2_with fail
  go_ret
  exact ⟨rfl, rfl⟩

set_option maxHeartbeats 1000000 in
theorem must_yes (h : RSt B w fb Lv L at_ op Nv nodes 0 place) (hat : at_ < L.length) (hL : L.length ≤ 300) (s : ByteArray) (ht : isW L[at_] s = true) :
    Calls Tryz.prog 189 #[.pointer (some ⟨fb, 0, none⟩), .string s] w fun r w' => r = .returned (.tuple #[]) ∧ RSt B w' fb Lv L (at_ + 1) op Nv nodes 0 place ∧ Mv B fb w w' := by
  have HT : Hid (isW L[at_] s = true) := ht
  clear ht
  go_enter Tryz.func189, Tryz.ntmps189
  go_wp2_with (go_at_call 133; refine (is_st h hat hL _ rfl s).mono ?_; rw [HT.out]; rintro r w1 ⟨rfl, hb⟩; have h3 := h.below hb; have hs3 := Mv.ofBelow (fb := fb) hb h.Ble; have c4 := h3.c4z; have f1 := h3.fr 1; have c1 := h3.c1; have hlt3 := h3.lt; clear h hb)
  go_end0
  refine ⟨rfl, ?_⟩
  obtain ⟨h5, hs5⟩ := RSt.stored h3 (i := 1) (u := .int .i64 ((at_ : Int) + 1)) (at2 := at_ + 1) (op2 := op) (E2 := 0) (p2 := place) rfl
  exact ⟨h5, hs3.trans hs5⟩

set_option maxHeartbeats 1000000 in
theorem must_no (h : RSt B w fb Lv L at_ op Nv nodes 0 place) (hat : at_ < L.length) (hL : L.length ≤ 300) (s : ByteArray) (ht : isW L[at_] s = false) :
    Calls Tryz.prog 189 #[.pointer (some ⟨fb, 0, none⟩), .string s] w fun r w' => r = .returned (.tuple #[]) ∧ RSt B w' fb Lv L at_ op Nv nodes 6 L[at_].at_ ∧ Mv B fb w w' := by
  have HT : Hid (isW L[at_] s = false) := ht
  clear ht
  go_enter Tryz.func189, Tryz.ntmps189
  go_wp2_with (first | (go_at_call 133; refine (is_st h hat hL _ rfl s).mono ?_; rw [HT.out]; rintro r w1 ⟨rfl, hb⟩; have h3 := h.below hb; have hs3 := Mv.ofBelow (fb := fb) hb h.Ble; clear h hb) | (go_at_call 85; refine (wrong_new h3 hat hL _ rfl 6).mono ?_; rintro r w2 ⟨rfl, h4, hs4⟩; have c4 := h4.c4))
  go_end0
  exact ⟨rfl, h4, hs3.trans hs4⟩

set_option maxHeartbeats 1000000 in
theorem must_old (h : RSt B w fb Lv L at_ op Nv nodes E place) (hE : 0 < E) (hat : at_ < L.length) (hL : L.length ≤ 300) (s : ByteArray) :
    Calls Tryz.prog 189 #[.pointer (some ⟨fb, 0, none⟩), .string s] w fun r w' => r = .returned (.tuple #[]) ∧ RSt B w' fb Lv L at_ op Nv nodes E place ∧ Mv B fb w w' := by
  have hz : ((E : Int) == 0) = false := by rw [beq_eq_false_iff_ne]; omega
  by_cases ht : isW L[at_] s = true
  · have HT : Hid (isW L[at_] s = true) := ht
    clear ht
    go_enter Tryz.func189, Tryz.ntmps189
    go_wp2_with (first | (go_at_call 133; refine (is_st h hat hL _ rfl s).mono ?_; rw [HT.out]; rintro r w1 ⟨rfl, hb⟩; have h3 := h.below hb; have hs3 := Mv.ofBelow (fb := fb) hb h.Ble; have c4 := h3.c4; clear h hb))
    go_end0
    exact ⟨rfl, h3, hs3⟩
  · have HT : Hid (isW L[at_] s = false) := by simpa [Hid] using ht
    clear ht
    go_enter Tryz.func189, Tryz.ntmps189
    go_wp2_with (first | (go_at_call 133; refine (is_st h hat hL _ rfl s).mono ?_; rw [HT.out]; rintro r w1 ⟨rfl, hb⟩; have h3 := h.below hb; have hs3 := Mv.ofBelow (fb := fb) hb h.Ble; have c4 := h3.c4; clear h hb) | (go_at_call 85; refine (wrong_old h3 hE 6).mono ?_; rintro r w2 ⟨rfl, rfl⟩))
    go_end0
    exact ⟨rfl, h3, hs3⟩
end
end Go.Proofs.YtbnelaoeblhndaaGreatDoor
