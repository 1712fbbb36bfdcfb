/- The walk of rummageref.Parse. -/
import Derived.Test.YtbnelaoeblhndaaGreatDoorRefPart
import Derived.Test.YtbnelaoeblhndaaGreatDoorParsePos
namespace Go.Proofs.YtbnelaoeblhndaaGreatDoor
open Go.RowKit
set_option maxRecDepth 100000

/-- A new Filter. -/
theorem RSt.start {B : Nat} {w : World} {v : Value} {L : List Doc.Tok} (h : w.ownsRow B 175 4 v L.length (toksC L)) (hB : B ≤ w.heap.size) :
    RSt B (w.alloc (.cells #[v, .int .i64 0, .int .i64 0, .slice none 0 0, .int .i64 0, .int .i64 0] 136)) w.heap.size v L 0 0 (.slice none 0 0) [] 0 0 :=
  ⟨heap_alloc_new w _, h.alloc _, World.ownsRow_nil _ _ _ _, hB⟩

/-- What Parse leaves. -/
def PPost (w : World) (L : List Doc.Tok) (res : Doc.Res Doc.Ast) (e : Ending) (w' : World) : Prop :=
  match res with
  | .ok a _ => ∃ (fb k : Nat) (Lv Nv : Value) (nodes : List NodeR), e = .returned (.tuple #[.pointer (some ⟨fb, 0, none⟩), .int .i64 0, .int .i64 0]) ∧ RSt w.heap.size w' fb Lv L k 0 Nv nodes 0 0 ∧ Rep w.heap.size w' nodes k a ∧ nodes.length ≤ 300 ∧ Below w.heap.size w w'
  | .err er p => e = .returned (.tuple #[.pointer none, .int .i64 er, .int .i64 p]) ∧ 0 < er ∧ Below w.heap.size w w'

set_option maxHeartbeats 1000000 in
theorem parse_long (s : ByteArray) (w : World) (hs : 200 < s.size) :
    Calls Tryz.prog 52 #[.string s] w fun e w' => e = .returned (.tuple #[.pointer none, .int .i64 5, .int .i64 0]) ∧ w' = w := by
  go_enter Tryz.func52, Tryz.ntmps52
  go_wp2_with fail
  go_ret3
  exact ⟨rfl, rfl⟩

theorem parse_err_of {L : List Doc.Tok} {er p : Nat} (h : Doc.pFilter L 6 0 = .err er p) : Doc.parse L = .err er p := by simp [Doc.parse, h]
theorem parse_ok_of {L : List Doc.Tok} {a : Doc.Ast} {j : Nat} (h : Doc.pFilter L 6 0 = .ok a j) (k : ((Doc.tk L j).kind == 101) = true) : Doc.parse L = .ok a j := by
  simp only [Doc.parse, h, k, if_true]
theorem parse_bad_of {L : List Doc.Tok} {a : Doc.Ast} {j : Nat} (h : Doc.pFilter L 6 0 = .ok a j) (k : ((Doc.tk L j).kind == 101) = false) : Doc.parse L = .err 6 (Doc.tk L j).at_ := by
  simp [Doc.parse, h, k]

set_option maxHeartbeats 4000000 in
theorem parse_any (s : ByteArray) (w : World) (hs : s.size ≤ 200) :
    Calls Tryz.prog 52 #[.string s] w (PPost w (Doc.toks s 0) (Doc.parse (Doc.toks s 0))) := by
  obtain ⟨L, HL⟩ : ∃ L, Hid (L = Doc.toks s 0) := ⟨_, rfl⟩
  have hL : L.length ≤ 300 := by rw [HL.out]; have := Doc.toks_len0 s; omega
  have hE : Hid (Doc.Ended L) := by rw [HL.out]; exact Doc.toks_ended0 s
  have hS : Hid (∀ k, (Doc.tk L k).S.size ≤ 200) := by rw [HL.out]; exact Doc.tk_size s hs
  have hpos : 0 < L.length := by rw [HL.out]; exact Doc.toks_pos s
  rw [← HL.out]
  go_enter Tryz.func52, Tryz.ntmps52
  go_wp2_with fail
  refine (tokens_any s _ hs).mono ?_
  rw [← HL.out]
  rintro e w1 ⟨v, rfl, hown, hb1⟩
  have h1 := RSt.start hown hb1.size
  obtain hv | ⟨g, cap, hv⟩ := own_shape hown
  · exfalso
    have := hown.2
    rcases this with ⟨_, h0⟩ | ⟨g, cap, cur, rfl, _⟩
    · omega
    · cases hv
  subst hv
  have hs1 : Step w.heap.size w (w1.alloc (.cells #[.slice (some ⟨g, 0, none⟩) L.length cap, .int .i64 0, .int .i64 0, .slice none 0 0, .int .i64 0, .int .i64 0] 136)) := (Step.ofBelow hb1 (Nat.le_refl _)).alloc hb1.size _
  clear hown hb1
  go_wp2_with fail
  refine (filter_all hL hE.out hS.out h1 (by simp) hpos).mono ?_
  intro e w2 hpost
  clear h1
  cases hres : Doc.pFilter L 6 0 with
  | err er p =>
    have HN : Hid (Doc.parse L = .err er p) := parse_err_of hres
    rw [hres] at hpost
    clear hres
    obtain ⟨k, j, Nv2, nodes2, rfl, h6, hpre2, hlen2, hs6, her, hij2, hj2⟩ := hpost
    have hs7 := hs1.trans hs6
    clear hs1 hs6
    obtain ⟨t, HT⟩ : ∃ t, Hid (t = Doc.tk L j) := ⟨_, rfl⟩
    go_wp2_with fail
    refine (now_st h6 hj2 hL t ((Doc.tk_eq hj2).trans HT.out.symm)).mono ?_
    rintro e w3 ⟨rfl, hb3⟩
    have h7 := h6.below hb3
    have hs8 := hs7.trans (Step.ofBelow hb3 h6.Ble)
    have hz : ((er : Int) != 0) = true := by rw [bne_iff_ne]; omega
    have hz2 : ((er : Int) == 0) = false := by rw [beq_eq_false_iff_ne]; omega
    have c4 := h7.c4
    have c5 := h7.c5
    have hlt := h7.lt
    by_cases kt : (t.kind == 101) = true
    · have kn : ((t.kind.toNat : Int) != 101) = false := kind_ne t.kind 101 (by omega) _ kt
      go_wp2_with fail
      go_region
      all_goals (try go_wp2_with fail)
      all_goals go_ret3
      all_goals (rw [HN.out]; exact ⟨rfl, her, (hs8.alloc h7.Ble _).below.drew⟩)
    · have kt : (t.kind == 101) = false := by simpa using kt
      have kn : ((t.kind.toNat : Int) != 101) = true := kind_ne t.kind 101 (by omega) _ kt
      go_wp2_with fail
      refine (wrong_old (h7.alloc _) her 6).mono ?_
      rintro e w4 ⟨rfl, rfl⟩
      go_wp2_with fail
      go_region
      all_goals (try go_wp2_with fail)
      all_goals go_ret3
      all_goals (rw [HN.out]; exact ⟨rfl, her, (hs8.alloc h7.Ble _).below.drew⟩)
  | ok a j =>
    rw [hres] at hpost
    have HR : Hid (Doc.pFilter L 6 0 = .ok a j) := hres
    clear hres
    obtain ⟨k, Nv2, nodes2, rfl, h6, hpre2, hlen2, hrep, hs6, hij2, hj2⟩ := hpost
    have hs7 := hs1.trans hs6
    clear hs1 hs6
    obtain ⟨t, HT⟩ : ∃ t, Hid (t = Doc.tk L j) := ⟨_, rfl⟩
    go_wp2_with fail
    refine (now_st h6 hj2 hL t ((Doc.tk_eq hj2).trans HT.out.symm)).mono ?_
    rintro e w3 ⟨rfl, hb3⟩
    have h7 := h6.below hb3
    have hs8 := hs7.trans (Step.ofBelow hb3 h6.Ble)
    have hrep7 := hrep.mono (Step.ofBelow hb3 h6.Ble) List.prefix_rfl
    clear h6 hs7 hb3 hrep
    by_cases kt : (t.kind == 101) = true
    · have kn : ((t.kind.toNat : Int) != 101) = false := kind_ne t.kind 101 (by omega) _ kt
      have HN : Hid (Doc.parse L = .ok a j) := parse_ok_of HR.out (by rw [← HT.out]; exact kt)
      clear kt
      have c4 := h7.c4z
      have c1 := h7.c1
      have f1 := h7.fr 1
      have hlt := h7.lt
      go_wp2_with fail
      go_ret3
      rw [HN.out]
      obtain ⟨h8, hs9⟩ := RSt.stored h7 (i := 1) (u := .int .i64 (k : Int)) (at2 := k) (op2 := 0) (E2 := 0) (p2 := 0) rfl
      exact ⟨_, k, _, Nv2, nodes2, rfl, h8.alloc _, (hrep7.mono hs9.step List.prefix_rfl).mono ((Step.refl _ _).alloc h8.Ble _) List.prefix_rfl, by simp at hlen2; omega, ((hs8.trans hs9.step).alloc h8.Ble _).below⟩
    · have kt : (t.kind == 101) = false := by simpa using kt
      have kn : ((t.kind.toNat : Int) != 101) = true := kind_ne t.kind 101 (by omega) _ kt
      have HN : Hid (Doc.parse L = .err 6 t.at_) := by have := parse_bad_of HR.out (by rw [← HT.out]; exact kt); rw [← HT.out] at this; exact this
      clear kt
      go_wp2_with fail
      refine (wrong_new (h7.alloc _) hj2 hL t ((Doc.tk_eq hj2).trans HT.out.symm) 6).mono ?_
      rintro e w4 ⟨rfl, h8, hs9⟩
      have c4 : w4.cell? ⟨_, 4, none⟩ = some (.int .i64 6) := h8.c4
      have c5 := h8.c5
      go_wp2_with fail
      go_region
      all_goals (try go_wp2_with fail)
      all_goals go_ret3
      all_goals (rw [HN.out]; exact ⟨rfl, by omega, ((hs8.alloc h7.Ble _).trans hs9.step).below.drew⟩)
end Go.Proofs.YtbnelaoeblhndaaGreatDoor
