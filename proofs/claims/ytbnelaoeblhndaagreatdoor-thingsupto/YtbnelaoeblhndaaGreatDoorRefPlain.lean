/- rummageref.Plain, whole: it answers as the plain functions say. -/
import Derived.Test.YtbnelaoeblhndaaGreatDoorRefText2
import Derived.Test.YtbnelaoeblhndaaGreatDoorRefParse
import Derived.Test.YtbnelaoeblhndaaGreatDoorParsePos
namespace Go.Proofs.YtbnelaoeblhndaaGreatDoor
open Go.RowKit
set_option maxRecDepth 100000

theorem text_all : ∀ a : Doc.Ast, Doc.Fine a → TextC a := by
  intro a
  induction a with
  | test name ask lits =>
    intro hf B w fb Lv L at_ op Nv nodes E p k h hn hrep hlen
    cases hrep with
    | test h1 h2 h3 => exact text_test h hn h1 h2 h3 hf.1 hf.2 hlen
  | not a ih =>
    intro hf B w fb Lv L at_ op Nv nodes E p k h hn hrep hlen
    cases hrep with
    | not h1 h2 h3 h4 h5 => exact text_not (@ih hf) h hn h1 h2 h3 h4 h5 hlen
  | and a b iha ihb =>
    intro hf B w fb Lv L at_ op Nv nodes E p k h hn hrep hlen
    cases hrep with
    | and h1 h2 h3 h4 h5 h6 h7 => exact text_and (@iha hf.1) (@ihb hf.2) h hn h1 h2 h3 h4 h5 h6 h7 hlen
  | or a b iha ihb =>
    intro hf B w fb Lv L at_ op Nv nodes E p k h hn hrep hlen
    cases hrep with
    | or h1 h2 h3 h4 h5 h6 h7 => exact text_or (@iha hf.1) (@ihb hf.2) h hn h1 h2 h3 h4 h5 h6 h7 hlen

/-- What Plain hands back. -/
def answerV (x : List UInt8 × Nat × Nat) : Value := .tuple #[.string ⟨x.1.toArray⟩, .int .i64 x.2.1, .int .i64 x.2.2]

set_option maxHeartbeats 1000000 in
theorem ref_plain (s : ByteArray) (w : World) :
    Calls Tryz.prog 35 #[.string s] w fun e w' => e = .returned (answerV (Doc.answer s)) ∧ Below w.heap.size w w' := by
  by_cases hs : 200 < s.size
  · have HA : Hid (Doc.answer s = ([], 5, 0)) := by show _ = _; unfold Doc.answer; rw [if_pos hs]
    go_enter Tryz.func35, Tryz.ntmps35
    go_wp2_with fail
    refine (parse_long s _ hs).mono ?_
    rintro e w1 ⟨rfl, rfl⟩
    go_wp2_with fail
    go_ret3
    rw [HA.out]
    exact ⟨rfl, Below.refl _ _⟩
  · have hs' : s.size ≤ 200 := by omega
    have hok := Doc.ok_toks s hs'
    have hpos := Doc.toks_pos s
    cases hres : Doc.parse (Doc.toks s 0) with
    | err er p =>
      have HA : Hid (Doc.answer s = ([], er, p)) := by show _ = _; unfold Doc.answer; rw [if_neg hs, hres]
      have HC := parse_any s w hs'
      rw [hres] at HC
      have HC' : Hid (Calls Tryz.prog 52 #[.string s] w (PPost w (Doc.toks s 0) (.err er p))) := HC
      clear HC hres hok hpos
      go_enter Tryz.func35, Tryz.ntmps35
      go_wp2_with fail
      refine HC'.out.mono ?_
      rintro e w1 ⟨rfl, her, hb⟩
      have hz : ((er : Int) != 0) = true := by rw [bne_iff_ne]; omega
      go_wp2_with fail
      go_ret3
      rw [HA.out]
      exact ⟨rfl, hb⟩
    | ok a j =>
      have HA : Hid (Doc.answer s = (Doc.plain a, 0, 0)) := by show _ = _; unfold Doc.answer; rw [if_neg hs, hres]
      have hf := Doc.parse_fine hok hpos hres
      have HT : Hid (TextC a) := @text_all a hf.1
      have HC := parse_any s w hs'
      rw [hres] at HC
      have HC' : Hid (Calls Tryz.prog 52 #[.string s] w (PPost w (Doc.toks s 0) (.ok a j))) := HC
      have HL : Hid ((Doc.plain a).length ≤ 80000) := hf.2
      clear HC hres hok hpos hf
      go_enter Tryz.func35, Tryz.ntmps35
      go_wp2_with fail
      refine HC'.out.mono ?_
      rintro e w1 ⟨fb, k, Lv, Nv, nodes, rfl, h1, hrep, hn, hb⟩
      have c1 := h1.c1
      go_wp2_with fail
      refine (HT.out h1 hn hrep HL.out).mono ?_
      rintro e w2 ⟨D, HD, hD, rfl, hb2⟩
      go_wp2_with fail
      go_ret3
      rw [HA.out]
      exact ⟨by rw [HD.out]; rfl, hb.trans (hb2.mono hb.size)⟩
end Go.Proofs.YtbnelaoeblhndaaGreatDoor
