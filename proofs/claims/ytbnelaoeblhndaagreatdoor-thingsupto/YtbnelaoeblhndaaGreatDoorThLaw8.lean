/- New of the program and of the document's answer, side by side; the walk of more. -/
import Derived.Test.YtbnelaoeblhndaaGreatDoorThLaw7
namespace Go.Proofs.YtbnelaoeblhndaaGreatDoor
open Go.RowKit
set_option maxRecDepth 100000

/-- What New leaves, of the program and of the document's answer. -/
def PNew (fs : List Doc.Fld) (space E : Int) (W : World) (e : Ending) (w' : World) : Prop := Below W.heap.size W w' ∧ ((E ≠ 0 ∧ e = .returned (.tuple #[.pointer none, .int .i64 E])) ∨ (E = 0 ∧ ∃ xb, e = .returned (.tuple #[.pointer (some ⟨xb, 0, none⟩), .int .i64 0]) ∧ ProgSt w' (fun k => W.heap.size ≤ k) xb fs space noneT))
def RNew (fs : List Doc.Fld) (space E : Int) (W : World) (e : Ending) (w' : World) : Prop := Below W.heap.size W w' ∧ ((E ≠ 0 ∧ e = .returned (.tuple #[.pointer none, .int .i64 E])) ∨ (E = 0 ∧ ∃ yb, e = .returned (.tuple #[.pointer (some ⟨yb, 0, none⟩), .int .i64 0]) ∧ RefSt w' (fun k => W.heap.size ≤ k) yb fs space []))

/-- A store is made of these. -/
def Doc.newOK (fs : List Doc.Fld) (space : Int) : Prop := ¬ Doc.newArg fs space ∧ (∀ j (h : j < fs.length), Doc.kindB fs[j].kind = true) ∧ ∀ j (h : j < fs.length), (Doc.nameB fs[j].name && !Doc.hasB (fs.take j) fs[j].name) = true

theorem new_both (fs : List Doc.Fld) (space : Int) (hnm : ∀ j (h : j < fs.length), fs[j].name.size ≤ 140737488351232) :
    ∃ E : Int, (Doc.newOK fs space → E = 0) ∧ (∀ (W : World) (sv : Value), Signs W → 1 < W.heap.size → Sl W sv fs.length (fldsC fs) → Calls Tryz.prog 39 #[sv, .int .i64 space] W (PNew fs space E W)) ∧
      (∀ (W : World) (sv : Value), Sl W sv fs.length (fldsC fs) → Calls Tryz.prog 89 #[sv, .int .i64 space] W (RNew fs space E W)) := by
  by_cases ha : Doc.newArg fs space
  · refine ⟨1, fun h => absurd ha h.1, fun W sv _ _ hs => ?_, fun W sv hs => ?_⟩
    · refine (pnew_bad sv space 1 (by decide) ((cnew_arg fs sv hs space ha).mono ?_)).mono ?_
      · rintro e w' ⟨rfl, rfl⟩; exact ⟨rfl, Below.refl _ _⟩
      · rintro e w' ⟨rfl, hb⟩; exact ⟨hb, .inl ⟨by decide, rfl⟩⟩
    · refine (rnew_arg fs sv hs space ha).mono ?_
      rintro e w' ⟨rfl, rfl⟩; exact ⟨Below.refl _ _, .inl ⟨by decide, rfl⟩⟩
  · have hk : 1 ≤ fs.length ∧ fs.length ≤ 4 ∧ 1 ≤ space ∧ space ≤ 4 := by
      unfold Doc.newArg at ha
      by_cases a1 : fs.length < 1
      · exact absurd (.inl a1) ha
      by_cases a2 : 4 < fs.length
      · exact absurd (.inr (.inl ⟨by omega, a2⟩)) ha
      by_cases a3 : space < 1
      · exact absurd (.inr (.inr (.inl ⟨by omega, by omega, a3⟩))) ha
      by_cases a4 : 4 < space
      · exact absurd (.inr (.inr (.inr ⟨by omega, by omega, by omega, a4⟩))) ha
      omega
    obtain ⟨k1, k2, k3, k4⟩ := hk
    by_cases hkd : ∀ j (h : j < fs.length), Doc.kindB fs[j].kind = true
    · by_cases hn : ∀ j (h : j < fs.length), (Doc.nameB fs[j].name && !Doc.hasB (fs.take j) fs[j].name) = true
      · refine ⟨0, fun _ => rfl, fun W sv hsg hg hs => ?_, fun W sv hs => ?_⟩
        · refine (pnew_ok hsg hg fs sv hs space k1 k2 k3 k4 hnm hkd hn).mono ?_
          rintro e w' ⟨xb, rfl, hp, hb⟩; exact ⟨hb, .inr ⟨rfl, xb, rfl, hp⟩⟩
        · refine (rnew_any fs sv hs space k1 k2 k3 k4 hnm).mono ?_
          rintro e w' (⟨_, _, j, h, hbad⟩ | ⟨_, _, _, j, h, hbad⟩ | ⟨_, _, rfl, hr, hb⟩)
          · rw [hkd j h] at hbad; cases hbad
          · rw [nameAt_eq fs j h, hn j h] at hbad; cases hbad
          · exact ⟨hb, .inr ⟨rfl, _, rfl, hr⟩⟩
      · refine ⟨2, fun h => absurd h.2.2 hn, fun W sv hsg hg hs => ?_, fun W sv hs => ?_⟩
        · refine (pnew_bad sv space 2 (by decide) ((cnew_any hsg hg fs sv hs space k1 k2 k3 k4 hnm).mono ?_)).mono ?_
          · rintro e w' ⟨hb, ⟨_, j, h, hbad⟩ | ⟨_, rfl, _⟩ | ⟨_, hall, _⟩⟩
            · rw [hkd j h] at hbad; cases hbad
            · exact ⟨rfl, hb⟩
            · exact absurd hall hn
          · rintro e w' ⟨rfl, hb⟩; exact ⟨hb, .inl ⟨by decide, rfl⟩⟩
        · refine (rnew_any fs sv hs space k1 k2 k3 k4 hnm).mono ?_
          rintro e w' (⟨_, _, j, h, hbad⟩ | ⟨_, rfl, hb, _⟩ | ⟨_, hall, _⟩)
          · rw [hkd j h] at hbad; cases hbad
          · exact ⟨hb, .inl ⟨by decide, rfl⟩⟩
          · exact absurd (fun j h => by rw [← nameAt_eq fs j h]; exact hall j h) hn
    · refine ⟨1, fun h => absurd h.2.1 hkd, fun W sv hsg hg hs => ?_, fun W sv hs => ?_⟩
      · refine (pnew_bad sv space 1 (by decide) ((cnew_any hsg hg fs sv hs space k1 k2 k3 k4 hnm).mono ?_)).mono ?_
        · rintro e w' ⟨hb, ⟨rfl, _⟩ | ⟨hall, _⟩ | ⟨hall, _⟩⟩
          · exact ⟨rfl, hb⟩
          · exact absurd hall hkd
          · exact absurd hall hkd
        · rintro e w' ⟨rfl, hb⟩; exact ⟨hb, .inl ⟨by decide, rfl⟩⟩
      · refine (rnew_any fs sv hs space k1 k2 k3 k4 hnm).mono ?_
        rintro e w' (⟨rfl, hb, _⟩ | ⟨hall, _⟩ | ⟨hall, _⟩)
        · exact ⟨hb, .inl ⟨by decide, rfl⟩⟩
        · exact absurd hall hkd
        · exact absurd hall hkd

theorem Tryz.infoPr : (Tryz.prog.info? 140).map (fun i => (i.zero, i.size, i.bytes)) = some (some (.agg #[.pointer none, .pointer none]), 2, 16) := by kernel_rfl

section
variable {w : World}
set_option maxHeartbeats 4000000 in
/-- The walk of more where no store is made. -/
theorem more_bad (fs : List Doc.Fld) (space E : Int) (hE : E ≠ 0) (hfl : fs.length ≤ 1000000000) (Fv : Value) (hF : In w Fv fs.length (fldsC fs)) (wb : Nat)
    (hX : ∀ W sv, Below w.heap.size w W → Sl W sv fs.length (fldsC fs) → Calls Tryz.prog 39 #[sv, .int .i64 space] W (PNew fs space E W))
    (hY : ∀ W, Below w.heap.size w W → Calls Tryz.prog 89 #[Fv, .int .i64 space] W (RNew fs space E W)) :
    Calls Tryz.prog 54 #[.pointer (some ⟨wb, 0, none⟩), Fv, .int .i64 space] w fun e w' => e = .returned (.bool true) ∧ Md (fun k => w.heap.size ≤ k) w w' := by
  obtain ⟨Fb, Fc, e1⟩ := hF.sl.slice
  subst e1
  have HLA : Hid _ := lentF_any fs hfl _ hF
  have HX : Hid _ := hX
  have HY : Hid _ := hY
  have HIF : Hid _ := hF
  clear hX hY hF
  go_enter Tryz.func54, Tryz.ntmps54
  go_wp2_with fail
  refine Calls.mono HLA.out ?_
  rintro e w1 hl1
  obtain ⟨b1, c1, rfl, g1, o1, s1, hb1⟩ := hl1.sl
  have HB1 : Hid _ := hb1
  have HG1 : Hid _ := g1
  have HCX : Hid _ := HX.out w1 _ hb1 s1
  clear hl1 g1 o1 s1 hb1 HLA
  go_wp2_with fail
  refine Calls.mono HCX.out ?_
  rintro e w2 ⟨hb2, he⟩
  obtain rfl : e = .returned (.tuple #[.pointer none, .int .i64 E]) := by
    rcases he with ⟨_, h⟩ | ⟨h, _⟩
    · exact h
    · exact absurd h hE
  have HB2 : Hid _ := Below.callB HB1.out (Nat.le_refl _) hb2
  have HG2 : Hid _ := (hb2.block w.heap.size (lt_block HG1.out)).trans HG1.out
  have HCY : Hid _ := HY.out w2 HB2.out
  clear he hb2 HCX
  go_wp2_with fail
  refine Calls.mono HCY.out ?_
  rintro e w3 ⟨hb3, he⟩
  obtain rfl : e = .returned (.tuple #[.pointer none, .int .i64 E]) := by
    rcases he with ⟨_, h⟩ | ⟨h, _⟩
    · exact h
    · exact absurd h hE
  have HB3 : Hid _ := Below.callB HB2.out (Nat.le_refl _) hb3
  have HG3 : Hid _ := (hb3.block w.heap.size (lt_block HG2.out)).trans HG2.out
  have HST : Hid _ := stillF_any fs hfl _ (HIF.out.sl.below HB3.out) w.heap.size HG3.out
  clear he hb3 HCY
  go_wp2_with fail
  refine Calls.mono HST.out ?_
  rintro e w4 ⟨rfl, hd4⟩
  have HD4 : Hid _ := hd4
  clear hd4 HST
  go_wp2_with fail
  refine (num_any' E w4).mono ?_
  rintro e w4' ⟨rfl, hw4⟩
  subst hw4
  go_wp2_with fail
  go_ret
  exact ⟨rfl, (Md.ofBelow HB3.out).trans (HD4.out.mono (fun k hk => by subst hk; exact Nat.le_refl _))⟩
end
end Go.Proofs.YtbnelaoeblhndaaGreatDoor
