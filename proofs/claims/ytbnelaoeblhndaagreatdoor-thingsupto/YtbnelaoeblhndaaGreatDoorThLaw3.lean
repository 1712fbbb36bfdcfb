/- The statement's gets. -/
import Derived.Test.YtbnelaoeblhndaaGreatDoorThLaw2
namespace Go.Proofs.YtbnelaoeblhndaaGreatDoor
open Go.RowKit
set_option maxRecDepth 100000

/-- What Get tells: spot, values, error. -/
def gotS (o : Option (List Int × List Doc.Val)) : List Int := match o with | some t => t.1 | none => []
def gotV (o : Option (List Int × List Doc.Val)) : List Doc.Val := match o with | some t => t.2 | none => []
def gotE (o : Option (List Int × List Doc.Val)) : Int := match o with | some _ => 0 | none => 4

section
variable {w : World} {F : Nat → Prop} {sb : Nat} {fs : List Doc.Fld} {space : Int} {ts : List Doc.Thg} {th : Has}

theorem pget_any (h : ProgSt w F sb fs space th) (id : Int) (h0 : -9223372036854775808 ≤ id) (h1 : id ≤ 9223372036854775807) :
    Calls Tryz.prog 32 #[.pointer (some ⟨sb, 0, none⟩), .int .i64 id] w fun e w' => ∃ v1 v2, e = .returned (.tuple #[v1, v2, .int .i64 (gotE (th id))]) ∧ w'.ownsRow w.heap.size 3 1 v1 (gotS (th id)).length (intC (gotS (th id))) ∧ w'.ownsRow w.heap.size 94 3 v2 (gotV (th id)).length (valsC (gotV (th id))) ∧ Below w.heap.size w w' := by
  obtain ⟨fv, hb, mt, mh, pos, h⟩ := h
  cases hn : th id with
  | none =>
    refine (pget_none h id h0 h1 hn).mono ?_
    rintro e w' ⟨rfl, hb'⟩
    exact ⟨_, _, rfl, World.ownsRow_nil _ _ _ _, World.ownsRow_nil _ _ _ _, hb'⟩
  | some t => exact pget_some h id t hn

theorem rget_any (h : RefSt w F sb fs space ts) (hl : ts.length ≤ 1000000) (id : Int) :
    Calls Tryz.prog 97 #[.pointer (some ⟨sb, 0, none⟩), .int .i64 id] w fun e w' => ∃ v1 v2, e = .returned (.tuple #[v1, v2, .int .i64 (gotE (hasOf ts id))]) ∧ Sl w' v1 (gotS (hasOf ts id)).length (intC (gotS (hasOf ts id))) ∧ Sl w' v2 (gotV (hasOf ts id)).length (valsC (gotV (hasOf ts id))) ∧ Below w.heap.size w w' := by
  obtain ⟨fv, tv, ps, h⟩ := h
  cases hn : Doc.idxT ts id with
  | none =>
    rw [has_none hn]
    refine (rget_none h (by omega) id hn).mono ?_
    rintro e w' ⟨rfl, rfl⟩
    exact ⟨_, _, rfl, ⟨.inl ⟨rfl, _, _, rfl⟩⟩, ⟨.inl ⟨rfl, _, _, rfl⟩⟩, Below.refl _ _⟩
  | some k =>
    obtain ⟨hk, h1, h2⟩ := has_some hn
    rw [h2]
    have hk' : k < ps.length := by rw [← h.len]; exact hk
    obtain ⟨r1, r2⟩ := h.each k hk hk'
    refine (rget_some h (by omega) id k hn hk hk').mono ?_
    rintro e w' ⟨rfl, hb'⟩
    exact ⟨_, _, rfl, (rowSl r1).below hb', (rowSl r2).below hb', hb'⟩
end

theorem num_any' (E : Int) (w : World) : Calls Tryz.prog 13 #[.int .i64 E] w fun e w' => e = .returned (.int .i64 E) ∧ w' = w := by
  go_enter Tryz.func13, Tryz.ntmps13
  go_wp2_with fail
  go_ret
  exact ⟨rfl, rfl⟩

section
variable {B : Nat} {w : World} {own : Nat → Nat} {wb : Nat} {ps : List Pr} {lv nsv knv vsv kvv : Value} {rows : List Value} {marks : List Int} {vrows : List Value} {vmarks : List Int}

set_option maxHeartbeats 4000000 in
/-- The walk of gets, of whatever the two stores tell. -/
theorem gets_walk (xb yb : Nat) (id : Int) (spot : List Int) (vals : List Doc.Val) (E : Int) (hsl : spot.length ≤ 1000) (hvl : vals.length ≤ 1000)
    (hX : ∀ W, Below w.heap.size w W → Calls Tryz.prog 32 #[.pointer (some ⟨xb, 0, none⟩), .int .i64 id] W fun e w' => ∃ v1 v2, e = .returned (.tuple #[v1, v2, .int .i64 E]) ∧ w'.ownsRow W.heap.size 3 1 v1 spot.length (intC spot) ∧ w'.ownsRow W.heap.size 94 3 v2 vals.length (valsC vals) ∧ Below W.heap.size W w')
    (hY : ∀ W, Below w.heap.size w W → Calls Tryz.prog 97 #[.pointer (some ⟨yb, 0, none⟩), .int .i64 id] W fun e w' => ∃ v1 v2, e = .returned (.tuple #[v1, v2, .int .i64 E]) ∧ Sl w' v1 spot.length (intC spot) ∧ Sl w' v2 vals.length (valsC vals) ∧ Below W.heap.size W w')
    (R : World → World → Prop)
    (hN : ∀ W l v, Below w.heap.size w W → W.ownsRow w.heap.size 3 1 l spot.length (intC spot) → W.ownsRow w.heap.size 94 3 v vals.length (valsC vals) → Calls Tryz.prog 99 #[.pointer (some ⟨wb, 1, none⟩), l] W fun e w1 => e = .returned (.tuple #[]) ∧ Calls Tryz.prog 100 #[.pointer (some ⟨wb, 1, none⟩), v] w1 fun e w2 => e = .returned (.tuple #[]) ∧ R W w2) :
    Calls Tryz.prog 58 #[.pointer (some ⟨wb, 0, none⟩), .agg #[.pointer (some ⟨xb, 0, none⟩), .pointer (some ⟨yb, 0, none⟩)], .int .i64 id] w fun e w' => e = .returned (.bool true) ∧ ∃ W, Below w.heap.size w W ∧ R W w' := by
  have HX : Hid _ := hX
  have HY : Hid _ := hY
  have HN : Hid _ := hN
  clear hX hY hN
  have hba : Below w.heap.size w (w.alloc (.cells #[.pointer (some ⟨xb, 0, none⟩), .pointer (some ⟨yb, 0, none⟩)] 140)) := (Below.refl _ _).alloc (Nat.le_refl _) _
  have HBA : Hid _ := hba
  go_enter Tryz.func58, Tryz.ntmps58
  go_wp2_with fail
  refine (HX.out _ HBA.out).mono ?_
  rintro e w1 ⟨v1, v2, rfl, r1, r2, hb1⟩
  obtain ⟨b1, c1, rfl⟩ := row_slice r1
  obtain ⟨b2, c2, rfl⟩ := row_slice r2
  have q1 := (hb1.block w.heap.size (by simp)).trans (heap_alloc_new w _)
  have y1 := blk_cell q1 1 _ rfl
  have HB1 : Hid _ := Below.callB HBA.out (Nat.le_refl _) hb1
  have R1 : Hid _ := own_less r1 (by simp : w.heap.size ≤ _)
  have R2 : Hid _ := own_less r2 (by simp : w.heap.size ≤ _)
  clear r1 r2 hb1 q1 hba
  go_wp2_with fail
  refine (HY.out w1 HB1.out).mono ?_
  rintro e w2 ⟨u1, u2, rfl, s1, s2, hb2⟩
  obtain ⟨b3, c3, rfl⟩ := s1.slice
  obtain ⟨b4, c4, rfl⟩ := s2.slice
  have R3 : Hid _ := row_below R1.out hb2
  have R4 : Hid _ := row_below R2.out hb2
  have HB2 : Hid _ := Below.callB HB1.out (Nat.le_refl _) hb2
  have HSA : Hid _ := same_any spot (by omega) _ _ (rowSl R3.out) s1
  have S2 : Hid _ := s2
  clear s1 s2 hb2 y1
  go_wp2_with fail
  refine Calls.mono HSA.out ?_
  rintro e w3 ⟨rfl, hb3⟩
  have R5 : Hid _ := row_below R3.out hb3
  have R6 : Hid _ := row_below R4.out hb3
  have S6 : Hid _ := S2.out.below hb3
  have HB3 : Hid _ := Below.callB HB2.out (Nat.le_refl _) hb3
  clear hb3
  go_wp2_with fail
  refine (num_any' E w3).mono ?_
  rintro e w3' ⟨rfl, hw3⟩
  subst hw3
  go_wp2_with fail
  go_loopw [13, 14] (fun ok i wr => ok = .bool true ∧ ∃ k : Nat, k ≤ vals.length ∧ i = .int .i64 k ∧ Below w3'.heap.size w3' wr) (fun _ i _ => vals.length - (intOf i).toNat)
  case atStart => exact ⟨rfl, 0, Nat.zero_le _, rfl, Below.refl _ _⟩
  case round =>
    obtain ⟨rfl, k, hk, rfl, hb⟩ := hrel
    by_cases hk2 : k < vals.length
    · have hrow := rowSl (row_below R6.out hb)
      have hsl2 := S6.out.below hb
      rcases hrow.has with ⟨h0, _⟩ | ⟨_, g, o1, cp1, he1, _, _, hr1⟩
      · omega
      rcases hsl2.has with ⟨h0, _⟩ | ⟨_, b, off, cp2, he2, _, _, hr2⟩
      · omega
      simp only [Value.slice.injEq] at he1 he2
      obtain ⟨rfl, _, rfl⟩ := he1
      obtain ⟨rfl, _, rfl⟩ := he2
      obtain ⟨x, HX2⟩ : ∃ x, Hid (x = vals[k]) := ⟨vals[k], rfl⟩
      have hv : ∀ c, c < 3 → (valsC vals)[k * 3 + c]? = (valC x)[c]? := fun c hc => by unfold valsC; rw [flat_at valC 3 valC_len vals k hk2 c hc, HX2.out]
      have a0 := hr1 (k * 3 + 0) (.int .i64 x.k) (hv 0 (by omega))
      have a1 := hr1 (k * 3 + 1) (.int .i64 x.n) (hv 1 (by omega))
      have a2 := hr1 (k * 3 + 2) (.string x.s) (hv 2 (by omega))
      have d0 := hr2 (k * 3 + 0) (.int .i64 x.k) (hv 0 (by omega))
      have d1 := hr2 (k * 3 + 1) (.int .i64 x.n) (hv 1 (by omega))
      have d2 := hr2 (k * 3 + 2) (.string x.s) (hv 2 (by omega))
      rw [Nat.add_zero] at a0 d0
      rw [← Nat.add_assoc] at a1 a2 d1 d2
      clear hr1 hr2 hv hrow hsl2
      go_wp2_with fail
      go_quiet (fail)
      go_wp2_with fail
      exact ⟨⟨by first | rfl | simp, k + 1, by omega, by go_num, below_drewN hb⟩, by simp [intOf]; omega⟩
    · obtain rfl : k = vals.length := by omega
      have HBW : Hid _ := Below.callB HB3.out (Nat.le_refl _) hb
      have HNV : Hid _ := HN.out wr _ _ HBW.out (row_below R5.out hb) (row_below R6.out hb)
      go_wp2_with fail
      refine Calls.mono HNV.out ?_
      rintro e w5 ⟨rfl, hv5⟩
      have HV5 : Hid _ := hv5
      clear hv5
      go_wp2_with fail
      refine Calls.mono HV5.out ?_
      rintro e w6 ⟨rfl, hr6⟩
      go_wp2_with fail
      go_ret
      exact ⟨rfl, wr, HBW.out, hr6⟩
end
end Go.Proofs.YtbnelaoeblhndaaGreatDoor
