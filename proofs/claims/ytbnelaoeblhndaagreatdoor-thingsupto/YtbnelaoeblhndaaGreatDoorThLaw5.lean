/- Put and Drop of the program and of the document's answer, side by side. -/
import Derived.Test.YtbnelaoeblhndaaGreatDoorThLaw4
namespace Go.Proofs.YtbnelaoeblhndaaGreatDoor
open Go.RowKit
set_option maxRecDepth 100000

/-- What a turn of the program's store leaves. -/
def PTurn (fs : List Doc.Fld) (space : Int) (xb : Nat) (th' : Has) (E : Int) (W : World) (F : Nat → Prop) (e : Ending) (w' : World) : Prop := e = .returned (.int .i64 E) ∧ ProgSt w' (fun k => F k ∨ W.heap.size ≤ k) xb fs space th' ∧ Md F W w'
def RTurn (fs : List Doc.Fld) (space : Int) (yb : Nat) (ts' : List Doc.Thg) (E : Int) (W : World) (F : Nat → Prop) (e : Ending) (w' : World) : Prop := e = .returned (.int .i64 E) ∧ RefSt w' (fun k => F k ∨ W.heap.size ≤ k) yb fs space ts' ∧ Md F W w'

theorem pturn_below {fs : List Doc.Fld} {space : Int} {xb : Nat} {th : Has} {E : Int} {W w' : World} {F : Nat → Prop} (h : ProgSt W F xb fs space th) (hb : Below W.heap.size W w') : PTurn fs space xb th E W F (.returned (.int .i64 E)) w' :=
  ⟨rfl, h.kept (fun k _ hk => hb.block k hk) (fun k hk _ => .inl hk), Md.ofBelow hb⟩
theorem rturn_below {fs : List Doc.Fld} {space : Int} {yb : Nat} {ts : List Doc.Thg} {E : Int} {W w' : World} {F : Nat → Prop} (h : RefSt W F yb fs space ts) (hb : Below W.heap.size W w') : RTurn fs space yb ts E W F (.returned (.int .i64 E)) w' :=
  ⟨rfl, h.kept' (fun k _ hk => hb.block k hk) (fun k hk _ => .inl hk), Md.ofBelow hb⟩

theorem put_both {w : World} {F0 : Nat → Prop} {xb0 : Nat} (fs : List Doc.Fld) (space id : Int) (ts : List Doc.Thg) (hu : Uniq ts) (hP : ProgSt w F0 xb0 fs space (hasOf ts)) (spot : List Int) (vals : List Doc.Val) (hsl : spot.length ≤ 9223372036854775807) :
    ∃ (E : Int) (ts' : List Doc.Thg), Uniq ts' ∧
      (∀ (W : World) (F : Nat → Prop) (xb : Nat) (sv vv : Value), ProgSt W F xb fs space (hasOf ts) → Sl W sv spot.length (intC spot) → Sl W vv vals.length (valsC vals) → Calls Tryz.prog 28 #[.pointer (some ⟨xb, 0, none⟩), .int .i64 id, sv, vv] W (PTurn fs space xb (hasOf ts') E W F)) ∧
      (∀ (W : World) (F : Nat → Prop) (yb : Nat) (sv vv : Value), RefSt W F yb fs space ts → Sl W sv spot.length (intC spot) → Sl W vv vals.length (valsC vals) → Calls Tryz.prog 93 #[.pointer (some ⟨yb, 0, none⟩), .int .i64 id, sv, vv] W (RTurn fs space yb ts' E W F)) := by
  obtain ⟨hlen, _⟩ := ref_rng hP rfl hu
  obtain ⟨_, _, _, _, _, h0⟩ := hP
  have hfl := h0.len
  have hsp := h0.spc
  have hkd := h0.kind
  by_cases ha : Doc.putArg fs space id spot vals
  · refine ⟨1, ts, hu, fun W F xb sv vv hp hs hv => ?_, fun W F yb sv vv hr hs hv => ?_⟩
    · have hp' := hp
      obtain ⟨fv, hb, mt, mh, pos, h⟩ := hp
      obtain ⟨c0, c1, c2⟩ := h.cells
      refine (pput_bad id 1 (by decide) sv vv ((cput_arg xb fs space id fv sv vv c0 c1 (rowSl h.fld) spot vals hs hv hsl ha).mono ?_)).mono ?_
      · rintro e w' ⟨rfl, rfl⟩; exact ⟨rfl, Below.refl _ _⟩
      · rintro e w' ⟨rfl, hb'⟩; exact pturn_below hp' hb'
    · have hr' := hr
      obtain ⟨fv, tv, ps, h⟩ := hr
      refine (rput_arg h id spot vals sv vv hs hv hsl ha).mono ?_
      rintro e w' ⟨rfl, rfl⟩
      exact rturn_below hr' (Below.refl _ _)
  · have hk : 0 ≤ id ∧ id ≤ 4095 ∧ Doc.spotB space spot = true ∧ vals.length = fs.length := by
      unfold Doc.putArg at ha
      by_cases a1 : id < 0
      · exact absurd (.inl a1) ha
      by_cases a2 : 4095 < id
      · exact absurd (.inr (.inl ⟨by omega, a2⟩)) ha
      cases a3 : Doc.spotB space spot with
      | false => exact absurd (.inr (.inr (.inl ⟨by omega, by omega, a3⟩))) ha
      | true =>
        by_cases a4 : vals.length = fs.length
        · exact ⟨by omega, by omega, rfl, a4⟩
        · exact absurd (.inr (.inr (.inr ⟨by omega, by omega, a3, a4⟩))) ha
    obtain ⟨k1, k2, k3, k4⟩ := hk
    have hl := spot_len k3
    by_cases hg : ∀ j (h1 : j < vals.length) (h2 : j < fs.length), Doc.goodV vals[j] fs[j].kind = true
    · refine ⟨0, Doc.putT ts ⟨id, spot, vals⟩, uniq_put hu _, fun W F xb sv vv hp hs hv => ?_, fun W F yb sv vv hr hs hv => ?_⟩
      · obtain ⟨fv, hb, mt, mh, pos, h⟩ := hp
        rw [has_put hu]
        exact pput_ok h id sv vv spot vals hs hv k1 k2 k3 k4 hg
      · obtain ⟨fv, tv, ps, h⟩ := hr
        refine (rput_any h (by omega) id spot vals sv vv hs hv (by omega) (by omega) (by omega) (by omega) k1 k2 k3 k4).mono ?_
        rintro e w' (⟨_, _, j, h1, h2, hbad⟩ | ⟨rfl, _, hr', hd⟩)
        · rw [hg j h1 h2] at hbad; cases hbad
        · exact ⟨rfl, hr', hd⟩
    · have hbad : ∃ j, ∃ (h1 : j < vals.length) (h2 : j < fs.length), Doc.goodV vals[j] fs[j].kind = false := by
        apply Classical.byContradiction
        intro hc
        exact hg (fun j h1 h2 => by
          cases hx : Doc.goodV vals[j] fs[j].kind with
          | true => rfl
          | false => exact absurd ⟨j, h1, h2, hx⟩ hc)
      refine ⟨3, ts, hu, fun W F xb sv vv hp hs hv => ?_, fun W F yb sv vv hr hs hv => ?_⟩
      · have hp' := hp
        obtain ⟨fv, hb, mt, mh, pos, h⟩ := hp
        obtain ⟨c0, c1, c2⟩ := h.cells
        refine (pput_bad id 3 (by decide) sv vv ((cput_any xb h.lt fs hkd space id fv sv vv c0 c1 (rowSl h.fld) spot vals hs hv hsl (by omega) (by omega) k1 k2 k3 k4).mono ?_)).mono ?_
        · rintro e w' ⟨hb', ⟨rfl, _⟩ | ⟨_, hall⟩⟩
          · exact ⟨rfl, hb'⟩
          · exact absurd hall hg
        · rintro e w' ⟨rfl, hb'⟩; exact pturn_below hp' hb'
      · have hr' := hr
        obtain ⟨fv, tv, ps, h⟩ := hr
        refine (rput_any h (by omega) id spot vals sv vv hs hv (by omega) (by omega) (by omega) (by omega) k1 k2 k3 k4).mono ?_
        rintro e w' (⟨rfl, hb', _⟩ | ⟨_, hall, _⟩)
        · exact rturn_below hr' hb'
        · exact absurd hall hg

theorem drop_both {w : World} {F0 : Nat → Prop} {xb0 : Nat} (fs : List Doc.Fld) (space id : Int) (h0 : -9223372036854775808 ≤ id) (h1 : id ≤ 9223372036854775807) (ts : List Doc.Thg) (hu : Uniq ts) (hP : ProgSt w F0 xb0 fs space (hasOf ts)) :
    ∃ (E : Int) (ts' : List Doc.Thg), Uniq ts' ∧
      (∀ (W : World) (F : Nat → Prop) (xb : Nat), ProgSt W F xb fs space (hasOf ts) → Calls Tryz.prog 22 #[.pointer (some ⟨xb, 0, none⟩), .int .i64 id] W (PTurn fs space xb (hasOf ts') E W F)) ∧
      (∀ (W : World) (F : Nat → Prop) (yb : Nat), RefSt W F yb fs space ts → Calls Tryz.prog 57 #[.pointer (some ⟨yb, 0, none⟩), .int .i64 id] W (RTurn fs space yb ts' E W F)) := by
  obtain ⟨hlen, _⟩ := ref_rng hP rfl hu
  cases hn : Doc.idxT ts id with
  | none =>
    have hh := has_none hn
    refine ⟨4, ts, hu, fun W F xb hp => ?_, fun W F yb hr => ?_⟩
    · have hp' := hp
      obtain ⟨fv, hb, mt, mh, pos, h⟩ := hp
      refine (pdrop_none h id h0 h1 hh).mono ?_
      rintro e w' ⟨rfl, hb'⟩; exact pturn_below hp' hb'
    · have hr' := hr
      obtain ⟨fv, tv, ps, h⟩ := hr
      refine (rdrop_none h (by omega) id hn).mono ?_
      rintro e w' ⟨rfl, rfl⟩; exact rturn_below hr' (Below.refl _ _)
  | some k =>
    obtain ⟨hk, _, hh⟩ := has_some hn
    refine ⟨0, ts.eraseIdx k, uniq_drop hu k, fun W F xb hp => ?_, fun W F yb hr => ?_⟩
    · obtain ⟨fv, hb, mt, mh, pos, h⟩ := hp
      rw [has_drop hu hn]
      refine (pdrop_some h id _ hh).mono ?_
      rintro e w' ⟨rfl, h', hd⟩
      exact ⟨rfl, ⟨fv, hb, mt, mh, pos, h'.kept (fun _ _ _ => rfl) (fun k hk _ => .inl hk)⟩, hd⟩
    · obtain ⟨fv, tv, ps, h⟩ := hr
      exact rdrop_some h (by omega) id k hn
end Go.Proofs.YtbnelaoeblhndaaGreatDoor
