/- What a turn of one pair leaves; puts and drops. -/
import Derived.Test.YtbnelaoeblhndaaGreatDoorThLaw6
namespace Go.Proofs.YtbnelaoeblhndaaGreatDoor
open Go.RowKit
set_option maxRecDepth 100000

theorem prsC_set (ps : List Pr) (i : Nat) (hi : i < ps.length) (ts' : List Doc.Thg) : prsC (ps.set i { ps[i] with ts := ts' }) = prsC ps := by
  induction ps generalizing i with
  | nil => rfl
  | cons a r ih =>
    cases i with
    | zero => simp [prsC, prC]
    | succ i =>
      have := ih i (by simpa using hi)
      simp only [prsC, List.set_cons_succ, List.flatMap_cons, List.getElem_cons_succ] at this ⊢
      rw [this]

section
variable {B : Nat} {w : World} {own : Nat → Nat} {wb : Nat} {ps : List Pr} {lv nsv knv vsv kvv : Value} {rows : List Value} {marks : List Int} {vrows : List Value} {vmarks : List Int}

theorem law_turn (hA : LawAt B w own wb ps lv nsv knv vsv kvv rows marks vrows vmarks) (i : Nat) (hi : i < ps.length) (ts' : List Doc.Thg) (hu : Uniq ts') {w' : World} {own' : Nat → Nat} (hs : w.heap.size ≤ w'.heap.size) (ho : ∀ k, k < w.heap.size → own' k = own k)
    (hk : ∀ k, B ≤ k → k < w.heap.size → own k ≠ 2 * i + 3 → own k ≠ 2 * i + 4 → w'.heap[k]? = w.heap[k]?)
    (hP : ProgSt w' (Cl B w'.heap.size own' (2 * i + 3)) ps[i].xb ps[i].fs ps[i].space (hasOf ts')) (hR : RefSt w' (Cl B w'.heap.size own' (2 * i + 4)) ps[i].yb ps[i].fs ps[i].space ts') :
    LawAt B w' own' wb (ps.set i { ps[i] with ts := ts' }) lv nsv knv vsv kvv rows marks vrows vmarks := by
  have kc : ∀ c, c ≠ 2 * i + 3 → c ≠ 2 * i + 4 → ∀ k, Cl B w.heap.size own c k → k < w.heap.size → w'.heap[k]? = w.heap[k]? := fun c h1 h2 k h hkl => hk k h.1 hkl (by rw [h.2.2]; exact h1) (by rw [h.2.2]; exact h2)
  have mv : ∀ c k, Cl B w.heap.size own c k → k < w.heap.size → Cl B w'.heap.size own' c k := fun c k h _ => h.mono hs ho
  refine ⟨(kc 0 (by omega) (by omega) wb hA.wbc hA.wbc.2.1).trans hA.blk, hA.wbc.mono hs ho, ?_, fun k e => (hA.prc k e).mono hs ho, hA.bkn.kept (kc 1 (by omega) (by omega)) (mv 1), hA.bkv.kept (kc 2 (by omega) (by omega)) (mv 2), fun j hj => ?_⟩
  · rw [prsC_set ps i hi, List.length_set]
    exact rowKept hA.prs (fun k _ ek ho' => (kc 0 (by omega) (by omega) k (hA.prc k ek) (ownLt hA.prs ek)).trans ho')
  · have hj' : j < ps.length := by simpa using hj
    by_cases e : i = j
    · subst e
      rw [List.getElem_set_self]
      exact ⟨hP, hR, hu⟩
    · rw [List.getElem_set_ne e]
      obtain ⟨h1, h2, h3⟩ := hA.sts j hj'
      exact ⟨h1.kept (kc _ (by omega) (by omega)) (mv _), h2.kept' (kc _ (by omega) (by omega)) (mv _), h3⟩

/-- A turn of a pair, as puts and the step leave it. -/
theorem law_both (hB : B ≤ w.heap.size) (hA : LawAt B w own wb ps lv nsv knv vsv kvv rows marks vrows vmarks) (i : Nat) (hi : i < ps.length) (ts' : List Doc.Thg) (hu : Uniq ts') (E : Int) {W2 W3 W4 w' : World} {e3 e4 : Ending} (h2 : Below w.heap.size w W2)
    (h3 : PTurn ps[i].fs ps[i].space ps[i].xb (hasOf ts') E W2 (Cl B w.heap.size own (2 * i + 3)) e3 W3) (h4 : RTurn ps[i].fs ps[i].space ps[i].yb ts' E W3 (Cl B w.heap.size own (2 * i + 4)) e4 W4) (h5 : Md (fun k => w.heap.size ≤ k ∧ k < W2.heap.size) W4 w') :
    Below B w w' ∧ ∃ own', LawAt B w' own' wb (ps.set i { ps[i] with ts := ts' }) lv nsv knv vsv kvv rows marks vrows vmarks := by
  obtain ⟨_, p3, d3⟩ := h3
  obtain ⟨_, r4, d4⟩ := h4
  have s2 := h2.size
  have s3 := d3.size
  have s4 := d4.size
  have s5 := h5.size
  refine ⟨⟨h5.below.os.trans (d4.below.os.trans (d3.below.os.trans h2.os)), h5.below.tape.trans (d4.below.tape.trans (d3.below.tape.trans h2.tape)), h5.below.output.trans (d4.below.output.trans (d3.below.output.trans h2.output)), by omega, fun k hk => ?_⟩, ?_⟩
  · rw [h5.only k (by omega) (fun h => by have := h.1; omega), d4.only k (by omega) (fun h => by have := h.1; omega), d3.only k (by omega) (fun h => by have := h.1; omega), h2.block k (by omega)]
  obtain ⟨own', ho1, ho2, ho3⟩ : ∃ own' : Nat → Nat, (∀ k, k < w.heap.size → own' k = own k) ∧ (∀ k, W2.heap.size ≤ k → k < W3.heap.size → own' k = 2 * i + 3) ∧ (∀ k, W3.heap.size ≤ k → k < W4.heap.size → own' k = 2 * i + 4) := by
    refine ⟨fun k => if k < w.heap.size then own k else if k < W2.heap.size then 0 else if k < W3.heap.size then 2 * i + 3 else 2 * i + 4, fun k hk => by simp [hk], fun k h1 h2 => ?_, fun k h1 h2 => ?_⟩
    · simp [show ¬ k < w.heap.size by omega, show ¬ k < W2.heap.size by omega, h2]
    · simp [show ¬ k < w.heap.size by omega, show ¬ k < W2.heap.size by omega, show ¬ k < W3.heap.size by omega]
  refine ⟨own', law_turn hA i hi ts' hu (by omega) ho1 (fun k h1 h2' h3' h4' => ?_) (p3.kept (fun k h hk => ?_) (fun k h hk => ?_)) (r4.kept' (fun k h hk => ?_) (fun k h hk => ?_))⟩
  · rw [h5.only k (by omega) (fun h => by have := h.1; omega), d4.only k (by omega) (fun h => h4' h.2.2), d3.only k (by omega) (fun h => h3' h.2.2), h2.block k h2']
  · rw [h5.only k (by omega) (fun h' => by rcases h with h | h; have := h.2.1; omega; omega), d4.only k hk (fun h' => by rcases h with h | h; have := h.2.2; have := h'.2.2; omega; have := h'.2.1; omega)]
  · rcases h with h | h
    · exact h.mono (by omega) ho1
    · exact ⟨by omega, by omega, ho2 k h hk⟩
  · rw [h5.only k hk (fun h' => by rcases h with h | h; have := h.2.1; omega; omega)]
  · rcases h with h | h
    · exact h.mono (by omega) ho1
    · exact ⟨by omega, by omega, ho3 k h hk⟩

theorem puts_any (hB : B ≤ w.heap.size) (hA : LawAt B w own wb ps lv nsv knv vsv kvv rows marks vrows vmarks) (i : Nat) (hi : i < ps.length) (id : Int) (s0 s1 : Int) (s2 : ByteArray) (Fb : Option Addr) (Fn Fc : Nat)
    (spot : List Int) (vals : List Doc.Val) (hsl : spot.length ≤ 1000000000) (hvl : vals.length ≤ 1000000000) (Lv Vv : Value) (hL : In w Lv spot.length (intC spot)) (hV : In w Vv vals.length (valsC vals))
    (hLf : 0 < spot.length → ∀ k, Lv.ownBlock = some k → k < w.heap.size ∧ (k < B ∨ own k = 0)) (hVf : 0 < vals.length → ∀ k, Vv.ownBlock = some k → k < w.heap.size ∧ (k < B ∨ own k = 0)) :
    Calls Tryz.prog 56 #[.pointer (some ⟨wb, 0, none⟩), .agg #[.pointer (some ⟨ps[i].xb, 0, none⟩), .pointer (some ⟨ps[i].yb, 0, none⟩)], .agg #[.int .i64 s0, .int .i64 s1, .int .i64 id, .string s2, .slice Fb Fn Fc, Lv, Vv]] w fun e w' => e = .returned (.bool true) ∧ Below B w w' ∧ ∃ own' ps', ps'.length = ps.length ∧ LawAt B w' own' wb ps' lv nsv knv vsv kvv rows marks vrows vmarks := by
  obtain ⟨q1, q2, q3⟩ := hA.sts i hi
  obtain ⟨E, ts', hu, hX, hY⟩ := put_both ps[i].fs ps[i].space id ps[i].ts q3 q1 spot vals (by omega)
  have free : ∀ {v : Value}, (∀ k, v.ownBlock = some k → k < w.heap.size ∧ (k < B ∨ own k = 0)) → ∀ k, v.ownBlock = some k → k < w.heap.size ∧ ¬ Cl B w.heap.size own (2 * i + 3) k ∧ ¬ Cl B w.heap.size own (2 * i + 4) k := fun {v} hf k ek => by
    obtain ⟨h1, h2⟩ := hf k ek
    refine ⟨h1, fun h => ?_, fun h => ?_⟩
    · have a := h.1; have b := h.2.2; omega
    · have a := h.1; have b := h.2.2; omega
  refine (puts_walk (FX := Cl B w.heap.size own (2 * i + 3)) (FY := Cl B w.heap.size own (2 * i + 4)) ps[i].xb ps[i].yb ps[i].fs ps[i].space id (hasOf ts') ts' E wb s0 s1 s2 Fb Fn Fc spot vals hsl hvl Lv Vv hL hV (fun W sv vv hW h1 h2 => hX W _ _ sv vv (q1.kept (fun k _ hk => hW.block k hk) (fun k h _ => h)) h1 h2)
    (fun W0 W hW0 hd => hY W _ _ Lv Vv (q2.kept' (fun k h hk => ?_) (fun k h _ => h)) (hL.sl.own ?_ (fun h0 k ek hk => ?_)) (hV.sl.own ?_ (fun h0 k ek hk => ?_))) (fun h0 => free (hLf h0)) (fun h0 => free (hVf h0)) (fun k h => h.2.1) (fun k h => h.2.1)).mono ?_
  · have := hW0.size
    rw [hd.only k (by omega) (fun h' => by have a := h.2.2; have b := h'.2.2; omega), hW0.block k hk]
  · have := hW0.size; have := hd.size; omega
  · have := hW0.size
    rw [hd.only k (by omega) (free (hLf h0) k ek).2.1, hW0.block k hk]
  · have := hW0.size; have := hd.size; omega
  · have := hW0.size
    rw [hd.only k (by omega) (free (hVf h0) k ek).2.1, hW0.block k hk]
  · rintro e w' ⟨rfl, W2, W3, W4, h2, ⟨e3, h3⟩, ⟨e4, h4⟩, h5⟩
    obtain ⟨hb, own', hl⟩ := law_both hB hA i hi ts' hu E h2 h3 h4 h5
    exact ⟨rfl, hb, own', _, by simp, hl⟩
end
end Go.Proofs.YtbnelaoeblhndaaGreatDoor
