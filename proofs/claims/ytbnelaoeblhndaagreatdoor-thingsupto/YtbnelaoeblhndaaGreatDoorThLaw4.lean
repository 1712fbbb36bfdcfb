/- What gets leaves. -/
import Derived.Test.YtbnelaoeblhndaaGreatDoorThLaw3
namespace Go.Proofs.YtbnelaoeblhndaaGreatDoor
open Go.RowKit
set_option maxRecDepth 100000

section
variable {B : Nat} {w : World} {own : Nat → Nat} {wb : Nat} {ps : List Pr} {lv nsv knv vsv kvv : Value} {rows : List Value} {marks : List Int} {vrows : List Value} {vmarks : List Int}

/-- Blocks of a colour stay of it. -/
theorem Cl.mono {N N' : Nat} {own own' : Nat → Nat} {c k : Nat} (h : Cl B N own c k) (hN : N ≤ N') (ho : ∀ k, k < N → own' k = own k) : Cl B N' own' c k := ⟨h.1, by have := h.2.1; omega, by rw [ho k h.2.1]; exact h.2.2⟩

theorem gets_book (hB : B ≤ w.heap.size) (hA : LawAt B w own wb ps lv nsv knv vsv kvv rows marks vrows vmarks) (hr1 : rows.length ≤ 1000000000) (hr2 : vrows.length ≤ 1000000000) (spot : List Int) (vals : List Doc.Val) (hsl : spot.length ≤ 1000) (hvl : vals.length ≤ 1000) (W : World) (l v : Value) (hW : Below w.heap.size w W)
    (hl : W.ownsRow w.heap.size 3 1 l spot.length (intC spot)) (hv : W.ownsRow w.heap.size 94 3 v vals.length (valsC vals)) :
    Calls Tryz.prog 99 #[.pointer (some ⟨wb, 1, none⟩), l] W fun e w1 => e = .returned (.tuple #[]) ∧ Calls Tryz.prog 100 #[.pointer (some ⟨wb, 1, none⟩), v] w1 fun e w2 => e = .returned (.tuple #[]) ∧
      (Below B w w2 ∧ ∃ own' nsv' knv' vsv' kvv' rows' marks' vrows' vmarks', LawAt B w2 own' wb ps lv nsv' knv' vsv' kvv' rows' marks' vrows' vmarks' ∧ rows'.length = rows.length + 4 ∧ vrows'.length = vrows.length + 4) := by
  obtain ⟨wb1, wb2, wb3⟩ := hA.wbc
  have hWs := hW.size
  have hwW : W.heap[wb]? = some (worldO lv nsv knv vsv kvv (.slice none 0 0) (.slice none 0 0)) := (hW.block wb wb2).trans hA.blk
  have hlt : ∀ k, l.ownBlock = some k → w.heap.size ≤ k ∧ k < W.heap.size := fun k e => ⟨own_ge hl e, ownLt hl e⟩
  have hvt : ∀ k, v.ownBlock = some k → w.heap.size ≤ k ∧ k < W.heap.size := fun k e => ⟨own_ge hv e, ownLt hv e⟩
  have hlv : ∀ k, l.ownBlock = some k → v.ownBlock ≠ some k := fun k e1 e2 => by
    obtain ⟨_, c1, t1⟩ := own_type hl e1
    obtain ⟨_, c2, t2⟩ := own_type hv e2
    rw [t1] at t2; cases t2
  have bN : BookN W (Cl B w.heap.size own 1) nsv knv rows marks := hA.bkn.kept (fun k _ hk => hW.block k hk) (fun k h _ => h)
  refine (numbers_any hwW bN (fun h => by have := h.2.2; omega) hr1 spot l (own_less hl (Nat.zero_le _)) (by omega) (fun k e h => by have := (hlt k e).1; have := h.2.1; omega)).mono ?_
  rintro e w1 ⟨rfl, nsv', knv', rows', marks', hw1, bN1, hl1, hd1⟩
  refine ⟨rfl, ?_⟩
  have hs1 := hd1.size
  have keep1 : ∀ k, k < W.heap.size → k ≠ wb → ¬ Cl B w.heap.size own 1 k → l.ownBlock ≠ some k → w1.heap[k]? = W.heap[k]? := fun k hk h1 h2 h3 => hd1.only k hk (by rintro (h | h | h); exact h1 h; exact h2 h; exact h3 h)
  have old1 : ∀ k, k < w.heap.size → k ≠ wb → own k ≠ 1 → w1.heap[k]? = w.heap[k]? := fun k hk h1 h2 => (keep1 k (by omega) h1 (fun h => h2 h.2.2) (fun e => by have := (hlt k e).1; omega)).trans (hW.block k hk)
  have bV : BookV w1 (Cl B w.heap.size own 2) vsv kvv vrows vmarks := hA.bkv.kept (fun k h hk => old1 k hk (by rintro rfl; have := h.2.2; omega) (by have := h.2.2; omega)) (fun k h _ => h)
  have hv1 : w1.ownsRow w.heap.size 94 3 v vals.length (valsC vals) := rowKept hv (fun k _ ek ho => (keep1 k (hvt k ek).2 (by have := (hvt k ek).1; omega) (fun h => by have := (hvt k ek).1; have := h.2.1; omega) (fun e => hlv k e ek)).trans ho)
  refine (values_any hw1 bV (fun h => by have := h.2.2; omega) hr2 vals v (own_less hv1 (Nat.zero_le _)) (by omega) (fun k e h => by have := (hvt k e).1; have := h.2.1; omega)).mono ?_
  rintro e w2 ⟨rfl, vsv', kvv', vrows', vmarks', hw2, bV2, hl2, hd2⟩
  have hs2 := hd2.size
  have keep2 : ∀ k, k < w1.heap.size → k ≠ wb → ¬ Cl B w.heap.size own 2 k → v.ownBlock ≠ some k → w2.heap[k]? = w1.heap[k]? := fun k hk h1 h2 h3 => hd2.only k hk (by rintro (h | h | h); exact h1 h; exact h2 h; exact h3 h)
  have old2 : ∀ k, k < w.heap.size → k ≠ wb → own k ≠ 1 → own k ≠ 2 → w2.heap[k]? = w.heap[k]? := fun k hk h1 h2 h3 => (keep2 k (by omega) h1 (fun h => h3 h.2.2) (fun e => by have := (hvt k e).1; omega)).trans (old1 k hk h1 h2)
  refine ⟨rfl, ?_, ?_⟩
  · refine ⟨hd2.below.os.trans (hd1.below.os.trans hW.os), hd2.below.tape.trans (hd1.below.tape.trans hW.tape), hd2.below.output.trans (hd1.below.output.trans hW.output), by omega, fun k hk => ?_⟩
    refine (hd2.only k (by omega) ?_).trans ((hd1.only k (by omega) ?_).trans (hW.block k (by omega)))
    · rintro (h | h | h)
      · omega
      · have := h.1; omega
      · have := (hvt k h).1; omega
    · rintro (h | h | h)
      · omega
      · have := h.1; omega
      · have := (hlt k h).1; omega
  obtain ⟨own', ho1, ho2, ho3, ho4, ho5⟩ : ∃ own' : Nat → Nat, (∀ k, k < w.heap.size → own' k = own k) ∧ (∀ k, l.ownBlock = some k → own' k = 1) ∧ (∀ k, v.ownBlock = some k → own' k = 2) ∧ (∀ k, W.heap.size ≤ k → k < w1.heap.size → own' k = 1) ∧ (∀ k, w1.heap.size ≤ k → own' k = 2) := by
    refine ⟨fun k => if k < w.heap.size then own k else if l.ownBlock = some k then 1 else if v.ownBlock = some k then 2 else if k < W.heap.size then 0 else if k < w1.heap.size then 1 else 2, fun k hk => ?_, fun k e => ?_, fun k e => ?_, fun k h1 h2 => ?_, fun k h1 => ?_⟩
    · simp [hk]
    · have := hlt k e
      simp [e, show ¬ k < w.heap.size by omega]
    · have := hvt k e
      have h3 : l.ownBlock ≠ some k := fun e1 => hlv k e1 e
      simp [e, h3, show ¬ k < w.heap.size by omega]
    · have h3 : l.ownBlock ≠ some k := fun e1 => by have := hlt k e1; omega
      have h4 : v.ownBlock ≠ some k := fun e1 => by have := hvt k e1; omega
      simp [h3, h4, show ¬ k < w.heap.size by omega, show ¬ k < W.heap.size by omega, h2]
    · have h3 : l.ownBlock ≠ some k := fun e1 => by have := hlt k e1; omega
      have h4 : v.ownBlock ≠ some k := fun e1 => by have := hvt k e1; omega
      simp [h3, h4, show ¬ k < w.heap.size by omega, show ¬ k < W.heap.size by omega, show ¬ k < w1.heap.size by omega]
  have hN : w.heap.size ≤ w2.heap.size := by omega
  refine ⟨own', nsv', knv', vsv', kvv', rows', marks', vrows', vmarks', ⟨hw2, hA.wbc.mono hN ho1, rowKept hA.prs (fun k _ ek ho => ?_), fun k e => (hA.prc k e).mono hN ho1, ?_, ?_, fun i hi => ?_⟩, hl1, hl2⟩
  · obtain ⟨_, c, t⟩ := own_type hA.prs ek
    have hc := hA.prc k ek
    exact (old2 k hc.2.1 (by rintro rfl; rw [hA.blk] at t; cases t) (by have := hc.2.2; omega) (by have := hc.2.2; omega)).trans ho
  · refine bN1.kept (fun k h hk => ?_) (fun k h hk => ?_)
    · rcases h with h | h | h
      · exact keep2 k hk (by rintro rfl; have := h.2.2; omega) (fun h' => by have := h.2.2; have := h'.2.2; omega) (fun e => by have := (hvt k e).1; have := h.2.1; omega)
      · have := hlt k h
        exact keep2 k hk (by omega) (fun h' => by have := h'.2.1; omega) (hlv k h)
      · exact keep2 k hk (by omega) (fun h' => by have := h'.2.1; omega) (fun e => by have := (hvt k e).2; omega)
    · rcases h with h | h | h
      · exact h.mono hN ho1
      · have := hlt k h; exact ⟨by omega, by omega, ho2 k h⟩
      · exact ⟨by omega, by omega, ho4 k h hk⟩
  · refine bV2.kept (fun k h hk => rfl) (fun k h hk => ?_)
    rcases h with h | h | h
    · exact h.mono hN ho1
    · have := hvt k h; exact ⟨by omega, by omega, ho3 k h⟩
    · exact ⟨by omega, by omega, ho5 k h⟩
  · obtain ⟨h1, h2, h3⟩ := hA.sts i hi
    refine ⟨h1.kept (fun k h hk => old2 k hk (by rintro rfl; have := h.2.2; omega) (by have := h.2.2; omega) (by have := h.2.2; omega)) (fun k h _ => h.mono hN ho1), h2.kept' (fun k h hk => old2 k hk (by rintro rfl; have := h.2.2; omega) (by have := h.2.2; omega) (by have := h.2.2; omega)) (fun k h _ => h.mono hN ho1), h3⟩

theorem ref_rng {ts : List Doc.Thg} {th : Has} {fs : List Doc.Fld} {space : Int} {F : Nat → Prop} {xb : Nat} (hp : ProgSt w F xb fs space th) (hth : th = hasOf ts) (hu : Uniq ts) : ts.length ≤ 4096 ∧ ∀ t ∈ ts, t.spot.length ≤ 4 ∧ t.vals.length ≤ 4 := by
  obtain ⟨_, _, _, _, _, h⟩ := hp
  subst hth
  have hr : ∀ t ∈ ts, (0 ≤ t.id ∧ t.id ≤ 4095) ∧ t.spot.length ≤ 4 ∧ t.vals.length ≤ 4 := fun t ht => by
    obtain ⟨a, b, c, d, _⟩ := h.shf.rng t.id _ (has_mem hu ht)
    exact ⟨⟨a, b⟩, c, d⟩
  exact ⟨uniq_len hu (fun t ht => (hr t ht).1), fun t ht => (hr t ht).2⟩

theorem got_len {th : Has} {fs : List Doc.Fld} {space : Int} {F : Nat → Prop} {xb : Nat} (hp : ProgSt w F xb fs space th) (id : Int) : (gotS (th id)).length ≤ 1000 ∧ (gotV (th id)).length ≤ 1000 := by
  obtain ⟨_, _, _, _, _, h⟩ := hp
  cases ht : th id with
  | none => exact ⟨by simp [gotS], by simp [gotV]⟩
  | some t =>
    obtain ⟨_, _, c, d, _⟩ := h.shf.rng id t ht
    exact ⟨by show t.1.length ≤ 1000; omega, by show t.2.length ≤ 1000; omega⟩

theorem gets_any (hB : B ≤ w.heap.size) (hA : LawAt B w own wb ps lv nsv knv vsv kvv rows marks vrows vmarks) (hr1 : rows.length ≤ 1000000000) (hr2 : vrows.length ≤ 1000000000) (i : Nat) (hi : i < ps.length) (id : Int) (h0 : -9223372036854775808 ≤ id) (h1 : id ≤ 9223372036854775807) :
    Calls Tryz.prog 58 #[.pointer (some ⟨wb, 0, none⟩), .agg #[.pointer (some ⟨ps[i].xb, 0, none⟩), .pointer (some ⟨ps[i].yb, 0, none⟩)], .int .i64 id] w fun e w' => e = .returned (.bool true) ∧ Below B w w' ∧ ∃ own' nsv' knv' vsv' kvv' rows' marks' vrows' vmarks', LawAt B w' own' wb ps lv nsv' knv' vsv' kvv' rows' marks' vrows' vmarks' ∧ rows'.length = rows.length + 4 ∧ vrows'.length = vrows.length + 4 := by
  obtain ⟨s1, s2, s3⟩ := hA.sts i hi
  obtain ⟨hl1, _⟩ := ref_rng s1 rfl s3
  obtain ⟨g1, g2⟩ := got_len s1 id
  refine (gets_walk (wb := wb) ps[i].xb ps[i].yb id (gotS (hasOf ps[i].ts id)) (gotV (hasOf ps[i].ts id)) (gotE (hasOf ps[i].ts id)) g1 g2 (fun W hW => pget_any (s1.kept (fun k _ hk => hW.block k hk) (fun k h _ => h)) id h0 h1) (fun W hW => rget_any (s2.kept' (fun k _ hk => hW.block k hk) (fun k h _ => h)) (by omega) id)
    (fun _ w2 => Below B w w2 ∧ ∃ own' nsv' knv' vsv' kvv' rows' marks' vrows' vmarks', LawAt B w2 own' wb ps lv nsv' knv' vsv' kvv' rows' marks' vrows' vmarks' ∧ rows'.length = rows.length + 4 ∧ vrows'.length = vrows.length + 4) (fun W l v hW hl hv => gets_book hB hA hr1 hr2 _ _ g1 g2 W l v hW hl hv)).mono ?_
  rintro e w' ⟨rfl, W, _, hR⟩
  exact ⟨rfl, hR⟩
end
end Go.Proofs.YtbnelaoeblhndaaGreatDoor
