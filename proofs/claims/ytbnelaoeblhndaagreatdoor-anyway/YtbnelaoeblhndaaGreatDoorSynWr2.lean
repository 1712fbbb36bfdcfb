/- Trees that stand side by side, and what is written of them. -/
import Derived.Test.YtbnelaoeblhndaaGreatDoorSynChain
import Derived.Test.YtbnelaoeblhndaaGreatDoorSynWr1
import Derived.Test.YtbnelaoeblhndaaGreatDoorParsePos
namespace Go.Proofs.YtbnelaoeblhndaaGreatDoor
open Go.RowKit
set_option maxRecDepth 100000

namespace Doc
/-- Several texts with a joint between each two. -/
def jn (m : Ast → List UInt8) (wd : List UInt8) : List Ast → List UInt8
  | [] => []
  | a :: r => m a ++ r.flatMap (fun b => [32] ++ wd ++ [32] ++ m b)

theorem jn_snoc (m : Ast → List UInt8) (wd : List UInt8) {l : List Ast} (h : l ≠ []) (b : Ast) : jn m wd (l ++ [b]) = jn m wd l ++ [32] ++ wd ++ [32] ++ m b := by
  cases l with
  | nil => exact absurd rfl h
  | cons a r => simp [jn, List.flatMap_append]

theorem jn_pre (m : Ast → List UInt8) (wd : List UInt8) (x y : List Ast) : (jn m wd x).length ≤ (jn m wd (x ++ y)).length := by
  cases x with
  | nil => simp [jn]
  | cons a r => simp [jn, List.flatMap_append]

theorem jn_take (m : Ast → List UInt8) (wd : List UInt8) (l : List Ast) (i : Nat) : (jn m wd (l.take i)).length ≤ (jn m wd l).length := by
  have := jn_pre m wd (l.take i) (l.drop i)
  rwa [List.take_append_drop] at this
end Doc

/-- Trees side by side in memory, one behind the other. -/
structure Side (w : World) (F : Nat → Prop) (m : Doc.Ast → List UInt8) (wd : List UInt8) (cs : List Value) (a : Doc.Ast) (text : List UInt8) (gs : List (List Value × Doc.Ast)) : Prop where
  cells : cs = gs.flatMap (·.1)
  ne : gs ≠ []
  each : ∀ g ∈ gs, RepT w F 0 g.1 g.2 ∧ SizeOf.sizeOf g.2 ≤ SizeOf.sizeOf a ∧ (∀ Q, Doc.Every Q a → Doc.Every Q g.2)
  text : Doc.jn m wd (gs.map (·.2)) = text

theorem RepT.side {w : World} {F : Nat → Prop} {k : Nat} {cs : List Value} {a : Doc.Ast} (h : RepT w F k cs a) :
    (k = 1 → ∃ gs, Side w F Doc.mAll Doc.wAnd cs a (Doc.mAll a) gs) ∧ (k = 2 → ∃ gs, Side w F Doc.plain Doc.wOr cs a (Doc.plain a) gs) := by
  induction h with
  | test h1 h2 => exact ⟨fun h => (by cases h), fun h => (by cases h)⟩
  | not _ h1 h2 ih => exact ⟨fun h => (by cases h), fun h => (by cases h)⟩
  | and _ _ h1 h2 ih1 ih2 => exact ⟨fun h => (by cases h), fun h => (by cases h)⟩
  | or _ _ h1 h2 ih1 ih2 => exact ⟨fun h => (by cases h), fun h => (by cases h)⟩
  | @one cs a k h0 h1 ih =>
    refine ⟨fun _ => ⟨[(cs, a)], ?_⟩, fun _ => ⟨[(cs, a)], ?_⟩⟩
    all_goals
      refine ⟨by simp, by simp, ?_, by simp [Doc.jn]⟩
      intro g hg
      obtain rfl := List.mem_singleton.1 hg
      exact ⟨h0, Nat.le_refl _, fun _ h => h⟩
  | @andL l cs a b h1 h2 ih1 ih2 =>
    refine ⟨fun _ => ?_, fun h => by cases h⟩
    obtain ⟨gs, hg⟩ := ih1.1 rfl
    refine ⟨gs ++ [(cs, b)], ?_, by simp, ?_, ?_⟩
    · rw [hg.cells]; simp
    · intro g hm
      rcases List.mem_append.1 hm with hm | hm
      · obtain ⟨e1, e2, e3⟩ := hg.each g hm
        exact ⟨e1, by simp only [Doc.Ast.and.sizeOf_spec]; omega, fun Q h => e3 Q h.1⟩
      · obtain rfl := List.mem_singleton.1 hm
        exact ⟨h2, by simp only [Doc.Ast.and.sizeOf_spec]; omega, fun Q h => h.2⟩
    · rw [List.map_append, List.map_singleton, Doc.jn_snoc _ _ (by simpa using hg.ne), hg.text]
      rfl
  | @orL l cs a b h1 h2 ih1 ih2 =>
    refine ⟨fun h => (by cases h), fun _ => ?_⟩
    obtain ⟨gs, hg⟩ := ih1.2 rfl
    refine ⟨gs ++ [(cs, b)], ?_, by simp, ?_, ?_⟩
    · rw [hg.cells]; simp
    · intro g hm
      rcases List.mem_append.1 hm with hm | hm
      · obtain ⟨e1, e2, e3⟩ := hg.each g hm
        exact ⟨e1, by simp only [Doc.Ast.or.sizeOf_spec]; omega, fun Q h => e3 Q h.1⟩
      · obtain rfl := List.mem_singleton.1 hm
        exact ⟨h2, by simp only [Doc.Ast.or.sizeOf_spec]; omega, fun Q h => h.2⟩
    · rw [List.map_append, List.map_singleton, Doc.jn_snoc _ _ (by simpa using hg.ne), hg.text]
      rfl

theorem Doc.litsText_snoc (l : List Doc.Tok) (h : l ≠ []) (t : Doc.Tok) : Doc.litsText (l ++ [t]) = Doc.litsText l ++ [44, 32] ++ Doc.litText t := by
  induction l with
  | nil => exact absurd rfl h
  | cons a r ih =>
    cases r with
    | nil => simp [Doc.litsText]
    | cons b r =>
      have := ih (by simp)
      simp only [List.cons_append, Doc.litsText] at this ⊢
      rw [this]
      simp

theorem Doc.litsText_take (l : List Doc.Tok) (i : Nat) : (Doc.litsText (l.take i)).length ≤ (Doc.litsText l).length := by
  induction l generalizing i with
  | nil => simp
  | cons a r ih =>
    cases i with
    | zero => simp [Doc.litsText]
    | succ i =>
      cases r with
      | nil => simp [Doc.litsText]
      | cons b r =>
        cases i with
        | zero => simp [Doc.litsText]
        | succ i =>
          have := ih (i + 1)
          simp only [List.take_succ_cons, Doc.litsText, List.length_append] at this ⊢
          omega

/-- The blank ahead of a token. -/
def sepB : Bool → List UInt8 | true => [] | false => [32]

/-- What a writing function leaves: a text more, and a blank is wanted ahead of the next token. -/
structure Wrote (B wb : Nat) (w : World) (l T : List UInt8) (e : Ending) (w' : World) : Prop where
  ret : e = .returned (.tuple #[])
  st : ∃ q' v', WSt B w' wb q' v' (l ++ T) false
  wm : WM B wb w w'

section
variable {B : Nat} {w : World} {wb : Nat} {q : Option Addr} {v : Value} {l : List UInt8} {tight : Bool}

theorem WSt.below {w' : World} (h : WSt B w wb q v l tight) (hb : Below w.heap.size w w') : WSt B w' wb q v l tight :=
  ⟨(hb.block wb h.lt).trans h.blk, own_kept h.row (fun k _ _ ho => (hb.block k (lt_block ho)).trans ho), h.base, h.own⟩
theorem WM.ofBelow {w' : World} (hb : Below w.heap.size w w') (hB : B ≤ w.heap.size) : WM B wb w w' :=
  ⟨hb.mono hB, fun k _ hk _ _ => (hb.block k (lt_block hk)).trans hk⟩
/-- A block of another kind than bytes stays. -/
theorem WM.blk {w' : World} (h : WM B wb w w') {k : Nat} {cs : Array Value} {T : TypeId} {fr : Nat × Nat} (hk : w.heap[k]? = some (.cells cs T fr)) (hT : T ≠ 5) (hne : k ≠ wb) : w'.heap[k]? = some (.cells cs T fr) :=
  h.kept k _ hk (by simpa using hne) (fun c fz e => hT (by cases e; rfl))

theorem below_new3 (w : World) (o : Obj) (u0 u1 u2 : Value) : Below w.heap.size w ((((w.alloc o).setCell ⟨w.heap.size, 0, none⟩ u0).setCell ⟨w.heap.size, 1, none⟩ u1).setCell ⟨w.heap.size, 2, none⟩ u2) :=
  ((((Below.refl _ w).alloc (Nat.le_refl _) o).setCell (p := ⟨w.heap.size, 0, none⟩) (Nat.le_refl _) u0).setCell (p := ⟨w.heap.size, 1, none⟩) (Nat.le_refl _) u1).setCell (p := ⟨w.heap.size, 2, none⟩) (Nat.le_refl _) u2
theorem set_blk {w : World} {n : Nat} {cs : Array Value} {T : TypeId} {fr : Nat × Nat} (h : w.heap[n]? = some (.cells cs T fr)) (i : Nat) (u : Value) : (w.setCell ⟨n, i, none⟩ u).heap[n]? = some (.cells (cs.setIfInBounds i u) T fr) := by
  simp [World.setCell, Array.getElem?_modify, h]
theorem block_new3 (w : World) (z0 z1 z2 u0 u1 u2 : Value) (T : TypeId) : ((((w.alloc (.cells #[z0, z1, z2] T (0, 0))).setCell ⟨w.heap.size, 0, none⟩ u0).setCell ⟨w.heap.size, 1, none⟩ u1).setCell ⟨w.heap.size, 2, none⟩ u2).heap[w.heap.size]? = some (.cells #[u0, u1, u2] T (0, 0)) := by
  exact set_blk (set_blk (set_blk (heap_alloc_new w (.cells #[z0, z1, z2] T (0, 0))) 0 u0) 1 u1) 2 u2

/-- A token with a blank ahead where one is wanted. -/
theorem token_wide (h : WSt B w wb q v l tight) (hl : l.length ≤ 900000) (s : ByteArray) (hs : Doc.Wide s) :
    Calls Tryz.prog 79 #[.pointer (some ⟨wb, 0, none⟩), .string s] w (Wrote B wb w l (sepB tight ++ s.data.toList)) := by
  have h300 := hs.le
  cases tight with
  | true =>
    refine (token_bare h hl s (by omega) hs.pos (.inl rfl)).mono ?_
    rintro e w' ⟨rfl, q', v', h1, hb⟩
    rw [hs.k3] at h1
    exact ⟨rfl, ⟨q', v', h1⟩, hb⟩
  | false =>
    refine (token_sep h hl s (by omega) hs.pos hs.k1 hs.k2).mono ?_
    rintro e w' ⟨rfl, q', v', h1, hb⟩
    rw [hs.k3] at h1
    exact ⟨rfl, ⟨q', v', by rw [show sepB false ++ s.data.toList = [32] ++ s.data.toList from rfl, ← List.append_assoc]; exact h1⟩, hb⟩

/-- An opening bracket. -/
theorem token_open (h : WSt B w wb q v l tight) (hl : l.length ≤ 900000) :
    Calls Tryz.prog 79 #[.pointer (some ⟨wb, 0, none⟩), .string ⟨#[40]⟩] w fun e w' => e = .returned (.tuple #[]) ∧ ∃ q' v', WSt B w' wb q' v' (l ++ (sepB tight ++ [40])) true ∧ WM B wb w w' := by
  cases tight with
  | true =>
    refine (token_bare h hl ⟨#[40]⟩ (by decide) (by decide) (.inl rfl)).mono ?_
    rintro e w' ⟨rfl, q', v', h1, hb⟩
    rw [show ((⟨#[40]⟩ : ByteArray).toList == [40]) = true by rw [ByteArray.toList_eq]; rfl] at h1
    exact ⟨rfl, q', v', h1, hb⟩
  | false =>
    refine (token_sep h hl ⟨#[40]⟩ (by decide) (by decide) (by rw [ByteArray.toList_eq]; rfl) (by rw [ByteArray.toList_eq]; rfl)).mono ?_
    rintro e w' ⟨rfl, q', v', h1, hb⟩
    rw [show ((⟨#[40]⟩ : ByteArray).toList == [40]) = true by rw [ByteArray.toList_eq]; rfl] at h1
    exact ⟨rfl, q', v', by rw [show sepB false ++ [40] = [32] ++ [40] from rfl, ← List.append_assoc]; exact h1, hb⟩

/-- A closing bracket or a comma. -/
theorem token_tail (h : WSt B w wb q v l tight) (hl : l.length ≤ 900000) (c : UInt8) (hc : c = 41 ∨ c = 44) :
    Calls Tryz.prog 79 #[.pointer (some ⟨wb, 0, none⟩), .string ⟨#[c]⟩] w (Wrote B wb w l [c]) := by
  have e1 : ∀ d : UInt8, ((⟨#[c]⟩ : ByteArray).toList == [d]) = (c == d) := by
    intro d; rw [ByteArray.toList_eq]; simp
  refine (token_bare h hl ⟨#[c]⟩ (by show 1 ≤ 90000; omega) (by show 0 < 1; omega) ?_).mono ?_
  · rw [e1, e1]
    cases tight with
    | true => exact .inl rfl
    | false =>
      rcases hc with rfl | rfl
      · exact .inr (.inl ⟨rfl, rfl⟩)
      · exact .inr (.inr ⟨rfl, rfl, rfl⟩)
  · rintro e w' ⟨rfl, q', v', h1, hb⟩
    rw [e1, show (c == 40) = false by rcases hc with rfl | rfl <;> rfl] at h1
    exact ⟨rfl, ⟨q', v', h1⟩, hb⟩
end
end Go.Proofs.YtbnelaoeblhndaaGreatDoor
