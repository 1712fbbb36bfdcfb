/- Walks of the Builder that lies in the program's writer. Walks of the program's writer: a token. -/
import Derived.Test.YtbnelaoeblhndaaGreatDoorRefTest
import Derived.Lib.Builder
import Derived.Lib.UnsafeStr
import Derived.Laws.AppendOwn
import Derived.Lib.AppendStr
import Derived.Lib.OthersKept
namespace Go.Proofs.YtbnelaoeblhndaaGreatDoor
open Go.RowKit
set_option maxRecDepth 100000

theorem Tryz.infoBuilder : (Tryz.prog.info? 126).map (·.size) = some 2 := by kernel_rfl
theorem Tryz.liesBuilder : liesAt Tryz.prog Tryz.prog.depth 128 (3 / Tryz.prog.cellsOf 128) 0 126 1 = true := by kernel_rfl
theorem Tryz.infoByte : (Tryz.prog.info? 5).map (fun i => (i.zero, i.size, i.bytes)) = some (some (.int .u8 0), 1, 1) := by kernel_rfl

def bytesC (l : List UInt8) : List Value := l.map fun b => Value.int .u8 b.toNat

/-- A writer at the head of block wb, with the bytes l written. -/
structure WSt (B : Nat) (w : World) (wb : Nat) (q : Option Addr) (v : Value) (l : List UInt8) (tight : Bool) : Prop where
  blk : w.heap[wb]? = some (.cells #[.pointer q, v, .bool tight] 128 (0, 0))
  row : w.ownsRow B 5 1 v l.length (bytesC l)
  base : B ≤ wb
  own : q = none ∨ q = some ⟨wb, 0, none⟩

/-- What a step of the writer leaves as it was: all that lies below, and all blocks but the writer's own and rows of bytes. -/
structure WM (B wb : Nat) (w w' : World) : Prop where
  below : Below B w w'
  kept : Lib.OthersKept 5 (some wb) w w'

theorem WM.refl (B wb : Nat) (w : World) : WM B wb w w := ⟨Below.refl _ _, Lib.OthersKept.refl _ _ _⟩
theorem WM.trans {B wb : Nat} {a b c : World} (h : WM B wb a b) (k : WM B wb b c) : WM B wb a c := ⟨h.below.trans k.below, h.kept.trans k.kept⟩
theorem WM.alloc {B wb : Nat} {a w : World} (h : WM B wb a w) (hB : B ≤ w.heap.size) (o : Obj) : WM B wb a (w.alloc o) := ⟨h.below.trans ((Below.refl _ _).alloc hB o), h.kept.alloc o⟩

section
variable {B : Nat} {w : World} {wb : Nat} {q : Option Addr} {v : Value} {l : List UInt8} {tight : Bool}

theorem WSt.lt (h : WSt B w wb q v l tight) : wb < w.heap.size := lt_block h.blk
theorem WSt.Ble (h : WSt B w wb q v l tight) : B ≤ w.heap.size := by have := h.base; have := h.lt; omega

theorem WSt.put {i : Nat} {u : Value} {q2 : Option Addr} {v2 : Value} {tight2 : Bool} (h : WSt B w wb q v l tight) (hv : w.ownsRow B 5 1 v2 l.length (bytesC l)) (ho : q2 = none ∨ q2 = some ⟨wb, 0, none⟩)
    (hc : (#[.pointer q, v, .bool tight] : Array Value).setIfInBounds i u = #[.pointer q2, v2, .bool tight2]) :
    WSt B (w.setCell ⟨wb, i, none⟩ u) wb q2 v2 l tight2 ∧ WM B wb w (w.setCell ⟨wb, i, none⟩ u) := by
  have hb : Below B w (w.setCell ⟨wb, i, none⟩ u) := (Below.refl _ _).setCell (p := ⟨wb, i, none⟩) h.base u
  refine ⟨⟨?_, ?_, h.base, ho⟩, hb, (Lib.OthersKept.refl _ (some wb) _).setCell ⟨wb, i, none⟩ rfl u⟩
  · rw [← hc]
    simp [World.setCell, Array.getElem?_modify, h.blk]
  · obtain ⟨h1, h2⟩ := hv
    refine ⟨h1, ?_⟩
    rcases h2 with h2 | ⟨g, cap, cur, hv, hg, hh, r⟩
    · exact .inl h2
    · refine .inr ⟨g, cap, cur, hv, hg, ?_, r⟩
      rw [Below.heap_setCell _ _ _ _ (by rintro rfl; have := h.blk; rw [hh] at this; simp at this)]
      exact hh

set_option maxHeartbeats 1000000 in
theorem copyCheck_any (h : WSt B w wb q v l tight) :
    Calls Tryz.prog 164 #[.pointer (some ⟨wb, 0, none⟩)] w fun e w' => e = .returned (.tuple #[]) ∧ WSt B w' wb (some ⟨wb, 0, none⟩) v l tight ∧ WM B wb w w' := by
  obtain ⟨j, hj, hjs⟩ := Option.map_eq_some_iff.1 Tryz.infoBuilder
  have c0 := blk_cell h.blk 0 _ rfl
  have f0 := blk_free h.blk 0
  rcases h.own with rfl | rfl
  · have c0 : w.cell? ⟨wb, 0, none⟩ = some (.pointer none) := c0
    have hsh : w.shape? wb = some (128, 3) := by have := h.blk; simp [World.shape?, this]
    have hx1 : ∀ w, w.shape? wb = some (128, 3) → (convert 123 276 (.pointer (some ⟨wb, 0, none⟩))).run Tryz.prog w = .ok (.pointer (some ⟨wb, 0, none⟩)) w := fun w hw => Lib.run_to_unsafe w ⟨wb, 0, none⟩ Tryz.underlying123 Tryz.underlying276 hj (by rw [hjs]; decide) hw (Nat.zero_lt_succ 2)
    have hx2 : ∀ w, w.shape? wb = some (128, 3) → (convert 276 123 (.pointer (some ⟨wb, 0, none⟩))).run Tryz.prog w = .ok (.pointer (some ⟨wb, 0, none⟩)) w := fun w hw => Lib.run_from_unsafe w ⟨wb, 0, none⟩ Tryz.underlying276 Tryz.underlying123 hj hw Tryz.liesBuilder
    have hy1 := hx1 w hsh
    have hy2 := hx2 w hsh
    have hy3 : ∀ w x, (callFunc 186 #[x]).run Tryz.prog w = .ok (.value x) w := fun w x => by
      rw [run_callFunc_extern Tryz.func186 (by kernel_rfl) (by kernel_rfl) (by kernel_rfl) (e := Extern.AbiNoEscape.same) (by kernel_rfl), Lib.run_noEscape]
      rfl
    have hy4 := fun w => Lib.run_neq_ptr_same (P := Tryz.prog) w ⟨wb, 0, none⟩ Tryz.underlying123 hj
    clear hx1 hx2
    go_enter Tryz.func164, Tryz.ntmps164
    go_wp2
    go_end0
    obtain ⟨h1, h2⟩ := h.put (i := 0) (u := .pointer (some ⟨wb, 0, none⟩)) (q2 := some ⟨wb, 0, none⟩) (v2 := v) (tight2 := tight) h.row (.inr rfl) rfl
    exact ⟨rfl, h1, h2⟩
  · have hy4 := fun w => Lib.run_neq_ptr_same (P := Tryz.prog) w ⟨wb, 0, none⟩ Tryz.underlying123 hj
    have c0 : w.cell? ⟨wb, 0, none⟩ = some (.pointer (some ⟨wb, 0, none⟩)) := c0
    go_enter Tryz.func164, Tryz.ntmps164
    go_wp2
    go_end0
    exact ⟨rfl, h, WM.refl _ _ _⟩

/-- The writer behind an append to its bytes. -/
theorem WSt.grown {w2 : World} {v2 : Value} {l2 : List UInt8} (h : WSt B w wb q v l tight) (hg : w.grownBy w2 v.ownBlock) (hown : w2.ownsRow B 5 1 v2 l2.length (bytesC l2)) :
    WSt B (w2.setCell ⟨wb, 1, none⟩ v2) wb q v2 l2 tight ∧ WM B wb w (w2.setCell ⟨wb, 1, none⟩ v2) ∧ w2.cell? ⟨wb, 1, none⟩ = some v ∧ w2.frozen? ⟨wb, 1, none⟩ = false := by
  have hne : some wb ≠ v.ownBlock := by
    intro e
    obtain ⟨_, cs, h2⟩ := own_type h.row e.symm
    have := h.blk
    rw [h2] at this; simp at this
  have hblk : w2.heap[wb]? = some (.cells #[.pointer q, v, .bool tight] 128 (0, 0)) := (hg.block wb h.lt hne).trans h.blk
  have hb2 : Below B w w2 := (Below.refl _ _).grown hg h.Ble (fun k hk => (own_type h.row hk).1)
  refine ⟨⟨?_, ?_, h.base, h.own⟩, ⟨hb2.setCell (p := ⟨wb, 1, none⟩) h.base v2, ((Lib.OthersKept.refl _ (some wb) _).grown hg (fun k hk => by obtain ⟨_, cs, h2⟩ := own_type h.row hk; exact ⟨cs, _, h2⟩)).setCell ⟨wb, 1, none⟩ rfl v2⟩, blk_cell hblk 1 _ rfl, blk_free hblk 1⟩
  · simp [World.setCell, Array.getElem?_modify, hblk]
  · obtain ⟨h1, h2⟩ := hown
    refine ⟨h1, ?_⟩
    rcases h2 with h2 | ⟨g, cap, cur, hv, hg, hh, r⟩
    · exact .inl h2
    · refine .inr ⟨g, cap, cur, hv, hg, ?_, r⟩
      rw [Below.heap_setCell _ _ _ _ (by rintro rfl; rw [hh] at hblk; simp at hblk)]
      exact hh

theorem WSt.alloc (h : WSt B w wb q v l tight) (o : Obj) : WSt B (w.alloc o) wb q v l tight :=
  ⟨(Below.heap_alloc _ _ _ h.lt).trans h.blk, h.row.alloc o, h.base, h.own⟩

theorem bytesC_snoc (l : List UInt8) (c : UInt8) : bytesC (l ++ [c]) = bytesC l ++ [.int .u8 c.toNat] := by simp [bytesC]

set_option maxHeartbeats 1000000 in
theorem writeByte_any (h : WSt B w wb q v l tight) (hl : l.length ≤ 1000000) (c : UInt8) :
    Calls Tryz.prog 127 #[.pointer (some ⟨wb, 0, none⟩), .int .u8 c.toNat] w fun e w' => e = .returned .nilIface ∧ ∃ v', WSt B w' wb (some ⟨wb, 0, none⟩) v' (l ++ [c]) tight ∧ WM B wb w w' := by
  obtain ⟨i0, hi, hz0, hz1, hz2⟩ := info_parts Tryz.infoByte
  go_enter Tryz.func127, Tryz.ntmps127
  go_wp2_with fail
  refine (copyCheck_any h).mono ?_
  rintro e w1 ⟨rfl, h1, hb1⟩
  have c1 := blk_cell h1.blk 1 _ rfl
  have c1 : w1.cell? ⟨wb, 1, none⟩ = some v := c1
  have hlt := h1.lt
  go_wp2_with (at_builtin; refine wpList_append_own _ rfl (.tmp 11) (.tmp 13) 124 rfl B 5 i0 _ 1 1 Tryz.underlying124 hi hz0 hz1 hz2 rfl (by decide) _ _ _ rfl (h1.row.alloc _) ⟨w1.heap.size, 0, none⟩ 1 1 [.int .u8 c.toNat] rfl rfl ?c1 ?c2 ?c3 ?c4 ?c5 ?_)
  case c1 => first | exact fun j u hj => hj | exact cell_one_new _ _ _
  case c2 => intro u hu; simp at hu; subst hu; rfl
  case c3 => unfold maxLen; omega
  case c4 => omega
  case c5 => have := h1.Ble; simp; omega
  intro v2 w2 hown2 hgrow2 _
  obtain ⟨g2, cap2, rfl⟩ := own_slice hown2
  rw [← bytesC_snoc, ← len_snoc l c] at hown2
  have hg := (h1.alloc _).grown hgrow2 (l2 := l ++ [c]) hown2
  rw [len_snoc] at hg
  obtain ⟨h3, hb3, c3, f3⟩ := hg
  clear hown2 hgrow2 c1
  go_wp2_with fail
  go_ret
  exact ⟨rfl, _, h3, hb1.trans (((WM.refl _ _ _).alloc h1.Ble _).trans hb3)⟩

theorem strCells_eq (s : ByteArray) : Lib.strCells s = bytesC s.data.toList := by
  unfold Lib.strCells bytesC; rfl
theorem bytesC_app (l m : List UInt8) : bytesC (l ++ m) = bytesC l ++ bytesC m := by simp [bytesC]

set_option maxHeartbeats 1000000 in
theorem writeString_any (h : WSt B w wb q v l tight) (hl : l.length ≤ 1000000) (s : ByteArray) (hs : s.size ≤ 1000000) (hs0 : 0 < s.size) :
    Calls Tryz.prog 128 #[.pointer (some ⟨wb, 0, none⟩), .string s] w fun e w' => e = .returned (.tuple #[.int .i64 s.size, .nilIface]) ∧ ∃ v', WSt B w' wb (some ⟨wb, 0, none⟩) v' (l ++ s.data.toList) tight ∧ WM B wb w w' := by
  obtain ⟨i0, hi, hz0, hz1, hz2⟩ := info_parts Tryz.infoByte
  go_enter Tryz.func128, Tryz.ntmps128
  go_wp2_with fail
  refine (copyCheck_any h).mono ?_
  rintro e w1 ⟨rfl, h1, hb1⟩
  have c1 := blk_cell h1.blk 1 _ rfl
  have c1 : w1.cell? ⟨wb, 1, none⟩ = some v := c1
  have hlt := h1.lt
  go_wp2_with (at_builtin; refine Lib.wpList_append_own_string _ rfl (.tmp 12) (.tmp 13) 124 9 rfl B 5 i0 Tryz.underlying124 Tryz.underlying9 hi hz0 hz1 hz2 _ _ _ rfl h1.row s rfl ?c3 ?c4 h1.Ble ?_)
  case c3 => unfold maxLen; omega
  case c4 => omega
  intro v2 w2 hown2 hgrow2 _
  obtain ⟨m, hm⟩ : ∃ m, s.size = m + 1 := ⟨s.size - 1, by omega⟩
  have hsl : ∃ g cap, v2 = .slice (some ⟨g, 0, none⟩) (l.length + s.size) cap := by
    rw [hm] at hown2 ⊢
    exact own_slice hown2
  obtain ⟨g2, cap2, rfl⟩ := hsl
  have hown3 : w2.ownsRow B 5 1 (.slice (some ⟨g2, 0, none⟩) (l.length + s.size) cap2) (l ++ s.data.toList).length (bytesC (l ++ s.data.toList)) := by
    rw [bytesC_app, List.length_append, show s.data.toList.length = s.size from by rw [Array.length_toList]; rfl, ← strCells_eq]
    exact hown2
  obtain ⟨h3, hb3, c3, f3⟩ := h1.grown hgrow2 hown3
  clear hown2 hown3 hgrow2 c1 hm
  go_wp2_with fail
  go_ret2
  exact ⟨rfl, _, h3, hb1.trans hb3⟩

set_option maxHeartbeats 1000000 in
theorem string_any (h : WSt B w wb q v l tight) (hl : l.length ≤ 1000000) (hl0 : l ≠ []) :
    Calls Tryz.prog 51 #[.pointer (some ⟨wb, 0, none⟩)] w fun e w' => e = .returned (.string ⟨l.toArray⟩) ∧ Below B w w' := by
  have hlen : l.length ≠ 0 := by simpa using hl0
  obtain ⟨g, cap, cur, rfl, hbg, hg, hnc, hcm, hcs, htake⟩ : ∃ g cap cur, v = .slice (some ⟨g, 0, none⟩) l.length cap ∧ B ≤ g ∧ w.heap[g]? = some (.cells cur 5 (0, 0)) ∧ l.length ≤ cap ∧ cap ≤ maxLen ∧ cur.size = cap * 1 ∧ cur.toList.take (l.length * 1) = bytesC l := by
    rcases h.row.2 with ⟨_, hz⟩ | ⟨g, cap, cur, hv, r⟩
    · exact absurd hz hlen
    · exact ⟨g, cap, cur, hv, r⟩
  have c1 : w.cell? ⟨wb, 1, none⟩ = some (.slice (some ⟨g, 0, none⟩) l.length cap) := blk_cell h.blk 1 _ rfl
  have hSD := fun w => Lib.run_unsafeSliceData_row (P := Tryz.prog) w #[124] 172 ⟨g, 0, none⟩ l.length cap (by omega)
  have hUS : (Builtin.unsafeString_ #[172, 3] 9 #[.pointer (some ⟨g, 0, none⟩), .int .i64 l.length]).run Tryz.prog w.drew = .ok (.string ⟨l.toArray⟩) (w.drew.freeze ⟨g, 0, none⟩ l.length) := by
    refine Lib.run_unsafeString_row w.drew 172 3 9 5 Tryz.underlying172 (by kernel_rfl) g cur.size (by have hg' : w.drew.heap[g]? = some (.cells cur 5 (0, 0)) := hg; simp [World.shape?, hg']) l hl0 (by omega) (by omega) ?_
    intro j x hx
    exact h.row.cells (g := g) rfl j (.int .u8 x.toNat) (by simp [bytesC, hx])
  go_enter Tryz.func51, Tryz.ntmps51
  go_wp2_with fail
  go_region
  all_goals (go_wp2_with fail; go_ret; exact ⟨rfl, Lib.below_freeze (Below.drew (Below.refl B w)) (p := ⟨g, 0, none⟩) hbg _⟩)
end
end Go.Proofs.YtbnelaoeblhndaaGreatDoor

namespace Go.Proofs.YtbnelaoeblhndaaGreatDoor
open Go.RowKit
set_option maxRecDepth 100000

section
variable {B : Nat} {w : World} {wb : Nat} {q : Option Addr} {v : Value} {l : List UInt8} {tight : Bool}

theorem WSt.c2 (h : WSt B w wb q v l tight) : w.cell? ⟨wb, 2, none⟩ = some (.bool tight) := blk_cell h.blk 2 _ rfl
theorem WSt.f2 (h : WSt B w wb q v l tight) : w.frozen? ⟨wb, 2, none⟩ = false := blk_free h.blk 2

set_option maxHeartbeats 1000000 in
theorem token_sep (h : WSt B w wb q v l false) (hl : l.length ≤ 900000) (s : ByteArray) (hs : s.size ≤ 90000) (hs0 : 0 < s.size) (k1 : (s.toList == [41]) = false) (k2 : (s.toList == [44]) = false) :
    Calls Tryz.prog 79 #[.pointer (some ⟨wb, 0, none⟩), .string s] w fun e w' => e = .returned (.tuple #[]) ∧ ∃ q' v', WSt B w' wb q' v' (l ++ [32] ++ s.data.toList) (s.toList == [40]) ∧ WM B wb w w' := by
  have c2 := h.c2
  go_enter Tryz.func79, Tryz.ntmps79
  go_wp2_with fail
  refine (writeByte_any h (by omega) 32).mono ?_
  rintro e w1 ⟨rfl, v1, h1, hb1⟩
  go_wp2_with fail
  refine (writeString_any h1 (by simp; omega) s (by omega) hs0).mono ?_
  rintro e w2 ⟨rfl, v2, h2, hb2⟩
  have d2 := h2.c2
  have f2 := h2.f2
  go_wp2_with fail
  go_end0
  obtain ⟨h3, hb3⟩ := h2.put (i := 2) (u := .bool (s.toList == [40])) (q2 := some ⟨wb, 0, none⟩) (v2 := v2) (tight2 := s.toList == [40]) h2.row (.inr rfl) rfl
  exact ⟨rfl, _, _, h3, (hb1.trans hb2).trans hb3⟩

set_option maxHeartbeats 1000000 in
theorem token_bare (h : WSt B w wb q v l tight) (hl : l.length ≤ 900000) (s : ByteArray) (hs : s.size ≤ 90000) (hs0 : 0 < s.size) (k1 : tight = true ∨ (tight = false ∧ (s.toList == [41]) = true) ∨ (tight = false ∧ (s.toList == [41]) = false ∧ (s.toList == [44]) = true)) :
    Calls Tryz.prog 79 #[.pointer (some ⟨wb, 0, none⟩), .string s] w fun e w' => e = .returned (.tuple #[]) ∧ ∃ q' v', WSt B w' wb q' v' (l ++ s.data.toList) (s.toList == [40]) ∧ WM B wb w w' := by
  rcases k1 with rfl | ⟨rfl, k2⟩ | ⟨rfl, k2, k3⟩
  all_goals
    have c2 := h.c2
    go_enter Tryz.func79, Tryz.ntmps79
    go_wp2_with fail
    refine (writeString_any h (by omega) s (by omega) hs0).mono ?_
    rintro e w2 ⟨rfl, v2, h2, hb2⟩
    have d2 := h2.c2
    have f2 := h2.f2
    go_wp2_with fail
    go_end0
    obtain ⟨h3, hb3⟩ := h2.put (i := 2) (u := .bool (s.toList == [40])) (q2 := some ⟨wb, 0, none⟩) (v2 := v2) (tight2 := s.toList == [40]) h2.row (.inr rfl) rfl
    exact ⟨rfl, _, _, h3, hb2.trans hb3⟩
end
end Go.Proofs.YtbnelaoeblhndaaGreatDoor
