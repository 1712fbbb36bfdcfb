/- Walks of the program's all and filter. The walk of the program's negation. -/
import Derived.Test.YtbnelaoeblhndaaGreatDoorSynChain2
namespace Go.Proofs.YtbnelaoeblhndaaGreatDoor
open Go.RowKit
set_option maxRecDepth 100000

section
variable {B : Nat} {w : World} {rb : Nat} {s : ByteArray} {L : List Doc.Tok} {i op fault : Nat}

theorem TPost.ret {res : Doc.Res Doc.Ast} {r : Ending} {w' : World} (h : TPost B rb s L op fault w res r w') : ∃ (x : Int) (b1 : Option Addr) (n1 m1 : Nat) (s1 s2 : ByteArray) (na1 na2 : Int) (b2 : Option Addr) (n2 m2 : Nat) (b : Bool), r = .returned (.tuple #[.agg #[.int .i64 x, .slice b1 n1 m1, .string s1, .int .i64 na1, .string s2, .int .i64 na2, .slice b2 n2 m2], .bool b]) := by
  cases res with
  | ok a j =>
    obtain ⟨cs, rfl, hrep, _⟩ := h
    obtain ⟨b1, n1, m1, s1, s2, na1, na2, b2, n2, m2, hcs⟩ := (hrep.five rfl).has
    have hcs' : cs = #[.int .i64 (kindOf a), .slice b1 n1 m1, .string s1, .int .i64 na1, .string s2, .int .i64 na2, .slice b2 n2 m2] := Array.ext' (by rw [hcs])
    subst hcs'
    exact ⟨_, _, _, _, _, _, _, _, _, _, _, _, rfl⟩
  | err e q => obtain ⟨j, rfl, _⟩ := h; exact ⟨_, _, _, _, _, _, _, _, _, _, _, _, rfl⟩

/-- What a function leaves that hands on what another left, by a result of its own. -/
theorem TPost.pass (h : PR B w rb s L i op fault) {o : Obj} {res : Doc.Res Doc.Ast} {w1 : World} {c0 c1 c2 c3 c4 c5 c6 b : Value} (hp : TPost B rb s L op fault (w.alloc o) res (.returned (.tuple #[.agg #[c0, c1, c2, c3, c4, c5, c6], b])) w1) :
    TPost B rb s L op fault w res (.returned (.tuple #[.agg #[c0, c1, c2, c3, c4, c5, c6], b])) (((((((w1.setCell ⟨w.heap.size, 0, none⟩ c0).setCell ⟨w.heap.size, 1, none⟩ c1).setCell ⟨w.heap.size, 2, none⟩ c2).setCell ⟨w.heap.size, 3, none⟩ c3).setCell ⟨w.heap.size, 4, none⟩ c4).setCell ⟨w.heap.size, 5, none⟩ c5).setCell ⟨w.heap.size, 6, none⟩ c6) := by
  have hne : w.heap.size ≠ rb := by have := h.rlt; omega
  have hz : (w.alloc o).heap.size = w.heap.size + 1 := by simp
  cases res with
  | ok a j =>
    obtain ⟨cs, e, hrep, h1, k1⟩ := hp
    refine ⟨cs, e, ?_, h1.set7 _ _ _ _ _ _ _ hne h.Ble, (((PM.refl B rb w).alloc h.Ble o).trans k1).set7 _ _ _ _ _ _ _ (Nat.le_refl _) h.Ble⟩
    refine hrep.kept (fun k u hF hu => ?_) (fun k hF _ => by omega)
    rw [set7_block _ _ _ _ _ _ _ (by omega)]; exact hu
  | err e q =>
    obtain ⟨j, e1, e2, h1, k1⟩ := hp
    exact ⟨j, e1, e2, h1.set7 _ _ _ _ _ _ _ hne h.Ble, (((PM.refl B rb w).alloc h.Ble o).trans k1).set7 _ _ _ _ _ _ _ (Nat.le_refl _) h.Ble⟩

theorem TPost.pm {res : Doc.Res Doc.Ast} {r : Ending} {w' : World} (h : TPost B rb s L op fault w res r w') : PM B rb w w' := by
  cases res with
  | ok a j => obtain ⟨_, _, _, _, h⟩ := h; exact h
  | err e q => obtain ⟨_, _, _, _, h⟩ := h; exact h

set_option maxHeartbeats 1000000 in
theorem sall_any {d : Nat} (h : PR B w rb s L i op fault) (hE : Doc.Ended L) (hL : L.length ≤ 300) (hs : s.size ≤ 200) (hlk : ∀ i a j, i < L.length → Doc.pPart L d i = .ok a j → i < j)
    (HR : ∀ w' i', PR B w' rb s L i' op fault → Calls Tryz.prog 163 #[.pointer (some ⟨rb, 0, none⟩)] w' (TPost B rb s L op fault w' (Doc.pPart L d i'))) :
    Calls Tryz.prog 126 #[.pointer (some ⟨rb, 0, none⟩)] w (TPost B rb s L op fault w (Doc.pAll L d i)) := by
  have HC : Hid (∀ w', PR B w' rb s L i op fault → Calls Tryz.prog 125 #[.pointer (some ⟨rb, 0, none⟩), .int .i64 1, .string ⟨#[97, 110, 100]⟩, .func (.func 163) #[.pointer (some ⟨rb, 0, none⟩)] #[]] w' (TPost B rb s L op fault w' (Doc.pAll L d i))) :=
    fun w' h' => chain_any h' hE hL hs 1 1 .and joins_and [97, 110, 100] bare_and 163 Tryz.call163 (Doc.pPart L d) hlk HR
  have hlt := h.rlt
  clear HR hlk
  go_enter Tryz.func126, Tryz.ntmps126
  go_wp2_with fail
  refine Calls.mono (HC.out _ (h.alloc _)) ?_
  intro r w1 hp
  obtain ⟨x, b1, n1, m1, s1, s2, na1, na2, b2, n2, m2, b, rfl⟩ := hp.ret
  have q1 := hp.pm.blk (heap_alloc_new w _) (by omega : w.heap.size ≠ rb)
  have HP : Hid _ := hp
  clear hp
  obtain ⟨a0, a1, a2, a3, a4, a5, a6⟩ := fv_cells q1
  obtain ⟨x0, x1, x2, x3, x4, x5, x6⟩ := fv_free q1
  have hl := lt_block q1
  go_wp2_with fail
  exact bodyPost_ret (v := .tuple #[.agg #[.int .i64 x, .slice b1 n1 m1, .string s1, .int .i64 na1, .string s2, .int .i64 na2, .slice b2 n2 m2], .bool b]) (by simp [results, Tryz.results126, go_sem, a0, a1, a2, a3, a4, a5, a6]) rfl (TPost.pass h HP.out)

set_option maxHeartbeats 1000000 in
theorem sfilter_any {d : Nat} (h : PR B w rb s L i op fault) (hE : Doc.Ended L) (hL : L.length ≤ 300) (hs : s.size ≤ 200) (hlk : ∀ i a j, i < L.length → Doc.pAll L d i = .ok a j → i < j)
    (HR : ∀ w' i', PR B w' rb s L i' op fault → Calls Tryz.prog 126 #[.pointer (some ⟨rb, 0, none⟩)] w' (TPost B rb s L op fault w' (Doc.pAll L d i'))) :
    Calls Tryz.prog 76 #[.pointer (some ⟨rb, 0, none⟩)] w (TPost B rb s L op fault w (Doc.pFilter L d i)) := by
  have HC : Hid (∀ w', PR B w' rb s L i op fault → Calls Tryz.prog 125 #[.pointer (some ⟨rb, 0, none⟩), .int .i64 0, .string ⟨#[111, 114]⟩, .func (.func 126) #[.pointer (some ⟨rb, 0, none⟩)] #[]] w' (TPost B rb s L op fault w' (Doc.pFilter L d i))) :=
    fun w' h' => chain_any h' hE hL hs 2 0 .or joins_or [111, 114] bare_or 126 Tryz.call126 (Doc.pAll L d) hlk HR
  have hlt := h.rlt
  clear HR hlk
  go_enter Tryz.func76, Tryz.ntmps76
  go_wp2_with fail
  refine Calls.mono (HC.out _ (h.alloc _)) ?_
  intro r w1 hp
  obtain ⟨x, b1, n1, m1, s1, s2, na1, na2, b2, n2, m2, b, rfl⟩ := hp.ret
  have q1 := hp.pm.blk (heap_alloc_new w _) (by omega : w.heap.size ≠ rb)
  have HP : Hid _ := hp
  clear hp
  obtain ⟨a0, a1, a2, a3, a4, a5, a6⟩ := fv_cells q1
  obtain ⟨x0, x1, x2, x3, x4, x5, x6⟩ := fv_free q1
  have hl := lt_block q1
  go_wp2_with fail
  exact bodyPost_ret (v := .tuple #[.agg #[.int .i64 x, .slice b1 n1 m1, .string s1, .int .i64 na1, .string s2, .int .i64 na2, .slice b2 n2 m2], .bool b]) (by simp [results, Tryz.results76, go_sem, a0, a1, a2, a3, a4, a5, a6]) rfl (TPost.pass h HP.out)
end
end Go.Proofs.YtbnelaoeblhndaaGreatDoor

namespace Go.Proofs.YtbnelaoeblhndaaGreatDoor
open Go.RowKit
set_option maxRecDepth 100000

def Doc.notR : Doc.Res Doc.Ast → Doc.Res Doc.Ast
  | .ok a j => .ok (.not a) j
  | .err e p => .err e p

section
variable {B : Nat} {w : World} {rb : Nat} {s : ByteArray} {L : List Doc.Tok} {i op fault : Nat}

set_option maxHeartbeats 1000000 in
theorem neg_any {res : Doc.Res Doc.Ast} (h : PR B w rb s L i op fault)
    (HR : ∀ w', PR B w' rb s L i op fault → Calls Tryz.prog 163 #[.pointer (some ⟨rb, 0, none⟩)] w' (TPost B rb s L op fault w' res)) :
    Calls Tryz.prog 183 #[.pointer (some ⟨rb, 0, none⟩)] w (TPost B rb s L op fault w (Doc.notR res)) := by
  have HR' : Hid (∀ w', PR B w' rb s L i op fault → Calls Tryz.prog 163 #[.pointer (some ⟨rb, 0, none⟩)] w' (TPost B rb s L op fault w' res)) := HR
  have hlt := h.rlt
  have hb0 := h.Ble
  have hne : w.heap.size ≠ rb := by omega
  clear HR
  cases res with
  | err e q =>
    go_enter Tryz.func183, Tryz.ntmps183
    go_wp2_with fail
    refine Calls.mono (HR'.out _ (h.alloc _)) ?_
    rintro r w1 ⟨j, rfl, hq, h1, k1⟩
    have HQ : Hid (q = (Doc.tk L j).at_) := hq
    have q1 := k1.blk (heap_alloc_new w _) hne
    have k2 := ((PM.refl B rb w).alloc h.Ble _).trans k1
    obtain ⟨a0, a1, a2, a3, a4, a5, a6⟩ := fv_cells q1
    obtain ⟨x0, x1, x2, x3, x4, x5, x6⟩ := fv_free q1
    have hl := lt_block q1
    clear hq
    go_wp2_with fail
    exact bodyPost_ret (v := .tuple #[.agg #[.int .i64 0, .slice none 0 0, .string ⟨#[]⟩, .int .i64 0, .string ⟨#[]⟩, .int .i64 0, .slice none 0 0], .bool false]) (by simp [results, Tryz.results183, go_sem, a0, a1, a2, a3, a4, a5, a6, hl]) rfl ⟨j, rfl, HQ.out, (h1.set7 _ _ _ _ _ _ _ hne hb0).alloc _, (k2.set7 _ _ _ _ _ _ _ (Nat.le_refl _) hb0).alloc (h1.set7 _ _ _ _ _ _ _ hne hb0).Ble _⟩
  | ok a j =>
    go_enter Tryz.func183, Tryz.ntmps183
    go_wp2_with fail
    refine Calls.mono (HR'.out _ (h.alloc _)) ?_
    rintro r w1 ⟨cs, rfl, hrep, h1, k1⟩
    obtain ⟨b1, n1, m1, s1, s2, na1, na2, b2, n2, m2, hcs⟩ := (hrep.five rfl).has
    have hcs' : cs = #[.int .i64 (kindOf a), .slice b1 n1 m1, .string s1, .int .i64 na1, .string s2, .int .i64 na2, .slice b2 n2 m2] := Array.ext' (by rw [hcs])
    subst hcs'
    have HRP : Hid _ := hrep
    have q1 := k1.blk (heap_alloc_new w _) hne
    have k2 := ((PM.refl B rb w).alloc h.Ble _).trans k1
    obtain ⟨a0, a1, a2, a3, a4, a5, a6⟩ := fv_cells q1
    obtain ⟨x0, x1, x2, x3, x4, x5, x6⟩ := fv_free q1
    have hl := lt_block q1
    clear hrep hcs
    go_wp2_with fail
    refine bodyPost_ret (v := .tuple #[.agg #[.int .i64 2, .slice (some ⟨w1.heap.size + 1, 0, none⟩) 1 1, .string ⟨#[]⟩, .int .i64 0, .string ⟨#[]⟩, .int .i64 0, .slice none 0 0], .bool true]) (by simp [results, Tryz.results183, go_sem, a0, a1, a2, a3, a4, a5, a6, hl, show w.heap.size < w1.heap.size + 1 by omega]) rfl ?_
    have h2 := h1.set7 (n := w.heap.size) (.int .i64 2) (.slice (some ⟨w1.heap.size + 1, 0, none⟩) 1 1) (.string ⟨#[]⟩) (.int .i64 0) (.string ⟨#[]⟩) (.int .i64 0) (.slice none 0 0) hne hb0
    refine ⟨_, rfl, ?_, (h2.alloc _).alloc _, ((k2.set7 _ _ _ _ _ _ _ (Nat.le_refl _) hb0).alloc h2.Ble _).alloc (h2.alloc _).Ble _⟩
    have hz : (w.alloc zBox).heap.size = w.heap.size + 1 := by simp
    refine RepT.not (cs := [.int .i64 (kindOf a), .slice b1 n1 m1, .string s1, .int .i64 na1, .string s2, .int .i64 na2, .slice b2 n2 m2]) (RepT.kept HRP.out (fun k o hF ho => ?_) (fun k hF _ => ?_)) ⟨rfl, .inr ⟨w1.heap.size + 1, 1, #[.int .i64 (kindOf a), .slice b1 n1 m1, .string s1, .int .i64 na1, .string s2, .int .i64 na2, .slice b2 n2 m2], rfl, Nat.zero_le _, ?_, Nat.le_refl _, by unfold maxLen; omega, ?_, ?_⟩⟩ (fun k hk => ?_)
    · have hlk := lt_block ho
      have hF' : w.heap.size + 1 ≤ k := by simpa using hF
      rw [heap_alloc_old _ _ (by simp; omega), heap_alloc_old _ _ (by simp; omega), set7_block _ _ _ _ _ _ _ (by omega)]; exact ho
    · have hF' : w.heap.size + 1 ≤ k := by simpa using hF
      omega
    · have := heap_alloc_new ((((((((w1.setCell ⟨w.heap.size, 0, none⟩ (.int .i64 2)).setCell ⟨w.heap.size, 1, none⟩ (.slice (some ⟨w1.heap.size + 1, 0, none⟩) 1 1)).setCell ⟨w.heap.size, 2, none⟩ (.string ⟨#[]⟩)).setCell ⟨w.heap.size, 3, none⟩ (.int .i64 0)).setCell ⟨w.heap.size, 4, none⟩ (.string ⟨#[]⟩)).setCell ⟨w.heap.size, 5, none⟩ (.int .i64 0)).setCell ⟨w.heap.size, 6, none⟩ (.slice none 0 0)).alloc (.cells #[.int .i64 (kindOf a), .slice b1 n1 m1, .string s1, .int .i64 na1, .string s2, .int .i64 na2, .slice b2 n2 m2] 69)) (.cells #[.int .i64 (kindOf a), .slice b1 n1 m1, .string s1, .int .i64 na1, .string s2, .int .i64 na2, .slice b2 n2 m2] 69)
      simpa using this
    · rfl
    · rfl
    · have : w1.heap.size + 1 = k := by simpa [Value.ownBlock] using hk
      omega
end
end Go.Proofs.YtbnelaoeblhndaaGreatDoor
