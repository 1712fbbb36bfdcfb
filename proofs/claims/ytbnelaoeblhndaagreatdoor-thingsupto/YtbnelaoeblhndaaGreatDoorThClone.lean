/- The walks of slices.Clone at numbers and at values. -/
import Derived.Test.YtbnelaoeblhndaaGreatDoorThRef3
namespace Go.Proofs.YtbnelaoeblhndaaGreatDoor
open Go.RowKit
set_option maxRecDepth 100000
section
variable {w : World}

set_option maxHeartbeats 1000000 in
theorem cloneI_any (sv : Value) (n : Nat) (news : List Value) (hs : Sl w sv n news) (hl : news.length = n * 1) (hn : n ≤ 1000000) (h1 : ∀ u ∈ news, u.oneCell' = true) :
    Calls Tryz.prog 109 #[sv] w fun e w' => ∃ v', e = .returned v' ∧ w'.ownsRow w.heap.size 3 1 v' n news ∧ Below w.heap.size w w' := by
  obtain ⟨i0, hi, hz0, hz1, hz2⟩ := info_parts Tryz.infoIntT
  have q22 : ∀ (w : World) (a : Option Addr) (n c n' c' : Nat), (binOp .eql 33 (.slice a n c) (.slice none n' c')).run Tryz.prog w = .ok (.bool a.isNone) w := fun w a n c n' c' => Lib.run_eql_slice_nil w _ _ a n c n' c' Tryz.underlying33
  have main : ∀ (a : Addr) (c : Nat), (∀ j u, news[j]? = some u → w.cell? (a.add j) = some u) → Calls Tryz.prog 109 #[.slice (some a) n c] w fun e w' => ∃ v', e = .returned v' ∧ w'.ownsRow w.heap.size 3 1 v' n news ∧ Below w.heap.size w w' := by
    intro a c hc
    have HC : Hid _ := hc
    clear hc hs
    go_enter Tryz.func109, Tryz.ntmps109
    go_wp2_with (at_builtin; refine wpList_append_own_at _ rfl _ _ 33 rfl w.heap.size 3 i0 _ 1 8 Tryz.underlying33 hi hz0 hz1 hz2 rfl (by decide) _ _ _ rfl (World.ownsRow_made w #[] 0 (Nat.le_refl _) (Nat.zero_le _) (by simp)) a n c news rfl ?c0 ?c1 ?c2 ?c3 ?c4 ?c5 ?_)
    case c0 => exact hl
    case c1 => intro j u hj; exact Lib.cell?_alloc_some _ (HC.out j u hj)
    case c2 => exact h1
    case c3 => unfold maxLen; omega
    case c4 => omega
    case c5 => simp
    intro v2 w2 hown hgrow _ _
    go_wp2_with fail
    go_ret
    exact ⟨v2, rfl, by simpa using hown, ((Below.refl _ w).alloc (Nat.le_refl _) _).grown hgrow (by simp) (by intro k hk; simp [Value.ownBlock] at hk; omega)⟩
  rcases hs.has with ⟨rfl, a, cap, rfl⟩ | ⟨h0, b, off, cap, rfl, hc, hlt, hr⟩
  · have hnil : news = [] := List.eq_nil_of_length_eq_zero (by omega)
    subst hnil
    cases a with
    | some a => exact main a cap (fun j u hj => by simp at hj)
    | none =>
      clear main hs
      go_enter Tryz.func109, Tryz.ntmps109
      go_wp2_with fail
      go_ret
      exact ⟨_, rfl, World.ownsRow_nil _ _ _ _, Below.refl _ _⟩
  · exact main ⟨b, off, none⟩ cap (fun j u hj => by rw [addr_add2]; exact hr j u hj)

set_option maxHeartbeats 1000000 in
theorem cloneV_any (sv : Value) (n : Nat) (news : List Value) (hs : Sl w sv n news) (hl : news.length = n * 3) (hn : n ≤ 1000000) (h1 : ∀ u ∈ news, u.oneCell' = true) :
    Calls Tryz.prog 110 #[sv] w fun e w' => ∃ v', e = .returned v' ∧ w'.ownsRow w.heap.size 94 3 v' n news ∧ Below w.heap.size w w' := by
  obtain ⟨i0, hi, hz0, hz1, hz2⟩ := info_parts Tryz.infoValT
  have q22 : ∀ (w : World) (a : Option Addr) (n c n' c' : Nat), (binOp .eql 55 (.slice a n c) (.slice none n' c')).run Tryz.prog w = .ok (.bool a.isNone) w := fun w a n c n' c' => Lib.run_eql_slice_nil w _ _ a n c n' c' Tryz.underlying55
  have main : ∀ (a : Addr) (c : Nat), (∀ j u, news[j]? = some u → w.cell? (a.add j) = some u) → Calls Tryz.prog 110 #[.slice (some a) n c] w fun e w' => ∃ v', e = .returned v' ∧ w'.ownsRow w.heap.size 94 3 v' n news ∧ Below w.heap.size w w' := by
    intro a c hc
    have HC : Hid _ := hc
    clear hc hs
    go_enter Tryz.func110, Tryz.ntmps110
    go_wp2_with (at_builtin; refine wpList_append_own_at _ rfl _ _ 55 rfl w.heap.size 94 i0 _ 3 32 Tryz.underlying55 hi hz0 hz1 hz2 rfl (by decide) _ _ _ rfl (World.ownsRow_made w #[] 0 (Nat.le_refl _) (Nat.zero_le _) (by simp)) a n c news rfl ?c0 ?c1 ?c2 ?c3 ?c4 ?c5 ?_)
    case c0 => exact hl
    case c1 => intro j u hj; exact Lib.cell?_alloc_some _ (HC.out j u hj)
    case c2 => exact h1
    case c3 => unfold maxLen; omega
    case c4 => omega
    case c5 => simp
    intro v2 w2 hown hgrow _ _
    go_wp2_with fail
    go_ret
    exact ⟨v2, rfl, by simpa using hown, ((Below.refl _ w).alloc (Nat.le_refl _) _).grown hgrow (by simp) (by intro k hk; simp [Value.ownBlock] at hk; omega)⟩
  rcases hs.has with ⟨rfl, a, cap, rfl⟩ | ⟨h0, b, off, cap, rfl, hc, hlt, hr⟩
  · have hnil : news = [] := List.eq_nil_of_length_eq_zero (by omega)
    subst hnil
    cases a with
    | some a => exact main a cap (fun j u hj => by simp at hj)
    | none =>
      clear main hs
      go_enter Tryz.func110, Tryz.ntmps110
      go_wp2_with fail
      go_ret
      exact ⟨_, rfl, World.ownsRow_nil _ _ _ _, Below.refl _ _⟩
  · exact main ⟨b, off, none⟩ cap (fun j u hj => by rw [addr_add2]; exact hr j u hj)
end
end Go.Proofs.YtbnelaoeblhndaaGreatDoor
