/- Drawn regions by hand: operations that wait upon a verdict. -/
import Derived.Test.YtbnelaoeblhndaaGreatDoorFiM1
namespace Go.Proofs.YtbnelaoeblhndaaGreatDoor
open Go.RowKit
set_option maxRecDepth 100000

section
variable {P : Program} {md : Region.Mode} {ops : Array Oper} {Q : Exit → Act → World → Prop} {S : World → Prop} {f : Nat}
theorem anyM_takeG {i : Nat} {oi : Oper} {v : Value} {t : Tmp} {n : Nat} {l : Array Bool} {a : Act} {w : World} (hi : ops[i]? = some oi) (hs : Region.noSelect ops = true) (hf : Region.free md ops l i = true) (hr : (Region.ready md ops l).contains i = true) (hw : waitsB md ops f i = true)
    (hQ : ∀ c a w, Q (.panic c) (a.put oi.dst v) w → Q (.panic c) a w) (hwt : Region.wanted oi (yielded ops a.tmps) = true) (hdst : oi.dst = some t) (hS : S w) (hy : ∀ w, S w → (execOp a.eval oi).run P w = .ok (.value v) w)
    (h : anyM P md ops Q S f n (l.setIfInBounds i true) { a with tmps := a.tmps.setIfInBounds t v } w) : anyM P md ops Q S f (n + 1) l a w := by
  have h : anyM P md ops Q S f n (l.setIfInBounds i true) (a.put oi.dst v) w := by rw [hdst]; exact h
  exact anyM_first hi (Region.noSelect_spec hs) hw hQ n l a w (Region.free_spec hi hf) (by simpa using hr) (.inl ⟨hwt, hy⟩) hS h
/-- One that is not wanted. -/
theorem anyM_skipG {i : Nat} {oi : Oper} {t : Tmp} {n : Nat} {l : Array Bool} {a : Act} {w : World} (hi : ops[i]? = some oi) (hs : Region.noSelect ops = true) (hf : Region.free md ops l i = true) (hr : (Region.ready md ops l).contains i = true) (hw : waitsB md ops f i = true)
    (hQ : ∀ c a w, Q (.panic c) (a.put oi.dst undef) w → Q (.panic c) a w) (hwt : Region.wanted oi (yielded ops a.tmps) = false) (hdst : oi.dst = some t) (hS : S w)
    (h : anyM P md ops Q S f n (l.setIfInBounds i true) { a with tmps := a.tmps.setIfInBounds t undef } w) : anyM P md ops Q S f (n + 1) l a w := by
  have h : anyM P md ops Q S f n (l.setIfInBounds i true) (a.put oi.dst undef) w := by rw [hdst]; exact h
  exact anyM_first hi (Region.noSelect_spec hs) hw hQ n l a w (Region.free_spec hi hf) (by simpa using hr) (.inr ⟨hwt, rfl⟩) hS h
theorem anyM_oneG {i : Nat} {o : Oper} {n : Nat} {l : Array Bool} {a : Act} {w : World} (hr : Region.ready md ops l = [i]) (ho : ops[i]? = some o) (hg : Region.wanted o (yielded ops a.tmps) = true)
    (h : ∀ K' : Act → World → Prop, Shut (∀ a w, (i ≠ f → S w) → anyM P md ops Q S f n (l.setIfInBounds i true) a w → K' a w) → Oper.wp P o a w K' Q) : anyM P md ops Q S f (n + 1) l a w := by
  refine ⟨fun h0 => absurd (hr ▸ h0) (by simp), fun j hj => ?_⟩
  rw [hr] at hj
  obtain rfl := List.mem_singleton.1 hj
  refine wpOp_step ho (fun K' hK => ?_)
  rw [if_pos hg]
  exact h K' (fun a w hS hW => hK a w ⟨hS, hW⟩)
end
end Go.Proofs.YtbnelaoeblhndaaGreatDoor
