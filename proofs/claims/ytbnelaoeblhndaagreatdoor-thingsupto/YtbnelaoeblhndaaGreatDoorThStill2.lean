/- The walks of the statement's stillValues and stillFields. -/
import Derived.Test.YtbnelaoeblhndaaGreatDoorThStill
import Derived.Test.YtbnelaoeblhndaaGreatDoorThCopyF
namespace Go.Proofs.YtbnelaoeblhndaaGreatDoor
open Go.RowKit
set_option maxRecDepth 100000

section
variable {w : World}

theorem blkl_cell {w : World} {g : Nat} {xs : List Value} {T : TypeId} (h : w.heap[g]? = some (.cells xs.toArray T (0, 0))) (i : Nat) (v : Value) (hv : xs[i]? = some v) : w.cell? ⟨g, i, none⟩ = some v := blk_cell h i v (by simpa using hv)

set_option maxHeartbeats 2000000 in
theorem stillV_any (l : List Doc.Val) (hl : l.length ≤ 1000000000) (lv : Value) (hs : Sl w lv l.length (valsC l)) (g : Nat) (hg : w.heap[g]? = some (.cells (valsC l ++ (zV 77 ++ zV 78)).toArray 94 (0, 0))) :
    Calls Tryz.prog 95 #[.slice (some ⟨g, 0, none⟩) (l.length + 2) (l.length + 2), lv] w fun e w' => e = .returned (.bool true) ∧ Md (fun k => k = g) w w' := by
  have hgl := lt_block hg
  have hc : ∀ c u, (zV 77 ++ zV 78)[c]? = some u → w.cell? ⟨g, l.length * 3 + c, none⟩ = some u := fun c u hu => blkl_cell hg _ _ (by rw [List.getElem?_append_right (by rw [valsC_len]; omega), valsC_len, Nat.add_sub_cancel_left]; exact hu)
  have e3 : (l.length + 1) * 3 = l.length * 3 + 3 := by omega
  have c0 : w.cell? ⟨g, l.length * 3, none⟩ = some (.int .i64 77) := hc 0 _ rfl
  have c1 : w.cell? ⟨g, l.length * 3 + 1, none⟩ = some (.int .i64 0) := hc 1 _ rfl
  have c2 : w.cell? ⟨g, l.length * 3 + 2, none⟩ = some (.string ⟨#[]⟩) := hc 2 _ rfl
  have c3 : w.cell? ⟨g, (l.length + 1) * 3, none⟩ = some (.int .i64 78) := by rw [e3]; exact hc 3 _ rfl
  have c4 : w.cell? ⟨g, (l.length + 1) * 3 + 1, none⟩ = some (.int .i64 0) := by rw [e3]; exact hc 4 _ rfl
  have c5 : w.cell? ⟨g, (l.length + 1) * 3 + 2, none⟩ = some (.string ⟨#[]⟩) := by rw [e3]; exact hc 5 _ rfl
  obtain ⟨lb, lc, rfl⟩ := hs.slice
  have HS : Hid _ := hs
  have HG : Hid _ := hg
  clear hs hg hc e3
  go_enter Tryz.func95, Tryz.ntmps95
  go_wp2_with fail
  go_loopw [5, 6] (fun ok i wr => ok = .bool true ∧ ∃ k : Nat, k ≤ l.length ∧ i = .int .i64 k ∧ Below w.heap.size w wr) (fun _ i _ => l.length - (intOf i).toNat)
  case atStart => exact ⟨rfl, 0, Nat.zero_le _, rfl, Below.refl _ _⟩
  case round =>
    obtain ⟨rfl, k, hk, rfl, hb⟩ := hrel
    by_cases hk2 : k < l.length
    · rcases HS.out.has with ⟨h0, _⟩ | ⟨_, b, off, cap, he, hc, hlt, hr⟩
      · omega
      simp only [Value.slice.injEq] at he
      obtain ⟨rfl, _, rfl⟩ := he
      obtain ⟨x, HX⟩ : ∃ x, Hid (x = l[k]) := ⟨l[k], rfl⟩
      have hv : ∀ c, c < 3 → (valsC l)[k * 3 + c]? = (valC x)[c]? := fun c hc => by unfold valsC; rw [flat_at valC 3 valC_len l k hk2 c hc, HX.out]
      have ha : ∀ c u, c < 3 → (valC x)[c]? = some u → wr.cell? ⟨b, off + (k * 3 + c), none⟩ = some u := fun c u hc hu => (hb.cell (p := ⟨b, off + (k * 3 + c), none⟩) hlt).trans (hr _ u ((hv c hc).trans hu))
      have hd : ∀ c u, c < 3 → (valC x)[c]? = some u → wr.cell? ⟨g, k * 3 + c, none⟩ = some u := fun c u hc hu => (hb.cell (p := ⟨g, k * 3 + c, none⟩) hgl).trans (blkl_cell HG.out _ u (by rw [List.getElem?_append_left (by rw [valsC_len]; omega)]; exact (hv c hc).trans hu))
      have r0 := ha 0 (.int .i64 x.k) (by omega) rfl
      have r1 := ha 1 (.int .i64 x.n) (by omega) rfl
      have r2 := ha 2 (.string x.s) (by omega) rfl
      rw [Nat.add_zero] at r0
      rw [← Nat.add_assoc] at r1 r2
      have s0 : wr.cell? ⟨g, k * 3, none⟩ = some (.int .i64 x.k) := hd 0 (.int .i64 x.k) (by omega) rfl
      have s1 := hd 1 (.int .i64 x.n) (by omega) rfl
      have s2 := hd 2 (.string x.s) (by omega) rfl
      clear hr hv ha hd c0 c1 c2 c3 c4 c5
      go_wp2_with fail
      go_region
      all_goals
        go_wp2_with fail
        go_roundw
        case rel => exact ⟨by first | rfl | simp, k + 1, by omega, by go_num, hb.drew⟩
        case measure => simp [intOf]; omega
    · obtain rfl : k = l.length := by omega
      have hg2 := (hb.block g hgl).trans HG.out
      have hmd : Md (fun k => k = g) w wr := Md.ofBelow hb
      clear c0 c1 c2 c3 c4 c5
      go_wp2_with fail
      go_loopw [7] (fun i wx => ∃ (k : Nat) (cur : Array Value), k ≤ l.length + 2 ∧ i = .int .i64 k ∧ wx.heap[g]? = some (.cells cur 94 (0, 0)) ∧ cur.size = (l.length + 2) * 3 ∧ Md (fun k => k = g) w wx) (fun i _ => l.length + 2 - (intOf i).toNat)
      case atStart => exact ⟨0, _, Nat.zero_le _, rfl, hg2, by simp [valsC_len, zV]; omega, hmd⟩
      case round =>
        obtain ⟨k, cur, hk', rfl, hcur, hcz, hm⟩ := hrel
        clear hg2 hmd
        by_cases hk3 : k < l.length + 2
        · have hi0 : k * 3 < cur.size := by omega
          obtain ⟨u0, z0⟩ : ∃ u, wr.cell? ⟨g, k * 3, none⟩ = some u := ⟨_, blk_cell hcur (k * 3) _ (Array.getElem?_eq_getElem (by omega))⟩
          obtain ⟨u1, z1⟩ : ∃ u, wr.cell? ⟨g, k * 3 + 1, none⟩ = some u := ⟨_, blk_cell hcur (k * 3 + 1) _ (Array.getElem?_eq_getElem (by omega))⟩
          obtain ⟨u2, z2⟩ : ∃ u, wr.cell? ⟨g, k * 3 + 2, none⟩ = some u := ⟨_, blk_cell hcur (k * 3 + 2) _ (Array.getElem?_eq_getElem (by omega))⟩
          have f0 := blk_free hcur (k * 3)
          have f1 := blk_free hcur (k * 3 + 1)
          have f2 := blk_free hcur (k * 3 + 2)
          go_wp2_with fail
          go_roundw
          case rel => exact ⟨k + 1, _, by omega, by go_num, set_blk' (set_blk' (set_blk' hcur (k * 3) _) (k * 3 + 1) _) (k * 3 + 2) _, by simp [hcz], ((hm.set _ (.inl rfl)).set _ (.inl rfl)).set _ (.inl rfl)⟩
          case measure => simp [intOf]; omega
        · obtain rfl : k = l.length + 2 := by omega
          go_wp2_with fail
          go_ret
          exact ⟨rfl, hm⟩

set_option maxHeartbeats 2000000 in
theorem stillF_any (l : List Doc.Fld) (hl : l.length ≤ 1000000000) (lv : Value) (hs : Sl w lv l.length (fldsC l)) (g : Nat) (hg : w.heap[g]? = some (.cells (fldsC l ++ (zF 77 ++ zF 78)).toArray 92 (0, 0))) :
    Calls Tryz.prog 90 #[.slice (some ⟨g, 0, none⟩) (l.length + 2) (l.length + 2), lv] w fun e w' => e = .returned (.bool true) ∧ Md (fun k => k = g) w w' := by
  have hgl := lt_block hg
  have hc : ∀ c u, (zF 77 ++ zF 78)[c]? = some u → w.cell? ⟨g, l.length * 2 + c, none⟩ = some u := fun c u hu => blkl_cell hg _ _ (by rw [List.getElem?_append_right (by rw [fldsC_len2]; omega), fldsC_len2, Nat.add_sub_cancel_left]; exact hu)
  have e3 : (l.length + 1) * 2 = l.length * 2 + 2 := by omega
  have c0 : w.cell? ⟨g, l.length * 2, none⟩ = some (.string ⟨#[]⟩) := hc 0 _ rfl
  have c1 : w.cell? ⟨g, l.length * 2 + 1, none⟩ = some (.int .i64 77) := hc 1 _ rfl
  have c2 : w.cell? ⟨g, (l.length + 1) * 2, none⟩ = some (.string ⟨#[]⟩) := by rw [e3]; exact hc 2 _ rfl
  have c3 : w.cell? ⟨g, (l.length + 1) * 2 + 1, none⟩ = some (.int .i64 78) := by rw [e3]; exact hc 3 _ rfl
  obtain ⟨lb, lc, rfl⟩ := hs.slice
  have HS : Hid _ := hs
  have HG : Hid _ := hg
  clear hs hg hc e3
  go_enter Tryz.func90, Tryz.ntmps90
  go_wp2_with fail
  go_loopw [5, 6] (fun ok i wr => ok = .bool true ∧ ∃ k : Nat, k ≤ l.length ∧ i = .int .i64 k ∧ Below w.heap.size w wr) (fun _ i _ => l.length - (intOf i).toNat)
  case atStart => exact ⟨rfl, 0, Nat.zero_le _, rfl, Below.refl _ _⟩
  case round =>
    obtain ⟨rfl, k, hk, rfl, hb⟩ := hrel
    by_cases hk2 : k < l.length
    · rcases HS.out.has with ⟨h0, _⟩ | ⟨_, b, off, cap, he, hc, hlt, hr⟩
      · omega
      simp only [Value.slice.injEq] at he
      obtain ⟨rfl, _, rfl⟩ := he
      obtain ⟨x, HX⟩ : ∃ x, Hid (x = l[k]) := ⟨l[k], rfl⟩
      have hv : ∀ c, c < 2 → (fldsC l)[k * 2 + c]? = (fldC x)[c]? := fun c hc => by unfold fldsC; rw [flat_at fldC 2 fldC_len l k hk2 c hc, HX.out]
      have ha : ∀ c u, c < 2 → (fldC x)[c]? = some u → wr.cell? ⟨b, off + (k * 2 + c), none⟩ = some u := fun c u hc hu => (hb.cell (p := ⟨b, off + (k * 2 + c), none⟩) hlt).trans (hr _ u ((hv c hc).trans hu))
      have hd : ∀ c u, c < 2 → (fldC x)[c]? = some u → wr.cell? ⟨g, k * 2 + c, none⟩ = some u := fun c u hc hu => (hb.cell (p := ⟨g, k * 2 + c, none⟩) hgl).trans (blkl_cell HG.out _ u (by rw [List.getElem?_append_left (by rw [fldsC_len2]; omega)]; exact (hv c hc).trans hu))
      have r0 := ha 0 (.string x.name) (by omega) rfl
      have r1 := ha 1 (.int .i64 x.kind) (by omega) rfl
      rw [Nat.add_zero] at r0
      rw [← Nat.add_assoc] at r1
      have s0 : wr.cell? ⟨g, k * 2, none⟩ = some (.string x.name) := hd 0 (.string x.name) (by omega) rfl
      have s1 := hd 1 (.int .i64 x.kind) (by omega) rfl
      clear hr hv ha hd c0 c1 c2 c3
      go_wp2_with fail
      go_region
      all_goals
        go_wp2_with fail
        go_roundw
        case rel => exact ⟨by first | rfl | simp, k + 1, by omega, by go_num, hb.drew⟩
        case measure => simp [intOf]; omega
    · obtain rfl : k = l.length := by omega
      have hg2 := (hb.block g hgl).trans HG.out
      have hmd : Md (fun k => k = g) w wr := Md.ofBelow hb
      clear c0 c1 c2 c3
      go_wp2_with fail
      go_loopw [7] (fun i wx => ∃ (k : Nat) (cur : Array Value), k ≤ l.length + 2 ∧ i = .int .i64 k ∧ wx.heap[g]? = some (.cells cur 92 (0, 0)) ∧ cur.size = (l.length + 2) * 2 ∧ Md (fun k => k = g) w wx) (fun i _ => l.length + 2 - (intOf i).toNat)
      case atStart => exact ⟨0, _, Nat.zero_le _, rfl, hg2, by simp [fldsC_len2, zF]; omega, hmd⟩
      case round =>
        obtain ⟨k, cur, hk', rfl, hcur, hcz, hm⟩ := hrel
        clear hg2 hmd
        by_cases hk3 : k < l.length + 2
        · have hi0 : k * 2 < cur.size := by omega
          obtain ⟨u0, z0⟩ : ∃ u, wr.cell? ⟨g, k * 2, none⟩ = some u := ⟨_, blk_cell hcur (k * 2) _ (Array.getElem?_eq_getElem (by omega))⟩
          obtain ⟨u1, z1⟩ : ∃ u, wr.cell? ⟨g, k * 2 + 1, none⟩ = some u := ⟨_, blk_cell hcur (k * 2 + 1) _ (Array.getElem?_eq_getElem (by omega))⟩
          have f0 := blk_free hcur (k * 2)
          have f1 := blk_free hcur (k * 2 + 1)
          go_wp2_with fail
          go_roundw
          case rel => exact ⟨k + 1, _, by omega, by go_num, set_blk' (set_blk' hcur (k * 2) _) (k * 2 + 1) _, by simp [hcz], (hm.set _ (.inl rfl)).set _ (.inl rfl)⟩
          case measure => simp [intOf]; omega
        · obtain rfl : k = l.length + 2 := by omega
          go_wp2_with fail
          go_ret
          exact ⟨rfl, hm⟩
end
end Go.Proofs.YtbnelaoeblhndaaGreatDoor
