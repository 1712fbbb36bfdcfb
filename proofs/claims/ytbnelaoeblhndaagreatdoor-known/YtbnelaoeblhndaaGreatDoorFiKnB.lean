import Derived.Test.YtbnelaoeblhndaaGreatDoorFiKnA
import Derived.BigQuiet
import Derived.BigGuard
import Derived.Test.YtbnelaoeblhndaaGreatDoorFiAny2
/- The walk of the statements' shown, where a thing is there. -/
namespace Go.Proofs.YtbnelaoeblhndaaGreatDoor
open Go.RowKit
set_option maxRecDepth 100000

/-- Two values in a row. -/
structure TwoV (w : World) (b o : Nat) (x y : Doc.Val) : Prop where
  lt : b < w.heap.size
  a0 : w.cell? ⟨b, o, none⟩ = some (.int .i64 x.k)
  a1 : w.cell? ⟨b, o + 1, none⟩ = some (.int .i64 x.n)
  a2 : w.cell? ⟨b, o + 2, none⟩ = some (.string x.s)
  d0 : w.cell? ⟨b, o + 3, none⟩ = some (.int .i64 y.k)
  d1 : w.cell? ⟨b, o + 3 + 1, none⟩ = some (.int .i64 y.n)
  d2 : w.cell? ⟨b, o + 3 + 2, none⟩ = some (.string y.s)
theorem TwoV.below {w w' : World} {b o B : Nat} {x y : Doc.Val} (h : TwoV w b o x y) (hb : Below B w w') (hB : b < B) : TwoV w' b o x y :=
  ⟨Nat.lt_of_lt_of_le h.lt hb.size, (hb.cell (p := ⟨b, o, none⟩) hB).trans h.a0, (hb.cell (p := ⟨b, o + 1, none⟩) hB).trans h.a1, (hb.cell (p := ⟨b, o + 2, none⟩) hB).trans h.a2, (hb.cell (p := ⟨b, o + 3, none⟩) hB).trans h.d0, (hb.cell (p := ⟨b, o + 3 + 1, none⟩) hB).trans h.d1, (hb.cell (p := ⟨b, o + 3 + 2, none⟩) hB).trans h.d2⟩
theorem two_of {w : World} {v : Value} {x y : Doc.Val} (h : Sl w v 2 (valsC [x, y])) : ∃ b o m, v = .slice (some ⟨b, o, none⟩) 2 m ∧ TwoV w b o x y := by
  rcases h.has with ⟨h0, _⟩ | ⟨_, b, o, m, rfl, _, hlt, hr⟩
  · omega
  · exact ⟨b, o, m, rfl, hlt, hr 0 _ rfl, hr 1 _ rfl, hr 2 _ rfl, hr 3 _ rfl, hr 4 _ rfl, hr 5 _ rfl⟩

/-- A thing of the statement's in a cell. -/
structure RawAt (w : World) (b : Nat) (t : Doc.Raw) : Prop where
  lt : b < w.heap.size
  c0 : w.cell? ⟨b, 0, none⟩ = some (.int .i64 t.i)
  c1 : w.cell? ⟨b, 1, none⟩ = some (.int .i64 t.x)
  c2 : w.cell? ⟨b, 2, none⟩ = some (.int .i64 t.y)
  c3 : w.cell? ⟨b, 3, none⟩ = some (.int .i64 t.n)
  c4 : w.cell? ⟨b, 4, none⟩ = some (.int .i64 t.s)
theorem RawAt.below {w w' : World} {b B : Nat} {t : Doc.Raw} (h : RawAt w b t) (hb : Below B w w') (hB : b < B) : RawAt w' b t :=
  ⟨Nat.lt_of_lt_of_le h.lt hb.size, (hb.cell (p := ⟨b, 0, none⟩) hB).trans h.c0, (hb.cell (p := ⟨b, 1, none⟩) hB).trans h.c1, (hb.cell (p := ⟨b, 2, none⟩) hB).trans h.c2, (hb.cell (p := ⟨b, 3, none⟩) hB).trans h.c3, (hb.cell (p := ⟨b, 4, none⟩) hB).trans h.c4⟩
theorem RawAt.new (w : World) (t : Doc.Raw) (ty : TypeId) : RawAt (w.alloc (.cells #[.int .i64 t.i, .int .i64 t.x, .int .i64 t.y, .int .i64 t.n, .int .i64 t.s] ty)) w.heap.size t := by
  have h := heap_alloc_new w (.cells #[.int .i64 t.i, .int .i64 t.x, .int .i64 t.y, .int .i64 t.n, .int .i64 t.s] ty)
  exact ⟨lt_block h, cell_of_row _ _ _ _ _ _ h, cell_of_row _ _ _ _ _ _ h, cell_of_row _ _ _ _ _ _ h, cell_of_row _ _ _ _ _ _ h, cell_of_row _ _ _ _ _ _ h⟩

theorem any_is {l : List Nat} {n : Nat} {b : Bool} (h : n ∈ l ↔ b = true) : (l.map Int.ofNat).any (· == (n : Int)) = b := by
  cases b
  · exact any_false (fun hn => by have := h.1 hn; cases this)
  · rw [List.any_eq_true]
    exact ⟨(n : Int), List.mem_map.2 ⟨n, h.2 rfl, rfl⟩, by simp⟩
theorem pickN_self (j m : Nat) (h : j < m) : Doc.pickN (j : Int) m = j := by
  unfold Doc.pickN
  rw [if_neg (by omega)]
  show (((j % m : Nat) : Int)).toNat = j
  rw [Int.toNat_natCast]
  exact Nat.mod_eq_of_lt h

theorem wpList_sym {P : Program} {ops : Array Oper} {Q : Exit → Act → World → Prop} {rest : List Oper} {o : Oper} {a : Act} {w : World} (g : Bool) (hw : Region.wanted o (yielded ops a.tmps) = g) (v : Value) (hr : g = true → (execOp a.eval o).run P w = .ok (.value v) w) (h : wpList P ops Q rest (a.put o.dst (bif g then v else undef)) w) : wpList P ops Q (o :: rest) a w := by
  cases g
  · exact wpList_skip hw h
  · refine BigFrame.wpList_want hw fun _ hK => ?_
    unfold Oper.wp
    rw [hr rfl]
    exact hK _ _ h

theorem told_key {x y : Doc.Val} (hx : x ∈ Doc.xsK) (hy : y ∈ Doc.ysK) {bx bz : Bool} {xn : Int} {zs : ByteArray} (e1 : (x.k == 1) = bx) (e2 : (y.k == 2) = bz) (e3 : x.n = xn) (e4 : y.s = zs) {n1 n0 l2 lm g0 g3 n3 nm ea eb nb lab gb dz ha e0 : Bool} {hz : Int}
    (hn1 : (xn == 1) = n1) (hn0 : (xn != 0) = n0) (hl2 : decide (xn < 2) = l2) (hlm : decide (xn ≤ -1) = lm) (hg0 : decide (0 < xn) = g0) (hg3 : decide (3 ≤ xn) = g3) (hn3 : (xn == 3) = n3) (hnm : (xn == -2) = nm)
    (hea : (zs.toList == [97]) = ea) (heb : (zs.toList == [98]) = eb) (hnb : (!eb) = nb) (hlab : Op.bytesLess zs.toList [97, 98] = lab) (hgb : (!Op.bytesLess zs.toList [98]) = gb) (hdz : decide (0 < zs.size) = dz) (hhz : ∀ h : 0 < zs.size, ((zs[0]'h).toNat : Int) = hz) (hha : (hz == 97) = ha) (he0 : zs.toList.isEmpty = e0) :
    (#[.bool (bx && n1), .bool (bx && n0), .bool (bx && l2), .bool (bx && lm), .bool (bx && g0), .bool (bx && g3), .bool (bx && ((n1 || n3) || nm)), .bool !bx, .bool (bz && ea), .bool (bz && nb), .bool (bz && lab), .bool (bz && gb), .bool ((bz && dz) && ha), .bool bz, .bool (bz && (e0 || eb)), .bool !bz] : Array Value) = ((Doc.told x y).map Value.bool).toArray := by
  subst e1 e2 e3 e4 hn1 hn0 hl2 hlm hg0 hg3 hn3 hnm hea hnb heb hlab hgb hdz hha he0
  rcases Doc.ys_one hy with rfl | rfl | rfl | rfl | rfl | rfl | rfl
  · rcases Doc.xs_one hx with rfl | rfl | rfl | rfl | rfl | rfl | rfl | rfl <;> (show _ = _; kernel_rfl)
  · rcases Doc.xs_one hx with rfl | rfl | rfl | rfl | rfl | rfl | rfl | rfl <;> (show _ = _; kernel_rfl)
  · obtain rfl := hhz (by decide)
    rcases Doc.xs_one hx with rfl | rfl | rfl | rfl | rfl | rfl | rfl | rfl <;> (show _ = _; kernel_rfl)
  · obtain rfl := hhz (by decide)
    rcases Doc.xs_one hx with rfl | rfl | rfl | rfl | rfl | rfl | rfl | rfl <;> (show _ = _; kernel_rfl)
  · obtain rfl := hhz (by decide)
    rcases Doc.xs_one hx with rfl | rfl | rfl | rfl | rfl | rfl | rfl | rfl <;> (show _ = _; kernel_rfl)
  · obtain rfl := hhz (by decide)
    rcases Doc.xs_one hx with rfl | rfl | rfl | rfl | rfl | rfl | rfl | rfl <;> (show _ = _; kernel_rfl)
  · obtain rfl := hhz (by decide)
    rcases Doc.xs_one hx with rfl | rfl | rfl | rfl | rfl | rfl | rfl | rfl <;> (show _ = _; kernel_rfl)

section
variable {w : World} {F : Nat → Prop} {sb : Nat} {th : Has}
set_option maxHeartbeats 16000000 in
theorem shown_here (h : ProgSt w F sb Doc.fsK 2 th) (hL : LaidF w) (t : Doc.Raw) (h64 : Raw64 t) (hn : th (Doc.idK t : Int) = some (Doc.thingK t)) :
    Calls Tryz.prog 23 #[.pointer (some ⟨sb, 0, none⟩), .agg #[.int .i64 t.i, .int .i64 t.x, .int .i64 t.y, .int .i64 t.n, .int .i64 t.s], .bool false] w fun e w' => e = .returned (.bool true) ∧ Below w.heap.size w w' := by
  have HLW : Hid (∀ W : World, Below w.heap.size w W → LaidF W ∧ ProgSt W F sb Doc.fsK 2 th) := fun W hW => ⟨hL.below hW hL.g1 hL.g2, h.kept (fun k hk hl => hW.block k hl) (fun k hk _ => hk)⟩
  have HID : Hid (∀ W : World, Calls Tryz.prog 21 #[.agg #[.int .i64 t.i, .int .i64 t.x, .int .i64 t.y, .int .i64 t.n, .int .i64 t.s]] W fun e w' => e = .returned (.int .i64 (Doc.idK t : Nat)) ∧ Below W.heap.size W w') := fun W => kid_any t.i t.x t.y t.n t.s h64.1.1 h64.1.2
  obtain ⟨n, HN⟩ : ∃ n : Nat, Hid (Doc.idK t = n) := ⟨_, rfl⟩
  have hnl : n < 4096 := by rw [← HN.out]; exact Doc.idK_lt t
  rw [HN.out] at HID hn
  obtain ⟨x, HX⟩ : ∃ x, Hid (Doc.numV t.n = x) := ⟨_, rfl⟩
  obtain ⟨y, HY⟩ : ∃ y, Hid (Doc.strV t.s = y) := ⟨_, rfl⟩
  have HXM : Hid (x ∈ Doc.xsK) := by rw [← HX.out]; exact numV_mem _
  have HYM : Hid (y ∈ Doc.ysK) := by rw [← HY.out]; exact strV_mem _
  obtain ⟨sp, HSP⟩ : ∃ sp, Hid (Doc.spotK t.x t.y = sp) := ⟨_, rfl⟩
  have hspl : sp.length = 2 := by rw [← HSP.out]; rfl
  have hth : Doc.thingK t = (sp, [x, y]) := by unfold Doc.thingK; rw [HX.out, HY.out, HSP.out]
  rw [hth] at hn
  have HG : Hid (∀ W : World, Below w.heap.size w W → Calls Tryz.prog 32 #[.pointer (some ⟨sb, 0, none⟩), .int .i64 (n : Int)] W fun e w' => ∃ v1 m1 b2 o2 m2, e = .returned (.tuple #[.slice v1 2 m1, .slice (some ⟨b2, o2, none⟩) 2 m2, .int .i64 0]) ∧ Sl w' (.slice v1 2 m1) sp.length (intC sp) ∧ TwoV w' b2 o2 x y ∧ Below W.heap.size W w') := fun W hW => by
    obtain ⟨a, b, c, d, e, hp⟩ := (HLW.out W hW).2
    refine (pget_some hp n _ hn).mono ?_
    rintro e w' ⟨v1, v2, rfl, r1, r2, hb⟩
    have s1 := rowSl r1
    obtain ⟨c1, m1, hv1⟩ := s1.slice
    obtain ⟨b2, o2, m2, hv2, ht2⟩ := two_of (rowSl r2)
    simp only at s1 hv1
    rw [hspl] at hv1
    subst hv1
    exact ⟨c1, m1, b2, o2, m2, by rw [hv2], s1, ht2, hb⟩
  have HV : Hid (∀ W : World, Calls Tryz.prog 30 #[.agg #[.int .i64 t.i, .int .i64 t.x, .int .i64 t.y, .int .i64 t.n, .int .i64 t.s]] W fun e w' => ∃ b o m, e = .returned (.slice (some ⟨b, o, none⟩) 2 m) ∧ TwoV w' b o x y ∧ Below W.heap.size W w') := fun W => by
    refine (kvalues_any t.i t.x t.y t.n t.s h64.2.2.2.1 h64.2.2.2.2).mono ?_
    rintro e w' ⟨v, rfl, hs, hb⟩
    rw [HX.out, HY.out] at hs
    obtain ⟨b, o, m, rfl, h2⟩ := two_of hs
    exact ⟨b, o, m, rfl, h2, hb⟩
  have HSPT : Hid (∀ W : World, Calls Tryz.prog 29 #[.agg #[.int .i64 t.i, .int .i64 t.x, .int .i64 t.y, .int .i64 t.n, .int .i64 t.s]] W fun e w' => ∃ v m, e = .returned (.slice v 2 m) ∧ Sl w' (.slice v 2 m) sp.length (intC sp) ∧ Below W.heap.size W w') := fun W => by
    refine (kspot_any t.i t.x t.y t.n t.s h64.2.1 h64.2.2.1).mono ?_
    rintro e w' ⟨v, rfl, hs, hb⟩
    rw [HSP.out] at hs
    obtain ⟨c, d, rfl⟩ := hs.slice
    exact ⟨c, d, rfl, by rw [hspl]; exact hs, hb⟩
  have HB0 : Hid (∀ ob : Obj, Below w.heap.size w (w.alloc ob)) := fun ob => (Below.refl _ _).alloc (Nat.le_refl _) ob
  clear h hL h64
  go_enter Tryz.func23, Tryz.ntmps23
  go_wp2_with fail
  refine Calls.mono (HID.out _) ?_
  rintro e w1 ⟨rfl, hb1⟩
  have HBX : Hid _ := hb1
  have HB1 : Hid (Below w.heap.size w w1) := (HB0.out _).trans (hb1.mono (HB0.out _).size)
  clear hb1
  go_wp2_with fail
  refine Calls.mono (HG.out _ HB1.out) ?_
  rintro e w2 ⟨v1, m1, b2, o2, m2, rfl, hs2, ht2, hb2⟩
  have HT1 : Hid (RawAt w1 w.heap.size t) := (RawAt.new w t _).below HBX.out (by simp)
  have hw1 := HT1.out.lt
  have ht1 := HT1.out.below hb2 hw1
  have q0 := ht1.c0
  have q1 := ht1.c1
  have q2 := ht1.c2
  have q3 := ht1.c3
  have q4 := ht1.c4
  have HT2 : Hid _ := ht1
  have HS2 : Hid _ := hs2
  have HTW2 : Hid _ := ht2
  have HB2 : Hid (Below w.heap.size w w2) := HB1.out.trans (hb2.mono HB1.out.size)
  clear hb2 hs2 ht2 ht1 HBX hth
  go_wp2_with fail
  refine Calls.mono (HV.out _) ?_
  rintro e w3 ⟨b3, o3, m3, rfl, ht3, hb3⟩
  have ht4 := HT2.out.below hb3 HT2.out.lt
  clear q0 q1 q2 q3 q4
  have q0 := ht4.c0
  have q1 := ht4.c1
  have q2 := ht4.c2
  have q3 := ht4.c3
  have q4 := ht4.c4
  have HTW3 : Hid (TwoV w3 b2 o2 x y) := HTW2.out.below hb3 HTW2.out.lt
  have HTV3 : Hid _ := ht3
  have HS3 : Hid _ := HS2.out.below hb3
  have HB3 : Hid (Below w.heap.size w w3) := HB2.out.trans (hb3.mono HB2.out.size)
  clear hb3 ht3 ht4
  go_wp2_with fail
  refine Calls.mono (HSPT.out _) ?_
  rintro e w4 ⟨v4, m4, rfl, hs4, hb4⟩
  have HSM : Hid _ := ksame_any sp (by omega) _ _ (HS3.out.below hb4) hs4
  have HTW4 : Hid (TwoV w4 b2 o2 x y) := HTW3.out.below hb4 HTW3.out.lt
  have HTV4 : Hid (TwoV w4 b3 o3 x y) := HTV3.out.below hb4 HTV3.out.lt
  have HB4 : Hid (Below w.heap.size w w4) := HB3.out.trans (hb4.mono HB3.out.size)
  clear hb4 hs4 q0 q1 q2 q3 q4
  go_wp2_with fail
  refine Calls.mono HSM.out ?_
  rintro e w5 ⟨rfl, hb5⟩
  have HB5 : Hid (Below w.heap.size w w5) := HB4.out.trans (hb5.mono HB4.out.size)
  obtain ⟨l2, a0, a1, a2, d0, d1, d2⟩ := HTW4.out.below hb5 HTW4.out.lt
  obtain ⟨l3, e0, e1, e2, f0, f1, f2⟩ := HTV4.out.below hb5 HTV4.out.lt
  have HQ : Hid (∀ m, TwoV (w5.drewN m) b2 o2 x y ∧ Below w.heap.size w (w5.drewN m)) := fun m => ⟨⟨l2, a0, a1, a2, d0, d1, d2⟩, ⟨HB5.out.os, HB5.out.tape, HB5.out.output, HB5.out.size, HB5.out.block⟩⟩
  clear hb5
  go_wp2_with fail
  go_quiet (fail)
  rename_i nq
  have HQ6 := HQ.out nq
  clear a0 a1 a2 d0 d1 d2 e0 e1 e2 f0 f1 f2 l2 l3 HQ HTW4 HTV4
  generalize w5.drewN nq = w6 at *
  obtain ⟨⟨l2, a0, a1, a2, d0, d1, d2⟩, hb6⟩ := HQ6
  have HB6 : Hid _ := hb6
  clear hb6
  go_upto_region 15 with fail
  obtain ⟨bx, HBX⟩ : ∃ b, Hid ((x.k == 1) = b) := ⟨_, rfl⟩
  obtain ⟨bz, HBZ⟩ : ∃ b, Hid ((y.k == 2) = b) := ⟨_, rfl⟩
  obtain ⟨xn, HXN⟩ : ∃ b, Hid (x.n = b) := ⟨_, rfl⟩
  obtain ⟨zs, HZS⟩ : ∃ b, Hid (y.s = b) := ⟨_, rfl⟩
  rw [HBX.out, HBZ.out, HXN.out, HZS.out]
  go_cut [20] (fun v wx => ∃ g, v = .slice (some ⟨g, 0, none⟩) 16 16 ∧ Below w.heap.size w wx ∧ wx.heap[g]? = some (.cells ((Doc.told x y).map Value.bool).toArray 4 (0, 0)))
  case first =>
    clear HLW HID HG HV HSPT HSM HTW2 HTW3 HTV3 HS2 HS3 HB0 HB1 HB2 HB3 HB4 HB5 HT1 HT2 a0 a1 a2 d0 d1 d2
    obtain ⟨n1, hn1⟩ : ∃ b, (xn == 1) = b := ⟨_, rfl⟩
    obtain ⟨n0, hn0⟩ : ∃ b, (xn != 0) = b := ⟨_, rfl⟩
    obtain ⟨l2, hl2⟩ : ∃ b, decide (xn < 2) = b := ⟨_, rfl⟩
    obtain ⟨lm, hlm⟩ : ∃ b, decide (xn ≤ -1) = b := ⟨_, rfl⟩
    obtain ⟨g0, hg0⟩ : ∃ b, decide (0 < xn) = b := ⟨_, rfl⟩
    obtain ⟨g3, hg3⟩ : ∃ b, decide (3 ≤ xn) = b := ⟨_, rfl⟩
    obtain ⟨n3, hn3⟩ : ∃ b, (xn == 3) = b := ⟨_, rfl⟩
    obtain ⟨nm, hnm⟩ : ∃ b, (xn == -2) = b := ⟨_, rfl⟩
    obtain ⟨ea, hea⟩ : ∃ b, (zs.toList == [97]) = b := ⟨_, rfl⟩
    obtain ⟨eb, heb⟩ : ∃ b, (zs.toList == [98]) = b := ⟨_, rfl⟩
    obtain ⟨nb, hnb⟩ : ∃ b, (!eb) = b := ⟨_, rfl⟩
    obtain ⟨lab, hlab⟩ : ∃ b, Op.bytesLess zs.toList [97, 98] = b := ⟨_, rfl⟩
    obtain ⟨gb, hgb⟩ : ∃ b, (!Op.bytesLess zs.toList [98]) = b := ⟨_, rfl⟩
    obtain ⟨dz, hdz⟩ : ∃ b, decide (0 < zs.size) = b := ⟨_, rfl⟩
    obtain ⟨hz, hhz⟩ : ∃ z : Int, ∀ h : 0 < zs.size, ((zs[0]'h).toNat : Int) = z := by
      by_cases h : 0 < zs.size
      · exact ⟨((zs[0]'h).toNat : Int), fun _ => rfl⟩
      · exact ⟨0, fun h' => absurd h' h⟩
    obtain ⟨ha, hha⟩ : ∃ b, (hz == 97) = b := ⟨_, rfl⟩
    obtain ⟨e0, he0⟩ : ∃ b, zs.toList.isEmpty = b := ⟨_, rfl⟩
    go_step
    refine wpList_val rfl (.bool bx) (by go_simp) ?_
    simp only [Act.put, List.setIfInBounds_toArray, List.set_cons_zero, List.set_cons_succ]
    refine wpList_val rfl (.bool bx) (by go_simp) ?_
    simp only [Act.put, List.setIfInBounds_toArray, List.set_cons_zero, List.set_cons_succ]
    refine wpList_sym bx (by cases bx <;> rfl) (.int .i64 xn) (fun hg => by cases bx with | false => cases hg | true => go_simp) ?_
    simp only [Act.put, List.setIfInBounds_toArray, List.set_cons_zero, List.set_cons_succ]
    refine wpList_sym bx (by cases bx <;> rfl) (.bool n1) (fun hg => by cases bx with | false => cases hg | true => go_simp) ?_
    simp only [Act.put, List.setIfInBounds_toArray, List.set_cons_zero, List.set_cons_succ]
    refine wpList_val rfl (.bool (bx && n1)) (by cases bx <;> go_simp) ?_
    simp only [Act.put, List.setIfInBounds_toArray, List.set_cons_zero, List.set_cons_succ]
    refine wpList_val rfl (.bool bx) (by go_simp) ?_
    simp only [Act.put, List.setIfInBounds_toArray, List.set_cons_zero, List.set_cons_succ]
    refine wpList_val rfl (.bool bx) (by go_simp) ?_
    simp only [Act.put, List.setIfInBounds_toArray, List.set_cons_zero, List.set_cons_succ]
    refine wpList_sym bx (by cases bx <;> rfl) (.int .i64 xn) (fun hg => by cases bx with | false => cases hg | true => go_simp) ?_
    simp only [Act.put, List.setIfInBounds_toArray, List.set_cons_zero, List.set_cons_succ]
    refine wpList_sym bx (by cases bx <;> rfl) (.bool n0) (fun hg => by cases bx with | false => cases hg | true => go_simp) ?_
    simp only [Act.put, List.setIfInBounds_toArray, List.set_cons_zero, List.set_cons_succ]
    refine wpList_val rfl (.bool (bx && n0)) (by cases bx <;> go_simp) ?_
    simp only [Act.put, List.setIfInBounds_toArray, List.set_cons_zero, List.set_cons_succ]
    refine wpList_val rfl (.bool bx) (by go_simp) ?_
    simp only [Act.put, List.setIfInBounds_toArray, List.set_cons_zero, List.set_cons_succ]
    refine wpList_val rfl (.bool bx) (by go_simp) ?_
    simp only [Act.put, List.setIfInBounds_toArray, List.set_cons_zero, List.set_cons_succ]
    refine wpList_sym bx (by cases bx <;> rfl) (.int .i64 xn) (fun hg => by cases bx with | false => cases hg | true => go_simp) ?_
    simp only [Act.put, List.setIfInBounds_toArray, List.set_cons_zero, List.set_cons_succ]
    refine wpList_sym bx (by cases bx <;> rfl) (.bool l2) (fun hg => by cases bx with | false => cases hg | true => go_simp) ?_
    simp only [Act.put, List.setIfInBounds_toArray, List.set_cons_zero, List.set_cons_succ]
    refine wpList_val rfl (.bool (bx && l2)) (by cases bx <;> go_simp) ?_
    simp only [Act.put, List.setIfInBounds_toArray, List.set_cons_zero, List.set_cons_succ]
    refine wpList_val rfl (.bool bx) (by go_simp) ?_
    simp only [Act.put, List.setIfInBounds_toArray, List.set_cons_zero, List.set_cons_succ]
    refine wpList_val rfl (.bool bx) (by go_simp) ?_
    simp only [Act.put, List.setIfInBounds_toArray, List.set_cons_zero, List.set_cons_succ]
    refine wpList_sym bx (by cases bx <;> rfl) (.int .i64 xn) (fun hg => by cases bx with | false => cases hg | true => go_simp) ?_
    simp only [Act.put, List.setIfInBounds_toArray, List.set_cons_zero, List.set_cons_succ]
    refine wpList_sym bx (by cases bx <;> rfl) (.bool lm) (fun hg => by cases bx with | false => cases hg | true => go_simp) ?_
    simp only [Act.put, List.setIfInBounds_toArray, List.set_cons_zero, List.set_cons_succ]
    refine wpList_val rfl (.bool (bx && lm)) (by cases bx <;> go_simp) ?_
    simp only [Act.put, List.setIfInBounds_toArray, List.set_cons_zero, List.set_cons_succ]
    refine wpList_val rfl (.bool bx) (by go_simp) ?_
    simp only [Act.put, List.setIfInBounds_toArray, List.set_cons_zero, List.set_cons_succ]
    refine wpList_val rfl (.bool bx) (by go_simp) ?_
    simp only [Act.put, List.setIfInBounds_toArray, List.set_cons_zero, List.set_cons_succ]
    refine wpList_sym bx (by cases bx <;> rfl) (.int .i64 xn) (fun hg => by cases bx with | false => cases hg | true => go_simp) ?_
    simp only [Act.put, List.setIfInBounds_toArray, List.set_cons_zero, List.set_cons_succ]
    refine wpList_sym bx (by cases bx <;> rfl) (.bool g0) (fun hg => by cases bx with | false => cases hg | true => go_simp) ?_
    simp only [Act.put, List.setIfInBounds_toArray, List.set_cons_zero, List.set_cons_succ]
    refine wpList_val rfl (.bool (bx && g0)) (by cases bx <;> go_simp) ?_
    simp only [Act.put, List.setIfInBounds_toArray, List.set_cons_zero, List.set_cons_succ]
    refine wpList_val rfl (.bool bx) (by go_simp) ?_
    simp only [Act.put, List.setIfInBounds_toArray, List.set_cons_zero, List.set_cons_succ]
    refine wpList_val rfl (.bool bx) (by go_simp) ?_
    simp only [Act.put, List.setIfInBounds_toArray, List.set_cons_zero, List.set_cons_succ]
    refine wpList_sym bx (by cases bx <;> rfl) (.int .i64 xn) (fun hg => by cases bx with | false => cases hg | true => go_simp) ?_
    simp only [Act.put, List.setIfInBounds_toArray, List.set_cons_zero, List.set_cons_succ]
    refine wpList_sym bx (by cases bx <;> rfl) (.bool g3) (fun hg => by cases bx with | false => cases hg | true => go_simp) ?_
    simp only [Act.put, List.setIfInBounds_toArray, List.set_cons_zero, List.set_cons_succ]
    refine wpList_val rfl (.bool (bx && g3)) (by cases bx <;> go_simp) ?_
    simp only [Act.put, List.setIfInBounds_toArray, List.set_cons_zero, List.set_cons_succ]
    refine wpList_val rfl (.bool bx) (by go_simp) ?_
    simp only [Act.put, List.setIfInBounds_toArray, List.set_cons_zero, List.set_cons_succ]
    refine wpList_val rfl (.bool bx) (by go_simp) ?_
    simp only [Act.put, List.setIfInBounds_toArray, List.set_cons_zero, List.set_cons_succ]
    refine wpList_sym bx (by cases bx <;> rfl) (.int .i64 xn) (fun hg => by cases bx with | false => cases hg | true => go_simp) ?_
    simp only [Act.put, List.setIfInBounds_toArray, List.set_cons_zero, List.set_cons_succ]
    refine wpList_sym bx (by cases bx <;> rfl) (.bool n1) (fun hg => by cases bx with | false => cases hg | true => go_simp) ?_
    simp only [Act.put, List.setIfInBounds_toArray, List.set_cons_zero, List.set_cons_succ]
    refine wpList_sym bx (by cases bx <;> rfl) (.bool n1) (fun hg => by cases bx with | false => cases hg | true => go_simp) ?_
    simp only [Act.put, List.setIfInBounds_toArray, List.set_cons_zero, List.set_cons_succ]
    refine wpList_sym (bx && !n1) (by cases bx <;> cases n1 <;> rfl) (.int .i64 xn) (fun hg => by cases bx <;> cases n1 <;> first | (cases hg; done) | (go_simp)) ?_
    simp only [Act.put, List.setIfInBounds_toArray, List.set_cons_zero, List.set_cons_succ]
    refine wpList_sym (bx && !n1) (by cases bx <;> cases n1 <;> rfl) (.bool n3) (fun hg => by cases bx <;> cases n1 <;> first | (cases hg; done) | (go_simp)) ?_
    simp only [Act.put, List.setIfInBounds_toArray, List.set_cons_zero, List.set_cons_succ]
    refine wpList_sym bx (by cases bx <;> rfl) (.bool (n1 || n3)) (fun hg => by cases bx with | false => cases hg | true => (cases n1 <;> cases n3 <;> go_simp)) ?_
    simp only [Act.put, List.setIfInBounds_toArray, List.set_cons_zero, List.set_cons_succ]
    refine wpList_sym bx (by cases bx <;> rfl) (.bool (n1 || n3)) (fun hg => by cases bx with | false => cases hg | true => go_simp) ?_
    simp only [Act.put, List.setIfInBounds_toArray, List.set_cons_zero, List.set_cons_succ]
    refine wpList_sym (bx && !(n1 || n3)) (by cases bx <;> cases n1 <;> cases n3 <;> rfl) (.int .i64 xn) (fun hg => by cases bx <;> cases n1 <;> cases n3 <;> first | (cases hg; done) | (go_simp)) ?_
    simp only [Act.put, List.setIfInBounds_toArray, List.set_cons_zero, List.set_cons_succ]
    refine wpList_sym (bx && !(n1 || n3)) (by cases bx <;> cases n1 <;> cases n3 <;> rfl) (.bool nm) (fun hg => by cases bx <;> cases n1 <;> cases n3 <;> first | (cases hg; done) | (go_simp)) ?_
    simp only [Act.put, List.setIfInBounds_toArray, List.set_cons_zero, List.set_cons_succ]
    refine wpList_sym bx (by cases bx <;> rfl) (.bool ((n1 || n3) || nm)) (fun hg => by cases bx with | false => cases hg | true => (cases n1 <;> cases n3 <;> go_simp)) ?_
    simp only [Act.put, List.setIfInBounds_toArray, List.set_cons_zero, List.set_cons_succ]
    refine wpList_val rfl (.bool (bx && ((n1 || n3) || nm))) (by cases bx <;> cases n1 <;> cases n3 <;> go_simp) ?_
    simp only [Act.put, List.setIfInBounds_toArray, List.set_cons_zero, List.set_cons_succ]
    refine wpList_val rfl (.bool bx) (by go_simp) ?_
    simp only [Act.put, List.setIfInBounds_toArray, List.set_cons_zero, List.set_cons_succ]
    refine wpList_val rfl (.bool !bx) (by go_simp) ?_
    simp only [Act.put, List.setIfInBounds_toArray, List.set_cons_zero, List.set_cons_succ]
    refine wpList_val rfl (.bool bz) (by go_simp) ?_
    simp only [Act.put, List.setIfInBounds_toArray, List.set_cons_zero, List.set_cons_succ]
    refine wpList_val rfl (.bool bz) (by go_simp) ?_
    simp only [Act.put, List.setIfInBounds_toArray, List.set_cons_zero, List.set_cons_succ]
    refine wpList_sym bz (by cases bz <;> rfl) (.string zs) (fun hg => by cases bz with | false => cases hg | true => go_simp) ?_
    simp only [Act.put, List.setIfInBounds_toArray, List.set_cons_zero, List.set_cons_succ]
    refine wpList_sym bz (by cases bz <;> rfl) (.bool ea) (fun hg => by cases bz with | false => cases hg | true => go_simp) ?_
    simp only [Act.put, List.setIfInBounds_toArray, List.set_cons_zero, List.set_cons_succ]
    refine wpList_val rfl (.bool (bz && ea)) (by cases bz <;> go_simp) ?_
    simp only [Act.put, List.setIfInBounds_toArray, List.set_cons_zero, List.set_cons_succ]
    refine wpList_val rfl (.bool bz) (by go_simp) ?_
    simp only [Act.put, List.setIfInBounds_toArray, List.set_cons_zero, List.set_cons_succ]
    refine wpList_val rfl (.bool bz) (by go_simp) ?_
    simp only [Act.put, List.setIfInBounds_toArray, List.set_cons_zero, List.set_cons_succ]
    refine wpList_sym bz (by cases bz <;> rfl) (.string zs) (fun hg => by cases bz with | false => cases hg | true => go_simp) ?_
    simp only [Act.put, List.setIfInBounds_toArray, List.set_cons_zero, List.set_cons_succ]
    refine wpList_sym bz (by cases bz <;> rfl) (.bool nb) (fun hg => by cases bz with | false => cases hg | true => go_simp) ?_
    simp only [Act.put, List.setIfInBounds_toArray, List.set_cons_zero, List.set_cons_succ]
    refine wpList_val rfl (.bool (bz && nb)) (by cases bz <;> go_simp) ?_
    simp only [Act.put, List.setIfInBounds_toArray, List.set_cons_zero, List.set_cons_succ]
    refine wpList_val rfl (.bool bz) (by go_simp) ?_
    simp only [Act.put, List.setIfInBounds_toArray, List.set_cons_zero, List.set_cons_succ]
    refine wpList_val rfl (.bool bz) (by go_simp) ?_
    simp only [Act.put, List.setIfInBounds_toArray, List.set_cons_zero, List.set_cons_succ]
    refine wpList_sym bz (by cases bz <;> rfl) (.string zs) (fun hg => by cases bz with | false => cases hg | true => go_simp) ?_
    simp only [Act.put, List.setIfInBounds_toArray, List.set_cons_zero, List.set_cons_succ]
    refine wpList_sym bz (by cases bz <;> rfl) (.bool lab) (fun hg => by cases bz with | false => cases hg | true => go_simp) ?_
    simp only [Act.put, List.setIfInBounds_toArray, List.set_cons_zero, List.set_cons_succ]
    refine wpList_val rfl (.bool (bz && lab)) (by cases bz <;> go_simp) ?_
    simp only [Act.put, List.setIfInBounds_toArray, List.set_cons_zero, List.set_cons_succ]
    refine wpList_val rfl (.bool bz) (by go_simp) ?_
    simp only [Act.put, List.setIfInBounds_toArray, List.set_cons_zero, List.set_cons_succ]
    refine wpList_val rfl (.bool bz) (by go_simp) ?_
    simp only [Act.put, List.setIfInBounds_toArray, List.set_cons_zero, List.set_cons_succ]
    refine wpList_sym bz (by cases bz <;> rfl) (.string zs) (fun hg => by cases bz with | false => cases hg | true => go_simp) ?_
    simp only [Act.put, List.setIfInBounds_toArray, List.set_cons_zero, List.set_cons_succ]
    refine wpList_sym bz (by cases bz <;> rfl) (.bool gb) (fun hg => by cases bz with | false => cases hg | true => go_simp) ?_
    simp only [Act.put, List.setIfInBounds_toArray, List.set_cons_zero, List.set_cons_succ]
    refine wpList_val rfl (.bool (bz && gb)) (by cases bz <;> go_simp) ?_
    simp only [Act.put, List.setIfInBounds_toArray, List.set_cons_zero, List.set_cons_succ]
    refine wpList_val rfl (.bool bz) (by go_simp) ?_
    simp only [Act.put, List.setIfInBounds_toArray, List.set_cons_zero, List.set_cons_succ]
    refine wpList_val rfl (.bool bz) (by go_simp) ?_
    simp only [Act.put, List.setIfInBounds_toArray, List.set_cons_zero, List.set_cons_succ]
    refine wpList_sym bz (by cases bz <;> rfl) (.string zs) (fun hg => by cases bz with | false => cases hg | true => go_simp) ?_
    simp only [Act.put, List.setIfInBounds_toArray, List.set_cons_zero, List.set_cons_succ]
    refine wpList_sym bz (by cases bz <;> rfl) (.int .i64 (zs.size : Int)) (fun hg => by cases bz with | false => cases hg | true => go_simp) ?_
    simp only [Act.put, List.setIfInBounds_toArray, List.set_cons_zero, List.set_cons_succ]
    refine wpList_sym bz (by cases bz <;> rfl) (.bool dz) (fun hg => by cases bz with | false => cases hg | true => go_simp) ?_
    simp only [Act.put, List.setIfInBounds_toArray, List.set_cons_zero, List.set_cons_succ]
    refine wpList_val rfl (.bool (bz && dz)) (by cases bz <;> go_simp) ?_
    simp only [Act.put, List.setIfInBounds_toArray, List.set_cons_zero, List.set_cons_succ]
    refine wpList_val rfl (.bool (bz && dz)) (by go_simp) ?_
    simp only [Act.put, List.setIfInBounds_toArray, List.set_cons_zero, List.set_cons_succ]
    refine wpList_sym (bz && dz) (by cases bz <;> cases dz <;> rfl) (.string zs) (fun hg => by cases bz <;> cases dz <;> first | (cases hg; done) | (go_simp)) ?_
    simp only [Act.put, List.setIfInBounds_toArray, List.set_cons_zero, List.set_cons_succ]
    refine wpList_sym (bz && dz) (by cases bz <;> cases dz <;> rfl) (.int .u8 hz) (fun hg => by cases bz <;> cases dz <;> first | (cases hg; done) | ((have z0 : 0 < zs.size := by simpa using hdz); have hz1 := hhz z0; go_simp)) ?_
    simp only [Act.put, List.setIfInBounds_toArray, List.set_cons_zero, List.set_cons_succ]
    refine wpList_sym (bz && dz) (by cases bz <;> cases dz <;> rfl) (.bool ha) (fun hg => by cases bz <;> cases dz <;> first | (cases hg; done) | (go_simp)) ?_
    simp only [Act.put, List.setIfInBounds_toArray, List.set_cons_zero, List.set_cons_succ]
    refine wpList_val rfl (.bool ((bz && dz) && ha)) (by cases bz <;> cases dz <;> go_simp) ?_
    simp only [Act.put, List.setIfInBounds_toArray, List.set_cons_zero, List.set_cons_succ]
    refine wpList_val rfl (.bool bz) (by go_simp) ?_
    simp only [Act.put, List.setIfInBounds_toArray, List.set_cons_zero, List.set_cons_succ]
    refine wpList_val rfl (.bool bz) (by go_simp) ?_
    simp only [Act.put, List.setIfInBounds_toArray, List.set_cons_zero, List.set_cons_succ]
    refine wpList_val rfl (.bool bz) (by go_simp) ?_
    simp only [Act.put, List.setIfInBounds_toArray, List.set_cons_zero, List.set_cons_succ]
    refine wpList_sym bz (by cases bz <;> rfl) (.string zs) (fun hg => by cases bz with | false => cases hg | true => go_simp) ?_
    simp only [Act.put, List.setIfInBounds_toArray, List.set_cons_zero, List.set_cons_succ]
    refine wpList_sym bz (by cases bz <;> rfl) (.bool e0) (fun hg => by cases bz with | false => cases hg | true => go_simp) ?_
    simp only [Act.put, List.setIfInBounds_toArray, List.set_cons_zero, List.set_cons_succ]
    refine wpList_sym bz (by cases bz <;> rfl) (.bool e0) (fun hg => by cases bz with | false => cases hg | true => go_simp) ?_
    simp only [Act.put, List.setIfInBounds_toArray, List.set_cons_zero, List.set_cons_succ]
    refine wpList_sym (bz && !e0) (by cases bz <;> cases e0 <;> rfl) (.string zs) (fun hg => by cases bz <;> cases e0 <;> first | (cases hg; done) | (go_simp)) ?_
    simp only [Act.put, List.setIfInBounds_toArray, List.set_cons_zero, List.set_cons_succ]
    refine wpList_sym (bz && !e0) (by cases bz <;> cases e0 <;> rfl) (.bool eb) (fun hg => by cases bz <;> cases e0 <;> first | (cases hg; done) | (go_simp)) ?_
    simp only [Act.put, List.setIfInBounds_toArray, List.set_cons_zero, List.set_cons_succ]
    refine wpList_sym bz (by cases bz <;> rfl) (.bool (e0 || eb)) (fun hg => by cases bz with | false => cases hg | true => (cases e0 <;> go_simp)) ?_
    simp only [Act.put, List.setIfInBounds_toArray, List.set_cons_zero, List.set_cons_succ]
    refine wpList_val rfl (.bool (bz && (e0 || eb))) (by cases bz <;> cases e0 <;> go_simp) ?_
    simp only [Act.put, List.setIfInBounds_toArray, List.set_cons_zero, List.set_cons_succ]
    refine wpList_val rfl (.bool bz) (by go_simp) ?_
    simp only [Act.put, List.setIfInBounds_toArray, List.set_cons_zero, List.set_cons_succ]
    refine wpList_val rfl (.bool !bz) (by go_simp) ?_
    simp only [Act.put, List.setIfInBounds_toArray, List.set_cons_zero, List.set_cons_succ]
    go_wp2_with fail
    have HKEY : Hid ((#[.bool (bx && n1), .bool (bx && n0), .bool (bx && l2), .bool (bx && lm), .bool (bx && g0), .bool (bx && g3), .bool (bx && ((n1 || n3) || nm)), .bool !bx, .bool (bz && ea), .bool (bz && nb), .bool (bz && lab), .bool (bz && gb), .bool ((bz && dz) && ha), .bool bz, .bool (bz && (e0 || eb)), .bool !bz] : Array Value) = ((Doc.told x y).map Value.bool).toArray) := by
      show _ = _
      have e1 := HBX.out
      have e2 := HBZ.out
      have e3 := HXN.out
      have e4 := HZS.out
      exact told_key HXM.out HYM.out e1 e2 e3 e4 hn1 hn0 hl2 hlm hg0 hg3 hn3 hnm hea heb hnb hlab hgb hdz hhz hha he0
    go_meet
    exact ⟨w6.heap.size, rfl, HB6.out.alloc HB6.out.size _, (heap_alloc_new w6 _).trans (congrArg (fun c => some (Obj.cells c 4 (0, 0))) HKEY.out)⟩
  case rest =>
    obtain ⟨g, rfl, hbc, hgc⟩ := hcut
    have HBC : Hid _ := hbc
    have HGC : Hid _ := hgc
    have hgl := lt_block hgc
    clear hbc hgc HG HV HSPT HSM HID a0 a1 a2 d0 d1 d2
    go_wp2_with fail
    go_loopw [21] (fun i wr => ∃ j : Nat, j ≤ 16 ∧ i = .int .i64 j ∧ Below wc.heap.size wc wr) (fun i _ => 16 - (intOf i).toNat)
    case atStart => exact ⟨0, by omega, rfl, Below.refl _ _⟩
    case round =>
      obtain ⟨j, hj, rfl, hB⟩ := hrel
      have HB : Hid (Below w.heap.size w wr) := HBC.out.trans (hB.mono HBC.out.size)
      by_cases hj2 : j < 16
      · obtain ⟨bq, HBQ⟩ : ∃ b, Hid ((Doc.eval Doc.fsK [x, y] (Doc.testB j)).1 = b) := ⟨_, rfl⟩
        have HCE : Hid (∀ W : World, Below wc.heap.size wc W → W.cell? ⟨g, j, none⟩ = some (.bool bq)) := fun W hW => by
          rw [hW.cell (p := ⟨g, j, none⟩) hgl, cell_of_row _ _ _ _ _ _ HGC.out]
          simp only [List.getElem?_toArray, List.getElem?_map, Doc.told_at x y j hj2, Option.map_some, HBQ.out]
        obtain ⟨T, HT⟩ : ∃ T, Hid (T = Doc.testS j) := ⟨_, rfl⟩
        have HTE : Hid (∀ W : World, Calls Tryz.prog 24 #[.int .i64 (j : Int)] W fun e w' => e = .returned (.string T) ∧ Below W.heap.size W w') := fun W => by
          have h1 := @ktest_any W (j : Int) ⟨by omega, by omega⟩
          rw [pickN_self j 16 hj2, ← HT.out] at h1
          exact h1
        have HCH : Hid (∀ W : World, Below w.heap.size w W → Calls Tryz.prog 18 #[.pointer (some ⟨sb, 0, none⟩), .string T] W fun e w' => ∃ v ys, e = .returned (.tuple #[v, .bool true]) ∧ (∀ i, i < 4096 → memB ys i = saysY Doc.fsK th (Doc.testB j) i) ∧ Sl w' v (nums ys).length (natC (nums ys)) ∧ Below W.heap.size W w') := fun W hW => by
          rw [HT.out]
          exact chosen_fil (HLW.out W hW).2 (HLW.out W hW).1 (Doc.fil_test j hj2 0).one.all (by omega) (by have := tS_size j hj2; omega)
        have HQB : Hid _ := hB
        clear hB
        go_wp2_with fail
        refine Calls.mono (HTE.out _) ?_
        rintro e w7 ⟨rfl, hb7⟩
        have HB7 : Hid (Below w.heap.size w w7) := HB.out.trans (hb7.mono HB.out.size)
        have HQ7 : Hid (Below wc.heap.size wc w7) := HQB.out.trans (hb7.mono HQB.out.size)
        clear hb7
        go_wp2_with fail
        refine Calls.mono (HCH.out _ HB7.out) ?_
        rintro e w8 ⟨v8, ys, rfl, hy, hs, hb8⟩
        obtain ⟨c, d, hv⟩ := hs.slice
        subst hv
        have HQ8 : Hid (Below wc.heap.size wc w8) := HQ7.out.trans (hb8.mono HQ7.out.size)
        have HI : Hid (Calls Tryz.prog 26 #[.slice c (nums ys).length d, .int .i64 (n : Int)] w8 fun e w' => e = .returned (.bool bq) ∧ Below w8.heap.size w8 w') := by
          have h1 := kin_any ((nums ys).map Int.ofNat) (by have := nums_short ys; simp; omega) (.slice c (nums ys).length d) (by rw [List.length_map]; exact hs) (n : Int)
          rw [any_is (b := bq) (by
            rw [mem_nums, hy n hnl, ← HBQ.out]
            unfold saysY
            rw [hn]
            exact ⟨fun h => h.2, fun h => ⟨hnl, h⟩⟩)] at h1
          exact h1
        clear hy hs hb8
        go_wp2_with fail
        refine Calls.mono HI.out ?_
        rintro e w9 ⟨rfl, hb9⟩
        have HQ9 : Hid (Below wc.heap.size wc w9) := HQ8.out.trans (hb9.mono HQ8.out.size)
        have hce := HCE.out _ HQ9.out
        clear hb9
        cases bq
        · go_wp2_with fail
          go_roundw
          case rel => exact ⟨j + 1, by omega, by go_num, HQ9.out⟩
          case measure => simp [intOf]; omega
        · go_wp2_with fail
          go_roundw
          case rel => exact ⟨j + 1, by omega, by go_num, HQ9.out⟩
          case measure => simp [intOf]; omega
      · obtain rfl : j = 16 := by omega
        go_wp2_with fail
        go_ret
        exact ⟨rfl, HB.out⟩
end
end Go.Proofs.YtbnelaoeblhndaaGreatDoor
/- The walk of the statement Known, whole. -/
namespace Go.Proofs.YtbnelaoeblhndaaGreatDoor
open Go.RowKit
set_option maxRecDepth 100000

/-- A thing of the statement's in a row. -/
structure RawOff (w : World) (b o : Nat) (t : Doc.Raw) : Prop where
  c0 : w.cell? ⟨b, o, none⟩ = some (.int .i64 t.i)
  c1 : w.cell? ⟨b, o + 1, none⟩ = some (.int .i64 t.x)
  c2 : w.cell? ⟨b, o + 2, none⟩ = some (.int .i64 t.y)
  c3 : w.cell? ⟨b, o + 3, none⟩ = some (.int .i64 t.n)
  c4 : w.cell? ⟨b, o + 4, none⟩ = some (.int .i64 t.s)
theorem rawOff_of {w W : World} {lb lo : Nat} {L : List Doc.Raw} (hr : ∀ k u, (rawsC L)[k]? = some u → w.cell? ⟨lb, lo + k, none⟩ = some u) (hlt : lb < w.heap.size) (hB : Below w.heap.size w W) (j : Nat) (hj : j < L.length) : RawOff W lb (lo + j * 5) L[j] := by
  have rr : ∀ i (_ : i < 5), W.cell? ⟨lb, lo + j * 5 + i, none⟩ = (rawC L[j])[i]? := fun i hi => by
    have hf := flat_at rawC 5 rawC_len L j hj i hi
    have hlc : ((rawC L[j])[i]?).isSome = true := by
      rw [List.getElem?_eq_getElem (by rw [rawC_len]; exact hi)]; rfl
    obtain ⟨u, hu⟩ := Option.isSome_iff_exists.1 hlc
    rw [hB.cell (p := ⟨lb, lo + j * 5 + i, none⟩) hlt, hu, Nat.add_assoc]
    exact hr (j * 5 + i) u (by unfold rawsC; rw [hf, hu])
  exact ⟨rr 0 (by omega), rr 1 (by omega), rr 2 (by omega), rr 3 (by omega), rr 4 (by omega)⟩
theorem RawOff.below {w w' : World} {b o B : Nat} {t : Doc.Raw} (h : RawOff w b o t) (hb : Below B w w') (hB : b < B) : RawOff w' b o t :=
  ⟨(hb.cell (p := ⟨b, o, none⟩) hB).trans h.c0, (hb.cell (p := ⟨b, o + 1, none⟩) hB).trans h.c1, (hb.cell (p := ⟨b, o + 2, none⟩) hB).trans h.c2, (hb.cell (p := ⟨b, o + 3, none⟩) hB).trans h.c3, (hb.cell (p := ⟨b, o + 4, none⟩) hB).trans h.c4⟩

theorem last_more {L : List Doc.Raw} {j k : Nat} (hj : j < L.length) (hk : k < L.length) (hjk : j < k) : lastB L j (k + 1) ↔ lastB L j k ∧ Doc.idK L[k] ≠ Doc.idK L[j] := by
  constructor
  · intro h
    exact ⟨fun i h1 h2 h3 h4 => h i h1 h2 h3 (by omega), h k hk hj hjk (by omega)⟩
  · rintro ⟨h, h0⟩ i h1 h2 h3 h4
    by_cases e : i = k
    · subst e; exact h0
    · exact h i h1 h2 h3 (by omega)

section
variable {w : World} {F : Nat → Prop} {sb : Nat} {th : Has}
theorem shown_any (h : ProgSt w F sb Doc.fsK 2 th) (hL : LaidF w) (ho : OfK th) (t : Doc.Raw) (h64 : Raw64 t) (b : Bool) (h1 : b = true → th (Doc.idK t : Int) = none) (h2 : b = false → th (Doc.idK t : Int) = some (Doc.thingK t)) :
    Calls Tryz.prog 23 #[.pointer (some ⟨sb, 0, none⟩), .agg #[.int .i64 t.i, .int .i64 t.x, .int .i64 t.y, .int .i64 t.n, .int .i64 t.s], .bool b] w fun e w' => e = .returned (.bool true) ∧ Below w.heap.size w w' := by
  cases b
  · exact shown_here h hL t h64 (h2 rfl)
  · exact shown_gone h hL ho t h64 (h1 rfl)

set_option maxHeartbeats 16000000 in
theorem known_any (hL : LaidF w) (L : List Doc.Raw) (hll : L.length ≤ 9223372036854775807) (h64 : ∀ t ∈ L, Raw64 t) (tv : Value) (ht : Sl w tv L.length (rawsC L)) (o : Int) (hoo : In64 o) :
    Calls Tryz.prog 7 #[tv, .int .i64 o] w fun e w' => e = .returned (.bool true) ∧ Below w.heap.size w w' := by
  have HFI : Hid _ := filled_any hL.sg hL.g1 L hll h64 tv ht
  rcases ht.has with ⟨h0, ta, tc, rfl⟩ | ⟨h0, lb, lo, tc, rfl, hc, hlt, hr⟩
  · clear hL h64 ht
    go_enter Tryz.func7, Tryz.ntmps7
    go_wp2_with fail
    refine Calls.mono HFI.out ?_
    rintro e w1 ⟨sb, rfl, hp1, hb1⟩
    clear hp1
    go_wp2_with fail
    go_ret
    exact ⟨rfl, hb1⟩
  have HC : Hid (∀ W : World, Below w.heap.size w W → ∀ j (hj : j < L.length), RawOff W lb (lo + j * 5) L[j]) := fun W hW j hj => rawOff_of hr hlt hW j hj
  have hl1 : ((L.length : Int) == 0) = false := by simp; intro e; rw [e] at h0; exact absurd h0 (by simp)
  obtain ⟨r, er, hrl, HPK⟩ := pick_all o hoo L.length h0 hll
  clear er
  obtain ⟨t, HTT⟩ : ∃ t, Hid (t = L[r]) := ⟨L[r], rfl⟩
  have HIDS : Hid (∀ (W : World) (t : Doc.Raw), t ∈ L → Calls Tryz.prog 21 #[.agg #[.int .i64 t.i, .int .i64 t.x, .int .i64 t.y, .int .i64 t.n, .int .i64 t.s]] W fun e w' => e = .returned (.int .i64 (Doc.idK t : Nat)) ∧ Below W.heap.size W w') := fun W t ht => kid_any t.i t.x t.y t.n t.s (h64 t ht).1.1 (h64 t ht).1.2
  have H64 : Hid _ := h64
  have HLL : Hid _ := hL
  have HLT : Hid _ := hlt
  have g1 := hL.g1
  have g2 := hL.g2
  obtain ⟨n, HN⟩ : ∃ n : Nat, Hid (Doc.idK t = n) := ⟨_, rfl⟩
  obtain ⟨tt, htt⟩ := storeK_some L r hrl
  rw [← HTT.out, HN.out] at htt
  have hnl : n < 4096 := by rw [← HN.out]; exact Doc.idK_lt t
  have HMT : Hid (t ∈ L) := by rw [HTT.out]; exact List.getElem_mem hrl
  clear ht h64 hL hr hlt
  go_enter Tryz.func7, Tryz.ntmps7
  go_wp2_with fail
  refine Calls.mono HFI.out ?_
  rintro e w1 ⟨sb, rfl, hp1, hb1⟩
  have HP1 : Hid _ := hp1
  have HB1 : Hid _ := hb1
  have hcs := HC.out w1 hb1 r hrl
  rw [← HTT.out] at hcs
  obtain ⟨q0, q1, q2, q3, q4⟩ := hcs
  clear hp1 hb1
  go_wp2_with fail
  refine Calls.mono (HPK.out _) ?_
  rintro e w1' ⟨rfl, hww⟩
  rw [hww]
  clear hww w1'
  go_wp2_with fail
  refine Calls.mono (HIDS.out _ t HMT.out) ?_
  rintro e w2 ⟨rfl, hb2⟩
  rw [HN.out]
  have HB2 : Hid (Below w.heap.size w w2) := HB1.out.trans (hb2.mono HB1.out.size)
  have HD : Hid (Calls Tryz.prog 22 #[.pointer (some ⟨sb, 0, none⟩), .int .i64 (n : Int)] w2 fun e w' => e = .returned (.int .i64 0) ∧ ProgSt w' (fun k => w.heap.size ≤ k ∧ k < w1.heap.size) sb Doc.fsK 2 (dropT (storeK L) (n : Int)) ∧ Md (fun k => w.heap.size ≤ k ∧ k < w1.heap.size) w2 w') := by
    obtain ⟨a1, a2, a3, a4, a5, hp⟩ := ProgSt.kept (w' := w2) (F' := fun k => w.heap.size ≤ k ∧ k < w1.heap.size) HP1.out (fun k hk _ => hb2.block k hk.2) (fun k hk _ => hk)
    refine (pdrop_some hp (n : Int) tt htt).mono ?_
    rintro e w' ⟨rfl, h1, h2⟩
    exact ⟨rfl, ⟨_, _, _, _, _, h1⟩, h2⟩
  have hz12 := hb2.size
  clear hb2 q0 q1 q2 q3 q4
  go_wp2_with fail
  refine Calls.mono HD.out ?_
  rintro e w3 ⟨rfl, hp3, hd3⟩
  have hz23 := hd3.below.size
  have HB3 : Hid (Below w.heap.size w w3) := HB2.out.trans (hd3.toBelow HB2.out.size (fun k hk => hk.1))
  have HP3 : Hid _ := hp3
  have HD2 : Hid (Calls Tryz.prog 22 #[.pointer (some ⟨sb, 0, none⟩), .int .i64 (n : Int)] w3 fun e w' => e = .returned (.int .i64 4) ∧ Below w3.heap.size w3 w') := by
    obtain ⟨a1, a2, a3, a4, a5, hp⟩ := hp3
    exact pdrop_none hp (n : Int) (by omega) (by omega) (dropK_at _ _)
  clear hp3 hd3
  go_wp2_with fail
  refine Calls.mono HD2.out ?_
  rintro e w4 ⟨rfl, hb4⟩
  have hz34 := hb4.size
  have HB4 : Hid (Below w.heap.size w w4) := HB3.out.trans (hb4.mono HB3.out.size)
  have HLW : Hid (∀ W : World, Below w4.heap.size w4 W → LaidF W ∧ ProgSt W (fun k => w.heap.size ≤ k ∧ k < w1.heap.size) sb Doc.fsK 2 (dropT (storeK L) (n : Int)) ∧ Below w.heap.size w W) := fun W hW => by
    have hB : Below w.heap.size w W := HB4.out.trans (hW.mono HB4.out.size)
    have hB3 : Below w3.heap.size w3 W := hb4.trans (hW.mono hb4.size)
    exact ⟨HLL.out.below hB g1 g2, ProgSt.kept HP3.out (fun k hk _ => hB3.block k (by omega)) (fun k hk _ => hk), hB⟩
  have HOF : Hid (OfK (dropT (storeK L) (n : Int))) := OfK.drop (storeK_of L) _
  have hlb4 : lb < w4.heap.size := Nat.lt_of_lt_of_le HLT.out HB4.out.size
  clear hb4
  go_wp2_with fail
  go_loopw [9] (fun i wr => ∃ j : Nat, j ≤ L.length ∧ i = .int .i64 j ∧ Below w4.heap.size w4 wr) (fun i _ => L.length - (intOf i).toNat)
  case atStart => exact ⟨0, Nat.zero_le _, rfl, Below.refl _ _⟩
  case round =>
    obtain ⟨j, hj, rfl, hB⟩ := hrel
    have hsz := hB.size
    by_cases hj2 : j < L.length
    · have HB : Hid _ := hB
      clear hB
      go_wp2_with fail
      go_loopw [10, 11] (fun l i wx => ∃ (b : Bool) (k : Nat), j + 1 ≤ k ∧ k ≤ L.length ∧ l = .bool b ∧ i = .int .i64 k ∧ Hid (b = true ↔ lastB L j k) ∧ Below w4.heap.size w4 wx) (fun _ i _ => L.length - (intOf i).toNat)
      case atStart => exact ⟨true, j + 1, Nat.le_refl _, by omega, rfl, by go_num, ⟨fun _ i h1 h2 h3 h4 => by omega, fun _ => rfl⟩, HB.out⟩
      case round =>
        obtain ⟨b, k, hk1, hk, rfl, rfl, HBL, hB2⟩ := hrel
        have hsz2 := hB2.size
        by_cases hk2 : k < L.length
        · cases b
          · go_wp2_with fail
            go_quiet (fail)
            go_wp2_with fail
            go_roundw
            case rel => exact ⟨false, k + 1, by omega, by omega, rfl, by go_num, ⟨fun h => (by cases h), fun h => HBL.out.2 ((last_more hj2 hk2 (by omega)).1 h).1⟩, ⟨hB2.os, hB2.tape, hB2.output, hB2.size, hB2.block⟩⟩
            case measure => simp [intOf]; omega
          · obtain ⟨tk, HTK⟩ : ∃ t, Hid (t = L[k]) := ⟨L[k], rfl⟩
            obtain ⟨tj, HTJ⟩ : ∃ t, Hid (t = L[j]) := ⟨L[j], rfl⟩
            obtain ⟨m1, HM1⟩ : ∃ m : Nat, Hid (Doc.idK tk = m) := ⟨_, rfl⟩
            obtain ⟨m2, HM2⟩ : ∃ m : Nat, Hid (Doc.idK tj = m) := ⟨_, rfl⟩
            have HSK : Hid (∀ W : World, Below w4.heap.size w4 W → RawOff W lb (lo + k * 5) tk ∧ RawOff W lb (lo + j * 5) tj) := fun W hW => by
              have hB := (HLW.out W hW).2.2
              rw [HTK.out, HTJ.out]
              exact ⟨HC.out W hB k hk2, HC.out W hB j hj2⟩
            have HQ0 : Hid (Below w4.heap.size w4 wr.drew) := Below.drew hB2
            have HS0 : Hid _ := HSK.out _ HQ0.out
            have HI1 : Hid (∀ W : World, Calls Tryz.prog 21 #[.agg #[.int .i64 tk.i, .int .i64 tk.x, .int .i64 tk.y, .int .i64 tk.n, .int .i64 tk.s]] W fun e w' => e = .returned (.int .i64 (m1 : Int)) ∧ Below W.heap.size W w') := fun W => by rw [← HM1.out]; exact HIDS.out W tk (by rw [HTK.out]; exact List.getElem_mem hk2)
            have HI2 : Hid (∀ W : World, Calls Tryz.prog 21 #[.agg #[.int .i64 tj.i, .int .i64 tj.x, .int .i64 tj.y, .int .i64 tj.n, .int .i64 tj.s]] W fun e w' => e = .returned (.int .i64 (m2 : Int)) ∧ Below W.heap.size W w') := fun W => by rw [← HM2.out]; exact HIDS.out W tj (by rw [HTJ.out]; exact List.getElem_mem hj2)
            obtain ⟨bn, HBN⟩ : ∃ b : Bool, Hid (((m1 : Int) != (m2 : Int)) = b) := ⟨_, rfl⟩
            go_wp2_with fail
            refine wp_region_M 14 (fun w' => RawOff w' lb (lo + k * 5) tk ∧ RawOff w' lb (lo + j * 5) tj) (by kernel_rfl) ?_
            refine anyM_take (i := 0) (v := .bool true) rfl (by kernel_rfl) (by kernel_rfl) (by kernel_rfl) (by kernel_rfl) (fun _ _ _ h => h) rfl rfl HS0.out (fun w' hSw => by go_simp) ?_
            simp only [List.setIfInBounds_toArray, List.set_cons_zero, List.set_cons_succ]
            refine anyM_take (i := 1) (v := .bool true) rfl (by kernel_rfl) (by kernel_rfl) (by kernel_rfl) (by kernel_rfl) (fun _ _ _ h => h) rfl rfl HS0.out (fun w' hSw => by go_simp) ?_
            simp only [List.setIfInBounds_toArray, List.set_cons_zero, List.set_cons_succ]
            refine anyM_takeG (i := 2) (v := .slice (some ⟨lb, lo, none⟩) L.length tc) rfl (by kernel_rfl) (by kernel_rfl) (by kernel_rfl) (by kernel_rfl) (fun _ _ _ h => h) rfl rfl HS0.out (fun w' hSw => by go_simp) ?_
            simp only [List.setIfInBounds_toArray, List.set_cons_zero, List.set_cons_succ]
            refine anyM_takeG (i := 3) (v := .int .i64 k) rfl (by kernel_rfl) (by kernel_rfl) (by kernel_rfl) (by kernel_rfl) (fun _ _ _ h => h) rfl rfl HS0.out (fun w' hSw => by go_simp) ?_
            simp only [List.setIfInBounds_toArray, List.set_cons_zero, List.set_cons_succ]
            refine anyM_takeG (i := 4) (v := .pointer (some ⟨lb, lo + k * 5, none⟩)) rfl (by kernel_rfl) (by kernel_rfl) (by kernel_rfl) (by kernel_rfl) (fun _ _ _ h => h) rfl rfl HS0.out (fun w' hSw => by go_simp) ?_
            simp only [List.setIfInBounds_toArray, List.set_cons_zero, List.set_cons_succ]
            refine anyM_takeG (i := 5) (v := .agg #[.int .i64 tk.i, .int .i64 tk.x, .int .i64 tk.y, .int .i64 tk.n, .int .i64 tk.s]) rfl (by kernel_rfl) (by kernel_rfl) (by kernel_rfl) (by kernel_rfl) (fun _ _ _ h => h) rfl rfl HS0.out (fun w' hSw => by obtain ⟨⟨c0, c1, c2, c3, c4⟩, _⟩ := hSw; go_simp) ?_
            simp only [List.setIfInBounds_toArray, List.set_cons_zero, List.set_cons_succ]
            refine anyM_takeG (i := 7) (v := .slice (some ⟨lb, lo, none⟩) L.length tc) rfl (by kernel_rfl) (by kernel_rfl) (by kernel_rfl) (by kernel_rfl) (fun _ _ _ h => h) rfl rfl HS0.out (fun w' hSw => by go_simp) ?_
            simp only [List.setIfInBounds_toArray, List.set_cons_zero, List.set_cons_succ]
            refine anyM_takeG (i := 8) (v := .int .i64 j) rfl (by kernel_rfl) (by kernel_rfl) (by kernel_rfl) (by kernel_rfl) (fun _ _ _ h => h) rfl rfl HS0.out (fun w' hSw => by go_simp) ?_
            simp only [List.setIfInBounds_toArray, List.set_cons_zero, List.set_cons_succ]
            refine anyM_takeG (i := 9) (v := .pointer (some ⟨lb, lo + j * 5, none⟩)) rfl (by kernel_rfl) (by kernel_rfl) (by kernel_rfl) (by kernel_rfl) (fun _ _ _ h => h) rfl rfl HS0.out (fun w' hSw => by go_simp) ?_
            simp only [List.setIfInBounds_toArray, List.set_cons_zero, List.set_cons_succ]
            refine anyM_takeG (i := 10) (v := .agg #[.int .i64 tj.i, .int .i64 tj.x, .int .i64 tj.y, .int .i64 tj.n, .int .i64 tj.s]) rfl (by kernel_rfl) (by kernel_rfl) (by kernel_rfl) (by kernel_rfl) (fun _ _ _ h => h) rfl rfl HS0.out (fun w' hSw => by obtain ⟨_, ⟨c0, c1, c2, c3, c4⟩⟩ := hSw; go_simp) ?_
            simp only [List.setIfInBounds_toArray, List.set_cons_zero, List.set_cons_succ]
            refine anyM_oneG (i := 6) (by kernel_rfl) rfl rfl (fun K hK => ?_)
            go_simp
            refine (HI1.out _).mono ?_
            rintro r w7 ⟨rfl, hb7⟩
            have hq7 : Below w4.heap.size w4 w7 := Below.callB HQ0.out (Nat.le_refl _) hb7
            refine hK.out _ _ (fun _ => HSK.out _ hq7) ?_
            clear hK K
            try simp only [Act.put, List.setIfInBounds_toArray, List.set_cons_zero, List.set_cons_succ]
            refine anyM_oneG (i := 11) (by kernel_rfl) rfl rfl (fun K hK => ?_)
            go_simp
            refine (HI2.out _).mono ?_
            rintro r w8 ⟨rfl, hb8⟩
            have hq8 : Below w4.heap.size w4 w8 := Below.callB hq7 (Nat.le_refl _) hb8
            have hS8 := HSK.out _ hq8
            refine hK.out _ _ (fun _ => hS8) ?_
            clear hK K
            try simp only [Act.put, List.setIfInBounds_toArray, List.set_cons_zero, List.set_cons_succ]
            refine anyM_takeG (i := 12) (v := .bool ((m1 : Int) != (m2 : Int))) rfl (by kernel_rfl) (by kernel_rfl) (by kernel_rfl) (by kernel_rfl) (fun _ _ _ h => h) rfl rfl hS8 (fun w' hSw => by go_simp) ?_
            simp only [List.setIfInBounds_toArray, List.set_cons_zero, List.set_cons_succ]
            rw [HBN.out]
            refine anyM_take (i := 13) (v := .bool bn) rfl (by kernel_rfl) (by kernel_rfl) (by kernel_rfl) (by kernel_rfl) (fun _ _ _ h => h) rfl rfl hS8 (fun w' hSw => by go_simp) ?_
            simp only [List.setIfInBounds_toArray, List.set_cons_zero, List.set_cons_succ]
            refine anyM_one (i := 14) (by kernel_rfl) rfl rfl (fun K hK => ?_)
            go_simp
            refine hK.out _ _ (fun _ => hS8) ?_
            clear hK K
            refine anyM_done (by kernel_rfl) ?_
            have HQ8 : Hid _ := hq8
            clear hS8 hb7 hb8 hq7 hq8
            go_wp2_with fail
            go_roundw
            case rel =>
              refine ⟨bn, k + 1, by omega, by omega, rfl, by go_num, ?_, HQ8.out⟩
              have h1 : (bn = true ↔ m1 ≠ m2) := by rw [← HBN.out]; simp; omega
              have h2 : lastB L j k := HBL.out.1 (by trivial)
              have h3 := last_more hj2 hk2 (by omega)
              rw [← HTK.out, ← HTJ.out, HM1.out, HM2.out] at h3
              exact ⟨fun h => h3.2 ⟨h2, h1.1 h⟩, fun h => h1.2 (h3.1 h).2⟩
            case measure => simp [intOf]; omega
        · obtain rfl : k = L.length := by omega
          cases b
          · go_wp2_with fail
            go_roundw
            case rel => exact ⟨j + 1, by omega, by go_num, hB2⟩
            case measure => simp [intOf]; omega
          · obtain ⟨tj, HTJ⟩ : ∃ t, Hid (t = L[j]) := ⟨L[j], rfl⟩
            obtain ⟨m2, HM2⟩ : ∃ m : Nat, Hid (Doc.idK tj = m) := ⟨_, rfl⟩
            have HSK : Hid (∀ W : World, Below w4.heap.size w4 W → RawOff W lb (lo + j * 5) tj) := fun W hW => by
              rw [HTJ.out]
              exact HC.out W (HLW.out W hW).2.2 j hj2
            have HQ0 : Hid (Below w4.heap.size w4 wr.drew) := Below.drew hB2
            have HS0 : Hid _ := HSK.out _ HQ0.out
            have HMJ : Hid (tj ∈ L) := by rw [HTJ.out]; exact List.getElem_mem hj2
            have HI2 : Hid (∀ W : World, Calls Tryz.prog 21 #[.agg #[.int .i64 tj.i, .int .i64 tj.x, .int .i64 tj.y, .int .i64 tj.n, .int .i64 tj.s]] W fun e w' => e = .returned (.int .i64 (m2 : Int)) ∧ Below W.heap.size W w') := fun W => by rw [← HM2.out]; exact HIDS.out W tj HMJ.out
            obtain ⟨bn, HBN⟩ : ∃ b : Bool, Hid (((m2 : Int) == (n : Int)) = b) := ⟨_, rfl⟩
            have HSH : Hid (∀ W : World, Below w4.heap.size w4 W → Calls Tryz.prog 23 #[.pointer (some ⟨sb, 0, none⟩), .agg #[.int .i64 tj.i, .int .i64 tj.x, .int .i64 tj.y, .int .i64 tj.n, .int .i64 tj.s], .bool bn] W fun e w' => e = .returned (.bool true) ∧ Below W.heap.size W w') := fun W hW => by
              obtain ⟨h1, h2, h3⟩ := HLW.out W hW
              refine shown_any h2 h1 HOF.out tj (H64.out tj HMJ.out) bn (fun hb => ?_) (fun hb => ?_)
              · have e : (m2 : Int) = (n : Int) := by have := HBN.out; rw [hb] at this; exact eq_of_beq this
                rw [HM2.out, e]; exact dropK_at _ _
              · have e : (m2 : Int) ≠ (n : Int) := by have := HBN.out; rw [hb] at this; exact fun h => by rw [h] at this; simp at this
                have hl := storeK_last L j hj2 (fun i h h1 => HBL.out.1 (by trivial) i h hj2 h1 h)
                rw [← HTJ.out, HM2.out] at hl
                rw [HM2.out, dropK_ne _ e]
                exact hl
            go_wp2_with fail
            refine wp_region_M 13 (fun w' => RawOff w' lb (lo + j * 5) tj) (by kernel_rfl) ?_
            refine anyM_take (i := 0) (v := .pointer (some ⟨sb, 0, none⟩)) rfl (by kernel_rfl) (by kernel_rfl) (by kernel_rfl) (by kernel_rfl) (fun _ _ _ h => h) rfl rfl HS0.out (fun w' hSw => by go_simp) ?_
            simp only [List.setIfInBounds_toArray, List.set_cons_zero, List.set_cons_succ]
            refine anyM_take (i := 1) (v := .slice (some ⟨lb, lo, none⟩) L.length tc) rfl (by kernel_rfl) (by kernel_rfl) (by kernel_rfl) (by kernel_rfl) (fun _ _ _ h => h) rfl rfl HS0.out (fun w' hSw => by go_simp) ?_
            simp only [List.setIfInBounds_toArray, List.set_cons_zero, List.set_cons_succ]
            refine anyM_take (i := 2) (v := .int .i64 j) rfl (by kernel_rfl) (by kernel_rfl) (by kernel_rfl) (by kernel_rfl) (fun _ _ _ h => h) rfl rfl HS0.out (fun w' hSw => by go_simp) ?_
            simp only [List.setIfInBounds_toArray, List.set_cons_zero, List.set_cons_succ]
            refine anyM_take (i := 3) (v := .pointer (some ⟨lb, lo + j * 5, none⟩)) rfl (by kernel_rfl) (by kernel_rfl) (by kernel_rfl) (by kernel_rfl) (fun _ _ _ h => h) rfl rfl HS0.out (fun w' hSw => by go_simp) ?_
            simp only [List.setIfInBounds_toArray, List.set_cons_zero, List.set_cons_succ]
            refine anyM_take (i := 4) (v := .agg #[.int .i64 tj.i, .int .i64 tj.x, .int .i64 tj.y, .int .i64 tj.n, .int .i64 tj.s]) rfl (by kernel_rfl) (by kernel_rfl) (by kernel_rfl) (by kernel_rfl) (fun _ _ _ h => h) rfl rfl HS0.out (fun w' hSw => by obtain ⟨c0, c1, c2, c3, c4⟩ := hSw; go_simp) ?_
            simp only [List.setIfInBounds_toArray, List.set_cons_zero, List.set_cons_succ]
            refine anyM_take (i := 5) (v := .slice (some ⟨lb, lo, none⟩) L.length tc) rfl (by kernel_rfl) (by kernel_rfl) (by kernel_rfl) (by kernel_rfl) (fun _ _ _ h => h) rfl rfl HS0.out (fun w' hSw => by go_simp) ?_
            simp only [List.setIfInBounds_toArray, List.set_cons_zero, List.set_cons_succ]
            refine anyM_take (i := 6) (v := .int .i64 j) rfl (by kernel_rfl) (by kernel_rfl) (by kernel_rfl) (by kernel_rfl) (fun _ _ _ h => h) rfl rfl HS0.out (fun w' hSw => by go_simp) ?_
            simp only [List.setIfInBounds_toArray, List.set_cons_zero, List.set_cons_succ]
            refine anyM_take (i := 7) (v := .pointer (some ⟨lb, lo + j * 5, none⟩)) rfl (by kernel_rfl) (by kernel_rfl) (by kernel_rfl) (by kernel_rfl) (fun _ _ _ h => h) rfl rfl HS0.out (fun w' hSw => by go_simp) ?_
            simp only [List.setIfInBounds_toArray, List.set_cons_zero, List.set_cons_succ]
            refine anyM_take (i := 8) (v := .agg #[.int .i64 tj.i, .int .i64 tj.x, .int .i64 tj.y, .int .i64 tj.n, .int .i64 tj.s]) rfl (by kernel_rfl) (by kernel_rfl) (by kernel_rfl) (by kernel_rfl) (fun _ _ _ h => h) rfl rfl HS0.out (fun w' hSw => by obtain ⟨c0, c1, c2, c3, c4⟩ := hSw; go_simp) ?_
            simp only [List.setIfInBounds_toArray, List.set_cons_zero, List.set_cons_succ]
            refine anyM_take (i := 10) (v := .int .i64 n) rfl (by kernel_rfl) (by kernel_rfl) (by kernel_rfl) (by kernel_rfl) (fun _ _ _ h => h) rfl rfl HS0.out (fun w' hSw => by go_simp) ?_
            simp only [List.setIfInBounds_toArray, List.set_cons_zero, List.set_cons_succ]
            refine anyM_one (i := 9) (by kernel_rfl) rfl rfl (fun K hK => ?_)
            go_simp
            refine (HI2.out _).mono ?_
            rintro r w7 ⟨rfl, hb7⟩
            have hq7 : Below w4.heap.size w4 w7 := Below.callB HQ0.out (Nat.le_refl _) hb7
            have hS7 := HSK.out _ hq7
            refine hK.out _ _ (fun _ => hS7) ?_
            clear hK K
            try simp only [Act.put, List.setIfInBounds_toArray, List.set_cons_zero, List.set_cons_succ]
            refine anyM_take (i := 11) (v := .bool ((m2 : Int) == (n : Int))) rfl (by kernel_rfl) (by kernel_rfl) (by kernel_rfl) (by kernel_rfl) (fun _ _ _ h => h) rfl rfl hS7 (fun w' hSw => by go_simp) ?_
            simp only [List.setIfInBounds_toArray, List.set_cons_zero, List.set_cons_succ]
            rw [HBN.out]
            refine anyM_one (i := 12) (by kernel_rfl) rfl rfl (fun K hK => ?_)
            go_simp
            refine (HSH.out _ hq7).mono ?_
            rintro r w8 ⟨rfl, hb8⟩
            have hq8 : Below w4.heap.size w4 w8 := Below.callB hq7 (Nat.le_refl _) hb8
            refine hK.out _ _ (fun _ => HSK.out _ hq8) ?_
            clear hK K
            try simp only [Act.put, List.setIfInBounds_toArray, List.set_cons_zero, List.set_cons_succ]
            refine anyM_one (i := 13) (by kernel_rfl) rfl rfl (fun K hK => ?_)
            go_simp
            refine hK.out _ _ (fun _ => HSK.out _ hq8) ?_
            clear hK K
            refine anyM_done (by kernel_rfl) ?_
            have HQ8 : Hid _ := hq8
            clear hS7 hb7 hb8 hq7 hq8
            go_wp2_with fail
            go_roundw
            case rel => exact ⟨j + 1, by omega, by go_num, HQ8.out⟩
            case measure => simp [intOf]; omega
    · obtain rfl : j = L.length := by omega
      go_wp2_with fail
      go_ret
      exact ⟨rfl, HB4.out.trans (hB.mono HB4.out.size)⟩
end
end Go.Proofs.YtbnelaoeblhndaaGreatDoor
