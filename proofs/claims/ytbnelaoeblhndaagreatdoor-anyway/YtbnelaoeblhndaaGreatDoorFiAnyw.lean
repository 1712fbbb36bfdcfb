import Derived.Test.YtbnelaoeblhndaaGreatDoorFiNrA
import Derived.BigGuard
/- Things that are put the last ones first, each once: the same store. -/
namespace Go.Proofs.YtbnelaoeblhndaaGreatDoor
open Go.RowKit
set_option maxRecDepth 100000

theorem puts_from (M : List Doc.Raw) : ∀ (th : Has) (x : Int), M.foldl (fun th t => putT th (Doc.idK t : Int) (Doc.thingK t)) th x = match putsK M x with | some v => some v | none => th x := by
  induction M with
  | nil => intro th x; rfl
  | cons t M ih =>
    intro th x
    have h1 : putsK (t :: M) x = match putsK M x with | some v => some v | none => putT noneT (Doc.idK t : Int) (Doc.thingK t) x := by
      unfold putsK
      rw [List.foldl_cons]
      exact ih _ x
    rw [List.foldl_cons, ih, h1]
    cases putsK M x with
    | some v => rfl
    | none =>
      simp only [putT, noneT]
      by_cases e : x = (Doc.idK t : Int)
      · rw [if_pos e, if_pos e]
      · rw [if_neg e, if_neg e]
theorem puts_cons (t : Doc.Raw) (M : List Doc.Raw) (x : Int) : putsK (t :: M) x = match putsK M x with | some v => some v | none => putT noneT (Doc.idK t : Int) (Doc.thingK t) x := by
  have h := puts_from M (putT noneT (Doc.idK t : Int) (Doc.thingK t)) x
  rw [← h]
  rfl
/-- The numbers of the things that were put. -/
theorem puts_some (M : List Doc.Raw) (x : Int) : (∃ v, putsK M x = some v) ↔ ∃ t ∈ M, (Doc.idK t : Int) = x := by
  induction M with
  | nil => constructor
           · rintro ⟨v, h⟩; cases h
           · rintro ⟨t, h, _⟩; cases h
  | cons t M ih =>
    rw [puts_cons]
    cases h : putsK M x with
    | some v =>
      have := ih.1 ⟨v, h⟩
      obtain ⟨u, hu, e⟩ := this
      exact ⟨fun _ => ⟨u, List.mem_cons_of_mem _ hu, e⟩, fun _ => ⟨v, rfl⟩⟩
    | none =>
      simp only [putT, noneT]
      by_cases e : x = (Doc.idK t : Int)
      · rw [if_pos e]
        exact ⟨fun _ => ⟨t, List.mem_cons_self, e.symm⟩, fun _ => ⟨_, rfl⟩⟩
      · rw [if_neg e]
        constructor
        · rintro ⟨v, h2⟩; cases h2
        · rintro ⟨u, hu, e2⟩
          rcases List.mem_cons.1 hu with rfl | hu
          · exact absurd e2.symm e
          · obtain ⟨v, h3⟩ := ih.2 ⟨u, hu, e2⟩
            rw [h] at h3; cases h3
theorem idK_ne (t : Doc.Raw) : (Doc.idK t : Int) ≠ 4000 := by
  unfold Doc.idK
  omega
theorem store_cons_in {t : Doc.Raw} {M : List Doc.Raw} (h : ∃ u ∈ M, Doc.idK u = Doc.idK t) : storeK (t :: M) = storeK M := by
  funext x
  unfold storeK putT
  by_cases e : x = 4000
  · rw [if_pos e, if_pos e]
  · rw [if_neg e, if_neg e, puts_cons]
    cases h1 : putsK M x with
    | some v => rfl
    | none =>
      simp only [putT, noneT]
      rw [if_neg]
      intro e2
      obtain ⟨u, hu, e3⟩ := h
      obtain ⟨v, h4⟩ := (puts_some M x).2 ⟨u, hu, by rw [e2, e3]⟩
      rw [h1] at h4; cases h4
theorem store_cons_out {t : Doc.Raw} {M : List Doc.Raw} (h : ¬ ∃ u ∈ M, Doc.idK u = Doc.idK t) : storeK (t :: M) = putT (storeK M) (Doc.idK t : Int) (Doc.thingK t) := by
  funext x
  unfold storeK putT
  by_cases e : x = 4000
  · rw [if_pos e, if_pos e, if_neg (fun e2 => idK_ne t (e2.symm.trans e))]
  · rw [if_neg e, if_neg e, puts_cons]
    by_cases e2 : x = (Doc.idK t : Int)
    · rw [if_pos e2]
      cases h1 : putsK M x with
      | some v =>
        obtain ⟨u, hu, e3⟩ := (puts_some M x).1 ⟨v, h1⟩
        exact absurd ⟨u, hu, by omega⟩ h
      | none => simp only [putT, if_pos e2]
    · rw [if_neg e2]
      cases h1 : putsK M x with
      | some v => rfl
      | none => simp only [putT, noneT, if_neg e2]
theorem length_le_of_sub : ∀ {l m : List Nat}, l.Nodup → (∀ x ∈ l, x ∈ m) → l.length ≤ m.length
  | [], _, _, _ => Nat.zero_le _
  | a :: l, m, hn, hs => by
    have ha := hs a List.mem_cons_self
    obtain ⟨h1, h2⟩ := List.nodup_cons.1 hn
    have h3 : l.length ≤ (m.erase a).length := length_le_of_sub h2 (fun x hx => (List.mem_erase_of_ne (fun (e : x = a) => h1 (by rw [← e]; exact hx))).2 (hs x (List.mem_cons_of_mem _ hx)))
    rw [List.length_erase_of_mem ha] at h3
    have h4 : 0 < m.length := List.length_pos_of_mem ha
    simp only [List.length_cons]
    omega
theorem length_eq_of_same {l m : List Nat} (hl : l.Nodup) (hm : m.Nodup) (h : ∀ x, x ∈ l ↔ x ∈ m) : l.length = m.length :=
  Nat.le_antisymm (length_le_of_sub hl (fun x hx => (h x).1 hx)) (length_le_of_sub hm (fun x hx => (h x).2 hx))
/-- How many things there are. -/
theorem all_count (L : List Doc.Raw) (D : List Nat) (hD : D.Nodup) (hm : ∀ j, j ∈ D ↔ ∃ t ∈ L, Doc.idK t = j) (ys : Bits) (hy : ∀ j, j < 4096 → memB ys j = (storeK L (j : Int)).isSome) : (nums ys).length = D.length + 1 := by
  have hn : (4000 :: D).Nodup := by
    refine List.nodup_cons.2 ⟨fun h => ?_, hD⟩
    obtain ⟨t, _, e⟩ := (hm 4000).1 h
    exact idK_ne t (by omega)
  rw [length_eq_of_same (nums_nodup ys) hn (fun j => ?_)]
  · rfl
  rw [mem_nums]
  constructor
  · rintro ⟨h1, h2⟩
    rw [hy j h1] at h2
    obtain ⟨v, h3⟩ := Option.isSome_iff_exists.1 h2
    unfold storeK putT at h3
    by_cases e : (j : Int) = 4000
    · have : j = 4000 := by omega
      subst this; exact List.mem_cons_self
    · rw [if_neg e] at h3
      obtain ⟨t, ht, e2⟩ := (puts_some L j).1 ⟨v, h3⟩
      exact List.mem_cons_of_mem _ ((hm j).2 ⟨t, ht, by omega⟩)
  · intro h
    rcases List.mem_cons.1 h with rfl | h
    · refine ⟨by decide, ?_⟩
      rw [hy 4000 (by decide)]
      simp [storeK, putT]
    · obtain ⟨t, ht, rfl⟩ := (hm j).1 h
      have hlt : Doc.idK t < 4096 := by have := Doc.pickN_lt t.i (n := 40) (by decide); unfold Doc.idK; omega
      refine ⟨hlt, ?_⟩
      rw [hy _ hlt]
      obtain ⟨v, h3⟩ := (puts_some L (Doc.idK t : Int)).2 ⟨t, ht, rfl⟩
      unfold storeK putT
      rw [if_neg (idK_ne t), h3]
      rfl
end Go.Proofs.YtbnelaoeblhndaaGreatDoor
/- The walk of the statement Anyway, whole. -/
namespace Go.Proofs.YtbnelaoeblhndaaGreatDoor
open Go.RowKit
set_option maxRecDepth 100000

/-- A thing of the statement's in a row. -/
structure RawQ (w : World) (b o : Nat) (t : Doc.Raw) : Prop where
  c0 : w.cell? ⟨b, o, none⟩ = some (.int .i64 t.i)
  c1 : w.cell? ⟨b, o + 1, none⟩ = some (.int .i64 t.x)
  c2 : w.cell? ⟨b, o + 2, none⟩ = some (.int .i64 t.y)
  c3 : w.cell? ⟨b, o + 3, none⟩ = some (.int .i64 t.n)
  c4 : w.cell? ⟨b, o + 4, none⟩ = some (.int .i64 t.s)
theorem rawQ_of {w W : World} {lb lo : Nat} {L : List Doc.Raw} (hr : ∀ k u, (rawsC L)[k]? = some u → w.cell? ⟨lb, lo + k, none⟩ = some u) (hlt : lb < w.heap.size) (hB : Below w.heap.size w W) (j : Nat) (hj : j < L.length) : RawQ W lb (lo + j * 5) L[j] := by
  have rr : ∀ i (_ : i < 5), W.cell? ⟨lb, lo + j * 5 + i, none⟩ = (rawC L[j])[i]? := fun i hi => by
    have hf := flat_at rawC 5 rawC_len L j hj i hi
    have hlc : ((rawC L[j])[i]?).isSome = true := by
      rw [List.getElem?_eq_getElem (by rw [rawC_len]; exact hi)]; rfl
    obtain ⟨u, hu⟩ := Option.isSome_iff_exists.1 hlc
    rw [hB.cell (p := ⟨lb, lo + j * 5 + i, none⟩) hlt, hu, Nat.add_assoc]
    exact hr (j * 5 + i) u (by unfold rawsC; rw [hf, hu])
  exact ⟨rr 0 (by omega), rr 1 (by omega), rr 2 (by omega), rr 3 (by omega), rr 4 (by omega)⟩
theorem any_in {l : List Nat} {n : Nat} {b : Bool} (h : n ∈ l ↔ b = true) : (l.map Int.ofNat).any (· == (n : Int)) = b := by
  cases b
  · exact any_false (fun hn => by have := h.1 hn; cases this)
  · exact natC_any (h.2 rfl)

/-- The second store, as far as it is filled; the list of the numbers that are done lies apart from it. -/
def Half (B : Nat) (wr : World) (sb : Nat) (v : Value) (th : Has) (D : List Nat) : Prop :=
  ∃ F : Nat → Prop, (∀ k, F k → B ≤ k ∧ k < wr.heap.size) ∧ ProgSt wr F sb Doc.fsK 2 th ∧ (∀ d, v.ownBlock = some d → ¬ F d) ∧ wr.ownsRow B 3 1 v D.length (natC D)
theorem Half.below {B : Nat} {w w' : World} {sb : Nat} {v : Value} {th : Has} {D : List Nat} (h : Half B w sb v th D) (hb : Below w.heap.size w w') : Half B w' sb v th D := by
  obtain ⟨F, h1, h2, h3, h4⟩ := h
  exact ⟨F, fun k hk => ⟨(h1 k hk).1, Nat.lt_of_lt_of_le (h1 k hk).2 hb.size⟩, h2.kept (fun k hk hl => hb.block k hl) (fun k hk _ => hk), h3, row_below h4 hb⟩

theorem Half.slice {B : Nat} {w : World} {sb : Nat} {v : Value} {th : Has} {D : List Nat} (h : Half B w sb v th D) : ∃ b c, v = .slice b D.length c := by
  obtain ⟨F, h1, h2, h3, h4⟩ := h
  exact row_slice h4
theorem Half.sl {B : Nat} {w : World} {sb : Nat} {v : Value} {th : Has} {D : List Nat} (h : Half B w sb v th D) : Sl w v D.length (natC D) := by
  obtain ⟨F, h1, h2, h3, h4⟩ := h
  exact rowSl h4

section
variable {w : World}
set_option maxHeartbeats 16000000 in
theorem anyway_any (hL : LaidF w) (L : List Doc.Raw) (hll : L.length ≤ 9223372036854775807) (h64 : ∀ t ∈ L, Raw64 t) (tv : Value) (ht : Sl w tv L.length (rawsC L)) (R : List Int) (hR : ∀ x ∈ R, In64 x) (hrl : R.length ≤ 9223372036854775807) (rv : Value) (hrv : Sl w rv R.length (intC R)) (m : Int) (hm : In64 m) :
    Calls Tryz.prog 10 #[tv, rv, .int .i64 m] w fun e w' => e = .returned (.bool true) ∧ Below w.heap.size w w' := by
  obtain ⟨i0, hi, hz0, hz1, hz2⟩ := info_parts Tryz.infoIntT
  have HFI : Hid _ := filled_any hL.sg hL.g1 L hll h64 tv ht
  have HFT : Hid (∀ W : World, Below w.heap.size w W → Calls Tryz.prog 17 #[rv] W fun e w' => ∃ f d A, e = .returned (.string f) ∧ FilK f d A ∧ Below W.heap.size W w') := fun W hW => kfilter_any R hR hrl rv (hrv.below hW)
  obtain ⟨k, ek, hk30, HPM⟩ := pick_all m hm 30 (by decide) (by decide)
  clear ek
  have HT : Hid _ := ht
  have H64 : Hid _ := h64
  obtain ⟨ta, tc, htv⟩ := ht.slice
  subst htv
  obtain ⟨ra, rc, hrs⟩ := hrv.slice
  subst hrs
  have HLL : Hid _ := hL
  have g1 := hL.g1
  have g2 := hL.g2
  clear ht h64 hL hrv hR
  go_enter Tryz.func10, Tryz.ntmps10
  go_wp2_with fail
  refine Calls.mono HFI.out ?_
  rintro e w1 ⟨sb, rfl, hp1, hb1⟩
  have HP1 : Hid _ := hp1
  have HB1 : Hid _ := hb1
  have HLW : Hid (∀ W : World, Below w1.heap.size w1 W → LaidF W ∧ ProgSt W (fun k => w.heap.size ≤ k ∧ k < w1.heap.size) sb Doc.fsK 2 (storeK L) ∧ Below w.heap.size w W) := fun W hW =>
    have hB := HB1.out.trans (hW.mono HB1.out.size)
    ⟨HLL.out.below hB g1 g2, ProgSt.kept HP1.out (fun k hk _ => hW.block k hk.2) (fun k hk _ => hk), hB⟩
  have HF2 : Hid _ := filled_any (HLW.out w1 (Below.refl _ _)).1.sg (HLW.out w1 (Below.refl _ _)).1.g1 [] (by decide) (fun t h => by cases h) (.slice none 0 0) ⟨.inl ⟨rfl, _, _, rfl⟩⟩
  clear hp1 hb1
  go_wp2_with fail
  refine Calls.mono HF2.out ?_
  rintro e w2 ⟨sc, rfl, hp2, hb2⟩
  have HH0 : Hid (Half w1.heap.size w2 sc (.slice none 0 0) (storeK (L.drop L.length)) []) := by
    rw [List.drop_length]
    exact ⟨_, fun k hk => hk, hp2, fun d hd => (by cases hd), World.ownsRow_nil _ _ _ _⟩
  have HB2 : Hid _ := hb2
  clear hp2 hb2
  go_wp2_with fail
  go_loopw [9, 10] (fun v i wr => ∃ (q : Nat) (D : List Nat), q ≤ L.length ∧ i = .int .i64 ((q : Int) - 1) ∧ Below w1.heap.size w1 wr ∧ D.Nodup ∧ Hid (∀ j, j ∈ D ↔ ∃ t ∈ L.drop q, Doc.idK t = j) ∧ Hid (Half w1.heap.size wr sc v (storeK (L.drop q)) D)) (fun _ i _ => (intOf i + 1).toNat)
  case atStart => exact ⟨L.length, [], Nat.le_refl _, by go_num, HB2.out, List.nodup_nil, fun j => ⟨fun h => (by cases h), fun ⟨t, h, _⟩ => by rw [List.drop_length] at h; cases h⟩, HH0⟩
  case round =>
    obtain ⟨q, D, hq, rfl, hB, hnd, HD, HH⟩ := hrel
    have hsz := hB.size
    have hdl : D.length ≤ 4096 := by
      have h1 := length_le_of_sub hnd (m := List.range 4096) (fun x hx => by
        obtain ⟨t, _, rfl⟩ := (HD.out x).1 hx
        rw [List.mem_range]
        have := Doc.pickN_lt t.i (n := 40) (by decide)
        unfold Doc.idK; omega)
      rw [List.length_range] at h1
      exact h1
    obtain ⟨vb, vc, hvs⟩ := Half.slice HH.out
    subst hvs
    by_cases hq0 : q = 0
    · subst hq0
      have hpi : (((0 : Nat) : Int) - 1) = -1 := rfl
      rw [hpi]
      clear hpi
      rw [List.drop_zero] at HD HH
      obtain ⟨F, hF1, hF2, _, _⟩ := HH.out
      have HTW : Hid (∀ W : World, Below wr.heap.size wr W → LaidF W ∧ ProgSt W (fun k => w.heap.size ≤ k ∧ k < w1.heap.size) sb Doc.fsK 2 (storeK L) ∧ ProgSt W F sc Doc.fsK 2 (storeK L) ∧ Below w.heap.size w W) := fun W hW =>
        have h1 := HLW.out W (hB.trans (hW.mono hB.size))
        ⟨h1.1, h1.2.1, hF2.kept (fun k hk hl => hW.block k hl) (fun k hk _ => hk), h1.2.2⟩
      clear hF1 hF2 hB HH
      go_wp2_with fail
      refine Calls.mono (HFT.out _ (HTW.out wr (Below.refl _ _)).2.2.2) ?_
      rintro e w5 ⟨f, d, A, rfl, hfk, hb5⟩
      have HFK : Hid _ := hfk
      have hfs := hfk.len
      have hds := hfk.dep
      have HB5 : Hid (Below wr.heap.size wr w5) := hb5
      have HC1 : Hid _ := chosen_fil (HTW.out _ hb5).2.1 (HTW.out _ hb5).1 hfk.fil (by omega) (by omega)
      clear hfk hb5
      go_wp2_with fail
      refine Calls.mono HC1.out ?_
      rintro e w6 ⟨v6, ys6, rfl, hy6, hs6, hb6⟩
      obtain ⟨c6, d6, hv6⟩ := hs6.slice
      subst hv6
      have HY6 : Hid _ := hy6
      have HS6 : Hid _ := hs6
      have HB6 : Hid (Below wr.heap.size wr w6) := HB5.out.trans (hb6.mono HB5.out.size)
      have HC2 : Hid _ := chosen_fil (HTW.out _ HB6.out).2.2.1 (HTW.out _ HB6.out).1 HFK.out.fil (by omega) (by omega)
      clear hy6 hs6 hb6
      go_wp2_with fail
      refine Calls.mono HC2.out ?_
      rintro e w7 ⟨v7, ys7, rfl, hy7, hs7, hb7⟩
      have n76 : nums ys7 = nums ys6 := nums_congr (fun i hi => by rw [hy7 i hi, HY6.out i hi])
      rw [n76] at hs7
      obtain ⟨c7, d7, hv7⟩ := hs7.slice
      subst hv7
      have HB7 : Hid (Below wr.heap.size wr w7) := HB6.out.trans (hb7.mono HB6.out.size)
      obtain ⟨la, HLA⟩ : ∃ l : List Int, Hid ((nums ys6).map Int.ofNat = l) := ⟨_, rfl⟩
      have hla : la.length = (nums ys6).length := by rw [← HLA.out]; simp
      have HSM : Hid (Calls Tryz.prog 19 #[.slice c6 (nums ys6).length d6, .slice c7 (nums ys6).length d7] w7 fun e w' => e = .returned (.bool true) ∧ Below w7.heap.size w7 w') := by
        refine ksame_any la (by rw [hla]; have := nums_short ys6; omega) _ _ ?_ ?_
        · rw [hla, ← HLA.out]; exact HS6.out.below hb7
        · rw [hla, ← HLA.out]; exact hs7
      clear hy7 hs7 hb7 n76
      go_wp2_with fail
      refine Calls.mono HSM.out ?_
      rintro e w8 ⟨rfl, hb8⟩
      have HB8 : Hid (Below wr.heap.size wr w8) := HB7.out.trans (hb8.mono HB7.out.size)
      obtain ⟨W9, HW9⟩ : ∃ W9, Hid (W9 = w8.alloc (.cells #[.int .i64 1, .int .i64 2] 3)) := ⟨_, rfl⟩
      have HB9 : Hid (Below wr.heap.size wr W9) := by rw [HW9.out]; exact HB8.out.alloc HB8.out.size _
      have HN1 : Hid _ := nearest_in (HTW.out _ HB9.out).2.1 (HTW.out _ HB9.out).1 (s := Doc.allS) (a := Doc.allA) Doc.read_all [1, 2] (.slice (some ⟨w8.heap.size, 0, none⟩) 2 2) (by rw [HW9.out]; exact sl_new (heap_alloc_new w8 _) (by decide) rfl) (by show _ = _; kernel_rfl) k (by omega)
      clear hb8
      go_wp2_with fail
      rw [← HW9.out]
      refine Calls.mono (HPM.out _) ?_
      rintro e w9 ⟨rfl, hw9⟩
      rw [hw9]
      clear hw9 w9
      go_wp2_with fail
      refine Calls.mono HN1.out ?_
      rintro e w10 ⟨v10, ys10, rfl, hy10, hs10, hb10⟩
      obtain ⟨c10, d10, hv10⟩ := hs10.slice
      subst hv10
      have HY10 : Hid _ := hy10
      have HS10 : Hid _ := hs10
      have HB10 : Hid (Below wr.heap.size wr w10) := HB9.out.trans (hb10.mono HB9.out.size)
      obtain ⟨W11, HW11⟩ : ∃ W9, Hid (W9 = w10.alloc (.cells #[.int .i64 1, .int .i64 2] 3)) := ⟨_, rfl⟩
      have hbx : Below w10.heap.size w10 W11 := by rw [HW11.out]; exact (Below.refl _ _).alloc (Nat.le_refl _) _
      have HBX : Hid _ := hbx
      have HB11 : Hid (Below wr.heap.size wr W11) := HB10.out.trans (hbx.mono HB10.out.size)
      have HN2 : Hid _ := nearest_in (HTW.out _ HB11.out).2.2.1 (HTW.out _ HB11.out).1 (s := Doc.allS) (a := Doc.allA) Doc.read_all [1, 2] (.slice (some ⟨w10.heap.size, 0, none⟩) 2 2) (by rw [HW11.out]; exact sl_new (heap_alloc_new w10 _) (by decide) rfl) (by show _ = _; kernel_rfl) k (by omega)
      clear hy10 hs10 hb10 hbx
      go_wp2_with fail
      rw [← HW11.out]
      refine Calls.mono (HPM.out _) ?_
      rintro e w11 ⟨rfl, hw11⟩
      rw [hw11]
      clear hw11 w11
      go_wp2_with fail
      refine Calls.mono HN2.out ?_
      rintro e w12 ⟨v12, ys12, rfl, hy12, hs12, hb12⟩
      have n12 : nums ys12 = nums ys10 := nums_congr (fun i hi => by rw [hy12 i hi, HY10.out i hi])
      rw [n12] at hs12
      obtain ⟨c12, d12, hv12⟩ := hs12.slice
      subst hv12
      have HB12 : Hid (Below wr.heap.size wr w12) := HB11.out.trans (hb12.mono HB11.out.size)
      have HX12 : Hid (Below w10.heap.size w10 w12) := HBX.out.trans (hb12.mono HBX.out.size)
      have hcnt := all_count L D hnd HD.out ys10 (fun j hj => by rw [HY10.out j hj]; exact all_says (storeK_of L) j)
      obtain ⟨H, HHK⟩ : ∃ H, Hid (hitsK (storeK L) [1, 2] (nums ys10) = H) := ⟨_, rfl⟩
      have hHl : H.length = D.length + 1 := by rw [← HHK.out, hitsK_len, hcnt]
      obtain ⟨ka, HKA⟩ : ∃ n', Hid (min k (D.length + 1) = n') := ⟨_, rfl⟩
      have hka : min (k : Int) ((D.length : Int) + 1) = (ka : Int) := by have := HKA.out; omega
      have hkan : ka ≤ D.length + 1 := by have := HKA.out; omega
      have HS12 : Hid _ := hs12
      rw [HHK.out, hcnt, HKA.out] at HS10 HS12
      rw [hcnt, HKA.out]
      clear hy12 hs12 hb12 n12 hcnt
      go_wp2_with fail
      refine Calls.mono (HPM.out _) ?_
      rintro e w13 ⟨rfl, hw13⟩
      rw [hw13]
      clear hw13 w13
      go_wp2_with fail
      go_loopw [26] (fun i wx => ∃ i' : Nat, i' ≤ ka ∧ i = .int .i64 i' ∧ Below w12.heap.size w12 wx) (fun i _ => ka - (intOf i).toNat)
      case atStart => exact ⟨0, Nat.zero_le _, rfl, Below.refl _ _⟩
      case round =>
        obtain ⟨i, hi3, rfl, hB3⟩ := hrel
        by_cases hi4 : i < ka
        · rcases HS10.out.has with ⟨h0', _⟩ | ⟨_, xb, xo, xc, ev, hxc, hxl, hrx⟩
          · omega
          cases ev
          rcases HS12.out.has with ⟨h0', _⟩ | ⟨_, yb, yo, yc, ev, hyc, hyl, hry⟩
          · omega
          cases ev
          obtain ⟨z, hz⟩ : ∃ z, H[i]? = some z := ⟨_, List.getElem?_eq_getElem (by omega)⟩
          have hX3 : Below w10.heap.size w10 wr := HX12.out.trans (hB3.mono HX12.out.size)
          obtain ⟨u0, u1⟩ := hit_cells (w := wr) (fun k u hu => (hX3.cell (p := ⟨xb, xo + k, none⟩) hxl).trans (hrx k u hu)) hz
          obtain ⟨u2, u3⟩ := hit_cells (w := wr) (fun k u hu => (hB3.cell (p := ⟨yb, yo + k, none⟩) hyl).trans (hry k u hu)) hz
          have HB3 : Hid _ := hB3
          clear hrx hry hX3 hB3
          go_wp2_with fail
          go_quiet (fail)
          go_wp2_with fail
          go_roundw
          case rel => exact ⟨i + 1, by omega, by go_num, ⟨HB3.out.os, HB3.out.tape, HB3.out.output, HB3.out.size, HB3.out.block⟩⟩
          case measure => simp [intOf]; omega
        · obtain rfl : i = ka := by omega
          go_wp2_with fail
          go_ret
          exact ⟨rfl, (HTW.out w12 HB12.out).2.2.2.trans (hB3.mono (HTW.out w12 HB12.out).2.2.2.size)⟩
    · obtain ⟨p, rfl⟩ : ∃ p, q = p + 1 := ⟨q - 1, by omega⟩
      have hpi : (((p + 1 : Nat) : Int) - 1) = (p : Int) := by omega
      rw [hpi]
      clear hpi
      rcases HT.out.has with ⟨h0', _⟩ | ⟨_, lb, lo, lc, ev, hlc, hlt, hr⟩
      · omega
      cases ev
      have hp : p < L.length := by omega
      obtain ⟨t, HX⟩ : ∃ t, Hid (t = L[p]) := ⟨L[p], rfl⟩
      have HRQ : Hid (∀ W : World, Below w1.heap.size w1 W → RawQ W lb (lo + p * 5) t) := fun W hW => by rw [HX.out]; exact rawQ_of hr hlt (HLW.out W hW).2.2 p hp
      obtain ⟨k1, k2, k3, k4, k5⟩ := H64.out t (by rw [HX.out]; exact List.getElem_mem hp)
      obtain ⟨jd, HJ⟩ : ∃ j : Nat, Hid (Doc.idK t = j) := ⟨_, rfl⟩
      have hjl : jd < 4096 := by rw [← HJ.out]; have := Doc.pickN_lt t.i (n := 40) (by decide); unfold Doc.idK; omega
      have HID : Hid (∀ W : World, Calls Tryz.prog 21 #[.agg #[.int .i64 t.i, .int .i64 t.x, .int .i64 t.y, .int .i64 t.n, .int .i64 t.s]] W fun e w' => e = .returned (.int .i64 (jd : Int)) ∧ Below W.heap.size W w') := fun W => by rw [← HJ.out]; exact kid_any t.i t.x t.y t.n t.s k1.1 k1.2
      have HSP : Hid (∀ W : World, Calls Tryz.prog 29 #[.agg #[.int .i64 t.i, .int .i64 t.x, .int .i64 t.y, .int .i64 t.n, .int .i64 t.s]] W fun e w' => ∃ v, e = .returned v ∧ Sl w' v 2 (intC (Doc.spotK t.x t.y)) ∧ Below W.heap.size W w') := fun W => kspot_any t.i t.x t.y t.n t.s k2 k3
      have HVA : Hid (∀ W : World, Calls Tryz.prog 30 #[.agg #[.int .i64 t.i, .int .i64 t.x, .int .i64 t.y, .int .i64 t.n, .int .i64 t.s]] W fun e w' => ∃ v, e = .returned v ∧ Sl w' v 2 (valsC [Doc.numV t.n, Doc.strV t.s]) ∧ Below W.heap.size W w') := fun W => kvalues_any t.i t.x t.y t.n t.s k4 k5
      have HDC : Hid (L.drop p = t :: L.drop (p + 1)) := by show _ = _; rw [List.drop_eq_getElem_cons hp, HX.out]
      have HDM : Hid (jd ∈ D ↔ ∃ u ∈ L.drop (p + 1), Doc.idK u = Doc.idK t) := by rw [HJ.out]; exact HD.out jd
      obtain ⟨r0, r1, r2, r3, r4⟩ := HRQ.out wr hB
      have HB : Hid _ := hB
      clear hr hB k1 k2 k3 k4 k5
      go_wp2_with fail
      refine Calls.mono (HID.out _) ?_
      rintro e w3 ⟨rfl, hb3⟩
      have HB3 : Hid (Below w1.heap.size w1 w3) := HB.out.trans (hb3.mono HB.out.size)
      have HH3 : Hid _ := HH.out.below hb3
      obtain ⟨bi, hbi⟩ : ∃ b : Bool, (jd ∈ D ↔ b = true) := ⟨decide (jd ∈ D), by simp⟩
      have HBI : Hid _ := hbi
      have HIN : Hid (Calls Tryz.prog 26 #[.slice vb D.length vc, .int .i64 (jd : Int)] w3 fun e w' => e = .returned (.bool bi) ∧ Below w3.heap.size w3 w') := by
        have h1 := kin_any (w := w3) (D.map Int.ofNat) (by rw [List.length_map]; omega) (.slice vb D.length vc) (by rw [List.length_map]; exact Half.sl HH3.out) (jd : Int)
        rw [any_in hbi] at h1
        exact h1
      clear hb3 hbi r0 r1 r2 r3 r4
      go_wp2_with fail
      refine Calls.mono HIN.out ?_
      rintro e w4 ⟨rfl, hb4⟩
      have HB4 : Hid (Below w1.heap.size w1 w4) := HB3.out.trans (hb4.mono HB3.out.size)
      have HH4 : Hid (Half w1.heap.size w4 sc (.slice vb D.length vc) (storeK (L.drop (p + 1))) D) := Half.below HH3.out hb4
      have hsz4 := HB4.out.size
      clear hb4
      cases bi
      · obtain ⟨F, hF1, hF2, hF3, hF4⟩ := HH4.out
        have HROW : Hid _ := hF4
        go_wp2_with (at_builtin; refine wpList_append_own_at _ rfl (.tmp 52) (.tmp 54) 33 rfl w1.heap.size 3 i0 _ 1 8 Tryz.underlying33 hi hz0 hz1 hz2 rfl (by decide) _ _ _ rfl (World.ownsRow.alloc hF4 _) ⟨w4.heap.size, 0, none⟩ 1 1 [.int .i64 (jd : Int)] rfl rfl ?c1 ?c2 ?c3 ?c4 ?c5 ?_)
        case c1 => exact cells_new_at _ [.int .i64 (jd : Int)] _ _ (by simp)
        case c2 => intro u hu; simp only [List.mem_cons, List.not_mem_nil, or_false] at hu; rw [hu]; rfl
        case c3 => unfold maxLen; omega
        case c4 => omega
        case c5 => simp; omega
        intro v5 w5 hown5 hgrow5 _ hwhere
        obtain ⟨g5, cap5, rfl⟩ := own_slice hown5
        have HB5 : Hid (Below w1.heap.size w1 w5) := (HB4.out.alloc HB4.out.size _).grown hgrow5 (by simp; omega) (fun j ej => own_ge HROW.out ej)
        have hg5 : ¬ F g5 := by
          rcases hwhere with e | e
          · exact hF3 g5 e.symm
          · intro hf
            have h1 := (hF1 g5 hf).2
            have h2 : g5 = w4.heap.size + 1 := by simpa [Value.ownBlock] using e
            omega
        have HST5 : Hid (ProgSt w5 F sc Doc.fsK 2 (storeK (L.drop (p + 1)))) := hF2.kept (fun k hk hl => (hgrow5.block k (by simp; omega) (fun e => hF3 k e.symm hk)).trans (Below.heap_alloc _ _ _ hl)) (fun k hk _ => hk)
        have HF5 : Hid (∀ k, F k → w1.heap.size ≤ k ∧ k < w5.heap.size) := fun k hk => ⟨(hF1 k hk).1, by have h1 := hgrow5.size; have h2 := (hF1 k hk).2; simp at h1; omega⟩
        have HO5 : Hid (w5.ownsRow w1.heap.size 3 1 (.slice (some ⟨g5, 0, none⟩) (D.length + 1) cap5) (D ++ [jd]).length (natC (D ++ [jd]))) := by
          show World.ownsRow _ _ _ _ _ _ _
          rw [natC_snoc, List.length_append]
          exact hown5
        have HPUT : Hid (∀ (W : World) (v1 v2 : Value), Below w5.heap.size w5 W → Sl W v1 2 (intC (Doc.spotK t.x t.y)) → Sl W v2 2 (valsC [Doc.numV t.n, Doc.strV t.s]) → Calls Tryz.prog 28 #[.pointer (some ⟨sc, 0, none⟩), .int .i64 (jd : Int), v1, v2] W fun e w' => e = .returned (.int .i64 0) ∧ Half w1.heap.size w' sc (.slice (some ⟨g5, 0, none⟩) (D.length + 1) cap5) (storeK (L.drop p)) (D ++ [jd]) ∧ Below w1.heap.size W w') := by
          intro W v1 v2 hW h1 h2
          obtain ⟨fv, hb, mt, mh, pos, hp5⟩ := HST5.out
          have hp2 := hp5.kept (w' := W) (F' := F) (fun k hk hl => hW.block k hl) (fun k hk _ => hk)
          refine (pput_ok hp2 (jd : Int) v1 v2 (Doc.spotK t.x t.y) [Doc.numV t.n, Doc.strV t.s] h1 h2 (by omega) (by omega) (spotK_good _ _) rfl (fun i h1 h2 => ?_)).mono ?_
          · have h3 : i < 2 := h1
            have : i = 0 ∨ i = 1 := by omega
            rcases this with rfl | rfl
            · exact numV_good _
            · exact strV_good _
          · rintro e w' ⟨rfl, h3, h4⟩
            have hsw := hW.size
            have hs5 := HB5.out.size
            have hsw2 := h4.below.size
            refine ⟨rfl, ⟨fun k => F k ∨ (W.heap.size ≤ k ∧ k < w'.heap.size), fun k hk => ?_, ?_, fun d hd => ?_, ?_⟩, h4.toBelow (by omega) (fun k hk => (HF5.out k hk).1)⟩
            · rcases hk with hk | hk
              · have := HF5.out k hk; omega
              · omega
            · have he : storeK (L.drop p) = putT (storeK (L.drop (p + 1))) (jd : Int) (Doc.spotK t.x t.y, [Doc.numV t.n, Doc.strV t.s]) := by
                rw [HDC.out, store_cons_out (fun h => by have := HBI.out.1 (HDM.out.2 h); cases this), HJ.out]
                rfl
              rw [he]
              exact ProgSt.kept h3 (fun _ _ _ => rfl) (fun k hk hk2 => hk.imp id (fun h => ⟨h, hk2⟩))
            · have hd2 : g5 = d := by simpa [Value.ownBlock] using hd
              subst hd2
              have hl := ownLt HO5.out (k := g5) rfl
              rintro (h5 | h5)
              · exact hg5 h5
              · omega
            · refine rowKept HO5.out (fun k o ek ho => ?_)
              have hk2 : g5 = k := by simpa [Value.ownBlock] using ek
              subst hk2
              have hl := ownLt HO5.out (k := g5) rfl
              rw [h4.only g5 (by omega) hg5, hW.block g5 hl]
              exact ho
        have HQ0 : Hid (Below w5.heap.size w5 w5.drew) := Below.drew (Below.refl _ _)
        have HS0 : Hid _ := HRQ.out _ (Below.drew HB5.out)
        have HS5 : Hid (∀ W : World, Below w5.heap.size w5 W → RawQ W lb (lo + p * 5) t) := fun W hW => HRQ.out W (HB5.out.trans (hW.mono HB5.out.size))
        clear hown5 hgrow5 hwhere hF1 hF2 hF3 hF4
        go_wp2_with fail
        refine wp_region_M 13 (fun w' => RawQ w' lb (lo + p * 5) t) (by kernel_rfl) ?_
        refine anyM_take (i := 0) (v := .pointer (some ⟨sc, 0, none⟩)) rfl (by kernel_rfl) (by kernel_rfl) (by kernel_rfl) (by kernel_rfl) (fun _ _ _ h => h) rfl rfl HS0.out (fun w' hSw => by go_simp) ?_
        simp only [List.setIfInBounds_toArray, List.set_cons_zero, List.set_cons_succ]
        refine anyM_take (i := 1) (v := .int .i64 (jd : Int)) rfl (by kernel_rfl) (by kernel_rfl) (by kernel_rfl) (by kernel_rfl) (fun _ _ _ h => h) rfl rfl HS0.out (fun w' hSw => by go_simp) ?_
        simp only [List.setIfInBounds_toArray, List.set_cons_zero, List.set_cons_succ]
        refine anyM_take (i := 2) (v := .slice (some ⟨lb, lo, none⟩) L.length tc) rfl (by kernel_rfl) (by kernel_rfl) (by kernel_rfl) (by kernel_rfl) (fun _ _ _ h => h) rfl rfl HS0.out (fun w' hSw => by go_simp) ?_
        simp only [List.setIfInBounds_toArray, List.set_cons_zero, List.set_cons_succ]
        refine anyM_take (i := 3) (v := .int .i64 (p : Int)) rfl (by kernel_rfl) (by kernel_rfl) (by kernel_rfl) (by kernel_rfl) (fun _ _ _ h => h) rfl rfl HS0.out (fun w' hSw => by go_simp) ?_
        simp only [List.setIfInBounds_toArray, List.set_cons_zero, List.set_cons_succ]
        refine anyM_take (i := 4) (v := .pointer (some ⟨lb, lo + p * 5, none⟩)) rfl (by kernel_rfl) (by kernel_rfl) (by kernel_rfl) (by kernel_rfl) (fun _ _ _ h => h) rfl rfl HS0.out (fun w' hSw => by go_simp) ?_
        simp only [List.setIfInBounds_toArray, List.set_cons_zero, List.set_cons_succ]
        refine anyM_take (i := 5) (v := .agg #[.int .i64 t.i, .int .i64 t.x, .int .i64 t.y, .int .i64 t.n, .int .i64 t.s]) rfl (by kernel_rfl) (by kernel_rfl) (by kernel_rfl) (by kernel_rfl) (fun _ _ _ h => h) rfl rfl HS0.out (fun w' hSw => by obtain ⟨c0, c1, c2, c3, c4⟩ := hSw; go_simp) ?_
        simp only [List.setIfInBounds_toArray, List.set_cons_zero, List.set_cons_succ]
        refine anyM_take (i := 7) (v := .slice (some ⟨lb, lo, none⟩) L.length tc) rfl (by kernel_rfl) (by kernel_rfl) (by kernel_rfl) (by kernel_rfl) (fun _ _ _ h => h) rfl rfl HS0.out (fun w' hSw => by go_simp) ?_
        simp only [List.setIfInBounds_toArray, List.set_cons_zero, List.set_cons_succ]
        refine anyM_take (i := 8) (v := .int .i64 (p : Int)) rfl (by kernel_rfl) (by kernel_rfl) (by kernel_rfl) (by kernel_rfl) (fun _ _ _ h => h) rfl rfl HS0.out (fun w' hSw => by go_simp) ?_
        simp only [List.setIfInBounds_toArray, List.set_cons_zero, List.set_cons_succ]
        refine anyM_take (i := 9) (v := .pointer (some ⟨lb, lo + p * 5, none⟩)) rfl (by kernel_rfl) (by kernel_rfl) (by kernel_rfl) (by kernel_rfl) (fun _ _ _ h => h) rfl rfl HS0.out (fun w' hSw => by go_simp) ?_
        simp only [List.setIfInBounds_toArray, List.set_cons_zero, List.set_cons_succ]
        refine anyM_take (i := 10) (v := .agg #[.int .i64 t.i, .int .i64 t.x, .int .i64 t.y, .int .i64 t.n, .int .i64 t.s]) rfl (by kernel_rfl) (by kernel_rfl) (by kernel_rfl) (by kernel_rfl) (fun _ _ _ h => h) rfl rfl HS0.out (fun w' hSw => by obtain ⟨c0, c1, c2, c3, c4⟩ := hSw; go_simp) ?_
        simp only [List.setIfInBounds_toArray, List.set_cons_zero, List.set_cons_succ]
        refine anyM_one (i := 6) (by kernel_rfl) rfl rfl (fun K hK => ?_)
        go_simp
        refine (HSP.out _).mono ?_
        rintro r w6 ⟨v6, rfl, hs6, hb6⟩
        have hq6 : Below w5.heap.size w5 w6 := Below.callB HQ0.out (Nat.le_refl _) hb6
        obtain ⟨va6, vc6, rfl⟩ := hs6.slice
        refine hK.out _ _ (fun _ => HS5.out _ hq6) ?_
        clear hK K
        try simp only [Act.put, List.setIfInBounds_toArray, List.set_cons_zero, List.set_cons_succ]
        refine anyM_one (i := 11) (by kernel_rfl) rfl rfl (fun K hK => ?_)
        go_simp
        refine (HVA.out _).mono ?_
        rintro r w7 ⟨v7, rfl, hs7, hb7⟩
        have hq7 : Below w5.heap.size w5 w7 := Below.callB hq6 (Nat.le_refl _) hb7
        obtain ⟨va7, vc7, rfl⟩ := hs7.slice
        refine hK.out _ _ (fun _ => HS5.out _ hq7) ?_
        clear hK K
        try simp only [Act.put, List.setIfInBounds_toArray, List.set_cons_zero, List.set_cons_succ]
        refine anyM_one (i := 12) (by kernel_rfl) rfl rfl (fun K hK => ?_)
        go_simp
        refine (HPUT.out w7 _ _ hq7 (hs6.below hb7) hs7).mono ?_
        rintro r w8 ⟨rfl, hh8, hb8⟩
        have HB8 : Hid (Below w1.heap.size w1 w8) := (HB5.out.trans (hq7.mono HB5.out.size)).trans hb8
        have HH8 : Hid _ := hh8
        refine hK.out _ _ (fun _ => HRQ.out _ HB8.out) ?_
        clear hK K
        try simp only [Act.put, List.setIfInBounds_toArray, List.set_cons_zero, List.set_cons_succ]
        refine anyM_one (i := 13) (by kernel_rfl) rfl rfl (fun K hK => ?_)
        go_simp
        refine hK.out _ _ (fun _ => HRQ.out _ HB8.out) ?_
        clear hK K
        refine anyM_done (by kernel_rfl) ?_
        clear hh8 hb8 hs6 hs7 hb6 hb7 hq6 hq7
        go_wp2_with fail
        go_roundw
        case rel =>
          refine ⟨p, D ++ [jd], by omega, by go_num, HB8.out, ?_, fun j => ?_, HH8⟩
          · refine List.nodup_append.2 ⟨hnd, by simp, fun x hx y hy e => ?_⟩
            have hy2 : y = jd := by simpa using hy
            subst hy2
            subst e
            have := HBI.out.1 hx
            cases this
          · rw [HDC.out, List.mem_append, HD.out j, List.mem_singleton]
            constructor
            · rintro (⟨u, hu, e⟩ | rfl)
              · exact ⟨u, List.mem_cons_of_mem _ hu, e⟩
              · exact ⟨t, List.mem_cons_self, HJ.out⟩
            · rintro ⟨u, hu, e⟩
              rcases List.mem_cons.1 hu with rfl | hu
              · exact .inr (e.symm.trans HJ.out)
              · exact .inl ⟨u, hu, e⟩
        case measure => simp [intOf]
      · go_wp2_with fail
        go_roundw
        case rel =>
          have hin := HDM.out.1 (HBI.out.2 (by trivial))
          refine ⟨p, D, by omega, by go_num, HB4.out, hnd, fun j => ?_, ?_⟩
          · rw [HD.out j, HDC.out]
            constructor
            · rintro ⟨u, hu, e⟩
              exact ⟨u, List.mem_cons_of_mem _ hu, e⟩
            · rintro ⟨u, hu, e⟩
              rcases List.mem_cons.1 hu with rfl | hu
              · obtain ⟨u2, hu2, e2⟩ := hin
                exact ⟨u2, hu2, e2.trans e⟩
              · exact ⟨u, hu, e⟩
          · rw [HDC.out, store_cons_in hin]
            exact HH4
        case measure => simp [intOf]
end
end Go.Proofs.YtbnelaoeblhndaaGreatDoor
