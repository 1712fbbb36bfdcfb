/- The walk of the program's chain. -/
import Derived.Test.YtbnelaoeblhndaaGreatDoorSynChain
namespace Go.Proofs.YtbnelaoeblhndaaGreatDoor
open Go.RowKit
set_option maxRecDepth 100000

theorem Doc.ended_kind : ∀ {L : List Doc.Tok}, Doc.Ended L → ∀ {i : Nat}, i + 1 < L.length → ((Doc.tk L i).kind = 119 ∨ (Doc.tk L i).kind = 110 ∨ (Doc.tk L i).kind = 115 ∨ (Doc.tk L i).kind = 103) := by
  intro L
  induction L with
  | nil => intro h; exact absurd h (by simp [Doc.Ended])
  | cons t L ih =>
    intro h i hi
    cases L with
    | nil => simp at hi
    | cons u r =>
      cases i with
      | zero => exact h.1
      | succ i => exact ih h.2 (i := i) (by simpa using hi)

section
variable {B : Nat} {w : World} {rb : Nat} {s : ByteArray} {L : List Doc.Tok} {p i j op fault : Nat}

theorem At.next_any (h : At s L p i) (hE : Doc.Ended L) (hi : i + 1 < L.length) : ∃ q, At s L q (i + 1) ∧ (Doc.tk L i).at_ < (Doc.tk L (i + 1)).at_ ∧ (Doc.tk L (i + 1)).at_ ≤ s.size := by
  have hk := Doc.ended_kind hE hi
  have h2 := (h.next hE hk).1
  refine ⟨_, h2, ?_⟩
  rw [← h.at_, ← h2.at_]
  exact h.at_lt hk h2 (Nat.le_refl _)

theorem At.mono_any (hE : Doc.Ended L) : ∀ n {i p : Nat}, At s L p i → i + n < L.length → (Doc.tk L i).at_ ≤ (Doc.tk L (i + n)).at_ := by
  intro n
  induction n with
  | zero => intro i p _ _; exact Nat.le_refl _
  | succ n ih =>
    intro i p h hi
    obtain ⟨q, h1, h2, _⟩ := h.next_any hE (by omega)
    have := ih h1 (by omega)
    rw [show i + (n + 1) = i + 1 + n by omega]; omega

theorem PR.mono (h : PR B w rb s L i op fault) (hE : Doc.Ended L) (hij : i ≤ j) (hj : j < L.length) : (Doc.tk L i).at_ ≤ (Doc.tk L j).at_ := by
  obtain ⟨q, h1, _⟩ := h.has
  have := h1.mono_any hE (j - i) (by omega)
  rwa [show i + (j - i) = j by omega] at this

def zBox : Obj := .cells #[.int .i64 0, .slice none 0 0, .string ⟨#[]⟩, .int .i64 0, .string ⟨#[]⟩, .int .i64 0, .slice none 0 0] 69 (0, 0)

/-- The chain's loop. -/
def ChainRel (B rb : Nat) (s : ByteArray) (L : List Doc.Tok) (op fault : Nat) (w : World) (tag : Nat) (mk : Doc.Ast → Doc.Ast → Doc.Ast) (wd : List UInt8) (link : Nat → Doc.Res Doc.Ast) (i : Nat) (pv : Value) (wx : World) : Prop :=
  ∃ (n m j : Nat) (l : List Value) (acc : Option Doc.Ast), wx.heap[w.heap.size]? = some zBox ∧ wx.ownsRow (w.heap.size + 1) 69 7 pv m l ∧ PR B wx rb s L j op fault ∧ PM B rb w wx ∧ L.length - j < n ∧ m ≤ j ∧ AccRep wx (fun k => w.heap.size < k ∧ some k ≠ pv.ownBlock) tag mk m l acc ∧ Hid (Doc.contT L link wd mk none (L.length + 1) i = Doc.contT L link wd mk acc n j)

set_option maxHeartbeats 4000000 in
theorem chain_any (h : PR B w rb s L i op fault) (hE : Doc.Ended L) (hL : L.length ≤ 300) (hs : s.size ≤ 200) (tag : Nat) (kind : Int) (mk : Doc.Ast → Doc.Ast → Doc.Ast) (hJ : Joins tag kind mk) (wd : List UInt8) (hwd : Bare wd) (f : FuncId) (hf : ∀ (xs : Array Value) (w : World), Sem.run Tryz.prog (callFunc f xs) w = .ok (.enter f xs) w) (link : Nat → Doc.Res Doc.Ast)
    (hlk : ∀ i a j, i < L.length → link i = .ok a j → i < j)
    (HR : ∀ w' i', PR B w' rb s L i' op fault → Calls Tryz.prog f #[.pointer (some ⟨rb, 0, none⟩)] w' (TPost B rb s L op fault w' (link i'))) :
    Calls Tryz.prog 125 #[.pointer (some ⟨rb, 0, none⟩), .int .i64 kind, .string ⟨wd.toArray⟩, .func (.func f) #[.pointer (some ⟨rb, 0, none⟩)] #[]] w (TPost B rb s L op fault w (Doc.chain L link wd mk i)) := by
  rw [Doc.chain_contT]
  obtain ⟨i0, hti, htz0, htz1, htz2⟩ := info_parts Tryz.infoTree
  have HR' : Hid (∀ w' i', PR B w' rb s L i' op fault → Calls Tryz.prog f #[.pointer (some ⟨rb, 0, none⟩)] w' (TPost B rb s L op fault w' (link i'))) := HR
  have HLK : Hid (∀ i a j, i < L.length → link i = .ok a j → i < j) := hlk
  have HJ : Hid (Joins tag kind mk) := hJ
  have hr0 := h.rlt
  have hb0 := h.Ble
  have hne : w.heap.size ≠ rb := by omega
  clear HR hlk hJ
  go_enter Tryz.func125, Tryz.ntmps125
  go_wp2_with fail
  go_loopw [10] (fun pv wx => ChainRel B rb s L op fault w tag mk wd link i pv wx) (fun _ wx => readMeas (s.size + 1) rb wx)
  case atStart => exact ⟨L.length + 1, 0, i, [], none, heap_alloc_new w _, World.ownsRow_nil _ _ _ _, h.alloc _, (PM.refl B rb w).alloc h.Ble _, by omega, by omega, ⟨rfl, rfl⟩, by show _ = _; rfl⟩
  case round =>
    obtain ⟨n, m, j, l, acc, hbox, hown, hx, kx, hn, hm, hacc, HL⟩ := hrel
    obtain ⟨n, rfl⟩ : ∃ q, n = q + 1 := ⟨n - 1, by omega⟩
    have hj := hx.ltL
    have HC := HR'.out _ j hx
    have hms := hx.meas (s.size + 1)
    cases hl : link j with
    | err e q =>
      rw [hl] at HC
      have HN : Hid (Doc.contT L link wd mk none (L.length + 1) i = .err e q) := by show _ = _; rw [HL.out]; unfold Doc.contT; rw [hl]
      have HC' : Hid _ := HC
      clear HC hl hown hacc
      go_wp2_with fail
      refine Calls.mono HC'.out ?_
      rintro r w2 ⟨j2, rfl, hq, h2, k2⟩
      have HQ : Hid (q = (Doc.tk L j2).at_) := hq
      have b2 := k2.blk hbox hne
      obtain ⟨a0, a1, a2, a3, a4, a5, a6⟩ := fv_cells (by exact b2)
      obtain ⟨x0, x1, x2, x3, x4, x5, x6⟩ := fv_free (by exact b2)
      have hl2 := lt_block b2
      clear hq hms
      go_wp2_with fail
      refine bodyPost_ret (v := .tuple #[.agg #[.int .i64 0, .slice none 0 0, .string ⟨#[]⟩, .int .i64 0, .string ⟨#[]⟩, .int .i64 0, .slice none 0 0], .bool false]) (by simp [results, Tryz.results125, go_sem, a0, a1, a2, a3, a4, a5, a6, hl2]) rfl ?_
      rw [HN.out]
      exact ⟨j2, rfl, HQ.out, (h2.set7 _ _ _ _ _ _ _ hne hb0).alloc _, ((kx.trans k2).set7 _ _ _ _ _ _ _ (Nat.le_refl _) hb0).alloc (h2.set7 _ _ _ _ _ _ _ hne hb0).Ble _⟩
    | ok b j2 =>
      rw [hl] at HC
      obtain ⟨cb, hcb⟩ : ∃ cb, cb = Doc.comb mk acc b := ⟨_, rfl⟩
      have HN : Hid (Doc.contT L link wd mk none (L.length + 1) i = Doc.cLoop L link wd mk (n + 1) cb j2) := by show _ = _; rw [HL.out, hcb]; unfold Doc.contT; rw [hl]
      have hjj := HLK.out j b j2 hj hl
      have HC' : Hid _ := HC
      have HM : Hid ((Doc.tk L j).at_ ≤ (Doc.tk L j2).at_ ∨ L.length ≤ j2) := by
        rcases Nat.lt_or_ge j2 L.length with h | h
        · exact .inl (hx.mono hE (by omega) h)
        · exact .inr h
      have zx := kx.below.size
      have HMS : Hid (readMeas (s.size + 1) rb wr = s.size + 1 - (Doc.tk L j).at_) := hms
      have HAC : Hid _ := hacc
      have HOW : Hid _ := hown
      have hpl : m ≤ 300 := by omega
      clear HC hl hacc
      go_wp2_with fail
      refine Calls.mono HC'.out ?_
      rintro r w2 ⟨cs, rfl, hrep, h2, k2⟩
      have hj2 := h2.ltL
      obtain ⟨b1, n1, m1, s1, s2, na1, na2, b2, n2, m2, hcs⟩ := (hrep.five rfl).has
      have hcs' : cs = #[.int .i64 (kindOf b), .slice b1 n1 m1, .string s1, .int .i64 na1, .string s2, .int .i64 na2, .slice b2 n2 m2] := Array.ext' (by rw [hcs])
      subst hcs'
      have hA2 := AccRep.snoc HJ.out (AccRep.kept HAC.out (w' := w2) (F' := fun k => w.heap.size < k ∧ some k ≠ u10.ownBlock) (fun k o hF ho => k2.blk ho (by omega)) (fun k hF _ => hF))
        (hrep.kept (w' := w2) (F' := fun k => w.heap.size < k ∧ some k ≠ u10.ownBlock) (fun _ _ _ ho => ho) (fun k hF _ => ⟨by have := lt_block hbox; omega, fun e => by have := (World.ownsRow.lt HOW.out k e.symm).2; omega⟩))
      rw [← hcb] at hA2
      have HA2 : Hid _ := hA2
      have bx2 := k2.blk hbox hne
      have kx2 := kx.trans k2
      have HB2 : Hid (w2.heap[w.heap.size]? = some zBox) := bx2
      have hl2 := lt_block bx2
      have hr2 := h2.rlt
      have hownA := ((own_pm HOW.out (by omega : rb < w.heap.size + 1) k2).alloc (.cells #[.int .i64 (kindOf b), .slice b1 n1 m1, .string s1, .int .i64 na1, .string s2, .int .i64 na2, .slice b2 n2 m2] 69)).alloc (.cells #[.int .i64 (kindOf b), .slice b1 n1 m1, .string s1, .int .i64 na1, .string s2, .int .i64 na2, .slice b2 n2 m2] 69)
      clear hrep hA2 hcs hbox hown bx2 hms k2 kx
      go_wp2_with (at_builtin; refine wpList_append_own_at _ rfl (.tmp 21) (.tmp 23) 66 rfl (w.heap.size + 1) 69 i0 _ 7 104 Tryz.underlying66 hti htz0 htz1 htz2 rfl (by decide) _ _ _ rfl hownA ⟨w2.heap.size + 1, 0, none⟩ 1 1 [.int .i64 (kindOf b), .slice b1 n1 m1, .string s1, .int .i64 na1, .string s2, .int .i64 na2, .slice b2 n2 m2] rfl rfl ?c1 ?c2 ?c3 ?c4 ?c5 ?_)
      case c1 => exact cells_new_at _ [.int .i64 (kindOf b), .slice b1 n1 m1, .string s1, .int .i64 na1, .string s2, .int .i64 na2, .slice b2 n2 m2] _ _ (by simp)
      case c2 => intro u hu; simp only [List.mem_cons, List.not_mem_nil, or_false] at hu; rcases hu with rfl | rfl | rfl | rfl | rfl | rfl | rfl <;> rfl
      case c3 => unfold maxLen; omega
      case c4 => omega
      case c5 => simp; omega
      intro v3 w3 hown3 hgrow3 _ hat3
      obtain ⟨g3, cap3, rfl⟩ := own_slice hown3
      have hrow3 : ∀ k, u10.ownBlock = some k → w.heap.size + 1 ≤ k := fun k hk => (hownA.lt k hk).1
      have hA3 : AccRep w3 (fun k => w.heap.size < k ∧ some k ≠ some g3) tag mk (m + 1) (l ++ [.int .i64 (kindOf b), .slice b1 n1 m1, .string s1, .int .i64 na1, .string s2, .int .i64 na2, .slice b2 n2 m2]) (some cb) := by
        refine AccRep.kept HA2.out (fun k o hF ho => ?_) (fun k hF hk => ⟨hF.1, fun e => ?_⟩)
        · have hlk := lt_block ho
          rw [hgrow3.block k (by simp; omega) hF.2, heap_alloc_old _ _ (by simp; omega), heap_alloc_old _ _ hlk]; exact ho
        · rcases hat3 with e2 | e2
          · exact hF.2 (e.trans e2)
          · have : some k = some (w2.heap.size + 1 + 1) := e.trans e2
            simp at this; omega
      have h3 := ((h2.alloc _).alloc _).grown hgrow3 (fun k hk => by have := hrow3 k hk; omega)
      have k3 := ((kx2.alloc h2.Ble _).alloc (h2.alloc _).Ble _).grown ((h2.alloc _).alloc _).Ble hgrow3 (fun k hk => by have := hrow3 k hk; omega) (fun k hk => by have := hrow3 k hk; omega)
      have bx3 : w3.heap[w.heap.size]? = some zBox := by
        rw [hgrow3.block _ (by simp; omega) (fun e => by have := hrow3 _ e.symm; omega), heap_alloc_old _ _ (by simp; omega), heap_alloc_old _ _ hl2]; exact HB2.out
      have HA3 : Hid _ := hA3
      have HO3 : Hid _ := hown3
      have hl0 := HOW.out.1
      have hcell := hown3.cells (g := g3) rfl
      have hg3 := (hown3.lt g3 rfl).2
      clear hA3 hown3 hgrow3 hat3 hownA HAC HOW HA2 HB2 hrow3
      by_cases k9 : Doc.is (Doc.tk L j2) wd = true
      · have HN2 : Hid (Doc.contT L link wd mk none (L.length + 1) i = Doc.contT L link wd mk (some cb) n (j2 + 1)) := by show _ = _; rw [HN.out, Doc.cLoop_contT, if_pos k9]
        have hst := h3.step hE (Doc.is_kind k9)
        have HC2 : Hid _ := takr_yes h3 hE hs wd hwd k9
        clear k9 hcell
        go_wp2_with fail
        refine Calls.mono HC2.out ?_
        rintro r w4 ⟨rfl, h4, k4⟩
        go_wp2_with fail
        have hj4 := h4.ltL
        go_roundw
        case rel => exact ⟨n, m + 1, j2 + 1, _, some cb, k4.blk bx3 hne, own_pm HO3.out (by omega) k4, h4, k3.trans k4, by omega, by omega, AccRep.kept HA3.out (fun k o hF ho => k4.blk ho (by omega)) (fun k hF _ => hF), HN2⟩
        case measure =>
          rw [HMS.out, h4.meas (s.size + 1)]
          have := HM.out
          omega
      · have HN2 : Hid (Doc.contT L link wd mk none (L.length + 1) i = .ok cb j2) := by show _ = _; rw [HN.out, Doc.cLoop_contT, if_neg k9]
        have HC2 : Hid _ := takr_not h3 wd hwd (by simpa using k9)
        clear k9
        have hl3 := lt_block bx3
        by_cases hm0 : m = 0
        · subst hm0
          have hln : l = [] := List.eq_nil_of_length_eq_zero (by omega)
          subst hln
          have d0 := hcell 0 _ rfl
          have d1 := hcell 1 _ rfl
          have d2 := hcell 2 _ rfl
          have d3 := hcell 3 _ rfl
          have d4 := hcell 4 _ rfl
          have d5 := hcell 5 _ rfl
          have d6 := hcell 6 _ rfl
          have HJ1 : Hid _ := join_one (w := w3) kind g3 cap3 hg3 _ _ _ _ _ _ _ _ _ _ _ d0 d1 d2 d3 d4 d5 d6
          clear hcell d0 d1 d2 d3 d4 d5 d6
          go_wp2_with fail
          refine Calls.mono HC2.out ?_
          rintro r w4 ⟨rfl, rfl⟩
          go_wp2_with fail
          refine Calls.mono HJ1.out ?_
          rintro r w5 ⟨rfl, hb5⟩
          have bx5 := (hb5.block _ hl3).trans bx3
          obtain ⟨a0, a1, a2, a3, a4, a5, a6⟩ := fv_cells (by exact bx5)
          obtain ⟨x0, x1, x2, x3, x4, x5, x6⟩ := fv_free (by exact bx5)
          have hl5 := lt_block bx5
          go_wp2_with fail
          refine bodyPost_ret (v := .tuple #[.agg #[.int .i64 (kindOf b), .slice b1 n1 m1, .string s1, .int .i64 na1, .string s2, .int .i64 na2, .slice b2 n2 m2], .bool true]) (by simp [results, Tryz.results125, go_sem, a0, a1, a2, a3, a4, a5, a6]) rfl ?_
          rw [HN2.out]
          refine ⟨_, rfl, ?_, (h3.below hb5).set7 _ _ _ _ _ _ _ hne hb0, (k3.trans (PM.ofBelow hb5 h3.Ble)).set7 _ _ _ _ _ _ _ (Nat.le_refl _) hb0⟩
          rcases HA3.out with ⟨_, hq⟩ | ⟨hq, _⟩
          · refine RepT.kept hq (fun k o hF ho => ?_) (fun k hF _ => by omega)
            rw [set7_block _ _ _ _ _ _ _ (by omega), hb5.block k (lt_block ho)]; exact ho
          · omega
        · have hmn : (((m + 1 : Nat) : Int) == 1) = false := by rw [beq_eq_false_iff_ne]; omega
          have HJ1 : Hid _ := join_many (w := w3) kind g3 (m + 1) cap3 hmn
          clear hcell hmn
          go_wp2_with fail
          refine Calls.mono HC2.out ?_
          rintro r w4 ⟨rfl, rfl⟩
          go_wp2_with fail
          refine Calls.mono HJ1.out ?_
          rintro r w5 ⟨rfl, hb5⟩
          have bx5 := (hb5.block _ hl3).trans bx3
          obtain ⟨a0, a1, a2, a3, a4, a5, a6⟩ := fv_cells (by exact bx5)
          obtain ⟨x0, x1, x2, x3, x4, x5, x6⟩ := fv_free (by exact bx5)
          have hl5 := lt_block bx5
          go_wp2_with fail
          refine bodyPost_ret (v := .tuple #[.agg #[.int .i64 kind, .slice (some ⟨g3, 0, none⟩) (m + 1) cap3, .string ⟨#[]⟩, .int .i64 0, .string ⟨#[]⟩, .int .i64 0, .slice none 0 0], .bool true]) (by simp [results, Tryz.results125, go_sem, a0, a1, a2, a3, a4, a5, a6]) rfl ?_
          rw [HN2.out]
          refine ⟨_, rfl, ?_, (h3.below hb5).set7 _ _ _ _ _ _ _ hne hb0, (k3.trans (PM.ofBelow hb5 h3.Ble)).set7 _ _ _ _ _ _ _ (Nat.le_refl _) hb0⟩
          have hgb := (World.ownsRow.lt HO3.out g3 rfl).1
          have hkeep : ∀ k o, w.heap.size < k → w4.heap[k]? = some o → (((((((w5.setCell ⟨w.heap.size, 0, none⟩ (.int .i64 kind)).setCell ⟨w.heap.size, 1, none⟩ (.slice (some ⟨g3, 0, none⟩) (m + 1) cap3)).setCell ⟨w.heap.size, 2, none⟩ (.string ⟨#[]⟩)).setCell ⟨w.heap.size, 3, none⟩ (.int .i64 0)).setCell ⟨w.heap.size, 4, none⟩ (.string ⟨#[]⟩)).setCell ⟨w.heap.size, 5, none⟩ (.int .i64 0)).setCell ⟨w.heap.size, 6, none⟩ (.slice none 0 0)).heap[k]? = some o := by
            intro k o hk ho
            rw [set7_block _ _ _ _ _ _ _ (by omega), hb5.block k (lt_block ho)]; exact ho
          rcases HA3.out with ⟨hq, _⟩ | ⟨_, l', cs', a', b', e1, rfl, hq1, hq2⟩
          · omega
          · refine HJ.out.whole (n := m + 1) (hq1.kept (fun k o hF ho => hkeep k o hF.1 ho) (fun k hF _ => by omega)) (hq2.kept (fun k o hF ho => hkeep k o hF.1 ho) (fun k hF _ => by omega)) ?_ (fun k hk => ?_)
            · rw [← e1]
              exact own_mono (own_kept HO3.out (fun k o hk ho => hkeep k o (by have := (World.ownsRow.lt HO3.out k hk).1; omega) ho)) (Nat.zero_le _)
            · have : g3 = k := by simpa [Value.ownBlock] using hk
              omega
end
end Go.Proofs.YtbnelaoeblhndaaGreatDoor
