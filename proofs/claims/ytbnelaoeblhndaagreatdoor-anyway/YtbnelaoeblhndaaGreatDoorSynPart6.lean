/- The walk of the program's bracket. The walk of the program's part; by induction on the depth. The walk of the program's whole. -/
import Derived.Test.YtbnelaoeblhndaaGreatDoorSynPart3
namespace Go.Proofs.YtbnelaoeblhndaaGreatDoor
open Go.RowKit
set_option maxRecDepth 100000

section
variable {B : Nat} {w : World} {rb : Nat} {s : ByteArray} {L : List Doc.Tok} {i op fault : Nat}

set_option maxHeartbeats 2000000 in
theorem brk_any {res : Doc.Res Doc.Ast} (h : PR B w rb s L i op fault) (hE : Doc.Ended L) (hs : s.size ≤ 200)
    (HR : ∀ w', PR B w' rb s L i op fault → Calls Tryz.prog 76 #[.pointer (some ⟨rb, 0, none⟩)] w' (TPost B rb s L op fault w' res)) :
    Calls Tryz.prog 184 #[.pointer (some ⟨rb, 0, none⟩)] w (TPost B rb s L op fault w (Doc.brkR L res)) := by
  have HR' : Hid (∀ w', PR B w' rb s L i op fault → Calls Tryz.prog 76 #[.pointer (some ⟨rb, 0, none⟩)] w' (TPost B rb s L op fault w' res)) := HR
  have hlt := h.rlt
  have hb0 := h.Ble
  have hne : w.heap.size ≠ rb := by omega
  clear HR
  cases res with
  | err e q =>
    go_enter Tryz.func184, Tryz.ntmps184
    go_wp2_with fail
    refine Calls.mono (HR'.out _ (h.alloc _)) ?_
    rintro r w1 ⟨j, rfl, hq, h1, k1⟩
    have HQ : Hid (q = (Doc.tk L j).at_) := hq
    have q1 := k1.blk (heap_alloc_new w _) hne
    have k2 := ((PM.refl B rb w).alloc h.Ble _).trans k1
    obtain ⟨a0, a1, a2, a3, a4, a5, a6⟩ := fv_cells q1
    obtain ⟨x0, x1, x2, x3, x4, x5, x6⟩ := fv_free q1
    have hl := lt_block q1
    clear hq
    go_wp2_with fail
    exact bodyPost_ret (v := .tuple #[.agg #[.int .i64 0, .slice none 0 0, .string ⟨#[]⟩, .int .i64 0, .string ⟨#[]⟩, .int .i64 0, .slice none 0 0], .bool false]) (by simp [results, Tryz.results184, go_sem, a0, a1, a2, a3, a4, a5, a6, hl]) rfl ⟨j, rfl, HQ.out, (h1.set7 _ _ _ _ _ _ _ hne hb0).alloc _, (k2.set7 _ _ _ _ _ _ _ (Nat.le_refl _) hb0).alloc (h1.set7 _ _ _ _ _ _ _ hne hb0).Ble _⟩
  | ok a j =>
    by_cases k5 : Doc.is (Doc.tk L j) [41] = true
    · have HB : Hid (Doc.brkR L (.ok a j) = .ok a (j + 1)) := by show _ = _; unfold Doc.brkR; dsimp only; rw [if_pos k5]
      have HK : Hid (Doc.is (Doc.tk L j) [41] = true) := k5
      clear k5
      go_enter Tryz.func184, Tryz.ntmps184
      go_wp2_with fail
      refine Calls.mono (HR'.out _ (h.alloc _)) ?_
      rintro r w1 ⟨cs, rfl, hrep, h1, k1⟩
      obtain ⟨b1, n1, m1, s1, s2, na1, na2, b2, n2, m2, hcs⟩ := (hrep.five rfl).has
      have hcs' : cs = #[.int .i64 (kindOf a), .slice b1 n1 m1, .string s1, .int .i64 na1, .string s2, .int .i64 na2, .slice b2 n2 m2] := Array.ext' (by rw [hcs])
      subst hcs'
      have HRP : Hid _ := hrep
      have q1 := k1.blk (heap_alloc_new w _) hne
      have k2 := ((PM.refl B rb w).alloc h.Ble _).trans k1
      clear hrep hcs
      go_wp2_with fail
      refine (takr_yes (h1.alloc _) hE hs [41] bare_close HK.out).mono ?_
      rintro r w2 ⟨rfl, h2, k3⟩
      have hl0 := lt_block q1
      have q2 := k3.blk (heap_alloc_new w1 _) (by have := h1.rlt; omega)
      have q3 := k3.blk ((heap_alloc_old w1 _ hl0).trans q1) hne
      obtain ⟨a0, a1, a2, a3, a4, a5, a6⟩ := fv_cells q3
      obtain ⟨x0, x1, x2, x3, x4, x5, x6⟩ := fv_free q3
      obtain ⟨b0', b1', b2', b3', b4', b5', b6'⟩ := fv_cells q2
      have hl := lt_block q3
      go_wp2_with fail
      rw [HB.out]
      refine bodyPost_ret (v := .tuple #[.agg #[.int .i64 (kindOf a), .slice b1 n1 m1, .string s1, .int .i64 na1, .string s2, .int .i64 na2, .slice b2 n2 m2], .bool true]) (by simp [results, Tryz.results184, go_sem, a0, a1, a2, a3, a4, a5, a6]) rfl ⟨_, rfl, ?_, h2.set7 _ _ _ _ _ _ _ hne hb0, ((k2.alloc h1.Ble _).trans k3).set7 _ _ _ _ _ _ _ (Nat.le_refl _) hb0⟩
      refine RepT.kept HRP.out (fun k o hF ho => ?_) (fun k hF _ => ?_)
      · have hF' : w.heap.size + 1 ≤ k := by simpa using hF
        have hlk := lt_block ho
        rw [set7_block _ _ _ _ _ _ _ (by omega)]
        exact k3.blk ((heap_alloc_old w1 _ hlk).trans ho) (by omega)
      · have hF' : w.heap.size + 1 ≤ k := by simpa using hF
        omega
    · have k5 : Doc.is (Doc.tk L j) [41] = false := by simpa using k5
      have HB : Hid (Doc.brkR L (.ok a j) = .err 6 (Doc.tk L j).at_) := by show _ = _; unfold Doc.brkR; dsimp only; rw [if_neg (by rw [k5]; simp)]
      have HK : Hid (Doc.is (Doc.tk L j) [41] = false) := k5
      clear k5
      go_enter Tryz.func184, Tryz.ntmps184
      go_wp2_with fail
      refine Calls.mono (HR'.out _ (h.alloc _)) ?_
      rintro r w1 ⟨cs, rfl, hrep, h1, k1⟩
      obtain ⟨b1, n1, m1, s1, s2, na1, na2, b2, n2, m2, hcs⟩ := (hrep.five rfl).has
      have hcs' : cs = #[.int .i64 (kindOf a), .slice b1 n1 m1, .string s1, .int .i64 na1, .string s2, .int .i64 na2, .slice b2 n2 m2] := Array.ext' (by rw [hcs])
      subst hcs'
      have q1 := k1.blk (heap_alloc_new w _) hne
      have k2 := ((PM.refl B rb w).alloc h.Ble _).trans k1
      clear hrep hcs
      go_wp2_with fail
      refine (takr_not (h1.alloc _) [41] bare_close HK.out).mono ?_
      rintro r w2 ⟨rfl, rfl⟩
      have hl0 := lt_block q1
      go_wp2_with fail
      refine (refuser (h1.alloc _) 6).mono ?_
      rintro r w3 ⟨rfl, h3, k3⟩
      have q3 := k3.blk ((heap_alloc_old w1 _ hl0).trans q1) hne
      obtain ⟨a0, a1, a2, a3, a4, a5, a6⟩ := fv_cells q3
      obtain ⟨x0, x1, x2, x3, x4, x5, x6⟩ := fv_free q3
      have hl := lt_block q3
      go_wp2_with fail
      rw [HB.out]
      exact bodyPost_ret (v := .tuple #[.agg #[.int .i64 0, .slice none 0 0, .string ⟨#[]⟩, .int .i64 0, .string ⟨#[]⟩, .int .i64 0, .slice none 0 0], .bool false]) (by simp [results, Tryz.results184, go_sem, a0, a1, a2, a3, a4, a5, a6]) rfl ⟨j, rfl, rfl, h3.set7 _ _ _ _ _ _ _ hne hb0, ((k2.alloc h1.Ble _).trans k3).set7 _ _ _ _ _ _ _ (Nat.le_refl _) hb0⟩
end
end Go.Proofs.YtbnelaoeblhndaaGreatDoor

namespace Go.Proofs.YtbnelaoeblhndaaGreatDoor
open Go.RowKit
set_option maxRecDepth 100000

section
variable {B : Nat} {w : World} {rb : Nat} {s : ByteArray} {L : List Doc.Tok} {i op fault : Nat}

set_option maxHeartbeats 1000000 in
theorem part_neg {res : Doc.Res Doc.Ast} (h : PR B w rb s L i op fault) (hk : Doc.is (Doc.tk L i) [110, 111, 116] = true)
    (HS : ∀ w', PR B w' rb s L i op fault → Calls Tryz.prog 182 #[.pointer (some ⟨rb, 0, none⟩), .func (.func 183) #[.pointer (some ⟨rb, 0, none⟩)] #[]] w' (TPost B rb s L op fault w' res)) :
    Calls Tryz.prog 163 #[.pointer (some ⟨rb, 0, none⟩)] w (TPost B rb s L op fault w res) := by
  have HC : Hid (∀ w', PR B w' rb s L i op fault → Calls Tryz.prog 182 #[.pointer (some ⟨rb, 0, none⟩), .func (.func 183) #[.pointer (some ⟨rb, 0, none⟩)] #[]] w' (TPost B rb s L op fault w' res)) := HS
  obtain ⟨x, c2, hx⟩ := h.c2
  have k1 := (hx _ bare_not).trans hk
  have hlt := h.rlt
  have hmf : ∀ (fn : Fn) (first cap : Array Value) (w : World), (Instr.makeFunc fn first cap).run Tryz.prog w = .ok (.func fn first cap) w := fun _ _ _ _ => rfl
  clear HS hx hk
  go_enter Tryz.func163, Tryz.ntmps163
  go_wp2_with fail
  refine Calls.mono (HC.out _ (h.alloc _)) ?_
  intro r w1 hp
  obtain ⟨x, b1, n1, m1, s1, s2, na1, na2, b2, n2, m2, b, rfl⟩ := hp.ret
  have q1 := hp.pm.blk (heap_alloc_new w _) (by omega : w.heap.size ≠ rb)
  have HP : Hid _ := hp
  clear hp
  obtain ⟨a0, a1, a2, a3, a4, a5, a6⟩ := fv_cells q1
  obtain ⟨x0, x1, x2, x3, x4, x5, x6⟩ := fv_free q1
  have hl := lt_block q1
  go_wp2_with fail
  exact bodyPost_ret (v := .tuple #[.agg #[.int .i64 x, .slice b1 n1 m1, .string s1, .int .i64 na1, .string s2, .int .i64 na2, .slice b2 n2 m2], .bool b]) (by simp [results, Tryz.results163, go_sem, a0, a1, a2, a3, a4, a5, a6]) rfl (TPost.pass h HP.out)

set_option maxHeartbeats 1000000 in
theorem part_brk {res : Doc.Res Doc.Ast} (h : PR B w rb s L i op fault) (hk1 : Doc.is (Doc.tk L i) [110, 111, 116] = false) (hk2 : Doc.is (Doc.tk L i) [40] = true)
    (HS : ∀ w', PR B w' rb s L i op fault → Calls Tryz.prog 182 #[.pointer (some ⟨rb, 0, none⟩), .func (.func 184) #[.pointer (some ⟨rb, 0, none⟩)] #[]] w' (TPost B rb s L op fault w' res)) :
    Calls Tryz.prog 163 #[.pointer (some ⟨rb, 0, none⟩)] w (TPost B rb s L op fault w res) := by
  have HC : Hid (∀ w', PR B w' rb s L i op fault → Calls Tryz.prog 182 #[.pointer (some ⟨rb, 0, none⟩), .func (.func 184) #[.pointer (some ⟨rb, 0, none⟩)] #[]] w' (TPost B rb s L op fault w' res)) := HS
  obtain ⟨x, c2, hx⟩ := h.c2
  have k1 := (hx _ bare_not).trans hk1
  have k2 := (hx _ bare_open).trans hk2
  have hlt := h.rlt
  have hmf : ∀ (fn : Fn) (first cap : Array Value) (w : World), (Instr.makeFunc fn first cap).run Tryz.prog w = .ok (.func fn first cap) w := fun _ _ _ _ => rfl
  clear HS hx hk1 hk2
  go_enter Tryz.func163, Tryz.ntmps163
  go_wp2_with fail
  refine Calls.mono (HC.out _ (h.alloc _)) ?_
  intro r w1 hp
  obtain ⟨x, b1, n1, m1, s1, s2, na1, na2, b2, n2, m2, b, rfl⟩ := hp.ret
  have q1 := hp.pm.blk (heap_alloc_new w _) (by omega : w.heap.size ≠ rb)
  have HP : Hid _ := hp
  clear hp
  obtain ⟨a0, a1, a2, a3, a4, a5, a6⟩ := fv_cells q1
  obtain ⟨x0, x1, x2, x3, x4, x5, x6⟩ := fv_free q1
  have hl := lt_block q1
  go_wp2_with fail
  exact bodyPost_ret (v := .tuple #[.agg #[.int .i64 x, .slice b1 n1 m1, .string s1, .int .i64 na1, .string s2, .int .i64 na2, .slice b2 n2 m2], .bool b]) (by simp [results, Tryz.results163, go_sem, a0, a1, a2, a3, a4, a5, a6]) rfl (TPost.pass h HP.out)

set_option maxHeartbeats 1000000 in
theorem part_tst {res : Doc.Res Doc.Ast} (h : PR B w rb s L i op fault) (hk1 : Doc.is (Doc.tk L i) [110, 111, 116] = false) (hk2 : Doc.is (Doc.tk L i) [40] = false)
    (HS : ∀ w', PR B w' rb s L i op fault → Calls Tryz.prog 185 #[.pointer (some ⟨rb, 0, none⟩)] w' (TPost B rb s L op fault w' res)) :
    Calls Tryz.prog 163 #[.pointer (some ⟨rb, 0, none⟩)] w (TPost B rb s L op fault w res) := by
  have HC : Hid (∀ w', PR B w' rb s L i op fault → Calls Tryz.prog 185 #[.pointer (some ⟨rb, 0, none⟩)] w' (TPost B rb s L op fault w' res)) := HS
  obtain ⟨x, c2, hx⟩ := h.c2
  have k1 := (hx _ bare_not).trans hk1
  have k2 := (hx _ bare_open).trans hk2
  have hlt := h.rlt
  clear HS hx hk1 hk2
  go_enter Tryz.func163, Tryz.ntmps163
  go_wp2_with fail
  refine Calls.mono (HC.out _ (h.alloc _)) ?_
  intro r w1 hp
  obtain ⟨x, b1, n1, m1, s1, s2, na1, na2, b2, n2, m2, b, rfl⟩ := hp.ret
  have q1 := hp.pm.blk (heap_alloc_new w _) (by omega : w.heap.size ≠ rb)
  have HP : Hid _ := hp
  clear hp
  obtain ⟨a0, a1, a2, a3, a4, a5, a6⟩ := fv_cells q1
  obtain ⟨x0, x1, x2, x3, x4, x5, x6⟩ := fv_free q1
  have hl := lt_block q1
  go_wp2_with fail
  exact bodyPost_ret (v := .tuple #[.agg #[.int .i64 x, .slice b1 n1 m1, .string s1, .int .i64 na1, .string s2, .int .i64 na2, .slice b2 n2 m2], .bool b]) (by simp [results, Tryz.results163, go_sem, a0, a1, a2, a3, a4, a5, a6]) rfl (TPost.pass h HP.out)
end

theorem is_wg {t : Doc.Tok} {l : List UInt8} (h : Doc.is t l = true) : t.kind = 119 ∨ t.kind = 103 := by
  simp only [Doc.is, Bool.and_eq_true, Bool.or_eq_true, beq_iff_eq] at h
  exact h.1

theorem parts_all {s : ByteArray} {L : List Doc.Tok} (H : Doc.Ok L) (hs : s.size ≤ 200) : ∀ (d op : Nat), op + d = 6 → ∀ {B : Nat} {w : World} {rb i fault : Nat}, PR B w rb s L i op fault →
    Calls Tryz.prog 163 #[.pointer (some ⟨rb, 0, none⟩)] w (TPost B rb s L op fault w (Doc.pPart L d i)) := by
  intro d
  induction d with
  | zero =>
    intro op ho B w rb i fault h
    obtain rfl : op = 6 := by omega
    by_cases k1 : Doc.is (Doc.tk L i) [110, 111, 116] = true
    · rw [show Doc.pPart L 0 i = .err 7 (Doc.tk L i).at_ by rw [Doc.pPart, if_pos (by rw [Bool.or_eq_true]; exact .inl k1)]]
      exact part_neg h k1 (fun w' h' => sd_deep h' _)
    · have k1' : Doc.is (Doc.tk L i) [110, 111, 116] = false := by simpa using k1
      by_cases k2 : Doc.is (Doc.tk L i) [40] = true
      · rw [show Doc.pPart L 0 i = .err 7 (Doc.tk L i).at_ by rw [Doc.pPart, if_pos (by rw [Bool.or_eq_true]; exact .inr k2)]]
        exact part_brk h k1' k2 (fun w' h' => sd_deep h' _)
      · have k2' : Doc.is (Doc.tk L i) [40] = false := by simpa using k2
        rw [show Doc.pPart L 0 i = Doc.pTest L i by rw [Doc.pPart, if_neg (by rw [Bool.or_eq_true]; exact fun h => h.elim k1 k2)]]
        exact part_tst h k1' k2' (fun w' h' => test_all h' H.hE H.hL hs)
  | succ d ih =>
    intro op ho B w rb i fault h
    by_cases k1 : Doc.is (Doc.tk L i) [110, 111, 116] = true
    · rw [show Doc.pPart L (d + 1) i = Doc.notR (Doc.pPart L d (i + 1)) by rw [Doc.pPart, if_pos (by exact k1)]; cases Doc.pPart L d (i + 1) <;> rfl]
      exact part_neg h k1 (fun w' h' => sd_any h' (by omega) H.hE hs _ rfl (is_wg k1) _ Tryz.call183 (fun w'' h'' => neg_any h'' (fun w3 h3 => ih (op + 1) (by omega) h3)))
    · have k1' : Doc.is (Doc.tk L i) [110, 111, 116] = false := by simpa using k1
      by_cases k2 : Doc.is (Doc.tk L i) [40] = true
      · rw [show Doc.pPart L (d + 1) i = Doc.brkR L (Doc.pFilter L d (i + 1)) by
          rw [Doc.pPart, if_neg (by exact k1), if_pos k2]
          show _ = Doc.brkR L (Doc.chain L (Doc.chain L (Doc.pPart L d) Doc.wAnd .and) Doc.wOr .or (i + 1))
          cases Doc.chain L (Doc.chain L (Doc.pPart L d) Doc.wAnd .and) Doc.wOr .or (i + 1) <;> rfl]
        have hp := Doc.part_fine H d
        have ha := Doc.all_of_part H hp
        exact part_brk h k1' k2 (fun w' h' => sd_any h' (by omega) H.hE hs _ rfl (is_wg k2) _ Tryz.call184 (fun w'' h'' => brk_any h'' H.hE hs (fun w3 h3 =>
          sfilter_any h3 H.hE H.hL hs (fun i a j hi hj => (ha i j a hi hj).2.2.1) (fun w4 i4 h4 =>
            sall_any h4 H.hE H.hL hs (fun i a j hi hj => (hp i j a hi hj).2.2.1) (fun w5 i5 h5 => ih (op + 1) (by omega) h5)))))
      · have k2' : Doc.is (Doc.tk L i) [40] = false := by simpa using k2
        rw [show Doc.pPart L (d + 1) i = Doc.pTest L i by rw [Doc.pPart, if_neg (by exact k1), if_neg k2]]
        exact part_tst h k1' k2' (fun w' h' => test_all h' H.hE H.hL hs)

theorem filters_all {s : ByteArray} {L : List Doc.Tok} (H : Doc.Ok L) (hs : s.size ≤ 200) {B : Nat} {w : World} {rb i fault : Nat} (h : PR B w rb s L i 0 fault) :
    Calls Tryz.prog 76 #[.pointer (some ⟨rb, 0, none⟩)] w (TPost B rb s L 0 fault w (Doc.pFilter L 6 i)) := by
  have hp := Doc.part_fine H 6
  have ha := Doc.all_of_part H hp
  exact sfilter_any h H.hE H.hL hs (fun i a j hi hj => (ha i j a hi hj).2.2.1) (fun w4 i4 h4 =>
    sall_any h4 H.hE H.hL hs (fun i a j hi hj => (hp i j a hi hj).2.2.1) (fun w5 i5 h5 => parts_all H hs 6 0 rfl h5))
end Go.Proofs.YtbnelaoeblhndaaGreatDoor

namespace Go.Proofs.YtbnelaoeblhndaaGreatDoor
open Go.RowKit
set_option maxRecDepth 100000

section
variable {B : Nat} {w : World} {rb : Nat} {s : ByteArray} {L : List Doc.Tok} {i op fault : Nat}

theorem PR.c1 (h : PR B w rb s L i op fault) : ∃ x : PTok, w.cell? ⟨rb, 1, none⟩ = some (.int .i64 x.kind) ∧ (x.kind == 0) = ((Doc.tk L i).kind == 101) := by
  obtain ⟨q, a, b⟩ := h.has
  refine ⟨ptok s q, b.c1, ?_⟩
  rw [(ptok_kinds a.le).2.2, a.hd]

/-- What whole makes of what filter read. -/
def Doc.endR (L : List Doc.Tok) : Doc.Res Doc.Ast → Doc.Res Doc.Ast
  | .ok a j => if (Doc.tk L j).kind == 101 then .ok a j else .err 6 (Doc.tk L j).at_
  | .err e p => .err e p

set_option maxHeartbeats 2000000 in
theorem whole_any {res : Doc.Res Doc.Ast} (h : PR B w rb s L i op fault)
    (HR : ∀ w', PR B w' rb s L i op fault → Calls Tryz.prog 76 #[.pointer (some ⟨rb, 0, none⟩)] w' (TPost B rb s L op fault w' res)) :
    Calls Tryz.prog 49 #[.pointer (some ⟨rb, 0, none⟩)] w (TPost B rb s L op fault w (Doc.endR L res)) := by
  have HR' : Hid (∀ w', PR B w' rb s L i op fault → Calls Tryz.prog 76 #[.pointer (some ⟨rb, 0, none⟩)] w' (TPost B rb s L op fault w' res)) := HR
  have hlt := h.rlt
  have hb0 := h.Ble
  have hne : w.heap.size ≠ rb := by omega
  clear HR
  cases res with
  | err e q =>
    go_enter Tryz.func49, Tryz.ntmps49
    go_wp2_with fail
    refine Calls.mono (HR'.out _ (h.alloc _)) ?_
    rintro r w1 ⟨j, rfl, hq, h1, k1⟩
    have HQ : Hid (q = (Doc.tk L j).at_) := hq
    have q1 := k1.blk (heap_alloc_new w _) hne
    have k2 := ((PM.refl B rb w).alloc h.Ble _).trans k1
    obtain ⟨a0, a1, a2, a3, a4, a5, a6⟩ := fv_cells q1
    obtain ⟨x0, x1, x2, x3, x4, x5, x6⟩ := fv_free q1
    have hl := lt_block q1
    clear hq
    go_wp2_with fail
    exact bodyPost_ret (v := .tuple #[.agg #[.int .i64 0, .slice none 0 0, .string ⟨#[]⟩, .int .i64 0, .string ⟨#[]⟩, .int .i64 0, .slice none 0 0], .bool false]) (by simp [results, Tryz.results49, go_sem, a0, a1, a2, a3, a4, a5, a6, hl]) rfl ⟨j, rfl, HQ.out, (h1.set7 _ _ _ _ _ _ _ hne hb0).alloc _, (k2.set7 _ _ _ _ _ _ _ (Nat.le_refl _) hb0).alloc (h1.set7 _ _ _ _ _ _ _ hne hb0).Ble _⟩
  | ok a j =>
    by_cases k5 : ((Doc.tk L j).kind == 101) = true
    · have HB : Hid (Doc.endR L (.ok a j) = .ok a j) := by show _ = _; unfold Doc.endR; dsimp only; rw [if_pos k5]
      have HK : Hid (((Doc.tk L j).kind == 101) = true) := k5
      clear k5
      go_enter Tryz.func49, Tryz.ntmps49
      go_wp2_with fail
      refine Calls.mono (HR'.out _ (h.alloc _)) ?_
      rintro r w1 ⟨cs, rfl, hrep, h1, k1⟩
      obtain ⟨b1, n1, m1, s1, s2, na1, na2, b2, n2, m2, hcs⟩ := (hrep.five rfl).has
      have hcs' : cs = #[.int .i64 (kindOf a), .slice b1 n1 m1, .string s1, .int .i64 na1, .string s2, .int .i64 na2, .slice b2 n2 m2] := Array.ext' (by rw [hcs])
      subst hcs'
      have HRP : Hid _ := hrep
      have q1 := k1.blk (heap_alloc_new w _) hne
      have k2 := ((PM.refl B rb w).alloc h.Ble _).trans k1
      obtain ⟨xx, xc, xk⟩ := h1.c1
      rw [HK.out] at xk
      have hl0 := lt_block q1
      have hrl := h1.rlt
      obtain ⟨a0, a1, a2, a3, a4, a5, a6⟩ := fv_cells q1
      obtain ⟨x0, x1, x2, x3, x4, x5, x6⟩ := fv_free q1
      clear hrep hcs
      go_wp2_with fail
      rw [HB.out]
      refine bodyPost_ret (v := .tuple #[.agg #[.int .i64 (kindOf a), .slice b1 n1 m1, .string s1, .int .i64 na1, .string s2, .int .i64 na2, .slice b2 n2 m2], .bool true]) (by simp [results, Tryz.results49, go_sem, a0, a1, a2, a3, a4, a5, a6, hl0]) rfl ⟨_, rfl, ?_, (h1.set7 _ _ _ _ _ _ _ hne hb0).alloc _, (k2.set7 _ _ _ _ _ _ _ (Nat.le_refl _) hb0).alloc (h1.set7 _ _ _ _ _ _ _ hne hb0).Ble _⟩
      refine RepT.kept HRP.out (fun k o hF ho => ?_) (fun k hF _ => ?_)
      · have hF' : w.heap.size + 1 ≤ k := by simpa using hF
        have hlk := lt_block ho
        rw [heap_alloc_old _ _ (by simp; omega), set7_block _ _ _ _ _ _ _ (by omega)]
        exact ho
      · have hF' : w.heap.size + 1 ≤ k := by simpa using hF
        omega
    · have k5 : ((Doc.tk L j).kind == 101) = false := by simpa using k5
      have HB : Hid (Doc.endR L (.ok a j) = .err 6 (Doc.tk L j).at_) := by show _ = _; unfold Doc.endR; dsimp only; rw [if_neg (by rw [k5]; simp)]
      have HK : Hid (((Doc.tk L j).kind == 101) = false) := k5
      clear k5
      go_enter Tryz.func49, Tryz.ntmps49
      go_wp2_with fail
      refine Calls.mono (HR'.out _ (h.alloc _)) ?_
      rintro r w1 ⟨cs, rfl, hrep, h1, k1⟩
      obtain ⟨b1, n1, m1, s1, s2, na1, na2, b2, n2, m2, hcs⟩ := (hrep.five rfl).has
      have hcs' : cs = #[.int .i64 (kindOf a), .slice b1 n1 m1, .string s1, .int .i64 na1, .string s2, .int .i64 na2, .slice b2 n2 m2] := Array.ext' (by rw [hcs])
      subst hcs'
      have q1 := k1.blk (heap_alloc_new w _) hne
      have k2 := ((PM.refl B rb w).alloc h.Ble _).trans k1
      obtain ⟨xx, xc, xk⟩ := h1.c1
      rw [HK.out] at xk
      have hl0 := lt_block q1
      have hrl := h1.rlt
      clear hrep hcs
      go_wp2_with fail
      refine (refuser (h1.alloc _) 6).mono ?_
      rintro r w3 ⟨rfl, h3, k3⟩
      have q3 := k3.blk ((heap_alloc_old w1 _ hl0).trans q1) hne
      obtain ⟨a0, a1, a2, a3, a4, a5, a6⟩ := fv_cells q3
      obtain ⟨x0, x1, x2, x3, x4, x5, x6⟩ := fv_free q3
      have hl := lt_block q3
      go_wp2_with fail
      rw [HB.out]
      exact bodyPost_ret (v := .tuple #[.agg #[.int .i64 0, .slice none 0 0, .string ⟨#[]⟩, .int .i64 0, .string ⟨#[]⟩, .int .i64 0, .slice none 0 0], .bool false]) (by simp [results, Tryz.results49, go_sem, a0, a1, a2, a3, a4, a5, a6]) rfl ⟨j, rfl, rfl, h3.set7 _ _ _ _ _ _ _ hne hb0, ((k2.alloc h1.Ble _).trans k3).set7 _ _ _ _ _ _ _ (Nat.le_refl _) hb0⟩
end

/-- What Read hands back, by the document's answer. -/
def ReadPost (w : World) (res : Doc.Res Doc.Ast) (r : Ending) (w' : World) : Prop :=
  match res with
  | .ok a _ => ∃ cs, r = .returned (.tuple #[.agg cs, .int .i64 0, .int .i64 0]) ∧ RepT w' (fun k => w.heap.size ≤ k) 0 cs.toList a ∧ Below w.heap.size w w'
  | .err e q => r = .returned (.tuple #[.agg #[.int .i64 0, .slice none 0 0, .string ⟨#[]⟩, .int .i64 0, .string ⟨#[]⟩, .int .i64 0, .slice none 0 0], .int .i64 e, .int .i64 q]) ∧ Below w.heap.size w w'

set_option maxHeartbeats 2000000 in
theorem read_long (s : ByteArray) (hs : 200 < s.size) (w : World) :
    Calls Tryz.prog 33 #[.string s] w (ReadPost w (.err 5 0)) := by
  go_enter Tryz.func33, Tryz.ntmps33
  go_wp2_with fail
  exact bodyPost_ret (v := .tuple #[.agg #[.int .i64 0, .slice none 0 0, .string ⟨#[]⟩, .int .i64 0, .string ⟨#[]⟩, .int .i64 0, .slice none 0 0], .int .i64 5, .int .i64 0]) (by simp [results, Tryz.results33, go_sem]) rfl ⟨rfl, (Below.refl _ _).alloc (Nat.le_refl _) _⟩

theorem PR.c5 {B : Nat} {w : World} {rb : Nat} {s : ByteArray} {L : List Doc.Tok} {i op fault : Nat} (h : PR B w rb s L i op fault) : w.cell? ⟨rb, 5, none⟩ = some (.int .i64 fault) ∧ w.cell? ⟨rb, 3, none⟩ = some (.int .i64 (Doc.tk L i).at_) := by
  obtain ⟨q, a, b⟩ := h.has
  exact ⟨b.c5, by rw [← a.at_]; exact b.c3⟩

theorem below_set7 {w w2 : World} (h : Below w.heap.size w w2) (c0 c1 c2 c3 c4 c5 c6 : Value) : Below w.heap.size w (((((((w2.setCell ⟨w.heap.size, 0, none⟩ c0).setCell ⟨w.heap.size, 1, none⟩ c1).setCell ⟨w.heap.size, 2, none⟩ c2).setCell ⟨w.heap.size, 3, none⟩ c3).setCell ⟨w.heap.size, 4, none⟩ c4).setCell ⟨w.heap.size, 5, none⟩ c5).setCell ⟨w.heap.size, 6, none⟩ c6) :=
  ((((((h.setCell (p := ⟨w.heap.size, 0, none⟩) (Nat.le_refl _) c0).setCell (p := ⟨w.heap.size, 1, none⟩) (Nat.le_refl _) c1).setCell (p := ⟨w.heap.size, 2, none⟩) (Nat.le_refl _) c2).setCell (p := ⟨w.heap.size, 3, none⟩) (Nat.le_refl _) c3).setCell (p := ⟨w.heap.size, 4, none⟩) (Nat.le_refl _) c4).setCell (p := ⟨w.heap.size, 5, none⟩) (Nat.le_refl _) c5).setCell (p := ⟨w.heap.size, 6, none⟩) (Nat.le_refl _) c6

set_option maxHeartbeats 2000000 in
theorem read_any (s : ByteArray) (hs : s.size ≤ 200) (w : World) (hsg : Signs w) (h0 : 1 < w.heap.size) :
    Calls Tryz.prog 33 #[.string s] w (ReadPost w (Doc.parse (Doc.toks s 0))) := by
  go_enter Tryz.func33, Tryz.ntmps33
  go_wp2_with fail
  refine (tokenFrom_at 0 0 rfl s _ hs (by omega) (hsg.below ((Below.refl w.heap.size _).alloc (Nat.le_refl _) _) h0) (by simp; omega)).mono ?_
  rintro r w1 ⟨t, HT, rfl, hb1⟩
  have hsz1 := hb1.size
  have hsz1 : w.heap.size + 1 ≤ w1.heap.size := by simpa using hsz1
  have hbw : Below w.heap.size w w1 := ((Below.refl _ _).alloc (Nat.le_refl _) _).trans (hb1.mono (by simp))
  have q1 := (hb1.block w.heap.size (by simp)).trans (heap_alloc_new w _)
  have hpr : PR w1.heap.size (w1.alloc (.cells #[.string s, .int .i64 t.kind, .string t.text, .int .i64 t.at_, .int .i64 0, .int .i64 0] 119)) w1.heap.size s (Doc.toks s 0) 0 0 0 := by
    refine ⟨0, At.start s, ⟨?_, ?_, Nat.le_refl _, by omega⟩⟩
    · rw [← HT.out]; exact heap_alloc_new w1 _
    · exact hsg.below (hbw.trans (((Below.refl _ _).alloc (Nat.le_refl _) _).mono (by omega))) h0
  have HW : Hid (Calls Tryz.prog 49 #[.pointer (some ⟨w1.heap.size, 0, none⟩)] (w1.alloc (.cells #[.string s, .int .i64 t.kind, .string t.text, .int .i64 t.at_, .int .i64 0, .int .i64 0] 119)) (TPost w1.heap.size w1.heap.size s (Doc.toks s 0) 0 0 (w1.alloc (.cells #[.string s, .int .i64 t.kind, .string t.text, .int .i64 t.at_, .int .i64 0, .int .i64 0] 119)) (Doc.parse (Doc.toks s 0)))) := by
    show Calls _ _ _ _ _
    rw [show Doc.parse (Doc.toks s 0) = Doc.endR (Doc.toks s 0) (Doc.pFilter (Doc.toks s 0) 6 0) by unfold Doc.parse; cases Doc.pFilter (Doc.toks s 0) 6 0 <;> rfl]
    exact whole_any hpr (fun w' h' => filters_all (Doc.ok_toks s hs) hs h')
  have kb : Below w1.heap.size w1 (w1.alloc (.cells #[.string s, .int .i64 t.kind, .string t.text, .int .i64 t.at_, .int .i64 0, .int .i64 0] 119)) := (Below.refl _ _).alloc (Nat.le_refl _) _
  clear hpr
  cases hres : Doc.parse (Doc.toks s 0) with
  | ok a j =>
    rw [hres] at HW
    have HE : Hid _ := hres
    clear hres
    go_wp2_with fail
    refine Calls.mono HW.out ?_
    rintro r w2 ⟨cs, rfl, hrep, h2, k2⟩
    obtain ⟨b1, n1, m1, s1, s2, na1, na2, b2, n2, m2, hcs⟩ := (hrep.five rfl).has
    have hcs' : cs = #[.int .i64 (kindOf a), .slice b1 n1 m1, .string s1, .int .i64 na1, .string s2, .int .i64 na2, .slice b2 n2 m2] := Array.ext' (by rw [hcs])
    subst hcs'
    have HRP : Hid _ := hrep
    have kw : Below w1.heap.size w1 w2 := kb.trans k2.below
    have q2 := (kw.block w.heap.size (by omega)).trans q1
    have hl0 := lt_block q2
    obtain ⟨a0, a1, a2, a3, a4, a5, a6⟩ := fv_cells q2
    obtain ⟨x0, x1, x2, x3, x4, x5, x6⟩ := fv_free q2
    clear hrep hcs HW
    go_wp2_with fail
    rw [HE.out]
    refine bodyPost_ret (v := .tuple #[.agg #[.int .i64 (kindOf a), .slice b1 n1 m1, .string s1, .int .i64 na1, .string s2, .int .i64 na2, .slice b2 n2 m2], .int .i64 0, .int .i64 0]) (by simp [results, Tryz.results33, go_sem, a0, a1, a2, a3, a4, a5, a6, hl0]) rfl ⟨_, rfl, ?_, (below_set7 (hbw.trans (kw.mono (by omega))) _ _ _ _ _ _ _).alloc (by simp; omega) _⟩
    refine RepT.kept HRP.out (fun k o hF ho => ?_) (fun k hF _ => ?_)
    · have hF' : w1.heap.size + 1 ≤ k := by simpa using hF
      have hlk := lt_block ho
      rw [heap_alloc_old _ _ (by simp; omega), set7_block _ _ _ _ _ _ _ (by omega)]
      exact ho
    · have hF' : w1.heap.size + 1 ≤ k := by simpa using hF
      omega
  | err e q =>
    rw [hres] at HW
    have HE : Hid _ := hres
    clear hres
    go_wp2_with fail
    refine Calls.mono HW.out ?_
    rintro r w2 ⟨j, rfl, hq, h2, k2⟩
    have kw : Below w1.heap.size w1 w2 := kb.trans k2.below
    have q2 := (kw.block w.heap.size (by omega)).trans q1
    have hl0 := lt_block q2
    obtain ⟨c5, c3⟩ := h2.c5
    rw [← hq] at c3
    have hlr := h2.rlt
    obtain ⟨a0, a1, a2, a3, a4, a5, a6⟩ := fv_cells q2
    obtain ⟨x0, x1, x2, x3, x4, x5, x6⟩ := fv_free q2
    clear HW hq
    go_wp2_with fail
    go_region
    all_goals
      go_wp2_with fail
      rw [HE.out]
      refine bodyPost_ret (v := .tuple #[.agg #[.int .i64 0, .slice none 0 0, .string ⟨#[]⟩, .int .i64 0, .string ⟨#[]⟩, .int .i64 0, .slice none 0 0], .int .i64 e, .int .i64 q]) (by simp [results, Tryz.results33, go_sem, a0, a1, a2, a3, a4, a5, a6, hl0]) rfl ⟨rfl, ?_⟩
      exact ((below_set7 (hbw.trans (kw.mono (by omega))) _ _ _ _ _ _ _).alloc (by simp; omega) _).drew
end Go.Proofs.YtbnelaoeblhndaaGreatDoor
