/- Walks of a Filter's all and filter: parts, one behind the other. -/
import Derived.Test.YtbnelaoeblhndaaGreatDoorRefTest
namespace Go.Proofs.YtbnelaoeblhndaaGreatDoor
open Go.RowKit
set_option maxRecDepth 100000

def zTok : Doc.Tok := ⟨0, ⟨#[]⟩, 0, 0⟩

section
variable {B : Nat} {w : World} {fb : Nat} {Lv : Value} {L : List Doc.Tok} {i op : Nat} {Nv : Value} {nodes : List NodeR}

/-- What the function part leaves, d steps from the deepest. -/
def PartC (L : List Doc.Tok) (d op : Nat) : Prop := ∀ {B : Nat} {w : World} {fb : Nat} {Lv : Value} {i : Nat} {Nv : Value} {nodes : List NodeR}, RSt B w fb Lv L i op Nv nodes 0 0 → nodes.length ≤ i → i < L.length →
  Calls Tryz.prog 168 #[.pointer (some ⟨fb, 0, none⟩)] w (RPost B fb Lv L i op nodes w (Doc.pPart L d i))
/-- What the function all leaves. -/
def AllC (L : List Doc.Tok) (d op : Nat) : Prop := ∀ {B : Nat} {w : World} {fb : Nat} {Lv : Value} {i : Nat} {Nv : Value} {nodes : List NodeR}, RSt B w fb Lv L i op Nv nodes 0 0 → nodes.length ≤ i → i < L.length →
  Calls Tryz.prog 132 #[.pointer (some ⟨fb, 0, none⟩)] w (RPost B fb Lv L i op nodes w (Doc.pAll L d i))
/-- What the function filter leaves. -/
def FilterC (L : List Doc.Tok) (d op : Nat) : Prop := ∀ {B : Nat} {w : World} {fb : Nat} {Lv : Value} {i : Nat} {Nv : Value} {nodes : List NodeR}, RSt B w fb Lv L i op Nv nodes 0 0 → nodes.length ≤ i → i < L.length →
  Calls Tryz.prog 83 #[.pointer (some ⟨fb, 0, none⟩)] w (RPost B fb Lv L i op nodes w (Doc.pFilter L d i))

theorem node_all {E place : Nat} (h : RSt B w fb Lv L i op Nv nodes E place) (hn : nodes.length ≤ 300) (a b : Int) :
    Calls Tryz.prog 134 #[.pointer (some ⟨fb, 0, none⟩), .agg #[.int .u8 38, .int .i64 a, .int .i64 b, .int .u8 0, .string ⟨#[]⟩, .int .i64 0, .int .i64 0, .int .u8 0, .string ⟨#[]⟩, .int .i64 0, .int .i64 0, .slice none 0 0]] w fun r w' =>
      ∃ Nv', r = .returned (.int .i64 nodes.length) ∧ RSt B w' fb Lv L i op Nv' (nodes ++ [⟨38, a, b, zTok, zTok, .slice none 0 0⟩]) E place ∧ Step B w w' :=
  node_st h hn ⟨38, a, b, zTok, zTok, .slice none 0 0⟩ rfl
theorem node_filter {E place : Nat} (h : RSt B w fb Lv L i op Nv nodes E place) (hn : nodes.length ≤ 300) (a b : Int) :
    Calls Tryz.prog 134 #[.pointer (some ⟨fb, 0, none⟩), .agg #[.int .u8 124, .int .i64 a, .int .i64 b, .int .u8 0, .string ⟨#[]⟩, .int .i64 0, .int .i64 0, .int .u8 0, .string ⟨#[]⟩, .int .i64 0, .int .i64 0, .slice none 0 0]] w fun r w' =>
      ∃ Nv', r = .returned (.int .i64 nodes.length) ∧ RSt B w' fb Lv L i op Nv' (nodes ++ [⟨124, a, b, zTok, zTok, .slice none 0 0⟩]) E place ∧ Step B w w' :=
  node_st h hn ⟨124, a, b, zTok, zTok, .slice none 0 0⟩ rfl
theorem node_not {E place : Nat} (h : RSt B w fb Lv L i op Nv nodes E place) (hn : nodes.length ≤ 300) (a : Int) :
    Calls Tryz.prog 134 #[.pointer (some ⟨fb, 0, none⟩), .agg #[.int .u8 33, .int .i64 a, .int .i64 0, .int .u8 0, .string ⟨#[]⟩, .int .i64 0, .int .i64 0, .int .u8 0, .string ⟨#[]⟩, .int .i64 0, .int .i64 0, .slice none 0 0]] w fun r w' =>
      ∃ Nv', r = .returned (.int .i64 nodes.length) ∧ RSt B w' fb Lv L i op Nv' (nodes ++ [⟨33, a, 0, zTok, zTok, .slice none 0 0⟩]) E place ∧ Step B w w' :=
  node_st h hn ⟨33, a, 0, zTok, zTok, .slice none 0 0⟩ rfl

def zeroNat : Value → Nat | .int _ 0 => 1 | _ => 0
/-- What a round of a chain has still to go. -/
def chMeas (n fb : Nat) (wx : World) : Nat := n - (intOf ((wx.cell? ⟨fb, 1, none⟩).getD undef)).toNat + zeroNat ((wx.cell? ⟨fb, 4, none⟩).getD undef)
theorem chMeas_ok {n j : Nat} {wx : World} (h : wx.cell? ⟨fb, 1, none⟩ = some (.int .i64 j)) (k : wx.cell? ⟨fb, 4, none⟩ = some (.int .i64 0)) : chMeas n fb wx = n - j + 1 := by
  simp [chMeas, h, k, intOf, zeroNat]
theorem chMeas_err {n j er : Nat} {wx : World} (h : wx.cell? ⟨fb, 1, none⟩ = some (.int .i64 j)) (k : wx.cell? ⟨fb, 4, none⟩ = some (.int .i64 er)) (her : 0 < er) : chMeas n fb wx = n - j := by
  obtain ⟨q, rfl⟩ : ∃ q, er = q + 1 := ⟨er - 1, by omega⟩
  simp only [chMeas, h, k, intOf, Option.getD_some, Int.toNat_natCast]
  rw [show zeroNat (.int .i64 ((q + 1 : Nat) : Int)) = 0 from by unfold zeroNat; split <;> first | rfl | (rename_i h; injection h with _ h; omega)]
  rfl

/-- A chain's loop: links have been read; or there is an error. -/
def ChRel (B fb : Nat) (w : World) (Lv : Value) (L : List Doc.Tok) (i op : Nat) (nodes : List NodeR) (link : Nat → Doc.Res Doc.Ast) (word : List UInt8) (mk : Doc.Ast → Doc.Ast → Doc.Ast) (whole : Doc.Res Doc.Ast) (v : Value) (wx : World) : Prop :=
  ∃ (k : Int) (j : Nat) (Nv' : Value) (nodes' : List NodeR) (er p : Nat), v = .int .i64 k ∧ RSt B wx fb Lv L j op Nv' nodes' er p ∧ nodes <+: nodes' ∧ nodes'.length + i ≤ nodes.length + j ∧ Step B w wx ∧ i ≤ j ∧ j < L.length ∧
    ((er = 0 ∧ p = 0 ∧ ∃ (n kn : Nat) (a : Doc.Ast), k = kn ∧ L.length - j < n ∧ Rep B wx nodes' kn a ∧ i < j ∧ whole = Doc.cLoop L link word mk n a j)
     ∨ (0 < er ∧ whole = .err er p))

set_option maxHeartbeats 4000000 in
theorem all_any {d op : Nat} (hp : PartC L d op) (h : RSt B w fb Lv L i op Nv nodes 0 0) (hn : nodes.length ≤ i) (hi : i < L.length) (hL : L.length ≤ 300) (hE : Doc.Ended L) :
    Calls Tryz.prog 132 #[.pointer (some ⟨fb, 0, none⟩)] w (RPost B fb Lv L i op nodes w (Doc.pAll L d i)) := by
  have HP : Hid (PartC L d op) := hp
  clear hp
  go_enter Tryz.func132, Tryz.ntmps132
  go_wp2_with fail
  refine (HP.out h hn hi).mono ?_
  intro e w1 hpost
  cases hres : Doc.pPart L d i with
  | err er p =>
    have HR : Hid (Doc.pAll L d i = .err er p) := by show _ = _; unfold Doc.pAll Doc.chain; rw [show Doc.pPart L d i = _ from hres]
    rw [hres] at hpost
    clear hres
    obtain ⟨k, j, Nv', nodes', rfl, h1, hpre, hlen, hs1, her, hij, hj⟩ := hpost
    have c4 := h1.c4
    have hz : ((er : Int) == 0) = false := by rw [beq_eq_false_iff_ne]; omega
    go_wp2_with fail
    refine wp_loop_rounds 1 ?_
    rw [rounds_succ]
    go_wp2_with fail
    go_ret
    rw [HR.out]
    exact ⟨k, j, Nv', nodes', rfl, h1, hpre, hlen, hs1, her, hij, hj⟩
  | ok a j =>
    have HR : Hid (Doc.pAll L d i = Doc.cLoop L (Doc.pPart L d) Doc.wAnd .and (L.length + 1) a j) := by show _ = _; unfold Doc.pAll Doc.chain; rw [show Doc.pPart L d i = _ from hres]
    rw [hres] at hpost
    clear hres
    obtain ⟨k, Nv', nodes', rfl, h1, hpre, hlen, hrep, hs1, hij, hj⟩ := hpost
    go_wp2_with fail
    go_loopw [3] (fun v wx => ChRel B fb w Lv L i op nodes (Doc.pPart L d) Doc.wAnd .and (Doc.pAll L d i) v wx) (fun _ wx => chMeas L.length fb wx)
    case atStart => exact ⟨k, j, Nv', nodes', 0, 0, rfl, h1, hpre, hlen, hs1, by omega, hj, .inl ⟨rfl, rfl, L.length + 1, k, a, rfl, by omega, hrep, hij, HR.out⟩⟩
    case round =>
      clear h1 hpre hlen hrep hs1 HR
      obtain ⟨k, j, Nv', nodes', er, p, rfl, h1, hpre, hlen, hs1, hij, hj, hcase⟩ := hrel
      rcases hcase with ⟨rfl, rfl, n, kn, a, rfl, hn1, hrep, hij', HR'⟩ | ⟨her, HR'⟩
      · have HR : Hid (Doc.pAll L d i = Doc.cLoop L (Doc.pPart L d) Doc.wAnd .and n a j) := HR'
        clear HR'
        obtain ⟨n, rfl⟩ : ∃ q, n = q + 1 := ⟨n - 1, by omega⟩
        obtain ⟨x, HX⟩ : ∃ x, Hid (x = Doc.tk L j) := ⟨_, rfl⟩
        have hms := chMeas_ok (n := L.length) h1.c1 h1.c4z
        have c4 := h1.c4z
        go_wp2_with fail
        refine (is_st h1 hj hL x ((Doc.tk_eq hj).trans HX.out.symm) _).mono ?_
        rw [isW_of x [97, 110, 100]]
        clear c4
        by_cases k1 : Doc.is x [97, 110, 100] = true
        · have hj1 : j + 1 < L.length := Doc.ended_next hE hj (by rw [← HX.out]; exact Doc.is_kind k1)
          rw [k1]
          rintro e w2 ⟨rfl, hb2⟩
          have h2 := h1.below hb2
          have hs2 := hs1.trans (Step.ofBelow hb2 h1.Ble)
          have hrep2 := hrep.mono (Step.ofBelow hb2 h1.Ble) List.prefix_rfl
          have c1 := h2.c1
          have f1 := h2.fr 1
          clear h1 hs1 hrep hb2
          go_wp2_with fail
          obtain ⟨h3, hs3⟩ := RSt.stored h2 (i := 1) (u := .int .i64 ((j : Int) + 1)) (at2 := j + 1) (op2 := op) (E2 := 0) (p2 := 0) rfl
          have hrep3 := hrep2.mono hs3.step List.prefix_rfl
          have hs3' := hs2.trans hs3.step
          clear h2 hs2 hrep2 c1 f1 hs3
          refine (HP.out h3 (by omega) hj1).mono ?_
          intro e w3 hpost
          cases hres : Doc.pPart L d (j + 1) with
          | err er p =>
            have HN : Hid (Doc.pAll L d i = .err er p) := HR.out.trans (by rw [Doc.cLoop, ← HX.out, if_pos (by exact k1), hres])
            rw [hres] at hpost
            clear hres
            obtain ⟨k2, j2, Nv2, nodes2, rfl, h4, hpre2, hlen2, hs4, her, hij2, hj2⟩ := hpost
            go_wp2_with fail
            refine (node_all h4 (by omega) kn k2).mono ?_
            rintro e w4 ⟨Nv3, rfl, h5, hs5⟩
            have c4 := h5.c4
            go_wp2_with fail
            go_roundw
            case rel => exact ⟨nodes2.length, j2, Nv3, _, er, p, rfl, h5, hpre.trans (hpre2.trans ⟨_, rfl⟩), by simp; omega, (hs3'.trans hs4).trans hs5, by omega, hj2, .inr ⟨her, HN.out⟩⟩
            case measure => rw [hms, chMeas_err (n := L.length) h5.c1 h5.c4 her]; omega
          | ok b j2 =>
            have HN : Hid (Doc.pAll L d i = Doc.cLoop L (Doc.pPart L d) Doc.wAnd .and n (.and a b) j2) := HR.out.trans (by rw [Doc.cLoop, ← HX.out, if_pos (by exact k1), hres])
            rw [hres] at hpost
            clear hres
            obtain ⟨k2, Nv2, nodes2, rfl, h4, hpre2, hlen2, hrepb, hs4, hij2, hj2⟩ := hpost
            go_wp2_with fail
            refine (node_all h4 (by omega) kn k2).mono ?_
            rintro e w4 ⟨Nv3, rfl, h5, hs5⟩
            go_wp2_with fail
            go_roundw
            case rel =>
              refine ⟨nodes2.length, j2, Nv3, _, 0, 0, rfl, h5, hpre.trans (hpre2.trans ⟨_, rfl⟩), by simp; omega, (hs3'.trans hs4).trans hs5, by omega, hj2, .inl ⟨rfl, rfl, n, nodes2.length, .and a b, rfl, by omega, ?_, by omega, HN.out⟩⟩
              exact Rep.and (n := ⟨38, kn, k2, zTok, zTok, .slice none 0 0⟩) (i := kn) (j := k2) (by simp) rfl rfl rfl rfl (hrep3.mono (hs4.trans hs5) (hpre2.trans ⟨_, rfl⟩)) (hrepb.mono hs5 ⟨_, rfl⟩)
            case measure => rw [hms, chMeas_ok (n := L.length) h5.c1 h5.c4z]; omega
        · have k1 : Doc.is x [97, 110, 100] = false := by simpa using k1
          have HN : Hid (Doc.pAll L d i = .ok a j) := HR.out.trans (by rw [Doc.cLoop, ← HX.out, if_neg (by intro h; exact absurd (h.symm.trans k1) (by simp))])
          rw [k1]
          rintro e w2 ⟨rfl, hb2⟩
          have h2 := h1.below hb2
          go_wp2_with fail
          go_ret
          rw [HN.out]
          exact ⟨kn, Nv', nodes', rfl, h2, hpre, hlen, hrep.mono (Step.ofBelow hb2 h1.Ble) List.prefix_rfl, hs1.trans (Step.ofBelow hb2 h1.Ble), hij', hj⟩
      · have HR : Hid (Doc.pAll L d i = .err er p) := HR'
        clear HR'
        have c4 := h1.c4
        have hz : ((er : Int) == 0) = false := by rw [beq_eq_false_iff_ne]; omega
        go_wp2_with fail
        go_ret
        rw [HR.out]
        exact ⟨k, j, Nv', nodes', rfl, h1, hpre, hlen, hs1, her, hij, hj⟩

set_option maxHeartbeats 4000000 in
theorem filter_any {d op : Nat} (hp : AllC L d op) (h : RSt B w fb Lv L i op Nv nodes 0 0) (hn : nodes.length ≤ i) (hi : i < L.length) (hL : L.length ≤ 300) (hE : Doc.Ended L) :
    Calls Tryz.prog 83 #[.pointer (some ⟨fb, 0, none⟩)] w (RPost B fb Lv L i op nodes w (Doc.pFilter L d i)) := by
  have HP : Hid (AllC L d op) := hp
  clear hp
  go_enter Tryz.func83, Tryz.ntmps83
  go_wp2_with fail
  refine (HP.out h hn hi).mono ?_
  intro e w1 hpost
  cases hres : Doc.pAll L d i with
  | err er p =>
    have HR : Hid (Doc.pFilter L d i = .err er p) := by show _ = _; unfold Doc.pFilter Doc.chain; rw [show Doc.pAll L d i = _ from hres]
    rw [hres] at hpost
    clear hres
    obtain ⟨k, j, Nv', nodes', rfl, h1, hpre, hlen, hs1, her, hij, hj⟩ := hpost
    have c4 := h1.c4
    have hz : ((er : Int) == 0) = false := by rw [beq_eq_false_iff_ne]; omega
    go_wp2_with fail
    refine wp_loop_rounds 1 ?_
    rw [rounds_succ]
    go_wp2_with fail
    go_ret
    rw [HR.out]
    exact ⟨k, j, Nv', nodes', rfl, h1, hpre, hlen, hs1, her, hij, hj⟩
  | ok a j =>
    have HR : Hid (Doc.pFilter L d i = Doc.cLoop L (Doc.pAll L d) Doc.wOr .or (L.length + 1) a j) := by show _ = _; unfold Doc.pFilter Doc.chain; rw [show Doc.pAll L d i = _ from hres]
    rw [hres] at hpost
    clear hres
    obtain ⟨k, Nv', nodes', rfl, h1, hpre, hlen, hrep, hs1, hij, hj⟩ := hpost
    go_wp2_with fail
    go_loopw [3] (fun v wx => ChRel B fb w Lv L i op nodes (Doc.pAll L d) Doc.wOr .or (Doc.pFilter L d i) v wx) (fun _ wx => chMeas L.length fb wx)
    case atStart => exact ⟨k, j, Nv', nodes', 0, 0, rfl, h1, hpre, hlen, hs1, by omega, hj, .inl ⟨rfl, rfl, L.length + 1, k, a, rfl, by omega, hrep, hij, HR.out⟩⟩
    case round =>
      clear h1 hpre hlen hrep hs1 HR
      obtain ⟨k, j, Nv', nodes', er, p, rfl, h1, hpre, hlen, hs1, hij, hj, hcase⟩ := hrel
      rcases hcase with ⟨rfl, rfl, n, kn, a, rfl, hn1, hrep, hij', HR'⟩ | ⟨her, HR'⟩
      · have HR : Hid (Doc.pFilter L d i = Doc.cLoop L (Doc.pAll L d) Doc.wOr .or n a j) := HR'
        clear HR'
        obtain ⟨n, rfl⟩ : ∃ q, n = q + 1 := ⟨n - 1, by omega⟩
        obtain ⟨x, HX⟩ : ∃ x, Hid (x = Doc.tk L j) := ⟨_, rfl⟩
        have hms := chMeas_ok (n := L.length) h1.c1 h1.c4z
        have c4 := h1.c4z
        go_wp2_with fail
        refine (is_st h1 hj hL x ((Doc.tk_eq hj).trans HX.out.symm) _).mono ?_
        rw [isW_of x [111, 114]]
        clear c4
        by_cases k1 : Doc.is x [111, 114] = true
        · have hj1 : j + 1 < L.length := Doc.ended_next hE hj (by rw [← HX.out]; exact Doc.is_kind k1)
          rw [k1]
          rintro e w2 ⟨rfl, hb2⟩
          have h2 := h1.below hb2
          have hs2 := hs1.trans (Step.ofBelow hb2 h1.Ble)
          have hrep2 := hrep.mono (Step.ofBelow hb2 h1.Ble) List.prefix_rfl
          have c1 := h2.c1
          have f1 := h2.fr 1
          clear h1 hs1 hrep hb2
          go_wp2_with fail
          obtain ⟨h3, hs3⟩ := RSt.stored h2 (i := 1) (u := .int .i64 ((j : Int) + 1)) (at2 := j + 1) (op2 := op) (E2 := 0) (p2 := 0) rfl
          have hrep3 := hrep2.mono hs3.step List.prefix_rfl
          have hs3' := hs2.trans hs3.step
          clear h2 hs2 hrep2 c1 f1 hs3
          refine (HP.out h3 (by omega) hj1).mono ?_
          intro e w3 hpost
          cases hres : Doc.pAll L d (j + 1) with
          | err er p =>
            have HN : Hid (Doc.pFilter L d i = .err er p) := HR.out.trans (by rw [Doc.cLoop, ← HX.out, if_pos (by exact k1), hres])
            rw [hres] at hpost
            clear hres
            obtain ⟨k2, j2, Nv2, nodes2, rfl, h4, hpre2, hlen2, hs4, her, hij2, hj2⟩ := hpost
            go_wp2_with fail
            refine (node_filter h4 (by omega) kn k2).mono ?_
            rintro e w4 ⟨Nv3, rfl, h5, hs5⟩
            have c4 := h5.c4
            go_wp2_with fail
            go_roundw
            case rel => exact ⟨nodes2.length, j2, Nv3, _, er, p, rfl, h5, hpre.trans (hpre2.trans ⟨_, rfl⟩), by simp; omega, (hs3'.trans hs4).trans hs5, by omega, hj2, .inr ⟨her, HN.out⟩⟩
            case measure => rw [hms, chMeas_err (n := L.length) h5.c1 h5.c4 her]; omega
          | ok b j2 =>
            have HN : Hid (Doc.pFilter L d i = Doc.cLoop L (Doc.pAll L d) Doc.wOr .or n (.or a b) j2) := HR.out.trans (by rw [Doc.cLoop, ← HX.out, if_pos (by exact k1), hres])
            rw [hres] at hpost
            clear hres
            obtain ⟨k2, Nv2, nodes2, rfl, h4, hpre2, hlen2, hrepb, hs4, hij2, hj2⟩ := hpost
            go_wp2_with fail
            refine (node_filter h4 (by omega) kn k2).mono ?_
            rintro e w4 ⟨Nv3, rfl, h5, hs5⟩
            go_wp2_with fail
            go_roundw
            case rel =>
              refine ⟨nodes2.length, j2, Nv3, _, 0, 0, rfl, h5, hpre.trans (hpre2.trans ⟨_, rfl⟩), by simp; omega, (hs3'.trans hs4).trans hs5, by omega, hj2, .inl ⟨rfl, rfl, n, nodes2.length, .or a b, rfl, by omega, ?_, by omega, HN.out⟩⟩
              exact Rep.or (n := ⟨124, kn, k2, zTok, zTok, .slice none 0 0⟩) (i := kn) (j := k2) (by simp) rfl rfl rfl rfl (hrep3.mono (hs4.trans hs5) (hpre2.trans ⟨_, rfl⟩)) (hrepb.mono hs5 ⟨_, rfl⟩)
            case measure => rw [hms, chMeas_ok (n := L.length) h5.c1 h5.c4z]; omega
        · have k1 : Doc.is x [111, 114] = false := by simpa using k1
          have HN : Hid (Doc.pFilter L d i = .ok a j) := HR.out.trans (by rw [Doc.cLoop, ← HX.out, if_neg (by intro h; exact absurd (h.symm.trans k1) (by simp))])
          rw [k1]
          rintro e w2 ⟨rfl, hb2⟩
          have h2 := h1.below hb2
          go_wp2_with fail
          go_ret
          rw [HN.out]
          exact ⟨kn, Nv', nodes', rfl, h2, hpre, hlen, hrep.mono (Step.ofBelow hb2 h1.Ble) List.prefix_rfl, hs1.trans (Step.ofBelow hb2 h1.Ble), hij', hj⟩
      · have HR : Hid (Doc.pFilter L d i = .err er p) := HR'
        clear HR'
        have c4 := h1.c4
        have hz : ((er : Int) == 0) = false := by rw [beq_eq_false_iff_ne]; omega
        go_wp2_with fail
        go_ret
        rw [HR.out]
        exact ⟨k, j, Nv', nodes', rfl, h1, hpre, hlen, hs1, her, hij, hj⟩
end
end Go.Proofs.YtbnelaoeblhndaaGreatDoor
