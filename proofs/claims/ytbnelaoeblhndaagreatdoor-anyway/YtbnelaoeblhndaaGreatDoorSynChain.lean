/- The program's test answers as the document's. The walk of the program's join. The five cells of a Tree; what joins trees that stand side by side. The walk of the program's chain. -/
import Derived.Test.YtbnelaoeblhndaaGreatDoorSynRead7
import Derived.Maps.AppendAt
namespace Go.Proofs.YtbnelaoeblhndaaGreatDoor
open Go.RowKit
set_option maxRecDepth 100000

section
variable {B : Nat} {w : World} {rb : Nat} {s : ByteArray} {L : List Doc.Tok} {p i j op fault : Nat}

/-- What stands behind a name, in memory. -/
theorem PR.ask (h : PR B w rb s L i op fault) : ∃ x : PTok, PSt B w rb s x op fault ∧ (x.text.toList == [105, 110]) = Doc.isWord (Doc.tk L i) Doc.wIn ∧ (x.text.toList == [108, 105, 107, 101]) = Doc.isWord (Doc.tk L i) Doc.wLike ∧ (x.text.toList == [105, 115]) = Doc.isWord (Doc.tk L i) Doc.wIs ∧ pCmp x = Doc.cmpB (Doc.tk L i) := by
  obtain ⟨q, h1, h2⟩ := h.has
  refine ⟨ptok s q, h2, ?_, ?_, ?_, ?_⟩
  · rw [ptok_is h1.le bare_in, is_word h1.le rfl, h1.hd]; rfl
  · rw [ptok_is h1.le bare_like, is_word h1.le rfl, h1.hd]; rfl
  · rw [ptok_is h1.le bare_is, is_word h1.le rfl, h1.hd]; rfl
  · rw [ptok_cmp h1.le, h1.hd]

/-- Signs that compare are no words. -/
theorem cmp_noword {t : Doc.Tok} (h : Doc.cmpB t = true) (l : List UInt8) : Doc.isWord t l = false := by
  have hk : t.kind = 103 := by simp only [Doc.cmpB, Bool.and_eq_true, beq_iff_eq] at h; exact h.1
  unfold Doc.isWord; rw [hk]; rfl
theorem word_other {t : Doc.Tok} {l m : List UInt8} (h : Doc.isWord t l = true) (hne : (l == m) = false) : Doc.isWord t m = false := by
  simp only [Doc.isWord, Bool.and_eq_true, beq_iff_eq] at h
  unfold Doc.isWord; rw [h.2, hne, Bool.and_false]

theorem own_single {g m : Nat} {t : Doc.Tok} (h : w.heap[g]? = some (.cells (litC t).toArray 230 (0, 0))) (hm : m ≤ g) : w.ownsRow m 230 4 (.slice (some ⟨g, 0, none⟩) 1 1) [t].length (litsC [t]) := by
  refine ⟨rfl, .inr ⟨g, 1, _, rfl, hm, h, Nat.le_refl _, by unfold maxLen; omega, rfl, ?_⟩⟩
  simp [litsC, litC]

theorem single_row (h : PR B w rb s L i op fault) (hE : Doc.Ended L) (hs : s.size ≤ 200) (t : Doc.Tok) (ht : t = Doc.tk L i) (hk : Doc.lit false t = true) :
    Calls Tryz.prog 211 #[.pointer (some ⟨rb, 0, none⟩)] w fun r w' => ∃ v, r = .returned (.tuple #[v, .bool true]) ∧ w'.ownsRow w.heap.size 230 4 v [t].length (litsC [t]) ∧ PR B w' rb s L (i + 1) op fault ∧ PM B rb w w' := by
  obtain ⟨q, h1, h2⟩ := h.has
  refine (single_yes h2 h1 hE hs t ht hk).mono ?_
  rintro r w' ⟨g, rfl, h3, h4, h5, h6⟩
  exact ⟨_, rfl, own_single h4 h3, h5, h6⟩
theorem single_none (h : PR B w rb s L i op fault) (hk : Doc.lit false (Doc.tk L i) = false) :
    Calls Tryz.prog 211 #[.pointer (some ⟨rb, 0, none⟩)] w fun r w' => ∃ v j, r = .returned (.tuple #[v, .bool false]) ∧ 6 = 6 ∧ (Doc.tk L i).at_ = (Doc.tk L j).at_ ∧ PR B w' rb s L j op fault ∧ PM B rb w w' := by
  obtain ⟨q, h1, h2⟩ := h.has
  refine (single_not h2 h1 hk).mono ?_
  rintro r w' ⟨rfl, h5, h6⟩
  exact ⟨_, _, rfl, rfl, rfl, ⟨q, h1, h5⟩, h6⟩
theorem prefix_row (h : PR B w rb s L i op fault) (hE : Doc.Ended L) (hs : s.size ≤ 200) (t : Doc.Tok) (ht : t = Doc.tk L i) (hk : Doc.lit true t = true) :
    Calls Tryz.prog 208 #[.pointer (some ⟨rb, 0, none⟩)] w fun r w' => ∃ v, r = .returned (.tuple #[v, .bool true]) ∧ w'.ownsRow w.heap.size 230 4 v [t].length (litsC [t]) ∧ PR B w' rb s L (i + 1) op fault ∧ PM B rb w w' := by
  obtain ⟨q, h1, h2⟩ := h.has
  refine (prefix_yes h2 h1 hE hs t ht hk).mono ?_
  rintro r w' ⟨g, rfl, h3, h4, h5, h6⟩
  exact ⟨_, rfl, own_single h4 h3, h5, h6⟩
theorem prefix_none (h : PR B w rb s L i op fault) (hk : Doc.lit true (Doc.tk L i) = false) :
    Calls Tryz.prog 208 #[.pointer (some ⟨rb, 0, none⟩)] w fun r w' => ∃ v j, r = .returned (.tuple #[v, .bool false]) ∧ 6 = 6 ∧ (Doc.tk L i).at_ = (Doc.tk L j).at_ ∧ PR B w' rb s L j op fault ∧ PM B rb w w' := by
  obtain ⟨q, h1, h2⟩ := h.has
  refine (prefix_not h2 h1 hk).mono ?_
  rintro r w' ⟨rfl, h5, h6⟩
  exact ⟨_, _, rfl, rfl, rfl, ⟨q, h1, h5⟩, h6⟩
theorem null_row (h : PR B w rb s L i op fault) (hE : Doc.Ended L) (hs : s.size ≤ 200) (hk : Doc.is (Doc.tk L i) [110, 117, 108, 108] = true) :
    Calls Tryz.prog 209 #[.pointer (some ⟨rb, 0, none⟩)] w fun r w' => ∃ v, r = .returned (.tuple #[v, .bool true]) ∧ w'.ownsRow w.heap.size 230 4 v ([] : List Doc.Tok).length (litsC []) ∧ PR B w' rb s L (i + 1) op fault ∧ PM B rb w w' := by
  obtain ⟨q, h1, h2⟩ := h.has
  refine (null_yes h2 h1 hE hs hk).mono ?_
  rintro r w' ⟨rfl, h5, h6⟩
  exact ⟨_, rfl, World.ownsRow_nil _ _ _ _, h5, h6⟩
theorem null_none (h : PR B w rb s L i op fault) (hk : Doc.is (Doc.tk L i) [110, 117, 108, 108] = false) :
    Calls Tryz.prog 209 #[.pointer (some ⟨rb, 0, none⟩)] w fun r w' => ∃ v j, r = .returned (.tuple #[v, .bool false]) ∧ 6 = 6 ∧ (Doc.tk L i).at_ = (Doc.tk L j).at_ ∧ PR B w' rb s L j op fault ∧ PM B rb w w' := by
  obtain ⟨q, h1, h2⟩ := h.has
  refine (null_not h2 h1 hk).mono ?_
  rintro r w' ⟨rfl, h5, h6⟩
  exact ⟨_, _, rfl, rfl, rfl, ⟨q, h1, h5⟩, h6⟩

theorem test_all (h : PR B w rb s L i op fault) (hE : Doc.Ended L) (hL : L.length ≤ 300) (hs : s.size ≤ 200) :
    Calls Tryz.prog 185 #[.pointer (some ⟨rb, 0, none⟩)] w (TPost B rb s L op fault w (Doc.pTest L i)) := by
  unfold Doc.pTest
  by_cases k1 : ((Doc.tk L i).kind == 119 && Doc.nameB (Doc.tk L i).S) = true
  · rw [if_pos k1]
    by_cases k2 : Doc.cmpB (Doc.tk L (i + 1)) = true
    · rw [if_pos k2]
      have hku : (Doc.tk L (i + 1)).kind = 119 ∨ (Doc.tk L (i + 1)).kind = 103 := by
        simp only [Doc.cmpB, Bool.and_eq_true, beq_iff_eq] at k2; exact .inr k2.1
      have HA : ∀ w', PR B w' rb s L (i + 1) op fault → Calls Tryz.prog 202 #[.pointer (some ⟨rb, 0, none⟩)] w' fun r w'' => r = .returned (.func (.func 211) #[.pointer (some ⟨rb, 0, none⟩)] #[]) ∧ Below w'.heap.size w' w'' := by
        intro w' h'
        obtain ⟨x, hx, e1, e2, e3, e4⟩ := h'.ask
        rw [cmp_noword k2] at e1 e2 e3
        exact after_cmp hx e1 e2 e3 (e4.trans k2)
      by_cases k3 : Doc.lit false (Doc.tk L (i + 2)) = true
      · rw [if_pos k3]
        exact test_ok h hE hs _ _ rfl rfl k1 hku _ Tryz.call211 HA _ (fun w' h' => single_row h' hE hs _ rfl k3)
      · rw [if_neg k3]
        exact test_bad h hE hs _ _ rfl rfl k1 hku _ Tryz.call211 HA _ _ (fun w' h' => single_none h' (by simpa using k3))
    · rw [if_neg k2]
      have k2' : Doc.cmpB (Doc.tk L (i + 1)) = false := by simpa using k2
      by_cases k4 : Doc.isWord (Doc.tk L (i + 1)) Doc.wLike = true
      · rw [if_pos k4]
        have hku : (Doc.tk L (i + 1)).kind = 119 ∨ (Doc.tk L (i + 1)).kind = 103 := by
          simp only [Doc.isWord, Bool.and_eq_true, beq_iff_eq] at k4; exact .inl k4.1
        have HA : ∀ w', PR B w' rb s L (i + 1) op fault → Calls Tryz.prog 202 #[.pointer (some ⟨rb, 0, none⟩)] w' fun r w'' => r = .returned (.func (.func 208) #[.pointer (some ⟨rb, 0, none⟩)] #[]) ∧ Below w'.heap.size w' w'' := by
          intro w' h'
          obtain ⟨x, hx, e1, e2, e3, e4⟩ := h'.ask
          rw [word_other k4 rfl] at e1
          refine (after_like hx e1 (e2.trans k4)).mono ?_
          rintro r w'' ⟨rfl, rfl⟩
          exact ⟨rfl, Below.refl _ _⟩
        by_cases k3 : Doc.lit true (Doc.tk L (i + 2)) = true
        · rw [if_pos k3]
          exact test_ok h hE hs _ _ rfl rfl k1 hku _ Tryz.call208 HA _ (fun w' h' => prefix_row h' hE hs _ rfl k3)
        · rw [if_neg k3]
          exact test_bad h hE hs _ _ rfl rfl k1 hku _ Tryz.call208 HA _ _ (fun w' h' => prefix_none h' (by simpa using k3))
      · rw [if_neg k4]
        have k4' : Doc.isWord (Doc.tk L (i + 1)) Doc.wLike = false := by simpa using k4
        by_cases k5 : Doc.isWord (Doc.tk L (i + 1)) Doc.wIs = true
        · rw [if_pos k5]
          have hku : (Doc.tk L (i + 1)).kind = 119 ∨ (Doc.tk L (i + 1)).kind = 103 := by
            simp only [Doc.isWord, Bool.and_eq_true, beq_iff_eq] at k5; exact .inl k5.1
          have HA : ∀ w', PR B w' rb s L (i + 1) op fault → Calls Tryz.prog 202 #[.pointer (some ⟨rb, 0, none⟩)] w' fun r w'' => r = .returned (.func (.func 209) #[.pointer (some ⟨rb, 0, none⟩)] #[]) ∧ Below w'.heap.size w' w'' := by
            intro w' h'
            obtain ⟨x, hx, e1, e2, e3, e4⟩ := h'.ask
            rw [word_other k5 rfl] at e1
            refine (after_is hx e1 (e2.trans k4') (e3.trans k5)).mono ?_
            rintro r w'' ⟨rfl, rfl⟩
            exact ⟨rfl, Below.refl _ _⟩
          by_cases k3 : Doc.is (Doc.tk L (i + 2)) Doc.wNull = true
          · rw [if_pos k3]
            exact test_ok h hE hs _ _ rfl rfl k1 hku _ Tryz.call209 HA _ (fun w' h' => null_row h' hE hs k3)
          · rw [if_neg k3]
            have k3' : Doc.is (Doc.tk L (i + 2)) Doc.wNull = false := by simpa using k3
            exact test_bad h hE hs _ _ rfl rfl k1 hku _ Tryz.call209 HA _ _ (fun w' h' => null_none h' k3')
        · rw [if_neg k5]
          have k5' : Doc.isWord (Doc.tk L (i + 1)) Doc.wIs = false := by simpa using k5
          by_cases k6 : Doc.isWord (Doc.tk L (i + 1)) Doc.wIn = true
          · rw [if_pos k6]
            have hku : (Doc.tk L (i + 1)).kind = 119 ∨ (Doc.tk L (i + 1)).kind = 103 := by
              simp only [Doc.isWord, Bool.and_eq_true, beq_iff_eq] at k6; exact .inl k6.1
            have HA : ∀ w', PR B w' rb s L (i + 1) op fault → Calls Tryz.prog 202 #[.pointer (some ⟨rb, 0, none⟩)] w' fun r w'' => r = .returned (.func (.func 207) #[.pointer (some ⟨rb, 0, none⟩)] #[]) ∧ Below w'.heap.size w' w'' := by
              intro w' h'
              obtain ⟨x, hx, e1, e2, e3, e4⟩ := h'.ask
              refine (after_in hx (e1.trans k6)).mono ?_
              rintro r w'' ⟨rfl, rfl⟩
              exact ⟨rfl, Below.refl _ _⟩
            by_cases k3 : Doc.is (Doc.tk L (i + 2)) [40] = true
            · rw [if_pos k3]
              cases hl : Doc.pLits L (L.length + 1) [] (i + 3) with
              | ok lits j =>
                refine test_ok h hE hs _ _ rfl rfl k1 hku _ Tryz.call207 HA _ (fun w' h' => ?_)
                refine (list_yes h' hE hL hs k3).mono ?_
                intro r w'' hp
                rw [hl] at hp
                exact hp
              | err e q =>
                refine test_bad h hE hs _ _ rfl rfl k1 hku _ Tryz.call207 HA _ _ (fun w' h' => ?_)
                refine (list_yes h' hE hL hs k3).mono ?_
                intro r w'' hp
                rw [hl] at hp
                obtain ⟨v, m, e1, _, e0, e2, e3, e4⟩ := hp
                exact ⟨v, m, e1, e0, e2, e3, e4⟩
            · rw [if_neg k3]
              exact test_bad h hE hs _ _ rfl rfl k1 hku _ Tryz.call207 HA _ _ (fun w' h' => (list_not h' (by simpa using k3)).mono (by rintro r w'' ⟨rfl, rfl⟩; exact ⟨_, _, rfl, rfl, rfl, h', PM.refl _ _ _⟩))
          · rw [if_neg k6]
            refine test_nil h hE hs _ rfl k1 ?_
            intro w' h'
            obtain ⟨x, hx, e1, e2, e3, e4⟩ := h'.ask
            exact after_nil hx (e1.trans (by simpa using k6)) (e2.trans k4') (e3.trans k5') (e4.trans k2')
  · rw [if_neg k1]
    exact test_noname h (by simpa using k1)
end
end Go.Proofs.YtbnelaoeblhndaaGreatDoor

namespace Go.Proofs.YtbnelaoeblhndaaGreatDoor
open Go.RowKit
set_option maxRecDepth 100000

section
variable {w : World}

set_option maxHeartbeats 1000000 in
theorem join_one (k : Int) (g cap : Nat) (hg : g < w.heap.size) (x : Int) (b1 : Option Addr) (n1 m1 : Nat) (s1 s2 : ByteArray) (na1 na2 : Int) (b2 : Option Addr) (n2 m2 : Nat) (d0 : w.cell? ⟨g, 0, none⟩ = some (.int .i64 x)) (d1 : w.cell? ⟨g, 1, none⟩ = some (.slice b1 n1 m1)) (d2 : w.cell? ⟨g, 2, none⟩ = some (.string s1)) (d3 : w.cell? ⟨g, 3, none⟩ = some (.int .i64 na1)) (d4 : w.cell? ⟨g, 4, none⟩ = some (.string s2)) (d5 : w.cell? ⟨g, 5, none⟩ = some (.int .i64 na2)) (d6 : w.cell? ⟨g, 6, none⟩ = some (.slice b2 n2 m2)) :
    Calls Tryz.prog 162 #[.int .i64 k, .slice (some ⟨g, 0, none⟩) 1 cap] w fun r w' => r = .returned (.agg #[.int .i64 x, .slice b1 n1 m1, .string s1, .int .i64 na1, .string s2, .int .i64 na2, .slice b2 n2 m2]) ∧ Below w.heap.size w w' := by
  go_enter Tryz.func162, Tryz.ntmps162
  go_wp2_with fail
  exact bodyPost_ret (v := .agg #[.int .i64 x, .slice b1 n1 m1, .string s1, .int .i64 na1, .string s2, .int .i64 na2, .slice b2 n2 m2]) (by simp [results, Tryz.results162, go_sem]) rfl ⟨rfl, (Below.refl _ _).alloc (Nat.le_refl _) _⟩

set_option maxHeartbeats 1000000 in
theorem join_many (k : Int) (g n cap : Nat) (hn : ((n : Int) == 1) = false) :
    Calls Tryz.prog 162 #[.int .i64 k, .slice (some ⟨g, 0, none⟩) n cap] w fun r w' => r = .returned (.agg #[.int .i64 k, .slice (some ⟨g, 0, none⟩) n cap, .string ⟨#[]⟩, .int .i64 0, .string ⟨#[]⟩, .int .i64 0, .slice none 0 0]) ∧ Below w.heap.size w w' := by
  go_enter Tryz.func162, Tryz.ntmps162
  go_wp2_with fail
  exact bodyPost_ret (v := .agg #[.int .i64 k, .slice (some ⟨g, 0, none⟩) n cap, .string ⟨#[]⟩, .int .i64 0, .string ⟨#[]⟩, .int .i64 0, .slice none 0 0]) (by simp [results, Tryz.results162, go_sem]) rfl ⟨rfl, (Below.refl _ _).alloc (Nat.le_refl _) _⟩
end
end Go.Proofs.YtbnelaoeblhndaaGreatDoor

namespace Go.Proofs.YtbnelaoeblhndaaGreatDoor
open Go.RowKit
set_option maxRecDepth 100000

/-- The kind of a tree, as the program has it. -/
def kindOf : Doc.Ast → Int | .or _ _ => 0 | .and _ _ => 1 | .not _ => 2 | .test _ _ _ => 3

/-- Five cells of the shapes that a Tree has. -/
structure Five (cs : List Value) (x : Int) : Prop where
  has : ∃ (b1 : Option Addr) (n1 m1 : Nat) (s1 s2 : ByteArray) (na1 na2 : Int) (b2 : Option Addr) (n2 m2 : Nat), cs = [.int .i64 x, .slice b1 n1 m1, .string s1, .int .i64 na1, .string s2, .int .i64 na2, .slice b2 n2 m2]

theorem own_sl {w : World} {m e size n : Nat} {v : Value} {xs : List Value} (h : w.ownsRow m e size v n xs) : ∃ b k c, v = .slice b k c := by
  rcases own_shape h with rfl | ⟨g, cap, rfl⟩ <;> exact ⟨_, _, _, rfl⟩

theorem RepT.five {w : World} {F : Nat → Prop} {k : Nat} {cs : List Value} {a : Doc.Ast} (h : RepT w F k cs a) (hk : k = 0) : Five cs (kindOf a) := by
  cases h with
  | test h1 _ => obtain ⟨b, n, c, rfl⟩ := own_sl h1; exact ⟨_, _, _, _, _, _, _, _, _, _, rfl⟩
  | not _ h1 _ => obtain ⟨b, n, c, rfl⟩ := own_sl h1; exact ⟨_, _, _, _, _, _, _, _, _, _, rfl⟩
  | one _ h1 => omega
  | andL _ _ => omega
  | orL _ _ => omega
  | and _ _ h1 _ => obtain ⟨b, n, c, rfl⟩ := own_sl h1; exact ⟨_, _, _, _, _, _, _, _, _, _, rfl⟩
  | or _ _ h1 _ => obtain ⟨b, n, c, rfl⟩ := own_sl h1; exact ⟨_, _, _, _, _, _, _, _, _, _, rfl⟩

theorem Five.one {cs : List Value} {x : Int} (h : Five cs x) : (∀ u ∈ cs, u.oneCell' = true) ∧ cs.length = 7 := by
  obtain ⟨b1, n1, m1, s1, s2, na1, na2, b2, n2, m2, rfl⟩ := h.has
  refine ⟨fun u hu => ?_, rfl⟩
  simp only [List.mem_cons, List.not_mem_nil, or_false] at hu
  rcases hu with rfl | rfl | rfl | rfl | rfl | rfl | rfl <;> rfl

/-- How trees are joined: by and, or by or. -/
structure Joins (tag : Nat) (kind : Int) (mk : Doc.Ast → Doc.Ast → Doc.Ast) : Prop where
  snoc : ∀ {w : World} {F : Nat → Prop} {l cs : List Value} {a b : Doc.Ast}, RepT w F tag l a → RepT w F 0 cs b → RepT w F tag (l ++ cs) (mk a b)
  whole : ∀ {w : World} {F : Nat → Prop} {l cs : List Value} {a b : Doc.Ast} {n : Nat} {v : Value}, RepT w F tag l a → RepT w F 0 cs b → w.ownsRow 0 69 7 v n (l ++ cs) → (∀ k, v.ownBlock = some k → F k) → RepT w F 0 [.int .i64 kind, v, .string ⟨#[]⟩, .int .i64 0, .string ⟨#[]⟩, .int .i64 0, .slice none 0 0] (mk a b)
  one : tag = 1 ∨ tag = 2

theorem joins_and : Joins 1 1 .and := ⟨fun h1 h2 => .andL h1 h2, fun h1 h2 h3 h4 => .and h1 h2 h3 h4, .inl rfl⟩
theorem joins_or : Joins 2 0 .or := ⟨fun h1 h2 => .orL h1 h2, fun h1 h2 h3 h4 => .or h1 h2 h3 h4, .inr rfl⟩

namespace Doc
def comb (mk : Ast → Ast → Ast) : Option Ast → Ast → Ast
  | none, b => b
  | some a, b => mk a b
/-- What is still to read of a chain: a link at token i, then the rest. -/
def contT (L : List Tok) (link : Nat → Res Ast) (wd : List UInt8) (mk : Ast → Ast → Ast) (acc : Option Ast) (n i : Nat) : Res Ast :=
  match link i with
  | .ok b j => cLoop L link wd mk n (comb mk acc b) j
  | .err e p => .err e p
theorem chain_contT (L : List Tok) (link : Nat → Res Ast) (wd : List UInt8) (mk : Ast → Ast → Ast) (i : Nat) : chain L link wd mk i = contT L link wd mk none (L.length + 1) i := by
  unfold chain contT; rfl
theorem cLoop_contT (L : List Tok) (link : Nat → Res Ast) (wd : List UInt8) (mk : Ast → Ast → Ast) (n : Nat) (a : Ast) (j : Nat) : cLoop L link wd mk (n + 1) a j = if is (tk L j) wd then contT L link wd mk (some a) n (j + 1) else .ok a j := by
  rw [cLoop]; rfl
end Doc
end Go.Proofs.YtbnelaoeblhndaaGreatDoor

namespace Go.Proofs.YtbnelaoeblhndaaGreatDoor
open Go.RowKit
set_option maxRecDepth 100000

theorem Tryz.infoTree : (Tryz.prog.info? 69).map (fun i => (i.zero, i.size, i.bytes)) = some (some (.agg #[.int .i64 0, .slice none 0 0, .string ⟨#[]⟩, .int .i64 0, .string ⟨#[]⟩, .int .i64 0, .slice none 0 0]), 7, 104) := by kernel_rfl

/-- What the parts read so far stand for. -/
def AccRep (w : World) (F : Nat → Prop) (tag : Nat) (mk : Doc.Ast → Doc.Ast → Doc.Ast) (m : Nat) (l : List Value) : Option Doc.Ast → Prop
  | none => m = 0 ∧ l = []
  | some a => (m = 1 ∧ RepT w F 0 l a) ∨ (2 ≤ m ∧ ∃ l' cs a' b, l = l' ++ cs ∧ a = mk a' b ∧ RepT w F tag l' a' ∧ RepT w F 0 cs b)

/-- One part more. -/
theorem AccRep.snoc {w : World} {F : Nat → Prop} {tag : Nat} {kind : Int} {mk : Doc.Ast → Doc.Ast → Doc.Ast} (hJ : Joins tag kind mk) {m : Nat} {l cs : List Value} {acc : Option Doc.Ast} {b : Doc.Ast} (h : AccRep w F tag mk m l acc) (hb : RepT w F 0 cs b) :
    AccRep w F tag mk (m + 1) (l ++ cs) (some (Doc.comb mk acc b)) := by
  cases acc with
  | none => obtain ⟨rfl, rfl⟩ := h; exact .inl ⟨rfl, hb⟩
  | some a =>
    rcases h with ⟨rfl, h1⟩ | ⟨h2, l', cs', a', b', rfl, rfl, h3, h4⟩
    · exact .inr ⟨Nat.le_refl _, l, cs, a, b, rfl, rfl, .one h1 hJ.one, hb⟩
    · exact .inr ⟨by omega, l' ++ cs', cs, mk a' b', b, rfl, rfl, hJ.snoc h3 h4, hb⟩

theorem AccRep.kept {w w' : World} {F F' : Nat → Prop} {tag : Nat} {mk : Doc.Ast → Doc.Ast → Doc.Ast} {m : Nat} {l : List Value} {acc : Option Doc.Ast} (h : AccRep w F tag mk m l acc) (hk : ∀ k o, F k → w.heap[k]? = some o → w'.heap[k]? = some o) (hF : ∀ k, F k → k < w.heap.size → F' k) : AccRep w' F' tag mk m l acc := by
  cases acc with
  | none => exact h
  | some a =>
    rcases h with ⟨h0, h1⟩ | ⟨h2, l', cs', a', b', e1, e2, h3, h4⟩
    · exact .inl ⟨h0, h1.kept hk hF⟩
    · exact .inr ⟨h2, l', cs', a', b', e1, e2, h3.kept hk hF, h4.kept hk hF⟩
end Go.Proofs.YtbnelaoeblhndaaGreatDoor
