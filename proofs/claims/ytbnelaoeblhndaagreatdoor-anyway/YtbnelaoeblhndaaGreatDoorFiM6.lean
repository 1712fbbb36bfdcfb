import Derived.Test.YtbnelaoeblhndaaGreatDoorParse
import Derived.Test.YtbnelaoeblhndaaGreatDoorRefOne4
import Derived.Test.YtbnelaoeblhndaaGreatDoorFiM5
/- How filters that are laid together are read: tokens without their places; no program is named here. -/
namespace Go.Proofs.YtbnelaoeblhndaaGreatDoor
namespace Doc

def bareT (t : Tok) : Tok := { t with at_ := 0 }
def bareA : Ast → Ast
  | .test n o l => .test (bareT n) (bareT o) (l.map bareT)
  | .not a => .not (bareA a)
  | .and a b => .and (bareA a) (bareA b)
  | .or a b => .or (bareA a) (bareA b)
def bareR : Res Ast → Res Ast
  | .ok a i => .ok (bareA a) i
  | .err e _ => .err e 0
def bareRL : Res (List Tok) → Res (List Tok)
  | .ok a i => .ok (a.map bareT) i
  | .err e _ => .err e 0

theorem tk_bare (L : List Tok) (i : Nat) : tk (L.map bareT) i = bareT (tk L i) := by
  unfold tk
  rw [List.getD_eq_getElem?_getD, List.getD_eq_getElem?_getD, List.getElem?_map]
  cases L[i]? <;> rfl

theorem pLits_bare (L : List Tok) : ∀ n acc i, pLits (L.map bareT) n (acc.map bareT) i = bareRL (pLits L n acc i)
  | 0, _, _ => rfl
  | n + 1, acc, i => by
    have h1 : lit false (bareT (tk L i)) = lit false (tk L i) := rfl
    have h2 : ∀ l, is (bareT (tk L (i + 1))) l = is (tk L (i + 1)) l := fun _ => rfl
    unfold pLits
    rw [tk_bare, tk_bare, h1, h2, h2]
    split
    · split
      · have := pLits_bare L n (acc ++ [tk L i]) (i + 2)
        rw [← this, List.map_append]; rfl
      · split
        · simp only [bareRL, List.map_append]; rfl
        · rfl
    · rfl

theorem pTest_bare (L : List Tok) (i : Nat) : pTest (L.map bareT) i = bareR (pTest L i) := by
  unfold pTest
  rw [tk_bare, tk_bare, tk_bare, List.length_map]
  have h0 : ((bareT (tk L i)).kind == 119 && nameB (bareT (tk L i)).S) = ((tk L i).kind == 119 && nameB (tk L i).S) := rfl
  have h1 : cmpB (bareT (tk L (i + 1))) = cmpB (tk L (i + 1)) := rfl
  have h2 : ∀ b, lit b (bareT (tk L (i + 2))) = lit b (tk L (i + 2)) := fun _ => rfl
  have h3 : ∀ l, isWord (bareT (tk L (i + 1))) l = isWord (tk L (i + 1)) l := fun _ => rfl
  have h4 : ∀ l, is (bareT (tk L (i + 2))) l = is (tk L (i + 2)) l := fun _ => rfl
  have h5 := pLits_bare L (L.length + 1) [] (i + 3)
  rw [List.map_nil] at h5
  rw [h0, h1, h2, h2, h3, h3, h3, h4, h4, h5]
  split
  · split
    · split <;> rfl
    · split
      · split <;> rfl
      · split
        · split <;> rfl
        · split
          · split
            · cases pLits L (L.length + 1) [] (i + 3) <;> rfl
            · rfl
          · rfl
  · rfl

theorem cLoop_bare (L : List Tok) (link link' : Nat → Res Ast) (hl : ∀ i, link' i = bareR (link i)) (w : List UInt8) (mk : Ast → Ast → Ast) (hm : ∀ a b, mk (bareA a) (bareA b) = bareA (mk a b)) :
    ∀ n a i, cLoop (L.map bareT) link' w mk n (bareA a) i = bareR (cLoop L link w mk n a i)
  | 0, _, _ => rfl
  | n + 1, a, i => by
    unfold cLoop
    rw [tk_bare, show is (bareT (tk L i)) w = is (tk L i) w from rfl, hl]
    split
    · cases link (i + 1) with
      | ok b j => simp only [bareR]; rw [hm]; exact cLoop_bare L link link' hl w mk hm n (mk a b) j
      | err e p => rfl
    · rfl

theorem chain_bare (L : List Tok) (link link' : Nat → Res Ast) (hl : ∀ i, link' i = bareR (link i)) (w : List UInt8) (mk : Ast → Ast → Ast) (hm : ∀ a b, mk (bareA a) (bareA b) = bareA (mk a b)) (i : Nat) :
    chain (L.map bareT) link' w mk i = bareR (chain L link w mk i) := by
  unfold chain
  rw [hl, List.length_map]
  cases link i with
  | ok a j => exact cLoop_bare L link link' hl w mk hm _ a j
  | err e p => rfl

theorem pPart_bare (L : List Tok) : ∀ d i, pPart (L.map bareT) d i = bareR (pPart L d i)
  | 0, i => by
    have h0 : ∀ l, is (bareT (tk L i)) l = is (tk L i) l := fun _ => rfl
    unfold pPart
    rw [tk_bare, h0, h0, pTest_bare]
    split <;> rfl
  | d + 1, i => by
    have h0 : ∀ l, is (bareT (tk L i)) l = is (tk L i) l := fun _ => rfl
    have hc := chain_bare L _ _ (fun i => chain_bare L _ _ (pPart_bare L d) wAnd .and (fun _ _ => rfl) i) wOr .or (fun _ _ => rfl) (i + 1)
    unfold pPart
    rw [tk_bare, h0, h0, pTest_bare, pPart_bare L d, hc]
    split
    · cases pPart L d (i + 1) <;> rfl
    · split
      · cases chain L (chain L (pPart L d) wAnd .and) wOr .or (i + 1) with
        | ok a j =>
          simp only [bareR]
          rw [tk_bare, show is (bareT (tk L j)) [41] = is (tk L j) [41] from rfl]
          split <;> rfl
        | err e p => rfl
      · rfl

theorem parse_bare (L : List Tok) : parse (L.map bareT) = bareR (parse L) := by
  have hc : pFilter (L.map bareT) 6 0 = bareR (pFilter L 6 0) := chain_bare L _ _ (fun i => chain_bare L _ _ (pPart_bare L 6) wAnd .and (fun _ _ => rfl) i) wOr .or (fun _ _ => rfl) 0
  unfold parse
  rw [hc]
  cases pFilter L 6 0 with
  | ok a j =>
    simp only [bareR]
    rw [tk_bare, show (bareT (tk L j)).kind = (tk L j).kind from rfl]
    split <;> rfl
  | err e p => rfl

theorem parse_of_bare {L : List Tok} {b : Ast} {j : Nat} (h : parse (L.map bareT) = .ok b j) : ∃ a, parse L = .ok a j ∧ bareA a = b := by
  rw [parse_bare] at h
  cases hp : parse L with
  | ok a i => rw [hp] at h; simp only [bareR, Res.ok.injEq] at h; exact ⟨a, by rw [h.2], h.1⟩
  | err e p => rw [hp] at h; cases h

def NOT : Tok := ⟨119, ⟨#[110, 111, 116]⟩, 0, 0⟩
def AND : Tok := ⟨119, ⟨#[97, 110, 100]⟩, 0, 0⟩
def OR : Tok := ⟨119, ⟨#[111, 114]⟩, 0, 0⟩
def OPN : Tok := ⟨103, ⟨#[40]⟩, 0, 0⟩
def CLS : Tok := ⟨103, ⟨#[41]⟩, 0, 0⟩
def END : Tok := ⟨101, ⟨#[]⟩, 0, 0⟩

theorem drop_more {L : List Tok} {i : Nat} {a b : List Tok} (h : L.drop i = a ++ b) : L.drop (i + a.length) = b := by
  rw [← List.drop_drop, h, List.drop_left]
theorem tk_drop {L : List Tok} {i : Nat} {t : Tok} {r : List Tok} (h : L.drop i = t :: r) : tk L i = t := by
  have h1 : (L.drop i)[0]? = some t := by rw [h]; rfl
  rw [List.getElem?_drop] at h1
  unfold tk
  rw [List.getD_eq_getElem?_getD]
  simp at h1
  simp [h1]
theorem len_drop {L : List Tok} {i : Nat} {a b : List Tok} (h : L.drop i = a ++ b) (ha : a ≠ []) : i + a.length ≤ L.length := by
  have h1 := congrArg List.length h
  rw [List.length_drop, List.length_append] at h1
  have : 0 < a.length := List.length_pos_iff.2 ha
  omega

/-- A test, as tokens. -/
structure TestG (seg : List Tok) (A : Ast) : Prop where
  reads : ∀ L i rest, L.drop i = seg ++ rest → pTest L i = .ok A (i + seg.length)
  first : ∃ t r, seg = t :: r ∧ is t wNot = false ∧ is t [40] = false

/-- A part (0), several with 'and' (1), several with 'or' (2), with d brackets and nots in one another at most. -/
inductive G : Nat → Nat → List Tok → Ast → Prop
  | test {d : Nat} {seg : List Tok} {A : Ast} : TestG seg A → G 0 d seg A
  | not {d : Nat} {seg : List Tok} {A : Ast} : G 0 d seg A → G 0 (d + 1) (NOT :: seg) (.not A)
  | par {d : Nat} {seg : List Tok} {A : Ast} : G 2 d seg A → G 0 (d + 1) (OPN :: (seg ++ [CLS])) A
  | one {d : Nat} {seg : List Tok} {A : Ast} : G 0 d seg A → G 1 d seg A
  | and {d : Nat} {s1 s2 : List Tok} {A B : Ast} : G 1 d s1 A → G 0 d s2 B → G 1 d (s1 ++ AND :: s2) (.and A B)
  | all {d : Nat} {seg : List Tok} {A : Ast} : G 1 d seg A → G 2 d seg A
  | or {d : Nat} {s1 s2 : List Tok} {A B : Ast} : G 2 d s1 A → G 1 d s2 B → G 2 d (s1 ++ OR :: s2) (.or A B)

theorem G.more {k d : Nat} {seg : List Tok} {A : Ast} (h : G k d seg A) : G k (d + 1) seg A := by
  induction h with
  | test h => exact .test h
  | not _ ih => exact .not ih
  | par _ ih => exact .par ih
  | one _ ih => exact .one ih
  | and _ _ ih1 ih2 => exact .and ih1 ih2
  | all _ ih => exact .all ih
  | or _ _ ih1 ih2 => exact .or ih1 ih2
theorem G.upto {k d e : Nat} {seg : List Tok} {A : Ast} (h : G k d seg A) (he : d ≤ e) : G k e seg A := by
  obtain ⟨c, rfl⟩ : ∃ c, e = d + c := ⟨e - d, by omega⟩
  clear he
  induction c with
  | zero => exact h
  | succ c ih => exact ih.more
theorem G.ne {k d : Nat} {seg : List Tok} {A : Ast} (h : G k d seg A) : seg ≠ [] := by
  induction h with
  | test h => obtain ⟨t, r, rfl, _⟩ := h.first; simp
  | not _ ih => simp
  | par _ ih => simp
  | one _ ih => exact ih
  | and _ _ ih1 ih2 => simp
  | all _ ih => exact ih
  | or _ _ ih1 ih2 => simp

theorem cLoop_stop {L : List Tok} {link : Nat → Res Ast} {w : List UInt8} {mk : Ast → Ast → Ast} {n : Nat} {a : Ast} {i : Nat} (h : is (tk L i) w = false) : cLoop L link w mk (n + 1) a i = .ok a i := by
  unfold cLoop; rw [h]; rfl
theorem cLoop_go {L : List Tok} {link : Nat → Res Ast} {w : List UInt8} {mk : Ast → Ast → Ast} {n : Nat} {a b : Ast} {i j : Nat} (h : is (tk L i) w = true) (hl : link (i + 1) = .ok b j) : cLoop L link w mk (n + 1) a i = cLoop L link w mk n (mk a b) j := by
  conv => lhs; unfold cLoop
  rw [h, hl]; rfl

/-- What the grammar makes is read so. -/
theorem G.reads {k d : Nat} {seg : List Tok} {A : Ast} (h : G k d seg A) :
    (k = 0 → ∀ L i rest, L.drop i = seg ++ rest → pPart L d i = .ok A (i + seg.length)) ∧
    (k = 1 → ∀ L i rest, L.drop i = seg ++ rest → ∃ n, L.length + 1 ≤ n + seg.length ∧ pAll L d i = cLoop L (pPart L d) wAnd .and n A (i + seg.length)) ∧
    (k = 2 → ∀ L i rest, L.drop i = seg ++ rest → is (tk L (i + seg.length)) wAnd = false → ∃ n, L.length + 1 ≤ n + seg.length ∧ pFilter L d i = cLoop L (pAll L d) wOr .or n A (i + seg.length)) := by
  induction h with
  | @test d seg A h =>
    refine ⟨fun _ L i rest hd => ?_, fun e => (by cases e), fun e => (by cases e)⟩
    obtain ⟨t, r, rfl, h1, h2⟩ := h.first
    have ht := tk_drop (L := L) (i := i) (t := t) (r := r ++ rest) (by rw [hd]; rfl)
    have hr := h.reads L i rest hd
    cases d with
    | zero => unfold pPart; rw [ht, h1, h2]; exact hr
    | succ d => unfold pPart; rw [ht, h1, h2]; exact hr
  | @not d seg A h ih =>
    refine ⟨fun _ L i rest hd => ?_, fun e => (by cases e), fun e => (by cases e)⟩
    have ht := tk_drop (L := L) (i := i) (t := NOT) (r := seg ++ rest) (by rw [hd]; rfl)
    have h1 : is NOT wNot = true := by kernel_rfl
    have hr := ih.1 rfl L (i + 1) rest (drop_more (a := [NOT]) (by rw [hd]; rfl))
    unfold pPart
    rw [ht, h1, hr]
    simp only [if_true, List.length_cons, Res.ok.injEq, true_and]
    omega
  | @par d seg A h ih =>
    refine ⟨fun _ L i rest hd => ?_, fun e => (by cases e), fun e => (by cases e)⟩
    have ht := tk_drop (L := L) (i := i) (t := OPN) (r := seg ++ [CLS] ++ rest) (by rw [hd]; rfl)
    have h1 : is OPN wNot = false := by kernel_rfl
    have h2 : is OPN [40] = true := by kernel_rfl
    have hd1 : L.drop (i + 1) = seg ++ (CLS :: rest) := drop_more (a := [OPN]) (by rw [hd]; simp)
    have hc := tk_drop (drop_more hd1)
    obtain ⟨n, hn, hf⟩ := ih.2.2 rfl L (i + 1) (CLS :: rest) hd1 (by rw [hc]; kernel_rfl)
    have hle := len_drop hd1 h.ne
    obtain ⟨n, rfl⟩ : ∃ m, n = m + 1 := ⟨n - 1, by omega⟩
    rw [cLoop_stop (by rw [hc]; kernel_rfl)] at hf
    unfold pFilter pAll at hf
    unfold pPart
    rw [ht, h1, h2, hf]
    simp only [hc, show is CLS [41] = true by kernel_rfl, Bool.false_eq_true, if_false, if_true, List.length_cons, List.length_append, List.length_nil, Res.ok.injEq, true_and]
    omega
  | @one d seg A h ih =>
    refine ⟨fun e => (by cases e), fun _ L i rest hd => ?_, fun e => (by cases e)⟩
    have hr := ih.1 rfl L i rest hd
    exact ⟨L.length + 1, by omega, by unfold pAll chain; rw [hr]⟩
  | @and d s1 s2 A B h1 h2 ih1 ih2 =>
    refine ⟨fun e => (by cases e), fun _ L i rest hd => ?_, fun e => (by cases e)⟩
    have hd1 : L.drop i = s1 ++ (AND :: (s2 ++ rest)) := by rw [hd]; simp
    have hd2 := drop_more hd1
    have hle := len_drop hd1 h1.ne
    obtain ⟨n, hn, hf⟩ := ih1.2.1 rfl L i _ hd1
    obtain ⟨n, rfl⟩ : ∃ m, n = m + 1 := ⟨n - 1, by omega⟩
    have hr := ih2.1 rfl L (i + s1.length + 1) rest (drop_more (a := [AND]) (by rw [hd2]; rfl))
    rw [cLoop_go (by rw [tk_drop hd2]; kernel_rfl) hr] at hf
    refine ⟨n, by simp only [List.length_append, List.length_cons]; omega, ?_⟩
    rw [hf]
    simp only [List.length_append, List.length_cons]
    congr 1
    omega
  | @all d seg A h ih =>
    refine ⟨fun e => (by cases e), fun e => (by cases e), fun _ L i rest hd hs => ?_⟩
    obtain ⟨n, hn, hf⟩ := ih.2.1 rfl L i rest hd
    have hle := len_drop hd h.ne
    obtain ⟨n, rfl⟩ : ∃ m, n = m + 1 := ⟨n - 1, by omega⟩
    rw [cLoop_stop hs] at hf
    exact ⟨L.length + 1, by omega, by unfold pFilter chain; rw [hf]⟩
  | @or d s1 s2 A B h1 h2 ih1 ih2 =>
    refine ⟨fun e => (by cases e), fun e => (by cases e), fun _ L i rest hd hs => ?_⟩
    have hd1 : L.drop i = s1 ++ (OR :: (s2 ++ rest)) := by rw [hd]; simp
    have hd2 := drop_more hd1
    have hle := len_drop hd1 h1.ne
    have ho := tk_drop hd2
    obtain ⟨n, hn, hf⟩ := ih1.2.2 rfl L i _ hd1 (by rw [ho]; kernel_rfl)
    obtain ⟨n, rfl⟩ : ∃ m, n = m + 1 := ⟨n - 1, by omega⟩
    have hd3 : L.drop (i + s1.length + 1) = s2 ++ rest := drop_more (a := [OR]) (by rw [hd2]; rfl)
    obtain ⟨m, hm, hg⟩ := ih2.2.1 rfl L (i + s1.length + 1) rest hd3
    have hle2 := len_drop hd3 h2.ne
    obtain ⟨m, rfl⟩ : ∃ q, m = q + 1 := ⟨m - 1, by omega⟩
    have he : i + (s1 ++ OR :: s2).length = i + s1.length + 1 + s2.length := by simp only [List.length_append, List.length_cons]; omega
    rw [he] at hs ⊢
    rw [cLoop_stop hs] at hg
    rw [cLoop_go (by rw [ho]; kernel_rfl) hg] at hf
    exact ⟨n, by simp only [List.length_append, List.length_cons]; omega, hf⟩

/-- A whole text of such tokens. -/
theorem G.parse {seg : List Tok} {A : Ast} (h : G 2 6 seg A) : parse (seg ++ [END]) = .ok A seg.length := by
  have hd : (seg ++ [END]).drop 0 = seg ++ [END] := rfl
  have he := tk_drop (drop_more hd)
  obtain ⟨n, hn, hf⟩ := h.reads.2.2 rfl _ 0 _ hd (by rw [he]; kernel_rfl)
  obtain ⟨n, rfl⟩ : ∃ m, n = m + 1 := ⟨n - 1, by simp at hn; omega⟩
  rw [cLoop_stop (by rw [he]; kernel_rfl)] at hf
  rw [Nat.zero_add] at he hf
  unfold Doc.parse
  rw [hf]
  simp only [he]
  rfl
end Doc
end Go.Proofs.YtbnelaoeblhndaaGreatDoor
/- The tokens of texts that are laid together; no program is named here. -/
namespace Go.Proofs.YtbnelaoeblhndaaGreatDoor
namespace Doc

/-- The token at the head of a text, without its place. -/
def mkTok (l : List UInt8) (k : UInt8) (n : Nat) : Tok :=
  { kind := k
    S := if k = 119 ∨ k = 103 then ⟨(l.take n).toArray⟩ else if k = 115 then ⟨((l.drop 1).take (n - 2)).toArray⟩ else ⟨#[]⟩
    N := if k = 110 then signed (l.take n) else 0
    at_ := 0 }

/-- A text and its tokens. -/
inductive Lx : List UInt8 → List Tok → Prop
  | nil : Lx [] []
  | blank {l : List UInt8} {ts : List Tok} : Lx l ts → Lx (32 :: l) ts
  | tok {c : UInt8} {r : List UInt8} {k : UInt8} {n : Nat} {ts : List Tok} : c ≠ 32 → lex (c :: r) = (k, n) → k ≠ 120 → Lx ((c :: r).drop n) ts → Lx (c :: r) (mkTok (c :: r) k n :: ts)

theorem tok_bare {s : ByteArray} {a : Nat} {k : UInt8} {n : Nat} (h : lex (rest s a) = (k, n)) : bareT (tok s a) = mkTok (rest s a) k n := by
  unfold tok bareT mkTok
  rw [h]
  simp only [Tok.mk.injEq, and_true, true_and]
  split
  · apply ba_ext; rw [extract_list]; simp [rest]
  · split
    · apply ba_ext
      rw [extract_list]
      simp [rest, show a + n - 1 - (a + 1) = n - 2 by omega]
    · rfl

theorem toks_blank {s : ByteArray} {a : Nat} {l : List UInt8} (ha : a ≤ s.size) (h : rest s a = 32 :: l) : rest s (a + 1) = l ∧ a + 1 ≤ s.size ∧ toks s a = toks s (a + 1) := by
  have h1 : rest s (a + 1) = l := by
    have : rest s (a + 1) = (rest s a).drop 1 := by simp [rest]
    rw [this, h]; rfl
  have hl := len_rest s a
  rw [h, List.length_cons] at hl
  have h2 : a + 1 ≤ s.size := by omega
  have h3 : past s a = past s (a + 1) := by
    unfold past
    rw [h, h1, run_hit (by decide) (by decide)]; omega
  refine ⟨h1, h2, ?_⟩
  by_cases hp : past s a = s.size
  · rw [toks_end ha hp, toks_end h2 (by rw [← h3]; exact hp)]
  · by_cases hk : (tok s (past s a)).kind = 120
    · rw [toks_wrong ha hp hk, toks_wrong h2 (by rw [← h3]; exact hp) (by rw [← h3]; exact hk), h3]
    · rw [toks_next ha hp hk, toks_next h2 (by rw [← h3]; exact hp) (by rw [← h3]; exact hk), h3]

theorem Lx.toks {l : List UInt8} {ts : List Tok} (h : Lx l ts) : ∀ (s : ByteArray) (a : Nat), a ≤ s.size → rest s a = l → (Doc.toks s a).map bareT = ts ++ [END] := by
  induction h with
  | nil =>
    intro s a ha hr
    have hl := len_rest s a
    rw [hr, List.length_nil] at hl
    have hp := past_le ha
    rw [toks_end ha (by omega)]
    rfl
  | blank h ih =>
    intro s a ha hr
    obtain ⟨h1, h2, h3⟩ := toks_blank ha hr
    rw [h3]; exact ih s (a + 1) h2 h1
  | @tok c r k n ts hc hx hk h ih =>
    intro s a ha hr
    have hl := len_rest s a
    rw [hr, List.length_cons] at hl
    have hp : past s a = a := by
      unfold past
      rw [hr, run_miss (by intro h; exact hc (UInt8.le_antisymm h.2 h.1))]; rfl
    have hx' : lex (rest s a) = (k, n) := by rw [hr]; exact hx
    have hkt : (Doc.tok s (past s a)).kind ≠ 120 := by
      rw [hp]; show (lex (rest s a)).1 ≠ 120; rw [hx']; exact hk
    rw [toks_next ha (by rw [hp]; omega) hkt, hp, List.map_cons, tok_bare hx', hr]
    have he : tokEnd s a = a + n := by unfold tokEnd; rw [hx']; simp [hk]
    have hn := (lex_len c r).2.1
    rw [hx] at hn
    have hd : rest s (a + n) = (c :: r).drop n := by rw [← hr]; simp [rest, Nat.add_comm]
    rw [he, ih s (a + n) (by have : n ≤ r.length + 1 := hn; omega) hd]
    rfl

/-- The bytes behind a text part it off. -/
def Safe (b : List UInt8) : Prop := b = [] ∨ ∃ r, b = 32 :: r ∨ b = 40 :: r ∨ b = 41 :: r
theorem run_safe {lo hi : UInt8} (h1 : ∀ c : UInt8, c = 32 ∨ c = 40 ∨ c = 41 → ¬ (lo ≤ c ∧ c ≤ hi)) {b : List UInt8} (hb : Safe b) : ∀ l : List UInt8, run lo hi (l ++ b) = run lo hi l
  | [] => by
    rcases hb with rfl | ⟨r, rfl | rfl | rfl⟩
    · rfl
    · exact run_miss (h1 _ (.inl rfl))
    · exact run_miss (h1 _ (.inr (.inl rfl)))
    · exact run_miss (h1 _ (.inr (.inr rfl)))
  | c :: l => by
    by_cases h : lo ≤ c ∧ c ≤ hi
    · rw [List.cons_append, run_hit h.1 h.2, run_hit h.1 h.2, run_safe h1 hb l]
    · rw [List.cons_append, run_miss h, run_miss h]
theorem inside_app : ∀ (l b : List UInt8), inside l < l.length → inside (l ++ b) = inside l
  | [], b, h => by simp at h
  | c :: l, b, h => by
    by_cases hc : c = 34
    · subst hc; rw [List.cons_append, inside_hit, inside_hit]
    · rw [inside_go hc] at h ⊢
      rw [List.cons_append, inside_go hc, inside_app l b (by simpa using h)]
theorem two_safe {b : List UInt8} (hb : Safe b) (c : UInt8) (r : List UInt8) : twoSign (c :: r ++ b) = twoSign (c :: r) := by
  cases r with
  | cons d r => unfold twoSign; simp
  | nil =>
    rcases hb with rfl | ⟨r, rfl | rfl | rfl⟩
    · rfl
    all_goals (unfold twoSign; simp)

theorem lex_app {b : List UInt8} (hb : Safe b) {c : UInt8} {r : List UInt8} {k : UInt8} {n : Nat} (h : lex (c :: r) = (k, n)) (hk : k ≠ 120) : lex (c :: r ++ b) = (k, n) := by
  have e1 := run_safe (lo := 97) (hi := 122) (by rintro c (rfl | rfl | rfl) <;> decide) hb (c :: r)
  have e2 := run_safe (lo := 48) (hi := 57) (by rintro c (rfl | rfl | rfl) <;> decide) hb (c :: r)
  have e3 := run_safe (lo := 48) (hi := 57) (by rintro c (rfl | rfl | rfl) <;> decide) hb r
  have e4 := two_safe hb c r
  rw [← h]
  have hx : lex (c :: r) ≠ (120, 0) := by
    rw [h]; intro e; exact hk (congrArg Prod.fst e)
  rw [List.cons_append] at e1 e2 e4 ⊢
  unfold lex at hx ⊢
  simp only [e1, e2, e3, e4]
  split
  · rfl
  · split
    · rfl
    · split
      · rfl
      · split
        · rename_i h1 h2 h3 h4
          simp only [h1, h2, h3, h4, Bool.false_eq_true, if_false, if_true] at hx
          by_cases hi : inside r < r.length ∧ inside r ≤ 12
          · rw [if_pos hi, inside_app r b hi.1, if_pos ⟨by simp; omega, hi.2⟩]
          · rw [if_neg hi] at hx; exact absurd rfl hx
        · rfl

theorem Lx.app {a b : List UInt8} {ts us : List Tok} (h : Lx a ts) (k : Lx b us) (hb : Safe b) : Lx (a ++ b) (ts ++ us) := by
  induction h with
  | nil => exact k
  | blank h ih => exact .blank ih
  | @tok c r kd n ts hc hx hk h ih =>
    have hn := (lex_len c r).2.1
    rw [hx] at hn
    have hn : n ≤ (c :: r).length := by simpa using hn
    have hd : (c :: r ++ b).drop n = (c :: r).drop n ++ b := List.drop_append_of_le_length hn
    have hm : mkTok (c :: r ++ b) kd n = mkTok (c :: r) kd n := by
      have ht : (c :: r ++ b).take n = (c :: r).take n := List.take_append_of_le_length hn
      have hq : ((c :: r ++ b).drop 1).take (n - 2) = ((c :: r).drop 1).take (n - 2) := by
        show (r ++ b).take (n - 2) = r.take (n - 2)
        exact List.take_append_of_le_length (by simp at hn; omega)
      unfold mkTok
      rw [ht, hq]
    have := Lx.tok (c := c) (r := r ++ b) hc (lex_app hb hx hk) hk (ts := ts ++ us) (by rw [← List.cons_append, hd]; exact ih)
    rw [← List.cons_append, hm] at this
    exact this

theorem lex_one {c : UInt8} (h : c = 40 ∨ c = 41) (l : List UInt8) : lex (c :: l) = (103, 1) := by
  rcases h with rfl | rfl <;> (unfold lex; cases l <;> simp [isLetter, isDigit, twoSign, oneSign])
theorem Lx.opn {l : List UInt8} {ts : List Tok} (h : Lx l ts) : Lx (40 :: l) (OPN :: ts) :=
  Lx.tok (n := 1) (by decide) (lex_one (.inl rfl) l) (by decide) h
theorem Lx.cls {l : List UInt8} {ts : List Tok} (h : Lx l ts) : Lx (41 :: l) (CLS :: ts) :=
  Lx.tok (n := 1) (by decide) (lex_one (.inr rfl) l) (by decide) h

/-- The tokens of a text, by reckoning. -/
def lexB : Nat → List UInt8 → Option (List Tok)
  | 0, _ => none
  | _ + 1, [] => some []
  | n + 1, c :: r => bif c == 32 then lexB n r else bif (lex (c :: r)).1 == 120 then none else (lexB n ((c :: r).drop (lex (c :: r)).2)).map (mkTok (c :: r) (lex (c :: r)).1 (lex (c :: r)).2 :: ·)
theorem lexB_lx : ∀ (n : Nat) (l : List UInt8) (ts : List Tok), lexB n l = some ts → Lx l ts
  | 0, _, _, h => by cases h
  | _ + 1, [], ts, h => by cases h; exact .nil
  | n + 1, c :: r, ts, h => by
    unfold lexB at h
    cases hc : (c == 32)
    · rw [hc] at h
      cases hk : ((lex (c :: r)).1 == 120)
      · rw [hk] at h
        simp only [cond_false] at h
        cases hr : lexB n ((c :: r).drop (lex (c :: r)).2) with
        | none => rw [hr] at h; cases h
        | some us =>
          rw [hr] at h
          simp only [Option.map_some, Option.some.injEq] at h
          subst h
          exact .tok (by simpa using hc) rfl (by simpa using hk) (lexB_lx n _ _ hr)
      · rw [hk] at h; cases h
    · rw [hc] at h
      obtain rfl : c = 32 := by simpa using hc
      exact .blank (lexB_lx n r ts h)

theorem Lx.notW {l : List UInt8} {ts : List Tok} (h : Lx l ts) : Lx (110 :: 111 :: 116 :: 32 :: l) (NOT :: ts) :=
  Lx.app (a := [110, 111, 116]) (ts := [NOT]) (lexB_lx 5 _ _ (by kernel_rfl)) h.blank (.inr ⟨l, .inl rfl⟩)
theorem Lx.andW {l : List UInt8} {ts : List Tok} (h : Lx l ts) : Lx (97 :: 110 :: 100 :: 32 :: l) (AND :: ts) :=
  Lx.app (a := [97, 110, 100]) (ts := [AND]) (lexB_lx 5 _ _ (by kernel_rfl)) h.blank (.inr ⟨l, .inl rfl⟩)
theorem Lx.orW {l : List UInt8} {ts : List Tok} (h : Lx l ts) : Lx (111 :: 114 :: 32 :: l) (OR :: ts) :=
  Lx.app (a := [111, 114]) (ts := [OR]) (lexB_lx 5 _ _ (by kernel_rfl)) h.blank (.inr ⟨l, .inl rfl⟩)

/-- A text that the grammar makes is read so, but for the places. -/
theorem Lx.reads {s : ByteArray} {ts : List Tok} {A : Ast} (h : Lx s.data.toList ts) (hg : G 2 6 ts A) : ∃ a j, parse (Doc.toks s 0) = .ok a j ∧ bareA a = A := by
  have h1 := h.toks s 0 (Nat.zero_le _) (by simp [rest])
  have h2 := hg.parse
  rw [← h1] at h2
  obtain ⟨a, ha, hb⟩ := parse_of_bare h2
  exact ⟨a, _, ha, hb⟩
end Doc
end Go.Proofs.YtbnelaoeblhndaaGreatDoor
/- Filters of the sixteen tests, laid together: how they are read; no program is named here but for the fields. Written by wip/genfilt.py. -/
namespace Go.Proofs.YtbnelaoeblhndaaGreatDoor
open Go.RowKit
set_option maxRecDepth 100000
namespace Doc
def COM : Tok := ⟨103, ⟨#[44]⟩, 0, 0⟩
def litSeg : List Tok → List Tok
  | [] => []
  | [t] => [t, CLS]
  | t :: u :: r => t :: COM :: litSeg (u :: r)

theorem pLits_seg (L : List Tok) : ∀ (lits : List Tok) (n : Nat) (acc : List Tok) (i : Nat) (rest : List Tok), lits ≠ [] → lits.length ≤ n → (∀ t ∈ lits, lit false t = true) → L.drop i = litSeg lits ++ rest → pLits L n acc i = .ok (acc ++ lits) (i + (litSeg lits).length)
  | [], _, _, _, _, h, _, _, _ => absurd rfl h
  | [t], n, acc, i, rest, _, hn, hl, hd => by
    obtain ⟨n, rfl⟩ : ∃ m, n = m + 1 := ⟨n - 1, by simp at hn; omega⟩
    have h0 := tk_drop (L := L) (i := i) (t := t) (r := CLS :: rest) (by rw [hd]; rfl)
    have h1 := tk_drop (L := L) (i := i + 1) (t := CLS) (r := rest) (drop_more (a := [t]) (by rw [hd]; rfl))
    unfold pLits
    rw [h0, h1, hl t (by simp), show is CLS [44] = false by kernel_rfl, show is CLS [41] = true by kernel_rfl]
    simp [litSeg]
  | t :: u :: r, n, acc, i, rest, _, hn, hl, hd => by
    obtain ⟨n, rfl⟩ : ∃ m, n = m + 1 := ⟨n - 1, by simp at hn; omega⟩
    have h0 := tk_drop (L := L) (i := i) (t := t) (r := COM :: (litSeg (u :: r) ++ rest)) (by rw [hd]; rfl)
    have h1 := tk_drop (L := L) (i := i + 1) (t := COM) (r := litSeg (u :: r) ++ rest) (drop_more (a := [t]) (by rw [hd]; rfl))
    have h2 : L.drop (i + 2) = litSeg (u :: r) ++ rest := drop_more (a := [t, COM]) (by rw [hd]; rfl)
    have ih := pLits_seg L (u :: r) n (acc ++ [t]) (i + 2) rest (by simp) (by simp at hn ⊢; omega) (fun x hx => hl x (List.mem_cons_of_mem _ hx)) h2
    unfold pLits
    rw [h0, h1, hl t (by simp), show is COM [44] = true by kernel_rfl]
    simp only [if_true]
    rw [ih]
    simp only [litSeg, List.append_assoc, List.singleton_append, List.length_cons, Res.ok.injEq, true_and]
    omega

theorem three {n o l : Tok} {L : List Tok} {i : Nat} {rest : List Tok} (hd : L.drop i = [n, o, l] ++ rest) : tk L i = n ∧ tk L (i + 1) = o ∧ tk L (i + 2) = l :=
  ⟨tk_drop (r := o :: l :: rest) (by rw [hd]; rfl), tk_drop (r := l :: rest) (drop_more (a := [n]) (by rw [hd]; rfl)), tk_drop (r := rest) (drop_more (a := [n, o]) (by rw [hd]; rfl))⟩
section
variable {n o l : Tok} (hn : (n.kind == 119 && nameB n.S) = true) (h1 : is n wNot = false) (h2 : is n [40] = false)
include hn h1 h2
theorem testG_cmp (ho : cmpB o = true) (hl : lit false l = true) : TestG [n, o, l] (.test n o [l]) := by
  refine ⟨fun L i rest hd => ?_, n, [o, l], rfl, h1, h2⟩
  obtain ⟨e0, e1, e2⟩ := three hd
  unfold pTest
  rw [e0, e1, e2, hn, ho, hl]; rfl
theorem testG_like (ho : cmpB o = false) (hw : isWord o wLike = true) (hl : lit true l = true) : TestG [n, o, l] (.test n o [l]) := by
  refine ⟨fun L i rest hd => ?_, n, [o, l], rfl, h1, h2⟩
  obtain ⟨e0, e1, e2⟩ := three hd
  unfold pTest
  rw [e0, e1, e2, hn, ho, hw, hl]; rfl
theorem testG_is (ho : cmpB o = false) (hw : isWord o wLike = false) (hi : isWord o wIs = true) (hl : is l wNull = true) : TestG [n, o, l] (.test n o []) := by
  refine ⟨fun L i rest hd => ?_, n, [o, l], rfl, h1, h2⟩
  obtain ⟨e0, e1, e2⟩ := three hd
  unfold pTest
  rw [e0, e1, e2, hn, ho, hw, hi, hl]; rfl
theorem testG_in (ho : cmpB o = false) (hw : isWord o wLike = false) (hi : isWord o wIs = false) (hj : isWord o wIn = true) (lits : List Tok) (hne : lits ≠ []) (hl : ∀ t ∈ lits, lit false t = true) : TestG (n :: o :: OPN :: litSeg lits) (.test n o lits) := by
  refine ⟨fun L i rest hd => ?_, n, _, rfl, h1, h2⟩
  obtain ⟨e0, e1, e2⟩ := three (l := OPN) (o := o) (L := L) (i := i) (rest := litSeg lits ++ rest) (by rw [hd]; rfl)
  have h3 : L.drop (i + 3) = litSeg lits ++ rest := drop_more (a := [n, o, OPN]) (by rw [hd]; rfl)
  have hlen : lits.length ≤ (litSeg lits).length := by
    clear hd h3 hl hne
    induction lits with
    | nil => simp
    | cons t r ih => cases r with
      | nil => simp [litSeg]
      | cons u r => simp only [litSeg, List.length_cons] at ih ⊢; omega
  have hle := congrArg List.length h3
  rw [List.length_drop, List.length_append] at hle
  have hp := pLits_seg L lits (L.length + 1) [] (i + 3) rest hne (by omega) hl h3
  unfold pTest
  rw [e0, e1, e2, hn, ho, hw, hi, hj, show is OPN [40] = true by kernel_rfl, hp]
  simp only [if_true, Bool.false_eq_true, if_false, List.nil_append, List.length_cons, Res.ok.injEq, true_and]
  omega
end

/-- The tokens of the tests. -/
def testT : Nat → List Tok
  | 0 => [(wrd [110] 0), (sgn [61] 0), (nbr (1) 0)]
  | 1 => [(wrd [110] 0), (sgn [33, 61] 0), (nbr (0) 0)]
  | 2 => [(wrd [110] 0), (sgn [60] 0), (nbr (2) 0)]
  | 3 => [(wrd [110] 0), (sgn [60, 61] 0), (nbr (-1) 0)]
  | 4 => [(wrd [110] 0), (sgn [62] 0), (nbr (0) 0)]
  | 5 => [(wrd [110] 0), (sgn [62, 61] 0), (nbr (3) 0)]
  | 6 => (wrd [110] 0) :: (wrd [105, 110] 0) :: OPN :: litSeg [(nbr (1) 0), (nbr (3) 0), (nbr (-2) 0)]
  | 7 => [(wrd [110] 0), (wrd [105, 115] 0), (wrd [110, 117, 108, 108] 0)]
  | 8 => [(wrd [115] 0), (sgn [61] 0), (str [97] 0)]
  | 9 => [(wrd [115] 0), (sgn [33, 61] 0), (str [98] 0)]
  | 10 => [(wrd [115] 0), (sgn [60] 0), (str [97, 98] 0)]
  | 11 => [(wrd [115] 0), (sgn [62, 61] 0), (str [98] 0)]
  | 12 => [(wrd [115] 0), (wrd [108, 105, 107, 101] 0), (str [97] 0)]
  | 13 => [(wrd [115] 0), (wrd [108, 105, 107, 101] 0), (str [] 0)]
  | 14 => (wrd [115] 0) :: (wrd [105, 110] 0) :: OPN :: litSeg [(str [] 0), (str [98] 0)]
  | _ => [(wrd [115] 0), (wrd [105, 115] 0), (wrd [110, 117, 108, 108] 0)]
/-- The tests without places. -/
def testB : Nat → Ast
  | 0 => .test (wrd [110] 0) (sgn [61] 0) [(nbr (1) 0)]
  | 1 => .test (wrd [110] 0) (sgn [33, 61] 0) [(nbr (0) 0)]
  | 2 => .test (wrd [110] 0) (sgn [60] 0) [(nbr (2) 0)]
  | 3 => .test (wrd [110] 0) (sgn [60, 61] 0) [(nbr (-1) 0)]
  | 4 => .test (wrd [110] 0) (sgn [62] 0) [(nbr (0) 0)]
  | 5 => .test (wrd [110] 0) (sgn [62, 61] 0) [(nbr (3) 0)]
  | 6 => .test (wrd [110] 0) (wrd [105, 110] 0) [(nbr (1) 0), (nbr (3) 0), (nbr (-2) 0)]
  | 7 => .test (wrd [110] 0) (wrd [105, 115] 0) []
  | 8 => .test (wrd [115] 0) (sgn [61] 0) [(str [97] 0)]
  | 9 => .test (wrd [115] 0) (sgn [33, 61] 0) [(str [98] 0)]
  | 10 => .test (wrd [115] 0) (sgn [60] 0) [(str [97, 98] 0)]
  | 11 => .test (wrd [115] 0) (sgn [62, 61] 0) [(str [98] 0)]
  | 12 => .test (wrd [115] 0) (wrd [108, 105, 107, 101] 0) [(str [97] 0)]
  | 13 => .test (wrd [115] 0) (wrd [108, 105, 107, 101] 0) [(str [] 0)]
  | 14 => .test (wrd [115] 0) (wrd [105, 110] 0) [(str [] 0), (str [98] 0)]
  | _ => .test (wrd [115] 0) (wrd [105, 115] 0) []
theorem testG_0 : TestG (testT 0) (testB 0) := testG_cmp (by kernel_rfl) (by kernel_rfl) (by kernel_rfl) (by kernel_rfl) (by kernel_rfl)
theorem testG_1 : TestG (testT 1) (testB 1) := testG_cmp (by kernel_rfl) (by kernel_rfl) (by kernel_rfl) (by kernel_rfl) (by kernel_rfl)
theorem testG_2 : TestG (testT 2) (testB 2) := testG_cmp (by kernel_rfl) (by kernel_rfl) (by kernel_rfl) (by kernel_rfl) (by kernel_rfl)
theorem testG_3 : TestG (testT 3) (testB 3) := testG_cmp (by kernel_rfl) (by kernel_rfl) (by kernel_rfl) (by kernel_rfl) (by kernel_rfl)
theorem testG_4 : TestG (testT 4) (testB 4) := testG_cmp (by kernel_rfl) (by kernel_rfl) (by kernel_rfl) (by kernel_rfl) (by kernel_rfl)
theorem testG_5 : TestG (testT 5) (testB 5) := testG_cmp (by kernel_rfl) (by kernel_rfl) (by kernel_rfl) (by kernel_rfl) (by kernel_rfl)
theorem testG_6 : TestG (testT 6) (testB 6) := testG_in (by kernel_rfl) (by kernel_rfl) (by kernel_rfl) (by kernel_rfl) (by kernel_rfl) (by kernel_rfl) (by kernel_rfl) _ (by simp) (fun t ht => by
    simp only [List.mem_cons, List.not_mem_nil, or_false] at ht
    rcases ht with rfl | rfl | rfl <;> (show _ = _; kernel_rfl))
theorem testG_7 : TestG (testT 7) (testB 7) := testG_is (by kernel_rfl) (by kernel_rfl) (by kernel_rfl) (by kernel_rfl) (by kernel_rfl) (by kernel_rfl) (by kernel_rfl)
theorem testG_8 : TestG (testT 8) (testB 8) := testG_cmp (by kernel_rfl) (by kernel_rfl) (by kernel_rfl) (by kernel_rfl) (by kernel_rfl)
theorem testG_9 : TestG (testT 9) (testB 9) := testG_cmp (by kernel_rfl) (by kernel_rfl) (by kernel_rfl) (by kernel_rfl) (by kernel_rfl)
theorem testG_10 : TestG (testT 10) (testB 10) := testG_cmp (by kernel_rfl) (by kernel_rfl) (by kernel_rfl) (by kernel_rfl) (by kernel_rfl)
theorem testG_11 : TestG (testT 11) (testB 11) := testG_cmp (by kernel_rfl) (by kernel_rfl) (by kernel_rfl) (by kernel_rfl) (by kernel_rfl)
theorem testG_12 : TestG (testT 12) (testB 12) := testG_like (by kernel_rfl) (by kernel_rfl) (by kernel_rfl) (by kernel_rfl) (by kernel_rfl) (by kernel_rfl)
theorem testG_13 : TestG (testT 13) (testB 13) := testG_like (by kernel_rfl) (by kernel_rfl) (by kernel_rfl) (by kernel_rfl) (by kernel_rfl) (by kernel_rfl)
theorem testG_14 : TestG (testT 14) (testB 14) := testG_in (by kernel_rfl) (by kernel_rfl) (by kernel_rfl) (by kernel_rfl) (by kernel_rfl) (by kernel_rfl) (by kernel_rfl) _ (by simp) (fun t ht => by
    simp only [List.mem_cons, List.not_mem_nil, or_false] at ht
    rcases ht with rfl | rfl <;> (show _ = _; kernel_rfl))
theorem testG_15 : TestG (testT 15) (testB 15) := testG_is (by kernel_rfl) (by kernel_rfl) (by kernel_rfl) (by kernel_rfl) (by kernel_rfl) (by kernel_rfl) (by kernel_rfl)
theorem testG_all : ∀ c, c < 16 → TestG (testT c) (testB c)
  | 0, _ => testG_0
  | 1, _ => testG_1
  | 2, _ => testG_2
  | 3, _ => testG_3
  | 4, _ => testG_4
  | 5, _ => testG_5
  | 6, _ => testG_6
  | 7, _ => testG_7
  | 8, _ => testG_8
  | 9, _ => testG_9
  | 10, _ => testG_10
  | 11, _ => testG_11
  | 12, _ => testG_12
  | 13, _ => testG_13
  | 14, _ => testG_14
  | 15, _ => testG_15
  | c + 16, h => by omega
theorem testL_0 : Lx (testS 0).data.toList (testT 0) := lexB_lx 40 _ _ (by kernel_rfl)
theorem testL_1 : Lx (testS 1).data.toList (testT 1) := lexB_lx 40 _ _ (by kernel_rfl)
theorem testL_2 : Lx (testS 2).data.toList (testT 2) := lexB_lx 40 _ _ (by kernel_rfl)
theorem testL_3 : Lx (testS 3).data.toList (testT 3) := lexB_lx 40 _ _ (by kernel_rfl)
theorem testL_4 : Lx (testS 4).data.toList (testT 4) := lexB_lx 40 _ _ (by kernel_rfl)
theorem testL_5 : Lx (testS 5).data.toList (testT 5) := lexB_lx 40 _ _ (by kernel_rfl)
theorem testL_6 : Lx (testS 6).data.toList (testT 6) := lexB_lx 40 _ _ (by kernel_rfl)
theorem testL_7 : Lx (testS 7).data.toList (testT 7) := lexB_lx 40 _ _ (by kernel_rfl)
theorem testL_8 : Lx (testS 8).data.toList (testT 8) := lexB_lx 40 _ _ (by kernel_rfl)
theorem testL_9 : Lx (testS 9).data.toList (testT 9) := lexB_lx 40 _ _ (by kernel_rfl)
theorem testL_10 : Lx (testS 10).data.toList (testT 10) := lexB_lx 40 _ _ (by kernel_rfl)
theorem testL_11 : Lx (testS 11).data.toList (testT 11) := lexB_lx 40 _ _ (by kernel_rfl)
theorem testL_12 : Lx (testS 12).data.toList (testT 12) := lexB_lx 40 _ _ (by kernel_rfl)
theorem testL_13 : Lx (testS 13).data.toList (testT 13) := lexB_lx 40 _ _ (by kernel_rfl)
theorem testL_14 : Lx (testS 14).data.toList (testT 14) := lexB_lx 40 _ _ (by kernel_rfl)
theorem testL_15 : Lx (testS 15).data.toList (testT 15) := lexB_lx 40 _ _ (by kernel_rfl)
theorem testL_all : ∀ c, c < 16 → Lx (testS c).data.toList (testT c)
  | 0, _ => testL_0
  | 1, _ => testL_1
  | 2, _ => testL_2
  | 3, _ => testL_3
  | 4, _ => testL_4
  | 5, _ => testL_5
  | 6, _ => testL_6
  | 7, _ => testL_7
  | 8, _ => testL_8
  | 9, _ => testL_9
  | 10, _ => testL_10
  | 11, _ => testL_11
  | 12, _ => testL_12
  | 13, _ => testL_13
  | 14, _ => testL_14
  | 15, _ => testL_15
  | c + 16, h => by omega
theorem testC_all : ((List.range 16).all fun c => (check fsK (testB c)).1 == 0) = true := by kernel_rfl
theorem testS_size : ((List.range 16).all fun c => decide ((testS c).size ≤ 15) && decide (5 ≤ (testS c).size)) = true := by kernel_rfl
end Doc
end Go.Proofs.YtbnelaoeblhndaaGreatDoor
/- Filters of the sixteen tests: that they are let in, and what they say. -/
namespace Go.Proofs.YtbnelaoeblhndaaGreatDoor
open Go.RowKit
set_option maxRecDepth 100000
namespace Doc

theorem litV_bare (t : Tok) : litV (bareT t) = litV t := rfl
theorem meetV_bare (x : Val) (o : Tok) (l : List Tok) : meetV x (bareT o) (l.map bareT) = meetV x o l := by
  unfold meetV
  rw [List.any_map, tk_bare]
  rfl
theorem sayV_bare (x : Val) (o : Tok) (l : List Tok) : sayV x (bareT o) (l.map bareT) = sayV x o l := by
  unfold sayV
  rw [meetV_bare]
  rfl
theorem eval_bare (fs : List Fld) (vals : List Val) : ∀ a : Ast, eval fs vals (bareA a) = eval fs vals a
  | .test n o l => by
    simp only [bareA, eval]
    rw [show (bareT n).S = n.S from rfl]
    cases idxF fs n.S with
    | none => rfl
    | some k => simp only; cases vals[k]? with
      | none => rfl
      | some x => exact sayV_bare x o l
  | .not a => by simp only [bareA, eval, eval_bare fs vals a]
  | .and a b => by simp only [bareA, eval, eval_bare fs vals a, eval_bare fs vals b]
  | .or a b => by simp only [bareA, eval, eval_bare fs vals a, eval_bare fs vals b]
theorem litBad_bare (kd : Int) : ∀ l : List Tok, (litBad kd (l.map bareT)).1 = (litBad kd l).1
  | [] => rfl
  | t :: r => by
    simp only [List.map_cons, litBad, show litK (bareT t) = litK t from rfl]
    cases (litK t == kd)
    · rfl
    · exact litBad_bare kd r
theorem check_bare (fs : List Fld) : ∀ a : Ast, (check fs (bareA a)).1 = (check fs a).1
  | .test n o l => by
    simp only [bareA, check, checkT, show (bareT n).S = n.S from rfl, show (bareT o).S = o.S from rfl]
    cases idxF fs n.S with
    | none => rfl
    | some k => simp only; cases fs[k]? with
      | none => rfl
      | some f =>
        simp only
        cases (o.S.toList == [108, 105, 107, 101] && f.kind != 2)
        · exact litBad_bare _ l
        · rfl
  | .not a => check_bare fs a
  | .and a b => by
    simp only [bareA, check, check_bare fs a]
    cases ((check fs a).1 == 0)
    · exact check_bare fs a
    · exact check_bare fs b
  | .or a b => by
    simp only [bareA, check, check_bare fs a]
    cases ((check fs a).1 == 0)
    · exact check_bare fs a
    · exact check_bare fs b

/-- The fields fit. -/
def chkB (A : Ast) : Bool := (check fsK A).1 == 0
theorem chk_not {A : Ast} (h : chkB A = true) : chkB (.not A) = true := h
theorem chk_and {A B : Ast} (h : chkB A = true) (k : chkB B = true) : chkB (.and A B) = true := by
  unfold chkB at *
  show ((bif (check fsK A).1 == 0 then check fsK B else check fsK A).1 == 0) = true
  rw [h]; exact k
theorem chk_or {A B : Ast} (h : chkB A = true) (k : chkB B = true) : chkB (.or A B) = true := by
  unfold chkB at *
  show ((bif (check fsK A).1 == 0 then check fsK B else check fsK A).1 == 0) = true
  rw [h]; exact k
theorem chk_test (c : Nat) (h : c < 16) : chkB (testB c) = true := List.all_eq_true.1 testC_all c (List.mem_range.2 h)

/-- A text that the grammar makes, of d brackets and nots in one another at most. -/
structure Fil (k : Nat) (l : List UInt8) (d : Nat) (A : Ast) : Prop where
  has : ∃ ts, Lx l ts ∧ G k d ts A
  chk : chkB A = true
theorem Fil.letIn {s : ByteArray} {d : Nat} {A : Ast} (h : Fil 2 s.data.toList d A) (hd : d ≤ 6) (hs : s.size ≤ 200) : ∃ a, LetIn s a ∧ ∀ vals, eval fsK vals a = eval fsK vals A := by
  obtain ⟨ts, h1, h2⟩ := h.has
  obtain ⟨a, j, hp, hb⟩ := h1.reads (h2.upto hd)
  refine ⟨a, ⟨hs, ⟨j, hp⟩, ?_⟩, fun vals => by rw [← hb, eval_bare]⟩
  have hc := h.chk
  unfold chkB at hc
  rw [← hb, check_bare] at hc
  exact check_zero hc
theorem Fil.upto {k : Nat} {l : List UInt8} {d e : Nat} {A : Ast} (h : Fil k l d A) (he : d ≤ e) : Fil k l e A := by
  obtain ⟨ts, h1, h2⟩ := h.has
  exact ⟨⟨ts, h1, h2.upto he⟩, h.chk⟩
theorem fil_test (c : Nat) (h : c < 16) (d : Nat) : Fil 0 (testS c).data.toList d (testB c) := ⟨⟨_, testL_all c h, .test (testG_all c h)⟩, chk_test c h⟩
theorem Fil.one {l : List UInt8} {d : Nat} {A : Ast} (h : Fil 0 l d A) : Fil 1 l d A := by
  obtain ⟨ts, h1, h2⟩ := h.has; exact ⟨⟨ts, h1, .one h2⟩, h.chk⟩
theorem Fil.all {l : List UInt8} {d : Nat} {A : Ast} (h : Fil 1 l d A) : Fil 2 l d A := by
  obtain ⟨ts, h1, h2⟩ := h.has; exact ⟨⟨ts, h1, .all h2⟩, h.chk⟩
theorem Fil.not {l : List UInt8} {d : Nat} {A : Ast} (h : Fil 0 l d A) : Fil 0 (110 :: 111 :: 116 :: 32 :: l) (d + 1) (.not A) := by
  obtain ⟨ts, h1, h2⟩ := h.has; exact ⟨⟨_, h1.notW, .not h2⟩, chk_not h.chk⟩
theorem Fil.par {l : List UInt8} {d : Nat} {A : Ast} (h : Fil 2 l d A) : Fil 0 (40 :: (l ++ [41])) (d + 1) A := by
  obtain ⟨ts, h1, h2⟩ := h.has
  exact ⟨⟨_, (h1.app (Lx.cls .nil) (.inr ⟨[], .inr (.inr rfl)⟩)).opn, .par h2⟩, h.chk⟩
theorem Fil.and {l m : List UInt8} {d : Nat} {A B : Ast} (h : Fil 1 l d A) (k : Fil 0 m d B) : Fil 1 (l ++ 32 :: 97 :: 110 :: 100 :: 32 :: m) d (.and A B) := by
  obtain ⟨ts, h1, h2⟩ := h.has
  obtain ⟨us, k1, k2⟩ := k.has
  exact ⟨⟨_, h1.app k1.andW.blank (.inr ⟨_, .inl rfl⟩), .and h2 k2⟩, chk_and h.chk k.chk⟩
theorem Fil.or {l m : List UInt8} {d : Nat} {A B : Ast} (h : Fil 2 l d A) (k : Fil 1 m d B) : Fil 2 (l ++ 32 :: 111 :: 114 :: 32 :: m) d (.or A B) := by
  obtain ⟨ts, h1, h2⟩ := h.has
  obtain ⟨us, k1, k2⟩ := k.has
  exact ⟨⟨_, h1.app k1.orW.blank (.inr ⟨_, .inl rfl⟩), .or h2 k2⟩, chk_or h.chk k.chk⟩

/-- Never both. -/
theorem eval_one (fs : List Fld) (vals : List Val) : ∀ a : Ast, ((eval fs vals a).1 && (eval fs vals a).2) = false
  | .test n o l => by
    simp only [eval]
    cases idxF fs n.S with
    | none => rfl
    | some k => simp only; cases vals[k]? with
      | none => rfl
      | some x =>
        simp only [sayV]
        cases (o.S.toList == [105, 115]) <;> cases (x.k == 0) <;> cases meetV x o l <;> rfl
  | .not a => by have := eval_one fs vals a; simp only [eval]; rw [Bool.and_comm]; exact this
  | .and a b => by
    have h1 := eval_one fs vals a
    have h2 := eval_one fs vals b
    simp only [eval]
    cases h3 : (eval fs vals a).1 <;> cases h4 : (eval fs vals a).2 <;> cases h5 : (eval fs vals b).1 <;> cases h6 : (eval fs vals b).2 <;> simp_all
  | .or a b => by
    have h1 := eval_one fs vals a
    have h2 := eval_one fs vals b
    simp only [eval]
    cases h3 : (eval fs vals a).1 <;> cases h4 : (eval fs vals a).2 <;> cases h5 : (eval fs vals b).1 <;> cases h6 : (eval fs vals b).2 <;> simp_all
end Doc
end Go.Proofs.YtbnelaoeblhndaaGreatDoor
/- The walks of the statements' test and filter (rummagekeep). -/
namespace Go.Proofs.YtbnelaoeblhndaaGreatDoor
open Go.RowKit
set_option maxRecDepth 100000

section
variable {w : World}
set_option maxHeartbeats 4000000 in
theorem ktest_any (c : Int) (hc : In64 c) : Calls Tryz.prog 24 #[.int .i64 c] w fun e w' => e = .returned (.string (Doc.testS (Doc.pickN c 16))) ∧ Below w.heap.size w w' := by
  obtain ⟨r, er, hr, HP⟩ := pick_all c hc 16 (by decide) (by decide)
  rw [er]
  clear er
  have h16 : r = 0 ∨ r = 1 ∨ r = 2 ∨ r = 3 ∨ r = 4 ∨ r = 5 ∨ r = 6 ∨ r = 7 ∨ r = 8 ∨ r = 9 ∨ r = 10 ∨ r = 11 ∨ r = 12 ∨ r = 13 ∨ r = 14 ∨ r = 15 := by omega
  rcases h16 with rfl | rfl | rfl | rfl | rfl | rfl | rfl | rfl | rfl | rfl | rfl | rfl | rfl | rfl | rfl | rfl <;> (
    go_enter Tryz.func24, Tryz.ntmps24
    go_wp2_with fail
    refine Calls.mono (HP.out _) ?_
    rintro e w1 ⟨rfl, hw1⟩
    rw [hw1]
    clear hw1 w1
    go_wp2_with fail
    go_ret
    exact ⟨rfl, (Below.refl _ _).alloc (Nat.le_refl _) _⟩)

theorem tS_size (c : Nat) (h : c < 16) : (Doc.testS c).size ≤ 15 := by
  have := List.all_eq_true.1 Doc.testS_size c (List.mem_range.2 h)
  simp only [Bool.and_eq_true, decide_eq_true_eq] at this
  exact this.1

/-- A filter of the statements. -/
structure FilK (f : ByteArray) (d : Nat) (A : Doc.Ast) : Prop where
  fil : Doc.Fil 2 f.data.toList d A
  dep : d ≤ 3
  len : f.size ≤ 60

theorem filK_test (c : Nat) (h : c < 16) : FilK (Doc.testS c) 0 (Doc.testB c) := ⟨(Doc.fil_test c h 0).one.all, by decide, Nat.le_trans (tS_size c h) (by decide)⟩

theorem step0 {f : ByteArray} {d : Nat} {A : Doc.Ast} (h : FilK f d A) (c : Nat) (hc : c < 16) : Doc.Fil 2 (⟨#[40]⟩ ++ f ++ ⟨#[41, 32, 97, 110, 100, 32]⟩ ++ Doc.testS c : ByteArray).data.toList (d + 1) (.and A (Doc.testB c)) := by
  have := ((h.fil.par).one.and (Doc.fil_test c hc (d + 1))).all
  simpa using this
theorem step1 {f : ByteArray} {d : Nat} {A : Doc.Ast} (h : FilK f d A) (c : Nat) (hc : c < 16) : Doc.Fil 2 (⟨#[40]⟩ ++ f ++ ⟨#[41, 32, 111, 114, 32]⟩ ++ Doc.testS c : ByteArray).data.toList (d + 1) (.or A (Doc.testB c)) := by
  have := (h.fil.par).one.all.or (Doc.fil_test c hc (d + 1)).one
  simpa using this
theorem step2 {f : ByteArray} {d : Nat} {A : Doc.Ast} (h : FilK f d A) (c : Nat) (hc : c < 16) : Doc.Fil 2 (Doc.testS c ++ ⟨#[32, 97, 110, 100, 32, 110, 111, 116, 32, 40]⟩ ++ f ++ ⟨#[41]⟩ : ByteArray).data.toList (d + 2) (.and (Doc.testB c) (.not A)) := by
  have := ((Doc.fil_test c hc (d + 2)).one.and (h.fil.par).not).all
  simpa using this
theorem step3 {f : ByteArray} {d : Nat} {A : Doc.Ast} (h : FilK f d A) (c : Nat) (hc : c < 16) : Doc.Fil 2 (⟨#[110, 111, 116, 32]⟩ ++ Doc.testS c ++ ⟨#[32, 111, 114, 32, 40]⟩ ++ f ++ ⟨#[41]⟩ : ByteArray).data.toList (d + 1) (.or (.not (Doc.testB c)) A) := by
  have := ((Doc.fil_test c hc 0).not.upto (show 0 + 1 ≤ d + 1 by omega)).one.all.or (h.fil.par).one
  simpa using this
end
end Go.Proofs.YtbnelaoeblhndaaGreatDoor
/- The walk of the statements' filter (rummagekeep). -/
namespace Go.Proofs.YtbnelaoeblhndaaGreatDoor
open Go.RowKit
set_option maxRecDepth 100000

section
variable {w : World}
theorem in64_wrap (n : Int) : In64 (wrap64 n) := by
  unfold In64 wrap64
  omega
set_option maxHeartbeats 8000000 in
theorem kfilter_any (R : List Int) (hR : ∀ x ∈ R, In64 x) (hl : R.length ≤ 9223372036854775807) (rv : Value) (hr : Sl w rv R.length (intC R)) :
    Calls Tryz.prog 17 #[rv] w fun e w' => ∃ f d A, e = .returned (.string f) ∧ FilK f d A ∧ Below w.heap.size w w' := by
  have HT0 : Hid (∀ W : World, Calls Tryz.prog 24 #[.int .i64 0] W fun e w' => e = .returned (.string (Doc.testS 0)) ∧ Below W.heap.size W w') := fun W => ktest_any 0 (by unfold In64; omega)
  have HRR : Hid _ := hr
  have HR : Hid _ := hR
  obtain ⟨ra, rc, hrv⟩ := hr.slice
  subst hrv
  obtain ⟨F0, HF0⟩ : ∃ F, Hid (F = Doc.testS 0) := ⟨_, rfl⟩
  rw [← HF0.out] at HT0
  have HK0 : Hid (FilK F0 0 (Doc.testB 0)) := by rw [HF0.out]; exact filK_test 0 (by decide)
  clear hr hR
  go_enter Tryz.func17, Tryz.ntmps17
  go_wp2_with fail
  refine Calls.mono (HT0.out _) ?_
  rintro e w1 ⟨rfl, hb1⟩
  go_wp2_with fail
  go_loopw [3, 4, 5] (fun fv dv i wr => ∃ (f : ByteArray) (d j : Nat) (A : Doc.Ast), fv = .string f ∧ dv = .int .i64 d ∧ i = .int .i64 j ∧ j ≤ 6 ∧ j ≤ R.length ∧ Hid (FilK f d A) ∧ Below w.heap.size w wr) (fun _ _ i _ => 6 - (intOf i).toNat)
  case atStart => exact ⟨F0, 0, 0, _, rfl, rfl, rfl, by omega, by omega, HK0, hb1⟩
  case round =>
    obtain ⟨f, d, j, A, rfl, rfl, rfl, hj6, hjl, HK, hB⟩ := hrel
    by_cases hj2 : j < R.length ∧ j < 6
    · obtain ⟨hj2, hj3⟩ := hj2
      rcases HRR.out.has with ⟨h0', _⟩ | ⟨_, lb, lo, lcap, elv, hc2, hlt2, hr2⟩
      · omega
      cases elv
      obtain ⟨x, HX⟩ : ∃ x, Hid (x = R[j]) := ⟨R[j], rfl⟩
      have r0 : wr.cell? ⟨lb, lo + j, none⟩ = some (.int .i64 x) := by rw [hB.cell (p := ⟨lb, lo + j, none⟩) hlt2, HX.out]; exact hr2 j _ (int_at R j hj2)
      have hx64 := HR.out x (by rw [HX.out]; exact List.getElem_mem hj2)
      obtain ⟨c, HC⟩ : ∃ c, Hid (c = Doc.pickN x 16) := ⟨_, rfl⟩
      have hc16 : c < 16 := by rw [HC.out]; exact Doc.pickN_lt x (by decide)
      obtain ⟨T, HT⟩ : ∃ T, Hid (T = Doc.testS c) := ⟨_, rfl⟩
      have HTX : Hid (∀ W : World, Calls Tryz.prog 24 #[.int .i64 x] W fun e w' => e = .returned (.string T) ∧ Below W.heap.size W w') := fun W => by rw [HT.out, HC.out]; exact ktest_any x hx64
      have hts : T.size ≤ 15 := by rw [HT.out]; exact tS_size c hc16
      have hfs := HK.out.len
      have hds := HK.out.dep
      obtain ⟨r, er, hr4, HP⟩ := pick_all (wrap64 (x.tdiv 16)) (in64_wrap _) 4 (by decide) (by decide)
      have HKT : Hid (FilK T 0 (Doc.testB c)) := by rw [HT.out]; exact filK_test c hc16
      have HN : Hid (∀ (f' : ByteArray) (d' : Nat) (A' : Doc.Ast), Doc.Fil 2 f'.data.toList d' A' → f'.size ≤ 60 → d' ≤ 3 → FilK f' d' A') := fun f' d' A' h1 h2 h3 => ⟨h1, h3, h2⟩
      have HS0 : Hid _ := step0 HK.out c hc16
      have HS1 : Hid _ := step1 HK.out c hc16
      have HS2 : Hid _ := step2 HK.out c hc16
      have HS3 : Hid _ := step3 HK.out c hc16
      rw [← HT.out] at HS0 HS1 HS2 HS3
      have hlt3 : lb < wr.heap.size := Nat.lt_of_lt_of_le hlt2 hB.size
      clear er hr2 hx64
      have h4 : r = 0 ∨ r = 1 ∨ r = 2 ∨ r = 3 := by omega
      clear hr4
      rcases h4 with rfl | rfl | rfl | rfl
      · go_wp2_with fail
        refine Calls.mono (HTX.out _) ?_
        rintro e w2 ⟨rfl, hb2⟩
        have r1 := (hb2.cell (p := ⟨lb, lo + j, none⟩) hlt3).trans r0
        have HB2 : Hid (Below w.heap.size w w2) := hB.trans (hb2.mono hB.size)
        go_wp2_with fail
        refine Calls.mono (HP.out _) ?_
        rintro e w3 ⟨rfl, hw3⟩
        rw [hw3]
        clear hw3 w3
        go_wp2_with fail
        all_goals first
          | (exfalso; omega)
          | exact ⟨⟨T, 0, j + 1, _, rfl, rfl, by go_num, by omega, by omega, HKT, HB2.out⟩, by simp [intOf]; omega⟩
          | exact ⟨⟨_, d + 1, j + 1, _, rfl, by go_num, by go_num, by omega, by omega, HN.out _ _ _ HS0.out (by rw [ByteArray.size_append, ByteArray.size_append, ByteArray.size_append]; show 1 + f.size + 6 + T.size ≤ 60; omega) (by omega), HB2.out⟩, by simp [intOf]; omega⟩
      · go_wp2_with fail
        refine Calls.mono (HTX.out _) ?_
        rintro e w2 ⟨rfl, hb2⟩
        have r1 := (hb2.cell (p := ⟨lb, lo + j, none⟩) hlt3).trans r0
        have HB2 : Hid (Below w.heap.size w w2) := hB.trans (hb2.mono hB.size)
        go_wp2_with fail
        refine Calls.mono (HP.out _) ?_
        rintro e w3 ⟨rfl, hw3⟩
        rw [hw3]
        clear hw3 w3
        go_wp2_with fail
        all_goals first
          | (exfalso; omega)
          | exact ⟨⟨T, 0, j + 1, _, rfl, rfl, by go_num, by omega, by omega, HKT, HB2.out⟩, by simp [intOf]; omega⟩
          | exact ⟨⟨_, d + 1, j + 1, _, rfl, by go_num, by go_num, by omega, by omega, HN.out _ _ _ HS1.out (by rw [ByteArray.size_append, ByteArray.size_append, ByteArray.size_append]; show 1 + f.size + 5 + T.size ≤ 60; omega) (by omega), HB2.out⟩, by simp [intOf]; omega⟩
      · go_wp2_with fail
        refine Calls.mono (HTX.out _) ?_
        rintro e w2 ⟨rfl, hb2⟩
        have r1 := (hb2.cell (p := ⟨lb, lo + j, none⟩) hlt3).trans r0
        have HB2 : Hid (Below w.heap.size w w2) := hB.trans (hb2.mono hB.size)
        go_wp2_with fail
        refine Calls.mono (HP.out _) ?_
        rintro e w3 ⟨rfl, hw3⟩
        rw [hw3]
        clear hw3 w3
        go_wp2_with fail
        all_goals first
          | (exfalso; omega)
          | exact ⟨⟨T, 0, j + 1, _, rfl, rfl, by go_num, by omega, by omega, HKT, HB2.out⟩, by simp [intOf]; omega⟩
          | exact ⟨⟨_, d + 2, j + 1, _, rfl, by go_num, by go_num, by omega, by omega, HN.out _ _ _ HS2.out (by rw [ByteArray.size_append, ByteArray.size_append, ByteArray.size_append]; show T.size + 10 + f.size + 1 ≤ 60; omega) (by omega), HB2.out⟩, by simp [intOf]; omega⟩
      · go_wp2_with fail
        refine Calls.mono (HTX.out _) ?_
        rintro e w2 ⟨rfl, hb2⟩
        have r1 := (hb2.cell (p := ⟨lb, lo + j, none⟩) hlt3).trans r0
        have HB2 : Hid (Below w.heap.size w w2) := hB.trans (hb2.mono hB.size)
        go_wp2_with fail
        refine Calls.mono (HP.out _) ?_
        rintro e w3 ⟨rfl, hw3⟩
        rw [hw3]
        clear hw3 w3
        go_wp2_with fail
        all_goals first
          | (exfalso; omega)
          | exact ⟨⟨T, 0, j + 1, _, rfl, rfl, by go_num, by omega, by omega, HKT, HB2.out⟩, by simp [intOf]; omega⟩
          | exact ⟨⟨_, d + 1, j + 1, _, rfl, by go_num, by go_num, by omega, by omega, HN.out _ _ _ HS3.out (by rw [ByteArray.size_append, ByteArray.size_append, ByteArray.size_append, ByteArray.size_append]; show 4 + T.size + 5 + f.size + 1 ≤ 60; omega) (by omega), HB2.out⟩, by simp [intOf]; omega⟩
    · have hout : R.length ≤ j ∨ 6 ≤ j := by omega
      have HKF : Hid _ := HK.out
      rcases Nat.lt_or_ge j R.length with h1 | h1
      · have h2 : 6 ≤ j := by omega
        go_wp2_with fail
        all_goals first
          | (exfalso; omega)
          | (go_ret; exact ⟨f, d, A, rfl, HKF.out, hB⟩)
      · go_wp2_with fail
        all_goals first
          | (exfalso; omega)
          | (go_ret; exact ⟨f, d, A, rfl, HKF.out, hB⟩)
end
end Go.Proofs.YtbnelaoeblhndaaGreatDoor
/- The walk of the statement Logic. -/
namespace Go.Proofs.YtbnelaoeblhndaaGreatDoor
open Go.RowKit
set_option maxRecDepth 100000

section
variable {w : World} {F : Nat → Prop} {sb : Nat} {th : Has}

/-- What chosen gives of a filter that the grammar makes. -/
theorem chosen_fil (h : ProgSt w F sb Doc.fsK 2 th) (hL : LaidF w) {s : ByteArray} {d : Nat} {A : Doc.Ast} (hf : Doc.Fil 2 s.data.toList d A) (hd : d ≤ 6) (hs : s.size ≤ 200) :
    Calls Tryz.prog 18 #[.pointer (some ⟨sb, 0, none⟩), .string s] w fun e w' => ∃ v ys, e = .returned (.tuple #[v, .bool true]) ∧ (∀ j, j < 4096 → memB ys j = saysY Doc.fsK th A j) ∧ Sl w' v (nums ys).length (natC (nums ys)) ∧ Below w.heap.size w w' := by
  obtain ⟨a, ha, he⟩ := hf.letIn hd hs
  refine (chosen_in h hL ha).mono ?_
  rintro e w' ⟨v, ys, rfl, hy, hsl, hb⟩
  refine ⟨v, ys, rfl, fun j hj => (hy j hj).trans ?_, hsl, hb⟩
  unfold saysY
  cases th (j : Int) with
  | none => rfl
  | some t => simp only; rw [he]

theorem kall_any (h : ProgSt w F sb Doc.fsK 2 th) (hL : LaidF w) :
    Calls Tryz.prog 25 #[.pointer (some ⟨sb, 0, none⟩)] w fun e w' => ∃ v ys, e = .returned (.tuple #[v, .bool true]) ∧ (∀ j, j < 4096 → memB ys j = saysY Doc.fsK th Doc.allA j) ∧ Sl w' v (nums ys).length (natC (nums ys)) ∧ Below w.heap.size w w' := by
  have HC : Hid _ := chosen_in h hL (s := Doc.allS) (a := Doc.allA) Doc.read_all
  clear h hL
  go_enter Tryz.func25, Tryz.ntmps25
  go_wp2_with fail
  refine Calls.mono HC.out ?_
  rintro e w1 ⟨v, ys, rfl, hy, hsl, hb1⟩
  obtain ⟨c, d, hv⟩ := hsl.slice
  subst hv
  have HSL : Hid _ := hsl
  have HY : Hid _ := hy
  clear hy hsl
  go_wp2_with fail
  go_ret2
  exact ⟨_, ys, rfl, HY.out, HSL.out, hb1⟩
end

/-- All things are told. -/
theorem all_says {th : Has} (ho : OfK th) (j : Nat) : saysY Doc.fsK th Doc.allA j = (th (j : Int)).isSome := by
  unfold saysY
  cases ht : th (j : Int) with
  | none => rfl
  | some t =>
    obtain ⟨x, hx, y, hy, e⟩ := ho _ t ht
    simp only
    rw [e]
    have h1 : (Doc.eval Doc.fsK [x, y] Doc.allA).1 = ((x.k == 0) || !(x.k == 0)) := by kernel_rfl
    rw [h1]
    cases (x.k == 0) <;> rfl
theorem yes_some {th : Has} {A : Doc.Ast} {j : Nat} (h : saysY Doc.fsK th A j = true) : (th (j : Int)).isSome = true := by
  unfold saysY at h
  cases ht : th (j : Int) with
  | none => rw [ht] at h; cases h
  | some t => rfl
theorem yes_not {th : Has} {A : Doc.Ast} {j : Nat} (h : saysY Doc.fsK th A j = true) : saysY Doc.fsK th (.not A) j = false := by
  unfold saysY at h ⊢
  cases ht : th (j : Int) with
  | none => rfl
  | some t =>
    rw [ht] at h
    simp only at h ⊢
    have := Doc.eval_one Doc.fsK t.2 A
    rw [h] at this
    simpa [Doc.eval] using this
theorem says_eq {th : Has} {A B : Doc.Ast} (h : ∀ vals, (Doc.eval Doc.fsK vals A).1 = (Doc.eval Doc.fsK vals B).1) (j : Nat) : saysY Doc.fsK th A j = saysY Doc.fsK th B j := by
  unfold saysY
  cases th (j : Int) with
  | none => rfl
  | some t => exact h t.2
theorem any_false {l : List Nat} {n : Nat} (h : n ∉ l) : (l.map Int.ofNat).any (· == (n : Int)) = false := by
  rw [List.any_eq_false]
  intro x hx
  obtain ⟨k, hk, rfl⟩ := List.mem_map.1 hx
  simp only [beq_iff_eq]
  intro e
  have : k = n := by simp at e; omega
  exact h (this ▸ hk)

section
variable {f t : ByteArray} {d : Nat} {A : Doc.Ast} {c : Nat}
theorem fil_b (h : FilK f d A) : Doc.Fil 2 (⟨#[110, 111, 116, 32, 40]⟩ ++ f ++ ⟨#[41]⟩ : ByteArray).data.toList (d + 2) (.not A) := by
  have := (h.fil.par).not.one.all; simpa using this
theorem fil_c (h : FilK f d A) : Doc.Fil 2 (⟨#[110, 111, 116, 32, 110, 111, 116, 32, 40]⟩ ++ f ++ ⟨#[41]⟩ : ByteArray).data.toList (d + 3) (.not (.not A)) := by
  have := (h.fil.par).not.not.one.all; simpa using this
theorem fil_d (h : FilK f d A) : Doc.Fil 2 (⟨#[40]⟩ ++ f ++ ⟨#[41, 32, 97, 110, 100, 32, 40]⟩ ++ f ++ ⟨#[41, 32, 111, 114, 32, 40]⟩ ++ f ++ ⟨#[41]⟩ : ByteArray).data.toList (d + 1) (.or (.and A A) A) := by
  have := ((h.fil.par).one.and (h.fil.par)).all.or (h.fil.par).one; simpa using this
theorem fil_x (h : FilK f d A) (hc : c < 16) : Doc.Fil 2 (⟨#[110, 111, 116, 32, 40, 40]⟩ ++ f ++ ⟨#[41, 32, 97, 110, 100, 32]⟩ ++ Doc.testS c ++ ⟨#[41]⟩ : ByteArray).data.toList (d + 3) (.not (.and A (Doc.testB c))) := by
  have := ((((h.fil.par).one.and (Doc.fil_test c hc (d + 1))).all).par).not.one.all; simpa using this
theorem fil_y (h : FilK f d A) (hc : c < 16) : Doc.Fil 2 (⟨#[110, 111, 116, 32, 40]⟩ ++ f ++ ⟨#[41, 32, 111, 114, 32, 110, 111, 116, 32]⟩ ++ Doc.testS c : ByteArray).data.toList (d + 2) (.or (.not A) (.not (Doc.testB c))) := by
  have := ((h.fil.par).not.one.all).or (((Doc.fil_test c hc 0).not.upto (show 0 + 1 ≤ d + 2 by omega)).one); simpa using this
end
end Go.Proofs.YtbnelaoeblhndaaGreatDoor
/- The walk of the statement Logic, whole. -/
namespace Go.Proofs.YtbnelaoeblhndaaGreatDoor
open Go.RowKit
set_option maxRecDepth 100000

section
variable {w : World}

set_option maxHeartbeats 16000000 in
theorem logic_any (hL : LaidF w) (L : List Doc.Raw) (hll : L.length ≤ 9223372036854775807) (h64 : ∀ t ∈ L, Raw64 t) (tv : Value) (ht : Sl w tv L.length (rawsC L)) (R : List Int) (hR : ∀ x ∈ R, In64 x) (hrl : R.length ≤ 9223372036854775807) (rv : Value) (hrv : Sl w rv R.length (intC R)) (o : Int) (hoo : In64 o) :
    Calls Tryz.prog 8 #[tv, rv, .int .i64 o] w fun e w' => e = .returned (.bool true) ∧ Below w.heap.size w w' := by
  have HFI : Hid _ := filled_any hL.sg hL.g1 L hll h64 tv ht
  have HFT : Hid (∀ W : World, Below w.heap.size w W → Calls Tryz.prog 17 #[rv] W fun e w' => ∃ f d A, e = .returned (.string f) ∧ FilK f d A ∧ Below W.heap.size W w') := fun W hW => kfilter_any R hR hrl rv (hrv.below hW)
  obtain ⟨c, HC⟩ : ∃ c, Hid (c = Doc.pickN o 16) := ⟨_, rfl⟩
  have hc16 : c < 16 := by rw [HC.out]; exact Doc.pickN_lt o (by decide)
  obtain ⟨T, HT⟩ : ∃ T, Hid (T = Doc.testS c) := ⟨_, rfl⟩
  have HTX : Hid (∀ W : World, Calls Tryz.prog 24 #[.int .i64 o] W fun e w' => e = .returned (.string T) ∧ Below W.heap.size W w') := fun W => by rw [HT.out, HC.out]; exact ktest_any o hoo
  have hts : T.size ≤ 15 := by rw [HT.out]; exact tS_size c hc16
  obtain ⟨ta, tc, htv⟩ := ht.slice
  subst htv
  obtain ⟨ra, rc, hrs⟩ := hrv.slice
  subst hrs
  have HLL : Hid _ := hL
  have g1 := hL.g1
  have g2 := hL.g2
  clear ht h64 hL hrv hR
  go_enter Tryz.func8, Tryz.ntmps8
  go_wp2_with fail
  refine Calls.mono HFI.out ?_
  rintro e w1 ⟨sb, rfl, hp1, hb1⟩
  have HP1 : Hid _ := hp1
  have HB1 : Hid _ := hb1
  have HLW : Hid (∀ W : World, Below w1.heap.size w1 W → LaidF W ∧ ProgSt W (fun k => w.heap.size ≤ k ∧ k < w1.heap.size) sb Doc.fsK 2 (storeK L)) := fun W hW =>
    ⟨HLL.out.below (HB1.out.trans (hW.mono HB1.out.size)) g1 g2, ProgSt.kept HP1.out (fun k hk _ => hW.block k hk.2) (fun k hk _ => hk)⟩
  clear hp1 hb1
  go_wp2_with fail
  refine Calls.mono (HFT.out _ HB1.out) ?_
  rintro e w2 ⟨f, d, A, rfl, hfk, hb2⟩
  have HFK : Hid _ := hfk
  have hfs := hfk.len
  have hds := hfk.dep
  have HB2 : Hid _ := hb2
  clear hfk hb2
  go_wp2_with fail
  refine Calls.mono (HTX.out _) ?_
  rintro e w3 ⟨rfl, hb3⟩
  have HB3 : Hid (Below w1.heap.size w1 w3) := HB2.out.trans (hb3.mono HB2.out.size)
  clear hb3
  have HCH : Hid (∀ (W : World) (s : ByteArray) (dd : Nat) (B : Doc.Ast), Below w1.heap.size w1 W → Doc.Fil 2 s.data.toList dd B → dd ≤ 6 → s.size ≤ 200 → Calls Tryz.prog 18 #[.pointer (some ⟨sb, 0, none⟩), .string s] W fun e w' => ∃ v ys, e = .returned (.tuple #[v, .bool true]) ∧ (∀ j, j < 4096 → memB ys j = saysY Doc.fsK (storeK L) B j) ∧ Sl w' v (nums ys).length (natC (nums ys)) ∧ Below W.heap.size W w') := fun W s dd B hW h1 h2 h3 => chosen_fil (HLW.out W hW).2 (HLW.out W hW).1 h1 h2 h3
  have HFB : Hid _ := fil_b HFK.out
  have HFC : Hid _ := fil_c HFK.out
  have HFD : Hid _ := fil_d HFK.out
  have HFX : Hid _ := fil_x HFK.out hc16
  have HFY : Hid _ := fil_y HFK.out hc16
  rw [← HT.out] at HFX HFY
  go_wp2_with fail
  refine Calls.mono (HCH.out _ _ _ _ HB3.out HFK.out.fil (by omega) (by omega)) ?_
  rintro e wa ⟨va, ysa, rfl, hya, hsa, hba⟩
  obtain ⟨ca, da, hva⟩ := hsa.slice
  subst hva
  have HYa : Hid _ := hya
  have HSLa : Hid _ := hsa
  have HBCa : Hid _ := hba
  have HBa : Hid (Below w1.heap.size w1 wa) := HB3.out.trans (hba.mono HB3.out.size)
  clear hya hsa hba
  go_wp2_with fail
  all_goals first | (exfalso; omega) | skip
  refine Calls.mono (HCH.out _ _ _ _ HBa.out HFB.out (by omega) (by rw [ByteArray.size_append, ByteArray.size_append]; show 5 + f.size + 1 ≤ 200; omega)) ?_
  rintro e wb ⟨vb, ysb, rfl, hyb, hsb, hbb⟩
  obtain ⟨cb, db, hvb⟩ := hsb.slice
  subst hvb
  have HYb : Hid _ := hyb
  have HSLb : Hid _ := hsb
  have HBCb : Hid _ := hbb
  have HBb : Hid (Below w1.heap.size w1 wb) := HBa.out.trans (hbb.mono HBa.out.size)
  clear hyb hsb hbb
  go_wp2_with fail
  all_goals first | (exfalso; omega) | skip
  refine Calls.mono (HCH.out _ _ _ _ HBb.out HFC.out (by omega) (by rw [ByteArray.size_append, ByteArray.size_append]; show 9 + f.size + 1 ≤ 200; omega)) ?_
  rintro e wc ⟨vc, ysc, rfl, hyc, hsc, hbc⟩
  obtain ⟨cc, dc, hvc⟩ := hsc.slice
  subst hvc
  have HYc : Hid _ := hyc
  have HSLc : Hid _ := hsc
  have HBCc : Hid _ := hbc
  have HBc : Hid (Below w1.heap.size w1 wc) := HBb.out.trans (hbc.mono HBb.out.size)
  clear hyc hsc hbc
  go_wp2_with fail
  all_goals first | (exfalso; omega) | skip
  refine Calls.mono (HCH.out _ _ _ _ HBc.out HFD.out (by omega) (by rw [ByteArray.size_append, ByteArray.size_append, ByteArray.size_append, ByteArray.size_append, ByteArray.size_append, ByteArray.size_append]; show 1 + f.size + 7 + f.size + 6 + f.size + 1 ≤ 200; omega)) ?_
  rintro e wd ⟨vd, ysd, rfl, hyd, hsd, hbd⟩
  obtain ⟨cd, dd, hvd⟩ := hsd.slice
  subst hvd
  have HYd : Hid _ := hyd
  have HSLd : Hid _ := hsd
  have HBCd : Hid _ := hbd
  have HBd : Hid (Below w1.heap.size w1 wd) := HBc.out.trans (hbd.mono HBc.out.size)
  clear hyd hsd hbd
  go_wp2_with fail
  all_goals first | (exfalso; omega) | skip
  refine Calls.mono (kall_any (HLW.out _ HBd.out).2 (HLW.out _ HBd.out).1) ?_
  rintro e we ⟨ve, yse, rfl, hye, hse, hbe⟩
  obtain ⟨ce, de, hve⟩ := hse.slice
  subst hve
  have HYe : Hid _ := hye
  have HSLe : Hid _ := hse
  have HBCe : Hid _ := hbe
  have HBe : Hid (Below w1.heap.size w1 we) := HBd.out.trans (hbe.mono HBd.out.size)
  clear hye hse hbe
  go_wp2_with fail
  all_goals first | (exfalso; omega) | skip
  refine Calls.mono (HCH.out _ _ _ _ HBe.out HFX.out (by omega) (by rw [ByteArray.size_append, ByteArray.size_append, ByteArray.size_append, ByteArray.size_append]; show 6 + f.size + 6 + T.size + 1 ≤ 200; omega)) ?_
  rintro e wx ⟨vx, ysx, rfl, hyx, hsx, hbx⟩
  obtain ⟨cx, dx, hvx⟩ := hsx.slice
  subst hvx
  have HYx : Hid _ := hyx
  have HSLx : Hid _ := hsx
  have HBCx : Hid _ := hbx
  have HBx : Hid (Below w1.heap.size w1 wx) := HBe.out.trans (hbx.mono HBe.out.size)
  clear hyx hsx hbx
  go_wp2_with fail
  all_goals first | (exfalso; omega) | skip
  refine Calls.mono (HCH.out _ _ _ _ HBx.out HFY.out (by omega) (by rw [ByteArray.size_append, ByteArray.size_append, ByteArray.size_append]; show 5 + f.size + 9 + T.size ≤ 200; omega)) ?_
  rintro e wy ⟨vy, ysy, rfl, hyy, hsy, hby⟩
  obtain ⟨cy, dy, hvy⟩ := hsy.slice
  subst hvy
  have HYy : Hid _ := hyy
  have HSLy : Hid _ := hsy
  have HBCy : Hid _ := hby
  have HBy : Hid (Below w1.heap.size w1 wy) := HBx.out.trans (hby.mono HBx.out.size)
  clear hyy hsy hby
  go_wp2_with fail
  all_goals first | (exfalso; omega) | skip
  have Bxy := HBCy.out
  have Bey := HBCx.out.trans (Bxy.mono HBCx.out.size)
  have Bdy := HBCe.out.trans (Bey.mono HBCe.out.size)
  have Bcy := HBCd.out.trans (Bdy.mono HBCd.out.size)
  have Bby := HBCc.out.trans (Bcy.mono HBCc.out.size)
  have Bay := HBCb.out.trans (Bby.mono HBCb.out.size)
  have nca : nums ysc = nums ysa := nums_congr (fun i hi => by rw [HYc.out i hi, HYa.out i hi]; exact says_eq (fun vals => rfl) i)
  have nda : nums ysd = nums ysa := nums_congr (fun i hi => by
    rw [HYd.out i hi, HYa.out i hi]
    exact says_eq (fun vals => by simp only [Doc.eval]; cases (Doc.eval Doc.fsK vals A).1 <;> rfl) i)
  have nyx : nums ysy = nums ysx := nums_congr (fun i hi => by rw [HYy.out i hi, HYx.out i hi]; exact says_eq (fun vals => rfl) i)
  obtain ⟨la, HLA⟩ : ∃ l : List Int, Hid ((nums ysa).map Int.ofNat = l) := ⟨_, rfl⟩
  have hla : la.length = (nums ysa).length := by rw [← HLA.out]; simp
  have hlm : la.length ≤ 4096 := by rw [hla]; exact nums_short ysa
  obtain ⟨lx, HLX⟩ : ∃ l : List Int, Hid ((nums ysx).map Int.ofNat = l) := ⟨_, rfl⟩
  have hlx : lx.length = (nums ysx).length := by rw [← HLX.out]; simp
  have hxm : lx.length ≤ 4096 := by rw [hlx]; exact nums_short ysx
  have SA : Sl wy (.slice ca (nums ysa).length da) la.length (intC la) := by rw [hla, ← HLA.out]; exact HSLa.out.below Bay
  have SC : Sl wy (.slice cc (nums ysc).length dc) la.length (intC la) := by have := HSLc.out.below Bcy; rw [hla, ← HLA.out, ← nca]; exact this
  have SD : Sl wy (.slice cd (nums ysd).length dd) la.length (intC la) := by have := HSLd.out.below Bdy; rw [hla, ← HLA.out, ← nda]; exact this
  have SX : Sl wy (.slice cx (nums ysx).length dx) lx.length (intC lx) := by rw [hlx, ← HLX.out]; exact HSLx.out.below Bxy
  have SY : Sl wy (.slice cy (nums ysy).length dy) lx.length (intC lx) := by have := HSLy.out; rw [hlx, ← HLX.out, ← nyx]; exact this
  have SB : Sl wy (.slice cb (nums ysb).length db) ((nums ysb).map Int.ofNat).length (intC ((nums ysb).map Int.ofNat)) := by rw [List.length_map]; exact HSLb.out.below Bby
  have SE : Sl wy (.slice ce (nums yse).length de) ((nums yse).map Int.ofNat).length (intC ((nums yse).map Int.ofNat)) := by rw [List.length_map]; exact HSLe.out.below Bey
  have HSA : Hid (Sl wy (.slice ca (nums ysa).length da) (nums ysa).length (intC la)) := by have := SA; rw [hla] at this; exact this
  have HS1 : Hid (∀ W : World, Below wy.heap.size wy W → Calls Tryz.prog 19 #[.slice ca (nums ysa).length da, .slice cc (nums ysc).length dc] W fun e w' => e = .returned (.bool true) ∧ Below W.heap.size W w') := fun W hW => ksame_any la (by omega) _ _ (SA.below hW) (SC.below hW)
  have HS2 : Hid (∀ W : World, Below wy.heap.size wy W → Calls Tryz.prog 19 #[.slice ca (nums ysa).length da, .slice cd (nums ysd).length dd] W fun e w' => e = .returned (.bool true) ∧ Below W.heap.size W w') := fun W hW => ksame_any la (by omega) _ _ (SA.below hW) (SD.below hW)
  have HS3 : Hid (∀ W : World, Below wy.heap.size wy W → Calls Tryz.prog 19 #[.slice cx (nums ysx).length dx, .slice cy (nums ysy).length dy] W fun e w' => e = .returned (.bool true) ∧ Below W.heap.size W w') := fun W hW => ksame_any lx (by omega) _ _ (SX.below hW) (SY.below hW)
  have HIB : Hid (∀ (W : World) (n : Nat), Below wy.heap.size wy W → n ∈ nums ysa → Calls Tryz.prog 26 #[.slice cb (nums ysb).length db, .int .i64 (n : Int)] W fun e w' => e = .returned (.bool false) ∧ Below W.heap.size W w') := by
    intro W n hW hn
    have h1 := kin_any ((nums ysb).map Int.ofNat) (by have := nums_short ysb; simp; omega) _ (SB.below hW) (n : Int)
    have hm := mem_nums.1 hn
    rw [any_false (fun hb => by
      have hm2 := mem_nums.1 hb
      have e1 := (HYa.out n hm.1).symm.trans hm.2
      have e2 := (HYb.out n hm.1).symm.trans hm2.2
      rw [yes_not e1] at e2
      cases e2)] at h1
    exact h1
  have HIE : Hid (∀ (W : World) (n : Nat), Below wy.heap.size wy W → n ∈ nums ysa → Calls Tryz.prog 26 #[.slice ce (nums yse).length de, .int .i64 (n : Int)] W fun e w' => e = .returned (.bool true) ∧ Below W.heap.size W w') := by
    intro W n hW hn
    have h1 := kin_any ((nums yse).map Int.ofNat) (by have := nums_short yse; simp; omega) _ (SE.below hW) (n : Int)
    have hm := mem_nums.1 hn
    have e1 := (HYa.out n hm.1).symm.trans hm.2
    rw [natC_any (mem_nums.2 ⟨hm.1, (HYe.out n hm.1).trans ((all_says (storeK_of L) n).trans (yes_some e1))⟩)] at h1
    exact h1
  have hne : 0 < (nums yse).length := by
    have h0 : 4000 ∈ nums yse := mem_nums.2 ⟨by decide, (HYe.out 4000 (by decide)).trans ((all_says (storeK_of L) 4000).trans (yes_some (chk_says L)))⟩
    exact List.length_pos_of_mem h0
  have hbe : (((nums yse).length : Int) == 0) = false := by simp only [beq_eq_false_iff_ne]; omega
  clear SA SC SD SX SY SB SE nca nda nyx Bxy Bey Bdy Bcy Bby Bay
  clear hlx hxm hla
  refine Calls.mono (HS1.out _ (Below.refl _ _)) ?_
  rintro e w4 ⟨rfl, hb4⟩
  have HB4 : Hid _ := hb4
  clear hb4
  go_wp2_with fail
  refine Calls.mono (HS2.out _ HB4.out) ?_
  rintro e w5 ⟨rfl, hb5⟩
  have HB5 : Hid (Below wy.heap.size wy w5) := HB4.out.trans (hb5.mono HB4.out.size)
  clear hb5
  go_wp2_with fail
  refine Calls.mono (HS3.out _ HB5.out) ?_
  rintro e w6 ⟨rfl, hb6⟩
  have HB6 : Hid (Below wy.heap.size wy w6) := HB5.out.trans (hb6.mono HB5.out.size)
  clear hb6
  go_wp2_with fail
  all_goals first | (exfalso; omega) | skip
  have hnm : (nums ysa).length ≤ 4096 := nums_short ysa
  go_loopw [27] (fun i wr => ∃ j : Nat, j ≤ (nums ysa).length ∧ i = .int .i64 j ∧ Below wy.heap.size wy wr) (fun i _ => (nums ysa).length - (intOf i).toNat)
  case atStart => exact ⟨0, Nat.zero_le _, rfl, HB6.out⟩
  case round =>
    obtain ⟨j, hj, rfl, hB⟩ := hrel
    by_cases hj2 : j < (nums ysa).length
    · rcases HSA.out.has with ⟨h0', _⟩ | ⟨_, lb, lo, lcap, elv, hc2, hlt2, hr2⟩
      · omega
      cases elv
      obtain ⟨n, HN⟩ : ∃ n, Hid (n = (nums ysa)[j]) := ⟨(nums ysa)[j], rfl⟩
      have hmem : n ∈ nums ysa := by rw [HN.out]; exact List.getElem_mem hj2
      have hij : (intC la)[j]? = some (.int .i64 (n : Int)) := by rw [← HLA.out]; simp [intC, hj2, HN.out]
      have r0 : wr.cell? ⟨lb, lo + j, none⟩ = some (.int .i64 (n : Int)) := by rw [hB.cell (p := ⟨lb, lo + j, none⟩) hlt2]; exact hr2 j _ hij
      have hlt3 : lb < wr.heap.size := Nat.lt_of_lt_of_le hlt2 hB.size
      have HI1 : Hid _ := HIB.out wr n hB hmem
      have HI2 : Hid (∀ W : World, Below wy.heap.size wy W → _) := fun W hW => HIE.out W n hW hmem
      clear hij hr2
      go_wp2_with fail
      refine Calls.mono HI1.out ?_
      rintro e w7 ⟨rfl, hb7⟩
      have r1 := (hb7.cell (p := ⟨lb, lo + j, none⟩) hlt3).trans r0
      have hB7 : Below wy.heap.size wy w7 := hB.trans (hb7.mono hB.size)
      have HB7 : Hid _ := hB7
      clear hb7 hB7
      go_wp2_with fail
      refine Calls.mono (HI2.out _ HB7.out) ?_
      rintro e w8 ⟨rfl, hb8⟩
      have HB8 : Hid (Below wy.heap.size wy w8) := HB7.out.trans (hb8.mono HB7.out.size)
      clear hb8
      go_wp2_with fail
      go_roundw
      case rel => exact ⟨j + 1, by omega, by go_num, HB8.out⟩
      case measure => simp [intOf]; omega
    · obtain rfl : j = (nums ysa).length := by omega
      go_wp2_with fail
      go_ret
      have h1 := HBy.out.trans (hB.mono HBy.out.size)
      exact ⟨rfl, HB1.out.trans (h1.mono HB1.out.size)⟩
end
end Go.Proofs.YtbnelaoeblhndaaGreatDoor
