/- Plain functions on bytes and tokens: what the document says a token is; no program is named here. The tokens of a text, one behind the other; no program is named here. What a list of tokens says, and its plain form; no program is named here. -/
import Derived.KernelRfl
namespace Go.Proofs.YtbnelaoeblhndaaGreatDoor
namespace Doc

/-- How many bytes at the head of a list lie between two bytes. -/
def run (lo hi : UInt8) (l : List UInt8) : Nat := (l.takeWhile fun c => lo ≤ c && c ≤ hi).length

theorem run_le (lo hi : UInt8) (l : List UInt8) : run lo hi l ≤ l.length := by
  unfold run; exact (List.takeWhile_sublist _).length_le

theorem run_nil (lo hi : UInt8) : run lo hi [] = 0 := rfl

theorem run_hit {lo hi c : UInt8} {l : List UInt8} (h : lo ≤ c) (k : c ≤ hi) : run lo hi (c :: l) = run lo hi l + 1 := by
  simp [run, h, k]

theorem run_miss {lo hi c : UInt8} {l : List UInt8} (h : ¬ (lo ≤ c ∧ c ≤ hi)) : run lo hi (c :: l) = 0 := by
  unfold run
  rw [List.takeWhile_cons_of_neg (by simpa using h)]
  rfl

theorem run_all (lo hi : UInt8) (l : List UInt8) : ∀ c ∈ l.take (run lo hi l), lo ≤ c ∧ c ≤ hi := by
  induction l with
  | nil => simp
  | cons c l ih =>
    by_cases h : lo ≤ c ∧ c ≤ hi
    · rw [run_hit h.1 h.2]
      intro x hx
      simp only [List.take_succ_cons, List.mem_cons] at hx
      rcases hx with rfl | hx
      · exact h
      · exact ih x hx
    · rw [run_miss h]; simp

/-- How many bytes stand ahead of the first quote. -/
def inside (l : List UInt8) : Nat := (l.takeWhile fun c => c != 34).length

theorem inside_le (l : List UInt8) : inside l ≤ l.length := by
  unfold inside; exact (List.takeWhile_sublist _).length_le
theorem inside_nil : inside [] = 0 := rfl
theorem inside_hit {l : List UInt8} : inside (34 :: l) = 0 := by simp [inside]
theorem inside_go {c : UInt8} {l : List UInt8} (h : c ≠ 34) : inside (c :: l) = inside l + 1 := by simp [inside, h]

/-- The number that digits say. -/
def num (l : List UInt8) : Nat := l.foldl (fun n c => 10 * n + (c.toNat - 48)) 0

theorem num_snoc (l : List UInt8) (c : UInt8) : num (l ++ [c]) = 10 * num l + (c.toNat - 48) := by simp [num]

theorem num_lt_from (l : List UInt8) (h : ∀ c ∈ l, (48 : UInt8) ≤ c ∧ c ≤ 57) : ∀ n : Nat, l.foldl (fun n c => 10 * n + (c.toNat - 48)) n < (n + 1) * 10 ^ l.length := by
  induction l with
  | nil => intro n; simp
  | cons c l ih =>
    intro n
    have h1 := ih (fun x hx => h x (by simp [hx])) (10 * n + (c.toNat - 48))
    have h2 := (h c (by simp)).2
    rw [UInt8.le_iff_toNat_le] at h2
    have h3 : (57 : UInt8).toNat = 57 := rfl
    simp only [List.foldl_cons, List.length_cons, Nat.pow_succ]
    have h4 : (10 * n + (c.toNat - 48) + 1) * 10 ^ l.length ≤ (10 * (n + 1)) * 10 ^ l.length := Nat.mul_le_mul_right _ (by omega)
    have h5 : (10 * (n + 1)) * 10 ^ l.length = (n + 1) * (10 ^ l.length * 10) := by
      rw [Nat.mul_comm 10 (n + 1), Nat.mul_assoc, Nat.mul_comm 10]
    omega

theorem num_lt (l : List UInt8) (h : ∀ c ∈ l, (48 : UInt8) ≤ c ∧ c ≤ 57) : num l < 10 ^ l.length := by
  have := num_lt_from l h 0; unfold num; omega

def isLetter (c : UInt8) : Bool := 97 ≤ c && c ≤ 122
def isDigit (c : UInt8) : Bool := 48 ≤ c && c ≤ 57
/-- Does a sign of two bytes stand at the head? -/
def twoSign (l : List UInt8) : Bool := l.take 2 == [33, 61] || l.take 2 == [60, 61] || l.take 2 == [62, 61]
def oneSign (c : UInt8) : Bool := c == 61 || c == 60 || c == 62 || c == 40 || c == 41 || c == 44

/-- The kind and the length of the token at the head of what is left: w a word, n a number, s a string, g a sign, x a wrong one, e the end. -/
def lex (l : List UInt8) : UInt8 × Nat :=
  match l with
  | [] => (101, 0)
  | c :: r =>
    if isLetter c then
      (if run 97 122 l ≤ 8 then (119, run 97 122 l) else (120, 0))
    else if c == 45 then
      (if run 48 57 r ≠ 0 ∧ run 48 57 r ≤ 7 then (110, run 48 57 r + 1) else (120, 0))
    else if isDigit c then
      (if run 48 57 l ≤ 7 then (110, run 48 57 l) else (120, 0))
    else if c == 34 then
      (if inside r < r.length ∧ inside r ≤ 12 then (115, inside r + 2) else (120, 0))
    else if twoSign l then (103, 2)
    else if oneSign c then (103, 1)
    else (120, 0)

/-- A token: its kind, its text (a string's without its quotes), its number, its place. -/
structure Tok where
  kind : UInt8
  S : ByteArray
  N : Int
  at_ : Nat

/-- What is left of a text from a place on. -/
def rest (s : ByteArray) (a : Nat) : List UInt8 := s.data.toList.drop a

/-- The number of a NUMBER's text. -/
def signed : List UInt8 → Int
  | [] => 0
  | c :: r => if c == 45 then -(num r : Int) else num (c :: r)
theorem signed_minus {c : UInt8} {r : List UInt8} (h : (c == 45) = true) : signed (c :: r) = -(num r : Int) := by simp only [signed, h, if_true]
theorem signed_plain {c : UInt8} {r : List UInt8} (h : (c == 45) = false) : signed (c :: r) = num (c :: r) := by simp [signed, h]

/-- The token at a place. -/
def tok (s : ByteArray) (a : Nat) : Tok :=
  let p := lex (rest s a)
  { kind := p.1
    S := if p.1 = 119 ∨ p.1 = 103 then s.extract a (a + p.2) else if p.1 = 115 then s.extract (a + 1) (a + p.2 - 1) else ByteArray.empty
    N := if p.1 = 110 then signed ((rest s a).take p.2) else 0
    at_ := a }

/-- Where it ends: for a wrong one the text's end. -/
def tokEnd (s : ByteArray) (a : Nat) : Nat := if (lex (rest s a)).1 = 120 then s.size else a + (lex (rest s a)).2

/-- Where blanks from a place on end. -/
def skip (s : ByteArray) (a : Nat) : Nat := a + ((rest s a).takeWhile fun c => c == 32).length

end Doc
end Go.Proofs.YtbnelaoeblhndaaGreatDoor

namespace Go.Proofs.YtbnelaoeblhndaaGreatDoor
namespace Doc

/-- The place behind the blanks. -/
def past (s : ByteArray) (a : Nat) : Nat := a + run 32 32 (rest s a)

theorem len_rest (s : ByteArray) (a : Nat) : (rest s a).length = s.size - a := by simp [rest]

theorem past_le {s : ByteArray} {a : Nat} (h : a ≤ s.size) : a ≤ past s a ∧ past s a ≤ s.size := by
  have := run_le 32 32 (rest s a)
  rw [len_rest] at this
  unfold past; omega

/-- A token that is none of the end's: its length, and what it may be. -/
theorem lex_len (c : UInt8) (r : List UInt8) :
    ((lex (c :: r)).1 = 119 ∨ (lex (c :: r)).1 = 110 ∨ (lex (c :: r)).1 = 115 ∨ (lex (c :: r)).1 = 103 ∨ (lex (c :: r)).1 = 120) ∧
    (lex (c :: r)).2 ≤ r.length + 1 ∧ ((lex (c :: r)).1 ≠ 120 → 0 < (lex (c :: r)).2) := by
  have h1 := run_le 97 122 (c :: r)
  have h2 := run_le 48 57 r
  have h3 := run_le 48 57 (c :: r)
  have h4 := inside_le r
  simp only [List.length_cons] at h1 h3
  unfold lex
  split
  · contradiction
  · rename_i c' r' heq
    rw [List.cons.injEq] at heq
    obtain ⟨rfl, rfl⟩ := heq
    split
    · rename_i hl
      split
      · refine ⟨.inl rfl, h1, fun _ => ?_⟩
        simp only [isLetter, Bool.and_eq_true, decide_eq_true_eq] at hl
        rw [run_hit hl.1 hl.2]; show 0 < _ + 1; omega
      · exact ⟨.inr (.inr (.inr (.inr rfl))), Nat.zero_le _, fun h => absurd rfl h⟩
    · split
      · split
        · exact ⟨.inr (.inl rfl), by show run 48 57 r + 1 ≤ _; omega, fun _ => Nat.succ_pos _⟩
        · exact ⟨.inr (.inr (.inr (.inr rfl))), Nat.zero_le _, fun h => absurd rfl h⟩
      · split
        · rename_i hl
          split
          · refine ⟨.inr (.inl rfl), h3, fun _ => ?_⟩
            simp only [isDigit, Bool.and_eq_true, decide_eq_true_eq] at hl
            rw [run_hit hl.1 hl.2]; show 0 < _ + 1; omega
          · exact ⟨.inr (.inr (.inr (.inr rfl))), Nat.zero_le _, fun h => absurd rfl h⟩
        · split
          · split
            · exact ⟨.inr (.inr (.inl rfl)), by show inside r + 2 ≤ _; omega, fun _ => by show 0 < inside r + 2; omega⟩
            · exact ⟨.inr (.inr (.inr (.inr rfl))), Nat.zero_le _, fun h => absurd rfl h⟩
          · split
            · rename_i ht
              refine ⟨.inr (.inr (.inr (.inl rfl))), ?_, fun _ => by show 0 < 2; omega⟩
              show 2 ≤ _
              cases r with
              | nil => simp [twoSign] at ht
              | cons => simp
            · split
              · exact ⟨.inr (.inr (.inr (.inl rfl))), by show 1 ≤ _; omega, fun _ => by show 0 < 1; omega⟩
              · exact ⟨.inr (.inr (.inr (.inr rfl))), Nat.zero_le _, fun h => absurd rfl h⟩

theorem rest_at (s : ByteArray) (a : Nat) (h : a < s.size) : ∃ c r, rest s a = c :: r := by
  have := len_rest s a
  cases hr : rest s a with
  | nil => rw [hr] at this; simp at this; omega
  | cons c r => exact ⟨c, r, rfl⟩

theorem tok_kind {s : ByteArray} {a : Nat} (h : a < s.size) : (tok s a).kind = 119 ∨ (tok s a).kind = 110 ∨ (tok s a).kind = 115 ∨ (tok s a).kind = 103 ∨ (tok s a).kind = 120 := by
  obtain ⟨c, r, hr⟩ := rest_at s a h
  show (lex (rest s a)).1 = _ ∨ (lex (rest s a)).1 = _ ∨ (lex (rest s a)).1 = _ ∨ (lex (rest s a)).1 = _ ∨ (lex (rest s a)).1 = _
  rw [hr]; exact (lex_len c r).1

theorem tokEnd_lt {s : ByteArray} {a : Nat} (h : a < s.size) : a < tokEnd s a ∧ tokEnd s a ≤ s.size := by
  obtain ⟨c, r, hr⟩ := rest_at s a h
  have h1 := lex_len c r
  have h2 := len_rest s a
  rw [hr, List.length_cons] at h2
  unfold tokEnd
  rw [hr]
  split
  · omega
  · rename_i hk
    have := h1.2.2 hk
    omega

def endTok (s : ByteArray) : Tok := ⟨101, ByteArray.empty, 0, s.size⟩

def toksF : Nat → ByteArray → Nat → List Tok
  | 0, _, _ => []
  | n + 1, s, a =>
    if past s a = s.size then [endTok s]
    else if (tok s (past s a)).kind = 120 then [tok s (past s a)]
    else tok s (past s a) :: toksF n s (tokEnd s (past s a))

theorem toksF_eq (s : ByteArray) : ∀ n m a, a ≤ s.size → s.size - a < n → s.size - a < m → toksF n s a = toksF m s a := by
  intro n
  induction n with
  | zero => intro m a _ h; omega
  | succ n ih =>
    intro m a ha h1 h2
    obtain ⟨m, rfl⟩ : ∃ q, m = q + 1 := ⟨m - 1, by omega⟩
    unfold toksF
    split
    · rfl
    · split
      · rfl
      · rename_i h3 h4
        have h5 := past_le ha
        have h6 := tokEnd_lt (s := s) (a := past s a) (by omega)
        rw [ih m _ h6.2 (by omega) (by omega)]

/-- The tokens from a place on: the last one is the end, or a wrong one. -/
def toks (s : ByteArray) (a : Nat) : List Tok := toksF (s.size + 1 - a) s a

theorem toks_end {s : ByteArray} {a : Nat} (h : a ≤ s.size) (hp : past s a = s.size) : toks s a = [endTok s] := by
  unfold toks
  rw [show s.size + 1 - a = (s.size - a) + 1 by omega]
  unfold toksF
  rw [if_pos hp]

theorem toks_wrong {s : ByteArray} {a : Nat} (h : a ≤ s.size) (hp : past s a ≠ s.size) (hk : (tok s (past s a)).kind = 120) : toks s a = [tok s (past s a)] := by
  unfold toks
  rw [show s.size + 1 - a = (s.size - a) + 1 by omega]
  unfold toksF
  rw [if_neg hp, if_pos hk]

theorem toks_next {s : ByteArray} {a : Nat} (h : a ≤ s.size) (hp : past s a ≠ s.size) (hk : (tok s (past s a)).kind ≠ 120) : toks s a = tok s (past s a) :: toks s (tokEnd s (past s a)) := by
  have h5 := past_le h
  have h6 := tokEnd_lt (s := s) (a := past s a) (by omega)
  unfold toks
  rw [show s.size + 1 - a = (s.size - a) + 1 by omega]
  conv => lhs; unfold toksF
  rw [if_neg hp, if_neg hk, toksF_eq s (s.size - a) (s.size + 1 - tokEnd s (past s a)) _ h6.2 (by omega) (by omega)]

/-- The first token from a place on. -/
def hd (s : ByteArray) (a : Nat) : Tok := if past s a = s.size then endTok s else tok s (past s a)

theorem toks_cons {s : ByteArray} {a : Nat} (h : a ≤ s.size) : ∃ r, toks s a = hd s a :: r := by
  unfold hd
  split
  · rename_i hp; exact ⟨[], toks_end h hp⟩
  · rename_i hp
    by_cases hk : (tok s (past s a)).kind = 120
    · exact ⟨[], toks_wrong h hp hk⟩
    · exact ⟨_, toks_next h hp hk⟩

/-- There are no more tokens than bytes, and the end. -/
theorem toks_len (s : ByteArray) : ∀ n a, a ≤ s.size → s.size - a ≤ n → (toks s a).length ≤ s.size + 1 - a := by
  intro n
  induction n with
  | zero =>
    intro a ha hn
    have h5 := past_le ha
    rw [toks_end ha (by omega)]; simp; omega
  | succ n ih =>
    intro a ha hn
    have h5 := past_le ha
    by_cases hp : past s a = s.size
    · rw [toks_end ha hp]; simp; omega
    · by_cases hk : (tok s (past s a)).kind = 120
      · rw [toks_wrong ha hp hk]; simp; omega
      · have h6 := tokEnd_lt (s := s) (a := past s a) (by omega)
        rw [toks_next ha hp hk, List.length_cons]
        have := ih _ h6.2 (by omega)
        omega

/-- The tokens that can be gone over are none of the last. -/
def Ended : List Tok → Prop
  | [] => False
  | [t] => t.kind = 101 ∨ t.kind = 120
  | t :: u :: r => (t.kind = 119 ∨ t.kind = 110 ∨ t.kind = 115 ∨ t.kind = 103) ∧ Ended (u :: r)

theorem toks_ended (s : ByteArray) : ∀ n a, a ≤ s.size → s.size - a ≤ n → Ended (toks s a) := by
  intro n
  induction n with
  | zero =>
    intro a ha hn
    have h5 := past_le ha
    rw [toks_end ha (by omega)]; exact .inl rfl
  | succ n ih =>
    intro a ha hn
    have h5 := past_le ha
    by_cases hp : past s a = s.size
    · rw [toks_end ha hp]; exact .inl rfl
    · by_cases hk : (tok s (past s a)).kind = 120
      · rw [toks_wrong ha hp hk]; exact .inr hk
      · have h6 := tokEnd_lt (s := s) (a := past s a) (by omega)
        have h7 := tok_kind (s := s) (a := past s a) (by omega)
        have h8 := ih _ h6.2 (by omega)
        obtain ⟨r, hr⟩ := toks_cons h6.2
        rw [toks_next ha hp hk]
        rw [hr] at h8 ⊢
        refine ⟨?_, h8⟩
        rcases h7 with h | h | h | h | h
        · exact .inl h
        · exact .inr (.inl h)
        · exact .inr (.inr (.inl h))
        · exact .inr (.inr (.inr h))
        · exact absurd h hk

end Doc
end Go.Proofs.YtbnelaoeblhndaaGreatDoor

namespace Go.Proofs.YtbnelaoeblhndaaGreatDoor
namespace Doc

def wAnd : List UInt8 := [97, 110, 100]
def wOr : List UInt8 := [111, 114]
def wNot : List UInt8 := [110, 111, 116]
def wIn : List UInt8 := [105, 110]
def wLike : List UInt8 := [108, 105, 107, 101]
def wIs : List UInt8 := [105, 115]
def wNull : List UInt8 := [110, 117, 108, 108]

/-- Is a token this word or sign? -/
def is (t : Tok) (l : List UInt8) : Bool := (t.kind == 119 || t.kind == 103) && (t.S.toList == l)
/-- Is it this word? -/
def isWord (t : Tok) (l : List UInt8) : Bool := t.kind == 119 && (t.S.toList == l)
/-- One of the words that are no names. -/
def kw (s : ByteArray) : Bool := s.toList == wAnd || s.toList == wOr || s.toList == wNot || s.toList == wIn || s.toList == wLike || s.toList == wIs || s.toList == wNull
/-- Is a text a name? -/
def nameB (s : ByteArray) : Bool := decide (1 ≤ s.size) && decide (s.size ≤ 8) && (run 97 122 (rest s 0) == s.size) && !kw s
/-- A sign that compares. -/
def cmpB (t : Tok) : Bool := t.kind == 103 && (t.S.toList == [61] || t.S.toList == [33, 61] || t.S.toList == [60] || t.S.toList == [60, 61] || t.S.toList == [62] || t.S.toList == [62, 61])
/-- A literal (a string alone). -/
def lit (texts : Bool) (t : Tok) : Bool := t.kind == 115 || (t.kind == 110 && !texts)

/-- What a filter is made of. -/
inductive Ast where
  | test (name ask : Tok) (lits : List Tok)
  | not (a : Ast)
  | and (a b : Ast)
  | or (a b : Ast)

/-- An error and its place; or what was read, and the place of the next token. -/
inductive Res (α : Type) where
  | err (e p : Nat)
  | ok (a : α) (i : Nat)

def tk (L : List Tok) (i : Nat) : Tok := L.getD i ⟨101, ByteArray.empty, 0, 0⟩

theorem tk_eq {L : List Tok} {i : Nat} (h : i < L.length) : L[i] = tk L i := by simp [tk, h]

def pLits (L : List Tok) : Nat → List Tok → Nat → Res (List Tok)
  | 0, _, _ => .err 0 0
  | n + 1, acc, i =>
    if lit false (tk L i) then
      (if is (tk L (i + 1)) [44] then pLits L n (acc ++ [tk L i]) (i + 2)
       else if is (tk L (i + 1)) [41] then .ok (acc ++ [tk L i]) (i + 2)
       else .err 6 (tk L (i + 1)).at_)
    else .err 6 (tk L i).at_

def pTest (L : List Tok) (i : Nat) : Res Ast :=
  if (tk L i).kind == 119 && nameB (tk L i).S then
    (if cmpB (tk L (i + 1)) then (if lit false (tk L (i + 2)) then .ok (.test (tk L i) (tk L (i + 1)) [tk L (i + 2)]) (i + 3) else .err 6 (tk L (i + 2)).at_)
     else if isWord (tk L (i + 1)) wLike then (if lit true (tk L (i + 2)) then .ok (.test (tk L i) (tk L (i + 1)) [tk L (i + 2)]) (i + 3) else .err 6 (tk L (i + 2)).at_)
     else if isWord (tk L (i + 1)) wIs then (if is (tk L (i + 2)) wNull then .ok (.test (tk L i) (tk L (i + 1)) []) (i + 3) else .err 6 (tk L (i + 2)).at_)
     else if isWord (tk L (i + 1)) wIn then
       (if is (tk L (i + 2)) [40] then
         (match pLits L (L.length + 1) [] (i + 3) with
          | .ok l j => .ok (.test (tk L i) (tk L (i + 1)) l) j
          | .err e p => .err e p)
        else .err 6 (tk L (i + 2)).at_)
     else .err 6 (tk L (i + 1)).at_)
  else .err 6 (tk L i).at_

def cLoop (L : List Tok) (link : Nat → Res Ast) (w : List UInt8) (mk : Ast → Ast → Ast) : Nat → Ast → Nat → Res Ast
  | 0, _, _ => .err 0 0
  | n + 1, a, i =>
    if is (tk L i) w then
      (match link (i + 1) with
       | .ok b j => cLoop L link w mk n (mk a b) j
       | .err e p => .err e p)
    else .ok a i

def chain (L : List Tok) (link : Nat → Res Ast) (w : List UInt8) (mk : Ast → Ast → Ast) (i : Nat) : Res Ast :=
  match link i with
  | .ok a j => cLoop L link w mk (L.length + 1) a j
  | .err e p => .err e p

def pPart (L : List Tok) : Nat → Nat → Res Ast
  | 0, i => if is (tk L i) wNot || is (tk L i) [40] then .err 7 (tk L i).at_ else pTest L i
  | d + 1, i =>
    if is (tk L i) wNot then
      (match pPart L d (i + 1) with
       | .ok a j => .ok (.not a) j
       | .err e p => .err e p)
    else if is (tk L i) [40] then
      (match chain L (chain L (pPart L d) wAnd .and) wOr .or (i + 1) with
       | .ok a j => if is (tk L j) [41] then .ok a (j + 1) else .err 6 (tk L j).at_
       | .err e p => .err e p)
    else pTest L i

def pAll (L : List Tok) (d i : Nat) : Res Ast := chain L (pPart L d) wAnd .and i
def pFilter (L : List Tok) (d i : Nat) : Res Ast := chain L (pAll L d) wOr .or i

def parse (L : List Tok) : Res Ast :=
  match pFilter L 6 0 with
  | .ok a j => if (tk L j).kind == 101 then .ok a j else .err 6 (tk L j).at_
  | .err e p => .err e p

/-- A token that can be gone over is not the last. -/
theorem ended_next : ∀ {L : List Tok}, Ended L → ∀ {i : Nat}, i < L.length → ((tk L i).kind = 119 ∨ (tk L i).kind = 110 ∨ (tk L i).kind = 115 ∨ (tk L i).kind = 103) → i + 1 < L.length := by
  intro L
  induction L with
  | nil => intro h; exact absurd h (by simp [Ended])
  | cons t L ih =>
    intro h i hi hk
    cases L with
    | nil =>
      simp at hi; subst hi
      simp only [Ended] at h
      simp only [tk, List.getD_cons_zero] at hk
      rcases h with h | h <;> rw [h] at hk <;> simp at hk
    | cons u r =>
      cases i with
      | zero => simp
      | succ i =>
        have := ih h.2 (i := i) (by simpa using hi) (by simpa [tk] using hk)
        simpa using this

theorem is_kind {t : Tok} {l : List UInt8} (h : is t l = true) : t.kind = 119 ∨ t.kind = 110 ∨ t.kind = 115 ∨ t.kind = 103 := by
  simp only [is, Bool.and_eq_true, Bool.or_eq_true, beq_iff_eq] at h
  rcases h.1 with h | h
  · exact .inl h
  · exact .inr (.inr (.inr h))
theorem isWord_kind {t : Tok} {l : List UInt8} (h : isWord t l = true) : t.kind = 119 ∨ t.kind = 110 ∨ t.kind = 115 ∨ t.kind = 103 := by
  simp only [isWord, Bool.and_eq_true, beq_iff_eq] at h
  exact .inl h.1
theorem cmpB_kind {t : Tok} (h : cmpB t = true) : t.kind = 119 ∨ t.kind = 110 ∨ t.kind = 115 ∨ t.kind = 103 := by
  simp only [cmpB, Bool.and_eq_true, beq_iff_eq] at h
  exact .inr (.inr (.inr h.1))
theorem lit_kind {b : Bool} {t : Tok} (h : lit b t = true) : t.kind = 119 ∨ t.kind = 110 ∨ t.kind = 115 ∨ t.kind = 103 := by
  simp only [lit, Bool.and_eq_true, Bool.or_eq_true, beq_iff_eq] at h
  rcases h with h | h
  · exact .inr (.inr (.inl h))
  · exact .inr (.inl h.1)

/- The plain form. -/
def digitsF : Nat → Nat → List UInt8
  | 0, n => [UInt8.ofNat (48 + n % 10)]
  | f + 1, n => if n < 10 then [UInt8.ofNat (48 + n)] else digitsF f (n / 10) ++ [UInt8.ofNat (48 + n % 10)]
/-- A number in digits (of seven at most). -/
def decimal (n : Int) : List UInt8 := if n < 0 then 45 :: digitsF 7 n.natAbs else digitsF 7 n.natAbs

def litText (t : Tok) : List UInt8 := if t.kind == 115 then 34 :: (t.S.data.toList ++ [34]) else decimal t.N
def litsText : List Tok → List UInt8
  | [] => []
  | [t] => litText t
  | t :: u :: r => litText t ++ [44, 32] ++ litsText (u :: r)

def isOr : Ast → Bool | .or _ _ => true | _ => false
def isAnd : Ast → Bool | .and _ _ => true | _ => false
def round (b : Bool) (l : List UInt8) : List UInt8 := if b then 40 :: (l ++ [41]) else l

def plain : Ast → List UInt8
  | .test name ask lits =>
    name.S.data.toList ++ [32] ++ ask.S.data.toList ++ [32] ++
      (if ask.S.toList == wIs then wNull else if ask.S.toList == wIn then 40 :: (litsText lits ++ [41]) else litsText lits)
  | .not a => wNot ++ [32] ++ round (isAnd a || isOr a) (plain a)
  | .and a b => round (isOr a) (plain a) ++ [32] ++ wAnd ++ [32] ++ round (isOr b) (plain b)
  | .or a b => plain a ++ [32] ++ wOr ++ [32] ++ plain b

/-- What Plain answers. -/
def answer (s : ByteArray) : List UInt8 × Nat × Nat :=
  if 200 < s.size then ([], 5, 0)
  else match parse (toks s 0) with
    | .ok a _ => (plain a, 0, 0)
    | .err e p => ([], e, p)

end Doc
end Go.Proofs.YtbnelaoeblhndaaGreatDoor
