import Derived.Test.YtbnelaoeblhndaaGreatDoorFiM6
import Derived.Test.YtbnelaoeblhndaaGreatDoorPlainAny
import Derived.Test.YtbnelaoeblhndaaGreatDoorFiM4
/- The plain form of filters of the sixteen tests: the grammar makes it, joined from the left; no program is named here. -/
namespace Go.Proofs.YtbnelaoeblhndaaGreatDoor
open Go.RowKit
set_option maxRecDepth 100000
namespace Doc

/-- Joined from the left. -/
def orJ (a : Ast) : Ast → Ast
  | .or b c => .or (orJ a b) c
  | b => .or a b
def andJ (a : Ast) : Ast → Ast
  | .and b c => .and (andJ a b) c
  | b => .and a b
def nf : Ast → Ast
  | .test n o l => .test n o l
  | .not a => .not (nf a)
  | .and a b => andJ (nf a) (nf b)
  | .or a b => orJ (nf a) (nf b)

theorem eval_orJ (fs : List Fld) (vals : List Val) (a : Ast) : ∀ b : Ast, eval fs vals (orJ a b) = eval fs vals (.or a b)
  | .or b c => by
    have := eval_orJ fs vals a b
    simp only [orJ, eval] at this ⊢
    rw [this]
    simp only [Bool.or_assoc, Bool.and_assoc]
  | .test _ _ _ => rfl
  | .not _ => rfl
  | .and _ _ => rfl
theorem eval_andJ (fs : List Fld) (vals : List Val) (a : Ast) : ∀ b : Ast, eval fs vals (andJ a b) = eval fs vals (.and a b)
  | .and b c => by
    have := eval_andJ fs vals a b
    simp only [andJ, eval] at this ⊢
    rw [this]
    simp only [Bool.or_assoc, Bool.and_assoc]
  | .test _ _ _ => rfl
  | .not _ => rfl
  | .or _ _ => rfl
theorem eval_nf (fs : List Fld) (vals : List Val) : ∀ a : Ast, eval fs vals (nf a) = eval fs vals a
  | .test _ _ _ => rfl
  | .not a => by simp only [nf, eval, eval_nf fs vals a]
  | .and a b => by simp only [nf, eval_andJ, eval, eval_nf fs vals a, eval_nf fs vals b]
  | .or a b => by simp only [nf, eval_orJ, eval, eval_nf fs vals a, eval_nf fs vals b]

theorem isOr_orJ (a b : Ast) : isOr (orJ a b) = true := by cases b <;> rfl
theorem isAnd_orJ (a b : Ast) : isAnd (orJ a b) = false := by cases b <;> rfl
theorem isOr_andJ (a b : Ast) : isOr (andJ a b) = false := by cases b <;> rfl
theorem isAnd_andJ (a b : Ast) : isAnd (andJ a b) = true := by cases b <;> rfl
theorem isOr_nf : ∀ a : Ast, isOr (nf a) = isOr a
  | .test _ _ _ => rfl
  | .not _ => rfl
  | .and _ _ => isOr_andJ _ _
  | .or _ _ => isOr_orJ _ _
theorem isAnd_nf : ∀ a : Ast, isAnd (nf a) = isAnd a
  | .test _ _ _ => rfl
  | .not _ => rfl
  | .and _ _ => isAnd_andJ _ _
  | .or _ _ => isAnd_orJ _ _
theorem plain_orJ (a : Ast) : ∀ b : Ast, plain (orJ a b) = plain (.or a b)
  | .or b c => by
    have := plain_orJ a b
    simp only [orJ, plain] at this ⊢
    rw [this]
    simp only [List.append_assoc]
  | .test _ _ _ => rfl
  | .not _ => rfl
  | .and _ _ => rfl
theorem plain_andJ (a : Ast) : ∀ b : Ast, plain (andJ a b) = plain (.and a b)
  | .and b c => by
    have := plain_andJ a b
    simp only [andJ, plain, isOr_andJ] at this ⊢
    have h1 : isOr (Ast.and b c) = false := rfl
    rw [this, h1]
    simp only [round, Bool.false_eq_true, if_false, List.append_assoc]
  | .test _ _ _ => rfl
  | .not _ => rfl
  | .or _ _ => rfl
theorem plain_nf : ∀ a : Ast, plain (nf a) = plain a
  | .test _ _ _ => rfl
  | .not a => by simp only [nf, plain, isAnd_nf, isOr_nf, plain_nf a]
  | .and a b => by simp only [nf, plain_andJ, plain, isOr_nf, plain_nf a, plain_nf b]
  | .or a b => by simp only [nf, plain_orJ, plain, plain_nf a, plain_nf b]
end Doc
end Go.Proofs.YtbnelaoeblhndaaGreatDoor
/- The plain form of filters of the sixteen tests is made by the grammar. -/
namespace Go.Proofs.YtbnelaoeblhndaaGreatDoor
open Go.RowKit
set_option maxRecDepth 100000
namespace Doc

theorem andJ_assoc (x y : Ast) : ∀ z : Ast, andJ x (andJ y z) = andJ (andJ x y) z
  | .and a b => by simp only [andJ]; rw [andJ_assoc x y a]
  | .test _ _ _ => rfl
  | .not _ => rfl
  | .or _ _ => rfl
theorem orJ_assoc (x y : Ast) : ∀ z : Ast, orJ x (orJ y z) = orJ (orJ x y) z
  | .or a b => by simp only [orJ]; rw [orJ_assoc x y a]
  | .test _ _ _ => rfl
  | .not _ => rfl
  | .and _ _ => rfl

/-- Filters of the sixteen tests. -/
def KA : Ast → Prop
  | .test n o l => ∃ c, c < 16 ∧ Ast.test n o l = testB c
  | .not a => KA a
  | .and a b => KA a ∧ KA b
  | .or a b => KA a ∧ KA b

/-- How many brackets and nots stand in one another in the plain form. -/
def dp : Ast → Nat
  | .test _ _ _ => 0
  | .not a => (bif isAnd a || isOr a then dp a + 1 else dp a) + 1
  | .and a b => max (bif isOr a then dp a + 1 else dp a) (bif isOr b then dp b + 1 else dp b)
  | .or a b => max (dp a) (dp b)

theorem plainT_all : ((List.range 16).all fun c => plain (testB c) == (testS c).data.toList) = true := by kernel_rfl
theorem plain_test (c : Nat) (h : c < 16) : plain (testB c) = (testS c).data.toList := by
  have := List.all_eq_true.1 plainT_all c (List.mem_range.2 h)
  simpa using this

/-- A filter's plain form: as a whole, as a part, behind an 'and', behind an 'or'. -/
structure PF (b : Ast) : Prop where
  two : ∀ d, dp b ≤ d → Fil 2 (plain b) d (nf b)
  one : isOr b = false → ∀ d, dp b ≤ d → Fil 1 (plain b) d (nf b)
  nil : isOr b = false → isAnd b = false → ∀ d, dp b ≤ d → Fil 0 (plain b) d (nf b)
  att : ∀ d l x, (bif isOr b then dp b + 1 else dp b) ≤ d → Fil 1 l d x → Fil 1 (l ++ 32 :: 97 :: 110 :: 100 :: 32 :: round (isOr b) (plain b)) d (andJ x (nf b))
  ato : ∀ d l x, dp b ≤ d → Fil 2 l d x → Fil 2 (l ++ 32 :: 111 :: 114 :: 32 :: plain b) d (orJ x (nf b))

theorem andJ_not {x b : Ast} (h : isAnd b = false) : andJ x b = .and x b := by cases b <;> first | rfl | cases h
theorem orJ_not {x b : Ast} (h : isOr b = false) : orJ x b = .or x b := by cases b <;> first | rfl | cases h

/-- What is neither an 'and' nor an 'or'. -/
theorem PF.of {b : Ast} (ho : isOr b = false) (ha : isAnd b = false) (h : ∀ d, dp b ≤ d → Fil 0 (plain b) d (nf b)) : PF b := by
  refine ⟨fun d hd => (h d hd).one.all, fun _ d hd => (h d hd).one, fun _ _ => h, fun d l x hd hl => ?_, fun d l x hd hl => ?_⟩
  · rw [andJ_not (by rw [isAnd_nf]; exact ha), ho]
    rw [ho] at hd
    exact hl.and (h d hd)
  · rw [orJ_not (by rw [isOr_nf]; exact ho)]
    exact hl.or (h d hd).one

theorem pf_all : ∀ b : Ast, KA b → PF b
  | .test n o l, hk => by
    obtain ⟨c, hc, e⟩ := hk
    rw [e]
    refine PF.of (by rw [← e]; rfl) (by rw [← e]; rfl) (fun d _ => ?_)
    rw [plain_test c hc, ← e]
    show Fil 0 _ d (.test n o l)
    rw [e]
    exact fil_test c hc d
  | .not a, hk => by
    have ih := pf_all a hk
    refine PF.of rfl rfl (fun d hd => ?_)
    have hp : plain (.not a) = 110 :: 111 :: 116 :: 32 :: round (isAnd a || isOr a) (plain a) := rfl
    rw [hp]
    simp only [dp] at hd
    obtain ⟨d, rfl⟩ : ∃ e, d = e + 1 := ⟨d - 1, by omega⟩
    refine Fil.not ?_
    cases hb : (isAnd a || isOr a)
    · rw [hb] at hd
      rw [Bool.or_eq_false_iff] at hb
      exact ih.nil hb.2 hb.1 d (by simpa using hd)
    · rw [hb] at hd
      simp only [cond_true] at hd
      obtain ⟨d, rfl⟩ : ∃ e, d = e + 1 := ⟨d - 1, by omega⟩
      exact (ih.two d (by omega)).par
  | .and a b, hk => by
    have iha := pf_all a hk.1
    have ihb := pf_all b hk.2
    have hp : plain (.and a b) = round (isOr a) (plain a) ++ 32 :: 97 :: 110 :: 100 :: 32 :: round (isOr b) (plain b) := by simp [plain, wAnd]
    have first : ∀ d, (bif isOr a then dp a + 1 else dp a) ≤ d → Fil 1 (round (isOr a) (plain a)) d (nf a) := by
      intro d hd
      cases ho : isOr a
      · rw [ho] at hd; exact iha.one ho d hd
      · rw [ho] at hd
        simp only [cond_true] at hd
        obtain ⟨d, rfl⟩ : ∃ e, d = e + 1 := ⟨d - 1, by omega⟩
        exact ((iha.two d (by omega)).par).one
    have one : ∀ d, dp (.and a b) ≤ d → Fil 1 (plain (.and a b)) d (nf (.and a b)) := by
      intro d hd
      simp only [dp] at hd
      rw [hp]
      exact ihb.att d _ _ (by omega) (first d (by omega))
    refine ⟨fun d hd => (one d hd).all, fun _ => one, fun _ h => (by cases h), fun d l x hd hl => ?_, fun d l x hd hl => ?_⟩
    · have hd : dp (.and a b) ≤ d := hd
      simp only [dp] at hd
      have h1 := iha.att d l x (by omega) hl
      have h2 := ihb.att d _ _ (by omega) h1
      have e : round (isOr (Ast.and a b)) (plain (.and a b)) = plain (.and a b) := rfl
      rw [e, hp]
      show Fil 1 _ d (andJ x (andJ (nf a) (nf b)))
      rw [andJ_assoc]
      simpa [List.append_assoc] using h2
    · show Fil 2 _ d (orJ x (andJ (nf a) (nf b)))
      rw [orJ_not (isOr_andJ _ _)]
      exact hl.or (one d hd)
  | .or a b, hk => by
    have iha := pf_all a hk.1
    have ihb := pf_all b hk.2
    have hp : plain (.or a b) = plain a ++ 32 :: 111 :: 114 :: 32 :: plain b := by simp [plain, wOr]
    have two : ∀ d, dp (.or a b) ≤ d → Fil 2 (plain (.or a b)) d (nf (.or a b)) := by
      intro d hd
      simp only [dp] at hd
      rw [hp]
      exact ihb.ato d _ _ (by omega) (iha.two d (by omega))
    refine ⟨two, fun h => (by cases h), fun h => (by cases h), fun d l x hd hl => ?_, fun d l x hd hl => ?_⟩
    · have hd : dp (.or a b) + 1 ≤ d := hd
      obtain ⟨d, rfl⟩ : ∃ e, d = e + 1 := ⟨d - 1, by omega⟩
      show Fil 1 (l ++ 32 :: 97 :: 110 :: 100 :: 32 :: (40 :: (plain (.or a b) ++ [41]))) (d + 1) (andJ x (orJ (nf a) (nf b)))
      rw [andJ_not (isAnd_orJ _ _)]
      exact hl.and (two d (by omega)).par
    · simp only [dp] at hd
      have h1 := iha.ato d l x (by omega) hl
      have h2 := ihb.ato d _ _ (by omega) h1
      rw [hp]
      show Fil 2 _ d (orJ x (orJ (nf a) (nf b)))
      rw [orJ_assoc]
      simpa [List.append_assoc] using h2
end Doc
end Go.Proofs.YtbnelaoeblhndaaGreatDoor
/- Filters of the statements, with what their plain form is like. -/
namespace Go.Proofs.YtbnelaoeblhndaaGreatDoor
open Go.RowKit
set_option maxRecDepth 100000

namespace Doc
theorem test_is (c : Nat) (h : c < 16) : ∃ n o l, testB c = .test n o l := by
  have h16 : c = 0 ∨ c = 1 ∨ c = 2 ∨ c = 3 ∨ c = 4 ∨ c = 5 ∨ c = 6 ∨ c = 7 ∨ c = 8 ∨ c = 9 ∨ c = 10 ∨ c = 11 ∨ c = 12 ∨ c = 13 ∨ c = 14 ∨ c = 15 := by omega
  rcases h16 with rfl | rfl | rfl | rfl | rfl | rfl | rfl | rfl | rfl | rfl | rfl | rfl | rfl | rfl | rfl | rfl <;> exact ⟨_, _, _, rfl⟩
theorem test_ka (c : Nat) (h : c < 16) : KA (testB c) ∧ isOr (testB c) = false ∧ isAnd (testB c) = false ∧ dp (testB c) = 0 := by
  obtain ⟨n, o, l, e⟩ := test_is c h
  rw [e]
  exact ⟨⟨c, h, e.symm⟩, rfl, rfl, rfl⟩
theorem round_len (b : Bool) (l : List UInt8) : (round b l).length ≤ l.length + 2 := by
  unfold round
  split <;> simp
end Doc

/-- A filter of the statements, its plain form no longer than it. -/
structure FilQ (f : ByteArray) (d : Nat) (A : Doc.Ast) : Prop where
  k : FilK f d A
  ka : Doc.KA A
  dep : Doc.dp A ≤ d
  len : (Doc.plain A).length ≤ f.size

theorem size_list (s : ByteArray) : s.data.toList.length = s.size := by simp

theorem filQ_test (c : Nat) (h : c < 16) : FilQ (Doc.testS c) 0 (Doc.testB c) := by
  obtain ⟨h1, _, _, h4⟩ := Doc.test_ka c h
  exact ⟨filK_test c h, h1, by omega, by rw [Doc.plain_test c h, size_list]; exact Nat.le_refl _⟩

section
variable {f : ByteArray} {d : Nat} {A : Doc.Ast} {c : Nat} (h : FilQ f d A) (hc : c < 16)
include h hc
theorem stepQ0 (hs : 1 + f.size + 6 + (Doc.testS c).size ≤ 60) (hd : d + 1 ≤ 3) : FilQ (⟨#[40]⟩ ++ f ++ ⟨#[41, 32, 97, 110, 100, 32]⟩ ++ Doc.testS c) (d + 1) (.and A (Doc.testB c)) := by
  obtain ⟨h1, h2, h3, h4⟩ := Doc.test_ka c hc
  have e : (⟨#[40]⟩ ++ f ++ ⟨#[41, 32, 97, 110, 100, 32]⟩ ++ Doc.testS c : ByteArray).size = 1 + f.size + 6 + (Doc.testS c).size := by rw [ByteArray.size_append, ByteArray.size_append, ByteArray.size_append]; rfl
  refine ⟨⟨step0 h.k c hc, hd, by omega⟩, ⟨h.ka, h1⟩, ?_, ?_⟩
  · have := h.dep
    simp only [Doc.dp, h2, h4, cond_false]
    cases Doc.isOr A <;> simp <;> omega
  · have := h.len
    have hr := Doc.round_len (Doc.isOr A) (Doc.plain A)
    simp only [Doc.plain, h2, Doc.round, Bool.false_eq_true, if_false, List.length_append, List.length_cons, List.length_nil, Doc.wAnd, Doc.plain_test c hc, size_list] at hr ⊢
    omega
theorem stepQ1 (hs : 1 + f.size + 5 + (Doc.testS c).size ≤ 60) (hd : d + 1 ≤ 3) : FilQ (⟨#[40]⟩ ++ f ++ ⟨#[41, 32, 111, 114, 32]⟩ ++ Doc.testS c) (d + 1) (.or A (Doc.testB c)) := by
  obtain ⟨h1, h2, h3, h4⟩ := Doc.test_ka c hc
  have e : (⟨#[40]⟩ ++ f ++ ⟨#[41, 32, 111, 114, 32]⟩ ++ Doc.testS c : ByteArray).size = 1 + f.size + 5 + (Doc.testS c).size := by rw [ByteArray.size_append, ByteArray.size_append, ByteArray.size_append]; rfl
  refine ⟨⟨step1 h.k c hc, hd, by omega⟩, ⟨h.ka, h1⟩, ?_, ?_⟩
  · have := h.dep
    simp only [Doc.dp, h4]
    omega
  · have := h.len
    simp only [Doc.plain, List.length_append, List.length_cons, List.length_nil, Doc.wOr, Doc.plain_test c hc, size_list]
    omega
theorem stepQ2 (hs : (Doc.testS c).size + 10 + f.size + 1 ≤ 60) (hd : d + 2 ≤ 3) : FilQ (Doc.testS c ++ ⟨#[32, 97, 110, 100, 32, 110, 111, 116, 32, 40]⟩ ++ f ++ ⟨#[41]⟩) (d + 2) (.and (Doc.testB c) (.not A)) := by
  obtain ⟨h1, h2, h3, h4⟩ := Doc.test_ka c hc
  have e : (Doc.testS c ++ ⟨#[32, 97, 110, 100, 32, 110, 111, 116, 32, 40]⟩ ++ f ++ ⟨#[41]⟩ : ByteArray).size = (Doc.testS c).size + 10 + f.size + 1 := by rw [ByteArray.size_append, ByteArray.size_append, ByteArray.size_append]; rfl
  refine ⟨⟨step2 h.k c hc, hd, by omega⟩, ⟨h1, h.ka⟩, ?_, ?_⟩
  · have := h.dep
    have ho : Doc.isOr (Doc.Ast.not A) = false := rfl
    simp only [Doc.dp, h2, h4, ho, cond_false]
    cases (Doc.isAnd A || Doc.isOr A) <;> simp <;> omega
  · have := h.len
    have ho : Doc.isOr (Doc.Ast.not A) = false := rfl
    have hr := Doc.round_len (Doc.isAnd A || Doc.isOr A) (Doc.plain A)
    have hp : (Doc.plain (.and (Doc.testB c) (.not A))).length = (Doc.testS c).size + 5 + (4 + (Doc.round (Doc.isAnd A || Doc.isOr A) (Doc.plain A)).length) := by
      simp only [Doc.plain, h2, ho, Doc.plain_test c hc]
      simp only [Doc.round, Bool.false_eq_true, if_false, List.length_append, List.length_cons, List.length_nil, Doc.wAnd, Doc.wNot, size_list]
    omega
theorem stepQ3 (hs : 4 + (Doc.testS c).size + 5 + f.size + 1 ≤ 60) (hd : d + 1 ≤ 3) : FilQ (⟨#[110, 111, 116, 32]⟩ ++ Doc.testS c ++ ⟨#[32, 111, 114, 32, 40]⟩ ++ f ++ ⟨#[41]⟩) (d + 1) (.or (.not (Doc.testB c)) A) := by
  obtain ⟨h1, h2, h3, h4⟩ := Doc.test_ka c hc
  have e : (⟨#[110, 111, 116, 32]⟩ ++ Doc.testS c ++ ⟨#[32, 111, 114, 32, 40]⟩ ++ f ++ ⟨#[41]⟩ : ByteArray).size = 4 + (Doc.testS c).size + 5 + f.size + 1 := by rw [ByteArray.size_append, ByteArray.size_append, ByteArray.size_append, ByteArray.size_append]; rfl
  refine ⟨⟨step3 h.k c hc, hd, by omega⟩, ⟨h1, h.ka⟩, ?_, ?_⟩
  · have := h.dep
    simp only [Doc.dp, h2, h3, h4, Bool.or_self, cond_false]
    omega
  · have := h.len
    simp only [Doc.plain, h2, h3, Bool.or_self, Doc.round, Bool.false_eq_true, if_false, List.length_append, List.length_cons, List.length_nil, Doc.wOr, Doc.wNot, Doc.plain_test c hc, size_list]
    omega
end
end Go.Proofs.YtbnelaoeblhndaaGreatDoor
/- The walk of the statements' filter, with what its plain form is like. -/
namespace Go.Proofs.YtbnelaoeblhndaaGreatDoor
open Go.RowKit
set_option maxRecDepth 100000

section
variable {w : World}
set_option maxHeartbeats 8000000 in
theorem kfilterQ_any (R : List Int) (hR : ∀ x ∈ R, In64 x) (hl : R.length ≤ 9223372036854775807) (rv : Value) (hr : Sl w rv R.length (intC R)) :
    Calls Tryz.prog 17 #[rv] w fun e w' => ∃ f d A, e = .returned (.string f) ∧ FilQ f d A ∧ Below w.heap.size w w' := by
  have HT0 : Hid (∀ W : World, Calls Tryz.prog 24 #[.int .i64 0] W fun e w' => e = .returned (.string (Doc.testS 0)) ∧ Below W.heap.size W w') := fun W => ktest_any 0 (by unfold In64; omega)
  have HRR : Hid _ := hr
  have HR : Hid _ := hR
  obtain ⟨ra, rc, hrv⟩ := hr.slice
  subst hrv
  obtain ⟨F0, HF0⟩ : ∃ F, Hid (F = Doc.testS 0) := ⟨_, rfl⟩
  rw [← HF0.out] at HT0
  have HK0 : Hid (FilQ F0 0 (Doc.testB 0)) := by rw [HF0.out]; exact filQ_test 0 (by decide)
  clear hr hR
  go_enter Tryz.func17, Tryz.ntmps17
  go_wp2_with fail
  refine Calls.mono (HT0.out _) ?_
  rintro e w1 ⟨rfl, hb1⟩
  go_wp2_with fail
  go_loopw [3, 4, 5] (fun fv dv i wr => ∃ (f : ByteArray) (d j : Nat) (A : Doc.Ast), fv = .string f ∧ dv = .int .i64 d ∧ i = .int .i64 j ∧ j ≤ 6 ∧ j ≤ R.length ∧ Hid (FilQ f d A) ∧ Below w.heap.size w wr) (fun _ _ i _ => 6 - (intOf i).toNat)
  case atStart => exact ⟨F0, 0, 0, _, rfl, rfl, rfl, by omega, by omega, HK0, hb1⟩
  case round =>
    obtain ⟨f, d, j, A, rfl, rfl, rfl, hj6, hjl, HK, hB⟩ := hrel
    by_cases hj2 : j < R.length ∧ j < 6
    · obtain ⟨hj2, hj3⟩ := hj2
      rcases HRR.out.has with ⟨h0', _⟩ | ⟨_, lb, lo, lcap, elv, hc2, hlt2, hr2⟩
      · omega
      cases elv
      obtain ⟨x, HX⟩ : ∃ x, Hid (x = R[j]) := ⟨R[j], rfl⟩
      have r0 : wr.cell? ⟨lb, lo + j, none⟩ = some (.int .i64 x) := by rw [hB.cell (p := ⟨lb, lo + j, none⟩) hlt2, HX.out]; exact hr2 j _ (int_at R j hj2)
      have hx64 := HR.out x (by rw [HX.out]; exact List.getElem_mem hj2)
      obtain ⟨c, HC⟩ : ∃ c, Hid (c = Doc.pickN x 16) := ⟨_, rfl⟩
      have hc16 : c < 16 := by rw [HC.out]; exact Doc.pickN_lt x (by decide)
      obtain ⟨T, HT⟩ : ∃ T, Hid (T = Doc.testS c) := ⟨_, rfl⟩
      have HTX : Hid (∀ W : World, Calls Tryz.prog 24 #[.int .i64 x] W fun e w' => e = .returned (.string T) ∧ Below W.heap.size W w') := fun W => by rw [HT.out, HC.out]; exact ktest_any x hx64
      have hts : T.size ≤ 15 := by rw [HT.out]; exact tS_size c hc16
      have hfs := HK.out.k.len
      have hds := HK.out.k.dep
      obtain ⟨r, er, hr4, HP⟩ := pick_all (wrap64 (x.tdiv 16)) (in64_wrap _) 4 (by decide) (by decide)
      have HKT : Hid (FilQ T 0 (Doc.testB c)) := by rw [HT.out]; exact filQ_test c hc16
      have HS0 : Hid _ := stepQ0 HK.out hc16
      have HS1 : Hid _ := stepQ1 HK.out hc16
      have HS2 : Hid _ := stepQ2 HK.out hc16
      have HS3 : Hid _ := stepQ3 HK.out hc16
      rw [← HT.out] at HS0 HS1 HS2 HS3
      have hlt3 : lb < wr.heap.size := Nat.lt_of_lt_of_le hlt2 hB.size
      clear er hr2 hx64
      have h4 : r = 0 ∨ r = 1 ∨ r = 2 ∨ r = 3 := by omega
      clear hr4
      rcases h4 with rfl | rfl | rfl | rfl
      · go_wp2_with fail
        refine Calls.mono (HTX.out _) ?_
        rintro e w2 ⟨rfl, hb2⟩
        have r1 := (hb2.cell (p := ⟨lb, lo + j, none⟩) hlt3).trans r0
        have HB2 : Hid (Below w.heap.size w w2) := hB.trans (hb2.mono hB.size)
        go_wp2_with fail
        refine Calls.mono (HP.out _) ?_
        rintro e w3 ⟨rfl, hw3⟩
        rw [hw3]
        clear hw3 w3
        go_wp2_with fail
        all_goals first
          | (exfalso; omega)
          | exact ⟨⟨T, 0, j + 1, _, rfl, rfl, by go_num, by omega, by omega, HKT, HB2.out⟩, by simp [intOf]; omega⟩
          | exact ⟨⟨_, d + 1, j + 1, _, rfl, by go_num, by go_num, by omega, by omega, HS0.out (by omega) (by omega), HB2.out⟩, by simp [intOf]; omega⟩
      · go_wp2_with fail
        refine Calls.mono (HTX.out _) ?_
        rintro e w2 ⟨rfl, hb2⟩
        have r1 := (hb2.cell (p := ⟨lb, lo + j, none⟩) hlt3).trans r0
        have HB2 : Hid (Below w.heap.size w w2) := hB.trans (hb2.mono hB.size)
        go_wp2_with fail
        refine Calls.mono (HP.out _) ?_
        rintro e w3 ⟨rfl, hw3⟩
        rw [hw3]
        clear hw3 w3
        go_wp2_with fail
        all_goals first
          | (exfalso; omega)
          | exact ⟨⟨T, 0, j + 1, _, rfl, rfl, by go_num, by omega, by omega, HKT, HB2.out⟩, by simp [intOf]; omega⟩
          | exact ⟨⟨_, d + 1, j + 1, _, rfl, by go_num, by go_num, by omega, by omega, HS1.out (by omega) (by omega), HB2.out⟩, by simp [intOf]; omega⟩
      · go_wp2_with fail
        refine Calls.mono (HTX.out _) ?_
        rintro e w2 ⟨rfl, hb2⟩
        have r1 := (hb2.cell (p := ⟨lb, lo + j, none⟩) hlt3).trans r0
        have HB2 : Hid (Below w.heap.size w w2) := hB.trans (hb2.mono hB.size)
        go_wp2_with fail
        refine Calls.mono (HP.out _) ?_
        rintro e w3 ⟨rfl, hw3⟩
        rw [hw3]
        clear hw3 w3
        go_wp2_with fail
        all_goals first
          | (exfalso; omega)
          | exact ⟨⟨T, 0, j + 1, _, rfl, rfl, by go_num, by omega, by omega, HKT, HB2.out⟩, by simp [intOf]; omega⟩
          | exact ⟨⟨_, d + 2, j + 1, _, rfl, by go_num, by go_num, by omega, by omega, HS2.out (by omega) (by omega), HB2.out⟩, by simp [intOf]; omega⟩
      · go_wp2_with fail
        refine Calls.mono (HTX.out _) ?_
        rintro e w2 ⟨rfl, hb2⟩
        have r1 := (hb2.cell (p := ⟨lb, lo + j, none⟩) hlt3).trans r0
        have HB2 : Hid (Below w.heap.size w w2) := hB.trans (hb2.mono hB.size)
        go_wp2_with fail
        refine Calls.mono (HP.out _) ?_
        rintro e w3 ⟨rfl, hw3⟩
        rw [hw3]
        clear hw3 w3
        go_wp2_with fail
        all_goals first
          | (exfalso; omega)
          | exact ⟨⟨T, 0, j + 1, _, rfl, rfl, by go_num, by omega, by omega, HKT, HB2.out⟩, by simp [intOf]; omega⟩
          | exact ⟨⟨_, d + 1, j + 1, _, rfl, by go_num, by go_num, by omega, by omega, HS3.out (by omega) (by omega), HB2.out⟩, by simp [intOf]; omega⟩
    · have hout : R.length ≤ j ∨ 6 ≤ j := by omega
      have HKF : Hid _ := HK.out
      rcases Nat.lt_or_ge j R.length with h1 | h1
      · have h2 : 6 ≤ j := by omega
        go_wp2_with fail
        all_goals first
          | (exfalso; omega)
          | (go_ret; exact ⟨f, d, A, rfl, HKF.out, hB⟩)
      · go_wp2_with fail
        all_goals first
          | (exfalso; omega)
          | (go_ret; exact ⟨f, d, A, rfl, HKF.out, hB⟩)
end
end Go.Proofs.YtbnelaoeblhndaaGreatDoor
/- The walk of the statement Plainly. -/
namespace Go.Proofs.YtbnelaoeblhndaaGreatDoor
open Go.RowKit
set_option maxRecDepth 100000

namespace Doc
theorem litsText_bare : ∀ l : List Tok, litsText (l.map bareT) = litsText l
  | [] => rfl
  | [_] => rfl
  | t :: u :: r => by
    have := litsText_bare (u :: r)
    simp only [List.map_cons, litsText] at this ⊢
    rw [this]
    rfl
theorem isOr_bare (a : Ast) : isOr (bareA a) = isOr a := by cases a <;> rfl
theorem isAnd_bare (a : Ast) : isAnd (bareA a) = isAnd a := by cases a <;> rfl
theorem plain_bare : ∀ a : Ast, plain (bareA a) = plain a
  | .test n o l => by
    simp only [bareA, plain, litsText_bare]
    rfl
  | .not a => by simp only [bareA, plain, isOr_bare, isAnd_bare, plain_bare a]
  | .and a b => by simp only [bareA, plain, isOr_bare, plain_bare a, plain_bare b]
  | .or a b => by simp only [bareA, plain, plain_bare a, plain_bare b]
theorem Fil.answer {s : ByteArray} {d : Nat} {A : Ast} (h : Fil 2 s.data.toList d A) (hd : d ≤ 6) (hs : s.size ≤ 200) : answer s = (plain A, 0, 0) := by
  obtain ⟨ts, h1, h2⟩ := h.has
  obtain ⟨a, j, hp, hb⟩ := h1.reads (h2.upto hd)
  unfold Doc.answer
  rw [if_neg (by omega), hp]
  simp only
  rw [← hb, plain_bare]
end Doc

section
variable {f : ByteArray} {d : Nat} {A : Doc.Ast}
theorem FilQ.plainFil (h : FilQ f d A) : Doc.Fil 2 (⟨(Doc.plain A).toArray⟩ : ByteArray).data.toList d (Doc.nf A) := (Doc.pf_all A h.ka).two d h.dep
theorem FilQ.plainSize (h : FilQ f d A) : (⟨(Doc.plain A).toArray⟩ : ByteArray).size ≤ f.size := by
  have := h.len
  show (Doc.plain A).toArray.size ≤ _
  simpa using this
theorem FilQ.answerF (h : FilQ f d A) : Doc.answer f = (Doc.plain A, 0, 0) := h.k.fil.answer (by have := h.k.dep; omega) (by have := h.k.len; omega)
theorem FilQ.answerG (h : FilQ f d A) : Doc.answer ⟨(Doc.plain A).toArray⟩ = (Doc.plain A, 0, 0) := by
  rw [h.plainFil.answer (by have := h.k.dep; omega) (by have := h.k.len; have := h.plainSize; omega), Doc.plain_nf]
end

section
variable {w : World}
set_option maxHeartbeats 16000000 in
theorem plainly_any (hL : LaidF w) (hT : Laid w) (L : List Doc.Raw) (hll : L.length ≤ 9223372036854775807) (h64 : ∀ t ∈ L, Raw64 t) (tv : Value) (ht : Sl w tv L.length (rawsC L)) (R : List Int) (hR : ∀ x ∈ R, In64 x) (hrl : R.length ≤ 9223372036854775807) (rv : Value) (hrv : Sl w rv R.length (intC R)) :
    Calls Tryz.prog 6 #[tv, rv] w fun e w' => e = .returned (.bool true) ∧ Below w.heap.size w w' := by
  have HFI : Hid _ := filled_any hL.sg hL.g1 L hll h64 tv ht
  have HFT : Hid (∀ W : World, Below w.heap.size w W → Calls Tryz.prog 17 #[rv] W fun e w' => ∃ f d A, e = .returned (.string f) ∧ FilQ f d A ∧ Below W.heap.size W w') := fun W hW => kfilterQ_any R hR hrl rv (hrv.below hW)
  obtain ⟨ta, tc, htv⟩ := ht.slice
  subst htv
  obtain ⟨ra, rc, hrs⟩ := hrv.slice
  subst hrs
  have HLL : Hid _ := hL
  have HTT : Hid _ := hT
  have g1 := hL.g1
  have g2 := hL.g2
  clear ht h64 hL hT hrv hR
  go_enter Tryz.func6, Tryz.ntmps6
  go_wp2_with fail
  refine Calls.mono HFI.out ?_
  rintro e w1 ⟨sb, rfl, hp1, hb1⟩
  have HP1 : Hid _ := hp1
  have HB1 : Hid _ := hb1
  have HLW : Hid (∀ W : World, Below w1.heap.size w1 W → LaidF W ∧ ProgSt W (fun k => w.heap.size ≤ k ∧ k < w1.heap.size) sb Doc.fsK 2 (storeK L)) := fun W hW =>
    ⟨HLL.out.below (HB1.out.trans (hW.mono HB1.out.size)) g1 g2, ProgSt.kept HP1.out (fun k hk _ => hW.block k hk.2) (fun k hk _ => hk)⟩
  have HTW : Hid (∀ W : World, Below w1.heap.size w1 W → Laid W) := fun W hW => HTT.out.below (HB1.out.trans (hW.mono HB1.out.size))
  clear hp1 hb1
  go_wp2_with fail
  refine Calls.mono (HFT.out _ HB1.out) ?_
  rintro e w2 ⟨f, d, A, rfl, hfk, hb2⟩
  have HFK : Hid _ := hfk
  have hfs := hfk.k.len
  have hds := hfk.k.dep
  have hgs := hfk.plainSize
  have HFG : Hid _ := hfk.plainFil
  have HAF : Hid _ := hfk.answerF
  have HAG : Hid _ := hfk.answerG
  obtain ⟨g, HG⟩ : ∃ g : ByteArray, Hid (⟨(Doc.plain A).toArray⟩ = g) := ⟨_, rfl⟩
  rw [HG.out] at hgs HFG HAG
  have HPF : Hid (∀ W : World, Below w1.heap.size w1 W → Calls Tryz.prog 12 #[.string f] W fun r w' => r = .returned (.tuple #[.string g, .int .i64 0, .int .i64 0]) ∧ Below W.heap.size W w') := fun W hW => by
    have := plain_any f W (HTW.out W hW)
    rw [HAF.out, answerV] at this
    simp only at this
    rw [HG.out] at this
    exact this
  have HPG : Hid (∀ W : World, Below w1.heap.size w1 W → Calls Tryz.prog 12 #[.string g] W fun r w' => r = .returned (.tuple #[.string g, .int .i64 0, .int .i64 0]) ∧ Below W.heap.size W w') := fun W hW => by
    have := plain_any g W (HTW.out W hW)
    rw [HAG.out, answerV] at this
    simp only at this
    rw [HG.out] at this
    exact this
  have HB2 : Hid _ := hb2
  clear hfk hb2
  have HCH : Hid (∀ (W : World) (s : ByteArray) (dd : Nat) (B : Doc.Ast), Below w1.heap.size w1 W → Doc.Fil 2 s.data.toList dd B → dd ≤ 6 → s.size ≤ 200 → Calls Tryz.prog 18 #[.pointer (some ⟨sb, 0, none⟩), .string s] W fun e w' => ∃ v ys, e = .returned (.tuple #[v, .bool true]) ∧ (∀ j, j < 4096 → memB ys j = saysY Doc.fsK (storeK L) B j) ∧ Sl w' v (nums ys).length (natC (nums ys)) ∧ Below W.heap.size W w') := fun W s dd B hW h1 h2 h3 => chosen_fil (HLW.out W hW).2 (HLW.out W hW).1 h1 h2 h3
  go_wp2_with fail
  refine Calls.mono (HPF.out _ HB2.out) ?_
  rintro e w3 ⟨rfl, hb3⟩
  have HB3 : Hid (Below w1.heap.size w1 w3) := HB2.out.trans (hb3.mono HB2.out.size)
  clear hb3
  go_wp2_with fail
  refine Calls.mono (HPG.out _ HB3.out) ?_
  rintro e w4 ⟨rfl, hb4⟩
  have HB4 : Hid (Below w1.heap.size w1 w4) := HB3.out.trans (hb4.mono HB3.out.size)
  clear hb4
  go_wp2_with fail
  refine Calls.mono (HCH.out _ _ _ _ HB4.out HFK.out.k.fil (by omega) (by omega)) ?_
  rintro e wa ⟨va, ysa, rfl, hya, hsa, hba⟩
  obtain ⟨ca, da, hva⟩ := hsa.slice
  subst hva
  have HYa : Hid _ := hya
  have HSLa : Hid _ := hsa
  have HBa : Hid (Below w1.heap.size w1 wa) := HB4.out.trans (hba.mono HB4.out.size)
  clear hya hsa hba
  go_wp2_with fail
  refine Calls.mono (HCH.out _ _ _ _ HBa.out HFG.out (by omega) (by omega)) ?_
  rintro e wb ⟨vb, ysb, rfl, hyb, hsb, hbb⟩
  obtain ⟨cb, db, hvb⟩ := hsb.slice
  subst hvb
  have HBb : Hid (Below w1.heap.size w1 wb) := HBa.out.trans (hbb.mono HBa.out.size)
  have nba : nums ysb = nums ysa := nums_congr (fun i hi => by rw [hyb i hi, HYa.out i hi]; exact says_eq (fun vals => by rw [Doc.eval_nf]) i)
  have HSM : Hid (Calls Tryz.prog 19 #[.slice ca (nums ysa).length da, .slice cb (nums ysb).length db] wb fun e w' => e = .returned (.bool true) ∧ Below wb.heap.size wb w') := by
    have hla : ((nums ysa).map Int.ofNat).length = (nums ysa).length := by simp
    have SA : Sl wb (.slice ca (nums ysa).length da) ((nums ysa).map Int.ofNat).length (intC ((nums ysa).map Int.ofNat)) := by rw [hla]; exact HSLa.out.below hbb
    have SB : Sl wb (.slice cb (nums ysb).length db) ((nums ysa).map Int.ofNat).length (intC ((nums ysa).map Int.ofNat)) := by have := hsb; rw [hla, ← nba]; exact this
    exact ksame_any _ (by rw [hla]; have := nums_short ysa; omega) _ _ SA SB
  clear hyb hsb hbb nba
  go_wp2_with fail
  refine Calls.mono HSM.out ?_
  rintro e w5 ⟨rfl, hb5⟩
  have HB5 : Hid (Below w1.heap.size w1 w5) := HBb.out.trans (hb5.mono HBb.out.size)
  clear hb5
  have hg63 : g.size < 9223372036854775807 := by omega
  have hf63 : f.size < 9223372036854775807 := by omega
  go_wp2_with fail
  all_goals first | (exfalso; omega) | skip
  all_goals go_ret
  all_goals exact ⟨rfl, HB1.out.trans (HB5.out.mono HB1.out.size)⟩
end
end Go.Proofs.YtbnelaoeblhndaaGreatDoor
/- Numbers that are handed in, opened; what the rows' condition gives to Plain. -/
namespace Go.Proofs.YtbnelaoeblhndaaGreatDoor
open Go.ChangeShapes Go.WideShapes Go.ChangeAt Go.WideMaps Go.WideElems Go.RowKit
set_option maxRecDepth 100000

namespace Keep
theorem cells_int : Tryz.prog.cellsOf 3 = 1 := by kernel_rfl
/-- Numbers that are handed in. -/
theorem open_ints {H : Type} {enc : TypeId × Value → H} {w : World} {sp : Nat → Bool} {held : Bool} {fuel : Nat} {sv : Value} {x : DataW H × List MemPlace} (h : DataW.trod enc Tryz.prog w 0 sp held fuel 33 [sv] = some x) :
    ∃ l : List Int, l.length ≤ 9223372036854775807 ∧ (∀ t ∈ l, In64 t) ∧ Sl w sv l.length (intC l) := by
  rcases Go.Deep.open_slice1 Tryz.underlying33 cells_int h with ⟨hc, rfl⟩ | ⟨a, len, cap, m, n, V, D, Pl, hc, _, hl, hm, hme, rfl, hel⟩
  · simp only [List.cons.injEq, and_true] at hc
    subst hc
    exact ⟨[], by simp, by simp, ⟨.inl ⟨rfl, none, 0, rfl⟩⟩⟩
  · simp only [List.cons.injEq, and_true] at hc
    subst hc
    have hlm : len ≤ m := by rw [hme]; split <;> omega
    obtain ⟨l, hll, hp⟩ := list_of (p := fun i (y : Int) => w.cell? (a.add i) = some (.int .i64 y) ∧ In64 y) len (fun i hi => by
      obtain ⟨h1, h2⟩ := hel i (by omega)
      obtain ⟨k, e, _, f⟩ := DataW.trod_int Tryz.underlying3 h2
      simp only [List.cons.injEq, and_true] at e
      rw [e] at h1
      exact ⟨k, h1, wf_i64 f⟩)
    unfold maxLen at hm
    refine ⟨l, by omega, fun t ht => ?_, ⟨?_⟩⟩
    · obtain ⟨i, hi, rfl⟩ := List.getElem_of_mem ht
      exact (hp i hi).2
    · by_cases h0 : l.length = 0
      · exact .inl ⟨h0, some a, cap, by rw [← hll, h0]⟩
      · have h1 := (hp 0 (by omega)).1
        have ha0 : a.add 0 = a := by simp [Addr.add]
        rw [ha0] at h1
        have hs := World.cell?_spot h1
        have hb := World.block_lt_of_cell? w _ h1
        obtain ⟨b, off, spot⟩ := a
        simp only at hs hb
        subst hs
        refine .inr ⟨by omega, b, off, cap, by rw [hll], by omega, hb, fun j u hj => ?_⟩
        have hjl : j < l.length := by have := (List.getElem?_eq_some_iff.1 hj).1; simpa [intC] using this
        have h2 := (hp j hjl).1
        rw [add_off] at h2
        rw [h2, ← int_at l j hjl]
        exact hj

theorem tens_type : (Tryz.prog.globals[3]?).map (·.type) = some 300 := by kernel_rfl
theorem cells_u64 : Tryz.prog.cellsOf 105 = 1 := by kernel_rfl
theorem cells_tens : Tryz.prog.cellsOf 300 = 20 := by kernel_rfl
theorem of_laidT {W : World} (h : laidMetH Tryz.prog Rows.alikeRow.laid W) : Laid W := by
  rw [MakeChecks.laidMetH_plain _ _ _ (by kernel_rfl)] at h
  obtain ⟨ps, ⟨g0, t0, cs0, f0, p0, q0, hg0, ht0, hv0, hd0, ⟨g1, t1, cs1, f1, p1, q1, hg1, ht1, hv1, hd1, ⟨g2, t2, cs2, f2, p2, q2, hg2, ht2, hv2, hd2, ⟨g3, t3, cs3, f3, p3, q3, hg3, ht3, hv3, hd3, ⟨g4, t4, cs4, f4, p4, q4, hg4, ht4, hv4, hd4, ⟨g5, t5, cs5, f5, p5, q5, hg5, ht5, hv5, hd5, _, _⟩, _⟩, _⟩, _⟩, _⟩, _⟩, _, _⟩ := h
  obtain rfl := Option.some.inj (tens_at.symm.trans hg2)
  obtain rfl := Option.some.inj (tens_type.symm.trans ht2)
  obtain rfl := Option.some.inj (signs_at.symm.trans hg5)
  obtain rfl := Option.some.inj (signs_type.symm.trans ht5)
  have hs := cells_of_strs (ls := [[33, 61], [60, 61], [62, 61], [61], [60], [62], [40], [41], [44]]) Tryz.underlying255 Tryz.underlying9 cells_str cells_signs hd5
  have hc : ∀ i (hi : i < 9), W.cell? ⟨1, i, none⟩ = some (.string ⟨([[33, 61], [60, 61], [62, 61], [61], [60], [62], [40], [41], [44]] : List (List UInt8))[i].toArray⟩) := by
    intro i hi
    have h1 := World.var?_cell hg5 hv5 i
    have h2 := hs i hi
    rw [Array.getElem?_toList] at h2
    rw [h1, h2]
  refine ⟨⟨hc 0 (by decide), hc 1 (by decide), hc 2 (by decide), hc 3 (by decide), hc 4 (by decide), hc 5 (by decide), hc 6 (by decide), hc 7 (by decide), hc 8 (by decide)⟩, ?_, lt_of_var hg5 hv5, lt_of_var hg2 hv2⟩
  unfold Tens Lib.TabIs
  rw [hv2, ← Lib.cells_of_tab (zs := Lib.pow10Tab) Tryz.underlying300 Tryz.underlying105 cells_u64 cells_tens hd2]
end Keep
end Go.Proofs.YtbnelaoeblhndaaGreatDoor
