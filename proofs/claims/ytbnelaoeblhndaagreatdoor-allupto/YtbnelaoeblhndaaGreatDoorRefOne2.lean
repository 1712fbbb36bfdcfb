import Derived.KernelRfl
import Derived.Test.YtbnelaoeblhndaaGreatDoorRows
import Derived.WalkKit
import Derived.WalkSpells
import Derived.WalkLawsBesides
namespace Go.Proofs.YtbnelaoeblhndaaGreatDoor
namespace Doc
def run (lo hi:UInt8)(l:List UInt8):Nat:=(l.takeWhile fun c=>lo≤c && c≤hi).length
theorem run_le (lo hi:UInt8)(l:List UInt8):run lo hi l≤l.length:=by
 unfold run;exact(List.takeWhile_sublist _).length_le
theorem run_hit {lo hi c:UInt8}{l:List UInt8}(h:lo≤c)(k:c≤hi):run lo hi (c::l)=run lo hi l+1:=by
 simp[run,h,k]
theorem run_miss {lo hi c:UInt8}{l:List UInt8}(h:¬(lo≤c∧c≤hi)):run lo hi (c::l)=0:=by
 unfold run
 rw[List.takeWhile_cons_of_neg (by simpa using h)]
 rfl
theorem run_all (lo hi:UInt8)(l:List UInt8):∀c∈l.take (run lo hi l),lo≤c∧c≤hi:=by
 induction l with
 |nil=>simp
 |cons c l ih=>
  by_cases h:lo≤c∧c≤hi
  ·rw[run_hit h.1 h.2]
   intro x hx
   simp only[List.take_succ_cons,List.mem_cons] at hx
   rcases hx with rfl|hx
   ·exact h
   ·exact ih x hx
  ·rw[run_miss h];simp
def inside (l:List UInt8):Nat:=(l.takeWhile fun c=>c != 34).length
theorem inside_le (l:List UInt8):inside l≤l.length:=by
 unfold inside;exact(List.takeWhile_sublist _).length_le
theorem inside_hit {l:List UInt8}:inside (34::l)=0:=by simp[inside]
theorem inside_go {c:UInt8}{l:List UInt8}(h:c≠34):inside (c::l)=inside l+1:=by simp[inside,h]
def num (l:List UInt8):Nat:=l.foldl (fun n c=>10*n+(c.toNat-48)) 0
theorem num_snoc (l:List UInt8)(c:UInt8):num (l++[c])=10*num l+(c.toNat-48):=by simp[num]
theorem num_lt_from (l:List UInt8)(h:∀c∈l,(48:UInt8)≤c∧c≤57):∀n:Nat,l.foldl (fun n c=>10*n+(c.toNat-48)) n<(n+1)*10 ^ l.length:=by
 induction l with
 |nil=>intro n;simp
 |cons c l ih=>
  intro n
  have h1:=ih (fun x hx=>h x (by simp[hx])) (10*n+(c.toNat-48))
  have h2:=(h c (by simp)).2
  rw[UInt8.le_iff_toNat_le] at h2
  have h3:(57:UInt8).toNat=57:=rfl
  simp only[List.foldl_cons,List.length_cons,Nat.pow_succ]
  have h4:(10*n+(c.toNat-48)+1)*10 ^ l.length≤(10*(n+1))*10 ^ l.length:=Nat.mul_le_mul_right _ (by omega)
  have h5:(10*(n+1))*10 ^ l.length=(n+1)*(10 ^ l.length*10):=by
   rw[Nat.mul_comm 10 (n+1),Nat.mul_assoc,Nat.mul_comm 10]
  omega
theorem num_lt (l:List UInt8)(h:∀c∈l,(48:UInt8)≤c∧c≤57):num l<10 ^ l.length:=by
 have:=num_lt_from l h 0;unfold num;omega
def isLetter (c:UInt8):Bool:=97≤c && c≤122
def isDigit (c:UInt8):Bool:=48≤c && c≤57
def twoSign (l:List UInt8):Bool:=l.take 2==[33,61] || l.take 2==[60,61] || l.take 2==[62,61]
def oneSign (c:UInt8):Bool:=c==61 || c==60 || c==62 || c==40 || c==41 || c==44
def lex (l:List UInt8):UInt8×Nat:=
 match l with
 | []=>(101,0)
 |c::r=>
  if isLetter c then
   (if run 97 122 l≤8 then (119,run 97 122 l) else (120,0))
  else if c==45 then
   (if run 48 57 r≠0∧run 48 57 r≤7 then (110,run 48 57 r+1) else (120,0))
  else if isDigit c then
   (if run 48 57 l≤7 then (110,run 48 57 l) else (120,0))
  else if c==34 then
   (if inside r<r.length∧inside r≤12 then (115,inside r+2) else (120,0))
  else if twoSign l then (103,2)
  else if oneSign c then (103,1)
  else (120,0)
structure Tok where
 kind:UInt8
 S:ByteArray
 N:Int
 at_:Nat
def rest (s:ByteArray)(a:Nat):List UInt8:=s.data.toList.drop a
def signed:List UInt8→Int
 | []=>0
 |c::r=>if c==45 then -(num r:Int) else num (c::r)
theorem signed_minus {c:UInt8}{r:List UInt8}(h:(c==45)=true):signed (c::r)= -(num r:Int):=by simp only[signed,h,if_true]
theorem signed_plain {c:UInt8}{r:List UInt8}(h:(c==45)=false):signed (c::r)=num (c::r):=by simp[signed,h]
def tok (s:ByteArray)(a:Nat):Tok:=
 let p:=lex (rest s a)
 {kind:=p.1
  S:=if p.1=119∨p.1=103 then s.extract a (a+p.2) else if p.1=115 then s.extract (a+1) (a+p.2-1) else ByteArray.empty
  N:=if p.1=110 then signed ((rest s a).take p.2) else 0
  at_:=a}
def tokEnd (s:ByteArray)(a:Nat):Nat:=if (lex (rest s a)).1=120 then s.size else a+(lex (rest s a)).2
def skip (s:ByteArray)(a:Nat):Nat:=a+((rest s a).takeWhile fun c=>c==32).length
end Doc
namespace Doc
def past (s:ByteArray)(a:Nat):Nat:=a+run 32 32 (rest s a)
theorem len_rest (s:ByteArray)(a:Nat):(rest s a).length=s.size-a:=by simp[rest]
theorem past_le {s:ByteArray}{a:Nat}(h:a≤s.size):a≤past s a∧past s a≤s.size:=by
 have:=run_le 32 32 (rest s a)
 rw[len_rest] at this
 unfold past;omega
theorem lex_len (c:UInt8)(r:List UInt8):
  ((lex (c::r)).1=119∨(lex (c::r)).1=110∨(lex (c::r)).1=115∨(lex (c::r)).1=103∨(lex (c::r)).1=120)∧
  (lex (c::r)).2≤r.length+1∧((lex (c::r)).1≠120→0<(lex (c::r)).2):=by
 have h1:=run_le 97 122 (c::r)
 have h2:=run_le 48 57 r
 have h3:=run_le 48 57 (c::r)
 have h4:=inside_le r
 simp only[List.length_cons] at h1 h3
 unfold lex
 split
 ·contradiction
 ·rename_i c' r' heq
  rw[List.cons.injEq] at heq
  obtain⟨rfl,rfl⟩:=heq
  split
  ·rename_i hl
   split
   ·refine⟨.inl rfl,h1,fun _=>?_⟩
    simp only[isLetter,Bool.and_eq_true,decide_eq_true_eq] at hl
    rw[run_hit hl.1 hl.2];show 0<_+1;omega
   ·exact⟨.inr (.inr (.inr (.inr rfl))),Nat.zero_le _,fun h=>absurd rfl h⟩
  ·split
   ·split
    ·exact⟨.inr (.inl rfl),by show run 48 57 r+1≤_;omega,fun _=>Nat.succ_pos _⟩
    ·exact⟨.inr (.inr (.inr (.inr rfl))),Nat.zero_le _,fun h=>absurd rfl h⟩
   ·split
    ·rename_i hl
     split
     ·refine⟨.inr (.inl rfl),h3,fun _=>?_⟩
      simp only[isDigit,Bool.and_eq_true,decide_eq_true_eq] at hl
      rw[run_hit hl.1 hl.2];show 0<_+1;omega
     ·exact⟨.inr (.inr (.inr (.inr rfl))),Nat.zero_le _,fun h=>absurd rfl h⟩
    ·split
     ·split
      ·exact⟨.inr (.inr (.inl rfl)),by show inside r+2≤_;omega,fun _=>by show 0<inside r+2;omega⟩
      ·exact⟨.inr (.inr (.inr (.inr rfl))),Nat.zero_le _,fun h=>absurd rfl h⟩
     ·split
      ·rename_i ht
       refine⟨.inr (.inr (.inr (.inl rfl))),?_,fun _=>by show 0<2;omega⟩
       show 2≤_
       cases r with
       |nil=>simp[twoSign] at ht
       |cons=>simp
      ·split
       ·exact⟨.inr (.inr (.inr (.inl rfl))),by show 1≤_;omega,fun _=>by show 0<1;omega⟩
       ·exact⟨.inr (.inr (.inr (.inr rfl))),Nat.zero_le _,fun h=>absurd rfl h⟩
theorem rest_at (s:ByteArray)(a:Nat)(h:a<s.size):∃c r,rest s a=c::r:=by
 have:=len_rest s a
 cases hr:rest s a with
 |nil=>rw[hr] at this;simp at this;omega
 |cons c r=>exact⟨c,r,rfl⟩
theorem tok_kind {s:ByteArray}{a:Nat}(h:a<s.size):(tok s a).kind=119∨(tok s a).kind=110∨(tok s a).kind=115∨(tok s a).kind=103∨(tok s a).kind=120:=by
 obtain⟨c,r,hr⟩:=rest_at s a h
 show(lex (rest s a)).1=_∨(lex (rest s a)).1=_∨(lex (rest s a)).1=_∨(lex (rest s a)).1=_∨(lex (rest s a)).1=_
 rw[hr];exact(lex_len c r).1
theorem tokEnd_lt {s:ByteArray}{a:Nat}(h:a<s.size):a<tokEnd s a∧tokEnd s a≤s.size:=by
 obtain⟨c,r,hr⟩:=rest_at s a h
 have h1:=lex_len c r
 have h2:=len_rest s a
 rw[hr,List.length_cons] at h2
 unfold tokEnd
 rw[hr]
 split
 ·omega
 ·rename_i hk
  have:=h1.2.2 hk
  omega
def endTok (s:ByteArray):Tok:=⟨101,ByteArray.empty,0,s.size⟩
def toksF:Nat→ByteArray→Nat→List Tok
 |0,_,_=>[]
 |n+1,s,a=>
  if past s a=s.size then [endTok s]
  else if (tok s (past s a)).kind=120 then [tok s (past s a)]
  else tok s (past s a)::toksF n s (tokEnd s (past s a))
theorem toksF_eq (s:ByteArray):∀n m a,a≤s.size→s.size-a<n→s.size-a<m→toksF n s a=toksF m s a:=by
 intro n
 induction n with
 |zero=>intro m a _ h;omega
 |succ n ih=>
  intro m a ha h1 h2
  obtain⟨m,rfl⟩:∃q,m=q+1:=⟨m-1,by omega⟩
  unfold toksF
  split
  ·rfl
  ·split
   ·rfl
   ·rename_i h3 h4
    have h5:=past_le ha
    have h6:=tokEnd_lt (s:=s) (a:=past s a) (by omega)
    rw[ih m _ h6.2 (by omega) (by omega)]
def toks (s:ByteArray)(a:Nat):List Tok:=toksF (s.size+1-a) s a
theorem toks_end {s:ByteArray}{a:Nat}(h:a≤s.size)(hp:past s a=s.size):toks s a=[endTok s]:=by
 unfold toks
 rw[show s.size+1-a=(s.size-a)+1 by omega]
 unfold toksF
 rw[if_pos hp]
theorem toks_wrong {s:ByteArray}{a:Nat}(h:a≤s.size)(hp:past s a≠s.size)(hk:(tok s (past s a)).kind=120):toks s a=[tok s (past s a)]:=by
 unfold toks
 rw[show s.size+1-a=(s.size-a)+1 by omega]
 unfold toksF
 rw[if_neg hp,if_pos hk]
theorem toks_next {s:ByteArray}{a:Nat}(h:a≤s.size)(hp:past s a≠s.size)(hk:(tok s (past s a)).kind≠120):toks s a=tok s (past s a)::toks s (tokEnd s (past s a)):=by
 have h5:=past_le h
 have h6:=tokEnd_lt (s:=s) (a:=past s a) (by omega)
 unfold toks
 rw[show s.size+1-a=(s.size-a)+1 by omega]
 conv=>lhs;unfold toksF
 rw[if_neg hp,if_neg hk,toksF_eq s (s.size-a) (s.size+1-tokEnd s (past s a)) _ h6.2 (by omega) (by omega)]
def hd (s:ByteArray)(a:Nat):Tok:=if past s a=s.size then endTok s else tok s (past s a)
theorem toks_cons {s:ByteArray}{a:Nat}(h:a≤s.size):∃r,toks s a=hd s a::r:=by
 unfold hd
 split
 ·rename_i hp;exact⟨[],toks_end h hp⟩
 ·rename_i hp
  by_cases hk:(tok s (past s a)).kind=120
  ·exact⟨[],toks_wrong h hp hk⟩
  ·exact⟨_,toks_next h hp hk⟩
theorem toks_len (s:ByteArray):∀n a,a≤s.size→s.size-a≤n→(toks s a).length≤s.size+1-a:=by
 intro n
 induction n with
 |zero=>
  intro a ha hn
  have h5:=past_le ha
  rw[toks_end ha (by omega)];simp;omega
 |succ n ih=>
  intro a ha hn
  have h5:=past_le ha
  by_cases hp:past s a=s.size
  ·rw[toks_end ha hp];simp;omega
  ·by_cases hk:(tok s (past s a)).kind=120
   ·rw[toks_wrong ha hp hk];simp;omega
   ·have h6:=tokEnd_lt (s:=s) (a:=past s a) (by omega)
    rw[toks_next ha hp hk,List.length_cons]
    have:=ih _ h6.2 (by omega)
    omega
def Ended:List Tok→Prop
 | []=>False
 | [t]=>t.kind=101∨t.kind=120
 |t::u::r=>(t.kind=119∨t.kind=110∨t.kind=115∨t.kind=103)∧Ended (u::r)
theorem toks_ended (s:ByteArray):∀n a,a≤s.size→s.size-a≤n→Ended (toks s a):=by
 intro n
 induction n with
 |zero=>
  intro a ha hn
  have h5:=past_le ha
  rw[toks_end ha (by omega)];exact .inl rfl
 |succ n ih=>
  intro a ha hn
  have h5:=past_le ha
  by_cases hp:past s a=s.size
  ·rw[toks_end ha hp];exact .inl rfl
  ·by_cases hk:(tok s (past s a)).kind=120
   ·rw[toks_wrong ha hp hk];exact .inr hk
   ·have h6:=tokEnd_lt (s:=s) (a:=past s a) (by omega)
    have h7:=tok_kind (s:=s) (a:=past s a) (by omega)
    have h8:=ih _ h6.2 (by omega)
    obtain⟨r,hr⟩:=toks_cons h6.2
    rw[toks_next ha hp hk]
    rw[hr] at h8 ⊢
    refine⟨?_,h8⟩
    rcases h7 with h|h|h|h|h
    ·exact .inl h
    ·exact .inr (.inl h)
    ·exact .inr (.inr (.inl h))
    ·exact .inr (.inr (.inr h))
    ·exact absurd h hk
end Doc
namespace Doc
def wAnd:List UInt8:=[97,110,100]
def wOr:List UInt8:=[111,114]
def wNot:List UInt8:=[110,111,116]
def wIn:List UInt8:=[105,110]
def wLike:List UInt8:=[108,105,107,101]
def wIs:List UInt8:=[105,115]
def wNull:List UInt8:=[110,117,108,108]
def is (t:Tok)(l:List UInt8):Bool:=(t.kind==119 || t.kind==103) && (t.S.toList==l)
def isWord (t:Tok)(l:List UInt8):Bool:=t.kind==119 && (t.S.toList==l)
def kw (s:ByteArray):Bool:=s.toList==wAnd || s.toList==wOr || s.toList==wNot || s.toList==wIn || s.toList==wLike || s.toList==wIs || s.toList==wNull
def nameB (s:ByteArray):Bool:=decide (1≤s.size) && decide (s.size≤8) && (run 97 122 (rest s 0)==s.size) && !kw s
def cmpB (t:Tok):Bool:=t.kind==103 && (t.S.toList==[61] || t.S.toList==[33,61] || t.S.toList==[60] || t.S.toList==[60,61] || t.S.toList==[62] || t.S.toList==[62,61])
def lit (texts:Bool)(t:Tok):Bool:=t.kind==115 || (t.kind==110 && !texts)
inductive Ast where
 |test (name ask:Tok) (lits:List Tok)
 |not (a:Ast)
 |and (a b:Ast)
 |or (a b:Ast)
inductive Res (α:Type) where
 |err (e p:Nat)
 |ok (a:α) (i:Nat)
def tk (L:List Tok)(i:Nat):Tok:=L.getD i ⟨101,ByteArray.empty,0,0⟩
theorem tk_eq {L:List Tok}{i:Nat}(h:i<L.length):L[i]=tk L i:=by simp[tk,h]
def pLits (L:List Tok):Nat→List Tok→Nat→Res (List Tok)
 |0,_,_=>.err 0 0
 |n+1,acc,i=>
  if lit false (tk L i) then
   (if is (tk L (i+1)) [44] then pLits L n (acc++[tk L i]) (i+2)
    else if is (tk L (i+1)) [41] then .ok (acc++[tk L i]) (i+2)
    else .err 6 (tk L (i+1)).at_)
  else .err 6 (tk L i).at_
def pTest (L:List Tok)(i:Nat):Res Ast:=
 if (tk L i).kind==119 && nameB (tk L i).S then
  (if cmpB (tk L (i+1)) then (if lit false (tk L (i+2)) then .ok (.test (tk L i) (tk L (i+1)) [tk L (i+2)]) (i+3) else .err 6 (tk L (i+2)).at_)
   else if isWord (tk L (i+1)) wLike then (if lit true (tk L (i+2)) then .ok (.test (tk L i) (tk L (i+1)) [tk L (i+2)]) (i+3) else .err 6 (tk L (i+2)).at_)
   else if isWord (tk L (i+1)) wIs then (if is (tk L (i+2)) wNull then .ok (.test (tk L i) (tk L (i+1)) []) (i+3) else .err 6 (tk L (i+2)).at_)
   else if isWord (tk L (i+1)) wIn then
    (if is (tk L (i+2)) [40] then
      (match pLits L (L.length+1) [] (i+3) with
       | .ok l j=>.ok (.test (tk L i) (tk L (i+1)) l) j
       | .err e p=>.err e p)
     else .err 6 (tk L (i+2)).at_)
   else .err 6 (tk L (i+1)).at_)
 else .err 6 (tk L i).at_
def cLoop (L:List Tok)(link:Nat→Res Ast)(w:List UInt8)(mk:Ast→Ast→Ast):Nat→Ast→Nat→Res Ast
 |0,_,_=>.err 0 0
 |n+1,a,i=>
  if is (tk L i) w then
   (match link (i+1) with
    | .ok b j=>cLoop L link w mk n (mk a b) j
    | .err e p=>.err e p)
  else .ok a i
def chain (L:List Tok)(link:Nat→Res Ast)(w:List UInt8)(mk:Ast→Ast→Ast)(i:Nat):Res Ast:=
 match link i with
 | .ok a j=>cLoop L link w mk (L.length+1) a j
 | .err e p=>.err e p
def pPart (L:List Tok):Nat→Nat→Res Ast
 |0,i=>if is (tk L i) wNot || is (tk L i) [40] then .err 7 (tk L i).at_ else pTest L i
 |d+1,i=>
  if is (tk L i) wNot then
   (match pPart L d (i+1) with
    | .ok a j=>.ok (.not a) j
    | .err e p=>.err e p)
  else if is (tk L i) [40] then
   (match chain L (chain L (pPart L d) wAnd .and) wOr .or (i+1) with
    | .ok a j=>if is (tk L j) [41] then .ok a (j+1) else .err 6 (tk L j).at_
    | .err e p=>.err e p)
  else pTest L i
def pAll (L:List Tok)(d i:Nat):Res Ast:=chain L (pPart L d) wAnd .and i
def pFilter (L:List Tok)(d i:Nat):Res Ast:=chain L (pAll L d) wOr .or i
def parse (L:List Tok):Res Ast:=
 match pFilter L 6 0 with
 | .ok a j=>if (tk L j).kind==101 then .ok a j else .err 6 (tk L j).at_
 | .err e p=>.err e p
theorem ended_next:∀{L:List Tok},Ended L→∀{i:Nat},i<L.length→((tk L i).kind=119∨(tk L i).kind=110∨(tk L i).kind=115∨(tk L i).kind=103)→i+1<L.length:=by
 intro L
 induction L with
 |nil=>intro h;exact absurd h (by simp[Ended])
 |cons t L ih=>
  intro h i hi hk
  cases L with
  |nil=>
   simp at hi;subst hi
   simp only[Ended] at h
   simp only[tk,List.getD_cons_zero] at hk
   rcases h with h|h<;>rw[h] at hk<;>simp at hk
  |cons u r=>
   cases i with
   |zero=>simp
   |succ i=>
    have:=ih h.2 (i:=i) (by simpa using hi) (by simpa[tk] using hk)
    simpa using this
theorem is_kind {t:Tok}{l:List UInt8}(h:is t l=true):t.kind=119∨t.kind=110∨t.kind=115∨t.kind=103:=by
 simp only[is,Bool.and_eq_true,Bool.or_eq_true,beq_iff_eq] at h
 rcases h.1 with h|h
 ·exact .inl h
 ·exact .inr (.inr (.inr h))
theorem isWord_kind {t:Tok}{l:List UInt8}(h:isWord t l=true):t.kind=119∨t.kind=110∨t.kind=115∨t.kind=103:=by
 simp only[isWord,Bool.and_eq_true,beq_iff_eq] at h
 exact .inl h.1
theorem cmpB_kind {t:Tok}(h:cmpB t=true):t.kind=119∨t.kind=110∨t.kind=115∨t.kind=103:=by
 simp only[cmpB,Bool.and_eq_true,beq_iff_eq] at h
 exact .inr (.inr (.inr h.1))
theorem lit_kind {b:Bool}{t:Tok}(h:lit b t=true):t.kind=119∨t.kind=110∨t.kind=115∨t.kind=103:=by
 simp only[lit,Bool.and_eq_true,Bool.or_eq_true,beq_iff_eq] at h
 rcases h with h|h
 ·exact .inr (.inr (.inl h))
 ·exact .inr (.inl h.1)
def digitsF:Nat→Nat→List UInt8
 |0,n=>[UInt8.ofNat (48+n % 10)]
 |f+1,n=>if n<10 then [UInt8.ofNat (48+n)] else digitsF f (n / 10)++[UInt8.ofNat (48+n % 10)]
def decimal (n:Int):List UInt8:=if n<0 then 45::digitsF 7 n.natAbs else digitsF 7 n.natAbs
def litText (t:Tok):List UInt8:=if t.kind==115 then 34::(t.S.data.toList++[34]) else decimal t.N
def litsText:List Tok→List UInt8
 | []=>[]
 | [t]=>litText t
 |t::u::r=>litText t++[44,32]++litsText (u::r)
def isOr:Ast→Bool | .or _ _=>true|_=>false
def isAnd:Ast→Bool | .and _ _=>true|_=>false
def round (b:Bool)(l:List UInt8):List UInt8:=if b then 40::(l++[41]) else l
def plain:Ast→List UInt8
 | .test name ask lits=>
   name.S.data.toList++[32]++ask.S.data.toList++[32]++
    (if ask.S.toList==wIs then wNull else if ask.S.toList==wIn then 40::(litsText lits++[41]) else litsText lits)
 | .not a=>wNot++[32]++round (isAnd a || isOr a) (plain a)
 | .and a b=>round (isOr a) (plain a)++[32]++wAnd++[32]++round (isOr b) (plain b)
 | .or a b=>plain a++[32]++wOr++[32]++plain b
def answer (s:ByteArray):List UInt8×Nat×Nat:=
 if 200<s.size then ([],5,0)
 else match parse (toks s 0) with
  | .ok a _=>(plain a,0,0)
  | .err e p=>([],e,p)
end Doc
open Go.RowKit
theorem drop_at (s:ByteArray)(k:Nat)(h:k<s.size):s.data.toList.drop k=s[k]::s.data.toList.drop (k+1):=by
 rw[List.drop_eq_getElem_cons (by simpa using h)];rfl
theorem run_stop (s:ByteArray)(k:Nat)(lo hi:UInt8)(h:s.size≤k):Doc.run lo hi (s.data.toList.drop k)=0:=by
 rw[List.drop_of_length_le (by simpa using h)];rfl
theorem run_go (s:ByteArray)(k:Nat)(lo hi:UInt8)(h:k<s.size)(a:(lo.toNat:Int)≤(s[k].toNat:Int))(b:(s[k].toNat:Int)≤(hi.toNat:Int)):
  Doc.run lo hi (s.data.toList.drop k)=Doc.run lo hi (s.data.toList.drop (k+1))+1:=by
 rw[drop_at s k h,Doc.run_hit (by rw[UInt8.le_iff_toNat_le];omega) (by rw[UInt8.le_iff_toNat_le];omega)]
theorem run_halt (s:ByteArray)(k:Nat)(lo hi:UInt8)(h:k<s.size)(a:¬((lo.toNat:Int)≤(s[k].toNat:Int)∧(s[k].toNat:Int)≤(hi.toNat:Int))):
  Doc.run lo hi (s.data.toList.drop k)=0:=by
 rw[drop_at s k h,Doc.run_miss (by rw[UInt8.le_iff_toNat_le,UInt8.le_iff_toNat_le];omega)]
theorem ret_int {k:IntKind}{a b:Int}(h:a=b):Ending.returned (.int k a)=.returned (.int k b):=by rw[h]
set_option maxHeartbeats 400000 in
theorem from_any (s:ByteArray)(lo hi:UInt8)(k0:Nat)(w:World)(hs:s.size≤140737488351232)(hk0:k0≤s.size):
  Calls Tryz.prog 166 #[.string s,.int .i64 k0,.int .u8 lo.toNat,.int .u8 hi.toNat] w fun e w'=>
   e=.returned (.int .i64 ((k0+Doc.run lo hi (Doc.rest s k0):Nat):Int))∧w'=w:=by
 show Calls _ _ _ _ fun e w'=>e=.returned (.int .i64 ((k0+Doc.run lo hi (s.data.toList.drop k0):Nat):Int))∧w'=w
 go_enter Tryz.func166,Tryz.ntmps166
 go_wp2
 go_loop [1] (fun i=>∃k:Nat,k≤s.size∧i=.int .i64 k∧Hid (k+Doc.run lo hi (s.data.toList.drop k)=k0+Doc.run lo hi (s.data.toList.drop k0))) (fun i=>s.size-(intOf i).toNat)
 case atStart=>exact⟨k0,hk0,rfl,rfl⟩
 case round=>
  obtain⟨k,hk,rfl,H⟩:=hrel
  by_cases hlt:k<s.size
  ·by_cases ha:(lo.toNat:Int)≤(s[k].toNat:Int)
   ·by_cases hb:(s[k].toNat:Int)≤(hi.toNat:Int)
    ·go_wp2
     go_round
     case rel=>exact⟨k+1,by omega,by go_num,by have:=run_go s k lo hi hlt ha hb;have:=H.out;show _=_;omega⟩
     case measure=>simp[intOf];omega
    ·go_wp2
     go_ret
     exact⟨ret_int (by have:=run_halt s k lo hi hlt (by omega);have:=H.out;omega),rfl⟩
   ·go_wp2
    go_ret
    exact⟨ret_int (by have:=run_halt s k lo hi hlt (by omega);have:=H.out;omega),rfl⟩
  ·go_wp2
   go_ret
   exact⟨ret_int (by have:=run_stop s k lo hi (by omega);have:=H.out;omega),rfl⟩
theorem take_snoc (s:ByteArray)(k:Nat)(h:k<s.size):s.data.toList.take (k+1)=s.data.toList.take k++[s[k]]:=by
 rw[List.take_succ_eq_append_getElem (by simpa using h)];rfl
theorem num_step (s:ByteArray)(k:Nat)(h:k<s.size)(h1:(48:Int)≤(s[k].toNat:Int)):
  ((Doc.num (s.data.toList.take (k+1)):Nat):Int)=10*(Doc.num (s.data.toList.take k):Int)+((s[k].toNat:Int)-48):=by
 rw[take_snoc s k h,Doc.num_snoc];omega
theorem digit_at (s:ByteArray)(hd:∀c∈s.data.toList,(48:UInt8)≤c∧c≤57)(k:Nat)(h:k<s.size):(48:Int)≤(s[k].toNat:Int)∧(s[k].toNat:Int)≤57:=by
 have h1:=hd s[k] (by show s.data[k]∈_;simp)
 rw[UInt8.le_iff_toNat_le,UInt8.le_iff_toNat_le] at h1
 have h3:(57:UInt8).toNat=57:=rfl
 have h4:(48:UInt8).toNat=48:=rfl
 omega
theorem num_bound (s:ByteArray)(hd:∀c∈s.data.toList,(48:UInt8)≤c∧c≤57)(k:Nat)(h:k≤s.size)(h7:s.size≤7):Doc.num (s.data.toList.take k)<10000000:=by
 have h1:=Doc.num_lt (s.data.toList.take k) (fun c hc=>hd c (List.mem_of_mem_take hc))
 have h2:(s.data.toList.take k).length≤7:=by rw[List.length_take];omega
 have h3:10 ^ (s.data.toList.take k).length≤10 ^ 7:=Nat.pow_le_pow_right (by omega) h2
 omega
set_option maxHeartbeats 400000 in
theorem value_any (s:ByteArray)(w:World)(hd:∀c∈s.data.toList,(48:UInt8)≤c∧c≤57)(h7:s.size≤7):
  Calls Tryz.prog 167 #[.string s] w fun e w'=>e=.returned (.int .i64 ((Doc.num s.data.toList:Nat):Int))∧w'=w:=by
 go_enter Tryz.func167,Tryz.ntmps167
 go_wp2
 go_loop [3,4] (fun n i=>∃k:Nat,k≤s.size∧i=.int .i64 k∧n=.int .i64 (Doc.num (s.data.toList.take k):Nat)) (fun _ i=>s.size-(intOf i).toNat)
 case atStart=>exact⟨0,Nat.zero_le _,rfl,rfl⟩
 case round=>
  obtain⟨k,hk,rfl,rfl⟩:=hrel
  by_cases hlt:k<s.size
  ·obtain⟨h1,h2⟩:=digit_at s hd k hlt
   have h3:=num_bound s hd k (by omega) h7
   have HS:Hid (((Doc.num (s.data.toList.take (k+1)):Nat):Int)=10*(Doc.num (s.data.toList.take k):Int)+((s[k].toNat:Int)-48)):=num_step s k hlt h1
   clear hd
   go_wp2
   go_round
   case rel=>exact⟨k+1,by omega,by go_num,by rw[HS.out]⟩
   case measure=>simp[intOf];omega
  ·have hks:k=s.size:=by omega
   subst hks
   clear hd
   go_wp2
   go_ret
   exact⟨ret_int (by rw[List.take_of_length_le (by simp)]),rfl⟩
set_option maxRecDepth 100000
theorem from_lower (s:ByteArray)(a r:Nat)(w:World)(hs:s.size≤200)(ha:a≤s.size)(hr:Doc.run 97 122 (Doc.rest s a)=r):
  Calls Tryz.prog 166 #[.string s,.int .i64 a,.int .u8 97,.int .u8 122] w fun e w'=>e=.returned (.int .i64 ((a:Int)+(r:Int)))∧w'=w:=by
 have h:=from_any s 97 122 a w (by omega) ha
 rw[hr,show(((97:UInt8).toNat:Nat):Int)=97 from rfl,show(((122:UInt8).toNat:Nat):Int)=122 from rfl,Int.natCast_add] at h
 exact h
theorem from_digit (s:ByteArray)(a r:Nat)(w:World)(hs:s.size≤200)(ha:a≤s.size)(hr:Doc.run 48 57 (Doc.rest s a)=r):
  Calls Tryz.prog 166 #[.string s,.int .i64 a,.int .u8 48,.int .u8 57] w fun e w'=>e=.returned (.int .i64 ((a:Int)+(r:Int)))∧w'=w:=by
 have h:=from_any s 48 57 a w (by omega) ha
 rw[hr,show(((48:UInt8).toNat:Nat):Int)=48 from rfl,show(((57:UInt8).toNat:Nat):Int)=57 from rfl,Int.natCast_add] at h
 exact h
set_option maxHeartbeats 400000 in
theorem one_word (s:ByteArray)(a r:Nat)(w:World)(hs:s.size≤200)(ha:a<s.size)(hr:Doc.run 97 122 (Doc.rest s a)=r)(hra:a+r≤s.size)
  (h1:(97:Int)≤(s[a].toNat:Int)) (h2:(s[a].toNat:Int)≤122) (h8:r≤8):
  Calls Tryz.prog 131 #[.string s,.int .i64 a] w fun e w'=>
   e=.returned (.tuple #[.agg #[.int .u8 119,.string (s.extract a (a+r)),.int .i64 0,.int .i64 a],.int .i64 ((a+r:Nat):Int)])∧Below w.heap.size w w':=by
 have HR:Hid (Doc.run 97 122 (Doc.rest s a)=r):=hr
 clear hr
 go_enter Tryz.func131,Tryz.ntmps131
 go_wp2_with (go_at_call 166;refine(from_lower s a r _ hs (by omega) HR.out).mono ?_;rintro e w' ⟨rfl,rfl⟩)
 all_goals exact bodyPost_ret (v:=.tuple #[.agg #[.int .u8 119,.string (s.extract a (a+r)),.int .i64 0,.int .i64 a],.int .i64 ((a+r:Nat):Int)]) (by simp[results,Tryz.results131,go_sem]) rfl ⟨rfl,(Below.refl _ _).alloc (Nat.le_refl _) _⟩
set_option maxHeartbeats 400000 in
theorem one_long (s:ByteArray)(a r:Nat)(w:World)(hs:s.size≤200)(ha:a<s.size)(hr:Doc.run 97 122 (Doc.rest s a)=r)(hra:a+r≤s.size)
  (h1:(97:Int)≤(s[a].toNat:Int)) (h2:(s[a].toNat:Int)≤122) (h8:8<r):
  Calls Tryz.prog 131 #[.string s,.int .i64 a] w fun e w'=>
   e=.returned (.tuple #[.agg #[.int .u8 120,.string ByteArray.empty,.int .i64 0,.int .i64 a],.int .i64 (s.size:Int)])∧Below w.heap.size w w':=by
 have HR:Hid (Doc.run 97 122 (Doc.rest s a)=r):=hr
 clear hr
 go_enter Tryz.func131,Tryz.ntmps131
 go_wp2_with (go_at_call 166;refine(from_lower s a r _ hs (by omega) HR.out).mono ?_;rintro e w' ⟨rfl,rfl⟩)
 all_goals exact bodyPost_ret (v:=.tuple #[.agg #[.int .u8 120,.string ByteArray.empty,.int .i64 0,.int .i64 a],.int .i64 (s.size:Int)]) (by simp[results,Tryz.results131,go_sem];try rfl) rfl ⟨rfl,(Below.refl _ _).alloc (Nat.le_refl _) _⟩
set_option maxHeartbeats 400000 in
theorem one_minus (s:ByteArray)(a r:Nat)(w:World)(hs:s.size≤200)(ha:a<s.size)(hr:Doc.run 48 57 (Doc.rest s (a+1))=r)(hra:a+1+r≤s.size)
  (h1:(s[a].toNat:Int)=45) (h0:0<r) (h7:r≤7) (hd:∀c∈(s.extract (a+1) (a+1+r)).data.toList,(48:UInt8)≤c∧c≤57) (hz:(s.extract (a+1) (a+1+r)).size=r) (n:Nat) (hn:Doc.num (s.extract (a+1) (a+1+r)).data.toList=n) (hnb:n<10000000):
  Calls Tryz.prog 131 #[.string s,.int .i64 a] w fun e w'=>
   e=.returned (.tuple #[.agg #[.int .u8 110,.string ByteArray.empty,.int .i64 (-(n:Int)),.int .i64 a],.int .i64 ((a+1+r:Nat):Int)])∧Below w.heap.size w w':=by
 have HR:Hid (Doc.run 48 57 (Doc.rest s (a+1))=r):=hr
 have HV:Hid (∀w,Calls Tryz.prog 167 #[.string (s.extract (a+1) (a+1+r))] w fun e w'=>e=.returned (.int .i64 (n:Int))∧w'=w):=fun w=>by
  have:=value_any (s.extract (a+1) (a+1+r)) w hd (by omega)
  rw[hn] at this;exact this
 clear hr hd hz hn
 go_enter Tryz.func131,Tryz.ntmps131
 go_wp2_with (first|(go_at_call 166;refine(from_digit s (a+1) r _ hs (by omega) HR.out).mono ?_;rintro e w' ⟨rfl,rfl⟩)|(go_at_call 167;refine(HV.out _).mono ?_;rintro e w' ⟨rfl,rfl⟩))
 all_goals exact bodyPost_ret (v:=.tuple #[.agg #[.int .u8 110,.string ByteArray.empty,.int .i64 (-(n:Int)),.int .i64 a],.int .i64 ((a+1+r:Nat):Int)]) (by simp[results,Tryz.results131,go_sem];try rfl) rfl ⟨rfl,(Below.refl _ _).alloc (Nat.le_refl _) _⟩
set_option maxHeartbeats 400000 in
theorem one_minus_bad (s:ByteArray)(a r:Nat)(w:World)(hs:s.size≤200)(ha:a<s.size)(hr:Doc.run 48 57 (Doc.rest s (a+1))=r)(hra:a+1+r≤s.size)
  (h1:(s[a].toNat:Int)=45) (h0:r=0∨7<r):
  Calls Tryz.prog 131 #[.string s,.int .i64 a] w fun e w'=>
   e=.returned (.tuple #[.agg #[.int .u8 120,.string ByteArray.empty,.int .i64 0,.int .i64 a],.int .i64 (s.size:Int)])∧Below w.heap.size w w':=by
 have HR:Hid (Doc.run 48 57 (Doc.rest s (a+1))=r):=hr
 clear hr
 rcases h0 with h0|h0
 ·subst h0
  go_enter Tryz.func131,Tryz.ntmps131
  go_wp2_with (go_at_call 166;refine(from_digit s (a+1) 0 _ hs (by omega) HR.out).mono ?_;rintro e w' ⟨rfl,rfl⟩)
  all_goals exact bodyPost_ret (v:=.tuple #[.agg #[.int .u8 120,.string ByteArray.empty,.int .i64 0,.int .i64 a],.int .i64 (s.size:Int)]) (by simp[results,Tryz.results131,go_sem];try rfl) rfl ⟨rfl,(Below.refl _ _).alloc (Nat.le_refl _) _⟩
 ·go_enter Tryz.func131,Tryz.ntmps131
  go_wp2_with (go_at_call 166;refine(from_digit s (a+1) r _ hs (by omega) HR.out).mono ?_;rintro e w' ⟨rfl,rfl⟩)
  all_goals exact bodyPost_ret (v:=.tuple #[.agg #[.int .u8 120,.string ByteArray.empty,.int .i64 0,.int .i64 a],.int .i64 (s.size:Int)]) (by simp[results,Tryz.results131,go_sem];try rfl) rfl ⟨rfl,(Below.refl _ _).alloc (Nat.le_refl _) _⟩
set_option maxHeartbeats 400000 in
theorem one_digits (s:ByteArray)(a r:Nat)(w:World)(hs:s.size≤200)(ha:a<s.size)(hr:Doc.run 48 57 (Doc.rest s a)=r)(hra:a+r≤s.size)
  (h1:(48:Int)≤(s[a].toNat:Int)) (h2:(s[a].toNat:Int)≤57) (h0:0<r) (h7:r≤7) (hd:∀c∈(s.extract a (a+r)).data.toList,(48:UInt8)≤c∧c≤57) (hz:(s.extract a (a+r)).size=r) (n:Nat) (hn:Doc.num (s.extract a (a+r)).data.toList=n):
  Calls Tryz.prog 131 #[.string s,.int .i64 a] w fun e w'=>
   e=.returned (.tuple #[.agg #[.int .u8 110,.string ByteArray.empty,.int .i64 (n:Int),.int .i64 a],.int .i64 ((a+r:Nat):Int)])∧Below w.heap.size w w':=by
 have HR:Hid (Doc.run 48 57 (Doc.rest s a)=r):=hr
 have HV:Hid (∀w,Calls Tryz.prog 167 #[.string (s.extract a (a+r))] w fun e w'=>e=.returned (.int .i64 (n:Int))∧w'=w):=fun w=>by
  have:=value_any (s.extract a (a+r)) w hd (by omega)
  rw[hn] at this;exact this
 clear hr hd hz hn
 have h45:((s[a].toNat:Int)==45)=false:=by rw[beq_eq_false_iff_ne];omega
 go_enter Tryz.func131,Tryz.ntmps131
 go_wp2_with (first|(go_at_call 166;refine(from_digit s a r _ hs (by omega) HR.out).mono ?_;rintro e w' ⟨rfl,rfl⟩)|(go_at_call 167;refine(HV.out _).mono ?_;rintro e w' ⟨rfl,rfl⟩))
 all_goals exact bodyPost_ret (v:=.tuple #[.agg #[.int .u8 110,.string ByteArray.empty,.int .i64 (n:Int),.int .i64 a],.int .i64 ((a+r:Nat):Int)]) (by simp[results,Tryz.results131,go_sem];try rfl) rfl ⟨rfl,(Below.refl _ _).alloc (Nat.le_refl _) _⟩
set_option maxHeartbeats 400000 in
theorem one_digits_bad (s:ByteArray)(a r:Nat)(w:World)(hs:s.size≤200)(ha:a<s.size)(hr:Doc.run 48 57 (Doc.rest s a)=r)(hra:a+r≤s.size)
  (h1:(48:Int)≤(s[a].toNat:Int)) (h2:(s[a].toNat:Int)≤57) (h0:7<r):
  Calls Tryz.prog 131 #[.string s,.int .i64 a] w fun e w'=>
   e=.returned (.tuple #[.agg #[.int .u8 120,.string ByteArray.empty,.int .i64 0,.int .i64 a],.int .i64 (s.size:Int)])∧Below w.heap.size w w':=by
 have HR:Hid (Doc.run 48 57 (Doc.rest s a)=r):=hr
 clear hr
 have h45:((s[a].toNat:Int)==45)=false:=by rw[beq_eq_false_iff_ne];omega
 go_enter Tryz.func131,Tryz.ntmps131
 go_wp2_with (go_at_call 166;refine(from_digit s a r _ hs (by omega) HR.out).mono ?_;rintro e w' ⟨rfl,rfl⟩)
 all_goals exact bodyPost_ret (v:=.tuple #[.agg #[.int .u8 120,.string ByteArray.empty,.int .i64 0,.int .i64 a],.int .i64 (s.size:Int)]) (by simp[results,Tryz.results131,go_sem];try rfl) rfl ⟨rfl,(Below.refl _ _).alloc (Nat.le_refl _) _⟩
end Go.Proofs.YtbnelaoeblhndaaGreatDoor
