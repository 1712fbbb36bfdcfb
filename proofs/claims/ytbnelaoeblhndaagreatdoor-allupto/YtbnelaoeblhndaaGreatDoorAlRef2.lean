import Derived.Test.YtbnelaoeblhndaaGreatDoorAlSays2
import Derived.Test.YtbnelaoeblhndaaGreatDoorFiNrA
namespace Go.Proofs.YtbnelaoeblhndaaGreatDoor
open Go.RowKit
set_option maxRecDepth 100000
namespace Doc
def TestIx (L:List Tok)(i j:Nat)(n o:Tok)(l:List Tok):Prop:=
 n=tk L i∧o=tk L (i+1)∧i+2≤j∧(cmpB o=true∨o.S.toList=wLike∨o.S.toList=wIs∨o.S.toList=wIn)∧∃ks:List Nat,l=ks.map (tk L)∧ks.Pairwise (· < ·)∧∀k∈ks,i+2≤k∧k<j
def Ix (L:List Tok):Nat→Nat→Ast→Prop
 |i,j,.test n o l=>∃k m,i≤k∧m≤j∧TestIx L k m n o l
 |i,j,.not a=>Ix L i j a
 |i,j,.and a b=>∃m,Ix L i m a∧Ix L m j b
 |i,j,.or a b=>∃m,Ix L i m a∧Ix L m j b
theorem Ix.mono {L:List Tok}:∀{a:Ast} {i i' j j':Nat},Ix L i j a→i'≤i→j≤j'→Ix L i' j' a
 | .test _ _ _,_,_,_,_,⟨k,m,h1,h2,h3⟩,hi,hj=>⟨k,m,by omega,by omega,h3⟩
 | .not a,_,_,_,_,h,hi,hj=>Ix.mono (a:=a) h hi hj
 | .and a b,_,_,_,_,⟨m,h1,h2⟩,hi,hj=>⟨m,Ix.mono (a:=a) h1 hi (Nat.le_refl _),Ix.mono (a:=b) h2 (Nat.le_refl _) hj⟩
 | .or a b,_,_,_,_,⟨m,h1,h2⟩,hi,hj=>⟨m,Ix.mono (a:=a) h1 hi (Nat.le_refl _),Ix.mono (a:=b) h2 (Nat.le_refl _) hj⟩
def ResIx (L:List Tok)(i:Nat):Res Ast→Prop
 | .ok a j=>Ix L i j a
 | .err _ _=>True
section
variable {L:List Tok}
theorem cLoop_ix {link:Nat→Res Ast}{w:List UInt8}{mk:Ast→Ast→Ast}(hl:∀i,ResIx L i (link i))(hmk:∀a b i m j,Ix L i m a→Ix L m j b→Ix L i j (mk a b))(i0:Nat):
  ∀n a i,Ix L i0 i a→ResIx L i0 (cLoop L link w mk n a i):=by
 intro n
 induction n with
 |zero=>intro a i _;exact trivial
 |succ n ih=>
  intro a i ha
  unfold cLoop
  split
  ·have:=hl (i+1)
   cases hk:link (i+1) with
   |ok b j=>rw[hk] at this;exact ih _ _ (hmk _ _ _ _ _ ha (Ix.mono this (by omega) (Nat.le_refl _)))
   |err e p=>exact trivial
  ·exact ha
theorem chain_ix {link:Nat→Res Ast}{w:List UInt8}{mk:Ast→Ast→Ast}(hl:∀i,ResIx L i (link i))(hmk:∀a b i m j,Ix L i m a→Ix L m j b→Ix L i j (mk a b))(i:Nat):
  ResIx L i (chain L link w mk i):=by
 unfold chain
 have:=hl i
 cases hk:link i with
 |ok b j=>rw[hk] at this;exact cLoop_ix hl hmk _ _ _ _ this
 |err e p=>exact trivial
theorem pLits_ix:∀n acc i ls j (ks:List Nat) (b:Nat),acc=ks.map (tk L)→ks.Pairwise (· < ·)→(∀k∈ks,b≤k∧k<i)→b≤i→pLits L n acc i=.ok ls j→i≤j∧∃ks':List Nat,ls=ks'.map (tk L)∧ks'.Pairwise (· < ·)∧∀k∈ks',b≤k∧k<j:=by
 intro n
 induction n with
 |zero=>intro acc i ls j ks b _ _ _ _ h;simp[pLits] at h
 |succ n ih=>
  intro acc i ls j ks b ha hp hr hb h
  unfold pLits at h
  split at h
  ·have ha':acc++[tk L i]=(ks++[i]).map (tk L):=by rw[ha];simp
   have hp':(ks++[i]).Pairwise (· < ·):=by
    refine List.pairwise_append.2 ⟨hp,by simp,fun x hx y hy=>?_⟩
    rw[List.mem_singleton.1 hy]
    exact(hr x hx).2
   have hr':∀j',i<j'→∀k∈ks++[i],b≤k∧k<j':=fun j' hj k hk=>by
    rcases List.mem_append.1 hk with hk|hk
    ·have:=hr k hk;omega
    ·rw[List.mem_singleton.1 hk];omega
   split at h
   ·obtain⟨h1,h2⟩:=ih _ _ _ _ (ks++[i]) b ha' hp' (hr' (i+2) (by omega)) (by omega) h
    exact⟨by omega,h2⟩
   ·split at h
    ·cases h;exact⟨by omega,ks++[i],ha',hp',hr' _ (by omega)⟩
    ·cases h
  ·cases h
theorem pTest_ix (i:Nat):ResIx L i (pTest L i):=by
 cases hr:pTest L i with
 |err e p=>exact trivial
 |ok a j=>
  unfold pTest at hr
  split at hr
  ·split at hr
   ·rename_i hc
    split at hr
    ·cases hr
     exact⟨i,i+3,Nat.le_refl _,Nat.le_refl _,rfl,rfl,by omega,.inl hc,[i+2],rfl,by simp,fun k hk=>by rw[List.mem_singleton.1 hk];omega⟩
    ·cases hr
   ·split at hr
    ·rename_i hc
     split at hr
     ·cases hr
      exact⟨i,i+3,Nat.le_refl _,Nat.le_refl _,rfl,rfl,by omega,.inr (.inl (isWord_list hc)),[i+2],rfl,by simp,fun k hk=>by rw[List.mem_singleton.1 hk];omega⟩
     ·cases hr
    ·split at hr
     ·rename_i hc
      split at hr
      ·cases hr
       exact⟨i,i+3,Nat.le_refl _,Nat.le_refl _,rfl,rfl,by omega,.inr (.inr (.inl (isWord_list hc))),[],rfl,.nil,fun k hk=>by cases hk⟩
      ·cases hr
     ·split at hr
      ·rename_i hc
       split at hr
       ·cases hp:pLits L (L.length+1) [] (i+3) with
        |err e p=>rw[hp] at hr;cases hr
        |ok ls j'=>
         rw[hp] at hr
         cases hr
         obtain⟨h1,ks,h2,h3,h4⟩:=pLits_ix _ _ _ _ _ [] (i+2) rfl .nil (fun k hk=>by cases hk) (by omega) hp
         exact⟨i,j,Nat.le_refl _,Nat.le_refl _,rfl,rfl,by omega,.inr (.inr (.inr (isWord_list hc))),ks,h2,h3,h4⟩
       ·cases hr
      ·cases hr
  ·cases hr
theorem pPart_ix:∀d i,ResIx L i (pPart L d i):=by
 have hand:∀a b i m j,Ix L i m a→Ix L m j b→Ix L i j (.and a b):=fun a b i m j h1 h2=>⟨m,h1,h2⟩
 have hor:∀a b i m j,Ix L i m a→Ix L m j b→Ix L i j (.or a b):=fun a b i m j h1 h2=>⟨m,h1,h2⟩
 intro d
 induction d with
 |zero=>
  intro i
  unfold pPart
  split
  ·exact trivial
  ·exact pTest_ix i
 |succ d ih=>
  intro i
  unfold pPart
  split
  ·have:=ih (i+1)
   cases hk:pPart L d (i+1) with
   |ok b j=>rw[hk] at this;exact Ix.mono (a:=b) this (by omega) (Nat.le_refl _)
   |err e p=>exact trivial
  ·split
   ·have:=chain_ix (L:=L) (w:=wOr) (mk:=.or) (fun i=>chain_ix (L:=L) (w:=wAnd) (mk:=.and) ih hand i) hor (i+1)
    cases hk:chain L (chain L (pPart L d) wAnd .and) wOr .or (i+1) with
    |ok b j=>
     rw[hk] at this
     dsimp only
     split
     ·exact Ix.mono (a:=b) this (by omega) (by omega)
     ·exact trivial
    |err e p=>exact trivial
   ·exact pTest_ix i
theorem parse_ix {a:Ast}{j:Nat}(h:parse L=.ok a j):Ix L 0 j a:=by
 have hand:∀a b i m j,Ix L i m a→Ix L m j b→Ix L i j (.and a b):=fun a b i m j h1 h2=>⟨m,h1,h2⟩
 have hor:∀a b i m j,Ix L i m a→Ix L m j b→Ix L i j (.or a b):=fun a b i m j h1 h2=>⟨m,h1,h2⟩
 have h1:=chain_ix (L:=L) (w:=wOr) (mk:=.or) (fun i=>chain_ix (L:=L) (w:=wAnd) (mk:=.and) (pPart_ix 6) hand i) hor 0
 unfold parse pFilter pAll at h
 cases hk:chain L (fun i=>chain L (pPart L 6) wAnd .and i) wOr .or 0 with
 |ok b j'=>
  rw[show(chain L (chain L (pPart L 6) wAnd .and) wOr .or 0)=.ok b j' from hk] at h1
  rw[show(chain L (fun i=>chain L (pPart L 6) wAnd .and i) wOr .or 0)=.ok b j' from hk] at h
  dsimp only at h
  split at h
  ·cases h;exact h1
  ·cases h
 |err e p=>
  rw[show(chain L (fun i=>chain L (pPart L 6) wAnd .and i) wOr .or 0)=.err e p from hk] at h
  cases h
end
def Lit2 (t:Tok):Prop:=(t.kind=110→t.S.toList=[])∧(t.kind=115→t.N=0)
theorem tok_two (s:ByteArray)(a:Nat):Lit2 (tok s a):=by
 constructor
 ·intro h
  change (lex (rest s a)).1=110 at h
  simp[tok,h]
 ·intro h
  change (lex (rest s a)).1=115 at h
  simp[tok,h]
theorem tk_two (s:ByteArray)(k:Nat):Lit2 (tk (toks s 0) k):=
 tk_all (P:=Lit2) ⟨fun h=>absurd h (by decide),fun h=>absurd h (by decide)⟩ (toks_all s (by constructor<;>intro h<;>simp[endTok] at h) (fun a _=>tok_two s a) s.size 0 (Nat.zero_le _) (by omega)) k
theorem ix_lits {s:ByteArray}:∀{a:Ast} {i j:Nat},Ix (toks s 0) i j a→Every (fun _ _ l=>∀t∈l,Lit2 t) a
 | .test _ _ _,_,_,⟨_,_,_,_,_,_,_,_,ks,h,_⟩=>fun t ht=>by
   rw[h] at ht
   obtain⟨q,_,rfl⟩:=List.mem_map.1 ht
   exact tk_two s q
 | .not a,_,_,h=>ix_lits (a:=a) h
 | .and a b,_,_,⟨_,h1,h2⟩=>⟨ix_lits (a:=a) h1,ix_lits (a:=b) h2⟩
 | .or a b,_,_,⟨_,h1,h2⟩=>⟨ix_lits (a:=a) h1,ix_lits (a:=b) h2⟩
def OpOk (o:Tok):Prop:=cmpB o=true∨o.S.toList=wLike∨o.S.toList=wIs∨o.S.toList=wIn
theorem ix_ops {L:List Tok}:∀{a:Ast} {i j:Nat},Ix L i j a→Every (fun _ o _=>OpOk o) a
 | .test _ _ _,_,_,⟨_,_,_,_,_,_,_,h,_⟩=>h
 | .not a,_,_,h=>ix_ops (a:=a) h
 | .and a b,_,_,⟨_,h1,h2⟩=>⟨ix_ops (a:=a) h1,ix_ops (a:=b) h2⟩
 | .or a b,_,_,⟨_,h1,h2⟩=>⟨ix_ops (a:=a) h1,ix_ops (a:=b) h2⟩
theorem ordB_sign {z y:Int}(h1:z<0↔y<0)(h2:z=0↔y=0)(o:List UInt8):ordB z o=ordB y o:=by
 have e1:decide (z<0)=decide (y<0):=by simp[h1]
 have e2:(z==0)=(y==0):=by rw[Bool.eq_iff_iff];simp[h2]
 have e3:(z != 0)=(y != 0):=by simp only[bne,e2]
 have e4:decide (z≤0)=decide (y≤0):=by rw[Bool.eq_iff_iff];simp only[decide_eq_true_eq];omega
 have e5:decide (z > 0)=decide (y > 0):=by rw[Bool.eq_iff_iff];simp only[decide_eq_true_eq];omega
 have e6:decide (z≥0)=decide (y≥0):=by rw[Bool.eq_iff_iff];simp only[decide_eq_true_eq];omega
 unfold ordB
 rw[e1,e2,e3,e4,e5,e6]
theorem cmpI_sign (a b:Int):(a-b<0↔cmpI a b<0)∧(a-b=0↔cmpI a b=0):=by
 unfold cmpI
 by_cases h1:a<b
 ·rw[decide_eq_true h1]
  simp only[cond_true]
  exact⟨⟨fun _=>by decide,fun _=>by omega⟩,⟨fun h=>by omega,fun h=>absurd h (by decide)⟩⟩
 ·rw[decide_eq_false h1]
  by_cases h2:a > b
  ·rw[decide_eq_true h2]
   exact⟨⟨fun h=>by omega,fun h=>absurd h (by decide)⟩,⟨fun h=>by omega,fun h=>absurd h (by decide)⟩⟩
  ·rw[decide_eq_false h2]
   exact⟨⟨fun h=>by omega,fun h=>absurd h (by decide)⟩,⟨fun _=>rfl,fun _=>by omega⟩⟩
theorem less_irrefl:∀l:List UInt8,Op.bytesLess l l=false:=by
 intro l
 induction l with
 |nil=>rfl
 |cons a l ih=>simp[Op.bytesLess,ih]
theorem cmpS_zero (a b:List UInt8):(cmpS a b==0)=(a==b):=by
 unfold cmpS
 by_cases h:a=b
 ·subst h;rw[less_irrefl];simp
 ·have h2:(a==b)=false:=by simp[h]
  rw[h2]
  cases Op.bytesLess a b<;>rfl
structure LitFit (x:Val)(t:Tok):Prop where
 kind:litK t=x.k
 ok:t.kind=115∨t.kind=110
 two:Lit2 t
 num:x.k=1→x.s.toList=[]
 str:x.k=2→x.n=0
theorem LitFit.split {x:Val}{t:Tok}(h:LitFit x t):(t.kind=110∧x.k=1∧t.S.toList=[]∧x.s.toList=[])∨(t.kind=115∧x.k=2∧t.N=0∧x.n=0):=by
 have hk:=h.kind
 unfold litK at hk
 rcases h.ok with e|e
 ·rw[e] at hk
  have:x.k=2:=hk.symm
  exact .inr ⟨e,this,h.two.2 e,h.str this⟩
 ·rw[e] at hk
  have:x.k=1:=hk.symm
  exact .inl ⟨e,this,h.two.1 e,h.num this⟩
theorem fit_ord {x:Val}{t:Tok}(h:LitFit x t)(o:List UInt8):ordB (ordI x t) o=ordB (cmpV x (litV t)) o:=by
 rcases h.split with⟨e,hx,_,_⟩|⟨e,hx,_,_⟩
 ·have h1:ordI x t=x.n-t.N:=by unfold ordI;rw[e];rfl
  have h2:cmpV x (litV t)=cmpI x.n t.N:=by unfold cmpV;rw[hx];rfl
  rw[h1,h2]
  exact ordB_sign (cmpI_sign _ _).1 (cmpI_sign _ _).2 o
 ·have h1:ordI x t=cmpS x.s.toList t.S.toList:=by unfold ordI;rw[e];rfl
  have h2:cmpV x (litV t)=cmpS x.s.toList t.S.toList:=by unfold cmpV;rw[hx];rfl
  rw[h1,h2]
theorem fit_eq {x:Val}{t:Tok}(h:LitFit x t):(cmpV x (litV t)==0)=eqV (litV t) x:=by
 have hd:∀s:ByteArray,s.data.toList=s.toList:=fun s=>(ByteArray.toList_eq s).symm
 unfold eqV
 rw[show(litV t).k=x.k from h.kind]
 rcases h.split with⟨e,hx,hs,hxs⟩|⟨e,hx,hn,hxn⟩
 ·have h2:cmpV x (litV t)=cmpI x.n t.N:=by unfold cmpV;rw[hx];rfl
  rw[h2,hd,hd,show(litV t).s.toList=[] from hs,hxs,show(litV t).n=t.N from rfl]
  have h3:=(cmpI_sign x.n t.N).2
  rw[Bool.eq_iff_iff]
  simp
  omega
 ·have h2:cmpV x (litV t)=cmpS x.s.toList t.S.toList:=by unfold cmpV;rw[hx];rfl
  rw[h2,cmpS_zero,hd,hd,show(litV t).n=0 from hn,hxn,show(litV t).s=t.S from rfl]
  rw[Bool.eq_iff_iff]
  simp
  exact⟨fun h=>h.symm,fun h=>h.symm⟩
theorem ref_meets {x:Val}{n o:Tok}{l:List Tok}(hok:TestOk n o l)(hop:OpOk o)(his:(o.S.toList==[105,115])=false)(hf:∀t∈l,LitFit x t):refB x o l=meetV x o l:=by
 unfold refB meetV
 cases hl:(o.S.toList==[108,105,107,101])
 ·have hcases:(o.S.toList==[61] || o.S.toList==[105,110])=true∨((o.S.toList==[61] || o.S.toList==[105,110])=false∧cmpB o=true∧∃t,l=[t]):=by
   rcases hop with h|h|h|h
   ·cases h61:(o.S.toList==[61])
    ·have hw:=hok.which
     cases hin:(o.S.toList==[105,110])
     ·rcases hw with⟨h1,_⟩|⟨_,h1,_⟩|⟨_,_,h1⟩
      ·exact absurd (hin.symm.trans h1) (by decide)
      ·exact absurd (his.symm.trans h1) (by decide)
      ·exact .inr ⟨rfl,h,h1⟩
     ·exact .inl rfl
    ·exact .inl rfl
   ·rw[h] at hl;cases hl
   ·rw[h] at his;cases his
   ·rw[h];exact .inl rfl
  simp only[cond_false]
  rcases hcases with hc|⟨hc,hcm,t,rfl⟩
  ·rw[hc]
   simp only[cond_true]
   have hz:∀z:Int,ordB z o.S.toList=(z==0):=by
    intro z
    simp only[Bool.or_eq_true,beq_iff_eq] at hc
    rcases hc with hc|hc<;>rw[hc]<;>rfl
   have:∀t∈l,ordB (ordI x t) o.S.toList=eqV (litV t) x:=fun t ht=>by rw[fit_ord (hf t ht),hz,fit_eq (hf t ht)]
   rw[Bool.eq_iff_iff,List.any_eq_true,List.any_eq_true]
   exact⟨fun⟨t,ht,h⟩=>⟨t,ht,(this t ht) ▸ h⟩,fun⟨t,ht,h⟩=>⟨t,ht,(this t ht).trans h⟩⟩
  ·rw[hc]
   simp only[cond_false,List.any_cons,List.any_nil,Bool.or_false]
   rw[fit_ord (hf t (by simp)),show tk [t] 0=t from rfl]
   simp only[cmpB,Bool.and_eq_true,Bool.or_eq_true,beq_iff_eq] at hcm
   obtain⟨_,hcm⟩:=hcm
   simp only[Bool.or_eq_false_iff] at hc
   rcases hcm with((((h|h)|h)|h)|h)|h
   ·rw[h] at hc;exact absurd hc.1 (by decide)
   all_goals (rw[h];rfl)
 ·cases hc:(o.S.toList==[61] || o.S.toList==[105,110])
  ·rfl
  ·exfalso
   rw[beq_iff_eq] at hl
   rw[hl] at hc
   cases hc
theorem litBad_all {kd:Int}:∀{l:List Tok},litBad kd l=(0,0)→∀t∈l,litK t=kd
 | [],_,t,ht=>by cases ht
 |u::r,h,t,ht=>by
  unfold litBad at h
  cases hk:(litK u==kd)
  ·rw[hk] at h;simp at h
  ·rw[hk] at h
   rcases List.mem_cons.1 ht with rfl|ht
   ·exact eq_of_beq hk
   ·exact litBad_all h t ht
theorem say_ok {fs:List Fld}{vals:List Val}(hlen:vals.length=fs.length)(hg:∀j (h1:j<vals.length) (h2:j<fs.length),goodV vals[j] fs[j].kind=true):
  ∀{a:Ast},Every TestOk a→Every (fun _ _ l=>∀t∈l,Lit2 t) a→Every (fun _ o _=>OpOk o) a→check fs a=(0,0)→Every (SayOk fs vals) a
 | .test n o l,h,h2,h3,hc=>by
   change checkT fs n o l=(0,0) at hc
   unfold checkT at hc
   cases hk:idxF fs n.S with
   |none=>rw[hk] at hc;simp at hc
   |some k=>
    rw[hk] at hc
    have hkl:=idxF_lt hk
    dsimp only at hc
    rw[List.getElem?_eq_getElem hkl] at hc
    dsimp only at hc
    have hkv:k<vals.length:=by omega
    have hgood:=hg k hkv hkl
    have hbad:litBad fs[k].kind l=(0,0):=by
     cases hb:(o.S.toList==[108,105,107,101] && fs[k].kind != 2)
     ·rw[hb] at hc;exact hc
     ·rw[hb] at hc;simp at hc
    refine⟨h,k,vals[k],hk,List.getElem?_eq_getElem hkv,?_,fun his hx0=>?_⟩
    ·have:=good_fine hgood
     exact⟨this.2.1,this.2.2.1⟩
    ·refine ref_meets h h3 his (fun t ht=>?_)
     have hkt:=litBad_all hbad t ht
     unfold goodV at hgood
     simp only[Bool.or_eq_true,Bool.and_eq_true,beq_iff_eq,decide_eq_true_eq] at hgood
     have hne:vals[k].k≠0:=by simpa using hx0
     rcases hgood with(⟨e,_⟩|⟨e,⟨⟨e1,e2⟩,_⟩,_⟩)|⟨e,⟨e1,e2⟩,_⟩
     ·exact absurd e hne
     ·exact⟨by rw[hkt,e,e1],(h.lits t ht).k,h2 t ht,fun _=>e2,fun h5=>by rw[e] at h5;cases h5⟩
     ·exact⟨by rw[hkt,e,e1],(h.lits t ht).k,h2 t ht,fun h5=>(by rw[e] at h5;cases h5),fun _=>e2⟩
 | .not a,h,h2,h3,hc=>say_ok hlen hg (a:=a) h h2 h3 hc
 | .and a b,h,h2,h3,hc=>by
   have h4:((check fs a).1==0)=true:=by
    cases hz:((check fs a).1==0)
    ·simp only[check,hz,cond_false] at hc
     rw[hc] at hz;cases hz
    ·rfl
   simp only[check,h4,cond_true] at hc
   exact⟨say_ok hlen hg (a:=a) h.1 h2.1 h3.1 (check_zero h4),say_ok hlen hg (a:=b) h.2 h2.2 h3.2 hc⟩
 | .or a b,h,h2,h3,hc=>by
   have h4:((check fs a).1==0)=true:=by
    cases hz:((check fs a).1==0)
    ·simp only[check,hz,cond_false] at hc
     rw[hc] at hz;cases hz
    ·rfl
   simp only[check,h4,cond_true] at hc
   exact⟨say_ok hlen hg (a:=a) h.1 h2.1 h3.1 (check_zero h4),say_ok hlen hg (a:=b) h.2 h2.2 h3.2 hc⟩
end Doc
def selTo (fs:List Doc.Fld)(th:Has)(a:Doc.Ast)(k:Nat):List Nat:=(List.range k).filter (saysY fs th a)
theorem selTo_yes {fs:List Doc.Fld}{th:Has}{a:Doc.Ast}{k:Nat}(h:saysY fs th a k=true):selTo fs th a (k+1)=selTo fs th a k++[k]:=by
 unfold selTo
 rw[List.range_succ,List.filter_append]
 simp[h]
theorem selTo_no {fs:List Doc.Fld}{th:Has}{a:Doc.Ast}{k:Nat}(h:saysY fs th a k=false):selTo fs th a (k+1)=selTo fs th a k:=by
 unfold selTo
 rw[List.range_succ,List.filter_append]
 simp[h]
theorem selTo_len (fs:List Doc.Fld)(th:Has)(a:Doc.Ast)(k:Nat):(selTo fs th a k).length≤k:=by
 unfold selTo
 have:=List.length_filter_le (saysY fs th a) (List.range k)
 rw[List.length_range] at this
 exact this
structure HasIs (ts:List Doc.Thg)(th:Has):Prop where
 none:∀id,Doc.idxT ts id=.none→th id=.none
 some:∀id k,Doc.idxT ts id=.some k→∃(h:k<ts.length),th id=.some (ts[k].spot,ts[k].vals)
theorem say_two {p:Bool×Bool}:(Doc.sayI p==2)=p.1:=by
 obtain⟨a,b⟩:=p
 cases a<;>cases b<;>rfl
def ParsesC (s:ByteArray)(a:Doc.Ast)(fa:Option Addr)(fn fc:Nat)(W:World):Prop:=
 Calls Tryz.prog 52 #[.string s] W fun e w'=>∃(fb k:Nat) (Lv Nv:Value) (L:List Doc.Tok) (nodes:List NodeR),e=.returned (.tuple #[.pointer (some ⟨fb,0,none⟩),.int .i64 0,.int .i64 0])∧RSt W.heap.size w' fb Lv L k 0 Nv nodes 0 0∧Rep W.heap.size w' nodes k a∧nodes.length≤300∧Below W.heap.size W w'∧
  ∀W2:World,Below w'.heap.size w' W2→Calls Tryz.prog 139 #[.pointer (some ⟨fb,0,none⟩),.slice fa fn fc] W2 fun e w'=>e=.returned (.tuple #[.int .i64 0,.int .i64 0])∧Below W2.heap.size W2 w'
section
variable {w:World}{F:Nat→Prop}{sb:Nat}{fs:List Doc.Fld}{space:Int}{ts:List Doc.Thg}{fv tv:Value}{ps:List (Value×Value)}{th:Has}
set_option maxHeartbeats 8000000 in
theorem rselect_ok (h:RefAt w F sb fs space ts fv tv ps)(hl:ts.length≤4096)(hfl:fs.length≤4)(hth:HasIs ts th)(s:ByteArray)(a:Doc.Ast)(hok:∀t∈ts,Doc.Every (Doc.SayOk fs t.vals) a)(HP:∀fa fc,fv=.slice fa fs.length fc→ParsesC s a fa fs.length fc w):
  Calls Tryz.prog 101 #[.pointer (some ⟨sb,0,none⟩),.string s] w fun e w'=>∃v,e=.returned (.tuple #[v,.int .i64 0,.int .i64 0])∧w'.ownsRow w.heap.size 3 1 v (selTo fs th a 4096).length (natC (selTo fs th a 4096))∧Below w.heap.size w w':=by
 obtain⟨i0,hi,hz0,hz1,hz2⟩:=info_parts Tryz.infoIntT
 obtain⟨fa,fc,hfv⟩:=(rowSl h.fld).slice
 obtain⟨ta,tc,htv⟩:=(rowSl h.thg).slice
 subst hfv htv
 have HPC:Hid _:=HP fa fc rfl
 obtain⟨c0,c1,c2⟩:=st_cells h.blk
 have hsl:=lt_block h.blk
 have H:Hid _:=h
 have HOK:Hid _:=hok
 have HTH:Hid _:=hth
 clear HP h hok hth
 go_enter Tryz.func101,Tryz.ntmps101
 go_wp2_with fail
 refine Calls.mono HPC.out ?_
 rintro e w1 ⟨fb,kr,Lv,Nv,L,nodes,rfl,hst,hrep,hnl,hb1,hfit⟩
 have HST:Hid _:=hst
 have HRP:Hid _:=hrep
 have HB1:Hid _:=hb1
 have HFIT:Hid _:=hfit w1 (Below.refl _ _)
 have e0:w1.cell? ⟨sb,0,none⟩=some (.slice fa fs.length fc):=(hb1.cell (p:=⟨sb,0,none⟩) hsl).trans c0
 clear hst hrep hb1 hfit
 go_wp2_with fail
 refine Calls.mono HFIT.out ?_
 rintro e w2 ⟨rfl,hb2⟩
 have HB2:Hid (Below w.heap.size w w2):=HB1.out.trans (hb2.mono HB1.out.size)
 have HB12:Hid _:=hb2
 have HAT:Hid (∀W:World,Below w2.heap.size w2 W→Below w.heap.size w W∧RefAt W F sb fs space ts (.slice fa fs.length fc) (.slice ta ts.length tc) ps∧RSt w.heap.size W fb Lv L kr 0 Nv nodes 0 0∧Rep w.heap.size W nodes kr a):=fun W hW=>by
  have hWw:Below w.heap.size w W:=HB2.out.trans (hW.mono HB2.out.size)
  have hW1:Below w1.heap.size w1 W:=HB12.out.trans (hW.mono HB12.out.size)
  exact⟨hWw,H.out.kept (fun k o _ ho=>(hWw.block k (lt_block ho)).trans ho) (fun k hk _=>hk),HST.out.below hW1,HRP.out.mono (Step.ofBelow hW1 HST.out.Ble) List.prefix_rfl⟩
 clear hb2 e0 c0 c1 c2
 go_wp2_with fail
 go_loopw [10,11] (fun v i wr=>∃j:Nat,j≤4096∧i=.int .i64 j∧Below w2.heap.size w2 wr∧Hid (wr.ownsRow w2.heap.size 3 1 v (selTo fs th a j).length (natC (selTo fs th a j)))) (fun _ i _=>4096-(intOf i).toNat)
 case atStart=>exact⟨0,by omega,rfl,Below.refl _ _,World.ownsRow_nil _ _ _ _⟩
 case round=>
  obtain⟨j,hj,rfl,hB,HO⟩:=hrel
  have hsz:=hB.size
  obtain⟨vb,vc,hvs⟩:=row_slice HO.out
  subst hvs
  have hln:=selTo_len fs th a j
  obtain⟨hBw,hRA,hRS,hRP⟩:=HAT.out wr hB
  obtain⟨f0,f1,f2⟩:=st_cells hRA.blk
  by_cases hj2:j<4096
  ·have hd0:decide ((j:Int)<4096)=true:=decide_eq_true (by omega)
   by_cases ht0:ts.length=0
   ·have hz:∀k,selTo fs th a k=[]:=fun k=>by
     unfold selTo
     rw[List.filter_eq_nil_iff]
     intro x _
     have h1:Doc.idxT ts (x:Int)=none:=by rw[List.eq_nil_of_length_eq_zero ht0];rfl
     unfold saysY
     rw[HTH.out.none _ h1]
     exact Bool.false_ne_true
    have hd1:decide ((0:Int)<(ts.length:Int))=false:=decide_eq_false (by omega)
    rw[ht0] at f2
    have HO2:Hid (wr.ownsRow w.heap.size 3 1 (.slice vb (selTo fs th a j).length vc) (selTo fs th a 4096).length (natC (selTo fs th a 4096))):=by
     have:=own_less HO.out HB2.out.size
     rw[hz j] at this ⊢
     rw[hz 4096]
     exact this
    have HBW:Hid _:=hBw
    clear hRA hRS hRP hBw
    go_wp2_with fail
    go_ret3
    exact⟨_,rfl,HO2.out,HBW.out⟩
   ·have hd1:decide ((0:Int)<(ts.length:Int))=true:=decide_eq_true (by omega)
    have HA:Hid _:=at_any (w:=wr) sb (.slice ta ts.length tc) f2 ts ps hRA.len (by omega) (rowSl hRA.thg) (j:Int)
    cases hidx:Doc.idxT ts (j:Int) with
    |none=>
     rw[hidx] at HA
     have hno:saysY fs th a j=false:=by unfold saysY;rw[HTH.out.none _ hidx]
     have HB:Hid _:=hB
     clear hRA hRS hRP hBw hB
     go_wp2_with fail
     refine Calls.mono HA.out ?_
     rintro e w3 ⟨rfl,hw3⟩
     rw[hw3]
     clear hw3 w3
     simp only[Doc.placeI]
     go_wp2_with fail
     go_roundw
     case rel=>exact⟨j+1,by omega,by go_num,HB.out,by rw[selTo_no hno];exact HO⟩
     case measure=>simp[intOf];omega
    |some q=>
     rw[hidx] at HA
     obtain⟨hql,hthq⟩:=HTH.out.some _ q hidx
     have hqp:q<ps.length:=by have:=hRA.len;omega
     obtain⟨t,HTT⟩:∃t,Hid (ts[q]=t):=⟨ts[q],rfl⟩
     rw[HTT.out] at hthq
     rcases(rowSl hRA.thg).has with⟨h0',_⟩|⟨_,qb,qo,qc,ev,hqc,hqlt,hqr⟩
     ·omega
     cases ev
     obtain⟨r1,r2⟩:=hRA.each q hql hqp
     rw[HTT.out] at r1 r2
     obtain⟨sa,sc,hps1⟩:=row_slice r1
     obtain⟨va,vc2,hps2⟩:=row_slice r2
     have y0:=hqr (q*3) (.int .i64 t.id) (by rw[show q*3=q*3+0 from rfl,thsC_at ts ps hRA.len q hql hqp 0 (by omega),HTT.out];rfl)
     have y1:=hqr (q*3+1) (.slice sa t.spot.length sc) (by rw[thsC_at ts ps hRA.len q hql hqp 1 (by omega),HTT.out,←hps1];rfl)
     have y2:=hqr (q*3+2) (.slice va t.vals.length vc2) (by rw[thsC_at ts ps hRA.len q hql hqp 2 (by omega),HTT.out,←hps2];rfl)
     rw[←Nat.add_assoc] at y1 y2
     have s2:=rowSl r2
     rw[hps2] at s2
     obtain⟨b,HBB⟩:∃b,Hid ((Doc.eval fs t.vals a).1=b):=⟨_,rfl⟩
     have hsay:saysY fs th a j=b:=by unfold saysY;rw[hthq];exact HBB.out
     obtain⟨z,HZ⟩:∃z,Hid (Doc.sayI (Doc.eval fs t.vals a)=z):=⟨_,rfl⟩
     have hzb:(z==2)=b:=by rw[←HZ.out,say_two,HBB.out]
     have HSY:Hid (∀W:World,Below wr.heap.size wr W→Calls Tryz.prog 140 #[.pointer (some ⟨fb,0,none⟩),.int .i64 (kr:Int),.slice fa fs.length fc,.agg #[.int .i64 t.id,.slice sa t.spot.length sc,.slice va t.vals.length vc2]] W fun e w'=>e=.returned (.int .i64 z)∧Below W.heap.size W w'):=fun W hW=>by
      have h1:=@rsays_all fs t.vals hfl a (HOK.out t (by rw[←HTT.out];exact List.getElem_mem hql)) _ W _ _ _ _ _ _ _ _ _ _ (hRS.below hW) hnl (hRP.mono (Step.ofBelow hW hRS.Ble) List.prefix_rfl) fa fc t.id sa t.spot.length sc va vc2 ((rowSl hRA.fld).below hW) (s2.below hW)
      rw[HZ.out] at h1
      exact h1
     have HCE:Hid (∀W:World,Below wr.heap.size wr W→W.cell? ⟨fb,1,none⟩=some (.int .i64 (kr:Int))∧W.cell? ⟨sb,0,none⟩=some (.slice fa fs.length fc)∧W.cell? ⟨sb,2,none⟩=some (.slice (some ⟨qb,qo,none⟩) ts.length tc)∧W.cell? ⟨qb,qo+q*3,none⟩=some (.int .i64 t.id)∧W.cell? ⟨qb,qo+q*3+1,none⟩=some (.slice sa t.spot.length sc)∧W.cell? ⟨qb,qo+q*3+2,none⟩=some (.slice va t.vals.length vc2)):=fun W hW=>
      have hs:=lt_block hRA.blk
      ⟨(hW.cell (p:=⟨fb,1,none⟩) hRS.lt).trans hRS.c1,(hW.cell (p:=⟨sb,0,none⟩) hs).trans f0,(hW.cell (p:=⟨sb,2,none⟩) hs).trans f2,(hW.cell (p:=⟨qb,qo+q*3,none⟩) hqlt).trans y0,(hW.cell (p:=⟨qb,qo+q*3+1,none⟩) hqlt).trans y1,(hW.cell (p:=⟨qb,qo+q*3+2,none⟩) hqlt).trans y2⟩
     have HS0:Hid (Below wr.heap.size wr wr.drew):=Below.drew (Below.refl _ _)
     have HB:Hid _:=hB
     clear hRA hRS hRP hBw hB hqr y0 y1 y2 s2 r1 r2 hps1 hps2 hthq
     go_wp2_with fail
     refine Calls.mono HA.out ?_
     rintro e w3 ⟨rfl,hw3⟩
     rw[hw3]
     clear hw3 w3
     simp only[Doc.placeI]
     go_wp2_with fail
     refine wp_region_M 17 (fun w'=>Below wr.heap.size wr w') (by kernel_rfl) ?_
     refine anyM_t (i:=0) (v:=.pointer (some ⟨fb,0,none⟩)) rfl (by kernel_rfl) (fun _ _ _ h=>h) rfl rfl HS0.out (fun w' hSw=>by go_simp) ?_
     simp only[takes]
     refine anyM_t (i:=1) (v:=.pointer (some ⟨fb,0,none⟩)) rfl (by kernel_rfl) (fun _ _ _ h=>h) rfl rfl HS0.out (fun w' hSw=>by go_simp) ?_
     simp only[takes]
     refine anyM_t (i:=2) (v:=.pointer (some ⟨fb,0,none⟩)) rfl (by kernel_rfl) (fun _ _ _ h=>h) rfl rfl HS0.out (fun w' hSw=>by go_simp) ?_
     simp only[takes]
     refine anyM_t (i:=3) (v:=.pointer (some ⟨fb,1,none⟩)) rfl (by kernel_rfl) (fun _ _ _ h=>h) rfl rfl HS0.out (fun w' hSw=>by go_simp) ?_
     simp only[takes]
     refine anyM_t (i:=4) (v:=.int .i64 (kr:Int)) rfl (by kernel_rfl) (fun _ _ _ h=>h) rfl rfl HS0.out (fun w' hSw=>by have c:=(HCE.out w' hSw).1;go_simp) ?_
     simp only[takes]
     refine anyM_t (i:=5) (v:=.pointer (some ⟨sb,0,none⟩)) rfl (by kernel_rfl) (fun _ _ _ h=>h) rfl rfl HS0.out (fun w' hSw=>by go_simp) ?_
     simp only[takes]
     refine anyM_t (i:=6) (v:=.pointer (some ⟨sb,0,none⟩)) rfl (by kernel_rfl) (fun _ _ _ h=>h) rfl rfl HS0.out (fun w' hSw=>by go_simp) ?_
     simp only[takes]
     refine anyM_t (i:=7) (v:=.pointer (some ⟨sb,0,none⟩)) rfl (by kernel_rfl) (fun _ _ _ h=>h) rfl rfl HS0.out (fun w' hSw=>by go_simp) ?_
     simp only[takes]
     refine anyM_t (i:=8) (v:=.slice fa fs.length fc) rfl (by kernel_rfl) (fun _ _ _ h=>h) rfl rfl HS0.out (fun w' hSw=>by have c:=(HCE.out w' hSw).2.1;go_simp) ?_
     simp only[takes]
     refine anyM_t (i:=9) (v:=.pointer (some ⟨sb,0,none⟩)) rfl (by kernel_rfl) (fun _ _ _ h=>h) rfl rfl HS0.out (fun w' hSw=>by go_simp) ?_
     simp only[takes]
     refine anyM_t (i:=10) (v:=.pointer (some ⟨sb,0,none⟩)) rfl (by kernel_rfl) (fun _ _ _ h=>h) rfl rfl HS0.out (fun w' hSw=>by go_simp) ?_
     simp only[takes]
     refine anyM_t (i:=11) (v:=.pointer (some ⟨sb,2,none⟩)) rfl (by kernel_rfl) (fun _ _ _ h=>h) rfl rfl HS0.out (fun w' hSw=>by go_simp) ?_
     simp only[takes]
     refine anyM_t (i:=12) (v:=.slice (some ⟨qb,qo,none⟩) ts.length tc) rfl (by kernel_rfl) (fun _ _ _ h=>h) rfl rfl HS0.out (fun w' hSw=>by have c:=(HCE.out w' hSw).2.2.1;go_simp) ?_
     simp only[takes]
     refine anyM_t (i:=13) (v:=.int .i64 (q:Int)) rfl (by kernel_rfl) (fun _ _ _ h=>h) rfl rfl HS0.out (fun w' hSw=>by go_simp) ?_
     simp only[takes]
     refine anyM_t (i:=14) (v:=.pointer (some ⟨qb,qo+q*3,none⟩)) rfl (by kernel_rfl) (fun _ _ _ h=>h) rfl rfl HS0.out (fun w' hSw=>by go_simp) ?_
     simp only[takes]
     refine anyM_t (i:=15) (v:=.agg #[.int .i64 t.id,.slice sa t.spot.length sc,.slice va t.vals.length vc2]) rfl (by kernel_rfl) (fun _ _ _ h=>h) rfl rfl HS0.out (fun w' hSw=>by obtain⟨_,_,_,y0,y1,y2⟩:=HCE.out w' hSw;go_simp) ?_
     simp only[takes]
     refine anyM_one (i:=16) (by kernel_rfl) rfl rfl (fun K hK=>?_)
     go_simp
     refine(HSY.out _ HS0.out).mono ?_
     rintro r w4 ⟨rfl,hb4⟩
     have hq4:Below wr.heap.size wr w4:=Below.callB HS0.out (Nat.le_refl _) hb4
     refine hK.out _ _ (fun _=>hq4) ?_
     clear hK K
     try simp only[Act.put,takes]
     refine anyM_one (i:=17) (by kernel_rfl) rfl rfl (fun K hK=>?_)
     go_simp
     refine hK.out _ _ (fun _=>hq4) ?_
     clear hK K
     refine anyM_done (by kernel_rfl) ?_
     have HB4:Hid (Below w2.heap.size w2 w4):=HB.out.trans (hq4.mono HB.out.size)
     have HO4:Hid (w4.ownsRow w2.heap.size 3 1 (.slice vb (selTo fs th a j).length vc) (selTo fs th a j).length (natC (selTo fs th a j))):=row_below HO.out hq4
     have hsz4:=HB4.out.size
     clear hb4 hq4 f0 f1 f2
     cases b
     ·go_wp2_with fail
      go_roundw
      case rel=>exact⟨j+1,by omega,by go_num,HB4.out,by rw[selTo_no hsay];exact HO4⟩
      case measure=>simp[intOf];omega
     ·go_wp2_with (at_builtin;refine wpList_append_own _ rfl (.tmp 73) (.tmp 75) 33 rfl w2.heap.size 3 i0 _ 1 8 Tryz.underlying33 hi hz0 hz1 hz2 rfl (by decide) _ _ _ rfl (World.ownsRow.alloc HO4.out _) ⟨w4.heap.size,0,none⟩ 1 1 [.int .i64 (j:Int)] rfl rfl ?c1 ?c2 ?c3 ?c4 ?c5 ?_)
      case c1=>exact cells_new_at _ [.int .i64 (j:Int)] _ _ (by simp)
      case c2=>intro u hu;simp only[List.mem_cons,List.not_mem_nil,or_false] at hu;rw[hu];rfl
      case c3=>unfold maxLen;omega
      case c4=>omega
      case c5=>simp;omega
      intro v5 w5 hown5 hgrow5 _
      obtain⟨g5,cap5,rfl⟩:=own_slice hown5
      have HB5:Hid (Below w2.heap.size w2 w5):=(HB4.out.alloc HB4.out.size _).grown hgrow5 (by simp;omega) (fun j ej=>own_ge HO4.out ej)
      have HO5:Hid (w5.ownsRow w2.heap.size 3 1 (.slice (some ⟨g5,0,none⟩) ((selTo fs th a j).length+1) cap5) (selTo fs th a (j+1)).length (natC (selTo fs th a (j+1)))):=by
       show World.ownsRow _ _ _ _ _ _ _
       rw[selTo_yes hsay,natC_snoc,List.length_append]
       exact hown5
      clear hown5 hgrow5
      go_wp2_with fail
      go_roundw
      case rel=>exact⟨j+1,by omega,by go_num,HB5.out,HO5⟩
      case measure=>simp[intOf];omega
  ·obtain rfl:j=4096:=by omega
   have HBW:Hid _:=hBw
   clear hRA hRS hRP hBw
   go_wp2_with fail
   go_ret3
   exact⟨_,rfl,own_less HO.out HB2.out.size,HBW.out⟩
end
section
variable {w:World}{F:Nat→Prop}{sb:Nat}{fs:List Doc.Fld}{space:Int}{ts:List Doc.Thg}{fv tv:Value}{ps:List (Value×Value)}
set_option maxHeartbeats 8000000 in
theorem rfar_any (h:RefAt w F sb fs space ts fv tv ps)(hl:ts.length≤4096)(id:Int)(q:Nat)(hidx:Doc.idxT ts id=some q)(hql:q<ts.length)(p:List Int)(pv:Value)(hpv:Sl w pv p.length (intC p))(hpl:ts[q].spot.length=p.length)(hp4:p.length≤4)(hs:Doc.Near ts[q].spot)(hpn:Doc.Near p):
  Calls Tryz.prog 141 #[.pointer (some ⟨sb,0,none⟩),.int .i64 id,pv] w fun e w'=>e=.returned (.int .i64 (Doc.far ts[q].spot p))∧Below w.heap.size w w':=by
 have hqp:q<ps.length:=by have:=h.len;omega
 obtain⟨t,HTT⟩:∃t,Hid (ts[q]=t):=⟨ts[q],rfl⟩
 obtain⟨r1,r2⟩:=h.each q hql hqp
 rw[HTT.out] at hpl hs r1 r2 ⊢
 obtain⟨sa,sc,hps1⟩:=row_slice r1
 obtain⟨va,vc,hps2⟩:=row_slice r2
 obtain⟨vn,HVN⟩:∃n,Hid (t.vals.length=n):=⟨_,rfl⟩
 rw[HVN.out] at hps2
 have hs1:=rowSl r1
 rw[hps1] at hs1
 have HS1:Hid _:=hs1
 have HPP:Hid _:=hpv
 obtain⟨pa,pc,hpe⟩:=hpv.slice
 subst hpe
 rcases(rowSl h.thg).has with⟨h0',_⟩|⟨_,qb,qo,qc,ev,hqc,hqlt,hqr⟩
 ·omega
 subst ev
 obtain⟨c0,c1,c2⟩:=st_cells h.blk
 have hsl:=lt_block h.blk
 have y0:=hqr (q*3) (.int .i64 t.id) (by rw[show q*3=q*3+0 from rfl,thsC_at ts ps h.len q hql hqp 0 (by omega),HTT.out];rfl)
 have y1:=hqr (q*3+1) (.slice sa t.spot.length sc) (by rw[thsC_at ts ps h.len q hql hqp 1 (by omega),HTT.out,←hps1];rfl)
 have y2:=hqr (q*3+2) (.slice va vn vc) (by rw[thsC_at ts ps h.len q hql hqp 2 (by omega),HTT.out,←hps2];rfl)
 rw[←Nat.add_assoc] at y1 y2
 have HCE:Hid (∀W:World,Below w.heap.size w W→W.cell? ⟨sb,2,none⟩=some (.slice (some ⟨qb,qo,none⟩) ts.length qc)∧W.cell? ⟨qb,qo+q*3,none⟩=some (.int .i64 t.id)∧W.cell? ⟨qb,qo+q*3+1,none⟩=some (.slice sa t.spot.length sc)∧W.cell? ⟨qb,qo+q*3+2,none⟩=some (.slice va vn vc)):=fun W hW=>
  ⟨(hW.cell (p:=⟨sb,2,none⟩) hsl).trans c2,(hW.cell (p:=⟨qb,qo+q*3,none⟩) hqlt).trans y0,(hW.cell (p:=⟨qb,qo+q*3+1,none⟩) hqlt).trans y1,(hW.cell (p:=⟨qb,qo+q*3+2,none⟩) hqlt).trans y2⟩
 have H:Hid _:=h
 have HAT:Hid (∀W:World,Below w.heap.size w W→Calls Tryz.prog 96 #[.pointer (some ⟨sb,0,none⟩),.int .i64 id] W fun e w'=>e=.returned (.int .i64 (q:Int))∧w'=W):=fun W hW=>by
  have h2:=H.out.kept (w':=W) (F':=F) (fun k o _ ho=>(hW.block k (lt_block ho)).trans ho) (fun k hk _=>hk)
  have h1:=at_any (w:=W) sb (.slice (some ⟨qb,qo,none⟩) ts.length qc) (st_cells h2.blk).2.2 ts ps h2.len (by omega) (rowSl h2.thg) id
  rw[hidx] at h1
  exact h1
 have HS0:Hid (Below w.heap.size w w.drew):=Below.drew (Below.refl _ _)
 obtain⟨n,HN⟩:∃n,Hid (p.length=n):=⟨_,rfl⟩
 have HSL:Hid (t.spot.length=n):=by rw[hpl];exact HN
 have HFN:Hid (Doc.far t.spot p=Doc.farTo t.spot p n):=by show _=_;unfold Doc.far;rw[HSL.out]
 rw[HFN.out]
 rw[HN.out] at hp4 HPP ⊢
 rw[HSL.out] at HCE HS1
 clear h hpv r1 r2 hps1 hps2 hs1 hqr y0 y1 y2 c0 c1 c2 hidx
 go_enter Tryz.func141,Tryz.ntmps141
 go_wp2_with fail
 go_cut [7] (fun v wx=>∃gx,v=.pointer (some ⟨gx,0,none⟩)∧Below w.heap.size w wx∧wx.heap[gx]? =some (.cells #[.int .i64 t.id,.slice sa n sc,.slice va vn vc] 237 (0,0)))
 case first=>
  refine wp_region_M 10 (fun w'=>Below w.heap.size w w') (by kernel_rfl) ?_
  refine anyM_t (i:=0) (v:=.pointer (some ⟨sb,0,none⟩)) rfl (by kernel_rfl) (fun _ _ _ h=>h) rfl rfl HS0.out (fun w' hSw=>by go_simp) ?_
  simp only[takes]
  refine anyM_t (i:=1) (v:=.pointer (some ⟨sb,0,none⟩)) rfl (by kernel_rfl) (fun _ _ _ h=>h) rfl rfl HS0.out (fun w' hSw=>by go_simp) ?_
  simp only[takes]
  refine anyM_t (i:=2) (v:=.pointer (some ⟨sb,2,none⟩)) rfl (by kernel_rfl) (fun _ _ _ h=>h) rfl rfl HS0.out (fun w' hSw=>by go_simp) ?_
  simp only[takes]
  refine anyM_t (i:=3) (v:=.slice (some ⟨qb,qo,none⟩) ts.length qc) rfl (by kernel_rfl) (fun _ _ _ h=>h) rfl rfl HS0.out (fun w' hSw=>by have c:=(HCE.out w' hSw).1;go_simp) ?_
  simp only[takes]
  refine anyM_t (i:=4) (v:=.pointer (some ⟨sb,0,none⟩)) rfl (by kernel_rfl) (fun _ _ _ h=>h) rfl rfl HS0.out (fun w' hSw=>by go_simp) ?_
  simp only[takes]
  refine anyM_t (i:=5) (v:=.int .i64 id) rfl (by kernel_rfl) (fun _ _ _ h=>h) rfl rfl HS0.out (fun w' hSw=>by go_simp) ?_
  simp only[takes]
  obtain⟨W2,HW2⟩:∃W2,Hid (W2=(w.alloc (.cells #[.int .i64 0,.slice none 0 0,.slice none 0 0] 237)).drew):=⟨_,rfl⟩
  have HQ2:Hid (Below w.heap.size w W2):=by rw[HW2.out];exact((Below.refl _ _).alloc (Nat.le_refl _) _).drew
  have HG2:Hid (W2.heap[w.heap.size]? =some (.cells #[.int .i64 0,.slice none 0 0,.slice none 0 0] 237 (0,0))):=by rw[HW2.out];exact heap_alloc_new w _
  refine anyM_two (i:=6) (j:=9) (by kernel_rfl) rfl rfl rfl rfl (fun K hK=>?_) (fun K hK=>?_)
  ·go_simp
   refine(HAT.out _ HS0.out).mono ?_
   rintro r w2 ⟨rfl,rfl⟩
   refine hK.out _ _ (fun _=>HS0.out) ?_
   clear hK K
   try simp only[Act.put,takes]
   refine anyM_t (i:=7) (v:=.pointer (some ⟨qb,qo+q*3,none⟩)) rfl (by kernel_rfl) (fun _ _ _ h=>h) rfl rfl HS0.out (fun w' hSw=>by go_simp) ?_
   simp only[takes]
   refine anyM_t (i:=8) (v:=.agg #[.int .i64 t.id,.slice sa n sc,.slice va vn vc]) rfl (by kernel_rfl) (fun _ _ _ h=>h) rfl rfl HS0.out (fun w' hSw=>by obtain⟨_,y0,y1,y2⟩:=HCE.out w' hSw;go_simp) ?_
   simp only[takes]
   refine anyM_one (i:=9) (by kernel_rfl) rfl rfl (fun K hK=>?_)
   go_simp
   rw[←HW2.out]
   refine hK.out _ _ (fun _=>HQ2.out) ?_
   clear hK K
   try simp only[Act.put,takes]
   refine anyM_one (i:=10) (by kernel_rfl) rfl rfl (fun K hK=>?_)
   refine wp_store_off 237 _ _ rfl w.heap.size 0 rfl #[.int .i64 t.id,.slice sa n sc,.slice va vn vc] rfl 237 #[.int .i64 0,.slice none 0 0,.slice none 0 0] HG2.out (by kernel_rfl) (Nat.le_refl 3) (by kernel_rfl) rfl rfl ?_
   refine hK.out _ _ (fun h=>absurd rfl h) ?_
   clear hK K
   rw[lay_whole (show(#[.int .i64 0,.slice none 0 0,.slice none 0 0]:Array Value).size=(#[.int .i64 t.id,.slice sa n sc,.slice va vn vc]:Array Value).size from rfl)]
   refine anyM_done (by kernel_rfl) ?_
   go_wp2_with fail
   go_meet
   exact⟨_,rfl,Below.setRow HQ2.out (Nat.le_refl _) _,setRow_heap _ _ _ _ _ _ HG2.out⟩
  ·go_simp
   rw[←HW2.out]
   refine hK.out _ _ (fun _=>HQ2.out) ?_
   clear hK K
   try simp only[Act.put,takes]
   refine anyM_one (i:=6) (by kernel_rfl) rfl rfl (fun K hK=>?_)
   go_simp
   refine(HAT.out _ HQ2.out).mono ?_
   rintro r w2 ⟨rfl,hw2⟩
   rw[hw2]
   clear hw2 w2
   refine hK.out _ _ (fun _=>HQ2.out) ?_
   clear hK K
   try simp only[Act.put,takes]
   refine anyM_t (i:=7) (v:=.pointer (some ⟨qb,qo+q*3,none⟩)) rfl (by kernel_rfl) (fun _ _ _ h=>h) rfl rfl HQ2.out (fun w' hSw=>by go_simp) ?_
   simp only[takes]
   refine anyM_t (i:=8) (v:=.agg #[.int .i64 t.id,.slice sa n sc,.slice va vn vc]) rfl (by kernel_rfl) (fun _ _ _ h=>h) rfl rfl HQ2.out (fun w' hSw=>by obtain⟨_,y0,y1,y2⟩:=HCE.out w' hSw;go_simp) ?_
   simp only[takes]
   refine anyM_one (i:=10) (by kernel_rfl) rfl rfl (fun K hK=>?_)
   refine wp_store_off 237 _ _ rfl w.heap.size 0 rfl #[.int .i64 t.id,.slice sa n sc,.slice va vn vc] rfl 237 #[.int .i64 0,.slice none 0 0,.slice none 0 0] HG2.out (by kernel_rfl) (Nat.le_refl 3) (by kernel_rfl) rfl rfl ?_
   refine hK.out _ _ (fun h=>absurd rfl h) ?_
   clear hK K
   rw[lay_whole (show(#[.int .i64 0,.slice none 0 0,.slice none 0 0]:Array Value).size=(#[.int .i64 t.id,.slice sa n sc,.slice va vn vc]:Array Value).size from rfl)]
   refine anyM_done (by kernel_rfl) ?_
   go_wp2_with fail
   go_meet
   exact⟨_,rfl,Below.setRow HQ2.out (Nat.le_refl _) _,setRow_heap _ _ _ _ _ _ HG2.out⟩
 case rest=>
  obtain⟨gx,rfl,hbx,hgx⟩:=hcut
  have HBX:Hid _:=hbx
  have HGX:Hid _:=hgx
  clear hbx hgx
  go_wp2_with fail
  go_loopw [8,9] (fun f i wr=>∃j:Nat,j≤n∧i=.int .i64 j∧f=.int .i64 (Doc.farTo t.spot p j)∧Below wc.heap.size wc wr) (fun _ i _=>n-(intOf i).toNat)
  case atStart=>exact⟨0,Nat.zero_le _,rfl,rfl,Below.refl _ _⟩
  case round=>
   obtain⟨j,hj,rfl,rfl,hB⟩:=hrel
   have hBw:Below w.heap.size w wr:=HBX.out.trans (hB.mono HBX.out.size)
   by_cases hj2:j<n
   ·have g1:=blk_cell ((hB.block _ (lt_block HGX.out)).trans HGX.out) 1 _ rfl
    rcases HS1.out.has with⟨h0',_⟩|⟨_,ab,ao,ac,ev,hc2,hlt2,hr2⟩
    ·omega
    cases ev
    rcases HPP.out.has with⟨h0',_⟩|⟨_,xb,xo,xc,ev,hc3,hlt3,hr3⟩
    ·omega
    cases ev
    obtain⟨x,hx⟩:∃x,t.spot[j]? =some x:=⟨t.spot[j]'(by rw[HSL.out];exact hj2),List.getElem?_eq_getElem _⟩
    obtain⟨y,hy⟩:∃y,p[j]? =some y:=⟨p[j]'(by rw[HN.out];exact hj2),List.getElem?_eq_getElem _⟩
    have hx3:=hs x (List.mem_of_getElem? hx)
    have hy3:=hpn y (List.mem_of_getElem? hy)
    have d0:wr.cell? ⟨ab,ao+j,none⟩=some (.int .i64 x):=(hBw.cell (p:=⟨ab,ao+j,none⟩) hlt2).trans (hr2 j _ (by unfold intC;rw[List.getElem?_map,hx];rfl))
    have d1:wr.cell? ⟨xb,xo+j,none⟩=some (.int .i64 y):=(hBw.cell (p:=⟨xb,xo+j,none⟩) hlt3).trans (hr3 j _ (by unfold intC;rw[List.getElem?_map,hy];rfl))
    obtain⟨a,HA⟩:∃a,Hid (Doc.farTo t.spot p j=a):=⟨_,rfl⟩
    have hfb:=Doc.farTo_le hs hpn j
    rw[HA.out] at hfb ⊢
    have HST:Hid (Doc.farTo t.spot p (j+1)=a+(y-x)*(y-x)):=by
     show _=_
     simp only[Doc.farTo,hx,hy,Option.getD_some,HA.out]
     rw[show(y-x)= -(x-y) by omega,Int.neg_mul_neg]
    have hsq:=Doc.sq_le (d:=y-x) (by omega) (by omega)
    have w1:wrap64 (y-x)=y-x:=wrap_id (by omega) (by omega)
    have w2:wrap64 ((y-x)*(y-x))=(y-x)*(y-x):=wrap_id (by omega) (by omega)
    have w3:wrap64 (a+(y-x)*(y-x))=a+(y-x)*(y-x):=wrap_id (by omega) (by omega)
    have HB:Hid _:=hB
    clear hr2 hr3 hx hy hB hs hpn hBw
    go_wp2_with fail
    go_quiet (fail)
    go_wp2_with fail
    go_roundw
    case rel=>exact⟨j+1,by omega,by go_num,by rw[HST.out],⟨HB.out.os,HB.out.tape,HB.out.output,HB.out.size,HB.out.block⟩⟩
    case measure=>simp[intOf];omega
   ·obtain rfl:j=n:=by omega
    go_wp2_with fail
    go_ret
    exact⟨rfl,hBw⟩
end
end Go.Proofs.YtbnelaoeblhndaaGreatDoor
