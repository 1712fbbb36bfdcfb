import Derived.Test.YtbnelaoeblhndaaGreatDoorSynTok4
import Derived.Laws.Strings
namespace Go.Proofs.YtbnelaoeblhndaaGreatDoor
namespace Doc
theorem extract_size_le (s:ByteArray)(a b:Nat):(s.extract a b).size≤s.size:=by simp;omega
theorem tok_size (s:ByteArray)(a:Nat):(tok s a).S.size≤s.size:=by
 unfold tok
 dsimp only
 split
 ·exact extract_size_le _ _ _
 ·split
  ·exact extract_size_le _ _ _
  ·exact Nat.zero_le _
theorem toks_all {P:Tok→Prop}(s:ByteArray)(h0:P (endTok s))(h1:∀a,a<s.size→P (tok s a)):∀n a,a≤s.size→s.size-a≤n→∀t∈toks s a,P t:=by
 intro n
 induction n with
 |zero=>
  intro a ha hn
  have h5:=past_le ha
  rw[toks_end ha (by omega)]
  intro t ht
  rw[List.mem_singleton] at ht;rw[ht];exact h0
 |succ n ih=>
  intro a ha hn
  have h5:=past_le ha
  by_cases hp:past s a=s.size
  ·rw[toks_end ha hp]
   intro t ht
   rw[List.mem_singleton] at ht;rw[ht];exact h0
  ·by_cases hk:(tok s (past s a)).kind=120
   ·rw[toks_wrong ha hp hk]
    intro t ht
    rw[List.mem_singleton] at ht;rw[ht];exact h1 _ (by omega)
   ·have h6:=tokEnd_lt (s:=s) (a:=past s a) (by omega)
    rw[toks_next ha hp hk]
    intro t ht
    rw[List.mem_cons] at ht
    rcases ht with ht|ht
    ·rw[ht];exact h1 _ (by omega)
    ·exact ih _ h6.2 (by omega) t ht
theorem tk_all {P:Tok→Prop}{L:List Tok}(h0:P ⟨101,ByteArray.empty,0,0⟩)(h:∀t∈L,P t)(k:Nat):P (tk L k):=by
 unfold tk
 rw[List.getD_eq_getElem?_getD]
 cases hk:L[k]? with
 |none=>exact h0
 |some t=>exact h t (List.mem_of_getElem? hk)
theorem tk_size (s:ByteArray)(hs:s.size≤200)(k:Nat):(tk (toks s 0) k).S.size≤200:=
 tk_all (P:=fun t=>t.S.size≤200) (Nat.zero_le _) (toks_all s (Nat.zero_le _) (fun a _=>Nat.le_trans (tok_size s a) hs) s.size 0 (Nat.zero_le _) (by omega)) k
theorem toks_len0 (s:ByteArray):(toks s 0).length≤s.size+1:=toks_len s s.size 0 (Nat.zero_le _) (by omega)
theorem toks_ended0 (s:ByteArray):Ended (toks s 0):=toks_ended s s.size 0 (Nat.zero_le _) (by omega)
theorem toks_pos (s:ByteArray):0<(toks s 0).length:=by
 obtain⟨r,hr⟩:=toks_cons (s:=s) (a:=0) (Nat.zero_le _)
 rw[hr];simp
end Doc
set_option maxRecDepth 100000
namespace Doc
theorem ba_len (s:ByteArray):s.data.toList.length=s.size:=by rw[Array.length_toList];rfl
theorem signed_bound {c:UInt8}{r:List UInt8}(k:Nat)(h7:k≤7)
  (h:((c==45)=true∧∀x∈r.take k,(48:UInt8)≤x∧x≤57)∨((c==45)=false∧∀x∈(c::r).take k,(48:UInt8)≤x∧x≤57)):
  ((c==45)=true→ -9999999≤signed ((c::r).take (k+1))∧signed ((c::r).take (k+1))≤9999999)∧((c==45)=false→ -9999999≤signed ((c::r).take k)∧signed ((c::r).take k)≤9999999):=by
 have pw:∀l:List UInt8,l.length≤7→(∀x∈l,(48:UInt8)≤x∧x≤57)→num l<10000000:=by
  intro l hl hx
  have h1:=num_lt l hx
  have h3:10 ^ l.length≤10 ^ 7:=Nat.pow_le_pow_right (by omega) hl
  omega
 constructor
 ·intro hc
  rcases h with⟨_,h⟩|⟨h,_⟩
  ·rw[List.take_succ_cons,signed_minus hc]
   have:=pw _ (by rw[List.length_take];omega) h
   omega
  ·rw[h] at hc;exact absurd hc (by simp)
 ·intro hc
  rcases h with⟨h,_⟩|⟨_,h⟩
  ·rw[h] at hc;exact absurd hc (by simp)
  ·have:=pw _ (by rw[List.length_take];omega) h
   cases k with
   |zero=>simp[signed]
   |succ k=>
    rw[List.take_succ_cons] at this ⊢
    rw[signed_plain hc]
    omega
theorem lex_num (l:List UInt8)(h:(lex l).1=110): -9999999≤signed (l.take (lex l).2)∧signed (l.take (lex l).2)≤9999999:=by
 cases l with
 |nil=>simp[lex] at h
 |cons c r=>
  unfold lex at h ⊢
  simp only at h ⊢
  split at h
  ·split at h<;>simp at h
  ·rename_i h1
   simp only[h1,if_false,Bool.false_eq_true] at h ⊢
   split at h
   ·rename_i h2
    simp only[h2,if_true] at h ⊢
    split at h
    ·rename_i h3
     rw[if_pos h3]
     exact(signed_bound (c:=c) (r:=r) (run 48 57 r) h3.2 (.inl ⟨h2,run_all 48 57 r⟩)).1 h2
    ·simp at h
   ·rename_i h2
    have h2:(c==45)=false:=by simpa using h2
    simp only[h2,if_false,Bool.false_eq_true] at h ⊢
    split at h
    ·rename_i h4
     simp only[h4,if_true] at h ⊢
     split at h
     ·rename_i h3
      rw[if_pos h3]
      exact(signed_bound (c:=c) (r:=r) (run 48 57 (c::r)) h3 (.inr ⟨h2,run_all 48 57 (c::r)⟩)).2 h2
     ·simp at h
    ·rename_i h4
     simp only[h4,if_false,Bool.false_eq_true] at h ⊢
     split at h
     ·split at h<;>simp at h
     ·split at h
      ·simp at h
      ·split at h<;>simp at h
theorem tok_num_bound (s:ByteArray)(a:Nat): -9999999≤(tok s a).N∧(tok s a).N≤9999999:=by
 unfold tok
 dsimp only
 split
 ·rename_i h;exact lex_num _ h
 ·omega
theorem tk_num (s:ByteArray)(k:Nat): -9999999≤(tk (toks s 0) k).N∧(tk (toks s 0) k).N≤9999999:=
 tk_all (P:=fun t=> -9999999≤t.N∧t.N≤9999999) (by simp) (toks_all s (by simp[endTok]) (fun a _=>tok_num_bound s a) s.size 0 (Nat.zero_le _) (by omega)) k
def Fine:Ast→Prop
 | .test _ _ lits=>lits.length≤300∧∀t∈lits, -9999999≤t.N∧t.N≤9999999
 | .not a=>Fine a
 | .and a b=>Fine a∧Fine b
 | .or a b=>Fine a∧Fine b
structure Ok (L:List Tok):Prop where
 hL:L.length≤300
 hE:Ended L
 hS:∀k,(tk L k).S.size≤200
 hN:∀k, -9999999≤(tk L k).N∧(tk L k).N≤9999999
theorem ok_toks (s:ByteArray)(hs:s.size≤200):Ok (toks s 0):=⟨by have:=toks_len0 s;omega,toks_ended0 s,tk_size s hs,tk_num s⟩
section
variable {L:List Tok}
theorem digitsF_length (f n:Nat):(digitsF f n).length≤f+1:=by
 induction f generalizing n with
 |zero=>simp[digitsF]
 |succ f ih=>
  unfold digitsF
  split
  ·simp
  ·have:=ih (n / 10);simp;omega
theorem litText_len (H:Ok L)(k:Nat):(litText (tk L k)).length≤202:=by
 unfold litText
 split
 ·have:=H.hS k
  have h2:=ba_len (tk L k).S
  simp only[List.length_cons,List.length_append,List.length_nil];omega
 ·unfold decimal
  have:=digitsF_length 7 (tk L k).N.natAbs
  split<;>simp<;>omega
theorem litsText_snoc_len (l:List Tok)(t:Tok):(litsText (l++[t])).length≤(litsText l).length+2+(litText t).length:=by
 induction l with
 |nil=>simp[litsText]
 |cons a l ih=>
  cases l with
  |nil=>simp[litsText];omega
  |cons b r=>
   show(litText a++[44,32]++litsText (b::r++[t])).length≤(litText a++[44,32]++litsText (b::r)).length+2+_
   simp only[List.length_append] at ih ⊢
   omega
theorem pLits_fine (H:Ok L):∀n acc i ls j,acc.length≤i→(litsText acc).length≤210*i→(∀t∈acc, -9999999≤t.N∧t.N≤9999999)→i<L.length→pLits L n acc i=.ok ls j→
  ls.length≤j∧(∀t∈ls, -9999999≤t.N∧t.N≤9999999)∧(litsText ls).length+210*i≤(litsText acc).length+210*j∧i<j∧j<L.length:=by
 intro n
 induction n with
 |zero=>intro acc i ls j _ _ _ _ h;simp[pLits] at h
 |succ n ih=>
  intro acc i ls j h1 h2 h3 hi h
  rw[pLits] at h
  split at h
  ·rename_i k1
   have hi1:=ended_next H.hE hi (lit_kind k1)
   have hl:=litText_len H i
   have hs:=litsText_snoc_len acc (tk L i)
   have h3':∀t∈acc++[tk L i], -9999999≤t.N∧t.N≤9999999:=by
    intro t ht
    rw[List.mem_append,List.mem_singleton] at ht
    rcases ht with ht|rfl
    ·exact h3 t ht
    ·exact H.hN i
   split at h
   ·rename_i k2
    have hi2:=ended_next H.hE hi1 (is_kind k2)
    have:=ih (acc++[tk L i]) (i+2) ls j (by simp;omega) (by omega) h3' hi2 h
    refine⟨this.1,this.2.1,?_,by omega,this.2.2.2.2⟩
    omega
   ·split at h
    ·rename_i k3
     have hi2:=ended_next H.hE hi1 (is_kind k3)
     cases h
     exact⟨by simp;omega,h3',by omega,by omega,hi2⟩
    ·cases h
  ·cases h
theorem pTest_fine (H:Ok L){i j:Nat}{a:Ast}(hi:i<L.length)(h:pTest L i=.ok a j):Fine a∧(plain a).length+210*i≤210*j∧i<j∧j<L.length∧isAnd a=false∧isOr a=false:=by
 have s0:=H.hS i
 have s1:=H.hS (i+1)
 have e0:=ba_len (tk L i).S
 have e1:=ba_len (tk L (i+1)).S
 rw[pTest] at h
 split at h
 ·rename_i k0
  have hi1:=ended_next H.hE hi (.inl (by simp at k0;exact k0.1))
  split at h
  ·rename_i k1
   have hi2:=ended_next H.hE hi1 (cmpB_kind k1)
   split at h
   ·rename_i k2
    have hi3:=ended_next H.hE hi2 (lit_kind k2)
    have hl:=litText_len H (i+2)
    cases h
    refine⟨⟨by simp,by intro t ht;rw[List.mem_singleton] at ht;rw[ht];exact H.hN _⟩,?_,by omega,hi3,rfl,rfl⟩
    unfold plain
    split
    ·simp only[List.length_append,List.length_cons,List.length_nil,wNull];omega
    ·split<;>simp only[List.length_append,List.length_cons,List.length_nil,litsText]<;>omega
   ·cases h
  ·split at h
   ·rename_i k1
    have hi2:=ended_next H.hE hi1 (isWord_kind k1)
    split at h
    ·rename_i k2
     have hi3:=ended_next H.hE hi2 (lit_kind k2)
     have hl:=litText_len H (i+2)
     cases h
     refine⟨⟨by simp,by intro t ht;rw[List.mem_singleton] at ht;rw[ht];exact H.hN _⟩,?_,by omega,hi3,rfl,rfl⟩
     unfold plain
     split
     ·simp only[List.length_append,List.length_cons,List.length_nil,wNull];omega
     ·split<;>simp only[List.length_append,List.length_cons,List.length_nil,litsText]<;>omega
    ·cases h
   ·split at h
    ·rename_i k1
     have hi2:=ended_next H.hE hi1 (isWord_kind k1)
     split at h
     ·rename_i k2
      have hi3:=ended_next H.hE hi2 (is_kind k2)
      cases h
      refine⟨⟨by simp,by simp⟩,?_,by omega,hi3,rfl,rfl⟩
      unfold plain
      split
      ·simp only[List.length_append,List.length_cons,List.length_nil,wNull];omega
      ·split<;>simp only[List.length_append,List.length_cons,List.length_nil,litsText]<;>omega
     ·cases h
    ·split at h
     ·rename_i k1
      have hi2:=ended_next H.hE hi1 (isWord_kind k1)
      split at h
      ·rename_i k2
       have hi3:=ended_next H.hE hi2 (is_kind k2)
       cases hp:pLits L (L.length+1) [] (i+3) with
       |err e p=>rw[hp] at h;cases h
       |ok ls j'=>
        rw[hp] at h
        cases h
        have hf:=pLits_fine H _ _ _ _ _ (by simp) (by simp[litsText]) (by simp) hi3 hp
        refine⟨⟨by have:=H.hL;omega,hf.2.1⟩,?_,by omega,hf.2.2.2.2,rfl,rfl⟩
        have:=hf.2.2.1
        simp only[litsText,List.length_nil] at this
        unfold plain
        split
        ·simp only[List.length_append,List.length_cons,List.length_nil,wNull];omega
        ·split<;>simp only[List.length_append,List.length_cons,List.length_nil]<;>omega
      ·cases h
     ·cases h
 ·cases h
def LinkFine (L:List Tok)(m:Ast→List UInt8)(link:Nat→Res Ast):Prop:=∀i j a,i<L.length→link i=.ok a j→Fine a∧(m a).length+210*i≤210*j∧i<j∧j<L.length
theorem cLoop_fine (H:Ok L){link:Nat→Res Ast}{w:List UInt8}{mk:Ast→Ast→Ast}{m m':Ast→List UInt8}(hl:LinkFine L m link)(hmk:∀a b,Fine a→Fine b→Fine (mk a b))(hm:∀a b,(m' (mk a b)).length≤(m' a).length+(m b).length+100):
  ∀n a i b j i0,i<L.length→Fine a→(m' a).length+210*i0≤210*i→i0<i→cLoop L link w mk n a i=.ok b j→Fine b∧(m' b).length+210*i0≤210*j∧i0<j∧j<L.length:=by
 intro n
 induction n with
 |zero=>intro a i b j i0 _ _ _ _ h;simp[cLoop] at h
 |succ n ih=>
  intro a i b j i0 hi hf hlen h0 h
  rw[cLoop] at h
  split at h
  ·rename_i k1
   have hi1:=ended_next H.hE hi (is_kind k1)
   cases hp:link (i+1) with
   |err e p=>rw[hp] at h;cases h
   |ok c j'=>
    rw[hp] at h
    have h1:=hl _ _ _ hi1 hp
    have h2:=hm a c
    exact ih (mk a c) j' b j i0 h1.2.2.2 (hmk _ _ hf h1.1) (by omega) (by omega) h
  ·cases h
   exact⟨hf,hlen,h0,hi⟩
theorem chain_fine (H:Ok L){link:Nat→Res Ast}{w:List UInt8}{mk:Ast→Ast→Ast}{m m':Ast→List UInt8}(hl:LinkFine L m link)(hmk:∀a b,Fine a→Fine b→Fine (mk a b))(hm:∀a b,(m' (mk a b)).length≤(m' a).length+(m b).length+100)(hmm:∀a,(m' a).length≤(m a).length):
  LinkFine L m' (chain L link w mk):=by
 intro i j a hi h
 unfold chain at h
 cases hp:link i with
 |err e p=>rw[hp] at h;cases h
 |ok c j'=>
  rw[hp] at h
  have h1:=hl _ _ _ hi hp
  have h2:=hmm c
  exact cLoop_fine H hl hmk hm _ c j' a j i h1.2.2.2 h1.1 (by omega) h1.2.2.1 h
def mPart (a:Ast):List UInt8:=round (isAnd a || isOr a) (plain a)
def mAll (a:Ast):List UInt8:=round (isOr a) (plain a)
theorem round_length (b:Bool)(l:List UInt8):l.length≤(round b l).length∧(round b l).length≤l.length+2:=by
 cases b<;>simp[round]
 omega
theorem all_of_part (H:Ok L){d:Nat}(hp:LinkFine L mPart (pPart L d)):LinkFine L mAll (pAll L d):=by
 refine chain_fine H (m:=mPart) hp (fun a b ha hb=>⟨ha,hb⟩) (fun a b=>?_) (fun a=>?_)
 ·show(round false (plain (.and a b))).length≤_
  have h1:=round_length (isOr b) (plain b)
  have h2:=round_length (isAnd b || isOr b) (plain b)
  simp only[round,plain,mAll,mPart,wAnd,List.length_append,List.length_cons,List.length_nil,Bool.false_eq_true,if_false] at h1 h2 ⊢
  omega
 ·unfold mAll mPart
  cases isOr a with
  |true=>simp
  |false=>
   have h2:=round_length (isAnd a || false) (plain a)
   exact h2.1
theorem filter_of_all (H:Ok L){d:Nat}(hp:LinkFine L mAll (pAll L d)):LinkFine L plain (pFilter L d):=by
 refine chain_fine H (m:=mAll) hp (fun a b ha hb=>⟨ha,hb⟩) (fun a b=>?_) (fun a=>?_)
 ·have h2:=round_length (isOr b) (plain b)
  simp only[plain,mAll,wOr,List.length_append,List.length_cons,List.length_nil] at h2 ⊢
  omega
 ·exact(round_length _ _).1
theorem part_fine (H:Ok L):∀d,LinkFine L mPart (pPart L d):=by
 have base:∀i j a,i<L.length→pTest L i=.ok a j→Fine a∧(mPart a).length+210*i≤210*j∧i<j∧j<L.length:=by
  intro i j a hi h
  have:=pTest_fine H hi h
  refine⟨this.1,?_,this.2.2.1,this.2.2.2.1⟩
  unfold mPart
  rw[this.2.2.2.2.1,this.2.2.2.2.2]
  exact this.2.1
 intro d
 induction d with
 |zero=>
  intro i j a hi h
  rw[pPart] at h
  split at h
  ·cases h
  ·exact base i j a hi h
 |succ d ih=>
  intro i j a hi h
  rw[pPart] at h
  split at h
  ·rename_i k1
   have hi1:=ended_next H.hE hi (is_kind k1)
   cases hp:pPart L d (i+1) with
   |err e p=>rw[hp] at h;cases h
   |ok c j'=>
    rw[hp] at h
    cases h
    have h1:=ih _ _ _ hi1 hp
    refine⟨h1.1,?_,by omega,h1.2.2.2⟩
    have h2:=h1.2.1
    show(plain (.not c)).length+_≤_
    simp only[plain,mPart,wNot,List.length_append,List.length_cons,List.length_nil] at h2 ⊢
    omega
  ·split at h
   ·rename_i k1
    have hi1:=ended_next H.hE hi (is_kind k1)
    cases hp:chain L (chain L (pPart L d) wAnd .and) wOr .or (i+1) with
    |err e p=>rw[hp] at h;cases h
    |ok c j'=>
     rw[hp] at h
     have h1:=filter_of_all H (all_of_part H ih) _ _ _ hi1 hp
     simp only at h
     split at h
     ·rename_i k2
      have hj:=ended_next H.hE h1.2.2.2 (is_kind k2)
      cases h
      have h2:=round_length (isAnd a || isOr a) (plain a)
      refine⟨h1.1,?_,by omega,hj⟩
      unfold mPart
      omega
     ·cases h
   ·exact base i j a hi h
theorem parse_fine (H:Ok L){a:Ast}{j:Nat}(h0:0<L.length)(h:parse L=.ok a j):Fine a∧(plain a).length≤80000:=by
 unfold parse at h
 cases hp:pFilter L 6 0 with
 |err e p=>rw[hp] at h;cases h
 |ok c j'=>
  rw[hp] at h
  simp only at h
  split at h
  ·cases h
   have h1:=filter_of_all H (all_of_part H (part_fine H 6)) _ _ _ h0 hp
   exact⟨h1.1,by have:=H.hL;omega⟩
  ·cases h
end
end Doc
namespace Doc
def Every (Q:Tok→Tok→List Tok→Prop):Ast→Prop
 | .test n o l=>Q n o l
 | .not a=>Every Q a
 | .and a b=>Every Q a∧Every Q b
 | .or a b=>Every Q a∧Every Q b
def ResE (Q:Tok→Tok→List Tok→Prop):Res Ast→Prop
 | .ok a _=>Every Q a
 | .err _ _=>True
section
variable {L:List Tok}{Q:Tok→Tok→List Tok→Prop}
theorem cLoop_every {link:Nat→Res Ast}{w:List UInt8}{mk:Ast→Ast→Ast}(hl:∀i,ResE Q (link i))(hmk:∀a b,Every Q a→Every Q b→Every Q (mk a b)):
  ∀n a i,Every Q a→ResE Q (cLoop L link w mk n a i):=by
 intro n
 induction n with
 |zero=>intro a i _;exact trivial
 |succ n ih=>
  intro a i ha
  unfold cLoop
  split
  ·have:=hl (i+1)
   cases hk:link (i+1) with
   |ok b j=>rw[hk] at this;exact ih _ _ (hmk _ _ ha this)
   |err e p=>exact trivial
  ·exact ha
theorem chain_every {link:Nat→Res Ast}{w:List UInt8}{mk:Ast→Ast→Ast}(hl:∀i,ResE Q (link i))(hmk:∀a b,Every Q a→Every Q b→Every Q (mk a b))(i:Nat):
  ResE Q (chain L link w mk i):=by
 unfold chain
 have:=hl i
 cases hk:link i with
 |ok b j=>rw[hk] at this;exact cLoop_every hl hmk _ _ _ this
 |err e p=>exact trivial
theorem pPart_every (ht:∀i,ResE Q (pTest L i)):∀d i,ResE Q (pPart L d i):=by
 intro d
 induction d with
 |zero=>
  intro i
  unfold pPart
  split
  ·exact trivial
  ·exact ht i
 |succ d ih=>
  intro i
  unfold pPart
  split
  ·have:=ih (i+1)
   cases hk:pPart L d (i+1) with
   |ok b j=>rw[hk] at this;exact this
   |err e p=>exact trivial
  ·split
   ·have:=chain_every (L:=L) (w:=wOr) (mk:=.or) (fun i=>chain_every (L:=L) (w:=wAnd) (mk:=.and) ih (fun a b h1 h2=>⟨h1,h2⟩) i) (fun a b h1 h2=>⟨h1,h2⟩) (i+1)
    cases hk:chain L (chain L (pPart L d) wAnd .and) wOr .or (i+1) with
    |ok b j=>
     rw[hk] at this
     dsimp only
     split
     ·exact this
     ·exact trivial
    |err e p=>exact trivial
   ·exact ht i
theorem parse_every (ht:∀i,ResE Q (pTest L i)):ResE Q (parse L):=by
 unfold parse pFilter pAll
 have:=chain_every (L:=L) (w:=wOr) (mk:=.or) (fun i=>chain_every (L:=L) (w:=wAnd) (mk:=.and) (pPart_every ht 6) (fun a b h1 h2=>⟨h1,h2⟩) i) (fun a b h1 h2=>⟨h1,h2⟩) 0
 show ResE Q (match chain L (fun i=>chain L (pPart L 6) wAnd .and i) wOr .or 0 with | .ok a j=>if (tk L j).kind==101 then .ok a j else .err 6 (tk L j).at_ | .err e p=>.err e p)
 cases hk:chain L (fun i=>chain L (pPart L 6) wAnd .and i) wOr .or 0 with
 |ok b j=>
  rw[show(chain L (chain L (pPart L 6) wAnd .and) wOr .or 0)=.ok b j from hk] at this
  dsimp only
  split
  ·exact this
  ·exact trivial
 |err e p=>exact trivial
end
structure Wide (s:ByteArray):Prop where
 pos:0<s.size
 le:s.size≤300
 k1:(s.toList==[41])=false
 k2:(s.toList==[44])=false
 k3:(s.toList==[40])=false
structure LitOk (t:Tok):Prop where
 k:t.kind=115∨t.kind=110
 lo: -9999999≤t.N
 hi:t.N≤9999999
 sz:t.S.size≤200
structure TestOk (n o:Tok)(l:List Tok):Prop where
 name:Wide n.S
 ask:Wide o.S
 lits:∀t∈l,LitOk t
 len:l.length≤300
 which:((o.S.toList==wIn)=true∧(o.S.toList==wIs)=false∧l≠[])∨((o.S.toList==wIn)=false∧(o.S.toList==wIs)=true∧l=[])∨((o.S.toList==wIn)=false∧(o.S.toList==wIs)=false∧∃t,l=[t])
theorem wide_of {s:ByteArray}{c:UInt8}{r:List UInt8}(h:s.toList=c::r)(hs:s.size≤200)(h1:c≠41)(h2:c≠44)(h3:c≠40):Wide s:=by
 refine⟨?_,by omega,?_,?_,?_⟩
 ·have:=ba_len s
  rw[ByteArray.toList_eq] at h
  rw[h] at this
  simp at this
  omega
 ·rw[h];simp[h1]
 ·rw[h];simp[h2]
 ·rw[h];simp[h3]
theorem nameB_wide {s:ByteArray}(h:nameB s=true):Wide s:=by
 simp only[nameB,Bool.and_eq_true,decide_eq_true_eq,beq_iff_eq] at h
 obtain⟨⟨⟨h1,h2⟩,h3⟩,_⟩:=h
 cases hc:s.toList with
 |nil=>
  exfalso
  have:=ba_len s
  rw[ByteArray.toList_eq] at hc
  rw[hc] at this;simp at this;omega
 |cons c r=>
  have hr:rest s 0=c::r:=by
   rw[←hc,ByteArray.toList_eq];simp[rest]
  rw[hr] at h3
  have hcl:97≤c∧c≤122:=by
   by_cases hx:(97≤c∧c≤122)
   ·exact hx
   ·exfalso
    unfold run at h3
    rw[List.takeWhile_cons] at h3
    have hz:(decide ((97:UInt8)≤c) && decide (c≤122))=false:=by
     rw[Bool.and_eq_false_iff]
     by_cases h9:(97:UInt8)≤c
     ·exact .inr (by simp;exact UInt8.not_le.1 (fun h=>hx ⟨h9,h⟩))
     ·exact .inl (by simp;exact UInt8.not_le.1 h9)
    rw[hz] at h3
    simp at h3
    omega
  refine wide_of hc (by omega) ?_ ?_ ?_<;>(rintro rfl;exact absurd hcl.1 (by decide))
theorem isWord_list {t:Tok}{l:List UInt8}(h:isWord t l=true):t.S.toList=l:=by
 simp only[isWord,Bool.and_eq_true,beq_iff_eq] at h
 exact h.2
theorem cmpB_wide {t:Tok}(hs:t.S.size≤200)(h:cmpB t=true):Wide t.S∧(t.S.toList==wIn)=false∧(t.S.toList==wIs)=false:=by
 simp only[cmpB,Bool.and_eq_true,Bool.or_eq_true,beq_iff_eq] at h
 obtain⟨_,h⟩:=h
 rcases h with((((h|h)|h)|h)|h)|h
 all_goals exact⟨wide_of h hs (by decide) (by decide) (by decide),by rw[h];rfl,by rw[h];rfl⟩
theorem lit_ok {L:List Tok}(H:Ok L){b:Bool}(k:Nat)(h:lit b (tk L k)=true):LitOk (tk L k):=by
 simp only[lit,Bool.and_eq_true,Bool.or_eq_true,beq_iff_eq] at h
 exact⟨by rcases h with h|h;exact .inl h;exact .inr h.1,(H.hN k).1,(H.hN k).2,H.hS k⟩
theorem pLits_ok {L:List Tok}(H:Ok L):∀n acc i ls j,(∀t∈acc,LitOk t)→pLits L n acc i=.ok ls j→ls≠[]∧∀t∈ls,LitOk t:=by
 intro n
 induction n with
 |zero=>intro acc i ls j _ h;simp[pLits] at h
 |succ n ih=>
  intro acc i ls j ha h
  unfold pLits at h
  split at h
  ·rename_i hl
   have ha':∀t∈acc++[tk L i],LitOk t:=by
    intro t ht
    rcases List.mem_append.1 ht with ht|ht
    ·exact ha t ht
    ·rw[List.mem_singleton.1 ht];exact lit_ok H i hl
   split at h
   ·exact ih _ _ _ _ ha' h
   ·split at h
    ·cases h;exact⟨by simp,ha'⟩
    ·cases h
  ·cases h
theorem pTest_ok {L:List Tok}(H:Ok L)(i:Nat):ResE TestOk (pTest L i):=by
 cases hr:pTest L i with
 |err e p=>exact trivial
 |ok a j=>
  by_cases hi:i<L.length
  ·have hfine:=(pTest_fine H hi hr).1
   have s1:=H.hS (i+1)
   unfold pTest at hr
   split at hr
   ·rename_i hn
    have hname:Wide (tk L i).S:=nameB_wide (by simp only[Bool.and_eq_true] at hn;exact hn.2)
    split at hr
    ·rename_i hc
     split at hr
     ·rename_i hl
      cases hr
      obtain⟨c1,c2,c3⟩:=cmpB_wide s1 hc
      exact⟨hname,c1,fun t ht=>by rw[List.mem_singleton.1 ht];exact lit_ok H _ hl,by simp,.inr (.inr ⟨c2,c3,_,rfl⟩)⟩
     ·cases hr
    ·split at hr
     ·rename_i hc
      split at hr
      ·rename_i hl
       cases hr
       have:=isWord_list hc
       exact⟨hname,wide_of this s1 (by decide) (by decide) (by decide),fun t ht=>by rw[List.mem_singleton.1 ht];exact lit_ok H _ hl,by simp,.inr (.inr ⟨by rw[this];rfl,by rw[this];rfl,_,rfl⟩)⟩
      ·cases hr
     ·split at hr
      ·rename_i hc
       split at hr
       ·cases hr
        have:=isWord_list hc
        exact⟨hname,wide_of this s1 (by decide) (by decide) (by decide),fun t ht=>(by cases ht),by simp,.inr (.inl ⟨by rw[this];rfl,by rw[this];rfl,rfl⟩)⟩
       ·cases hr
      ·split at hr
       ·rename_i hc
        split at hr
        ·cases hp:pLits L (L.length+1) [] (i+3) with
         |err e p=>rw[hp] at hr;cases hr
         |ok ls j'=>
          rw[hp] at hr
          cases hr
          have:=isWord_list hc
          obtain⟨g1,g2⟩:=pLits_ok H _ _ _ _ _ (fun t ht=>by cases ht) hp
          exact⟨hname,wide_of this s1 (by decide) (by decide) (by decide),g2,hfine.1,.inl ⟨by rw[this];rfl,by rw[this];rfl,g1⟩⟩
        ·cases hr
       ·cases hr
   ·cases hr
  ·exfalso
   unfold pTest at hr
   rw[show tk L i=⟨101,ByteArray.empty,0,0⟩ by simp[tk,Nat.not_lt.1 hi]] at hr
   simp at hr
theorem parse_ok {L:List Tok}(H:Ok L){a:Ast}{j:Nat}(h:parse L=.ok a j):Every TestOk a:=by
 have:=parse_every (L:=L) (Q:=TestOk) (pTest_ok H)
 rw[h] at this
 exact this
end Doc
namespace Doc
def ErrPos {α:Type}:Res α→Prop
 | .ok _ _=>True
 | .err e _=>0<e∧e<100
section
variable {L:List Tok}
theorem pLits_pos (hE:Ended L):∀n acc i,i<L.length→L.length-i<n→ErrPos (pLits L n acc i):=by
 intro n
 induction n with
 |zero=>intro acc i _ h;omega
 |succ n ih=>
  intro acc i hi hn
  unfold pLits
  split
  ·rename_i hl
   have h1:=ended_next hE hi (lit_kind hl)
   split
   ·rename_i hc
    have h2:=ended_next hE h1 (is_kind hc)
    exact ih _ _ h2 (by omega)
   ·split
    ·exact trivial
    ·exact⟨by decide,by decide⟩
  ·exact⟨by decide,by decide⟩
theorem err6 {α:Type}(p:Nat):ErrPos (Res.err 6 p:Res α):=⟨by decide,by decide⟩
theorem pTest_pos (hE:Ended L)(i:Nat)(hi:i<L.length):ErrPos (pTest L i):=by
 unfold pTest
 split
 ·rename_i hn
  have hk:(tk L i).kind=119∨(tk L i).kind=110∨(tk L i).kind=115∨(tk L i).kind=103:=by
   simp only[Bool.and_eq_true,beq_iff_eq] at hn;exact .inl hn.1
  have h1:=ended_next hE hi hk
  split
  ·split
   ·exact trivial
   ·exact err6 _
  ·split
   ·split
    ·exact trivial
    ·exact err6 _
   ·split
    ·split
     ·exact trivial
     ·exact err6 _
    ·split
     ·rename_i hw
      have h2:=ended_next hE h1 (isWord_kind hw)
      split
      ·rename_i ho
       have h3:=ended_next hE h2 (is_kind ho)
       have:=pLits_pos hE (L.length+1) [] (i+3) h3 (by omega)
       cases hp:pLits L (L.length+1) [] (i+3) with
       |ok l j=>exact trivial
       |err e p=>rw[hp] at this;exact this
      ·exact err6 _
     ·exact err6 _
 ·exact err6 _
theorem cLoop_pos (hE:Ended L){link:Nat→Res Ast}{w:List UInt8}{mk:Ast→Ast→Ast}(hl:∀i,i<L.length→ErrPos (link i))(hf:∀i a j,i<L.length→link i=.ok a j→i<j∧j<L.length):
  ∀n a i,i<L.length→L.length-i<n→ErrPos (cLoop L link w mk n a i):=by
 intro n
 induction n with
 |zero=>intro a i _ h;omega
 |succ n ih=>
  intro a i hi hn
  unfold cLoop
  split
  ·rename_i hc
   have h1:=ended_next hE hi (is_kind hc)
   have:=hl (i+1) h1
   cases hp:link (i+1) with
   |ok b j=>
    obtain⟨h2,h3⟩:=hf _ _ _ h1 hp
    exact ih _ _ h3 (by omega)
   |err e p=>rw[hp] at this;exact this
  ·exact trivial
theorem chain_pos (hE:Ended L){link:Nat→Res Ast}{w:List UInt8}{mk:Ast→Ast→Ast}(hl:∀i,i<L.length→ErrPos (link i))(hf:∀i a j,i<L.length→link i=.ok a j→i<j∧j<L.length)(i:Nat)(hi:i<L.length):
  ErrPos (chain L link w mk i):=by
 unfold chain
 have:=hl i hi
 cases hp:link i with
 |ok a j=>
  obtain⟨h2,h3⟩:=hf _ _ _ hi hp
  exact cLoop_pos hE hl hf _ _ _ h3 (by omega)
 |err e p=>rw[hp] at this;exact this
theorem pPart_pos (H:Ok L):∀d i,i<L.length→ErrPos (pPart L d i):=by
 intro d
 induction d with
 |zero=>
  intro i hi
  unfold pPart
  split
  ·exact⟨by decide,by decide⟩
  ·exact pTest_pos H.hE i hi
 |succ d ih=>
  intro i hi
  unfold pPart
  split
  ·rename_i hc
   have h1:=ended_next H.hE hi (is_kind hc)
   have:=ih (i+1) h1
   cases hp:pPart L d (i+1) with
   |ok b j=>exact trivial
   |err e p=>rw[hp] at this;exact this
  ·split
   ·rename_i hc
    have h1:=ended_next H.hE hi (is_kind hc)
    have fp:=part_fine H d
    have fa:=all_of_part H fp
    have:=chain_pos H.hE (w:=wOr) (mk:=.or) (link:=chain L (pPart L d) wAnd .and) (fun i hi=>chain_pos H.hE ih (fun i a j hi hj=>⟨(fp i j a hi hj).2.2.1,(fp i j a hi hj).2.2.2⟩) i hi) (fun i a j hi hj=>⟨(fa i j a hi hj).2.2.1,(fa i j a hi hj).2.2.2⟩) (i+1) h1
    cases hp:chain L (chain L (pPart L d) wAnd .and) wOr .or (i+1) with
    |ok b j=>dsimp only;split;exact trivial;exact err6 _
    |err e p=>rw[hp] at this;exact this
   ·exact pTest_pos H.hE i hi
theorem parse_pos (H:Ok L)(h0:0<L.length):ErrPos (parse L):=by
 have fp:=part_fine H 6
 have fa:=all_of_part H fp
 have:=chain_pos H.hE (w:=wOr) (mk:=.or) (link:=pAll L 6) (fun i hi=>chain_pos H.hE (pPart_pos H 6) (fun i a j hi hj=>⟨(fp i j a hi hj).2.2.1,(fp i j a hi hj).2.2.2⟩) i hi) (fun i a j hi hj=>⟨(fa i j a hi hj).2.2.1,(fa i j a hi hj).2.2.2⟩) 0 h0
 unfold parse
 cases hp:pFilter L 6 0 with
 |ok b j=>dsimp only;split;exact trivial;exact err6 _
 |err e p=>rw[show chain L (pAll L 6) wOr .or 0=.err e p from hp] at this;exact this
end
end Doc
theorem lex_first (c:UInt8)(r:List UInt8):
  ((Doc.lex (c::r)).1=119→Doc.isLetter c=true∧(Doc.lex (c::r)).2=Doc.run 97 122 (c::r)∧(Doc.lex (c::r)).2≤8)∧((Doc.lex (c::r)).1=110→(c==45)=true∨Doc.isDigit c=true)∧((Doc.lex (c::r)).1=115→(c==34)=true)∧
  ((Doc.lex (c::r)).1=103→Doc.isLetter c=false):=by
 unfold Doc.lex
 simp only
 split
 ·rename_i h1
  split<;>rename_i h2<;>refine⟨fun h=>?_,fun h=>?_,fun h=>?_,fun h=>?_⟩<;>first|exact⟨h1,rfl,h2⟩|(simp at h)
 ·rename_i h1
  have h1:Doc.isLetter c=false:=by simpa using h1
  split
  ·rename_i h2
   split<;>refine⟨fun h=>?_,fun h=>.inl h2,fun h=>?_,fun h=>h1⟩<;>simp at h
  ·split
   ·rename_i h2 h3
    split<;>refine⟨fun h=>?_,fun h=>.inr h3,fun h=>?_,fun h=>h1⟩<;>simp at h
   ·split
    ·rename_i h4
     split<;>refine⟨fun h=>?_,fun h=>?_,fun h=>h4,fun h=>h1⟩<;>simp at h
    ·split
     ·refine⟨fun h=>?_,fun h=>?_,fun h=>?_,fun h=>h1⟩<;>simp at h
     ·split<;>refine⟨fun h=>?_,fun h=>?_,fun h=>?_,fun h=>h1⟩<;>simp at h
def Bare (l:List UInt8):Prop:=∃c r,l=c::r∧(c==34)=false∧(c==45)=false∧Doc.isDigit c=false
section
variable {s:ByteArray}{p:Nat}
theorem ptok_end (hp:Doc.past s p=s.size):ptok s p=⟨0,ByteArray.empty,s.size⟩∧Doc.hd s p=Doc.endTok s:=by
 unfold ptok Doc.hd;rw[if_pos hp,if_pos hp];exact⟨rfl,rfl⟩
theorem ptok_wrong (hp:Doc.past s p≠s.size)(hk:(Doc.lex (Doc.rest s (Doc.past s p))).1=120):ptok s p=⟨1,ByteArray.empty,Doc.past s p⟩∧Doc.hd s p=Doc.tok s (Doc.past s p):=by
 unfold ptok Doc.hd;rw[if_neg hp,if_neg hp,if_pos hk];exact⟨rfl,rfl⟩
theorem ptok_tok (hp:Doc.past s p≠s.size)(hk:(Doc.lex (Doc.rest s (Doc.past s p))).1≠120):
  ptok s p=⟨goKind (Doc.lex (Doc.rest s (Doc.past s p))).1,s.extract (Doc.past s p) (Doc.past s p+(Doc.lex (Doc.rest s (Doc.past s p))).2),Doc.past s p⟩∧Doc.hd s p=Doc.tok s (Doc.past s p):=by
 unfold ptok Doc.hd;rw[if_neg hp,if_neg hp,if_neg hk];exact⟨rfl,rfl⟩
theorem ptok_kind (_h:p≤s.size):(ptok s p).kind=goKind (Doc.hd s p).kind∧(ptok s p).at_=(Doc.hd s p).at_:=by
 by_cases hp:Doc.past s p=s.size
 ·obtain⟨h1,h2⟩:=ptok_end hp;rw[h1,h2];exact⟨rfl,rfl⟩
 ·by_cases hk:(Doc.lex (Doc.rest s (Doc.past s p))).1=120
  ·obtain⟨h1,h2⟩:=ptok_wrong hp hk;rw[h1,h2]
   refine⟨?_,rfl⟩
   show 1=goKind (Doc.lex (Doc.rest s (Doc.past s p))).1
   rw[hk];rfl
  ·obtain⟨h1,h2⟩:=ptok_tok hp hk;rw[h1,h2];exact⟨rfl,rfl⟩
theorem ext_list (a n:Nat):(s.extract a (a+n)).toList=(Doc.rest s a).take n:=by
 rw[ByteArray.toList_eq,extract_rest]
theorem empty_ne (c:UInt8)(r:List UInt8):(ByteArray.empty.toList==c::r)=false:=by rw[ByteArray.toList_eq];rfl
theorem ptok_is (h:p≤s.size){l:List UInt8}(hl:Bare l):((ptok s p).text.toList==l)=Doc.is (Doc.hd s p) l:=by
 obtain⟨c0,r0,rfl,q1,q2,q3⟩:=hl
 have hpl:=Doc.past_le h
 by_cases hp:Doc.past s p=s.size
 ·obtain⟨h1,h2⟩:=ptok_end hp;rw[h1,h2];exact(empty_ne c0 r0).trans rfl
 ·by_cases hk:(Doc.lex (Doc.rest s (Doc.past s p))).1=120
  ·obtain⟨h1,h2⟩:=ptok_wrong hp hk;rw[h1,h2]
   refine(empty_ne c0 r0).trans ?_
   have hK:(Doc.tok s (Doc.past s p)).kind=120:=hk
   unfold Doc.is
   rw[hK];rfl
  ·obtain⟨h1,h2⟩:=ptok_tok hp hk;rw[h1,h2]
   obtain⟨c,r,hcr⟩:=Doc.rest_at s (Doc.past s p) (by omega)
   have hf:=lex_first c r
   have hn:=Doc.lex_len c r
   rw[←hcr] at hf hn
   generalize hlex:Doc.lex (Doc.rest s (Doc.past s p))=x at *
   obtain⟨k,n⟩:=x
   simp only at *
   have hS:(Doc.tok s (Doc.past s p)).S=if k=119∨k=103 then s.extract (Doc.past s p) (Doc.past s p+n) else if k=115 then s.extract (Doc.past s p+1) (Doc.past s p+n-1) else ByteArray.empty:=by
    unfold Doc.tok;rw[hlex]
   have hK:(Doc.tok s (Doc.past s p)).kind=k:=by unfold Doc.tok;rw[hlex]
   have hpos:=hn.2.2 hk
   obtain⟨m,rfl⟩:∃m,n=m+1:=⟨n-1,by omega⟩
   unfold Doc.is
   rw[hK,hS]
   by_cases h119:k=119∨k=103
   ·rw[if_pos h119]
    rcases h119 with rfl|rfl<;>simp
   ·rw[ext_list,hcr,List.take_succ_cons]
    have hfalse:(k==119 || k==103)=false:=by
     rw[Bool.or_eq_false_iff,beq_eq_false_iff_ne,beq_eq_false_iff_ne]
     exact⟨fun h=>h119 (.inl h),fun h=>h119 (.inr h)⟩
    rw[hfalse,Bool.false_and,beq_eq_false_iff_ne]
    intro e
    rw[List.cons.injEq] at e
    obtain⟨rfl,_⟩:=e
    rcases hn.1 with h|h|h|h|h
    ·exact h119 (.inl h)
    ·rcases hf.2.1 h with h|h
     ·rw[h] at q2;cases q2
     ·rw[h] at q3;cases q3
    ·have:=hf.2.2.1 h;rw[this] at q1;cases q1
    ·exact h119 (.inr h)
    ·exact hk h
theorem ptok_next (h:p≤s.size)(hk:(Doc.hd s p).kind=119∨(Doc.hd s p).kind=110∨(Doc.hd s p).kind=115∨(Doc.hd s p).kind=103):
  (ptok s p).at_ +(ptok s p).text.size≤s.size∧p<(ptok s p).at_ +(ptok s p).text.size∧Doc.toks s p=Doc.hd s p::Doc.toks s ((ptok s p).at_ +(ptok s p).text.size):=by
 have hpl:=Doc.past_le h
 by_cases hp:Doc.past s p=s.size
 ·obtain⟨_,h2⟩:=ptok_end hp
  rw[h2] at hk
  exact absurd hk (by simp[Doc.endTok])
 ·have hhd:Doc.hd s p=Doc.tok s (Doc.past s p):=by unfold Doc.hd;rw[if_neg hp]
  have hk':(Doc.lex (Doc.rest s (Doc.past s p))).1≠120:=by
   intro e
   rw[hhd] at hk
   have:(Doc.tok s (Doc.past s p)).kind=120:=e
   rw[this] at hk;simp at hk
  obtain⟨h1,_⟩:=ptok_tok hp hk'
  have h6:=Doc.tokEnd_lt (s:=s) (a:=Doc.past s p) (by omega)
  have he:Doc.tokEnd s (Doc.past s p)=Doc.past s p+(Doc.lex (Doc.rest s (Doc.past s p))).2:=by unfold Doc.tokEnd;rw[if_neg hk']
  have hz:(ptok s p).at_ +(ptok s p).text.size=Doc.tokEnd s (Doc.past s p):=by
   rw[h1]
   show Doc.past s p+(s.extract _ _).size=_
   rw[he];simp;omega
  rw[hz]
  refine⟨h6.2,by omega,?_⟩
  rw[hhd]
  exact Doc.toks_next h hp hk'
end
structure At (s:ByteArray)(L:List Doc.Tok)(p i:Nat):Prop where
 le:p≤s.size
 rest:Doc.toks s p=L.drop i
 lt:i<L.length
theorem At.hd {s:ByteArray}{L:List Doc.Tok}{p i:Nat}(h:At s L p i):Doc.hd s p=Doc.tk L i:=by
 obtain⟨r,hr⟩:=Doc.toks_cons h.le
 rw[h.rest] at hr
 have:L[i]? =some (Doc.hd s p):=by
  have:=congrArg List.head? hr
  rwa [List.head?_drop,List.head?_cons] at this
 simp[Doc.tk,this]
theorem At.next {s:ByteArray}{L:List Doc.Tok}{p i:Nat}(h:At s L p i)(hE:Doc.Ended L)(hk:(Doc.tk L i).kind=119∨(Doc.tk L i).kind=110∨(Doc.tk L i).kind=115∨(Doc.tk L i).kind=103):
  At s L ((ptok s p).at_ +(ptok s p).text.size) (i+1)∧p<(ptok s p).at_ +(ptok s p).text.size:=by
 have h1:=ptok_next h.le (by rw[h.hd];exact hk)
 refine⟨⟨h1.1,?_,Doc.ended_next hE h.lt hk⟩,h1.2.1⟩
 have h2:=h1.2.2
 rw[h.rest] at h2
 rw[←List.tail_drop,h2];rfl
theorem At.start (s:ByteArray):At s (Doc.toks s 0) 0 0:=⟨Nat.zero_le _,rfl,Doc.toks_pos s⟩
theorem At.is {s:ByteArray}{L:List Doc.Tok}{p i:Nat}(h:At s L p i){l:List UInt8}(hl:Bare l):((ptok s p).text.toList==l)=Doc.is (Doc.tk L i) l:=by
 rw[←h.hd];exact ptok_is h.le hl
theorem bare_or:Bare [111,114]:=⟨_,_,rfl,rfl,rfl,rfl⟩
theorem bare_and:Bare [97,110,100]:=⟨_,_,rfl,rfl,rfl,rfl⟩
theorem bare_not:Bare [110,111,116]:=⟨_,_,rfl,rfl,rfl,rfl⟩
theorem bare_in:Bare [105,110]:=⟨_,_,rfl,rfl,rfl,rfl⟩
theorem bare_like:Bare [108,105,107,101]:=⟨_,_,rfl,rfl,rfl,rfl⟩
theorem bare_is:Bare [105,115]:=⟨_,_,rfl,rfl,rfl,rfl⟩
theorem bare_null:Bare [110,117,108,108]:=⟨_,_,rfl,rfl,rfl,rfl⟩
theorem bare_open:Bare [40]:=⟨_,_,rfl,rfl,rfl,rfl⟩
theorem bare_close:Bare [41]:=⟨_,_,rfl,rfl,rfl,rfl⟩
theorem bare_comma:Bare [44]:=⟨_,_,rfl,rfl,rfl,rfl⟩
end Go.Proofs.YtbnelaoeblhndaaGreatDoor
