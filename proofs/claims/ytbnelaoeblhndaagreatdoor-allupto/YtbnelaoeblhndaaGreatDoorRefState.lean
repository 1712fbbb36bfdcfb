import Derived.Test.YtbnelaoeblhndaaGreatDoorRefOne3
import Derived.Test.YtbnelaoeblhndaaGreatDoorRefOne5
namespace Go.Proofs.YtbnelaoeblhndaaGreatDoor
open Go.RowKit
set_option maxRecDepth 100000
def tokV (t:Doc.Tok):Value:=.agg #[.int .u8 t.kind.toNat,.string t.S,.int .i64 t.N,.int .i64 t.at_]
def tokC (t:Doc.Tok):List Value:=[.int .u8 t.kind.toNat,.string t.S,.int .i64 t.N,.int .i64 t.at_]
theorem tok_word {s:ByteArray}{a r:Nat}(h:Doc.lex (Doc.rest s a)=(119,r)):
  Value.agg #[.int .u8 119,.string (s.extract a (a+r)),.int .i64 0,.int .i64 a]=tokV (Doc.tok s a)∧a+r=Doc.tokEnd s a:=by
 simp[tokV,Doc.tok,Doc.tokEnd,h]
theorem tok_sign {s:ByteArray}{a r:Nat}(h:Doc.lex (Doc.rest s a)=(103,r)):
  Value.agg #[.int .u8 103,.string (s.extract a (a+r)),.int .i64 0,.int .i64 a]=tokV (Doc.tok s a)∧a+r=Doc.tokEnd s a:=by
 simp[tokV,Doc.tok,Doc.tokEnd,h]
theorem tok_str {s:ByteArray}{a r:Nat}(h:Doc.lex (Doc.rest s a)=(115,r+2)):
  Value.agg #[.int .u8 115,.string (s.extract (a+1) (a+1+r)),.int .i64 0,.int .i64 a]=tokV (Doc.tok s a)∧a+r+2=Doc.tokEnd s a:=by
 simp[tokV,Doc.tok,Doc.tokEnd,h,show a+(r+2)-1=a+1+r by omega];omega
theorem tok_num {s:ByteArray}{a r:Nat}{n:Int}(h:Doc.lex (Doc.rest s a)=(110,r))(hn:Doc.signed ((Doc.rest s a).take r)=n):
  Value.agg #[.int .u8 110,.string ByteArray.empty,.int .i64 n,.int .i64 a]=tokV (Doc.tok s a)∧a+r=Doc.tokEnd s a:=by
 simp[tokV,Doc.tok,Doc.tokEnd,h,hn]
theorem tok_bad {s:ByteArray}{a r:Nat}(h:Doc.lex (Doc.rest s a)=(120,r)):
  Value.agg #[.int .u8 120,.string ByteArray.empty,.int .i64 0,.int .i64 a]=tokV (Doc.tok s a)∧s.size=Doc.tokEnd s a:=by
 simp[tokV,Doc.tok,Doc.tokEnd,h]
theorem rest_cons (s:ByteArray)(a:Nat)(h:a<s.size):Doc.rest s a=s[a]::Doc.rest s (a+1):=drop_at s a h
theorem rest_len (s:ByteArray)(a:Nat):(Doc.rest s a).length=s.size-a:=by simp[Doc.rest]
theorem u8_int (x:UInt8)(n:Nat)(h:n<256):(x==UInt8.ofNat n)=((x.toNat:Int)==(n:Int)):=by
 rw[Bool.eq_iff_iff,beq_iff_eq,beq_iff_eq]
 constructor
 ·intro e;rw[e];simp;omega
 ·intro e;apply UInt8.toNat_inj.1;simp;omega
theorem extract_rest (s:ByteArray)(a r:Nat):(s.extract a (a+r)).data.toList=(Doc.rest s a).take r:=by
 rw[extract_list];congr 1;omega
theorem one_any (s:ByteArray)(a:Nat)(w:World)(hs:s.size≤200)(ha:a<s.size):
  Calls Tryz.prog 131 #[.string s,.int .i64 a] w fun e w'=>
   e=.returned (.tuple #[tokV (Doc.tok s a),.int .i64 (Doc.tokEnd s a:Int)])∧Below w.heap.size w w':=by
 have hl:=rest_cons s a ha
 have hlen:=rest_len s a
 have hlen1:=rest_len s (a+1)
 have e45:=u8_int s[a] 45 (by omega)
 have e34:=u8_int s[a] 34 (by omega)
 have f45:(s[a]==45)=((s[a].toNat:Int)==45):=e45
 have f34:(s[a]==34)=((s[a].toNat:Int)==34):=e34
 by_cases h1:(97:Int)≤(s[a].toNat:Int)∧(s[a].toNat:Int)≤122
 ·have hL:Doc.isLetter s[a]=true:=by simp[Doc.isLetter,UInt8.le_iff_toNat_le];omega
  have hr:=Doc.run_le 97 122 (Doc.rest s a)
  by_cases h8:Doc.run 97 122 (Doc.rest s a)≤8
  ·have hx:Doc.lex (Doc.rest s a)=(119,Doc.run 97 122 (Doc.rest s a)):=by
    rw[hl] at h8 ⊢;simp only[Doc.lex,hL,if_true];rw[if_pos h8]
   rw[←(tok_word hx).1,←(tok_word hx).2]
   exact one_word s a _ w hs ha rfl (by omega) h1.1 h1.2 h8
  ·have hx:Doc.lex (Doc.rest s a)=(120,0):=by
    rw[hl] at h8 ⊢;simp only[Doc.lex,hL,if_true];rw[if_neg h8]
   rw[←(tok_bad hx).1,←(tok_bad hx).2]
   exact one_long s a _ w hs ha rfl (by omega) h1.1 h1.2 (by omega)
 have hL:Doc.isLetter s[a]=false:=by
  rw[Bool.eq_false_iff];simp[Doc.isLetter,UInt8.le_iff_toNat_le];omega
 by_cases h2:(s[a].toNat:Int)=45
 ·have g45:(s[a]==45)=true:=by rw[f45];simpa using h2
  have hr:=Doc.run_le 48 57 (Doc.rest s (a+1))
  by_cases h7:Doc.run 48 57 (Doc.rest s (a+1))≠0∧Doc.run 48 57 (Doc.rest s (a+1))≤7
  ·have hx:Doc.lex (Doc.rest s a)=(110,Doc.run 48 57 (Doc.rest s (a+1))+1):=by
    rw[hl];simp only[Doc.lex,hL,g45,if_true];rw[if_pos h7];simp
   have hd:∀c∈(s.extract (a+1) (a+1+Doc.run 48 57 (Doc.rest s (a+1)))).data.toList,(48:UInt8)≤c∧c≤57:=by
    rw[extract_rest];exact Doc.run_all 48 57 _
   have hz:(s.extract (a+1) (a+1+Doc.run 48 57 (Doc.rest s (a+1)))).size=Doc.run 48 57 (Doc.rest s (a+1)):=by simp;omega
   have hn:Doc.signed ((Doc.rest s a).take (Doc.run 48 57 (Doc.rest s (a+1))+1))= -((Doc.num (s.extract (a+1) (a+1+Doc.run 48 57 (Doc.rest s (a+1)))).data.toList:Nat):Int):=by
    rw[extract_rest,hl,List.take_succ_cons]
    exact Doc.signed_minus g45
   have hb:=num_bound (s.extract (a+1) (a+1+Doc.run 48 57 (Doc.rest s (a+1)))) hd _ (Nat.le_refl _) (by omega)
   rw[List.take_of_length_le (by rw[Array.length_toList];exact Nat.le_refl _)] at hb
   rw[←(tok_num hx hn).1,←(tok_num hx hn).2,show a+(Doc.run 48 57 (Doc.rest s (a+1))+1)=a+1+Doc.run 48 57 (Doc.rest s (a+1)) by omega]
   exact one_minus s a _ w hs ha rfl (by omega) h2 (by omega) h7.2 hd hz _ rfl hb
  ·have hx:Doc.lex (Doc.rest s a)=(120,0):=by
    rw[hl];simp only[Doc.lex,hL,g45,if_true];rw[if_neg h7];simp
   rw[←(tok_bad hx).1,←(tok_bad hx).2]
   exact one_minus_bad s a _ w hs ha rfl (by omega) h2 (by omega)
 have g45:(s[a]==45)=false:=by rw[f45];simpa using h2
 by_cases h3:(48:Int)≤(s[a].toNat:Int)∧(s[a].toNat:Int)≤57
 ·have hD:Doc.isDigit s[a]=true:=by simp[Doc.isDigit,UInt8.le_iff_toNat_le];omega
  have hr:=Doc.run_le 48 57 (Doc.rest s a)
  have h0:0<Doc.run 48 57 (Doc.rest s a):=by
   have:=run_go s a 48 57 ha (by simpa using h3.1) (by simpa using h3.2)
   unfold Doc.rest;omega
  by_cases h7:Doc.run 48 57 (Doc.rest s a)≤7
  ·have hx:Doc.lex (Doc.rest s a)=(110,Doc.run 48 57 (Doc.rest s a)):=by
    rw[hl] at h7 ⊢;simp only[Doc.lex,hL,g45,hD,if_true];rw[if_pos h7];simp
   have hd:∀c∈(s.extract a (a+Doc.run 48 57 (Doc.rest s a))).data.toList,(48:UInt8)≤c∧c≤57:=by
    rw[extract_rest];exact Doc.run_all 48 57 _
   have hz:(s.extract a (a+Doc.run 48 57 (Doc.rest s a))).size=Doc.run 48 57 (Doc.rest s a):=by simp;omega
   have hn:Doc.signed ((Doc.rest s a).take (Doc.run 48 57 (Doc.rest s a)))=((Doc.num (s.extract a (a+Doc.run 48 57 (Doc.rest s a))).data.toList:Nat):Int):=by
    rw[extract_rest]
    generalize Doc.run 48 57 (Doc.rest s a)=r at *
    obtain⟨r,rfl⟩:∃q,r=q+1:=⟨r-1,by omega⟩
    rw[hl,List.take_succ_cons]
    exact Doc.signed_plain g45
   rw[←(tok_num hx hn).1,←(tok_num hx hn).2]
   exact one_digits s a _ w hs ha rfl (by omega) h3.1 h3.2 h0 h7 hd hz _ rfl
  ·have hx:Doc.lex (Doc.rest s a)=(120,0):=by
    rw[hl] at h7 ⊢;simp only[Doc.lex,hL,g45,hD,if_true];rw[if_neg h7];simp
   rw[←(tok_bad hx).1,←(tok_bad hx).2]
   exact one_digits_bad s a _ w hs ha rfl (by omega) h3.1 h3.2 (by omega)
 have hD:Doc.isDigit s[a]=false:=by
  rw[Bool.eq_false_iff];simp[Doc.isDigit,UInt8.le_iff_toNat_le];omega
 by_cases h4:(s[a].toNat:Int)=34
 ·have g34:(s[a]==34)=true:=by rw[f34];simpa using h4
  have hr:=Doc.inside_le (Doc.rest s (a+1))
  by_cases h12:Doc.inside (Doc.rest s (a+1))<(Doc.rest s (a+1)).length∧Doc.inside (Doc.rest s (a+1))≤12
  ·have hx:Doc.lex (Doc.rest s a)=(115,Doc.inside (Doc.rest s (a+1))+2):=by
    rw[hl];simp only[Doc.lex,hL,g45,hD,g34,if_true];rw[if_pos h12];simp
   rw[←(tok_str hx).1,←(tok_str hx).2]
   exact one_quote s a _ w hs ha rfl h4 h12.2 (by omega)
  ·have hx:Doc.lex (Doc.rest s a)=(120,0):=by
    rw[hl];simp only[Doc.lex,hL,g45,hD,g34,if_true];rw[if_neg h12];simp
   rw[←(tok_bad hx).1,←(tok_bad hx).2]
   by_cases he:a+1+Doc.inside (Doc.rest s (a+1))=s.size
   ·exact one_quote_open s a _ w hs ha rfl h4 he
   ·exact one_quote_long s a _ w hs ha rfl h4 (by omega) (by omega)
 have g34:(s[a]==34)=false:=by rw[f34];simpa using h4
 by_cases hT:Doc.twoSign (Doc.rest s a)=true
 ·have hx:Doc.lex (Doc.rest s a)=(103,2):=by
   rw[hl] at hT ⊢;simp[Doc.lex,hL,g45,hD,g34,hT]
  rw[←(tok_sign hx).1,←(tok_sign hx).2]
  have hlong:∀c:UInt8,(Doc.rest s a).take 2=[c,61]→a+1<s.size∧(s[a].toNat:Int)=(c.toNat:Int):=by
   intro c hc
   have h5:=congrArg List.length hc
   rw[List.length_take,rest_len] at h5
   simp only[List.length_cons,List.length_nil] at h5
   rw[hl,List.take_succ_cons,List.cons.injEq] at hc
   exact⟨by omega,by rw[hc.1]⟩
  have h6:(Doc.rest s a).take 2=[33,61]∨(Doc.rest s a).take 2=[60,61]∨(Doc.rest s a).take 2=[62,61]:=by
   simp only[Doc.twoSign,Bool.or_eq_true,beq_iff_eq] at hT
   rcases hT with(h|h)|h
   ·exact .inl h
   ·exact .inr (.inl h)
   ·exact .inr (.inr h)
  rcases h6 with h|h|h
  ·exact one_bang s a w hs (hlong _ h).1 (hlong _ h).2 h
  ·exact one_less s a w hs (hlong _ h).1 (hlong _ h).2 h
  ·exact one_more s a w hs (hlong _ h).1 (hlong _ h).2 h
 have hT':Doc.twoSign (Doc.rest s a)=false:=by simpa using hT
 have g:(((Doc.rest s a).take 2==[33,61])=false∧((Doc.rest s a).take 2==[60,61])=false)∧((Doc.rest s a).take 2==[62,61])=false:=by
  simpa only[Doc.twoSign,Bool.or_eq_false_iff] using hT'
 have k61:(s[a]==61)=((s[a].toNat:Int)==61):=u8_int s[a] 61 (by omega)
 have k60:(s[a]==60)=((s[a].toNat:Int)==60):=u8_int s[a] 60 (by omega)
 have k62:(s[a]==62)=((s[a].toNat:Int)==62):=u8_int s[a] 62 (by omega)
 have k40:(s[a]==40)=((s[a].toNat:Int)==40):=u8_int s[a] 40 (by omega)
 have k41:(s[a]==41)=((s[a].toNat:Int)==41):=u8_int s[a] 41 (by omega)
 have k44:(s[a]==44)=((s[a].toNat:Int)==44):=u8_int s[a] 44 (by omega)
 by_cases hO:Doc.oneSign s[a]=true
 ·have hx:Doc.lex (Doc.rest s a)=(103,1):=by
   rw[hl] at hT' ⊢;simp[Doc.lex,hL,g45,hD,g34,hT',hO]
  rw[←(tok_sign hx).1,←(tok_sign hx).2]
  refine one_sign s a w hs ha _ rfl ?_ g.1.1 g.1.2 g.2
  simp only[Doc.oneSign,k61,k60,k62,k40,k41,k44,Bool.or_eq_true,beq_iff_eq] at hO
  omega
 ·have hO':Doc.oneSign s[a]=false:=by simpa using hO
  have hx:Doc.lex (Doc.rest s a)=(120,0):=by
   rw[hl] at hT' ⊢;simp[Doc.lex,hL,g45,hD,g34,hT',hO']
  rw[←(tok_bad hx).1,←(tok_bad hx).2]
  simp only[Doc.oneSign,k61,k60,k62,k40,k41,k44,Bool.or_eq_false_iff] at hO'
  exact one_wrong s a w hs ha (by omega) (by rw[←f45];exact g45) (by rw[←f34];exact g34) hO'.1.1.1.1.1 hO'.1.1.1.1.2 hO'.1.1.1.2 hO'.1.1.2 hO'.1.2 hO'.2 g.1.1 g.1.2 g.2
theorem Tryz.infoTok:(Tryz.prog.info? 175).map (fun i=>(i.zero,i.size,i.bytes))=some (some (.agg #[.int .u8 0,.string ⟨#[]⟩,.int .i64 0,.int .i64 0]),4,40):=by kernel_rfl
def toksC (l:List Doc.Tok):List Value:=l.flatMap tokC
theorem past_here (s:ByteArray)(k:Nat)(h:k<s.size)(e:((s[k].toNat:Int)==32)=false):Doc.past s k=k:=by
 have:=run_halt s k 32 32 h (by rw[beq_eq_false_iff_ne] at e;simp;omega)
 unfold Doc.past Doc.rest;omega
theorem past_stop (s:ByteArray)(k:Nat)(h:s.size≤k):Doc.past s k=k:=by
 have:=run_stop s k 32 32 h
 unfold Doc.past Doc.rest;omega
theorem past_on (s:ByteArray)(k:Nat)(h:k<s.size)(e:((s[k].toNat:Int)==32)=true):Doc.past s k=Doc.past s (k+1):=by
 rw[beq_iff_eq] at e
 have:=run_go s k 32 32 h (by simp;omega) (by simp;omega)
 unfold Doc.past Doc.rest;omega
theorem ownsRow_below {wr w1:World}{B:Nat}{e:TypeId}{size:Nat}{v:Value}{n:Nat}{xs:List Value}(h:wr.ownsRow B e size v n xs)(hb:Below wr.heap.size wr w1):w1.ownsRow B e size v n xs:=by
 obtain⟨h1,h2⟩:=h
 refine⟨h1,?_⟩
 rcases h2 with h2|⟨g,cap,cur,hv,hg,hh,r⟩
 ·exact .inl h2
 ·refine .inr ⟨g,cap,cur,hv,hg,?_,r⟩
  have:g<wr.heap.size:=by
   rcases Nat.lt_or_ge g wr.heap.size with h|h
   ·exact h
   ·rw[Array.getElem?_eq_none h] at hh;exact absurd hh (by simp)
  rw[hb.block g this];exact hh
theorem one_tok (s:ByteArray)(a:Nat)(w:World)(hs:s.size≤200)(ha:a<s.size):
  Calls Tryz.prog 131 #[.string s,.int .i64 a] w fun e w'=>∃(t:Doc.Tok) (n:Nat),Hid (t=Doc.tok s a∧n=Doc.tokEnd s a)∧
   e=.returned (.tuple #[.agg #[.int .u8 t.kind.toNat,.string t.S,.int .i64 t.N,.int .i64 t.at_],.int .i64 (n:Int)])∧Below w.heap.size w w':=
 (one_any s a w hs ha).mono fun _ _ h=>⟨_,_,⟨rfl,rfl⟩,h.1,h.2⟩
theorem cells_new (W:World)(xs:List Value)(T:TypeId)(n:Nat)(hn:W.heap.size=n)(j:Nat)(u:Value)(hj:xs[j]? =some u):(W.alloc (.cells xs.toArray T)).cell? ((⟨n,0,none⟩:Addr).add j)=some u:=by
 subst hn
 by_cases h:j=0
 ·subst h;simp[Addr.add,hj]
 ·simp[Addr.add,h,hj]
theorem tokC_one (t:Doc.Tok):∀u∈tokC t,u.oneCell'=true:=by
 intro u hu
 simp only[tokC,List.mem_cons,List.not_mem_nil,or_false] at hu
 rcases hu with rfl|rfl|rfl|rfl<;>rfl
theorem toksC_snoc (l:List Doc.Tok)(t:Doc.Tok):toksC (l++[t])=toksC l++tokC t:=by simp[toksC]
theorem len_snoc {α:Type}(l:List α)(a:α):(l++[a]).length=l.length+1:=by simp
set_option maxHeartbeats 1000000 in
theorem tokens_any (s:ByteArray)(w:World)(hs:s.size≤200):
  Calls Tryz.prog 82 #[.string s] w fun e w'=>∃v,e=.returned v∧w'.ownsRow w.heap.size 175 4 v (Doc.toks s 0).length (toksC (Doc.toks s 0))∧Below w.heap.size w w':=by
 obtain⟨i0,hi,hz0,hz1,hz2⟩:=info_parts Tryz.infoTok
 have HL:Hid ((Doc.toks s 0).length≤s.size+1):=Doc.toks_len s s.size 0 (Nat.zero_le _) (by omega)
 go_enter Tryz.func82,Tryz.ntmps82
 go_wp2_with fail
 go_loopw [3,4] (fun v i wr=>∃(k:Nat) (done:List Doc.Tok),k≤s.size∧i=.int .i64 k∧wr.ownsRow w.heap.size 175 4 v done.length (toksC done)∧Below w.heap.size w wr∧Hid (Doc.toks s 0=done++Doc.toks s k))
  (fun _ i _=>s.size-(intOf i).toNat)
 case atStart=>exact⟨0,[],Nat.zero_le _,rfl,World.ownsRow_nil _ _ _ _,Below.refl _ _,by show _=_;rfl⟩
 case round=>
  obtain⟨k,done,hk,rfl,hown,hbel,H⟩:=hrel
  have hdone:done.length≤201:=by
   have h1:=congrArg List.length H.out
   rw[List.length_append] at h1
   have h2:=HL.out
   omega
  go_wp2_with fail
  go_loop [4] (fun i=>∃j:Nat,k≤j∧j≤s.size∧i=.int .i64 j∧Hid (Doc.past s j=Doc.past s k)) (fun i=>s.size-(intOf i).toNat)
  case atStart=>exact⟨k,Nat.le_refl _,hk,rfl,by show _=_;rfl⟩
  case round=>
   obtain⟨j,hkj,hj,rfl,HJ⟩:=hrel
   by_cases hlt:j<s.size
   ·by_cases he:((s[j].toNat:Int)==32)=true
    ·have HJ2:Hid (Doc.past s (j+1)=Doc.past s k):=(past_on s j hlt he).symm.trans HJ.out
     clear HJ
     go_wp2_with fail
     go_round
     case rel=>exact⟨j+1,by omega,by omega,by go_num,HJ2⟩
     case measure=>simp[intOf];omega
    ·have he:((s[j].toNat:Int)==32)=false:=by simpa using he
     have HP:Hid (Doc.past s k=j):=HJ.out.symm.trans (past_here s j hlt he)
     have hne:((j:Int)==(s.size:Int))=false:=by rw[beq_eq_false_iff_ne];omega
     clear HJ
     go_wp2_with (first|(go_at_call 131;refine(one_tok s j _ hs hlt).mono ?_;rintro e w1 ⟨t,n,HT,rfl,hb1⟩)|(at_builtin;refine wpList_append_own _ rfl (.tmp 34) (.tmp 36) 133 rfl w.heap.size 175 i0 _ 4 40 Tryz.underlying133 hi hz0 hz1 hz2 rfl (by decide) _ _ _ rfl (((ownsRow_below hown hb1).alloc _).alloc _) ⟨w1.heap.size+1,0,none⟩ 1 1 (tokC t) rfl rfl ?c1 (tokC_one t) ?c3 ?c4 ?c5 ?_))
     case c1=>exact fun j u hj=>cells_new _ (tokC t) _ _ (by simp) j u hj
     case c3=>unfold maxLen;omega
     case c4=>omega
     case c5=>have:=hbel.size;have:=hb1.size;simp;omega
     intro v2 w2 hown2 hgrow2 _
     rw[←toksC_snoc,←len_snoc done t] at hown2
     have hb0:Below w.heap.size w w1:=hbel.trans (hb1.mono hbel.size)
     have hs1:w.heap.size≤w1.heap.size:=by have:=hbel.size;have:=hb1.size;omega
     have hb2:Below w.heap.size w w2:=((hb0.alloc hs1 _).alloc (by simp;omega) _).grown hgrow2 (by simp;omega) (fun k hk=>(hown.lt k hk).1)
     have hcell:w2.cell? ⟨w1.heap.size,0,none⟩=some (.int .u8 t.kind.toNat):=hgrow2.cell (by simp) (fun h=>by have:=(hown.lt w1.heap.size h.symm).2;have:=hb1.size;omega)
     clear hgrow2 hown hb0 hb1 hbel
     by_cases hx:t.kind=120
     ·have hx1:((t.kind.toNat:Int)==120)=true:=by rw[hx];rfl
      have HE:Hid (done++[t]=Doc.toks s 0):=by
       have h1:=H.out
       have h2:=HT.out
       rw[Doc.toks_wrong hk (by rw[HP.out];omega) (by rw[HP.out,←h2.1];exact hx),HP.out,←h2.1] at h1
       exact h1.symm
      rw[HE.out] at hown2
      clear hx
      go_wp2_with fail
      go_ret
      exact⟨_,rfl,hown2,hb2⟩
     ·have hx1:((t.kind.toNat:Int)==120)=false:=by
       rw[beq_eq_false_iff_ne];intro h;apply hx;apply UInt8.toNat_inj.1;show _=120;omega
      have HE:Hid (Doc.toks s 0=(done++[t])++Doc.toks s n):=by
       have h1:=H.out
       have h2:=HT.out
       rw[Doc.toks_next hk (by rw[HP.out];omega) (by rw[HP.out,←h2.1];exact hx),HP.out,←h2.1,←h2.2] at h1
       show _=_
       rw[h1];simp
      have hn:j<n∧n≤s.size:=by
       have h2:=HT.out
       rw[h2.2];exact Doc.tokEnd_lt hlt
      clear hx
      go_wp2_with fail
      go_roundw
      case rel=>exact⟨n,done++[t],hn.2,rfl,hown2,hb2,HE⟩
      case measure=>simp[intOf];omega
   ·have hjs:j=s.size:=by omega
    subst hjs
    have HP:Hid (Doc.past s k=s.size):=HJ.out.symm.trans (past_stop s _ (Nat.le_refl _))
    clear HJ
    go_wp2_with (at_builtin;refine wpList_append_own _ rfl (.tmp 23) (.tmp 26) 133 rfl w.heap.size 175 i0 _ 4 40 Tryz.underlying133 hi hz0 hz1 hz2 rfl (by decide) _ _ _ rfl (hown.alloc _) ⟨wr.heap.size,0,none⟩ 1 1 (tokC (Doc.endTok s)) rfl rfl ?c1 (tokC_one _) ?c3 ?c4 ?c5 ?_)
    case c1=>exact fun j u hj=>hj
    case c3=>unfold maxLen;omega
    case c4=>omega
    case c5=>have:=hbel.size;simp;omega
    intro v2 w2 hown2 hgrow2 _
    have HE:Hid (done++[Doc.endTok s]=Doc.toks s 0):=by
     have:=H.out;rw[Doc.toks_end hk HP.out] at this;exact this.symm
    rw[←toksC_snoc,←len_snoc done (Doc.endTok s),HE.out] at hown2
    have hb2:Below w.heap.size w w2:=(hbel.alloc hbel.size _).grown hgrow2 (by have:=hbel.size;simp;omega) (fun k hk=>(hown.lt k hk).1)
    clear hgrow2 hown
    go_wp2_with fail
    go_ret
    exact⟨_,rfl,hown2,hb2⟩
structure NodeR where
 kind:UInt8
 A:Int
 B:Int
 name:Doc.Tok
 ask:Doc.Tok
 lits:Value
def nodeC (n:NodeR):List Value:=[.int .u8 n.kind.toNat,.int .i64 n.A,.int .i64 n.B]++tokC n.name++tokC n.ask++[n.lits]
def nodesC (l:List NodeR):List Value:=l.flatMap nodeC
structure RSt (B:Nat)(w:World)(fb:Nat)(Lv:Value)(L:List Doc.Tok)(at_ op:Nat)(Nv:Value)(nodes:List NodeR)(E place:Nat):Prop where
 blk:w.heap[fb]? =some (.cells #[Lv,.int .i64 at_,.int .i64 op,Nv,.int .i64 E,.int .i64 place] 136 (0,0))
 ltok:w.ownsRow B 175 4 Lv L.length (toksC L)
 nds:w.ownsRow B 178 12 Nv nodes.length (nodesC nodes)
 base:B≤fb
structure Step (B:Nat)(w w':World):Prop where
 below:Below B w w'
 toks:∀(k:Nat) (cur:Array Value),w.heap[k]? =some (.cells cur 175 (0,0))→w'.heap[k]? =w.heap[k]?
theorem Step.refl (B:Nat)(w:World):Step B w w:=⟨Below.refl _ _,fun _ _ _=>rfl⟩
theorem Step.trans {B:Nat}{a b c:World}(h:Step B a b)(k:Step B b c):Step B a c:=
 ⟨h.below.trans k.below,fun i cur hi=>by have h1:=h.toks i cur hi;rw[k.toks i cur (h1.trans hi),h1]⟩
theorem lt_block {w:World}{k:Nat}{o:Obj}(h:w.heap[k]? =some o):k<w.heap.size:=by
 rcases Nat.lt_or_ge k w.heap.size with h'|h'
 ·exact h'
 ·rw[Array.getElem?_eq_none h'] at h;exact absurd h (by simp)
theorem Step.ofBelow {B:Nat}{w w':World}(h:Below w.heap.size w w')(hB:B≤w.heap.size):Step B w w':=
 ⟨h.mono hB,fun k _ hk=>h.block k (lt_block hk)⟩
theorem Step.alloc {B:Nat}{a w:World}(h:Step B a w)(hB:B≤w.heap.size)(o:Obj):Step B a (w.alloc o):=
 h.trans ⟨(Below.refl _ _).alloc hB o,fun _ _ hk=>Below.heap_alloc _ _ _ (lt_block hk)⟩
theorem Step.drew {B:Nat}{a w:World}(h:Step B a w):Step B a w.drew:=⟨h.below.drew,h.toks⟩
theorem Step.setCell {B:Nat}{a w:World}(h:Step B a w){p:Addr}(hp:B≤p.block)(u:Value){cs:Array Value}{T:TypeId}(hb:w.heap[p.block]? =some (.cells cs T (0,0)))(hT:T≠175):Step B a (w.setCell p u):=
 h.trans ⟨(Below.refl _ _).setCell hp u,fun k cur hk=>Below.heap_setCell _ _ _ _ (by
   rintro rfl;rw[hb] at hk;simp at hk;exact hT hk.2)⟩
theorem Step.grown {B:Nat}{a w w':World}{row:Option Nat}(h:Step B a w)(hg:w.grownBy w' row)(hB:B≤w.heap.size)(hr:∀k,row=some k→B≤k∧∃cs T,w.heap[k]? =some (.cells cs T (0,0))∧T≠175):Step B a w':=
 h.trans ⟨(Below.refl _ _).grown hg hB (fun k e=>(hr k e).1),fun k cur hk=>hg.block k (lt_block hk) (fun e=>by
   obtain⟨_,cs,T,h1,h2⟩:=hr k e.symm
   rw[h1] at hk;simp at hk;exact h2 hk.2)⟩
structure Mv (B fb:Nat)(w w':World):Prop where
 step:Step B w w'
 only:∀k,k<w.heap.size→k≠fb→w'.heap[k]? =w.heap[k]?
theorem Mv.refl (B fb:Nat)(w:World):Mv B fb w w:=⟨Step.refl _ _,fun _ _ _=>rfl⟩
theorem Mv.trans {B fb:Nat}{a b c:World}(h:Mv B fb a b)(k:Mv B fb b c):Mv B fb a c:=
 ⟨h.step.trans k.step,fun i hi hf=>(k.only i (Nat.lt_of_lt_of_le hi h.step.below.size) hf).trans (h.only i hi hf)⟩
theorem Mv.ofBelow {B fb:Nat}{w w':World}(h:Below w.heap.size w w')(hB:B≤w.heap.size):Mv B fb w w':=⟨Step.ofBelow h hB,fun k hk _=>h.block k hk⟩
theorem Mv.alloc {B fb:Nat}{a w:World}(h:Mv B fb a w)(hB:B≤w.heap.size)(o:Obj):Mv B fb a (w.alloc o):=
 h.trans (Mv.ofBelow ((Below.refl _ _).alloc (Nat.le_refl _) o) hB)
theorem Mv.drew {B fb:Nat}{a w:World}(h:Mv B fb a w):Mv B fb a w.drew:=⟨h.step.drew,h.only⟩
theorem Mv.blk {B fb:Nat}{w w':World}(h:Mv B fb w w'){k:Nat}{o:Obj}(hk:w.heap[k]? =some o)(hf:k≠fb):w'.heap[k]? =some o:=(h.only k (lt_block hk) hf).trans hk
theorem ownsRow_step {B B':Nat}{w w':World}{v:Value}{n size:Nat}{xs:List Value}(h:w.ownsRow B' 175 size v n xs)(hs:Step B w w'):w'.ownsRow B' 175 size v n xs:=by
 obtain⟨h1,h2⟩:=h
 refine⟨h1,?_⟩
 rcases h2 with h2|⟨g,cap,cur,hv,hg,hh,r⟩
 ·exact .inl h2
 ·exact .inr ⟨g,cap,cur,hv,hg,(hs.toks g cur hh).trans hh,r⟩
theorem RSt.lt {B:Nat}{w:World}{fb:Nat}{Lv:Value}{L:List Doc.Tok}{at_ op:Nat}{Nv:Value}{nodes:List NodeR}{E place:Nat}(h:RSt B w fb Lv L at_ op Nv nodes E place):fb<w.heap.size:=lt_block h.blk
theorem RSt.below {B:Nat}{w w':World}{fb:Nat}{Lv:Value}{L:List Doc.Tok}{at_ op:Nat}{Nv:Value}{nodes:List NodeR}{E place:Nat}(h:RSt B w fb Lv L at_ op Nv nodes E place)(hb:Below w.heap.size w w'):RSt B w' fb Lv L at_ op Nv nodes E place:=
 ⟨(hb.block fb h.lt).trans h.blk,ownsRow_below h.ltok hb,ownsRow_below h.nds hb,h.base⟩
theorem blk_cell {w:World}{b:Nat}{cs:Array Value}{T:TypeId}(h:w.heap[b]? =some (.cells cs T (0,0)))(i:Nat)(v:Value)(hv:cs[i]? =some v):w.cell? ⟨b,i,none⟩=some v:=by
 simp[World.cell?,h,hv]
theorem blk_free {w:World}{b:Nat}{cs:Array Value}{T:TypeId}(h:w.heap[b]? =some (.cells cs T (0,0)))(i:Nat):w.frozen? ⟨b,i,none⟩=false:=by
 simp[World.frozen?,h]
theorem toksC_at (l:List Doc.Tok):∀(k:Nat) (h:k<l.length) (i:Nat),i<4→(toksC l)[k*4+i]? =(tokC l[k])[i]? :=by
 induction l with
 |nil=>intro k h;simp at h
 |cons t l ih=>
  intro k h i hi
  have hl:(tokC t).length=4:=rfl
  cases k with
  |zero=>
   show(tokC t++toksC l)[0*4+i]? =_
   rw[List.getElem?_append_left (by omega)];simp
  |succ k=>
   show(tokC t++toksC l)[(k+1)*4+i]? =_
   rw[List.getElem?_append_right (by omega),hl,show(k+1)*4+i-4=k*4+i by omega,ih k (by simpa using h) i hi];rfl
theorem tok_cells {w:World}{B:Nat}{v:Value}{l:List Doc.Tok}(h:w.ownsRow B 175 4 v l.length (toksC l))(k:Nat)(hk:k<l.length):
  ∃g cap,v=.slice (some ⟨g,0,none⟩) l.length cap∧l.length≤cap∧g<w.heap.size∧(∃cur,w.heap[g]? =some (.cells cur 175 (0,0)))∧∀i,i<4→w.cell? ⟨g,k*4+i,none⟩=(tokC l[k])[i]? :=by
 obtain⟨_,h2⟩:=h
 rcases h2 with⟨_,h0⟩|⟨g,cap,cur,hv,hg,hh,hc1,hc2,hc3,hc4⟩
 ·omega
 ·refine⟨g,cap,hv,hc1,?_,⟨cur,hh⟩,fun i hi=>?_⟩
  ·rcases Nat.lt_or_ge g w.heap.size with h|h
   ·exact h
   ·rw[Array.getElem?_eq_none h] at hh;exact absurd hh (by simp)
  ·rw[←toksC_at l k hk i hi,←hc4,List.getElem?_take]
   rw[if_pos (by omega)]
   simp[World.cell?,hh]
set_option maxHeartbeats 1000000 in
theorem now_core (w:World)(fb g at_ n cap:Nat)(t0:UInt8)(t1:ByteArray)(t2 t3:Int)
  (c0:w.cell? ⟨fb,0,none⟩=some (.slice (some ⟨g,0,none⟩) n cap)) (c1:w.cell? ⟨fb,1,none⟩=some (.int .i64 at_)) (hn:at_<n) (_hnb:n≤300) (_hcap:n≤cap)
  (d0:w.cell? ⟨g,at_ *4,none⟩=some (.int .u8 t0.toNat)) (d1:w.cell? ⟨g,at_ *4+1,none⟩=some (.string t1)) (d2:w.cell? ⟨g,at_ *4+2,none⟩=some (.int .i64 t2)) (d3:w.cell? ⟨g,at_ *4+3,none⟩=some (.int .i64 t3)) (hf:fb<w.heap.size) (hg:g<w.heap.size):
  Calls Tryz.prog 84 #[.pointer (some ⟨fb,0,none⟩)] w fun e w'=>e=.returned (.agg #[.int .u8 t0.toNat,.string t1,.int .i64 t2,.int .i64 t3])∧Below w.heap.size w w':=by
 go_enter Tryz.func84,Tryz.ntmps84
 go_wp2
 go_region
 all_goals (try go_wp2)
 exact bodyPost_ret (v:=.agg #[.int .u8 t0.toNat,.string t1,.int .i64 t2,.int .i64 t3]) (by simp[results,Tryz.results84,go_sem]) rfl ⟨rfl,((Below.refl _ _).alloc (Nat.le_refl _) _).drew⟩
theorem now_st {B:Nat}{w:World}{fb:Nat}{Lv:Value}{L:List Doc.Tok}{at_ op:Nat}{Nv:Value}{nodes:List NodeR}{E place:Nat}(h:RSt B w fb Lv L at_ op Nv nodes E place)(hat:at_<L.length)(hL:L.length≤300)(t:Doc.Tok)(ht:L[at_]=t):
  Calls Tryz.prog 84 #[.pointer (some ⟨fb,0,none⟩)] w fun e w'=>e=.returned (.agg #[.int .u8 t.kind.toNat,.string t.S,.int .i64 t.N,.int .i64 t.at_])∧Below w.heap.size w w':=by
 obtain⟨g,cap,hv,hcap,hg,_,hc⟩:=tok_cells h.ltok at_ hat
 rw[ht] at hc
 refine now_core w fb g at_ L.length cap t.kind t.S t.N t.at_ ?_ (blk_cell h.blk 1 _ rfl) hat hL hcap (hc 0 (by omega)) (hc 1 (by omega)) (hc 2 (by omega)) (hc 3 (by omega)) h.lt hg
 rw[←hv];exact blk_cell h.blk 0 _ rfl
end Go.Proofs.YtbnelaoeblhndaaGreatDoor
