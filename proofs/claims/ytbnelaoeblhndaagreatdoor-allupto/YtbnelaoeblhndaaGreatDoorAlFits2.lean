import Derived.Test.YtbnelaoeblhndaaGreatDoorAlFits1
import Derived.Test.YtbnelaoeblhndaaGreatDoorAlRef2
namespace Go.Proofs.YtbnelaoeblhndaaGreatDoor
open Go.RowKit
set_option maxRecDepth 100000
namespace Doc
theorem toks_asc (s:ByteArray):∀n a,a≤s.size→s.size-a≤n→(toks s a).Pairwise (fun t u=>t.at_<u.at_)∧∀t∈toks s a,a≤t.at_∧t.at_≤s.size:=by
 intro n
 induction n with
 |zero=>
  intro a ha hn
  have h5:=past_le ha
  rw[toks_end ha (by omega)]
  refine⟨by simp,fun t ht=>?_⟩
  rw[List.mem_singleton] at ht;rw[ht]
  exact⟨ha,Nat.le_refl _⟩
 |succ n ih=>
  intro a ha hn
  have h5:=past_le ha
  by_cases hp:past s a=s.size
  ·rw[toks_end ha hp]
   refine⟨by simp,fun t ht=>?_⟩
   rw[List.mem_singleton] at ht;rw[ht]
   exact⟨ha,Nat.le_refl _⟩
  ·have h7:a≤past s a∧past s a<s.size:=by omega
   by_cases hk:(tok s (past s a)).kind=120
   ·rw[toks_wrong ha hp hk]
    refine⟨by simp,fun t ht=>?_⟩
    rw[List.mem_singleton] at ht;rw[ht]
    exact⟨h7.1,by show past s a≤s.size;omega⟩
   ·have h6:=tokEnd_lt (s:=s) (a:=past s a) (by omega)
    obtain⟨i1,i2⟩:=ih (tokEnd s (past s a)) h6.2 (by omega)
    rw[toks_next ha hp hk]
    refine⟨List.pairwise_cons.2 ⟨fun t ht=>?_,i1⟩,fun t ht=>?_⟩
    ·have:=(i2 t ht).1
     show past s a<t.at_
     omega
    ·rcases List.mem_cons.1 ht with rfl|ht
     ·exact⟨h7.1,by show past s a≤s.size;omega⟩
     ·have:=i2 t ht;omega
theorem tk_asc (s:ByteArray){i j:Nat}(hij:i<j)(hj:j<(toks s 0).length):(tk (toks s 0) i).at_<(tk (toks s 0) j).at_:=by
 rw[←tk_eq (by omega:i<(toks s 0).length),←tk_eq hj]
 exact List.pairwise_iff_getElem.1 (toks_asc s s.size 0 (Nat.zero_le _) (by omega)).1 i j (by omega) hj hij
theorem tk_small (s:ByteArray){i:Nat}(hi:i<(toks s 0).length):(tk (toks s 0) i).at_≤s.size:=by
 rw[←tk_eq hi]
 exact((toks_asc s s.size 0 (Nat.zero_le _) (by omega)).2 _ (List.getElem_mem hi)).2
def wrT (fs:List Fld)(n o:Tok)(l:List Tok):List (Int×Int):=
 match idxF fs n.S with
 |none=>[(2,(n.at_:Int))]
 |some k=>match fs[k]? with
  |none=>[]
  |some f=>(bif (o.S.toList==[108,105,107,101]) && (f.kind != 2) then [(3,(o.at_:Int))] else [])++(l.filter fun t=>(t.kind==115) != (f.kind==2)).map fun t=>(3,(t.at_:Int))
def upd (st x:Int×Int):Int×Int:=bif decide (x.2<st.2) then x else st
theorem fit_lits (kd:Int):∀(l:List Tok) (st:Int×Int),l.foldl (fitLit kd) st=((l.filter fun t=>(t.kind==115) != (kd==2)).map fun t=>(3,(t.at_:Int))).foldl upd st
 | [],_=>rfl
 |t::l,st=>by
  rw[List.foldl_cons,fit_lits kd l]
  cases h:((t.kind==115) != (kd==2))
  ·rw[List.filter_cons_of_neg (p:=fun t:Tok=>(t.kind==115) != (kd==2)) (by rw[h];exact Bool.false_ne_true)]
   congr 1
   unfold fitLit
   rw[h]
   rfl
  ·rw[List.filter_cons_of_pos (p:=fun t:Tok=>(t.kind==115) != (kd==2)) h,List.map_cons,List.foldl_cons]
   congr 1
   unfold fitLit upd
   rw[h]
   rfl
theorem fit_wr (fs:List Fld)(st:Int×Int)(n o:Tok)(l:List Tok):fitT fs st n o l=(wrT fs n o l).foldl upd st:=by
 unfold fitT wrT
 cases idxF fs n.S with
 |none=>rfl
 |some k=>
  dsimp only
  cases fs[k]? with
  |none=>rfl
  |some f=>
   dsimp only
   rw[fit_lits,List.foldl_append]
   congr 1
   unfold fitAsk
   cases h:((o.S.toList==[108,105,107,101]) && (f.kind != 2))
   ·rfl
   ·rfl
theorem upd_asc:∀(ws:List (Int×Int)) (st:Int×Int),(∀x∈ws,st.2≤x.2)→ws.foldl upd st=st
 | [],_,_=>rfl
 |x::ws,st,h=>by
  rw[List.foldl_cons]
  have h1:=h x List.mem_cons_self
  have h2:upd st x=st:=by unfold upd;rw[decide_eq_false (by omega)];rfl
  rw[h2]
  exact upd_asc ws st (fun y hy=>h y (List.mem_cons_of_mem _ hy))
theorem upd_first {ws:List (Int×Int)}(hp:ws.Pairwise (fun x y=>x.2<y.2))(hb:∀x∈ws,x.2<1000):ws.foldl upd (0,1000)=ws.headD (0,1000):=by
 cases ws with
 |nil=>rfl
 |cons x ws=>
  rw[List.foldl_cons]
  have h2:upd (0,1000) x=x:=by unfold upd;rw[decide_eq_true (hb x List.mem_cons_self)];rfl
  rw[h2]
  obtain⟨h3,_⟩:=List.pairwise_cons.1 hp
  exact upd_asc ws x (fun y hy=>by have:=h3 y hy;omega)
def wrs (fs:List Fld)(a:Ast):List (Int×Int):=(testsOf a).flatMap fun x=>wrT fs x.1 x.2.1 x.2.2
theorem fit_tests (fs:List Fld):∀(T:List (Option (Tok×Tok×List Tok))) (st:Int×Int),T.foldl (fitO fs) st=((T.filterMap id).flatMap fun x=>wrT fs x.1 x.2.1 x.2.2).foldl upd st
 | [],_=>rfl
 |none::T,st=>by rw[List.foldl_cons];exact fit_tests fs T st
 |some (n,o,l)::T,st=>by
  rw[List.foldl_cons,fit_tests fs T]
  simp only[List.filterMap_cons,id,List.flatMap_cons,List.foldl_append,fitO]
  rw[fit_wr]
def KindsOk (fs:List Fld):Prop:=∀f∈fs,f.kind=1∨f.kind=2
theorem litK_bad {kd:Int}(h:kd=1∨kd=2)(t:Tok):(litK t==kd)= !((t.kind==115) != (kd==2)):=by
 unfold litK
 rcases h with rfl|rfl
 ·cases hk:(t.kind==115)
  ·rw[if_neg (by simp)];rfl
  ·rw[if_pos rfl];rfl
 ·cases hk:(t.kind==115)
  ·rw[if_neg (by simp)];rfl
  ·rw[if_pos rfl];rfl
theorem litBad_head {kd:Int}(h:kd=1∨kd=2):∀l:List Tok,litBad kd l=((l.filter fun t=>(t.kind==115) != (kd==2)).map fun t=>(3,(t.at_:Int))).headD (0,0)
 | []=>rfl
 |t::l=>by
  unfold litBad
  rw[litK_bad h t,litBad_head h l]
  cases hb:((t.kind==115) != (kd==2))
  ·rw[List.filter_cons_of_neg (p:=fun t:Tok=>(t.kind==115) != (kd==2)) (by rw[hb];exact Bool.false_ne_true)]
   rfl
  ·rw[List.filter_cons_of_pos (p:=fun t:Tok=>(t.kind==115) != (kd==2)) hb]
   rfl
theorem wrT_err {fs:List Fld}{n o:Tok}{l:List Tok}:∀x∈wrT fs n o l,x.1≠0:=by
 intro x hx
 unfold wrT at hx
 cases hk:idxF fs n.S with
 |none=>rw[hk] at hx;rw[List.mem_singleton.1 hx];exact(by decide:(2:Int)≠0)
 |some k=>
  rw[hk] at hx
  dsimp only at hx
  cases hf:fs[k]? with
  |none=>rw[hf] at hx;cases hx
  |some f=>
   rw[hf] at hx
   dsimp only at hx
   rcases List.mem_append.1 hx with hx|hx
   ·cases hb:((o.S.toList==[108,105,107,101]) && (f.kind != 2))
    ·rw[hb] at hx;cases hx
    ·rw[hb] at hx;rw[List.mem_singleton.1 hx];exact(by decide:(3:Int)≠0)
   ·obtain⟨t,_,rfl⟩:=List.mem_map.1 hx
    exact(by decide:(3:Int)≠0)
theorem checkT_head {fs:List Fld}(hK:KindsOk fs)(n o:Tok)(l:List Tok):checkT fs n o l=(wrT fs n o l).headD (0,0):=by
 unfold checkT wrT
 cases hk:idxF fs n.S with
 |none=>rfl
 |some k=>
  dsimp only
  have hkl:=idxF_lt hk
  rw[List.getElem?_eq_getElem hkl]
  dsimp only
  rw[litBad_head (hK _ (List.getElem_mem hkl))]
  cases hb:((o.S.toList==[108,105,107,101]) && (fs[k].kind != 2))
  ·rfl
  ·rfl
theorem head_app {u v:List (Int×Int)}(hu:∀x∈u,x.1≠0):(u++v).headD (0,0)=bif (u.headD (0,0)).1==0 then v.headD (0,0) else u.headD (0,0):=by
 cases u with
 |nil=>rfl
 |cons x u=>
  have h1:=hu x List.mem_cons_self
  have h2:(x.1==0)=false:=by simp[h1]
  show x=bif x.1==0 then v.headD (0,0) else x
  rw[h2]
  rfl
theorem wrs_err {fs:List Fld}{a:Ast}:∀x∈wrs fs a,x.1≠0:=by
 intro x hx
 unfold wrs at hx
 obtain⟨y,_,hy⟩:=List.mem_flatMap.1 hx
 exact wrT_err x hy
theorem check_head {fs:List Fld}(hK:KindsOk fs):∀a:Ast,check fs a=(wrs fs a).headD (0,0)
 | .test n o l=>by
   show checkT fs n o l=_
   rw[checkT_head hK]
   unfold wrs testsOf
   simp
 | .not a=>check_head hK a
 | .and a b=>by
   have h:wrs fs (.and a b)=wrs fs a++wrs fs b:=by unfold wrs;rw[testsOf,List.flatMap_append]
   rw[h,head_app wrs_err,←check_head hK a,←check_head hK b]
   rfl
 | .or a b=>by
   have h:wrs fs (.or a b)=wrs fs a++wrs fs b:=by unfold wrs;rw[testsOf,List.flatMap_append]
   rw[h,head_app wrs_err,←check_head hK a,←check_head hK b]
   rfl
def Rise (L:List Tok)(i j:Nat)(ws:List (Int×Int)):Prop:=
 ∃ks:List Nat,ws.map (·.2)=ks.map (fun k=>((tk L k).at_:Int))∧ks.Pairwise (· < ·)∧∀k∈ks,i≤k∧k<j
theorem Rise.app {L:List Tok}{i m j:Nat}{u v:List (Int×Int)}(h:Rise L i m u)(k:Rise L m j v)(him:i≤m)(hmj:m≤j):Rise L i j (u++v):=by
 obtain⟨ks,h1,h2,h3⟩:=h
 obtain⟨qs,k1,k2,k3⟩:=k
 refine⟨ks++qs,by rw[List.map_append,List.map_append,h1,k1],List.pairwise_append.2 ⟨h2,k2,fun x hx y hy=>?_⟩,fun x hx=>?_⟩
 ·have:=h3 x hx
  have:=k3 y hy
  omega
 ·rcases List.mem_append.1 hx with hx|hx
  ·have:=h3 x hx;omega
  ·have:=k3 x hx;omega
theorem Rise.none (L:List Tok)(i j:Nat):Rise L i j []:=⟨[],rfl,.nil,fun k hk=>by cases hk⟩
theorem Rise.wide {L:List Tok}{i i' j j':Nat}{u:List (Int×Int)}(h:Rise L i j u)(hi:i'≤i)(hj:j≤j'):Rise L i' j' u:=by
 obtain⟨ks,h1,h2,h3⟩:=h
 exact⟨ks,h1,h2,fun k hk=>by have:=h3 k hk;omega⟩
theorem test_rise {L:List Tok}{i j:Nat}{n o:Tok}{l:List Tok}(h:TestIx L i j n o l)(fs:List Fld):Rise L i j (wrT fs n o l):=by
 obtain⟨rfl,rfl,hij,_,ks,rfl,hp,hr⟩:=h
 unfold wrT
 cases idxF fs (tk L i).S with
 |none=>exact⟨[i],rfl,by simp,fun k hk=>by rw[List.mem_singleton.1 hk];omega⟩
 |some k=>
  dsimp only
  cases fs[k]? with
  |none=>exact Rise.none L i j
  |some f=>
   dsimp only
   refine Rise.app (m:=i+2) ?_ ?_ (by omega) hij
   ·cases (((tk L (i+1)).S.toList==[108,105,107,101]) && (f.kind != 2))
    ·exact Rise.none L _ _
    ·exact⟨[i+1],rfl,by simp,fun k hk=>by rw[List.mem_singleton.1 hk];omega⟩
   ·refine⟨ks.filter fun k=>((tk L k).kind==115) != (f.kind==2),?_,hp.filter _,fun k hk=>hr k (List.mem_filter.1 hk).1⟩
    rw[List.map_map,List.filter_map,List.map_map]
    rfl
theorem Ix.le {L:List Tok}:∀{a:Ast} {i j:Nat},Ix L i j a→i≤j
 | .test _ _ _,_,_,⟨k,m,h1,h2,_,_,h3,_⟩=>by omega
 | .not a,_,_,h=>Ix.le (a:=a) h
 | .and a b,_,_,⟨m,h1,h2⟩=>by have:=Ix.le (a:=a) h1;have:=Ix.le (a:=b) h2;omega
 | .or a b,_,_,⟨m,h1,h2⟩=>by have:=Ix.le (a:=a) h1;have:=Ix.le (a:=b) h2;omega
theorem ix_rise {L:List Tok}(fs:List Fld):∀{a:Ast} {i j:Nat},Ix L i j a→Rise L i j (wrs fs a)
 | .test n o l,i,j,⟨k,m,h1,h2,h3⟩=>by
   have:wrs fs (.test n o l)=wrT fs n o l:=by unfold wrs testsOf;simp
   rw[this]
   exact(test_rise h3 fs).wide h1 h2
 | .not a,_,_,h=>ix_rise fs (a:=a) h
 | .and a b,_,_,⟨m,h1,h2⟩=>by
   have h:wrs fs (.and a b)=wrs fs a++wrs fs b:=by unfold wrs;rw[testsOf,List.flatMap_append]
   rw[h]
   exact(ix_rise fs (a:=a) h1).app (ix_rise fs (a:=b) h2) (Ix.le h1) (Ix.le h2)
 | .or a b,_,_,⟨m,h1,h2⟩=>by
   have h:wrs fs (.or a b)=wrs fs a++wrs fs b:=by unfold wrs;rw[testsOf,List.flatMap_append]
   rw[h]
   exact(ix_rise fs (a:=a) h1).app (ix_rise fs (a:=b) h2) (Ix.le h1) (Ix.le h2)
theorem fits_check {fs:List Fld}(hK:KindsOk fs){s:ByteArray}(hs:s.size≤200){a:Ast}{j:Nat}(hx:Ix (toks s 0) 0 j a)(hj:j≤(toks s 0).length){T:List (Option (Tok×Tok×List Tok))}(hT:T.filterMap id=testsOf a):
  (bif (fitAll fs T).1==0 then (0,0) else fitAll fs T)=check fs a:=by
 have h0:fitAll fs T=(wrs fs a).foldl upd (0,1000):=by
  unfold fitAll
  rw[fit_tests,hT]
  rfl
 obtain⟨ks,h1,h2,h3⟩:=ix_rise fs hx
 have hp:(wrs fs a).Pairwise (fun x y=>x.2<y.2):=by
  have h4:((wrs fs a).map (·.2)).Pairwise (· < ·):=by
   rw[h1,List.pairwise_map]
   refine List.Pairwise.imp_of_mem ?_ h2
   intro x y hx hy hxy
   have:=tk_asc s hxy (by have:=(h3 y hy).2;omega)
   omega
  exact List.pairwise_map.1 h4
 have hb:∀x∈wrs fs a,x.2<1000:=fun x hx=>by
  have h4:x.2∈(wrs fs a).map (·.2):=List.mem_map.2 ⟨x,hx,rfl⟩
  rw[h1] at h4
  obtain⟨k,hk,e⟩:=List.mem_map.1 h4
  have:=tk_small s (i:=k) (by have:=(h3 k hk).2;omega)
  omega
 rw[h0,upd_first hp hb,check_head hK]
 have he:=@wrs_err fs a
 cases hw:wrs fs a with
 |nil=>rfl
 |cons x ws=>
  rw[hw] at he
  have h5:=he x List.mem_cons_self
  show(bif x.1==0 then (0,0) else x)=x
  rw[show(x.1==0)=false by simp[h5]]
  rfl
end Doc
end Go.Proofs.YtbnelaoeblhndaaGreatDoor
