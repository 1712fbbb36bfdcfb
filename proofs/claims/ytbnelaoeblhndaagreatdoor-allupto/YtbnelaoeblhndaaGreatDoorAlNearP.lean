import Derived.Test.YtbnelaoeblhndaaGreatDoorFiNrA
namespace Go.Proofs.YtbnelaoeblhndaaGreatDoor
open Go.RowKit
set_option maxRecDepth 100000
structure FarSt (th:Has)(p:List Int)(l:List Nat)(c:Nat)(g:List Int):Prop where
 len:g.length=l.length
 at_:∀i (h:i<l.length) (h':i<g.length),(((l[i]:Int),farK th p l[i])∈(hitsK th p l).take c∧g[i]= -1)∨(((l[i]:Int),farK th p l[i])∉(hitsK th p l).take c∧g[i]=farK th p l[i])
theorem FarSt.start (th:Has)(p:List Int)(l:List Nat):FarSt th p l 0 (l.map (farK th p)):=
 ⟨by simp,fun i h h'=>.inr ⟨by simp,by simp⟩⟩
def Best (g:List Int)(k:Nat):Option Nat→Prop
 |none=>∀i (h:i<g.length),i<k→g[i]<0
 |some b=>∃h:b<g.length,b<k∧0≤g[b]∧∀i (h':i<g.length),i<k→0≤g[i]→g[b]≤g[i]∧(g[i]=g[b]→b≤i)
theorem Best.skip {g:List Int}{k:Nat}{o:Option Nat}(h:Best g k o)(hk:k<g.length)(hn:g[k]<0):Best g (k+1) o:=by
 cases o with
 |none=>
  intro i h1 h2
  by_cases e:i=k
  ·subst e;exact hn
  ·exact h i h1 (by omega)
 |some b=>
  obtain⟨h0,h1,h2,h3⟩:=h
  exact⟨h0,by omega,h2,fun i h4 h5 h6=>by
   by_cases e:i=k
   ·subst e;omega
   ·exact h3 i h4 (by omega) h6⟩
theorem Best.first {g:List Int}{k:Nat}(h:Best g k none)(hk:k<g.length)(hp:0≤g[k]):Best g (k+1) (some k):=
 ⟨hk,by omega,hp,fun i h1 h2 h3=>by
   by_cases e:i=k
   ·subst e;exact⟨Int.le_refl _,fun _=>Nat.le_refl _⟩
   ·have:=h i h1 (by omega);omega⟩
theorem Best.stay {g:List Int}{k b:Nat}(h:Best g k (some b))(hk:k<g.length)(hb:b<g.length)(hle:g[b]≤g[k]):Best g (k+1) (some b):=by
 obtain⟨h0,h1,h2,h3⟩:=h
 exact⟨h0,by omega,h2,fun i h4 h5 h6=>by
  by_cases e:i=k
  ·subst e;exact⟨hle,fun _=>by omega⟩
  ·exact h3 i h4 (by omega) h6⟩
theorem Best.better {g:List Int}{k b:Nat}(h:Best g k (some b))(hk:k<g.length)(hp:0≤g[k])(hb:b<g.length)(hlt:g[k]<g[b]):Best g (k+1) (some k):=by
 obtain⟨h0,h1,h2,h3⟩:=h
 exact⟨hk,by omega,hp,fun i h4 h5 h6=>by
  by_cases e:i=k
  ·subst e;exact⟨Int.le_refl _,fun _=>Nat.le_refl _⟩
  ·have:=(h3 i h4 (by omega) h6).1
   exact⟨by omega,fun e2=>by omega⟩⟩
theorem hit_not_take (th:Has)(p:List Int){l:List Nat}(hl:l.Nodup){c:Nat}{x:Int×Int}(hx:(hitsK th p l)[c]? =some x):x∉(hitsK th p l).take c:=by
 intro hm
 obtain⟨i,hi,e⟩:=List.getElem_of_mem hm
 rw[List.length_take] at hi
 rw[List.getElem_take] at e
 have h1:(hitsK th p l)[i]? =some x:=by rw[List.getElem?_eq_getElem (by omega),e]
 have:=hits_at th p hl h1 hx (by omega)
 unfold hitBefore at this
 omega
theorem best_next {th:Has}{p:List Int}{l:List Nat}(hl:l.Nodup)(hasc:l.Pairwise (· < ·)){c:Nat}{g:List Int}(hg:FarSt th p l c g)(hc:c<l.length){o:Option Nat}(ho:Best g l.length o):
  ∃b,o=some b∧∃h:b<l.length,(hitsK th p l)[c]? =some ((l[b]:Int),farK th p l[b])∧(∀h':b<g.length,g[b]=farK th p l[b])∧FarSt th p l (c+1) (g.set b (-1)):=by
 have hHl:c<(hitsK th p l).length:=by rw[hitsK_len];exact hc
 obtain⟨x,hx⟩:∃x,(hitsK th p l)[c]? =some x:=⟨_,List.getElem?_eq_getElem hHl⟩
 obtain⟨j,hj,hxe⟩:=hit_mem (List.mem_of_getElem? hx)
 obtain⟨m,hm,rfl⟩:=List.getElem_of_mem hj
 have hgl:=hg.len
 have hnt:=hit_not_take th p hl hx
 rw[hxe] at hnt
 have hgm:g[m]'(by omega)=farK th p l[m]:=by
  rcases hg.at_ m hm (by omega) with⟨h1,_⟩|⟨_,h1⟩
  ·exact absurd h1 hnt
  ·exact h1
 have hfm:=farK_nonneg th p l[m]
 cases o with
 |none=>
  have:=ho m (by omega) hm
  omega
 |some b=>
  obtain⟨hb,hbl,hgb,hbest⟩:=ho
  have hbm:=hbest m (by omega) hm (by omega)
  have hgbf:g[b]=farK th p l[b]∧((l[b]:Int),farK th p l[b])∉(hitsK th p l).take c:=by
   rcases hg.at_ b hbl (by omega) with⟨_,h2⟩|⟨h1,h2⟩
   ·omega
   ·exact⟨h2,h1⟩
  have hHb:(hitsK th p l)[c]? =some ((l[b]:Int),farK th p l[b]):=by
   obtain⟨d,hd,e⟩:=List.getElem_of_mem (mem_hit (th:=th) (p:=p) (List.getElem_mem hbl))
   have hdd:(hitsK th p l)[d]? =some ((l[b]:Int),farK th p l[b]):=by rw[List.getElem?_eq_getElem hd,e]
   rcases Nat.lt_trichotomy d c with h|h|h
   ·exfalso
    refine hgbf.2 ?_
    rw[←e]
    have h5:d<((hitsK th p l).take c).length:=by rw[List.length_take];omega
    have h6:((hitsK th p l).take c)[d]'h5=(hitsK th p l)[d]:=List.getElem_take
    rw[←h6]
    exact List.getElem_mem h5
   ·subst h;exact hdd
   ·exfalso
    have h7:=hits_at th p hl hx hdd h
    rw[hxe] at h7
    unfold hitBefore at h7
    simp only at h7
    have h8:farK th p l[m]=farK th p l[b]:=by omega
    have h9:l[m]<l[b]:=by omega
    have h10:b≤m:=hbm.2 (by omega)
    rcases Nat.lt_or_ge b m with h11|h11
    ·have:=List.pairwise_iff_getElem.1 hasc b m hbl hm h11
     omega
    ·have:b=m:=by omega
     subst this
     omega
  refine⟨b,rfl,hbl,hHb,fun _=>hgbf.1,by rw[List.length_set];exact hg.len,fun i h h'=>?_⟩
  have htk:(hitsK th p l).take (c+1)=(hitsK th p l).take c++[((l[b]:Int),farK th p l[b])]:=by
   rw[List.take_add_one,hHb,Option.toList_some]
  by_cases e:i=b
  ·subst e
   exact .inl ⟨by rw[htk];simp,by simp⟩
  ·rw[List.getElem_set_ne (fun h=>e h.symm),htk]
   have hne:((l[i]:Int),farK th p l[i])≠((l[b]:Int),farK th p l[b]):=fun h5=>by
    have h6:(l[i]:Int)=(l[b]:Int):=congrArg Prod.fst h5
    have h7:l[i]=l[b]:=by omega
    exact e ((List.getElem_inj hl).1 h7)
   rcases hg.at_ i h (by omega) with⟨h1,h2⟩|⟨h1,h2⟩
   ·exact .inl ⟨List.mem_append_left _ h1,h2⟩
   ·exact .inr ⟨fun h5=>by
     rcases List.mem_append.1 h5 with h5|h5
     ·exact h1 h5
     ·exact hne (List.mem_singleton.1 h5),h2⟩
end Go.Proofs.YtbnelaoeblhndaaGreatDoor
