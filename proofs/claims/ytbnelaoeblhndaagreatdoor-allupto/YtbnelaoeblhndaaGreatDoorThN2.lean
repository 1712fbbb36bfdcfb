import Derived.Test.YtbnelaoeblhndaaGreatDoorThN1
namespace Go.Proofs.YtbnelaoeblhndaaGreatDoor
open Go.RowKit
set_option maxRecDepth 100000
def Doc.putT (ts:List Doc.Thg)(t:Doc.Thg):List Doc.Thg:=
 match Doc.idxT ts t.id with
 |some k=>ts.set k t
 |none=>ts++[t]
section
variable {w:World}{F:Nat→Prop}{sb:Nat}{fs:List Doc.Fld}{space:Int}{ts:List Doc.Thg}{fv tv:Value}{ps:List (Value×Value)}
structure PutMid (w:World)(id:Int)(spot:List Int)(vals:List Doc.Val)(k:Nat)(wr:World)(sv vv:Value):Prop where
 below:Below w.heap.size w wr
 box:wr.heap[w.heap.size]? =some (.cells #[.int .i64 id,sv,vv] 237 (0,0))
 srow:wr.ownsRow (w.heap.size+1) 3 1 sv spot.length (intC spot)
 vrow:wr.ownsRow (w.heap.size+1) 94 3 vv k (valsC (vals.take k))
theorem intC_one (l:List Int):∀u∈intC l,u.oneCell'=true:=by
 intro u hu
 obtain⟨x,_,rfl⟩:=List.mem_map.1 hu
 rfl
theorem valC_one (v:Doc.Val):∀u∈valC v,u.oneCell'=true:=by
 intro u hu
 simp only[valC,List.mem_cons,List.not_mem_nil,or_false] at hu
 rcases hu with rfl|rfl|rfl<;>rfl
theorem addr_add2 (g o k:Nat):(⟨g,o,none⟩:Addr).add k=⟨g,o+k,none⟩:=by
 cases k with
 |zero=>simp[Addr.add]
 |succ k=>simp[Addr.add]
theorem own_slice' {w:World}{m e size n:Nat}{v:Value}{cs:List Value}(h:w.ownsRow m e size v n cs)(hn:0<n):∃g cap,v=.slice (some ⟨g,0,none⟩) n cap:=by
 obtain⟨_,h2⟩:=h
 rcases h2 with⟨_,h0⟩|⟨g,cap,cur,rfl,_⟩
 ·omega
 ·exact⟨g,cap,rfl⟩
theorem own_ge {w:World}{m e size n:Nat}{v:Value}{cs:List Value}(h:w.ownsRow m e size v n cs){k:Nat}(hk:v.ownBlock=some k):m≤k:=by
 obtain⟨_,h2⟩:=h
 rcases h2 with⟨rfl,_⟩|⟨g,cap,cur,rfl,hg,_⟩
 ·cases hk
 ·cases hk;exact hg
theorem step_append_at {P:Program}{ops:Array Oper}{o:Oper}{a:Act}{w:World}{K:Act→World→Prop}{Q:Exit→Act→World→Prop}{E:Prop}
  (hgd:o.guard=none) (s x:Operand) (t:TypeId)
  (ho:o.op=.call {callee:=.builtin .append,args:=#[s,x],argTypes:=#[t,t]})
  (base:Nat) (e:TypeId) (i:TypeInfo) (z:Value) (size bytes:Nat) (ht:P.underlying t=some (.slice e)) (hi:P.info? e=some i) (hz:i.zero=some z)
  (hsize:i.size=size) (hby:i.bytes=bytes) (hzs:z.cells.size=size) (hsz:0<size)
  (v:Value) (n:Nat) (xs:List Value) (hs:a.eval s=v) (hown:w.ownsRow base e size v n xs)
  (ad:Addr) (m c:Nat) (news:List Value) (hx:a.eval x=.slice (some ad) m c) (hl:news.length=m*size) (hnews:∀j u,news[j]? =some u→w.cell? (ad.add j)=some u) (h1:∀u∈news,u.oneCell'=true)
  (h63:n+m≤maxLen) (hbytes:(n+m)*bytes≤140737488355328) (hbase:base≤w.heap.size)
  (h:∀v' w',w'.ownsRow base e size v' (n+m) (xs++news)→w.grownBy w' v.ownBlock→(v'.ownBlock=v.ownBlock∨v'.ownBlock=some w.heap.size)→K (a.put o.dst v') w'):
  if Region.wanted o (yielded ops a.tmps)=true then Oper.wp P o a w K Q else E:=by
 have hw:Region.wanted o (yielded ops a.tmps)=true:=by simp[Region.wanted,hgd]
 rw[if_pos hw]
 obtain⟨v',w',hr,h2,h3,_,h5⟩:=run_append_own_at (P:=P) w base t o.type e i z size bytes ht hi hz hsize hby hzs hsz v n xs hown ad m c news hl hnews h1 h63 hbytes hbase
 unfold Oper.wp execOp
 simp only[ho,resolve,invoke,builtin,Sem.run_bind,Sem.run_pure,Result.andThen_ok,List.map_toArray,List.map_cons,List.map_nil,hs,hx,hr]
 exact h v' w' h2 h3 h5
theorem thgC_one (t:Doc.Thg)(a d:Option Addr)(b c e f:Nat):∀u∈thgC t (.slice a b c,.slice d e f),u.oneCell'=true:=by
 intro u hu
 simp only[thgC,List.mem_cons,List.not_mem_nil,or_false] at hu
 rcases hu with rfl|rfl|rfl<;>rfl
theorem thsC_snoc:∀(ts:List Doc.Thg) (ps:List (Value×Value)) (_:ts.length=ps.length) (t:Doc.Thg) (p:Value×Value),thsC (ts++[t]) (ps++[p])=thsC ts ps++thgC t p:=by
 intro ts
 induction ts with
 |nil=>intro ps h t p;cases ps with|nil=>simp[thsC]|cons a b=>simp at h
 |cons a ts ih=>
  intro ps h t p
  cases ps with
  |nil=>simp at h
  |cons q ps=>simp only[List.cons_append,thsC,ih ps (by simpa using h) t p,List.append_assoc]
theorem thsC_set:∀(ts:List Doc.Thg) (ps:List (Value×Value)) (_:ts.length=ps.length) (k:Nat) (_:k<ts.length) (t:Doc.Thg) (p:Value×Value),
  (((thsC ts ps).set (k*3) (.int .i64 t.id)).set (k*3+1) p.1).set (k*3+2) p.2=thsC (ts.set k t) (ps.set k p):=by
 intro ts
 induction ts with
 |nil=>intro ps _ k hk;simp at hk
 |cons a ts ih=>
  intro ps h k hk t p
  cases ps with
  |nil=>simp at h
  |cons q ps=>
   cases k with
   |zero=>simp[thsC,thgC]
   |succ k=>
    have:=ih ps (by simpa using h) k (by simpa using hk) t p
    have e:(k+1)*3=k*3+3:=by omega
    simp only[e,thsC,thgC,List.set_cons_succ,List.cons_append,List.nil_append]
    rw[this]
theorem RefAt.push {w w5 w6:World}{F:Nat→Prop}{sb:Nat}{fs:List Doc.Fld}{space:Int}{ts:List Doc.Thg}{fv tv v6 sv vv:Value}{ps:List (Value×Value)}{id:Int}{spot:List Int}{vals:List Doc.Val}{o:Obj}
  (h:RefAt w F sb fs space ts fv tv ps) (hm:PutMid w id spot vals fs.length w5 sv vv) (hvl:vals.length=fs.length)
  (hown:w6.ownsRow 0 237 3 v6 (ts.length+1) (thsC ts ps++thgC ⟨id,spot,vals⟩ (sv,vv))) (hgrow:(w5.alloc o).drew.grownBy w6 tv.ownBlock) (hloc:v6.ownBlock=tv.ownBlock∨v6.ownBlock=some (w5.alloc o).drew.heap.size):
  w6.heap[sb]? =some (.cells #[fv,.int .i64 space,tv] 193 (0,0))∧RefSt (w6.setCell ⟨sb,2,none⟩ v6) (fun k=>F k∨w.heap.size≤k) sb fs space (ts++[⟨id,spot,vals⟩])∧Md F w (w6.setCell ⟨sb,2,none⟩ v6):=by
 have hsz:=hm.below.size
 have hl:=lt_block h.blk
 have old:∀j,j<w5.heap.size→some j≠tv.ownBlock→w6.heap[j]? =w5.heap[j]? :=fun j hj hne=>
  (hgrow.block j (by show j<(w5.heap.push o).size;simp;omega) hne).trans (heap_alloc_old w5 o hj)
 have tyT:∀j,tv.ownBlock=some j→∃cs,w.heap[j]? =some (.cells cs 237 (0,0)):=fun j e=>by obtain⟨_,cs,t⟩:=own_type h.thg e;exact⟨cs,t⟩
 have first:∀j u,w.heap[j]? =some u→(∀cs,u≠Obj.cells cs 237 (0,0))→w6.heap[j]? =some u:=fun j u hu hne=>by
  have hlt:=lt_block hu
  rw[old j (by omega) (fun e=>by obtain⟨cs,t⟩:=tyT j e.symm;rw[hu] at t;exact hne cs (Option.some.inj t)),hm.below.block j hlt]
  exact hu
 have hsb:=first sb _ h.blk (by intro cs e;simp at e)
 have hother:∀j,j≠sb→(w6.setCell ⟨sb,2,none⟩ v6).heap[j]? =w6.heap[j]? :=fun j hj=>Below.heap_setCell _ _ _ _ hj
 have hMd:Md F w (w6.setCell ⟨sb,2,none⟩ v6):=by
  refine Md.set (Md.grown (((Md.ofBelow hm.below).alloc o).drew) hgrow (fun k e=>.inl (h.inT k e))) v6 (.inl h.inS)
 have row1:∀{e size n:Nat} {v:Value} {cs:List Value},w.ownsRow 0 e size v n cs→e≠237→e≠193→(w6.setCell ⟨sb,2,none⟩ v6).ownsRow 0 e size v n cs:=by
  intro e size n v cs hr h1 h2
  refine rowKept hr (fun j u ej hu=>?_)
  obtain⟨_,cs',t⟩:=own_type hr ej
  rw[hother j (by rintro rfl;rw[h.blk] at t;simp at t;exact h2 t.2.symm)]
  refine first j u hu (fun cs2 e2=>?_)
  rw[hu] at t;rw[e2] at t;simp at t;exact h1 t.2.symm
 have row2:∀{e size n:Nat} {v:Value} {cs:List Value},w5.ownsRow (w.heap.size+1) e size v n cs→(w6.setCell ⟨sb,2,none⟩ v6).ownsRow 0 e size v n cs:=by
  intro e size n v cs hr
  have hr0:w5.ownsRow 0 e size v n cs:=by
   obtain⟨a,b⟩:=hr
   refine⟨a,?_⟩
   rcases b with b|⟨g,cap,cur,e1,_,r⟩
   ·exact .inl b
   ·exact .inr ⟨g,cap,cur,e1,Nat.zero_le _,r⟩
  refine rowKept hr0 (fun j u ej hu=>?_)
  have hj:=own_ge hr ej
  rw[hother j (by omega),old j (lt_block hu) (fun e2=>by have:=ownLt h.thg e2.symm;omega)]
  exact hu
 refine⟨hsb,⟨fv,v6,ps++[(sv,vv)],?_⟩,hMd⟩
 have hFsz:∀k,v6.ownBlock=some k→F k∨w.heap.size≤k:=fun k e=>by
  rcases hloc with hl|hl
  ·exact .inl (h.inT k (by rw[←hl];exact e))
  ·rw[hl] at e
   right
   have:(w5.heap.push o).size=k:=Option.some.inj e
   simp at this;omega
 refine⟨set_blk' hsb 2 _,row1 h.fld (by decide) (by decide),?_,by simp[h.len],?_,.inl h.inS,fun k e=>.inl (h.inF k e),hFsz,?_⟩
 ·rw[thsC_snoc _ _ h.len,List.length_append,List.length_singleton]
  refine rowKept hown (fun j u ej hu=>?_)
  obtain⟨_,cs',t⟩:=own_type hown ej
  rw[hother j (by rintro rfl;rw[hsb] at t;simp at t)]
  exact hu
 ·intro i hi hi'
  by_cases hlast:i<ts.length
  ·have hp:i<ps.length:=by rw[←h.len];exact hlast
   obtain⟨r1,r2⟩:=h.each i hlast hp
   rw[List.getElem_append_left hlast,List.getElem_append_left hp]
   exact⟨row1 r1 (by decide) (by decide),row1 r2 (by decide) (by decide)⟩
  ·have hi2:i=ts.length:=by simp at hi;omega
   subst hi2
   have e1:(ts++[(⟨id,spot,vals⟩:Doc.Thg)])[ts.length]=⟨id,spot,vals⟩:=by simp
   have e2:(ps++[(sv,vv)])[ts.length]'hi'=(sv,vv):=by simp[h.len]
   rw[e1,e2]
   refine⟨row2 hm.srow,?_⟩
   have:=row2 hm.vrow
   rw[List.take_of_length_le (by omega)] at this
   show World.ownsRow _ _ _ _ _ vals.length _
   rw[hvl];exact this
 ·intro i hi k e
  by_cases hlast:i<ps.length
  ·rw[List.getElem_append_left hlast] at e
   exact .inl (h.inE i hlast k e)
  ·have hi2:i=ps.length:=by simp at hi;omega
   subst hi2
   simp only[List.getElem_append_right (Nat.le_refl _),Nat.sub_self,List.getElem_singleton] at e
   right
   rcases e with e|e
   ·have:=own_ge hm.srow e;omega
   ·have:=own_ge hm.vrow e;omega
theorem own_block {w:World}{m e size n g cap:Nat}{cs:List Value}(h:w.ownsRow m e size (.slice (some ⟨g,0,none⟩) n cap) n cs):∃cur,w.heap[g]? =some (.cells cur e (0,0))∧n≤cap∧cur.size=cap*size:=by
 obtain⟨_,h2⟩:=h
 rcases h2 with⟨e,_⟩|⟨g',cap',cur,e,_,hh,hn,_,hz,_⟩
 ·cases e
 ·cases e;exact⟨cur,hh,hn,hz⟩
theorem cur_cell {w:World}{g:Nat}{cur:Array Value}{T:TypeId}(h:w.heap[g]? =some (.cells cur T (0,0)))(i:Nat)(hi:i<cur.size):w.cell? ⟨g,i,none⟩=some cur[i]:=blk_cell h i _ (by rw[Array.getElem?_eq_getElem hi])
theorem RefAt.repl {w w5:World}{F:Nat→Prop}{sb:Nat}{fs:List Doc.Fld}{space:Int}{ts:List Doc.Thg}{fv sv vv:Value}{g cap:Nat}{ps:List (Value×Value)}{id:Int}{spot:List Int}{vals:List Doc.Val}
  (h:RefAt w F sb fs space ts fv (.slice (some ⟨g,0,none⟩) ts.length cap) ps) (hm:PutMid w id spot vals fs.length w5 sv vv) (hvl:vals.length=fs.length) (k:Nat) (hk:k<ts.length):
  RefSt (((w5.setCell ⟨g,k*3,none⟩ (.int .i64 id)).setCell ⟨g,k*3+1,none⟩ sv).setCell ⟨g,k*3+2,none⟩ vv).drew (fun k=>F k∨w.heap.size≤k) sb fs space (ts.set k ⟨id,spot,vals⟩)∧
  Md F w (((w5.setCell ⟨g,k*3,none⟩ (.int .i64 id)).setCell ⟨g,k*3+1,none⟩ sv).setCell ⟨g,k*3+2,none⟩ vv).drew:=by
 have hsz:=hm.below.size
 have hFg:F g:=h.inT g rfl
 have hMd:Md F w (((w5.setCell ⟨g,k*3,none⟩ (.int .i64 id)).setCell ⟨g,k*3+1,none⟩ sv).setCell ⟨g,k*3+2,none⟩ vv).drew:=
  ((((Md.ofBelow hm.below).set _ (.inl hFg)).set _ (.inl hFg)).set _ (.inl hFg)).drew
 refine⟨⟨fv,.slice (some ⟨g,0,none⟩) ts.length cap,ps.set k (sv,vv),?_⟩,hMd⟩
 have other:∀j,j≠g→(((w5.setCell ⟨g,k*3,none⟩ (.int .i64 id)).setCell ⟨g,k*3+1,none⟩ sv).setCell ⟨g,k*3+2,none⟩ vv).drew.heap[j]? =w5.heap[j]? :=fun j hj=>by
  show(((w5.setCell ⟨g,k*3,none⟩ (.int .i64 id)).setCell ⟨g,k*3+1,none⟩ sv).setCell ⟨g,k*3+2,none⟩ vv).heap[j]? =_
  rw[Below.heap_setCell _ _ _ _ hj,Below.heap_setCell _ _ _ _ hj,Below.heap_setCell _ _ _ _ hj]
 obtain⟨cur,hcur,hcap,hcz⟩:=own_block h.thg
 have hgl:=lt_block hcur
 have hcur5:w5.heap[g]? =some (.cells cur 237 (0,0)):=(hm.below.block g hgl).trans hcur
 have row1:∀{e size n:Nat} {v:Value} {cs:List Value},w.ownsRow 0 e size v n cs→e≠237→(((w5.setCell ⟨g,k*3,none⟩ (.int .i64 id)).setCell ⟨g,k*3+1,none⟩ sv).setCell ⟨g,k*3+2,none⟩ vv).drew.ownsRow 0 e size v n cs:=by
  intro e size n v cs hr h1
  refine rowKept hr (fun j u ej hu=>?_)
  obtain⟨_,cs',t⟩:=own_type hr ej
  rw[other j (by rintro rfl;rw[hcur] at t;simp at t;exact h1 t.2.symm),hm.below.block j (lt_block hu)]
  exact hu
 have row2:∀{e size n:Nat} {v:Value} {cs:List Value},w5.ownsRow (w.heap.size+1) e size v n cs→(((w5.setCell ⟨g,k*3,none⟩ (.int .i64 id)).setCell ⟨g,k*3+1,none⟩ sv).setCell ⟨g,k*3+2,none⟩ vv).drew.ownsRow 0 e size v n cs:=by
  intro e size n v cs hr
  have hr0:w5.ownsRow 0 e size v n cs:=by
   obtain⟨a,b⟩:=hr
   refine⟨a,?_⟩
   rcases b with b|⟨g',cap',cur',e1,_,r⟩
   ·exact .inl b
   ·exact .inr ⟨g',cap',cur',e1,Nat.zero_le _,r⟩
  refine rowKept hr0 (fun j u ej hu=>?_)
  have hj:=own_ge hr ej
  rw[other j (by omega)]
  exact hu
 refine⟨?_,row1 h.fld (by decide),?_,by simp[h.len],?_,.inl h.inS,fun k e=>.inl (h.inF k e),fun k e=>.inl (h.inT k e),?_⟩
 ·rw[other sb (by rintro rfl;have:=h.blk;rw[hcur] at this;simp at this),hm.below.block sb (lt_block h.blk)]
  exact h.blk
 ·rw[List.length_set,←thsC_set ts ps h.len k hk ⟨id,spot,vals⟩ (sv,vv)]
  obtain⟨q1,q2⟩:=h.thg
  refine⟨by simpa using q1,.inr ⟨g,cap,((cur.setIfInBounds (k*3) (.int .i64 id)).setIfInBounds (k*3+1) sv).setIfInBounds (k*3+2) vv,rfl,Nat.zero_le _,set_blk' (set_blk' (set_blk' hcur5 _ _) _ _) _ _,hcap,?_,by simpa using hcz,?_⟩⟩
  ·rcases q2 with⟨e,_⟩|⟨g',cap',cur',e,_,_,_,hm',_⟩
   ·cases e
   ·cases e;exact hm'
  ·rcases q2 with⟨e,_⟩|⟨g',cap',cur',e,_,hh,_,_,_,ht⟩
   ·cases e
   ·cases e
    rw[hcur] at hh
    simp only[Option.some.injEq,Obj.cells.injEq] at hh
    obtain⟨rfl,_⟩:=hh
    simp only[Array.toList_setIfInBounds,List.take_set,ht]
 ·intro i hi hi'
  by_cases hik:i=k
  ·subst hik
   simp only[List.getElem_set_self]
   refine⟨row2 hm.srow,?_⟩
   have:=row2 hm.vrow
   rw[List.take_of_length_le (by omega)] at this
   rw[hvl];exact this
  ·have hp:i<ps.length:=by simpa using hi'
   have ht:i<ts.length:=by simpa using hi
   obtain⟨r1,r2⟩:=h.each i ht hp
   rw[List.getElem_set_ne (by omega),List.getElem_set_ne (by omega)]
   exact⟨row1 r1 (by decide),row1 r2 (by decide)⟩
 ·intro i hi j e
  have hp:i<ps.length:=by simpa using hi
  by_cases hik:i=k
  ·subst hik
   simp only[List.getElem_set_self] at e
   right
   rcases e with e|e
   ·have:=own_ge hm.srow e;omega
   ·have:=own_ge hm.vrow e;omega
  ·rw[List.getElem_set_ne (by omega)] at e
   exact .inl (h.inE i hp j e)
theorem own_drew {w:World}{m e size n:Nat}{v:Value}{cs:List Value}(h:w.ownsRow m e size v n cs):w.drew.ownsRow m e size v n cs:=h
theorem PutMid.step {w w3 w4:World}{id:Int}{spot:List Int}{vals:List Doc.Val}{k:Nat}{sv vv v4:Value}{x:Doc.Val}{o:Obj}
  (hb:Below w.heap.size w w3) (hbox:w3.heap[w.heap.size]? =some (.cells #[.int .i64 id,sv,vv] 237 (0,0))) (hsr:w3.ownsRow (w.heap.size+1) 3 1 sv spot.length (intC spot)) (hvr:w3.ownsRow (w.heap.size+1) 94 3 vv k (valsC (vals.take k)))
  (hown:w4.ownsRow (w.heap.size+1) 94 3 v4 (k+1) (valsC (vals.take k)++valC x)) (hgrow:(w3.alloc o).drew.grownBy w4 vv.ownBlock) (hk:k<vals.length) (hx2:x=vals[k]):
  w4.heap[w.heap.size]? =some (.cells #[.int .i64 id,sv,vv] 237 (0,0))∧PutMid w id spot vals (k+1) (w4.setCell ⟨w.heap.size,2,none⟩ v4) sv v4:=by
 have hl:=lt_block hbox
 have old:∀j,j<w3.heap.size→some j≠vv.ownBlock→w4.heap[j]? =w3.heap[j]? :=fun j hj hne=>
  (hgrow.block j (by show j<(w3.heap.push o).size;simp;omega) hne).trans (heap_alloc_old w3 o hj)
 have hnb:some w.heap.size≠vv.ownBlock:=fun e=>by have:=own_ge hvr e.symm;omega
 have hbx:=(old _ hl hnb).trans hbox
 have hbel:Below w.heap.size w w4:=by
  refine((hb.alloc hb.size o).drew).grown hgrow (by have:=hb.size;show w.heap.size≤(w3.heap.push o).size;simp;omega) (fun j e=>by have:=own_ge hvr e;omega)
 refine⟨hbx,hbel.setCell (p:=⟨w.heap.size,2,none⟩) (Nat.le_refl _) _,set_blk' hbx 2 _,?_,?_⟩
 ·refine rowKept hsr (fun j u e hu=>?_)
  have h1:=own_ge hsr e
  have hne:some j≠vv.ownBlock:=fun e2=>by
   obtain⟨_,cs1,t1⟩:=own_type hsr e
   obtain⟨_,cs2,t2⟩:=own_type hvr e2.symm
   rw[t1] at t2;simp at t2
  rw[Below.heap_setCell _ _ _ _ (by show j≠w.heap.size;omega),old j (lt_block hu) hne]
  exact hu
 ·have e3:valsC (vals.take (k+1))=valsC (vals.take k)++valC x:=by
   rw[←List.take_append_getElem hk,hx2]
   unfold valsC
   rw[List.flatMap_append]
   simp
  rw[e3]
  refine rowKept hown (fun j u e hu=>?_)
  have h1:=own_ge hown e
  rw[Below.heap_setCell _ _ _ _ (by show j≠w.heap.size;omega)]
  exact hu
set_option maxHeartbeats 4000000 in
theorem rput_any (h:RefAt w F sb fs space ts fv tv ps)(hl:ts.length≤1000000)(id:Int)(spot:List Int)(vals:List Doc.Val)(sv vv:Value)(hs:Sl w sv spot.length (intC spot))(hv:Sl w vv vals.length (valsC vals))(hsl:spot.length≤1000)(hvl:vals.length≤1000)(hs0:0<spot.length)(hv0:0<vals.length)
  (k1:0≤id) (k2:id≤4095) (k3:Doc.spotB space spot=true) (k4:vals.length=fs.length):
  Calls Tryz.prog 93 #[.pointer (some ⟨sb,0,none⟩),.int .i64 id,sv,vv] w fun e w'=>
   (e=.returned (.int .i64 3)∧Below w.heap.size w w'∧∃j,∃(h1:j<vals.length) (h2:j<fs.length),Doc.goodV vals[j] fs[j].kind=false)∨
   (e=.returned (.int .i64 0)∧(∀j (h1:j<vals.length) (h2:j<fs.length),Doc.goodV vals[j] fs[j].kind=true)∧RefSt w' (fun k=>F k∨w.heap.size≤k) sb fs space (Doc.putT ts ⟨id,spot,vals⟩)∧Md F w w'):=by
 obtain⟨c0,c1,c2⟩:=st_cells h.blk
 have HC:Hid _:=rspot_any sb space c1 spot (by omega) sv hs
 have HA:Hid _:=h
 have K3:Hid (Doc.spotB space spot=true):=k3
 obtain⟨i0,hi,hz0,hz1,hz2⟩:=info_parts Tryz.infoIntT
 obtain⟨i1,hj,hy0,hy1,hy2⟩:=info_parts Tryz.infoValT
 obtain⟨i2,ht,hx0,hx1,hx2⟩:=info_parts Tryz.infoThgT
 rcases hs.has with⟨h0,_⟩|⟨_,sbk,so,sc,rfl,hsc,hslt,hsr⟩
 ·omega
 rcases hv.has with⟨h0,_⟩|⟨_,vb,vo,vc,rfl,hvc,hvlt,hvr⟩
 ·omega
 rcases(rowSl h.fld).has with⟨h0,_⟩|⟨_,fb,fo,fc,rfl,hfc,hflt,hfr⟩
 ·omega
 have hlt:=lt_block h.blk
 have HSR:Hid _:=hsr
 have HVR:Hid _:=hvr
 have HFR:Hid _:=hfr
 clear hs hv h k3 hsr hvr hfr
 go_enter Tryz.func93,Tryz.ntmps93
 go_wp2_with fail
 refine Calls.mono HC.out ?_
 rw[K3.out]
 rintro e w1 ⟨rfl,hw⟩
 subst hw
 go_wp2_with (at_builtin;refine wpList_append_own_at _ rfl (.tmp 40) (.tmp 41) 33 rfl (w1.heap.size+1) 3 i0 _ 1 8 Tryz.underlying33 hi hz0 hz1 hz2 rfl (by decide) _ _ _ rfl (World.ownsRow_nil _ _ _ _) ⟨sbk,so,none⟩ spot.length sc (intC spot) rfl (by simp[intC]) ?c1 (intC_one spot) ?c3 ?c4 ?c5 ?_)
 case c1=>
  intro j u hj
  rw[addr_add2]
  exact(((Below.refl _ _).alloc (Nat.le_refl _) _).cell (p:=⟨sbk,so+j,none⟩) hslt).trans (HSR.out j u hj)
 case c3=>unfold maxLen;omega
 case c4=>omega
 case c5=>simp
 intro v2 w2 hown2 hgrow2 _ _
 obtain⟨g2,cap2,rfl⟩:=own_slice' hown2 (by omega)
 have hown2:w2.ownsRow (w1.heap.size+1) 3 1 (.slice (some ⟨g2,0,none⟩) spot.length cap2) spot.length (intC spot):=by simpa using hown2
 have hbx:=(hgrow2.block w1.heap.size (by simp) (by intro e;cases e)).trans (heap_alloc_new w1 _)
 have hbel2:Below w1.heap.size w1 w2:=((Below.refl _ _).alloc (Nat.le_refl _) _).grown hgrow2 (by simp) (fun k e=>by cases e)
 obtain⟨d0,d1,d2⟩:=st_cells hbx
 have f1:=blk_free hbx 1
 have hmid:PutMid w1 id spot vals 0 (w2.setCell ⟨w1.heap.size,1,none⟩ (.slice (some ⟨g2,0,none⟩) spot.length cap2)) (.slice (some ⟨g2,0,none⟩) spot.length cap2) (.slice none 0 0):=by
  refine⟨hbel2.setCell (p:=⟨w1.heap.size,1,none⟩) (Nat.le_refl _) _,set_blk' hbx 1 _,?_,World.ownsRow_nil _ _ _ _⟩
  refine rowKept hown2 (fun k o e ho=>?_)
  cases e
  have hg:w1.heap.size+1≤g2:=(own_ge hown2 rfl)
  exact(Below.heap_setCell _ _ _ _ (by show g2≠w1.heap.size;omega)).trans ho
 clear hown2 hgrow2 hbel2
 go_wp2_with fail
 clear d0 d1 d2 f1 hbx
 go_loopw [11] (fun iv wr=>∃(k:Nat) (sv vv:Value),k≤vals.length∧iv=.int .i64 k∧PutMid w1 id spot vals k wr sv vv∧Hid (∀j (_:j<k) (h1:j<vals.length) (h2:j<fs.length),Doc.goodV vals[j] fs[j].kind=true)) (fun iv _=>vals.length-(intOf iv).toNat)
 case atStart=>exact⟨0,_,_,Nat.zero_le _,rfl,hmid,fun j hj=>by omega⟩
 case round=>
  obtain⟨k,sv,vv,hk,rfl,hm,HB⟩:=hrel
  clear hmid
  have hcs:∀(b o:Nat) (u:Value),b<w1.heap.size→w1.cell? ⟨b,o,none⟩=some u→wr.cell? ⟨b,o,none⟩=some u:=fun b o u hb hu=>(hm.below.cell (p:=⟨b,o,none⟩) hb).trans hu
  have e0:=hcs _ _ _ hlt c0
  by_cases hk2:k<vals.length
  ·have r0:=hcs _ _ _ hvlt (HVR.out (k*3) (.int .i64 vals[k].k) (by unfold valsC;rw[show k*3=k*3+0 from rfl,flat_at valC 3 valC_len vals k hk2 0 (by omega)];rfl))
   have r1:=hcs _ _ _ hvlt (HVR.out (k*3+1) (.int .i64 vals[k].n) (by unfold valsC;rw[flat_at valC 3 valC_len vals k hk2 1 (by omega)];rfl))
   have r2:=hcs _ _ _ hvlt (HVR.out (k*3+2) (.string vals[k].s) (by unfold valsC;rw[flat_at valC 3 valC_len vals k hk2 2 (by omega)];rfl))
   have q1:=hcs _ _ _ hflt (HFR.out (k*2+1) (.int .i64 fs[k].kind) (by unfold fldsC;rw[flat_at fldC 2 fldC_len fs k (by omega) 1 (by omega)];rfl))
   rw[←Nat.add_assoc] at r1 r2 q1
   obtain⟨x,HX⟩:∃x,Hid (x=vals[k]):=⟨vals[k],rfl⟩
   obtain⟨kd,HK⟩:∃kd,Hid (kd=fs[k].kind):=⟨fs[k].kind,rfl⟩
   rw[←HX.out] at r0 r1 r2
   rw[←HK.out] at q1
   obtain⟨gd,HG⟩:∃gd,Hid (gd=Doc.goodV x kd):=⟨Doc.goodV x kd,rfl⟩
   have hbase:=hm.below.size
   cases gd with
   |false=>
    go_wp2_with fail
    go_region_with (go_at_call 138;go_must (go_fit (good_any (w:=wr.drew) x kd));rw[←HG.out];rintro r w3 ⟨rfl,hb3⟩)
    all_goals
     go_wp2_with fail
     go_ret
     refine .inl ⟨rfl,hm.below.drew.trans (hb3.mono hbase),k,hk2,by omega,?_⟩
     rw[←HX.out,←HK.out]
     exact HG.out.symm
   |true=>
    go_wp2_with fail
    go_region_with (go_at_call 138;go_must (go_fit (good_any (w:=wr.drew) x kd));rw[←HG.out];rintro r w3 ⟨rfl,hb3⟩)
    all_goals
     have e1:=(hb3.block w1.heap.size (lt_block hm.box)).trans hm.box
     obtain⟨b0,b1,b2⟩:=st_cells e1
     have f2:=blk_free e1 2
     have hvr3:w3.ownsRow (w1.heap.size+1) 94 3 vv k (valsC (vals.take k)):=rowKept hm.vrow (fun k' o e ho=>(hb3.block k' (lt_block ho)).trans ho)
     have hsr3:w3.ownsRow (w1.heap.size+1) 3 1 sv spot.length (intC spot):=rowKept hm.srow (fun k' o e ho=>(hb3.block k' (lt_block ho)).trans ho)
     have hbel3:Below w1.heap.size w1 w3:=hm.below.drew.trans (hb3.mono hbase)
     have hsz3:=hbel3.size
     have hsz4:=lt_block e1
     obtain⟨vb3,vc3,rfl⟩:=row_slice hvr3
     have t0:=(hb3.cell (p:=⟨vb,vo+k*3,none⟩) (by show vb<wr.heap.size;omega)).trans r0
     have t1:=(hb3.cell (p:=⟨vb,vo+k*3+1,none⟩) (by show vb<wr.heap.size;omega)).trans r1
     have t2:=(hb3.cell (p:=⟨vb,vo+k*3+2,none⟩) (by show vb<wr.heap.size;omega)).trans r2
     clear r0 r1 r2 q1 hm
     go_wp2_with fail
     go_region_law (refine step_append_own rfl (.tmp 66) (.tmp 71) 55 rfl (w1.heap.size+1) 94 i1 _ 3 32 Tryz.underlying55 hj hy0 hy1 hy2 rfl (by decide) _ k (valsC (vals.take k)) (by simp[Act.eval]) (own_drew (hvr3.alloc _)) ⟨w3.heap.size,0,none⟩ 1 1 (valC x) (by simp[Act.eval]) rfl (fun j u hj=>cells_new_drew _ (valC x) _ _ (by simp) j u hj) (valC_one x) (by unfold maxLen;omega) (by omega) (by simp;omega) ?_;intro v4 w4 hown4 hgrow4 _;obtain⟨g4,cap4,rfl⟩:=own_slice' hown4 (by omega);obtain⟨hbx4,hmid4⟩:=PutMid.step hbel3 e1 hsr3 hvr3 hown4 hgrow4 hk2 HX.out;have b42:=blk_cell hbx4 2 _ rfl;have f42:=blk_free hbx4 2;have HM:Hid _:=hmid4;clear hown4 hgrow4 hmid4)
     all_goals
      go_wp2_with fail
      go_roundw
      case rel=>
       refine⟨k+1,_,_,by omega,by go_num,HM.out,fun j hj h1 h2=>?_⟩
       by_cases h:j=k
       ·subst h;rw[←HX.out,←HK.out];exact HG.out.symm
       ·exact HB.out j (by omega) h1 h2
      case measure=>simp[intOf];omega
  ·obtain rfl:k=fs.length:=by omega
   have hbase:=hm.below.size
   have h':=HA.out
   have e2:=hcs _ _ _ hlt c2
   have hall:∀j (h1:j<vals.length) (h2:j<fs.length),Doc.goodV vals[j] fs[j].kind=true:=fun j h1 h2=>HB.out j h2 h1 h2
   have HALL:Hid _:=hall
   have HM:Hid _:=hm
   have hrow:wr.ownsRow 0 237 3 tv ts.length (thsC ts ps):=rowKept h'.thg (fun k' o e ho=>(hm.below.block k' (lt_block ho)).trans ho)
   have HAT:Hid _:=at_any sb tv e2 ts ps h'.len (by omega) (rowSl hrow) id
   have hsb:=(hm.below.block sb hlt).trans h'.blk
   obtain⟨svb,svc,hsv⟩:=row_slice hm.srow
   obtain⟨vvb,vvc,hvv⟩:=row_slice hm.vrow
   subst hsv hvv
   obtain⟨b0,b1,b2⟩:=st_cells hm.box
   have f2:=blk_free hsb 2
   have hsbl:=lt_block hsb
   obtain⟨tb,tc,htv⟩:=row_slice hrow
   subst htv
   clear hm hall h'
   cases hidx:Doc.idxT ts id with
   |none=>
    rw[hidx] at HAT
    have HID:Hid _:=hidx
    clear hidx
    go_wp2_with fail
    refine Calls.mono HAT.out ?_
    rintro r w5 ⟨rfl,hw5⟩
    subst hw5
    simp only[Doc.placeI]
    go_wp2_with fail
    go_region_law (refine step_append_at rfl (.tmp 83) (.tmp 85) 191 rfl 0 237 i2 _ 3 56 Tryz.underlying191 ht hx0 hx1 hx2 rfl (by decide) _ ts.length (thsC ts ps) (by simp[Act.eval]) (own_drew (hrow.alloc _)) ⟨w5.heap.size,0,none⟩ 1 1 (thgC ⟨id,spot,vals⟩ (.slice svb spot.length svc,.slice vvb fs.length vvc)) (by simp[Act.eval]) rfl (fun j u hj=>cells_new_drew _ (thgC ⟨id,spot,vals⟩ (.slice svb spot.length svc,.slice vvb fs.length vvc)) _ _ (by simp) j u hj) (thgC_one _ _ _ _ _ _ _) (by unfold maxLen;omega) (by omega) (Nat.zero_le _) ?_;intro v6 w6 hown6 hgrow6 hloc6;obtain⟨hsb6,hst6,hmd6⟩:=RefAt.push HA.out HM.out k4 hown6 hgrow6 hloc6;obtain⟨g6,cap6,rfl⟩:=own_slice' hown6 (by omega);have b62:=blk_cell hsb6 2 _ rfl;have f62:=blk_free hsb6 2;have HS6:Hid _:=hst6;have HM6:Hid _:=hmd6;clear hown6 hgrow6 hloc6 hst6 hmd6)
    all_goals
     go_wp2_with fail
     go_ret
     refine .inr ⟨rfl,HALL.out,?_,HM6.out⟩
     rw[show Doc.putT ts ⟨id,spot,vals⟩=ts++[⟨id,spot,vals⟩] by unfold Doc.putT;rw[HID.out]]
     exact HS6.out
   |some k=>
    rw[hidx] at HAT
    have HID:Hid _:=hidx
    obtain⟨hkl,_⟩:=List.findIdx?_eq_some_iff_getElem.1 hidx
    clear hidx
    obtain⟨g,cap,htb⟩:=own_slice' hrow (by omega)
    simp only[Value.slice.injEq] at htb
    obtain⟨rfl,_,rfl⟩:=htb
    obtain⟨cur,hcur,hcap,hcz⟩:=own_block hrow
    have hc0:=cur_cell hcur (k*3) (by omega)
    have hc1:=cur_cell hcur (k*3+1) (by omega)
    have hc2:=cur_cell hcur (k*3+2) (by omega)
    have z0:=blk_free hcur (k*3)
    have z1:=blk_free hcur (k*3+1)
    have z2:=blk_free hcur (k*3+2)
    have HREP:Hid _:=RefAt.repl HA.out HM.out k4 k hkl
    go_wp2_with fail
    refine Calls.mono HAT.out ?_
    rintro r w5 ⟨rfl,hw5⟩
    subst hw5
    simp only[Doc.placeI]
    go_wp2_with fail
    go_region
    all_goals
     go_wp2_with fail
     go_ret
     refine .inr ⟨rfl,HALL.out,?_,?_⟩
     ·rw[show Doc.putT ts ⟨id,spot,vals⟩=ts.set k ⟨id,spot,vals⟩ by unfold Doc.putT;rw[HID.out]]
      exact HREP.out.1
     ·exact HREP.out.2
end
section
variable {w:World}
set_option maxHeartbeats 1000000 in
theorem cloneI_any (sv:Value)(n:Nat)(news:List Value)(hs:Sl w sv n news)(hl:news.length=n*1)(hn:n≤1000000)(h1:∀u∈news,u.oneCell'=true):
  Calls Tryz.prog 109 #[sv] w fun e w'=>∃v',e=.returned v'∧w'.ownsRow w.heap.size 3 1 v' n news∧Below w.heap.size w w':=by
 obtain⟨i0,hi,hz0,hz1,hz2⟩:=info_parts Tryz.infoIntT
 have q22:∀(w:World) (a:Option Addr) (n c n' c':Nat),(binOp .eql 33 (.slice a n c) (.slice none n' c')).run Tryz.prog w=.ok (.bool a.isNone) w:=fun w a n c n' c'=>Lib.run_eql_slice_nil w _ _ a n c n' c' Tryz.underlying33
 have main:∀(a:Addr) (c:Nat),(∀j u,news[j]? =some u→w.cell? (a.add j)=some u)→Calls Tryz.prog 109 #[.slice (some a) n c] w fun e w'=>∃v',e=.returned v'∧w'.ownsRow w.heap.size 3 1 v' n news∧Below w.heap.size w w':=by
  intro a c hc
  have HC:Hid _:=hc
  clear hc hs
  go_enter Tryz.func109,Tryz.ntmps109
  go_wp2_with (at_builtin;refine wpList_append_own_at _ rfl _ _ 33 rfl w.heap.size 3 i0 _ 1 8 Tryz.underlying33 hi hz0 hz1 hz2 rfl (by decide) _ _ _ rfl (World.ownsRow_made w #[] 0 (Nat.le_refl _) (Nat.zero_le _) (by simp)) a n c news rfl ?c0 ?c1 ?c2 ?c3 ?c4 ?c5 ?_)
  case c0=>exact hl
  case c1=>intro j u hj;exact Lib.cell?_alloc_some _ (HC.out j u hj)
  case c2=>exact h1
  case c3=>unfold maxLen;omega
  case c4=>omega
  case c5=>simp
  intro v2 w2 hown hgrow _ _
  go_wp2_with fail
  go_ret
  exact⟨v2,rfl,by simpa using hown,((Below.refl _ w).alloc (Nat.le_refl _) _).grown hgrow (by simp) (by intro k hk;simp[Value.ownBlock] at hk;omega)⟩
 rcases hs.has with⟨rfl,a,cap,rfl⟩|⟨h0,b,off,cap,rfl,hc,hlt,hr⟩
 ·have hnil:news=[]:=List.eq_nil_of_length_eq_zero (by omega)
  subst hnil
  cases a with
  |some a=>exact main a cap (fun j u hj=>by simp at hj)
  |none=>
   clear main hs
   go_enter Tryz.func109,Tryz.ntmps109
   go_wp2_with fail
   go_ret
   exact⟨_,rfl,World.ownsRow_nil _ _ _ _,Below.refl _ _⟩
 ·exact main ⟨b,off,none⟩ cap (fun j u hj=>by rw[addr_add2];exact hr j u hj)
set_option maxHeartbeats 1000000 in
theorem cloneV_any (sv:Value)(n:Nat)(news:List Value)(hs:Sl w sv n news)(hl:news.length=n*3)(hn:n≤1000000)(h1:∀u∈news,u.oneCell'=true):
  Calls Tryz.prog 110 #[sv] w fun e w'=>∃v',e=.returned v'∧w'.ownsRow w.heap.size 94 3 v' n news∧Below w.heap.size w w':=by
 obtain⟨i0,hi,hz0,hz1,hz2⟩:=info_parts Tryz.infoValT
 have q22:∀(w:World) (a:Option Addr) (n c n' c':Nat),(binOp .eql 55 (.slice a n c) (.slice none n' c')).run Tryz.prog w=.ok (.bool a.isNone) w:=fun w a n c n' c'=>Lib.run_eql_slice_nil w _ _ a n c n' c' Tryz.underlying55
 have main:∀(a:Addr) (c:Nat),(∀j u,news[j]? =some u→w.cell? (a.add j)=some u)→Calls Tryz.prog 110 #[.slice (some a) n c] w fun e w'=>∃v',e=.returned v'∧w'.ownsRow w.heap.size 94 3 v' n news∧Below w.heap.size w w':=by
  intro a c hc
  have HC:Hid _:=hc
  clear hc hs
  go_enter Tryz.func110,Tryz.ntmps110
  go_wp2_with (at_builtin;refine wpList_append_own_at _ rfl _ _ 55 rfl w.heap.size 94 i0 _ 3 32 Tryz.underlying55 hi hz0 hz1 hz2 rfl (by decide) _ _ _ rfl (World.ownsRow_made w #[] 0 (Nat.le_refl _) (Nat.zero_le _) (by simp)) a n c news rfl ?c0 ?c1 ?c2 ?c3 ?c4 ?c5 ?_)
  case c0=>exact hl
  case c1=>intro j u hj;exact Lib.cell?_alloc_some _ (HC.out j u hj)
  case c2=>exact h1
  case c3=>unfold maxLen;omega
  case c4=>omega
  case c5=>simp
  intro v2 w2 hown hgrow _ _
  go_wp2_with fail
  go_ret
  exact⟨v2,rfl,by simpa using hown,((Below.refl _ w).alloc (Nat.le_refl _) _).grown hgrow (by simp) (by intro k hk;simp[Value.ownBlock] at hk;omega)⟩
 rcases hs.has with⟨rfl,a,cap,rfl⟩|⟨h0,b,off,cap,rfl,hc,hlt,hr⟩
 ·have hnil:news=[]:=List.eq_nil_of_length_eq_zero (by omega)
  subst hnil
  cases a with
  |some a=>exact main a cap (fun j u hj=>by simp at hj)
  |none=>
   clear main hs
   go_enter Tryz.func110,Tryz.ntmps110
   go_wp2_with fail
   go_ret
   exact⟨_,rfl,World.ownsRow_nil _ _ _ _,Below.refl _ _⟩
 ·exact main ⟨b,off,none⟩ cap (fun j u hj=>by rw[addr_add2];exact hr j u hj)
end
theorem thsC_erase:∀(ts:List Doc.Thg) (ps:List (Value×Value)) (_:ts.length=ps.length) (k:Nat) (_:k<ts.length),thsC (ts.eraseIdx k) (ps.eraseIdx k)=(thsC ts ps).take (k*3)++(thsC ts ps).drop ((k+1)*3):=by
 intro ts
 induction ts with
 |nil=>intro ps _ k hk;simp at hk
 |cons a ts ih=>
  intro ps h k hk
  cases ps with
  |nil=>simp at h
  |cons q ps=>
   cases k with
   |zero=>simp[thsC,thgC]
   |succ k=>
    have:=ih ps (by simpa using h) k (by simpa using hk)
    simp only[List.eraseIdx_cons_succ,thsC,this]
    have e1:(k+1)*3=k*3+3:=by omega
    have e2:(k+1+1)*3=(k+1)*3+3:=by omega
    rw[e2,e1]
    simp[thgC]
theorem thsC_len:∀(ts:List Doc.Thg) (ps:List (Value×Value)) (_:ts.length=ps.length),(thsC ts ps).length=ts.length*3:=by
 intro ts
 induction ts with
 |nil=>intro ps _;simp[thsC]
 |cons a ts ih=>
  intro ps h
  cases ps with
  |nil=>simp at h
  |cons q ps=>
   have:=ih ps (by simpa using h)
   simp only[thsC,List.length_append,this,List.length_cons]
   simp[thgC];omega
theorem erase_sub (ts:List Doc.Thg)(ps:List (Value×Value))(hl:ts.length=ps.length)(k:Nat)(hk:k<ts.length)(i:Nat)(hi:i<(ts.eraseIdx k).length)(hi':i<(ps.eraseIdx k).length):
  ∃j,∃(hj:j<ts.length) (hj':j<ps.length),(ts.eraseIdx k)[i]=ts[j]∧(ps.eraseIdx k)[i]=ps[j]:=by
 rw[List.length_eraseIdx] at hi
 simp only[hk,if_true] at hi
 by_cases h:i<k
 ·exact⟨i,by omega,by omega,by rw[List.getElem_eraseIdx_of_lt _ h],by rw[List.getElem_eraseIdx_of_lt _ h]⟩
 ·exact⟨i+1,by omega,by omega,by rw[List.getElem_eraseIdx_of_ge _ (by omega)],by rw[List.getElem_eraseIdx_of_ge _ (by omega)]⟩
section
variable {w:World}{F:Nat→Prop}{sb:Nat}{fs:List Doc.Fld}{space:Int}{ts:List Doc.Thg}{fv tv:Value}{ps:List (Value×Value)}
theorem thsC_one (h:RefAt w F sb fs space ts fv tv ps):∀u∈thsC ts ps,u.oneCell'=true:=by
 have key:∀(ts:List Doc.Thg) (ps:List (Value×Value)),(∀p∈ps,p.1.oneCell'=true∧p.2.oneCell'=true)→∀u∈thsC ts ps,u.oneCell'=true:=by
  intro ts
  induction ts with
  |nil=>intro ps _ u hu;simp[thsC] at hu
  |cons a ts ih=>
   intro ps hp u hu
   cases ps with
   |nil=>simp[thsC] at hu
   |cons q ps=>
    rcases List.mem_append.1 hu with hu|hu
    ·simp only[thgC,List.mem_cons,List.not_mem_nil,or_false] at hu
     have:=hp q (by simp)
     rcases hu with rfl|rfl|rfl
     ·rfl
     ·exact this.1
     ·exact this.2
    ·exact ih ps (fun p hp'=>hp p (by simp[hp'])) u hu
 refine key ts ps (fun p hp=>?_)
 obtain⟨i,hi,rfl⟩:=List.getElem_of_mem hp
 obtain⟨r1,r2⟩:=h.each i (by rw[h.len];exact hi) hi
 obtain⟨b1,c1,e1⟩:=row_slice r1
 obtain⟨b2,c2,e2⟩:=row_slice r2
 rw[e1,e2];exact⟨rfl,rfl⟩
theorem rdrop_none (h:RefAt w F sb fs space ts fv tv ps)(hl:ts.length≤9223372036854775807)(id:Int)(hn:Doc.idxT ts id=none):
  Calls Tryz.prog 57 #[.pointer (some ⟨sb,0,none⟩),.int .i64 id] w fun e w'=>e=.returned (.int .i64 4)∧w'=w:=by
 obtain⟨c0,c1,c2⟩:=st_cells h.blk
 have HC:Hid _:=at_any sb tv c2 ts ps h.len hl (rowSl h.thg) id
 have HN:Hid (Doc.idxT ts id=none):=hn
 clear hn
 go_enter Tryz.func57,Tryz.ntmps57
 go_wp2_with fail
 refine Calls.mono HC.out ?_
 rw[HN.out]
 rintro e w1 ⟨rfl,hw⟩
 subst hw
 simp only[Doc.placeI]
 go_wp2_with fail
 go_ret
 exact⟨rfl,rfl⟩
theorem RefAt.row {w5:World}{v6:Value}{ts':List Doc.Thg}{ps':List (Value×Value)}(h:RefAt w F sb fs space ts fv tv ps)(hb:Below w.heap.size w w5)(hlen:ts'.length=ps'.length)
  (hown:w5.ownsRow w.heap.size 237 3 v6 ts'.length (thsC ts' ps'))
  (hsub:∀i (hi:i<ts'.length) (hi':i<ps'.length),∃j,∃(hj:j<ts.length) (hj':j<ps.length),ts'[i]=ts[j]∧ps'[i]=ps[j]):
  w5.heap[sb]? =some (.cells #[fv,.int .i64 space,tv] 193 (0,0))∧RefSt (w5.setCell ⟨sb,2,none⟩ v6) (fun k=>F k∨w.heap.size≤k) sb fs space ts'∧Md F w (w5.setCell ⟨sb,2,none⟩ v6):=by
 have hl:=lt_block h.blk
 have hsb:=(hb.block sb hl).trans h.blk
 have other:∀j,j≠sb→(w5.setCell ⟨sb,2,none⟩ v6).heap[j]? =w5.heap[j]? :=fun j hj=>Below.heap_setCell _ _ _ _ hj
 have row1:∀{e size n:Nat} {v:Value} {cs:List Value},w.ownsRow 0 e size v n cs→e≠193→(w5.setCell ⟨sb,2,none⟩ v6).ownsRow 0 e size v n cs:=by
  intro e size n v cs hr h1
  refine rowKept hr (fun j u ej hu=>?_)
  obtain⟨_,cs',t⟩:=own_type hr ej
  rw[other j (by rintro rfl;rw[h.blk] at t;simp at t;exact h1 t.2.symm),hb.block j (lt_block hu)]
  exact hu
 refine⟨hsb,⟨fv,v6,ps',set_blk' hsb 2 _,row1 h.fld (by decide),?_,hlen,?_,.inl h.inS,fun k e=>.inl (h.inF k e),fun k e=>.inr (own_ge hown e),?_⟩,(Md.ofBelow hb).set _ (.inl h.inS)⟩
 ·have h0:w5.ownsRow 0 237 3 v6 ts'.length (thsC ts' ps'):=by
   obtain⟨a,b⟩:=hown
   refine⟨a,?_⟩
   rcases b with b|⟨g',cap',cur',e1,_,r⟩
   ·exact .inl b
   ·exact .inr ⟨g',cap',cur',e1,Nat.zero_le _,r⟩
  refine rowKept h0 (fun j u ej hu=>?_)
  have:=own_ge hown ej
  rw[other j (by omega)]
  exact hu
 ·intro i hi hi'
  obtain⟨j,hj,hj',e1,e2⟩:=hsub i hi hi'
  obtain⟨r1,r2⟩:=h.each j hj hj'
  rw[e1,e2]
  exact⟨row1 r1 (by decide),row1 r2 (by decide)⟩
 ·intro i hi k e
  obtain⟨j,hj,hj',_,e2⟩:=hsub i (by rw[hlen];exact hi) hi
  rw[e2] at e
  exact .inl (h.inE j hj' k e)
set_option maxHeartbeats 2000000 in
theorem rdrop_some (h:RefAt w F sb fs space ts fv tv ps)(hl:ts.length≤1000000)(id:Int)(k:Nat)(hn:Doc.idxT ts id=some k):
  Calls Tryz.prog 57 #[.pointer (some ⟨sb,0,none⟩),.int .i64 id] w fun e w'=>e=.returned (.int .i64 0)∧RefSt w' (fun k=>F k∨w.heap.size≤k) sb fs space (ts.eraseIdx k)∧Md F w w':=by
 obtain⟨c0,c1,c2⟩:=st_cells h.blk
 obtain⟨hk,_⟩:=List.findIdx?_eq_some_iff_getElem.1 hn
 obtain⟨i2,ht,hx0,hx1,hx2⟩:=info_parts Tryz.infoThgT
 have HC:Hid _:=at_any sb tv c2 ts ps h.len (by omega) (rowSl h.thg) id
 have HN:Hid (Doc.idxT ts id=some k):=hn
 have HA:Hid _:=h
 have f2:=blk_free h.blk 2
 have hlt:=lt_block h.blk
 obtain⟨g,cap,rfl⟩:=own_slice' h.thg (by omega)
 obtain⟨cur,hcur,hcap,hcz⟩:=own_block h.thg
 have hgl:=lt_block hcur
 have hcells:=h.thg.cells (g:=g) rfl
 have HCE:Hid _:=hcells
 have HONE:Hid _:=thsC_one h
 have hL:=thsC_len ts ps h.len
 clear hn h hcells hcur
 go_enter Tryz.func57,Tryz.ntmps57
 go_wp2_with fail
 refine Calls.mono HC.out ?_
 rw[HN.out]
 rintro e w1 ⟨rfl,hw⟩
 subst hw
 simp only[Doc.placeI]
 clear HC
 go_wp2_with (at_builtin;refine wpList_append_own_at _ rfl (.tmp 12) (.tmp 18) 191 rfl w1.heap.size 237 i2 _ 3 56 Tryz.underlying191 ht hx0 hx1 hx2 rfl (by decide) _ _ _ rfl (World.ownsRow_nil _ _ _ _) ⟨g,0,none⟩ k cap ((thsC ts ps).take (k*3)) rfl ?c0 ?c1 ?c2 ?c3 ?c4 ?c5 ?_)
 case c0=>rw[List.length_take,hL];omega
 case c1=>
  intro j u hj
  refine HCE.out j u ?_
  rw[List.getElem?_take] at hj
  split at hj
  ·exact hj
  ·cases hj
 case c2=>exact fun u hu=>HONE.out u (List.mem_of_mem_take hu)
 case c3=>unfold maxLen;omega
 case c4=>omega
 case c5=>exact Nat.le_refl _
 intro v2 w2 hown2 hgrow2 _ _
 have hown2:w2.ownsRow w1.heap.size 237 3 v2 k ((thsC ts ps).take (k*3)):=by simpa using hown2
 have hb2:Below w1.heap.size w1 w2:=(Below.refl _ _).grown hgrow2 (Nat.le_refl _) (fun j e=>by cases e)
 obtain⟨vb,vc,rfl⟩:=row_slice hown2
 have d2:=(hb2.cell (p:=⟨sb,2,none⟩) hlt).trans c2
 clear hgrow2 c2
 by_cases hcc:cap=k+1
 ·go_wp2_with (at_builtin;refine wpList_append_own_at _ rfl (.tmp 21) (.tmp 28) 191 rfl w1.heap.size 237 i2 _ 3 56 Tryz.underlying191 ht hx0 hx1 hx2 rfl (by decide) _ _ _ rfl hown2 ⟨g,0,none⟩ (ts.length-(k+1)) 0 ((thsC ts ps).drop ((k+1)*3)) rfl ?e0 ?e1 ?e2 ?e3 ?e4 ?e5 ?_)
  case e1=>
   intro j u hj
   rw[List.getElem?_eq_none (by rw[List.length_drop,hL];omega)] at hj
   cases hj
  case e0=>rw[List.length_drop,hL];omega
  case e2=>exact fun u hu=>HONE.out u (List.mem_of_mem_drop hu)
  case e3=>unfold maxLen;omega
  case e4=>omega
  case e5=>exact hb2.size
  intro v3 w3 hown3 hgrow3 _ _
  have hlen3:k+(ts.length-(k+1))=(ts.eraseIdx k).length:=by rw[List.length_eraseIdx];simp[hk];omega
  rw[←thsC_erase ts ps HA.out.len k hk,hlen3] at hown3
  have hb3:Below w1.heap.size w1 w3:=hb2.grown hgrow3 hb2.size (fun j e=>own_ge hown2 e)
  obtain⟨q1,q2,q3⟩:=RefAt.row (ts':=ts.eraseIdx k) (ps':=ps.eraseIdx k) HA.out hb3 (by rw[List.length_eraseIdx,List.length_eraseIdx,HA.out.len]) hown3 (fun i hi hi'=>erase_sub ts ps HA.out.len k hk i hi hi')
  obtain⟨xb,xc,rfl⟩:=row_slice hown3
  have d3:=blk_cell q1 2 _ rfl
  have f3:=blk_free q1 2
  have HQ2:Hid _:=q2
  have HQ3:Hid _:=q3
  clear hown3 hgrow3 hb3 q1 q2 q3 hown2
  go_wp2_with fail
  go_ret
  exact⟨rfl,HQ2.out,HQ3.out⟩
 ·have hcc2:(cap==k+1)=false:=by simpa using hcc
  go_wp2_with (at_builtin;refine wpList_append_own_at _ rfl (.tmp 21) (.tmp 28) 191 rfl w1.heap.size 237 i2 _ 3 56 Tryz.underlying191 ht hx0 hx1 hx2 rfl (by decide) _ _ _ rfl hown2 ⟨g,(k+1)*3,none⟩ (ts.length-(k+1)) (cap-(k+1)) ((thsC ts ps).drop ((k+1)*3)) rfl ?e0 ?e1 ?e2 ?e3 ?e4 ?e5 ?_)
  case e1=>
   intro j u hj
   rw[List.getElem?_drop] at hj
   have h1:=HCE.out _ u hj
   rw[addr_add2,Nat.zero_add] at h1
   rw[addr_add2]
   exact(hb2.cell (p:=⟨g,(k+1)*3+j,none⟩) hgl).trans h1
  case e0=>rw[List.length_drop,hL];omega
  case e2=>exact fun u hu=>HONE.out u (List.mem_of_mem_drop hu)
  case e3=>unfold maxLen;omega
  case e4=>omega
  case e5=>exact hb2.size
  intro v3 w3 hown3 hgrow3 _ _
  have hlen3:k+(ts.length-(k+1))=(ts.eraseIdx k).length:=by rw[List.length_eraseIdx];simp[hk];omega
  rw[←thsC_erase ts ps HA.out.len k hk,hlen3] at hown3
  have hb3:Below w1.heap.size w1 w3:=hb2.grown hgrow3 hb2.size (fun j e=>own_ge hown2 e)
  obtain⟨q1,q2,q3⟩:=RefAt.row (ts':=ts.eraseIdx k) (ps':=ps.eraseIdx k) HA.out hb3 (by rw[List.length_eraseIdx,List.length_eraseIdx,HA.out.len]) hown3 (fun i hi hi'=>erase_sub ts ps HA.out.len k hk i hi hi')
  obtain⟨xb,xc,rfl⟩:=row_slice hown3
  have d3:=blk_cell q1 2 _ rfl
  have f3:=blk_free q1 2
  have HQ2:Hid _:=q2
  have HQ3:Hid _:=q3
  clear hown3 hgrow3 hb3 q1 q2 q3 hown2
  go_wp2_with fail
  go_ret
  exact⟨rfl,HQ2.out,HQ3.out⟩
end
end Go.Proofs.YtbnelaoeblhndaaGreatDoor
