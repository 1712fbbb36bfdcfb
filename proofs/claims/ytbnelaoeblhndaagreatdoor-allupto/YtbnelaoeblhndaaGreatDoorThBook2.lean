import Derived.Test.YtbnelaoeblhndaaGreatDoorThN8
import Derived.Test.YtbnelaoeblhndaaGreatDoorThCopyV
import Derived.Test.YtbnelaoeblhndaaGreatDoorSynRead6
namespace Go.Proofs.YtbnelaoeblhndaaGreatDoor
open Go.RowKit
set_option maxRecDepth 100000
theorem wpList_append_or {P:Program}(w:World){ops:Array Oper}{rest:List Oper}{o:Oper}{a:Act}{Q:Exit→Act→World→Prop}(hgd:o.guard=none)(s x:Operand)(t:TypeId)
  (ho:o.op=.call {callee:=.builtin .append,args:=#[s,x],argTypes:=#[t,t]})
  (base:Nat) (e:TypeId) (i:TypeInfo) (z:Value) (size bytes:Nat) (ht:P.underlying t=some (.slice e)) (hi:P.info? e=some i) (hz:i.zero=some z)
  (hsize:i.size=size) (hby:i.bytes=bytes) (hzs:z.cells.size=size) (hsz:0<size)
  (v:Value) (n:Nat) (xs:List Value) (hs:a.eval s=v) (hown:w.ownsRow base e size v n xs)
  (ad:Addr) (m c:Nat) (news:List Value) (hx:a.eval x=.slice (some ad) m c) (hm:0<m) (hl:news.length=m*size) (hnews:∀j u,news[j]? =some u→w.cell? (ad.add j)=some u) (h1:∀u∈news,u.oneCell'=true)
  (h63:n+m≤maxLen) (hbytes:(n+m)*bytes≤140737488355328) (hbase:base≤w.heap.size)
  (h:∀g cap w',w'.ownsRow base e size (.slice (some ⟨g,0,none⟩) (n+m) cap) (n+m) (xs++news)→((v=.slice (some ⟨g,0,none⟩) n cap∧w.grownBy w' (some g))∨(g=w.heap.size∧Below w.heap.size w w'))→wpList P ops Q rest (a.put o.dst (.slice (some ⟨g,0,none⟩) (n+m) cap)) w'):
  wpList P ops Q (o::rest) a w:=by
 refine wpList_plain hgd fun K hK=>?_
 obtain⟨v',w',hr,h2,h3,_,h5⟩:=run_append_own_at (P:=P) w base t o.type e i z size bytes ht hi hz hsize hby hzs hsz v n xs hown ad m c news hl hnews h1 h63 hbytes hbase
 obtain⟨g,cap,rfl⟩:=own_slice' h2 (by omega)
 have key:(v=.slice (some ⟨g,0,none⟩) n cap∧w.grownBy w' (some g))∨(g=w.heap.size∧Below w.heap.size w w'):=by
  rcases hown.2 with⟨rfl,rfl⟩|⟨g0,cap0,cur,rfl,hbg,hg0,hnc,hcm,hcs,htake⟩
  ·refine .inr ⟨?_,(Below.refl _ _).grown h3 (Nat.le_refl _) (fun k e=>by cases e)⟩
   rcases h5 with h5|h5
   ·cases h5
   ·simpa[Value.ownBlock] using h5
  ·by_cases hroom:n+m≤cap0
   ·have hfit:n*i.size+news.length≤cur.size:=by rw[hl,hsize,hcs,←Nat.add_mul];exact Nat.mul_le_mul_right _ hroom
    have hr2:=run_append_room (P:=P) w t o.type e i ht hi g0 n cap0 cur hg0 ad m c news (by rw[hsize];exact hl) hnews h1 hroom hfit
    rw[hr] at hr2
    simp only[Result.ok.injEq,Value.slice.injEq,Option.some.injEq] at hr2
    have hk:g=g0:=congrArg Addr.block hr2.1.1
    have hc:cap=cap0:=hr2.1.2.2
    subst hk hc
    exact .inl ⟨rfl,h3⟩
   ·have hr2:=run_append_grow (P:=P) w t o.type e i z ht hi hz ⟨g0,0,none⟩ n cap0 xs (by rw[hsize];exact hown.1) (hown.cells (g:=g0) rfl) ad m c news (by rw[hsize];exact hl) hnews (by omega) (by simp only[maxLen] at h63;omega) (by rw[hby];exact growslice_fits (by omega) hbytes)
    rw[hr] at hr2
    simp only[Result.ok.injEq,Value.slice.injEq,Option.some.injEq] at hr2
    have hk:g=w.heap.size:=congrArg Addr.block hr2.1.1
    refine .inr ⟨hk,?_⟩
    rw[hr2.2]
    exact(Below.refl w.heap.size w).drew.alloc (Nat.le_refl _) _
 unfold Oper.wp execOp
 simp only[ho,resolve,invoke,builtin,Sem.run_bind,Sem.run_pure,Result.andThen_ok,List.map_toArray,List.map_cons,List.map_nil,hs,hx,hr]
 exact hK _ _ (h g cap w' h2 key)
theorem flat_take {α:Type}(mk:List α)(size:Nat)(hs:mk.length=size):∀(k m:Nat),((List.replicate (k+m) mk).flatten).take (k*size)=(List.replicate k mk).flatten:=by
 intro k m
 rw[←List.replicate_append_replicate,List.flatten_append,List.take_left']
 simp[hs]
theorem row_marks {w w':World}{e size:Nat}{v r:Value}{n m k g cap:Nat}{mk:List Value}(hs:mk.length=size)(hv:w.ownsRow 0 e size v n (List.replicate n mk).flatten)(hr:w.ownsRow 0 e size r k (List.replicate k mk).flatten)(hk:k≤n+m)
  (h':w'.ownsRow 0 e size (.slice (some ⟨g,0,none⟩) (n+m) cap) (n+m) (List.replicate (n+m) mk).flatten) (ho:(v=.slice (some ⟨g,0,none⟩) n cap∧w.grownBy w' (some g))∨(g=w.heap.size∧Below w.heap.size w w')):
  w'.ownsRow 0 e size r k (List.replicate k mk).flatten:=by
 rcases hr.2 with⟨h0,h1⟩|⟨gr,capr,curr,rfl,h0,h1,h2,h3,h4,h5⟩
 ·exact⟨hr.1,.inl ⟨h0,h1⟩⟩
 rcases ho with⟨rfl,hg⟩|⟨rfl,hb⟩
 ·by_cases e1:gr=g
  ·subst e1
   obtain⟨cv,q1,q2,q3⟩:=own_block hv
   rw[h1] at q1;cases q1
   obtain⟨cur',p1,p2,p3⟩:=own_block h'
   refine⟨hr.1,.inr ⟨gr,capr,cur',rfl,h0,p1,h2,h3,by omega,?_⟩⟩
   obtain⟨d,hd⟩:∃d,n+m=k+d:=⟨n+m-k,by omega⟩
   have:cur'.toList.take ((n+m)*size)=(List.replicate (n+m) mk).flatten:=by
    rcases h'.2 with⟨e2,_⟩|⟨g2,c2,cur2,e2,_,a1,_,_,_,a2⟩
    ·cases e2
    ·cases e2;rw[p1] at a1;cases a1;exact a2
   rw[hd] at this
   have h6:=congrArg (List.take (k*size)) this
   rw[flat_take mk size hs k d,List.take_take,Nat.min_eq_left (Nat.mul_le_mul_right _ (by omega))] at h6
   exact h6
  ·exact⟨hr.1,.inr ⟨gr,capr,curr,rfl,h0,(hg.block gr (lt_block h1) (fun e=>e1 (Option.some.inj e))).trans h1,h2,h3,h4,h5⟩⟩
 ·exact⟨hr.1,.inr ⟨gr,capr,curr,rfl,h0,(hb.block gr (lt_block h1)).trans h1,h2,h3,h4,h5⟩⟩
structure BookN (w:World)(F:Nat→Prop)(nsv knv:Value)(rows:List Value)(marks:List Int):Prop where
 ns:w.ownsRow 0 33 1 nsv rows.length rows
 kn:w.ownsRow 0 3 1 knv marks.length (intC marks)
 len:rows.length=marks.length
 each:∀i (h:i<rows.length) (h':i<marks.length),∃n,w.ownsRow 0 3 1 rows[i] n (List.replicate n (.int .i64 marks[i]))∧∀k,rows[i].ownBlock=some k→F k∧knv.ownBlock≠some k
 inN:∀k,nsv.ownBlock=some k→F k
 inK:∀k,knv.ownBlock=some k→F k
section
variable {w:World}{F:Nat→Prop}{wb:Nat}{lv nsv knv vsv kvv hsv khv:Value}{rows:List Value}{marks:List Int}
theorem rep_flat (n:Nat)(u:Value):(List.replicate n [u]).flatten=List.replicate n u:=by
 induction n with
 |zero=>rfl
 |succ n ih=>rw[List.replicate_succ,List.flatten_cons,ih];rfl
theorem appI {W w1:World}{lb:Option Addr}{lc n m g cap S:Nat}{u:Value}{ms:List Value}(hl:W.ownsRow 0 3 1 (.slice lb n lc) n (List.replicate n u))(hown:w1.ownsRow 0 3 1 (.slice (some ⟨g,0,none⟩) (n+m) cap) (n+m) (List.replicate n u++ms))(hms:ms=List.replicate m u)(hS:W.heap.size=S)
  (hor:(lb=some ⟨g,0,none⟩∧lc=cap)∧W.grownBy w1 (some g)∨g=S∧Below S W w1):
  (∀r k,k≤n+m→W.ownsRow 0 3 1 r k (List.replicate k u)→w1.ownsRow 0 3 1 r k (List.replicate k u))∧w1.ownsRow 0 3 1 (.slice (some ⟨g,0,none⟩) (n+m) cap) (n+m) (List.replicate (n+m) u)∧Md (fun k=>(Value.slice lb n lc).ownBlock=some k) W w1∧((Value.slice lb n lc).ownBlock=some g∨W.heap.size≤g):=by
 subst hS
 rw[hms,List.replicate_append_replicate] at hown
 have hor':(Value.slice lb n lc=.slice (some ⟨g,0,none⟩) n cap∧W.grownBy w1 (some g))∨(g=W.heap.size∧Below W.heap.size W w1):=by
  rcases hor with⟨⟨rfl,rfl⟩,h⟩|h
  ·exact .inl ⟨rfl,h⟩
  ·exact .inr h
 refine⟨fun r k hk hr=>?_,hown,?_,?_⟩
 ·have:=row_marks (mk:=[u]) (m:=m) rfl (by rw[rep_flat];exact hl) (by rw[rep_flat];exact hr) hk (by rw[rep_flat];exact hown) hor'
  rw[rep_flat] at this
  exact this
 ·rcases hor with⟨⟨rfl,rfl⟩,h⟩|⟨_,h⟩
  ·exact(Md.refl _ W).grown h (fun k e=>.inl e)
  ·exact Md.ofBelow h
 ·rcases hor with⟨⟨rfl,rfl⟩,_⟩|⟨h,_⟩
  ·exact .inl rfl
  ·exact .inr (by omega)
theorem orMd {W w1:World}{lb:Option Addr}{lc n g cap S:Nat}(hS:W.heap.size=S)(hor:(lb=some ⟨g,0,none⟩∧lc=cap)∧W.grownBy w1 (some g)∨g=S∧Below S W w1):
  Md (fun k=>(Value.slice lb n lc).ownBlock=some k) W w1∧((Value.slice lb n lc).ownBlock=some g∨W.heap.size≤g):=by
 subst hS
 refine⟨?_,?_⟩
 ·rcases hor with⟨⟨rfl,rfl⟩,h⟩|⟨_,h⟩
  ·exact(Md.refl _ W).grown h (fun k e=>.inl e)
  ·exact Md.ofBelow h
 ·rcases hor with⟨⟨rfl,rfl⟩,_⟩|⟨h,_⟩
  ·exact .inl rfl
  ·exact .inr (by omega)
theorem Tryz.infoSlI:(Tryz.prog.info? 33).map (fun i=>(i.zero,i.size,i.bytes))=some (some (.slice none 0 0),1,24):=by kernel_rfl
def worldO (lv nsv knv vsv kvv hsv khv:Value):Obj:=.cells #[lv,nsv,knv,vsv,kvv,hsv,khv] 83 (0,0)
set_option maxHeartbeats 2000000 in
theorem numbers_any (hw:w.heap[wb]? =some (worldO lv nsv knv vsv kvv hsv khv))(hb:BookN w F nsv knv rows marks)(hF:¬F wb)(hrl:rows.length≤1000000000)(xs:List Int)(l:Value)(hl:w.ownsRow 0 3 1 l xs.length (intC xs))(hxl:xs.length≤1000000000)(hlF:∀k,l.ownBlock=some k→¬F k):
  Calls Tryz.prog 99 #[.pointer (some ⟨wb,1,none⟩),l] w fun e w'=>e=.returned (.tuple #[])∧∃nsv' knv' rows' marks',w'.heap[wb]? =some (worldO lv nsv' knv' vsv kvv hsv khv)∧BookN w' (fun k=>F k∨l.ownBlock=some k∨w.heap.size≤k) nsv' knv' rows' marks'∧rows'.length=rows.length+4∧Md (fun k=>k=wb∨F k∨l.ownBlock=some k) w w':=by
 obtain⟨i0,hi,hz0,hz1,hz2⟩:=info_parts Tryz.infoIntT
 have c1:w.cell? ⟨wb,1,none⟩=some nsv:=blk_cell hw 1 _ rfl
 obtain⟨b1,m1,e1⟩:=row_slice hb.ns
 subst e1
 obtain⟨lb,lc,e2⟩:=row_slice hl
 subst e2
 obtain⟨b5,m5,e3⟩:=row_slice hb.kn
 subst e3
 have hml:=hb.len
 obtain⟨q,hq,hql⟩:∃q:Nat,(rows.length:Int) / 4=(q:Int)∧q≤1000000000:=⟨rows.length / 4,by omega,by omega⟩
 have hwq:IntKind.i64.wrap (q:Int)=(q:Int):=by rw[IntKind.wrap_i64];omega
 have HW:Hid _:=hw
 have HB:Hid _:=hb
 have HL:Hid _:=hl
 have hwl:=lt_block hw
 have hmk5:marks.length≤1000000000:=by omega
 clear hw hb hl hml
 go_enter Tryz.func99,Tryz.ntmps99
 go_wp2_with fail
 obtain⟨mk,HMK⟩:∃mk:Int,Hid (mk= -20000000-(q:Int)):=⟨_,rfl⟩
 rw[←HMK.out]
 have HLF:Hid _:=hlF
 clear hq hql hwq c1 hlF
 go_loopw [5] (fun i wr=>∃k:Nat,k≤xs.length∧i=.int .i64 k∧Hid (wr.ownsRow 0 3 1 (.slice lb xs.length lc) xs.length (List.replicate k (.int .i64 mk)++(intC xs).drop k))∧Hid (Md (fun k=>(Value.slice lb xs.length lc).ownBlock=some k) w wr)) (fun i _=>xs.length-(intOf i).toNat)
 case atStart=>exact⟨0,Nat.zero_le _,rfl,HL.out,Md.refl _ _⟩
 case round=>
  obtain⟨k,hk,rfl,KR,KD⟩:=hrel
  by_cases hk2:k<xs.length
  ·obtain⟨vb,vc,hvb⟩:=own_slice' KR.out (by omega)
   obtain rfl:lb=some ⟨vb,0,none⟩:=by simp at hvb;exact hvb.1
   obtain rfl:lc=vc:=by simp at hvb;exact hvb
   clear hvb
   obtain⟨cur,hcur,hc1,hc2⟩:=own_block KR.out
   have hvl:=lt_block hcur
   have hkc:k<cur.size:=by omega
   obtain⟨u,z0⟩:∃u,wr.cell? ⟨vb,k,none⟩=some u:=⟨_,blk_cell hcur k _ (Array.getElem?_eq_getElem hkc)⟩
   have f0:=blk_free hcur k
   have HST:Hid ((wr.setCell ⟨vb,k,none⟩ (.int .i64 mk)).ownsRow 0 3 1 (.slice (some ⟨vb,0,none⟩) xs.length lc) xs.length (List.replicate (k+1) (.int .i64 mk)++(intC xs).drop (k+1))):=by
    rcases KR.out.2 with⟨e,_⟩|⟨g,cap,cu,e,p0,p1,p2,p3,p4,p5⟩
    ·cases e
    ·cases e
     refine⟨by simp[intC];omega,.inr ⟨vb,lc,_,rfl,p0,set_blk' p1 k _,p2,p3,by simpa using p4,?_⟩⟩
     rw[Array.toList_setIfInBounds,List.take_set,p5]
     apply List.ext_getElem?
     intro j
     rw[List.getElem?_set]
     simp only[List.getElem?_append,List.length_replicate,List.getElem?_replicate,List.getElem?_drop]
     have hil:(intC xs).length=xs.length:=by simp[intC]
     by_cases e1:k=j
     ·subst e1;simp[hil];omega
     ·by_cases e2:j<k
      ·simp[e1,e2,show j<k+1 by omega]
      ·simp[e1,e2,show ¬j<k+1 by omega,show k+(j-k)=k+1+(j-(k+1)) by omega]
   clear hcur hc1 hc2 hkc
   go_wp2_with fail
   go_roundw
   case rel=>exact⟨k+1,by omega,by go_num,HST,KD.out.set _ (.inl rfl)⟩
   case measure=>simp[intOf];omega
  ·obtain rfl:k=xs.length:=by omega
   obtain⟨n,hn⟩:∃n,n=xs.length:=⟨_,rfl⟩
   have KR0:Hid (wr.ownsRow 0 3 1 (.slice lb xs.length lc) xs.length (List.replicate xs.length (.int .i64 mk))):=by
    have:=KR.out
    rw[show(intC xs).drop xs.length=[] from List.drop_of_length_le (by simp[intC]),List.append_nil] at this
    exact this
   clear hn KR
   go_wp2_with (at_builtin;refine wpList_append_or _ rfl _ _ 33 rfl 0 3 i0 _ 1 8 Tryz.underlying33 hi hz0 hz1 hz2 rfl (by decide) _ _ _ rfl (row_below KR0.out ((Below.refl _ _).alloc (Nat.le_refl _) _)) ⟨wr.heap.size,0,none⟩ 1 1 [.int .i64 mk] rfl (by decide) rfl ?c1 ?c2 ?c3 ?c4 ?c5 ?_)
   case c1=>exact cells_new_at _ [.int .i64 mk] _ _ (by simp)
   case c2=>intro u hu;simp only[List.mem_cons,List.not_mem_nil,or_false] at hu;rw[hu];rfl
   case c3=>unfold maxLen;omega
   case c4=>omega
   case c5=>omega
   intro g1 p1 w1 own1 or1
   obtain⟨A1,B1,D1,E1⟩:=appI (row_below KR0.out ((Below.refl _ _).alloc (Nat.le_refl _) _)) own1 rfl (by simp) or1
   have HA0:Hid _:=A1 _ xs.length (by omega) (row_below KR0.out ((Below.refl _ _).alloc (Nat.le_refl _) _))
   have HB1:Hid _:=B1
   have HD1:Hid (Md (fun k=>(Value.slice lb xs.length lc).ownBlock=some k) w w1):=(KD.out.alloc _).trans D1
   have HE1:Hid ((Value.slice lb xs.length lc).ownBlock=some g1∨w.heap.size≤g1):=by
    rcases E1 with h|h
    ·exact .inl h
    ·have:=KD.out.size;exact .inr (by simp at h;omega)
   clear own1 or1 A1 B1 D1 E1
   go_wp2_with (at_builtin;refine wpList_append_or _ rfl _ _ 33 rfl 0 3 i0 _ 1 8 Tryz.underlying33 hi hz0 hz1 hz2 rfl (by decide) _ _ _ rfl (row_below HA0.out ((Below.refl _ _).alloc (Nat.le_refl _) _)) ⟨w1.heap.size,0,none⟩ 2 2 [.int .i64 mk,.int .i64 mk] rfl (by decide) rfl ?c1 ?c2 ?c3 ?c4 ?c5 ?_)
   case c1=>exact cells_new_at _ [.int .i64 mk,.int .i64 mk] _ _ (by simp)
   case c2=>intro u hu;simp only[List.mem_cons,List.not_mem_nil,or_false,or_self] at hu;rw[hu];rfl
   case c3=>unfold maxLen;omega
   case c4=>omega
   case c5=>omega
   intro g2 p2 w2 own2 or2
   obtain⟨A2,B2,D2,E2⟩:=appI (row_below HA0.out ((Below.refl _ _).alloc (Nat.le_refl _) _)) own2 rfl (by simp) or2
   have HA1:Hid _:=A2 _ xs.length (by omega) (row_below HA0.out ((Below.refl _ _).alloc (Nat.le_refl _) _))
   have HG1:Hid _:=A2 _ (xs.length+1) (by omega) (row_below HB1.out ((Below.refl _ _).alloc (Nat.le_refl _) _))
   have HB2:Hid _:=B2
   have HD2:Hid (Md (fun k=>(Value.slice lb xs.length lc).ownBlock=some k) w w2):=(HD1.out.alloc _).trans D2
   have HE2:Hid ((Value.slice lb xs.length lc).ownBlock=some g2∨w.heap.size≤g2):=by
    rcases E2 with h|h
    ·exact .inl h
    ·have:=HD1.out.size;exact .inr (by simp at h;omega)
   clear own2 or2 A2 B2 D2 E2 HA0 HB1 HD1
   go_wp2_with (at_builtin;refine wpList_append_or _ rfl _ _ 33 rfl 0 3 i0 _ 1 8 Tryz.underlying33 hi hz0 hz1 hz2 rfl (by decide) _ _ _ rfl (row_below HA1.out ((Below.refl _ _).alloc (Nat.le_refl _) _)) ⟨w2.heap.size,0,none⟩ 3 3 [.int .i64 mk,.int .i64 mk,.int .i64 mk] rfl (by decide) rfl ?c1 ?c2 ?c3 ?c4 ?c5 ?_)
   case c1=>exact cells_new_at _ [.int .i64 mk,.int .i64 mk,.int .i64 mk] _ _ (by simp)
   case c2=>intro u hu;simp only[List.mem_cons,List.not_mem_nil,or_false,or_self] at hu;rw[hu];rfl
   case c3=>unfold maxLen;omega
   case c4=>omega
   case c5=>omega
   intro g3 p3 w3 own3 or3
   obtain⟨A3,B3,D3,E3⟩:=appI (row_below HA1.out ((Below.refl _ _).alloc (Nat.le_refl _) _)) own3 rfl (by simp) or3
   have HL3:Hid _:=A3 _ xs.length (by omega) (row_below HA1.out ((Below.refl _ _).alloc (Nat.le_refl _) _))
   have HG3:Hid _:=A3 _ (xs.length+1) (by omega) (row_below HG1.out ((Below.refl _ _).alloc (Nat.le_refl _) _))
   have HH3:Hid _:=A3 _ (xs.length+2) (by omega) (row_below HB2.out ((Below.refl _ _).alloc (Nat.le_refl _) _))
   have HJ3:Hid _:=B3
   have HD3:Hid (Md (fun k=>(Value.slice lb xs.length lc).ownBlock=some k) w w3):=(HD2.out.alloc _).trans D3
   have HE3:Hid ((Value.slice lb xs.length lc).ownBlock=some g3∨w.heap.size≤g3):=by
    rcases E3 with h|h
    ·exact .inl h
    ·have:=HD2.out.size;exact .inr (by simp at h;omega)
   clear own3 or3 A3 B3 D3 E3 HA1 HG1 HB2 HD2
   have hnl:∀(k:Nat) (cu:Array Value) (T:TypeId) (fr:Nat×Nat),w.heap[k]? =some (.cells cu T fr)→T≠3→w3.heap[k]? =w.heap[k]? :=fun k cu T fr hk hT=>HD3.out.only k (lt_block hk) (fun e=>by
    obtain⟨_,cs',t⟩:=own_type HL.out e
    rw[hk] at t;cases t;exact hT rfl)
   have hw3:w3.heap[wb]? =some (worldO lv (.slice b1 rows.length m1) (.slice b5 marks.length m5) vsv kvv hsv khv):=(hnl wb _ _ _ HW.out (by decide)).trans HW.out
   have hns3:w3.ownsRow 0 33 1 (.slice b1 rows.length m1) rows.length rows:=rowKept HB.out.ns (fun k _ ek ho=>by
    obtain⟨_,cs',t⟩:=own_type HB.out.ns ek
    exact(hnl k _ _ _ t (by decide)).trans ho)
   have d1:w3.cell? ⟨wb,1,none⟩=some (.slice b1 rows.length m1):=blk_cell hw3 1 _ rfl
   obtain⟨i1,hi1,hy0,hy1,hy2⟩:=info_parts Tryz.infoSlI
   have HNS3:Hid _:=hns3
   have HW3:Hid _:=hw3
   have hwl3:=lt_block hw3
   clear hns3 hw3 hnl
   go_wp2_with (at_builtin;refine wpList_append_or _ rfl _ _ 77 rfl 0 33 i1 _ 1 24 Tryz.underlying77 hi1 hy0 hy1 hy2 rfl (by decide) _ _ _ rfl (row_below HNS3.out ((Below.refl _ _).alloc (Nat.le_refl _) _)) ⟨w3.heap.size,0,none⟩ 4 4 [.slice lb xs.length lc,.slice (some ⟨g1,0,none⟩) (xs.length+1) p1,.slice (some ⟨g2,0,none⟩) (xs.length+2) p2,.slice (some ⟨g3,0,none⟩) (xs.length+3) p3] rfl (by decide) rfl ?c1 ?c2 ?c3 ?c4 ?c5 ?_)
   case c1=>exact cells_new_at _ [.slice lb xs.length lc,.slice (some ⟨g1,0,none⟩) (xs.length+1) p1,.slice (some ⟨g2,0,none⟩) (xs.length+2) p2,.slice (some ⟨g3,0,none⟩) (xs.length+3) p3] _ _ (by simp)
   case c2=>intro u hu;simp only[List.mem_cons,List.not_mem_nil,or_false] at hu;rcases hu with rfl|rfl|rfl|rfl<;>rfl
   case c3=>unfold maxLen;omega
   case c4=>omega
   case c5=>omega
   intro g4 p4 w4 own4 or4
   obtain⟨D4,E4⟩:=orMd (n:=rows.length) (by simp) or4
   have hn4:∀(k:Nat) (cu:Array Value) (T:TypeId) (fr:Nat×Nat),w3.heap[k]? =some (.cells cu T fr)→T≠33→w4.heap[k]? =w3.heap[k]? :=fun k cu T fr hk hT=>by
    have hkl:=lt_block hk
    rw[D4.only k (by simp;omega) (fun e=>?_),Below.heap_alloc _ _ _ hkl]
    obtain⟨_,cs',t⟩:=own_type HNS3.out e
    rw[hk] at t;cases t;exact hT rfl
   have hw4:w4.heap[wb]? =some (worldO lv (.slice b1 rows.length m1) (.slice b5 marks.length m5) vsv kvv hsv khv):=(hn4 wb _ _ _ HW3.out (by decide)).trans HW3.out
   have d4:=blk_cell hw4 1 _ rfl
   have f4:=blk_free hw4 1
   have hwl4:=lt_block hw4
   obtain⟨w5,HW5⟩:∃w5,Hid (w5=w4.setCell ⟨wb,1,none⟩ (.slice (some ⟨g4,0,none⟩) (rows.length+4) p4)):=⟨_,rfl⟩
   have hb5:w5.heap[wb]? =some (worldO lv (.slice (some ⟨g4,0,none⟩) (rows.length+4) p4) (.slice b5 marks.length m5) vsv kvv hsv khv):=by rw[HW5.out];exact set_blk' hw4 1 _
   have ho5:∀k,k≠wb→w5.heap[k]? =w4.heap[k]? :=fun k hk=>by rw[HW5.out];exact Below.heap_setCell _ _ _ _ hk
   have hz5:w5.heap.size=w4.heap.size:=by rw[HW5.out];simp
   have hI:∀{k:Nat} {cu:Array Value} {fr:Nat×Nat},w3.heap[k]? =some (.cells cu 3 fr)→w5.heap[k]? =w3.heap[k]? :=fun {k cu fr} hk=>by
    rw[ho5 k (by rintro rfl;rw[HW3.out] at hk;cases hk),hn4 k _ _ _ hk (by decide)]
   have rowI:∀{r:Value} {n:Nat} {cs:List Value},w3.ownsRow 0 3 1 r n cs→w5.ownsRow 0 3 1 r n cs:=fun {r n cs} hr=>rowKept hr (fun k _ ek ho=>by
    obtain⟨_,cs',t⟩:=own_type hr ek
    exact(hI t).trans ho)
   have hnk:∀k,(Value.slice b5 marks.length m5).ownBlock=some k→(Value.slice lb xs.length lc).ownBlock≠some k:=fun k e1 e2=>HLF.out k e2 (HB.out.inK k e1)
   have hkn3:w3.ownsRow 0 3 1 (.slice b5 marks.length m5) marks.length (intC marks):=rowKept HB.out.kn (fun k _ ek ho=>(HD3.out.only k (ownLt HB.out.kn ek) (hnk k ek)).trans ho)
   have HKN5:Hid _:=rowI hkn3
   have d5:=blk_cell hb5 2 _ rfl
   have HNS5:Hid (w5.ownsRow 0 33 1 (.slice (some ⟨g4,0,none⟩) (rows.length+4) p4) (rows.length+4) (rows++[.slice lb xs.length lc,.slice (some ⟨g1,0,none⟩) (xs.length+1) p1,.slice (some ⟨g2,0,none⟩) (xs.length+2) p2,.slice (some ⟨g3,0,none⟩) (xs.length+3) p3])):=rowKept own4 (fun k _ ek ho=>by
    obtain⟨_,cs',t⟩:=own_type own4 ek
    rw[ho5 k (by rintro rfl;rw[hw4] at t;cases t)];exact ho)
   have hs43:w3.heap.size+1≤w4.heap.size:=by have:=D4.size;simpa using this
   have HD5:Hid (Md (fun k=>k=wb∨F k∨(Value.slice lb xs.length lc).ownBlock=some k) w w5):=by
    rw[HW5.out]
    exact(((HD3.out.mono (fun k hk=>.inr (.inr hk))).alloc _).trans (D4.mono (fun k hk=>.inr (.inl (HB.out.inN k hk))))).set _ (.inl (.inl rfl))
   have HE4:Hid ((Value.slice b1 rows.length m1).ownBlock=some g4∨w.heap.size≤g4):=by
    rcases E4 with h|h
    ·exact .inl h
    ·have:=HD3.out.size;exact .inr (by simp at h;omega)
   have HB5:Hid _:=hb5
   have HRI:Hid (∀(r:Value) (n:Nat) (cs:List Value),w3.ownsRow 0 3 1 r n cs→w5.ownsRow 0 3 1 r n cs):=fun r n cs hr=>rowI hr
   have HNK:Hid _:=hnk
   have hwl5:=lt_block hb5
   clear own4 or4 D4 E4 hn4 hw4 hb5 ho5 hI rowI hkn3 hnk d1
   have HKN6:Hid ((w4.setCell ⟨wb,1,none⟩ (.slice (some ⟨g4,0,none⟩) (rows.length+4) p4)).ownsRow 0 3 1 (.slice b5 marks.length m5) marks.length (intC marks)):=by rw[←HW5.out];exact HKN5.out
   have d6:(w4.setCell ⟨wb,1,none⟩ (.slice (some ⟨g4,0,none⟩) (rows.length+4) p4)).cell? ⟨wb,2,none⟩=some (.slice b5 marks.length m5):=by rw[←HW5.out];exact d5
   clear d5
   go_wp2_with (at_builtin;refine wpList_append_or _ rfl _ _ 33 rfl 0 3 i0 _ 1 8 Tryz.underlying33 hi hz0 hz1 hz2 rfl (by decide) _ _ _ rfl (row_below HKN6.out ((Below.refl _ _).alloc (Nat.le_refl _) _)) ⟨w4.heap.size,0,none⟩ 4 4 [.int .i64 mk,.int .i64 mk,.int .i64 mk,.int .i64 mk] rfl (by decide) rfl ?c1 ?c2 ?c3 ?c4 ?c5 ?_)
   case c1=>exact cells_new_at _ [.int .i64 mk,.int .i64 mk,.int .i64 mk,.int .i64 mk] _ _ (by simp)
   case c2=>intro u hu;simp only[List.mem_cons,List.not_mem_nil,or_false,or_self] at hu;rw[hu];rfl
   case c3=>unfold maxLen;omega
   case c4=>omega
   case c5=>omega
   intro g6 p6 w6 own6 or6
   rw[←HW5.out] at or6
   obtain⟨D6,E6⟩:=orMd (n:=marks.length) (by simp[hz5]) or6
   have hkl:∀k,(Value.slice b5 marks.length m5).ownBlock=some k→k<w5.heap.size:=fun k e=>ownLt HKN5.out e
   have hn6:∀k,k<w5.heap.size→(Value.slice b5 marks.length m5).ownBlock≠some k→w6.heap[k]? =w5.heap[k]? :=fun k hk hne=>by
    rw[D6.only k (by simp;omega) hne,Below.heap_alloc _ _ _ hk]
   have hw6:w6.heap[wb]? =some (worldO lv (.slice (some ⟨g4,0,none⟩) (rows.length+4) p4) (.slice b5 marks.length m5) vsv kvv hsv khv):=(hn6 wb hwl5 (fun e=>by
    obtain⟨_,cs',t⟩:=own_type HKN5.out e
    rw[HB5.out] at t;cases t)).trans HB5.out
   have d7:=blk_cell hw6 2 _ rfl
   have f7:=blk_free hw6 2
   have hwl6:=lt_block hw6
   have HO6:Hid _:=own6
   have HW6:Hid _:=hw6
   have HN6:Hid _:=hn6
   have HD6:Hid _:=D6
   have HE6:Hid _:=E6
   clear own6 or6 D6 E6 hkl hn6 hw6
   go_wp2_with fail
   go_end0
   have hset:∀k,k≠wb→(w6.setCell ⟨wb,2,none⟩ (.slice (some ⟨g6,0,none⟩) (marks.length+4) p6)).heap[k]? =w6.heap[k]? :=fun k hk=>Below.heap_setCell _ _ _ _ hk
   have hs5:=HD5.out.size
   have hs6:w5.heap.size+1≤w6.heap.size:=by have:=HD6.out.size;simpa using this
   have hg6:(Value.slice b5 marks.length m5).ownBlock=some g6∨w5.heap.size≤g6:=by
    rcases HE6.out with h|h
    ·exact .inl h
    ·exact .inr (by simp at h;omega)
   have fin:∀{r:Value} {n:Nat} {cs:List Value},w5.ownsRow 0 3 1 r n cs→(∀k,r.ownBlock=some k→(Value.slice b5 marks.length m5).ownBlock≠some k)→(w6.setCell ⟨wb,2,none⟩ (.slice (some ⟨g6,0,none⟩) (marks.length+4) p6)).ownsRow 0 3 1 r n cs:=fun {r n cs} hr hne=>rowKept hr (fun k _ ek ho=>by
    obtain⟨_,cs',t⟩:=own_type hr ek
    rw[hset k (by rintro rfl;rw[HB5.out] at t;cases t),HN6.out k (ownLt hr ek) (hne k ek)];exact ho)
   have kne:∀k,(Value.slice b5 marks.length m5).ownBlock=some k→k<w.heap.size:=fun k e=>ownLt HB.out.kn e
   have newr:∀(g n p:Nat),((Value.slice lb xs.length lc).ownBlock=some g∨w.heap.size≤g)→∀k,(Value.slice (some ⟨g,0,none⟩) n p).ownBlock=some k→(F k∨(Value.slice lb xs.length lc).ownBlock=some k∨w.heap.size≤k)∧(Value.slice b5 marks.length m5).ownBlock≠some k:=by
    intro g n p hg k ek
    obtain rfl:g=k:=by cases ek;rfl
    rcases hg with h|h
    ·exact⟨.inr (.inl h),fun e=>HNK.out _ e h⟩
    ·exact⟨.inr (.inr h),fun e=>by have:=kne _ e;omega⟩
   have knew:∀k,k<w5.heap.size→(Value.slice b5 marks.length m5).ownBlock≠some k→(Value.slice (some ⟨g6,0,none⟩) (marks.length+4) p6).ownBlock≠some k:=by
    intro k hk hne e
    obtain rfl:g6=k:=by cases e;rfl
    rcases hg6 with h|h
    ·exact hne h
    ·omega
   refine⟨rfl,.slice (some ⟨g4,0,none⟩) (rows.length+4) p4,.slice (some ⟨g6,0,none⟩) (marks.length+4) p6,rows++[.slice lb xs.length lc,.slice (some ⟨g1,0,none⟩) (xs.length+1) p1,.slice (some ⟨g2,0,none⟩) (xs.length+2) p2,.slice (some ⟨g3,0,none⟩) (xs.length+3) p3],marks++[mk,mk,mk,mk],set_blk' HW6.out 2 _,⟨?_,?_,by simp[HB.out.len],?_,?_,?_⟩,by simp,?_⟩
   ·rw[List.length_append]
    exact rowKept HNS5.out (fun k _ ek ho=>by
     obtain⟨_,cs',t⟩:=own_type HNS5.out ek
     rw[hset k (by rintro rfl;rw[HB5.out] at t;cases t),HN6.out k (ownLt HNS5.out ek) (fun e=>by
      obtain⟨_,cs'',t2⟩:=own_type HKN5.out e
      rw[t] at t2;cases t2)];exact ho)
   ·rw[List.length_append,show intC (marks++[mk,mk,mk,mk])=intC marks++[.int .i64 mk,.int .i64 mk,.int .i64 mk,.int .i64 mk] by simp[intC]]
    exact rowKept HO6.out (fun k _ ek ho=>by
     obtain⟨_,cs',t⟩:=own_type HO6.out ek
     rw[hset k (by rintro rfl;rw[HW6.out] at t;cases t)];exact ho)
   ·intro i h1 h2
    by_cases hi':i<rows.length
    ·obtain⟨n,r1,r2⟩:=HB.out.each i hi' (by rw[←HB.out.len];exact hi')
     have r3:w3.ownsRow 0 3 1 rows[i] n (List.replicate n (.int .i64 (marks[i]'(by rw[←HB.out.len];exact hi')))):=rowKept r1 (fun k _ ek ho=>(HD3.out.only k (ownLt r1 ek) (fun e=>HLF.out k e (r2 k ek).1)).trans ho)
     rw[List.getElem_append_left hi',List.getElem_append_left (by rw[←HB.out.len];exact hi')]
     have r5:=HRI.out _ _ _ r3
     exact⟨n,fin r5 (fun k ek=>(r2 k ek).2),fun k ek=>⟨.inl (r2 k ek).1,knew k (ownLt r5 ek) (r2 k ek).2⟩⟩
    ·have hlen:=HB.out.len
     rw[List.getElem_append_right (by omega),List.getElem_append_right (by omega)]
     have hi4:i-rows.length<4:=by simp at h1;omega
     have hmi:i-marks.length=i-rows.length:=by omega
     have hmk:∀(j:Nat) (hj:j<[mk,mk,mk,mk].length),[mk,mk,mk,mk][j]=mk:=by
      intro j hj
      have:j<4:=by simpa using hj
      rcases(by omega:j=0∨j=1∨j=2∨j=3) with rfl|rfl|rfl|rfl<;>rfl
     rw[hmk]
     obtain⟨d,hd⟩:∃d,i-rows.length=d:=⟨_,rfl⟩
     have hL5:=HRI.out _ _ _ HL3.out
     have hG5:=HRI.out _ _ _ HG3.out
     have hH5:=HRI.out _ _ _ HH3.out
     have hJ5:=HRI.out _ _ _ HJ3.out
     have base:∀(r:Value) (n:Nat),w5.ownsRow 0 3 1 r n (List.replicate n (.int .i64 mk))→(∀k,r.ownBlock=some k→(F k∨(Value.slice lb xs.length lc).ownBlock=some k∨w.heap.size≤k)∧(Value.slice b5 marks.length m5).ownBlock≠some k)→∃n,(w6.setCell ⟨wb,2,none⟩ (.slice (some ⟨g6,0,none⟩) (marks.length+4) p6)).ownsRow 0 3 1 r n (List.replicate n (.int .i64 mk))∧∀k,r.ownBlock=some k→(F k∨(Value.slice lb xs.length lc).ownBlock=some k∨w.heap.size≤k)∧(Value.slice (some ⟨g6,0,none⟩) (marks.length+4) p6).ownBlock≠some k:=
      fun r n hr hk=>⟨n,fin hr (fun k ek=>(hk k ek).2),fun k ek=>⟨(hk k ek).1,knew k (ownLt hr ek) (hk k ek).2⟩⟩
     have hcases:∀(d:Nat) (hd4:d<4),∃n,(w6.setCell ⟨wb,2,none⟩ (.slice (some ⟨g6,0,none⟩) (marks.length+4) p6)).ownsRow 0 3 1 ([Value.slice lb xs.length lc,.slice (some ⟨g1,0,none⟩) (xs.length+1) p1,.slice (some ⟨g2,0,none⟩) (xs.length+2) p2,.slice (some ⟨g3,0,none⟩) (xs.length+3) p3][d]'(by simpa using hd4)) n (List.replicate n (.int .i64 mk))∧∀k,([Value.slice lb xs.length lc,.slice (some ⟨g1,0,none⟩) (xs.length+1) p1,.slice (some ⟨g2,0,none⟩) (xs.length+2) p2,.slice (some ⟨g3,0,none⟩) (xs.length+3) p3][d]'(by simpa using hd4)).ownBlock=some k→(F k∨(Value.slice lb xs.length lc).ownBlock=some k∨w.heap.size≤k)∧(Value.slice (some ⟨g6,0,none⟩) (marks.length+4) p6).ownBlock≠some k:=by
      intro d hd4
      rcases(by omega:d=0∨d=1∨d=2∨d=3) with rfl|rfl|rfl|rfl
      ·exact base _ _ hL5 (fun k ek=>⟨.inr (.inl ek),fun e=>HNK.out _ e ek⟩)
      ·exact base _ _ hG5 (newr g1 _ _ HE1.out)
      ·exact base _ _ hH5 (newr g2 _ _ HE2.out)
      ·exact base _ _ hJ5 (newr g3 _ _ HE3.out)
     exact hcases (i-rows.length) hi4
   ·intro k ek
    obtain rfl:g4=k:=by cases ek;rfl
    rcases HE4.out with h|h
    ·exact .inl (HB.out.inN _ h)
    ·exact .inr (.inr h)
   ·intro k ek
    obtain rfl:g6=k:=by cases ek;rfl
    rcases hg6 with h|h
    ·exact .inl (HB.out.inK _ h)
    ·exact .inr (.inr (by omega))
   ·exact((HD5.out.alloc _).trans (HD6.out.mono (fun k hk=>.inr (.inl (HB.out.inK k hk))))).set _ (.inl (.inl rfl))
end
def mV (k:Int):List Value:=[.int .i64 1,.int .i64 k,.string ⟨#[]⟩]
theorem appV {W w1:World}{lb:Option Addr}{lc n m g cap S:Nat}{u:List Value}{ms:List Value}(hu:u.length=3)(hl:W.ownsRow 0 94 3 (.slice lb n lc) n (List.replicate n u).flatten)(hown:w1.ownsRow 0 94 3 (.slice (some ⟨g,0,none⟩) (n+m) cap) (n+m) ((List.replicate n u).flatten++ms))(hms:ms=(List.replicate m u).flatten)(hS:W.heap.size=S)
  (hor:(lb=some ⟨g,0,none⟩∧lc=cap)∧W.grownBy w1 (some g)∨g=S∧Below S W w1):
  (∀r k,k≤n+m→W.ownsRow 0 94 3 r k (List.replicate k u).flatten→w1.ownsRow 0 94 3 r k (List.replicate k u).flatten)∧w1.ownsRow 0 94 3 (.slice (some ⟨g,0,none⟩) (n+m) cap) (n+m) (List.replicate (n+m) u).flatten∧Md (fun k=>(Value.slice lb n lc).ownBlock=some k) W w1∧((Value.slice lb n lc).ownBlock=some g∨W.heap.size≤g):=by
 subst hS
 rw[hms,←List.flatten_append,List.replicate_append_replicate] at hown
 have hor':(Value.slice lb n lc=.slice (some ⟨g,0,none⟩) n cap∧W.grownBy w1 (some g))∨(g=W.heap.size∧Below W.heap.size W w1):=by
  rcases hor with⟨⟨rfl,rfl⟩,h⟩|h
  ·exact .inl ⟨rfl,h⟩
  ·exact .inr h
 refine⟨fun r k hk hr=>?_,hown,?_,?_⟩
 ·exact row_marks (mk:=u) (m:=m) hu hl hr hk hown hor'
 ·rcases hor with⟨⟨rfl,rfl⟩,h⟩|⟨_,h⟩
  ·exact(Md.refl _ W).grown h (fun k e=>.inl e)
  ·exact Md.ofBelow h
 ·rcases hor with⟨⟨rfl,rfl⟩,_⟩|⟨h,_⟩
  ·exact .inl rfl
  ·exact .inr (by omega)
theorem Tryz.infoSlV:(Tryz.prog.info? 55).map (fun i=>(i.zero,i.size,i.bytes))=some (some (.slice none 0 0),1,24):=by kernel_rfl
theorem boxB {w:World}{b:Nat}{c0 c1 c2:Value}{T:TypeId}(h:w.heap[b]? =some (.cells #[c0,c1,c2] T (0,0))):w.cell? ⟨b,0,none⟩=some c0∧w.cell? ⟨b,1,none⟩=some c1∧w.cell? ⟨b,2,none⟩=some c2:=st_cells h
theorem rep_len {α:Type}(n:Nat)(m:List α):(List.replicate n m).flatten.length=n*m.length:=by simp
theorem rep_snoc {α:Type}(n:Nat)(m:List α):(List.replicate n m).flatten++m=(List.replicate (n+1) m).flatten:=by
 rw[List.replicate_succ',List.flatten_append];simp
theorem drop_vals (xs:List Doc.Val)(k:Nat)(hk:k<xs.length):(valsC xs).drop (k*3)=valC xs[k]++(valsC xs).drop ((k+1)*3):=by
 induction xs generalizing k with
 |nil=>simp at hk
 |cons a r ih=>
  cases k with
  |zero=>simp[valsC,List.flatMap_cons,valC]
  |succ k=>
   have:=ih k (by simpa using hk)
   simp only[valsC,List.flatMap_cons] at this ⊢
   rw[show(k+1)*3=(valC a).length+k*3 by rw[valC_len];omega,List.drop_append,show(k+1+1)*3=(valC a).length+(k+1)*3 by rw[valC_len];omega,List.drop_append,List.drop_of_length_le (show(valC a).length≤(valC a).length+k*3 by omega),List.drop_of_length_le (show(valC a).length≤(valC a).length+(k+1)*3 by omega)]
   simpa using this
theorem splice3 (A B:List Value)(x y z:Value){v:Doc.Val}{k:Nat}(h:A.length=k*3):(((A++(valC v++B)).set (k*3) x).set (k*3+1) y).set (k*3+2) z=A++([x,y,z]++B):=by
 rw[←h]
 rw[List.set_append_right _ _ (Nat.le_refl _),List.set_append_right _ _ (by omega),List.set_append_right _ _ (by omega)]
 simp[valC]
structure BookV (w:World)(F:Nat→Prop)(nsv knv:Value)(rows:List Value)(marks:List Int):Prop where
 ns:w.ownsRow 0 55 1 nsv rows.length rows
 kn:w.ownsRow 0 3 1 knv marks.length (intC marks)
 len:rows.length=marks.length
 each:∀i (h:i<rows.length) (h':i<marks.length),∃n,w.ownsRow 0 94 3 rows[i] n (List.replicate n (mV marks[i])).flatten∧∀k,rows[i].ownBlock=some k→F k∧knv.ownBlock≠some k
 inN:∀k,nsv.ownBlock=some k→F k
 inK:∀k,knv.ownBlock=some k→F k
section
variable {w:World}{F:Nat→Prop}{wb:Nat}{lv nsv knv vsv kvv hsv khv:Value}{rows:List Value}{marks:List Int}
set_option maxHeartbeats 2000000 in
theorem values_any (hw:w.heap[wb]? =some (worldO lv vsv kvv nsv knv hsv khv))(hb:BookV w F nsv knv rows marks)(hF:¬F wb)(hrl:rows.length≤1000000000)(xs:List Doc.Val)(l:Value)(hl:w.ownsRow 0 94 3 l xs.length (valsC xs))(hxl:xs.length≤1000000000)(hlF:∀k,l.ownBlock=some k→¬F k):
  Calls Tryz.prog 100 #[.pointer (some ⟨wb,1,none⟩),l] w fun e w'=>e=.returned (.tuple #[])∧∃nsv' knv' rows' marks',w'.heap[wb]? =some (worldO lv vsv kvv nsv' knv' hsv khv)∧BookV w' (fun k=>F k∨l.ownBlock=some k∨w.heap.size≤k) nsv' knv' rows' marks'∧rows'.length=rows.length+4∧Md (fun k=>k=wb∨F k∨l.ownBlock=some k) w w':=by
 obtain⟨i0,hi,hz0,hz1,hz2⟩:=info_parts Tryz.infoIntT
 obtain⟨iv,hiv,hv0,hv1,hv2⟩:=info_parts Tryz.infoValT
 have c1:w.cell? ⟨wb,3,none⟩=some nsv:=blk_cell hw 3 _ rfl
 obtain⟨b1,m1,e1⟩:=row_slice hb.ns
 subst e1
 obtain⟨lb,lc,e2⟩:=row_slice hl
 subst e2
 obtain⟨b5,m5,e3⟩:=row_slice hb.kn
 subst e3
 have hml:=hb.len
 obtain⟨q,hq,hql⟩:∃q:Nat,(rows.length:Int) / 4=(q:Int)∧q≤1000000000:=⟨rows.length / 4,by omega,by omega⟩
 have hwq:IntKind.i64.wrap (q:Int)=(q:Int):=by rw[IntKind.wrap_i64];omega
 have HW:Hid _:=hw
 have HB:Hid _:=hb
 have HL:Hid _:=hl
 have hwl:=lt_block hw
 have hmk5:marks.length≤1000000000:=by omega
 clear hw hb hl hml
 go_enter Tryz.func100,Tryz.ntmps100
 go_wp2_with fail
 obtain⟨mk,HMK⟩:∃mk:Int,Hid (mk=20000000+(q:Int)):=⟨_,rfl⟩
 rw[←HMK.out]
 have HLF:Hid _:=hlF
 obtain⟨w0,HW0⟩:∃w0,Hid (w0=w.alloc (.cells #[.int .i64 1,.int .i64 mk,.string ⟨#[]⟩] 94)):=⟨_,rfl⟩
 rw[←HW0.out]
 have hb0:Below w.heap.size w w0:=by rw[HW0.out];exact(Below.refl _ _).alloc (Nat.le_refl _) _
 have HBX:Hid (w0.heap[w.heap.size]? =some (.cells #[.int .i64 1,.int .i64 mk,.string ⟨#[]⟩] 94 (0,0))):=by show _=_;rw[HW0.out];exact heap_alloc_new w _
 have HL0:Hid (w0.ownsRow 0 94 3 (.slice lb xs.length lc) xs.length (valsC xs)):=row_below HL.out hb0
 have hne:(Value.slice lb xs.length lc).ownBlock≠some w.heap.size:=fun e=>by have:=ownLt HL.out e;omega
 clear hq hql hwq c1 hlF
 go_loopw [6] (fun i wr=>∃k:Nat,k≤xs.length∧i=.int .i64 k∧Hid (wr.ownsRow 0 94 3 (.slice lb xs.length lc) xs.length ((List.replicate k (mV mk)).flatten++(valsC xs).drop (k*3)))∧Hid (Md (fun k=>(Value.slice lb xs.length lc).ownBlock=some k) w0 wr)) (fun i _=>xs.length-(intOf i).toNat)
 case atStart=>exact⟨0,Nat.zero_le _,rfl,HL0.out,Md.refl _ _⟩
 case round=>
  obtain⟨k,hk,rfl,KR,KD⟩:=hrel
  by_cases hk2:k<xs.length
  ·obtain⟨vb,vc,hvb⟩:=own_slice' KR.out (by omega)
   obtain rfl:lb=some ⟨vb,0,none⟩:=by simp at hvb;exact hvb.1
   obtain rfl:lc=vc:=by simp at hvb;exact hvb
   clear hvb
   obtain⟨cur,hcur,hc1,hc2⟩:=own_block KR.out
   have hvl:=lt_block hcur
   obtain⟨u0,z0⟩:∃u,wr.cell? ⟨vb,k*3,none⟩=some u:=⟨_,blk_cell hcur (k*3) _ (Array.getElem?_eq_getElem (by omega))⟩
   obtain⟨u1,z1⟩:∃u,wr.cell? ⟨vb,k*3+1,none⟩=some u:=⟨_,blk_cell hcur (k*3+1) _ (Array.getElem?_eq_getElem (by omega))⟩
   obtain⟨u2,z2⟩:∃u,wr.cell? ⟨vb,k*3+2,none⟩=some u:=⟨_,blk_cell hcur (k*3+2) _ (Array.getElem?_eq_getElem (by omega))⟩
   obtain⟨y0,y1,y2⟩:=boxB (KD.out.blk HBX.out (fun e=>hne e))
   have f0:=blk_free hcur (k*3)
   have f1:=blk_free hcur (k*3+1)
   have f2:=blk_free hcur (k*3+2)
   have HST:Hid ((((wr.setCell ⟨vb,k*3,none⟩ (.int .i64 1)).setCell ⟨vb,k*3+1,none⟩ (.int .i64 mk)).setCell ⟨vb,k*3+2,none⟩ (.string ⟨#[]⟩)).ownsRow 0 94 3 (.slice (some ⟨vb,0,none⟩) xs.length lc) xs.length ((List.replicate (k+1) (mV mk)).flatten++(valsC xs).drop ((k+1)*3))):=by
    rcases KR.out.2 with⟨e,_⟩|⟨g,cap,cu,e,p0,p1,p2,p3,p4,p5⟩
    ·cases e
    ·cases e
     refine⟨by rw[List.length_append,rep_len,List.length_drop,valsC_len'];simp[mV];omega,.inr ⟨vb,lc,_,rfl,p0,set_blk' (set_blk' (set_blk' p1 (k*3) _) (k*3+1) _) (k*3+2) _,p2,p3,by simpa using p4,?_⟩⟩
     rw[Array.toList_setIfInBounds,Array.toList_setIfInBounds,Array.toList_setIfInBounds,List.take_set,List.take_set,List.take_set,p5,drop_vals xs k hk2]
     rw[splice3 _ _ _ _ _ (by rw[rep_len];simp[mV]),←List.append_assoc,←rep_snoc k (mV mk)]
     rfl
   clear hcur hc1 hc2
   go_wp2_with fail
   go_roundw
   case rel=>exact⟨k+1,by omega,by go_num,HST,((KD.out.set _ (.inl rfl)).set _ (.inl rfl)).set _ (.inl rfl)⟩
   case measure=>simp[intOf];omega
  ·obtain rfl:k=xs.length:=by omega
   obtain⟨n,hn⟩:∃n,n=xs.length:=⟨_,rfl⟩
   have KR0:Hid (wr.ownsRow 0 94 3 (.slice lb xs.length lc) xs.length (List.replicate xs.length (mV mk)).flatten):=by
    have:=KR.out
    rw[show(valsC xs).drop (xs.length*3)=[] from List.drop_of_length_le (by rw[valsC_len'];omega),List.append_nil] at this
    exact this
   obtain⟨y0,y1,y2⟩:=boxB (KD.out.blk HBX.out (fun e=>hne e))
   clear hn KR
   go_wp2_with (at_builtin;refine wpList_append_or _ rfl _ _ 55 rfl 0 94 iv _ 3 32 Tryz.underlying55 hiv hv0 hv1 hv2 rfl (by decide) _ _ _ rfl (row_below KR0.out ((Below.refl _ _).alloc (Nat.le_refl _) _)) ⟨wr.heap.size,0,none⟩ 1 1 [.int .i64 1,.int .i64 mk,.string ⟨#[]⟩] rfl (by decide) rfl ?c1 ?c2 ?c3 ?c4 ?c5 ?_)
   case c1=>exact cells_new_at _ [.int .i64 1,.int .i64 mk,.string ⟨#[]⟩] _ _ (by simp)
   case c2=>intro u hu;simp only[List.mem_cons,List.not_mem_nil,or_false] at hu;(repeat (rcases hu with rfl|hu;rfl));try (rw[hu];rfl)
   case c3=>unfold maxLen;omega
   case c4=>omega
   case c5=>omega
   intro g1 p1 w1 own1 or1
   obtain⟨A1,B1,D1,E1⟩:=appV (u:=mV mk) rfl (row_below KR0.out ((Below.refl _ _).alloc (Nat.le_refl _) _)) own1 rfl (by simp) or1
   have HA0:Hid _:=A1 _ xs.length (by omega) (row_below KR0.out ((Below.refl _ _).alloc (Nat.le_refl _) _))
   have HB1:Hid _:=B1
   have HD1:Hid (Md (fun k=>(Value.slice lb xs.length lc).ownBlock=some k) w w1):=((Md.ofBelow hb0).trans KD.out |>.alloc _).trans D1
   have HE1:Hid ((Value.slice lb xs.length lc).ownBlock=some g1∨w.heap.size≤g1):=by
    rcases E1 with h|h
    ·exact .inl h
    ·have:=KD.out.size;have:=hb0.size;exact .inr (by simp at h;omega)
   have HX1:Hid (w1.heap[w.heap.size]? =some (.cells #[.int .i64 1,.int .i64 mk,.string ⟨#[]⟩] 94 (0,0))):=D1.blk ((Below.heap_alloc _ _ _ (lt_block (KD.out.blk HBX.out (fun e=>hne e)))).trans (KD.out.blk HBX.out (fun e=>hne e))) (fun e=>hne e)
   clear own1 or1 A1 B1 D1 E1 y0 y1 y2
   obtain⟨y0,y1,y2⟩:=boxB HX1.out
   go_wp2_with (at_builtin;refine wpList_append_or _ rfl _ _ 55 rfl 0 94 iv _ 3 32 Tryz.underlying55 hiv hv0 hv1 hv2 rfl (by decide) _ _ _ rfl (row_below HA0.out ((Below.refl _ _).alloc (Nat.le_refl _) _)) ⟨w1.heap.size,0,none⟩ 2 2 [.int .i64 1,.int .i64 mk,.string ⟨#[]⟩,.int .i64 1,.int .i64 mk,.string ⟨#[]⟩] rfl (by decide) rfl ?c1 ?c2 ?c3 ?c4 ?c5 ?_)
   case c1=>exact cells_new_at _ [.int .i64 1,.int .i64 mk,.string ⟨#[]⟩,.int .i64 1,.int .i64 mk,.string ⟨#[]⟩] _ _ (by simp)
   case c2=>intro u hu;simp only[List.mem_cons,List.not_mem_nil,or_false] at hu;(repeat (rcases hu with rfl|hu;rfl));try (rw[hu];rfl)
   case c3=>unfold maxLen;omega
   case c4=>omega
   case c5=>omega
   intro g2 p2 w2 own2 or2
   obtain⟨A2,B2,D2,E2⟩:=appV (u:=mV mk) rfl (row_below HA0.out ((Below.refl _ _).alloc (Nat.le_refl _) _)) own2 rfl (by simp) or2
   have HA1:Hid _:=A2 _ xs.length (by omega) (row_below HA0.out ((Below.refl _ _).alloc (Nat.le_refl _) _))
   have HG1:Hid _:=A2 _ (xs.length+1) (by omega) (row_below HB1.out ((Below.refl _ _).alloc (Nat.le_refl _) _))
   have HB2:Hid _:=B2
   have HD2:Hid (Md (fun k=>(Value.slice lb xs.length lc).ownBlock=some k) w w2):=(HD1.out.alloc _).trans D2
   have HE2:Hid ((Value.slice lb xs.length lc).ownBlock=some g2∨w.heap.size≤g2):=by
    rcases E2 with h|h
    ·exact .inl h
    ·have:=HD1.out.size;exact .inr (by simp at h;omega)
   have HX2:Hid (w2.heap[w.heap.size]? =some (.cells #[.int .i64 1,.int .i64 mk,.string ⟨#[]⟩] 94 (0,0))):=D2.blk ((Below.heap_alloc _ _ _ (lt_block HX1.out)).trans HX1.out) (fun e=>hne e)
   clear own2 or2 A2 B2 D2 E2 HA0 HB1 HD1 y0 y1 y2
   obtain⟨y0,y1,y2⟩:=boxB HX2.out
   go_wp2_with (at_builtin;refine wpList_append_or _ rfl _ _ 55 rfl 0 94 iv _ 3 32 Tryz.underlying55 hiv hv0 hv1 hv2 rfl (by decide) _ _ _ rfl (row_below HA1.out ((Below.refl _ _).alloc (Nat.le_refl _) _)) ⟨w2.heap.size,0,none⟩ 3 3 [.int .i64 1,.int .i64 mk,.string ⟨#[]⟩,.int .i64 1,.int .i64 mk,.string ⟨#[]⟩,.int .i64 1,.int .i64 mk,.string ⟨#[]⟩] rfl (by decide) rfl ?c1 ?c2 ?c3 ?c4 ?c5 ?_)
   case c1=>exact cells_new_at _ [.int .i64 1,.int .i64 mk,.string ⟨#[]⟩,.int .i64 1,.int .i64 mk,.string ⟨#[]⟩,.int .i64 1,.int .i64 mk,.string ⟨#[]⟩] _ _ (by simp)
   case c2=>intro u hu;simp only[List.mem_cons,List.not_mem_nil,or_false] at hu;(repeat (rcases hu with rfl|hu;rfl));try (rw[hu];rfl)
   case c3=>unfold maxLen;omega
   case c4=>omega
   case c5=>omega
   intro g3 p3 w3 own3 or3
   obtain⟨A3,B3,D3,E3⟩:=appV (u:=mV mk) rfl (row_below HA1.out ((Below.refl _ _).alloc (Nat.le_refl _) _)) own3 rfl (by simp) or3
   have HL3:Hid _:=A3 _ xs.length (by omega) (row_below HA1.out ((Below.refl _ _).alloc (Nat.le_refl _) _))
   have HG3:Hid _:=A3 _ (xs.length+1) (by omega) (row_below HG1.out ((Below.refl _ _).alloc (Nat.le_refl _) _))
   have HH3:Hid _:=A3 _ (xs.length+2) (by omega) (row_below HB2.out ((Below.refl _ _).alloc (Nat.le_refl _) _))
   have HJ3:Hid _:=B3
   have HD3:Hid (Md (fun k=>(Value.slice lb xs.length lc).ownBlock=some k) w w3):=(HD2.out.alloc _).trans D3
   have HE3:Hid ((Value.slice lb xs.length lc).ownBlock=some g3∨w.heap.size≤g3):=by
    rcases E3 with h|h
    ·exact .inl h
    ·have:=HD2.out.size;exact .inr (by simp at h;omega)
   clear own3 or3 A3 B3 D3 E3 HA1 HG1 HB2 HD2 y0 y1 y2
   have hnl:∀(k:Nat) (cu:Array Value) (T:TypeId) (fr:Nat×Nat),w.heap[k]? =some (.cells cu T fr)→T≠94→w3.heap[k]? =w.heap[k]? :=fun k cu T fr hk hT=>HD3.out.only k (lt_block hk) (fun e=>by
    obtain⟨_,cs',t⟩:=own_type HL.out e
    rw[hk] at t;cases t;exact hT rfl)
   have hw3:w3.heap[wb]? =some (worldO lv vsv kvv (.slice b1 rows.length m1) (.slice b5 marks.length m5) hsv khv):=(hnl wb _ _ _ HW.out (by decide)).trans HW.out
   have hns3:w3.ownsRow 0 55 1 (.slice b1 rows.length m1) rows.length rows:=rowKept HB.out.ns (fun k _ ek ho=>by
    obtain⟨_,cs',t⟩:=own_type HB.out.ns ek
    exact(hnl k _ _ _ t (by decide)).trans ho)
   have d1:w3.cell? ⟨wb,3,none⟩=some (.slice b1 rows.length m1):=blk_cell hw3 3 _ rfl
   obtain⟨i1,hi1,hy0,hy1,hy2⟩:=info_parts Tryz.infoSlV
   have HNS3:Hid _:=hns3
   have HW3:Hid _:=hw3
   have hwl3:=lt_block hw3
   clear hns3 hw3 hnl
   go_wp2_with (at_builtin;refine wpList_append_or _ rfl _ _ 78 rfl 0 55 i1 _ 1 24 Tryz.underlying78 hi1 hy0 hy1 hy2 rfl (by decide) _ _ _ rfl (row_below HNS3.out ((Below.refl _ _).alloc (Nat.le_refl _) _)) ⟨w3.heap.size,0,none⟩ 4 4 [.slice lb xs.length lc,.slice (some ⟨g1,0,none⟩) (xs.length+1) p1,.slice (some ⟨g2,0,none⟩) (xs.length+2) p2,.slice (some ⟨g3,0,none⟩) (xs.length+3) p3] rfl (by decide) rfl ?c1 ?c2 ?c3 ?c4 ?c5 ?_)
   case c1=>exact cells_new_at _ [.slice lb xs.length lc,.slice (some ⟨g1,0,none⟩) (xs.length+1) p1,.slice (some ⟨g2,0,none⟩) (xs.length+2) p2,.slice (some ⟨g3,0,none⟩) (xs.length+3) p3] _ _ (by simp)
   case c2=>intro u hu;simp only[List.mem_cons,List.not_mem_nil,or_false] at hu;rcases hu with rfl|rfl|rfl|rfl<;>rfl
   case c3=>unfold maxLen;omega
   case c4=>omega
   case c5=>omega
   intro g4 p4 w4 own4 or4
   obtain⟨D4,E4⟩:=orMd (n:=rows.length) (by simp) or4
   have hn4:∀(k:Nat) (cu:Array Value) (T:TypeId) (fr:Nat×Nat),w3.heap[k]? =some (.cells cu T fr)→T≠55→w4.heap[k]? =w3.heap[k]? :=fun k cu T fr hk hT=>by
    have hkl:=lt_block hk
    rw[D4.only k (by simp;omega) (fun e=>?_),Below.heap_alloc _ _ _ hkl]
    obtain⟨_,cs',t⟩:=own_type HNS3.out e
    rw[hk] at t;cases t;exact hT rfl
   have hw4:w4.heap[wb]? =some (worldO lv vsv kvv (.slice b1 rows.length m1) (.slice b5 marks.length m5) hsv khv):=(hn4 wb _ _ _ HW3.out (by decide)).trans HW3.out
   have d4:=blk_cell hw4 3 _ rfl
   have f4:=blk_free hw4 3
   have hwl4:=lt_block hw4
   obtain⟨w5,HW5⟩:∃w5,Hid (w5=w4.setCell ⟨wb,3,none⟩ (.slice (some ⟨g4,0,none⟩) (rows.length+4) p4)):=⟨_,rfl⟩
   have hb5:w5.heap[wb]? =some (worldO lv vsv kvv (.slice (some ⟨g4,0,none⟩) (rows.length+4) p4) (.slice b5 marks.length m5) hsv khv):=by rw[HW5.out];exact set_blk' hw4 3 _
   have ho5:∀k,k≠wb→w5.heap[k]? =w4.heap[k]? :=fun k hk=>by rw[HW5.out];exact Below.heap_setCell _ _ _ _ hk
   have hz5:w5.heap.size=w4.heap.size:=by rw[HW5.out];simp
   have rowG:∀{e size:Nat} {r:Value} {n:Nat} {cs:List Value},e≠55→e≠83→w3.ownsRow 0 e size r n cs→w5.ownsRow 0 e size r n cs:=fun {e size r n cs} h1 h2 hr=>rowKept hr (fun k _ ek ho=>by
    obtain⟨_,cs',t⟩:=own_type hr ek
    rw[ho5 k (by rintro rfl;rw[HW3.out] at t;cases t;exact h2 rfl),hn4 k _ _ _ t h1];exact ho)
   have hnk:∀k,(Value.slice b5 marks.length m5).ownBlock=some k→(Value.slice lb xs.length lc).ownBlock≠some k:=fun k e1 e2=>HLF.out k e2 (HB.out.inK k e1)
   have hkn3:w3.ownsRow 0 3 1 (.slice b5 marks.length m5) marks.length (intC marks):=rowKept HB.out.kn (fun k _ ek ho=>(HD3.out.only k (ownLt HB.out.kn ek) (hnk k ek)).trans ho)
   have HKN5:Hid _:=rowG (by decide) (by decide) hkn3
   have d5:=blk_cell hb5 4 _ rfl
   have HNS5:Hid (w5.ownsRow 0 55 1 (.slice (some ⟨g4,0,none⟩) (rows.length+4) p4) (rows.length+4) (rows++[.slice lb xs.length lc,.slice (some ⟨g1,0,none⟩) (xs.length+1) p1,.slice (some ⟨g2,0,none⟩) (xs.length+2) p2,.slice (some ⟨g3,0,none⟩) (xs.length+3) p3])):=rowKept own4 (fun k _ ek ho=>by
    obtain⟨_,cs',t⟩:=own_type own4 ek
    rw[ho5 k (by rintro rfl;rw[hw4] at t;cases t)];exact ho)
   have hs43:w3.heap.size+1≤w4.heap.size:=by have:=D4.size;simpa using this
   have HD5:Hid (Md (fun k=>k=wb∨F k∨(Value.slice lb xs.length lc).ownBlock=some k) w w5):=by
    rw[HW5.out]
    exact(((HD3.out.mono (fun k hk=>.inr (.inr hk))).alloc _).trans (D4.mono (fun k hk=>.inr (.inl (HB.out.inN k hk))))).set _ (.inl (.inl rfl))
   have HE4:Hid ((Value.slice b1 rows.length m1).ownBlock=some g4∨w.heap.size≤g4):=by
    rcases E4 with h|h
    ·exact .inl h
    ·have:=HD3.out.size;exact .inr (by simp at h;omega)
   have HB5:Hid _:=hb5
   have HRI:Hid (∀(r:Value) (n:Nat) (cs:List Value),w3.ownsRow 0 94 3 r n cs→w5.ownsRow 0 94 3 r n cs):=fun r n cs hr=>rowG (by decide) (by decide) hr
   have HNK:Hid _:=hnk
   have hwl5:=lt_block hb5
   clear own4 or4 D4 E4 hn4 hw4 hb5 ho5 rowG hkn3 hnk d1
   have HKN6:Hid ((w4.setCell ⟨wb,3,none⟩ (.slice (some ⟨g4,0,none⟩) (rows.length+4) p4)).ownsRow 0 3 1 (.slice b5 marks.length m5) marks.length (intC marks)):=by rw[←HW5.out];exact HKN5.out
   have d6:(w4.setCell ⟨wb,3,none⟩ (.slice (some ⟨g4,0,none⟩) (rows.length+4) p4)).cell? ⟨wb,4,none⟩=some (.slice b5 marks.length m5):=by rw[←HW5.out];exact d5
   clear d5
   go_wp2_with (at_builtin;refine wpList_append_or _ rfl _ _ 33 rfl 0 3 i0 _ 1 8 Tryz.underlying33 hi hz0 hz1 hz2 rfl (by decide) _ _ _ rfl (row_below HKN6.out ((Below.refl _ _).alloc (Nat.le_refl _) _)) ⟨w4.heap.size,0,none⟩ 4 4 [.int .i64 mk,.int .i64 mk,.int .i64 mk,.int .i64 mk] rfl (by decide) rfl ?c1 ?c2 ?c3 ?c4 ?c5 ?_)
   case c1=>exact cells_new_at _ [.int .i64 mk,.int .i64 mk,.int .i64 mk,.int .i64 mk] _ _ (by simp)
   case c2=>intro u hu;simp only[List.mem_cons,List.not_mem_nil,or_false,or_self] at hu;rw[hu];rfl
   case c3=>unfold maxLen;omega
   case c4=>omega
   case c5=>omega
   intro g6 p6 w6 own6 or6
   rw[←HW5.out] at or6
   obtain⟨D6,E6⟩:=orMd (n:=marks.length) (by simp[hz5]) or6
   have hkl:∀k,(Value.slice b5 marks.length m5).ownBlock=some k→k<w5.heap.size:=fun k e=>ownLt HKN5.out e
   have hn6:∀k,k<w5.heap.size→(Value.slice b5 marks.length m5).ownBlock≠some k→w6.heap[k]? =w5.heap[k]? :=fun k hk hne=>by
    rw[D6.only k (by simp;omega) hne,Below.heap_alloc _ _ _ hk]
   have hw6:w6.heap[wb]? =some (worldO lv vsv kvv (.slice (some ⟨g4,0,none⟩) (rows.length+4) p4) (.slice b5 marks.length m5) hsv khv):=(hn6 wb hwl5 (fun e=>by
    obtain⟨_,cs',t⟩:=own_type HKN5.out e
    rw[HB5.out] at t;cases t)).trans HB5.out
   have d7:=blk_cell hw6 4 _ rfl
   have f7:=blk_free hw6 4
   have hwl6:=lt_block hw6
   have HO6:Hid _:=own6
   have HW6:Hid _:=hw6
   have HN6:Hid _:=hn6
   have HD6:Hid _:=D6
   have HE6:Hid _:=E6
   clear own6 or6 D6 E6 hkl hn6 hw6
   go_wp2_with fail
   go_end0
   have hset:∀k,k≠wb→(w6.setCell ⟨wb,4,none⟩ (.slice (some ⟨g6,0,none⟩) (marks.length+4) p6)).heap[k]? =w6.heap[k]? :=fun k hk=>Below.heap_setCell _ _ _ _ hk
   have hs5:=HD5.out.size
   have hs6:w5.heap.size+1≤w6.heap.size:=by have:=HD6.out.size;simpa using this
   have hg6:(Value.slice b5 marks.length m5).ownBlock=some g6∨w5.heap.size≤g6:=by
    rcases HE6.out with h|h
    ·exact .inl h
    ·exact .inr (by simp at h;omega)
   have fin:∀{r:Value} {n:Nat} {cs:List Value},w5.ownsRow 0 94 3 r n cs→(∀k,r.ownBlock=some k→(Value.slice b5 marks.length m5).ownBlock≠some k)→(w6.setCell ⟨wb,4,none⟩ (.slice (some ⟨g6,0,none⟩) (marks.length+4) p6)).ownsRow 0 94 3 r n cs:=fun {r n cs} hr hne=>rowKept hr (fun k _ ek ho=>by
    obtain⟨_,cs',t⟩:=own_type hr ek
    rw[hset k (by rintro rfl;rw[HB5.out] at t;cases t),HN6.out k (ownLt hr ek) (hne k ek)];exact ho)
   have kne:∀k,(Value.slice b5 marks.length m5).ownBlock=some k→k<w.heap.size:=fun k e=>ownLt HB.out.kn e
   have newr:∀(g n p:Nat),((Value.slice lb xs.length lc).ownBlock=some g∨w.heap.size≤g)→∀k,(Value.slice (some ⟨g,0,none⟩) n p).ownBlock=some k→(F k∨(Value.slice lb xs.length lc).ownBlock=some k∨w.heap.size≤k)∧(Value.slice b5 marks.length m5).ownBlock≠some k:=by
    intro g n p hg k ek
    obtain rfl:g=k:=by cases ek;rfl
    rcases hg with h|h
    ·exact⟨.inr (.inl h),fun e=>HNK.out _ e h⟩
    ·exact⟨.inr (.inr h),fun e=>by have:=kne _ e;omega⟩
   have knew:∀k,k<w5.heap.size→(Value.slice b5 marks.length m5).ownBlock≠some k→(Value.slice (some ⟨g6,0,none⟩) (marks.length+4) p6).ownBlock≠some k:=by
    intro k hk hne e
    obtain rfl:g6=k:=by cases e;rfl
    rcases hg6 with h|h
    ·exact hne h
    ·omega
   refine⟨rfl,.slice (some ⟨g4,0,none⟩) (rows.length+4) p4,.slice (some ⟨g6,0,none⟩) (marks.length+4) p6,rows++[.slice lb xs.length lc,.slice (some ⟨g1,0,none⟩) (xs.length+1) p1,.slice (some ⟨g2,0,none⟩) (xs.length+2) p2,.slice (some ⟨g3,0,none⟩) (xs.length+3) p3],marks++[mk,mk,mk,mk],set_blk' HW6.out 4 _,⟨?_,?_,by simp[HB.out.len],?_,?_,?_⟩,by simp,?_⟩
   ·rw[List.length_append]
    exact rowKept HNS5.out (fun k _ ek ho=>by
     obtain⟨_,cs',t⟩:=own_type HNS5.out ek
     rw[hset k (by rintro rfl;rw[HB5.out] at t;cases t),HN6.out k (ownLt HNS5.out ek) (fun e=>by
      obtain⟨_,cs'',t2⟩:=own_type HKN5.out e
      rw[t] at t2;cases t2)];exact ho)
   ·rw[List.length_append,show intC (marks++[mk,mk,mk,mk])=intC marks++[.int .i64 mk,.int .i64 mk,.int .i64 mk,.int .i64 mk] by simp[intC]]
    exact rowKept HO6.out (fun k _ ek ho=>by
     obtain⟨_,cs',t⟩:=own_type HO6.out ek
     rw[hset k (by rintro rfl;rw[HW6.out] at t;cases t)];exact ho)
   ·intro i h1 h2
    by_cases hi':i<rows.length
    ·obtain⟨n,r1,r2⟩:=HB.out.each i hi' (by rw[←HB.out.len];exact hi')
     have r3:w3.ownsRow 0 94 3 rows[i] n (List.replicate n (mV (marks[i]'(by rw[←HB.out.len];exact hi')))).flatten:=rowKept r1 (fun k _ ek ho=>(HD3.out.only k (ownLt r1 ek) (fun e=>HLF.out k e (r2 k ek).1)).trans ho)
     rw[List.getElem_append_left hi',List.getElem_append_left (by rw[←HB.out.len];exact hi')]
     have r5:=HRI.out _ _ _ r3
     exact⟨n,fin r5 (fun k ek=>(r2 k ek).2),fun k ek=>⟨.inl (r2 k ek).1,knew k (ownLt r5 ek) (r2 k ek).2⟩⟩
    ·have hlen:=HB.out.len
     rw[List.getElem_append_right (by omega),List.getElem_append_right (by omega)]
     have hi4:i-rows.length<4:=by simp at h1;omega
     have hmi:i-marks.length=i-rows.length:=by omega
     have hmk:∀(j:Nat) (hj:j<[mk,mk,mk,mk].length),[mk,mk,mk,mk][j]=mk:=by
      intro j hj
      have:j<4:=by simpa using hj
      rcases(by omega:j=0∨j=1∨j=2∨j=3) with rfl|rfl|rfl|rfl<;>rfl
     rw[hmk]
     obtain⟨d,hd⟩:∃d,i-rows.length=d:=⟨_,rfl⟩
     have hL5:=HRI.out _ _ _ HL3.out
     have hG5:=HRI.out _ _ _ HG3.out
     have hH5:=HRI.out _ _ _ HH3.out
     have hJ5:=HRI.out _ _ _ HJ3.out
     have base:∀(r:Value) (n:Nat),w5.ownsRow 0 94 3 r n (List.replicate n (mV mk)).flatten→(∀k,r.ownBlock=some k→(F k∨(Value.slice lb xs.length lc).ownBlock=some k∨w.heap.size≤k)∧(Value.slice b5 marks.length m5).ownBlock≠some k)→∃n,(w6.setCell ⟨wb,4,none⟩ (.slice (some ⟨g6,0,none⟩) (marks.length+4) p6)).ownsRow 0 94 3 r n (List.replicate n (mV mk)).flatten∧∀k,r.ownBlock=some k→(F k∨(Value.slice lb xs.length lc).ownBlock=some k∨w.heap.size≤k)∧(Value.slice (some ⟨g6,0,none⟩) (marks.length+4) p6).ownBlock≠some k:=
      fun r n hr hk=>⟨n,fin hr (fun k ek=>(hk k ek).2),fun k ek=>⟨(hk k ek).1,knew k (ownLt hr ek) (hk k ek).2⟩⟩
     have hcases:∀(d:Nat) (hd4:d<4),∃n,(w6.setCell ⟨wb,4,none⟩ (.slice (some ⟨g6,0,none⟩) (marks.length+4) p6)).ownsRow 0 94 3 ([Value.slice lb xs.length lc,.slice (some ⟨g1,0,none⟩) (xs.length+1) p1,.slice (some ⟨g2,0,none⟩) (xs.length+2) p2,.slice (some ⟨g3,0,none⟩) (xs.length+3) p3][d]'(by simpa using hd4)) n (List.replicate n (mV mk)).flatten∧∀k,([Value.slice lb xs.length lc,.slice (some ⟨g1,0,none⟩) (xs.length+1) p1,.slice (some ⟨g2,0,none⟩) (xs.length+2) p2,.slice (some ⟨g3,0,none⟩) (xs.length+3) p3][d]'(by simpa using hd4)).ownBlock=some k→(F k∨(Value.slice lb xs.length lc).ownBlock=some k∨w.heap.size≤k)∧(Value.slice (some ⟨g6,0,none⟩) (marks.length+4) p6).ownBlock≠some k:=by
      intro d hd4
      rcases(by omega:d=0∨d=1∨d=2∨d=3) with rfl|rfl|rfl|rfl
      ·exact base _ _ hL5 (fun k ek=>⟨.inr (.inl ek),fun e=>HNK.out _ e ek⟩)
      ·exact base _ _ hG5 (newr g1 _ _ HE1.out)
      ·exact base _ _ hH5 (newr g2 _ _ HE2.out)
      ·exact base _ _ hJ5 (newr g3 _ _ HE3.out)
     exact hcases (i-rows.length) hi4
   ·intro k ek
    obtain rfl:g4=k:=by cases ek;rfl
    rcases HE4.out with h|h
    ·exact .inl (HB.out.inN _ h)
    ·exact .inr (.inr h)
   ·intro k ek
    obtain rfl:g6=k:=by cases ek;rfl
    rcases hg6 with h|h
    ·exact .inl (HB.out.inK _ h)
    ·exact .inr (.inr (by omega))
   ·exact((HD5.out.alloc _).trans (HD6.out.mono (fun k hk=>.inr (.inl (HB.out.inK k hk))))).set _ (.inl (.inl rfl))
end
end Go.Proofs.YtbnelaoeblhndaaGreatDoor
