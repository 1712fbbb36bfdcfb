import Derived.Test.YtbnelaoeblhndaaGreatDoorRefState
import Derived.Deep.RegionLaw
import Derived.Maps.AppendAt
import Derived.Deep.RegionWith
import Derived.Deep.DeepCutAuto
namespace Go.Proofs.YtbnelaoeblhndaaGreatDoor
open Go.RowKit
set_option maxRecDepth 100000
def isW (t:Doc.Tok)(s:ByteArray):Bool:=(t.kind==119 || t.kind==103) && (t.S.toList==s.toList)
theorem ret_bool {a b:Bool}(h:a=b):Ending.returned (.bool a)=.returned (.bool b):=by rw[h]
theorem kind_int (x:UInt8)(n:Nat)(h:n<256)(b:Bool)(hb:(x==UInt8.ofNat n)=b):((x.toNat:Int)==(n:Int))=b:=by
 rw[←u8_int x n h];exact hb
section
variable {B:Nat}{w:World}{fb:Nat}{Lv:Value}{L:List Doc.Tok}{at_ op:Nat}{Nv:Value}{nodes:List NodeR}{E place:Nat}
set_option maxHeartbeats 1000000 in
theorem is_st (h:RSt B w fb Lv L at_ op Nv nodes E place)(hat:at_<L.length)(hL:L.length≤300)(t:Doc.Tok)(ht:L[at_]=t)(s:ByteArray):
  Calls Tryz.prog 133 #[.pointer (some ⟨fb,0,none⟩),.string s] w fun e w'=>e=.returned (.bool (isW t s))∧Below w.heap.size w w':=by
 have HT:Hid (L[at_]=t):=ht
 by_cases k1:(t.kind==119)=true
 ·have k2:((t.kind.toNat:Int)==119)=true:=kind_int t.kind 119 (by omega) _ k1
  have HE:Hid ((t.S.toList==s.toList)=isW t s):=by simp[Hid,isW,k1]
  clear ht k1
  go_enter Tryz.func133,Tryz.ntmps133
  go_wp2_with (go_at_call 84;refine(now_st h hat hL t HT.out).mono ?_;rintro e w1 ⟨rfl,hb⟩)
  go_ret
  exact⟨ret_bool HE.out,hb.alloc hb.size _⟩
 ·have k1:(t.kind==119)=false:=by simpa using k1
  have k2:((t.kind.toNat:Int)==119)=false:=kind_int t.kind 119 (by omega) _ k1
  by_cases k3:(t.kind==103)=true
  ·have k4:((t.kind.toNat:Int)==103)=true:=kind_int t.kind 103 (by omega) _ k3
   have HE:Hid ((t.S.toList==s.toList)=isW t s):=by simp[Hid,isW,k3]
   clear ht k1 k3
   go_enter Tryz.func133,Tryz.ntmps133
   go_wp2_with (go_at_call 84;refine(now_st h hat hL t HT.out).mono ?_;rintro e w1 ⟨rfl,hb⟩)
   go_ret
   exact⟨ret_bool HE.out,hb.alloc hb.size _⟩
  ·have k3:(t.kind==103)=false:=by simpa using k3
   have k4:((t.kind.toNat:Int)==103)=false:=kind_int t.kind 103 (by omega) _ k3
   have HE:Hid (isW t s=false):=by simp[Hid,isW,k1,k3]
   clear ht k1 k3
   go_enter Tryz.func133,Tryz.ntmps133
   go_wp2_with (go_at_call 84;refine(now_st h hat hL t HT.out).mono ?_;rintro e w1 ⟨rfl,hb⟩)
   go_ret
   exact⟨ret_bool HE.out.symm,hb.alloc hb.size _⟩
theorem RSt.c0 (h:RSt B w fb Lv L at_ op Nv nodes E place):w.cell? ⟨fb,0,none⟩=some Lv:=blk_cell h.blk 0 _ rfl
theorem RSt.c1 (h:RSt B w fb Lv L at_ op Nv nodes E place):w.cell? ⟨fb,1,none⟩=some (.int .i64 at_):=blk_cell h.blk 1 _ rfl
theorem RSt.c2 (h:RSt B w fb Lv L at_ op Nv nodes E place):w.cell? ⟨fb,2,none⟩=some (.int .i64 op):=blk_cell h.blk 2 _ rfl
theorem RSt.c3 (h:RSt B w fb Lv L at_ op Nv nodes E place):w.cell? ⟨fb,3,none⟩=some Nv:=blk_cell h.blk 3 _ rfl
theorem RSt.c4 (h:RSt B w fb Lv L at_ op Nv nodes E place):w.cell? ⟨fb,4,none⟩=some (.int .i64 E):=blk_cell h.blk 4 _ rfl
theorem RSt.c4z (h:RSt B w fb Lv L at_ op Nv nodes 0 place):w.cell? ⟨fb,4,none⟩=some (.int .i64 0):=blk_cell h.blk 4 _ rfl
theorem RSt.c5 (h:RSt B w fb Lv L at_ op Nv nodes E place):w.cell? ⟨fb,5,none⟩=some (.int .i64 place):=blk_cell h.blk 5 _ rfl
theorem RSt.fr (h:RSt B w fb Lv L at_ op Nv nodes E place)(i:Nat):w.frozen? ⟨fb,i,none⟩=false:=blk_free h.blk i
theorem RSt.Ble (h:RSt B w fb Lv L at_ op Nv nodes E place):B≤w.heap.size:=by have:=h.base;have:=h.lt;omega
theorem RSt.alloc (h:RSt B w fb Lv L at_ op Nv nodes E place)(o:Obj):RSt B (w.alloc o) fb Lv L at_ op Nv nodes E place:=h.below ((Below.refl _ _).alloc (Nat.le_refl _) o)
theorem RSt.drew (h:RSt B w fb Lv L at_ op Nv nodes E place):RSt B w.drew fb Lv L at_ op Nv nodes E place:=⟨h.blk,h.ltok,h.nds,h.base⟩
theorem RSt.stored (h:RSt B w fb Lv L at_ op Nv nodes E place){i:Nat}{u:Value}{at2 op2 E2 p2:Nat}
  (hc:(#[Lv,.int .i64 at_,.int .i64 op,Nv,.int .i64 E,.int .i64 place]:Array Value).setIfInBounds i u= #[Lv,.int .i64 at2,.int .i64 op2,Nv,.int .i64 E2,.int .i64 p2]):
  RSt B (w.setCell ⟨fb,i,none⟩ u) fb Lv L at2 op2 Nv nodes E2 p2∧Mv B fb w (w.setCell ⟨fb,i,none⟩ u):=by
 have hst:Step B w (w.setCell ⟨fb,i,none⟩ u):=(Step.refl B w).setCell (p:=⟨fb,i,none⟩) h.base u h.blk (by decide)
 refine⟨⟨?_,ownsRow_step h.ltok hst,?_,h.base⟩,hst,fun k _ hf=>Below.heap_setCell _ _ _ _ hf⟩
 ·rw[←hc]
  simp[World.setCell,Array.getElem?_modify,h.blk]
 ·obtain⟨h1,h2⟩:=h.nds
  refine⟨h1,?_⟩
  rcases h2 with h2|⟨g,cap,cur,hv,hg,hh,r⟩
  ·exact .inl h2
  ·refine .inr ⟨g,cap,cur,hv,hg,?_,r⟩
   rw[Below.heap_setCell _ _ _ _ (by rintro rfl;have:=h.blk;rw[hh] at this;simp at this)]
   exact hh
set_option maxHeartbeats 1000000 in
theorem wrong_new (h:RSt B w fb Lv L at_ op Nv nodes 0 place)(hat:at_<L.length)(hL:L.length≤300)(t:Doc.Tok)(ht:L[at_]=t)(e:Nat):
  Calls Tryz.prog 85 #[.pointer (some ⟨fb,0,none⟩),.int .i64 e] w fun r w'=>r=.returned (.int .i64 0)∧RSt B w' fb Lv L at_ op Nv nodes e t.at_∧Mv B fb w w':=by
 have HT:Hid (L[at_]=t):=ht
 clear ht
 have c4:=h.c4z
 have f4:=h.fr 4
 have hlt:=h.lt
 obtain⟨h2,hs2⟩:=RSt.stored h (i:=4) (u:=.int .i64 e) (at2:=at_) (op2:=op) (E2:=e) (p2:=place) rfl
 go_enter Tryz.func85,Tryz.ntmps85
 go_wp2_with (go_at_call 84;refine(now_st h2 hat hL t HT.out).mono ?_;rintro r w1 ⟨rfl,hb⟩;have h3:=h2.below hb;have hs3:=hs2.trans (Mv.ofBelow (fb:=fb) hb h2.Ble);have f5:=h3.fr 5;have c5:=h3.c5;have hlt3:=h3.lt;clear h2 hs2 hb)
 go_ret
 refine⟨rfl,?_⟩
 obtain⟨h5,hs5⟩:=RSt.stored h3 (i:=5) (u:=.int .i64 t.at_) (at2:=at_) (op2:=op) (E2:=e) (p2:=t.at_) rfl
 exact⟨h5.alloc _,(hs3.trans hs5).alloc h5.Ble _⟩
set_option maxHeartbeats 1000000 in
theorem wrong_old (h:RSt B w fb Lv L at_ op Nv nodes E place)(hE:0<E)(e:Nat):
  Calls Tryz.prog 85 #[.pointer (some ⟨fb,0,none⟩),.int .i64 e] w fun r w'=>r=.returned (.int .i64 0)∧w'=w:=by
 have c4:=h.c4
 have hz:((E:Int)==0)=false:=by rw[beq_eq_false_iff_ne];omega
 go_enter Tryz.func85,Tryz.ntmps85
 go_wp2_with fail
 go_ret
 exact⟨rfl,rfl⟩
set_option maxHeartbeats 1000000 in
theorem must_yes (h:RSt B w fb Lv L at_ op Nv nodes 0 place)(hat:at_<L.length)(hL:L.length≤300)(s:ByteArray)(ht:isW L[at_] s=true):
  Calls Tryz.prog 189 #[.pointer (some ⟨fb,0,none⟩),.string s] w fun r w'=>r=.returned (.tuple #[])∧RSt B w' fb Lv L (at_ +1) op Nv nodes 0 place∧Mv B fb w w':=by
 have HT:Hid (isW L[at_] s=true):=ht
 clear ht
 go_enter Tryz.func189,Tryz.ntmps189
 go_wp2_with (go_at_call 133;refine(is_st h hat hL _ rfl s).mono ?_;rw[HT.out];rintro r w1 ⟨rfl,hb⟩;have h3:=h.below hb;have hs3:=Mv.ofBelow (fb:=fb) hb h.Ble;have c4:=h3.c4z;have f1:=h3.fr 1;have c1:=h3.c1;have hlt3:=h3.lt;clear h hb)
 go_end0
 refine⟨rfl,?_⟩
 obtain⟨h5,hs5⟩:=RSt.stored h3 (i:=1) (u:=.int .i64 ((at_:Int)+1)) (at2:=at_ +1) (op2:=op) (E2:=0) (p2:=place) rfl
 exact⟨h5,hs3.trans hs5⟩
set_option maxHeartbeats 1000000 in
theorem must_no (h:RSt B w fb Lv L at_ op Nv nodes 0 place)(hat:at_<L.length)(hL:L.length≤300)(s:ByteArray)(ht:isW L[at_] s=false):
  Calls Tryz.prog 189 #[.pointer (some ⟨fb,0,none⟩),.string s] w fun r w'=>r=.returned (.tuple #[])∧RSt B w' fb Lv L at_ op Nv nodes 6 L[at_].at_∧Mv B fb w w':=by
 have HT:Hid (isW L[at_] s=false):=ht
 clear ht
 go_enter Tryz.func189,Tryz.ntmps189
 go_wp2_with (first|(go_at_call 133;refine(is_st h hat hL _ rfl s).mono ?_;rw[HT.out];rintro r w1 ⟨rfl,hb⟩;have h3:=h.below hb;have hs3:=Mv.ofBelow (fb:=fb) hb h.Ble;clear h hb)|(go_at_call 85;refine(wrong_new h3 hat hL _ rfl 6).mono ?_;rintro r w2 ⟨rfl,h4,hs4⟩;have c4:=h4.c4))
 go_end0
 exact⟨rfl,h4,hs3.trans hs4⟩
set_option maxHeartbeats 1000000 in
theorem must_old (h:RSt B w fb Lv L at_ op Nv nodes E place)(hE:0<E)(hat:at_<L.length)(hL:L.length≤300)(s:ByteArray):
  Calls Tryz.prog 189 #[.pointer (some ⟨fb,0,none⟩),.string s] w fun r w'=>r=.returned (.tuple #[])∧RSt B w' fb Lv L at_ op Nv nodes E place∧Mv B fb w w':=by
 have hz:((E:Int)==0)=false:=by rw[beq_eq_false_iff_ne];omega
 by_cases ht:isW L[at_] s=true
 ·have HT:Hid (isW L[at_] s=true):=ht
  clear ht
  go_enter Tryz.func189,Tryz.ntmps189
  go_wp2_with (first|(go_at_call 133;refine(is_st h hat hL _ rfl s).mono ?_;rw[HT.out];rintro r w1 ⟨rfl,hb⟩;have h3:=h.below hb;have hs3:=Mv.ofBelow (fb:=fb) hb h.Ble;have c4:=h3.c4;clear h hb))
  go_end0
  exact⟨rfl,h3,hs3⟩
 ·have HT:Hid (isW L[at_] s=false):=by simpa[Hid] using ht
  clear ht
  go_enter Tryz.func189,Tryz.ntmps189
  go_wp2_with (first|(go_at_call 133;refine(is_st h hat hL _ rfl s).mono ?_;rw[HT.out];rintro r w1 ⟨rfl,hb⟩;have h3:=h.below hb;have hs3:=Mv.ofBelow (fb:=fb) hb h.Ble;have c4:=h3.c4;clear h hb)|(go_at_call 85;refine(wrong_old h3 hE 6).mono ?_;rintro r w2 ⟨rfl,rfl⟩))
  go_end0
  exact⟨rfl,h3,hs3⟩
end
def litB (texts:Bool)(t:Doc.Tok):Bool:=t.kind==115 || (t.kind==110 && !texts)
theorem Tryz.infoNode:(Tryz.prog.info? 178).map (fun i=>(i.zero,i.size,i.bytes))=some (some (.agg #[.int .u8 0,.int .i64 0,.int .i64 0,.int .u8 0,.string ⟨#[]⟩,.int .i64 0,.int .i64 0,.int .u8 0,.string ⟨#[]⟩,.int .i64 0,.int .i64 0,.slice none 0 0]),12,128):=by kernel_rfl
theorem step_append_own {P:Program}{ops:Array Oper}{o:Oper}{a:Act}{w:World}{K:Act→World→Prop}{Q:Exit→Act→World→Prop}{E:Prop}
  (hgd:o.guard=none) (s x:Operand) (t:TypeId)
  (ho:o.op=.call {callee:=.builtin .append,args:=#[s,x],argTypes:=#[t,t]})
  (base:Nat) (e:TypeId) (i:TypeInfo) (z:Value) (size bytes:Nat) (ht:P.underlying t=some (.slice e)) (hi:P.info? e=some i) (hz:i.zero=some z)
  (hsize:i.size=size) (hby:i.bytes=bytes) (hzs:z.cells.size=size) (hsz:0<size)
  (v:Value) (n:Nat) (xs:List Value) (hs:a.eval s=v) (hown:w.ownsRow base e size v n xs)
  (ad:Addr) (m c:Nat) (news:List Value) (hx:a.eval x=.slice (some ad) m c) (hl:news.length=m*size) (hnews:∀j u,news[j]? =some u→w.cell? (ad.add j)=some u) (h1:∀u∈news,u.oneCell'=true)
  (h63:n+m≤maxLen) (hbytes:(n+m)*bytes≤140737488355328) (hbase:base≤w.heap.size)
  (h:∀v' w',w'.ownsRow base e size v' (n+m) (xs++news)→w.grownBy w' v.ownBlock→(v'=.slice none 0 0↔v=.slice none 0 0∧m=0)→K (a.put o.dst v') w'):
  if Region.wanted o (yielded ops a.tmps)=true then Oper.wp P o a w K Q else E:=by
 have hw:Region.wanted o (yielded ops a.tmps)=true:=by simp[Region.wanted,hgd]
 rw[if_pos hw]
 exact wp_append_own w s x t ho base e i z size bytes ht hi hz hsize hby hzs hsz v n xs hs hown ad m c news hx hl hnews h1 h63 hbytes hbase h
theorem kind_ne (x:UInt8)(n:Nat)(h:n<256)(b:Bool)(hb:(x==UInt8.ofNat n)=b):((x.toNat:Int) != (n:Int))= !b:=by
 rw[bne,kind_int x n h b hb]
theorem cells_new_drew (W:World)(xs:List Value)(T:TypeId)(n:Nat)(hn:W.heap.size=n)(j:Nat)(u:Value)(hj:xs[j]? =some u):((W.alloc (.cells xs.toArray T)).drew).cell? ((⟨n,0,none⟩:Addr).add j)=some u:=
 cells_new W xs T n hn j u hj
section
variable {B:Nat}{w:World}{fb:Nat}{Lv:Value}{L:List Doc.Tok}{at_ op:Nat}{Nv:Value}{nodes:List NodeR}{E place:Nat}
theorem ownsRow_one (w:World)(B:Nat)(hB:B≤w.heap.size)(t:Doc.Tok):(w.alloc (.cells (tokC t).toArray 175)).ownsRow B 175 4 (.slice (some ⟨w.heap.size,0,none⟩) 1 1) 1 (tokC t):=
 ⟨rfl,.inr ⟨w.heap.size,1,_,rfl,hB,heap_alloc_new w _,Nat.le_refl _,by unfold maxLen;omega,rfl,rfl⟩⟩
set_option maxHeartbeats 1000000 in
theorem lit_yes (h:RSt B w fb Lv L at_ op Nv nodes 0 place)(hat:at_<L.length)(hL:L.length≤300)(texts:Bool)(t:Doc.Tok)(ht:L[at_]=t)(hl:litB texts t=true):
  Calls Tryz.prog 205 #[.pointer (some ⟨fb,0,none⟩),.bool texts] w fun r w'=>∃g,r=.returned (.slice (some ⟨g,0,none⟩) 1 1)∧w'.ownsRow B 175 4 (.slice (some ⟨g,0,none⟩) 1 1) 1 (tokC t)∧RSt B w' fb Lv L (at_ +1) op Nv nodes 0 place∧Mv B fb w w':=by
 have HT:Hid (L[at_]=t):=ht
 clear ht
 by_cases k1:(t.kind==115)=true
 ·have k2:((t.kind.toNat:Int) != 115)=false:=kind_ne t.kind 115 (by omega) _ k1
  clear hl k1
  go_enter Tryz.func205,Tryz.ntmps205
  go_wp2_with (go_at_call 84;refine(now_st h hat hL t HT.out).mono ?_;rintro r w1 ⟨rfl,hb⟩;have h3:=h.below hb;have hs3:=Mv.ofBelow (fb:=fb) hb h.Ble;have c4:=h3.c4z;have f1:=h3.fr 1;have c1:=h3.c1;have hlt3:=h3.lt;clear h hb)
  go_ret
  obtain⟨h5,hs5⟩:=RSt.stored h3 (i:=1) (u:=.int .i64 ((at_:Int)+1)) (at2:=at_ +1) (op2:=op) (E2:=0) (p2:=place) rfl
  refine⟨_,rfl,?_,(h5.alloc _).alloc _,((hs3.trans hs5).alloc h5.Ble _).alloc (h5.alloc _).Ble _⟩
  have:=ownsRow_one ((w1.setCell ⟨fb,1,none⟩ (.int .i64 ((at_:Int)+1))).alloc (.cells (tokC t).toArray 175)) B (h5.alloc _).Ble t
  simpa[tokC] using this
 ·have k1:(t.kind==115)=false:=by simpa using k1
  have k2:((t.kind.toNat:Int) != 115)=true:=kind_ne t.kind 115 (by omega) _ k1
  have hl2:(t.kind==110)=true∧texts=false:=by simpa[litB,k1] using hl
  have k3:((t.kind.toNat:Int) != 110)=false:=kind_ne t.kind 110 (by omega) _ hl2.1
  obtain⟨_,rfl⟩:=hl2
  clear hl k1
  go_enter Tryz.func205,Tryz.ntmps205
  go_wp2_with (go_at_call 84;refine(now_st h hat hL t HT.out).mono ?_;rintro r w1 ⟨rfl,hb⟩;have h3:=h.below hb;have hs3:=Mv.ofBelow (fb:=fb) hb h.Ble;have c4:=h3.c4z;have f1:=h3.fr 1;have c1:=h3.c1;have hlt3:=h3.lt;clear h hb)
  go_ret
  obtain⟨h5,hs5⟩:=RSt.stored h3 (i:=1) (u:=.int .i64 ((at_:Int)+1)) (at2:=at_ +1) (op2:=op) (E2:=0) (p2:=place) rfl
  refine⟨_,rfl,?_,(h5.alloc _).alloc _,((hs3.trans hs5).alloc h5.Ble _).alloc (h5.alloc _).Ble _⟩
  have:=ownsRow_one ((w1.setCell ⟨fb,1,none⟩ (.int .i64 ((at_:Int)+1))).alloc (.cells (tokC t).toArray 175)) B (h5.alloc _).Ble t
  simpa[tokC] using this
set_option maxHeartbeats 1000000 in
theorem lit_no (h:RSt B w fb Lv L at_ op Nv nodes 0 place)(hat:at_<L.length)(hL:L.length≤300)(texts:Bool)(t:Doc.Tok)(ht:L[at_]=t)(hl:litB texts t=false):
  Calls Tryz.prog 205 #[.pointer (some ⟨fb,0,none⟩),.bool texts] w fun r w'=>r=.returned (.slice none 0 0)∧RSt B w' fb Lv L at_ op Nv nodes 6 t.at_∧Mv B fb w w':=by
 have HT:Hid (L[at_]=t):=ht
 clear ht
 have hl2:(t.kind==115)=false∧((t.kind==110)=false∨texts=true):=by
  simp only[litB,Bool.or_eq_false_iff,Bool.and_eq_false_iff,Bool.not_eq_false'] at hl;exact hl
 obtain⟨k1,k3⟩:=hl2
 have k2:((t.kind.toNat:Int) != 115)=true:=kind_ne t.kind 115 (by omega) _ k1
 clear hl k1
 by_cases k4:(t.kind==110)=true
 ·have k5:((t.kind.toNat:Int) != 110)=false:=kind_ne t.kind 110 (by omega) _ k4
  rw[k4] at k3
  obtain rfl:texts=true:=by simpa using k3
  clear k3 k4
  go_enter Tryz.func205,Tryz.ntmps205
  go_wp2_with (first|(go_at_call 84;refine(now_st h hat hL t HT.out).mono ?_;rintro r w1 ⟨rfl,hb⟩;have h3:=h.below hb;have hs3:=Mv.ofBelow (fb:=fb) hb h.Ble;have c4:=h3.c4z;have hlt3:=h3.lt;clear h hb)|(go_at_call 85;refine(wrong_new (h3.alloc _) hat hL t HT.out 6).mono ?_;rintro r w2 ⟨rfl,h4,hs4⟩))
  go_ret
  exact⟨rfl,h4,(hs3.alloc h3.Ble _).trans hs4⟩
 ·have k4:(t.kind==110)=false:=by simpa using k4
  have k5:((t.kind.toNat:Int) != 110)=true:=kind_ne t.kind 110 (by omega) _ k4
  clear k3 k4
  go_enter Tryz.func205,Tryz.ntmps205
  go_wp2_with (first|(go_at_call 84;refine(now_st h hat hL t HT.out).mono ?_;rintro r w1 ⟨rfl,hb⟩;have h3:=h.below hb;have hs3:=Mv.ofBelow (fb:=fb) hb h.Ble;have c4:=h3.c4z;have hlt3:=h3.lt;clear h hb)|(go_at_call 85;refine(wrong_new (h3.alloc _) hat hL t HT.out 6).mono ?_;rintro r w2 ⟨rfl,h4,hs4⟩))
  go_ret
  exact⟨rfl,h4,(hs3.alloc h3.Ble _).trans hs4⟩
theorem nodeC_one (n:NodeR)(hl:n.lits.oneCell'=true):∀u∈nodeC n,u.oneCell'=true:=by
 intro u hu
 simp only[nodeC,tokC,List.cons_append,List.nil_append,List.mem_cons,List.not_mem_nil,or_false] at hu
 rcases hu with rfl|rfl|rfl|rfl|rfl|rfl|rfl|rfl|rfl|rfl|rfl|rfl
 all_goals first|rfl|exact hl
theorem own_type {w:World}{B:Nat}{e:TypeId}{size n k:Nat}{v:Value}{xs:List Value}(h:w.ownsRow B e size v n xs)(hk:v.ownBlock=some k):B≤k∧∃cs,w.heap[k]? =some (.cells cs e (0,0)):=by
 obtain⟨_,h2⟩:=h
 rcases h2 with⟨rfl,_⟩|⟨g,cap,cur,rfl,hg,hh,_⟩
 ·simp[Value.ownBlock] at hk
 ·simp[Value.ownBlock] at hk;subst hk;exact⟨hg,cur,hh⟩
theorem RSt.grown (h:RSt B w fb Lv L at_ op Nv nodes E place){w2:World}(hg:w.grownBy w2 Nv.ownBlock):
  w2.heap[fb]? =some (.cells #[Lv,.int .i64 at_,.int .i64 op,Nv,.int .i64 E,.int .i64 place] 136 (0,0))∧w2.ownsRow B 175 4 Lv L.length (toksC L)∧Step B w w2:=by
 have hs:Step B w w2:=(Step.refl B w).grown hg h.Ble (fun k hk=>by
  obtain⟨h1,cs,h2⟩:=own_type h.nds hk
  exact⟨h1,cs,_,h2,by decide⟩)
 refine⟨(hg.block fb h.lt (fun e=>?_)).trans h.blk,ownsRow_step h.ltok hs,hs⟩
 obtain⟨_,cs,h2⟩:=own_type h.nds e.symm
 have:=h.blk
 rw[h2] at this;simp at this
theorem RSt.put3 {w2:World}{v2:Value}{nodes2:List NodeR}(hb:w2.heap[fb]? =some (.cells #[Lv,.int .i64 at_,.int .i64 op,Nv,.int .i64 E,.int .i64 place] 136 (0,0)))
  (hl:w2.ownsRow B 175 4 Lv L.length (toksC L)) (hn:w2.ownsRow B 178 12 v2 nodes2.length (nodesC nodes2)) (hB:B≤fb):
  RSt B (w2.setCell ⟨fb,3,none⟩ v2) fb Lv L at_ op v2 nodes2 E place∧Step B w2 (w2.setCell ⟨fb,3,none⟩ v2):=by
 have hst:Step B w2 (w2.setCell ⟨fb,3,none⟩ v2):=(Step.refl B w2).setCell (p:=⟨fb,3,none⟩) hB v2 hb (by decide)
 refine⟨⟨?_,ownsRow_step hl hst,?_,hB⟩,hst⟩
 ·simp[World.setCell,Array.getElem?_modify,hb]
 ·obtain⟨h1,h2⟩:=hn
  refine⟨h1,?_⟩
  rcases h2 with h2|⟨g,cap,cur,hv,hg,hh,r⟩
  ·exact .inl h2
  ·refine .inr ⟨g,cap,cur,hv,hg,?_,r⟩
   rw[Below.heap_setCell _ _ _ _ (by rintro rfl;rw[hh] at hb;simp at hb)]
   exact hh
theorem own_slice {w:World}{B:Nat}{e:TypeId}{size n:Nat}{v:Value}{xs:List Value}(h:w.ownsRow B e size v (n+1) xs):∃g cap,v=.slice (some ⟨g,0,none⟩) (n+1) cap:=by
 obtain⟨_,h2⟩:=h
 rcases h2 with⟨_,h0⟩|⟨g,cap,cur,rfl,_⟩
 ·omega
 ·exact⟨g,cap,rfl⟩
theorem nodesC_snoc (l:List NodeR)(t:NodeR):nodesC (l++[t])=nodesC l++nodeC t:=by simp[nodesC]
set_option maxHeartbeats 1000000 in
theorem node_st (h:RSt B w fb Lv L at_ op Nv nodes E place)(hn:nodes.length≤300)(n:NodeR)(hl:n.lits.oneCell'=true):
  Calls Tryz.prog 134 #[.pointer (some ⟨fb,0,none⟩),.agg #[.int .u8 n.kind.toNat,.int .i64 n.A,.int .i64 n.B,.int .u8 n.name.kind.toNat,.string n.name.S,.int .i64 n.name.N,.int .i64 n.name.at_,.int .u8 n.ask.kind.toNat,.string n.ask.S,.int .i64 n.ask.N,.int .i64 n.ask.at_,n.lits]] w fun r w'=>
   ∃Nv',r=.returned (.int .i64 nodes.length)∧RSt B w' fb Lv L at_ op Nv' (nodes++[n]) E place∧Step B w w':=by
 obtain⟨i0,hi,hz0,hz1,hz2⟩:=info_parts Tryz.infoNode
 have c3:=h.c3
 have f3:=h.fr 3
 have hlt:=h.lt
 go_enter Tryz.func134,Tryz.ntmps134
 go_wp2_with fail
 go_region_law (refine step_append_own rfl (.tmp 9) (.tmp 11) 134 rfl B 178 i0 _ 12 128 Tryz.underlying134 hi hz0 hz1 hz2 rfl (by decide) Nv nodes.length (nodesC nodes) (by simp[Act.eval]) (((h.alloc _).alloc _).drew.nds) ⟨w.heap.size+1,0,none⟩ 1 1 (nodeC n) (by simp[Act.eval]) rfl (fun j u hj=>cells_new_drew _ (nodeC n) _ _ (by simp) j u hj) (nodeC_one n hl) (by unfold maxLen;omega) (by omega) (by have:=h.Ble;simp;omega) ?_;intro v2 w2 hown2 hgrow2 _;obtain⟨g2,cap2,rfl⟩:=own_slice hown2;obtain⟨hb2,hl2,hs2⟩:=(((h.alloc _).alloc _).drew).grown hgrow2;have c32:=blk_cell hb2 3 _ rfl;have f32:=blk_free hb2 3;rw[←nodesC_snoc] at hown2;have HG:Hid _:=hown2;clear hown2 hgrow2)
 all_goals
  go_wp2_with fail
  go_ret
  obtain⟨h5,hs5⟩:=RSt.put3 (nodes2:=nodes++[n]) hb2 hl2 (by rw[len_snoc];exact HG.out) h.base
  exact⟨_,ret_int (by simp),h5,((((Step.refl B w).alloc h.Ble _).alloc (h.alloc _).Ble _).drew.trans hs2).trans hs5⟩
end
end Go.Proofs.YtbnelaoeblhndaaGreatDoor
namespace Go.Proofs.YtbnelaoeblhndaaGreatDoor
namespace Doc
structure Val where
 k:Int
 n:Int
 s:ByteArray
structure Fld where
 name:ByteArray
 kind:Int
structure Thg where
 id:Int
 spot:List Int
 vals:List Val
def goodV (v:Val)(kind:Int):Bool:=
 (v.k==0 && (v.n==0 && v.s.toList==[])) || (v.k==1 && (kind==1 && v.s.toList==[] && decide (-9999999≤v.n) && decide (v.n≤9999999))) || (v.k==2 && (kind==2 && v.n==0 && decide (v.s.size≤12)))
def inSpot (n:Int):Bool:=decide (-1000≤n) && decide (n≤1000)
def spotB (space:Int)(l:List Int):Bool:=l.all inSpot && ((l.length:Int)==space)
def idxT (ths:List Thg)(id:Int):Option Nat:=ths.findIdx? (fun t=>t.id==id)
def placeI:Option Nat→Int|some k=>k|none=> -1
theorem idxT_some {ths:List Thg}{id:Int}{k:Nat}(hk:k<ths.length)(h:(ths[k].id==id)=true)(hb:∀j (hj:j<k),(ths[j].id==id)=false):idxT ths id=some k:=by
 unfold idxT
 rw[List.findIdx?_eq_some_iff_getElem]
 exact⟨hk,h,fun j hj=>by rw[hb j hj];simp⟩
theorem idxT_none {ths:List Thg}{id:Int}(hb:∀j (hj:j<ths.length),(ths[j].id==id)=false):idxT ths id=none:=by
 unfold idxT
 rw[List.findIdx?_eq_none_iff]
 intro t ht
 obtain⟨j,hj,rfl⟩:=List.getElem_of_mem ht
 exact hb j hj
def idxF (fs:List Fld)(nm:ByteArray):Option Nat:=fs.findIdx? (fun f=>f.name.toList==nm.toList)
theorem idxF_some {fs:List Fld}{nm:ByteArray}{k:Nat}(hk:k<fs.length)(h:(fs[k].name.toList==nm.toList)=true)(hb:∀j (hj:j<k),(fs[j].name.toList==nm.toList)=false):idxF fs nm=some k:=by
 unfold idxF
 rw[List.findIdx?_eq_some_iff_getElem]
 exact⟨hk,h,fun j hj=>by rw[hb j hj];simp⟩
theorem idxF_none {fs:List Fld}{nm:ByteArray}(hb:∀j (hj:j<fs.length),(fs[j].name.toList==nm.toList)=false):idxF fs nm=none:=by
 unfold idxF
 rw[List.findIdx?_eq_none_iff]
 intro t ht
 obtain⟨j,hj,rfl⟩:=List.getElem_of_mem ht
 exact hb j hj
end Doc
open Go.RowKit
set_option maxRecDepth 100000
def valC (v:Doc.Val):List Value:=[.int .i64 v.k,.int .i64 v.n,.string v.s]
def fldC (f:Doc.Fld):List Value:=[.string f.name,.int .i64 f.kind]
def intC (l:List Int):List Value:=l.map (Value.int .i64)
def valsC (l:List Doc.Val):List Value:=l.flatMap valC
def fldsC (l:List Doc.Fld):List Value:=l.flatMap fldC
structure Sl (w:World)(sv:Value)(n:Nat)(cs:List Value):Prop where
 has:(n=0∧∃a cap,sv=.slice a 0 cap)∨(0<n∧∃b off cap,sv=.slice (some ⟨b,off,none⟩) n cap∧n≤cap∧b<w.heap.size∧∀j u,cs[j]? =some u→w.cell? ⟨b,off+j,none⟩=some u)
theorem Sl.below {w w':World}{sv:Value}{n:Nat}{cs:List Value}(h:Sl w sv n cs)(hb:Below w.heap.size w w'):Sl w' sv n cs:=by
 rcases h.has with h|⟨h0,b,off,cap,rfl,hc,hl,hr⟩
 ·exact⟨.inl h⟩
 ·exact⟨.inr ⟨h0,b,off,cap,rfl,hc,Nat.lt_of_lt_of_le hl hb.size,fun j u hj=>(hb.cell (p:=⟨b,off+j,none⟩) hl).trans (hr j u hj)⟩⟩
theorem flat_at {α:Type}(f:α→List Value)(size:Nat)(hf:∀a,(f a).length=size):∀(ls:List α) (j:Nat) (hj:j<ls.length) (c:Nat),c<size→(ls.flatMap f)[j*size+c]? =(f ls[j])[c]? :=by
 intro ls
 induction ls with
 |nil=>intro j hj;simp at hj
 |cons a r ih=>
  intro j hj c hc
  have ha:=hf a
  rw[List.flatMap_cons]
  cases j with
  |zero=>rw[List.getElem?_append_left (by omega)];simp
  |succ j=>
   rw[List.getElem?_append_right (by rw[ha,Nat.succ_mul];omega)]
   rw[show(j+1)*size+c-(f a).length=j*size+c by rw[ha,Nat.succ_mul];omega]
   exact ih j (by simpa using hj) c hc
section
variable {w:World}
set_option maxHeartbeats 2000000 in
theorem rspot_any (sb:Nat)(space:Int)(hsp:w.cell? ⟨sb,1,none⟩=some (.int .i64 space))(l:List Int)(hl:l.length≤9223372036854775807)(sv:Value)(hs:Sl w sv l.length (intC l)):
  Calls Tryz.prog 137 #[.pointer (some ⟨sb,0,none⟩),sv] w fun e w'=>e=.returned (.bool (Doc.spotB space l))∧w'=w:=by
 rcases hs.has with⟨h0,a,cap,rfl⟩|⟨h0,b,off,cap,rfl,hc,hlt,hr⟩
 ·obtain rfl:=List.eq_nil_of_length_eq_zero h0
  go_enter Tryz.func137,Tryz.ntmps137
  go_wp2_with fail
  go_loop [5] (fun i=>i=.int .i64 0) (fun _=>0)
  case atStart=>rfl
  case round=>
   obtain rfl:=hrel
   go_wp2_with fail
   go_ret
   exact⟨by simp[Doc.spotB],rfl⟩
 ·have HR:Hid (∀j u,(intC l)[j]? =some u→w.cell? ⟨b,off+j,none⟩=some u):=hr
  clear hs hr
  go_enter Tryz.func137,Tryz.ntmps137
  go_wp2_with fail
  go_loop [5] (fun i=>∃k:Nat,k≤l.length∧i=.int .i64 k∧Hid (∀j (_:j<k) (hj:j<l.length),Doc.inSpot l[j]=true)) (fun i=>l.length-(intOf i).toNat)
  case atStart=>exact⟨0,Nat.zero_le _,rfl,fun j hj=>by omega⟩
  case round=>
   obtain⟨k,hk,rfl,HB⟩:=hrel
   by_cases hk2:k<l.length
   ·have r0:=HR.out k (.int .i64 l[k]) (by simp[intC,hk2])
    obtain⟨x,HX⟩:∃x,Hid (x=l[k]):=⟨l[k],rfl⟩
    rw[←HX.out] at r0
    by_cases hin:Doc.inSpot x=true
    ·have hin1: -1000≤x:=by simp[Doc.inSpot] at hin;exact hin.1
     have hin2:x≤1000:=by simp[Doc.inSpot] at hin;exact hin.2
     have HI:Hid (Doc.inSpot x=true):=hin
     clear hin
     go_wp2_with fail
     go_round
     case rel=>exact⟨k+1,by omega,by go_num,fun j hj hjl=>by
      by_cases h:j=k
      ·subst h;rw[←HX.out];exact HI.out
      ·exact HB.out j (by omega) hjl⟩
     case measure=>simp[intOf];omega
    ·have HI:Hid (Doc.inSpot x=false):=(show Doc.inSpot x=false by simpa using hin)
     have HF:Hid (Doc.spotB space l=false):=by
      show _=_
      unfold Doc.spotB
      rw[show l.all Doc.inSpot=false from ?_]
      ·rfl
      ·rw[List.all_eq_false]
       exact⟨l[k],List.getElem_mem hk2,by rw[←HX.out,HI.out];simp⟩
     have hin1:x < -1000∨(-1000≤x∧1000<x):=by
      have:=HI.out
      simp only[Doc.inSpot,Bool.and_eq_false_iff,decide_eq_false_iff_not] at this
      omega
     clear hin
     rcases hin1 with h1|⟨h1,h2⟩
     all_goals
      go_wp2_with fail
      go_ret
      exact⟨by rw[HF.out];rfl,rfl⟩
   ·obtain rfl:k=l.length:=by omega
    have HF:Hid (Doc.spotB space l=((l.length:Int)==space)):=by
     show _=_
     unfold Doc.spotB
     rw[show l.all Doc.inSpot=true from ?_]
     ·rfl
     ·rw[List.all_eq_true]
      intro y hy
      obtain⟨j,hj,rfl⟩:=List.getElem_of_mem hy
      exact HB.out j hj hj
    go_wp2_with fail
    go_ret
    exact⟨by rw[HF.out];rfl,rfl⟩
theorem goodV_of {v:Doc.Val}{kind:Int}{b:Bool}(h:((v.k==0 && (v.n==0 && v.s.toList==[])) || (v.k==1 && (kind==1 && v.s.toList==[] && decide (-9999999≤v.n) && decide (v.n≤9999999))) || (v.k==2 && (kind==2 && v.n==0 && decide (v.s.size≤12))))=b):b=Doc.goodV v kind:=h.symm
set_option maxHeartbeats 4000000 in
theorem good_any (v:Doc.Val)(kind:Int):
  Calls Tryz.prog 138 #[.agg #[.int .i64 v.k,.int .i64 v.n,.string v.s],.int .i64 kind] w fun e w'=>e=.returned (.bool (Doc.goodV v kind))∧Below w.heap.size w w':=by
 have HB:Hid (∀b,_→b=Doc.goodV v kind):=fun b h=>goodV_of (v:=v) (kind:=kind) (b:=b) h
 generalize Doc.goodV v kind=nb at *
 go_enter Tryz.func138,Tryz.ntmps138
 go_wp2_with fail
 all_goals
  go_ret
  refine⟨ret_bool (HB.out _ ?_),(Below.refl _ _).alloc (Nat.le_refl _) _⟩
  clear HB
  first|(simp[*];done)|(simp_all;done)|(simp_all;omega)
def thgC (t:Doc.Thg)(p:Value×Value):List Value:=[.int .i64 t.id,p.1,p.2]
def thsC:List Doc.Thg→List (Value×Value)→List Value
 |t::ts,p::ps=>thgC t p++thsC ts ps
 | _,_=>[]
theorem thsC_at:∀(ts:List Doc.Thg) (ps:List (Value×Value)) (_:ts.length=ps.length) (j:Nat) (hj:j<ts.length) (hp:j<ps.length) (c:Nat),c<3→(thsC ts ps)[j*3+c]? =(thgC ts[j] ps[j])[c]? :=by
 intro ts
 induction ts with
 |nil=>intro ps _ j hj;simp at hj
 |cons t ts ih=>
  intro ps hl j hj hp c hc
  cases ps with
  |nil=>simp at hp
  |cons p ps=>
   show(thgC t p++thsC ts ps)[j*3+c]? =_
   cases j with
   |zero=>rw[List.getElem?_append_left (by simp[thgC];omega)];simp
   |succ j=>
    rw[List.getElem?_append_right (by simp[thgC];omega)]
    rw[show(j+1)*3+c-(thgC t p).length=j*3+c by simp[thgC];omega]
    exact ih ps (by simpa using hl) j (by simpa using hj) (by simpa using hp) c hc
set_option maxHeartbeats 2000000 in
theorem at_any (sb:Nat)(tv:Value)(htv:w.cell? ⟨sb,2,none⟩=some tv)(ts:List Doc.Thg)(ps:List (Value×Value))(hps:ts.length=ps.length)(hl:ts.length≤9223372036854775807)(hs:Sl w tv ts.length (thsC ts ps))(id:Int):
  Calls Tryz.prog 96 #[.pointer (some ⟨sb,0,none⟩),.int .i64 id] w fun e w'=>e=.returned (.int .i64 (Doc.placeI (Doc.idxT ts id)))∧w'=w:=by
 rcases hs.has with⟨h0,a,cap,rfl⟩|⟨h0,b,off,cap,rfl,hc,hlt,hr⟩
 ·obtain rfl:=List.eq_nil_of_length_eq_zero h0
  go_enter Tryz.func96,Tryz.ntmps96
  go_wp2_with fail
  go_loop [5] (fun i=>i=.int .i64 0) (fun _=>0)
  case atStart=>rfl
  case round=>
   obtain rfl:=hrel
   go_wp2_with fail
   go_ret
   exact⟨rfl,rfl⟩
 ·have HR:Hid (∀j u,(thsC ts ps)[j]? =some u→w.cell? ⟨b,off+j,none⟩=some u):=hr
  clear hs hr
  go_enter Tryz.func96,Tryz.ntmps96
  go_wp2_with fail
  go_loop [5] (fun i=>∃k:Nat,k≤ts.length∧i=.int .i64 k∧Hid (∀j (_:j<k) (hj:j<ts.length),(ts[j].id==id)=false)) (fun i=>ts.length-(intOf i).toNat)
  case atStart=>exact⟨0,Nat.zero_le _,rfl,fun j hj=>by omega⟩
  case round=>
   obtain⟨k,hk,rfl,HB⟩:=hrel
   by_cases hk2:k<ts.length
   ·have r0:=HR.out (k*3) (.int .i64 ts[k].id) (by rw[show k*3=k*3+0 from rfl,thsC_at ts ps hps k hk2 (by omega) 0 (by omega)];rfl)
    obtain⟨x,HX⟩:∃x,Hid (x=ts[k].id):=⟨ts[k].id,rfl⟩
    rw[←HX.out] at r0
    by_cases hin:(x==id)=true
    ·have HF:Hid (Doc.idxT ts id=some k):=Doc.idxT_some hk2 (by rw[←HX.out];exact hin) (fun j hj=>HB.out j hj (by omega))
     go_wp2_with fail
     go_ret
     exact⟨by rw[HF.out];rfl,rfl⟩
    ·have hin:(x==id)=false:=by simpa using hin
     have HI:Hid ((x==id)=false):=hin
     go_wp2_with fail
     go_round
     case rel=>exact⟨k+1,by omega,by go_num,fun j hj hjl=>by
      by_cases h:j=k
      ·subst h;rw[←HX.out];exact HI.out
      ·exact HB.out j (by omega) hjl⟩
     case measure=>simp[intOf];omega
   ·obtain rfl:k=ts.length:=by omega
    have HF:Hid (Doc.idxT ts id=none):=Doc.idxT_none (fun j hj=>HB.out j hj hj)
    go_wp2_with fail
    go_ret
    exact⟨by rw[HF.out];rfl,rfl⟩
theorem fldC_len (f:Doc.Fld):(fldC f).length=2:=rfl
theorem valC_len (v:Doc.Val):(valC v).length=3:=rfl
set_option maxHeartbeats 2000000 in
theorem field_any (fs:List Doc.Fld)(hl:fs.length≤9223372036854775807)(fv:Value)(hs:Sl w fv fs.length (fldsC fs))(nm:ByteArray):
  Calls Tryz.prog 136 #[fv,.string nm] w fun e w'=>e=.returned (.int .i64 (Doc.placeI (Doc.idxF fs nm)))∧w'=w:=by
 rcases hs.has with⟨h0,a,cap,rfl⟩|⟨h0,b,off,cap,rfl,hc,hlt,hr⟩
 ·obtain rfl:=List.eq_nil_of_length_eq_zero h0
  go_enter Tryz.func136,Tryz.ntmps136
  go_wp2_with fail
  go_loop [5] (fun i=>i=.int .i64 0) (fun _=>0)
  case atStart=>rfl
  case round=>
   obtain rfl:=hrel
   go_wp2_with fail
   go_ret
   exact⟨rfl,rfl⟩
 ·have HR:Hid (∀j u,(fldsC fs)[j]? =some u→w.cell? ⟨b,off+j,none⟩=some u):=hr
  clear hs hr
  go_enter Tryz.func136,Tryz.ntmps136
  go_wp2_with fail
  go_loop [5] (fun i=>∃k:Nat,k≤fs.length∧i=.int .i64 k∧Hid (∀j (_:j<k) (hj:j<fs.length),(fs[j].name.toList==nm.toList)=false)) (fun i=>fs.length-(intOf i).toNat)
  case atStart=>exact⟨0,Nat.zero_le _,rfl,fun j hj=>by omega⟩
  case round=>
   obtain⟨k,hk,rfl,HB⟩:=hrel
   by_cases hk2:k<fs.length
   ·have r0:=HR.out (k*2) (.string fs[k].name) (by unfold fldsC;rw[show k*2=k*2+0 from rfl,flat_at fldC 2 fldC_len fs k hk2 0 (by omega)];rfl)
    obtain⟨x,HX⟩:∃x,Hid (x=fs[k].name):=⟨fs[k].name,rfl⟩
    rw[←HX.out] at r0
    by_cases hin:(x.toList==nm.toList)=true
    ·have HF:Hid (Doc.idxF fs nm=some k):=Doc.idxF_some hk2 (by rw[←HX.out];exact hin) (fun j hj=>HB.out j hj (by omega))
     go_wp2_with fail
     go_ret
     exact⟨by rw[HF.out];rfl,rfl⟩
    ·have hin:(x.toList==nm.toList)=false:=by simpa using hin
     have HI:Hid ((x.toList==nm.toList)=false):=hin
     go_wp2_with fail
     go_round
     case rel=>exact⟨k+1,by omega,by go_num,fun j hj hjl=>by
      by_cases h:j=k
      ·subst h;rw[←HX.out];exact HI.out
      ·exact HB.out j (by omega) hjl⟩
     case measure=>simp[intOf];omega
   ·obtain rfl:k=fs.length:=by omega
    have HF:Hid (Doc.idxF fs nm=none):=Doc.idxF_none (fun j hj=>HB.out j hj hj)
    go_wp2_with fail
    go_ret
    exact⟨by rw[HF.out];rfl,rfl⟩
end
structure Md (F:Nat→Prop)(w w':World):Prop where
 below:Below 0 w w'
 only:∀k,k<w.heap.size→¬F k→w'.heap[k]? =w.heap[k]?
section
variable {F:Nat→Prop}{a b c w w':World}
theorem Md.refl (F:Nat→Prop)(w:World):Md F w w:=⟨Below.refl _ _,fun _ _ _=>rfl⟩
theorem Md.trans (h:Md F a b)(k:Md F b c):Md F a c:=⟨h.below.trans k.below,fun i hi hf=>(k.only i (Nat.lt_of_lt_of_le hi h.below.size) hf).trans (h.only i hi hf)⟩
theorem Md.ofBelow (h:Below w.heap.size w w'):Md F w w':=⟨h.mono (Nat.zero_le _),fun k hk _=>h.block k hk⟩
theorem Md.alloc (h:Md F a w)(o:Obj):Md F a (w.alloc o):=h.trans (Md.ofBelow ((Below.refl _ _).alloc (Nat.le_refl _) o))
theorem Md.drew (h:Md F a w):Md F a w.drew:=⟨h.below.drew,h.only⟩
theorem Md.set (h:Md F a w){n i:Nat}(u:Value)(hn:F n∨a.heap.size≤n):Md F a (w.setCell ⟨n,i,none⟩ u):=
 ⟨h.below.setCell (p:=⟨n,i,none⟩) (Nat.zero_le _) u,fun k hk hf=>(Below.heap_setCell _ _ _ _ (by rintro rfl;rcases hn with hn|hn;exact hf hn;omega)).trans (h.only k hk hf)⟩
theorem Md.grown {row:Option Nat}(h:Md F a w)(hg:w.grownBy w' row)(hr:∀k,row=some k→F k∨a.heap.size≤k):Md F a w':=
 ⟨h.below.grown hg (Nat.zero_le _) (fun _ _=>Nat.zero_le _),fun k hk hf=>(hg.block k (Nat.lt_of_lt_of_le hk h.below.size) (fun e=>by rcases hr k e.symm with h1|h1;exact hf h1;omega)).trans (h.only k hk hf)⟩
theorem Md.blk (h:Md F w w'){k:Nat}{o:Obj}(hk:w.heap[k]? =some o)(hf:¬F k):w'.heap[k]? =some o:=(h.only k (lt_block hk) hf).trans hk
theorem Md.mono {G:Nat→Prop}(h:Md F a w)(hg:∀k,F k→G k):Md G a w:=⟨h.below,fun k hk hf=>h.only k hk (fun h=>hf (hg k h))⟩
theorem Md.size (h:Md F a w):a.heap.size≤w.heap.size:=h.below.size
end
theorem rowSl {w:World}{m e size n:Nat}{v:Value}{cs:List Value}(h:w.ownsRow m e size v n cs):Sl w v n cs:=by
 obtain⟨hl,h2⟩:=h
 rcases h2 with⟨rfl,rfl⟩|⟨g,cap,cur,rfl,hg,hh,hn,hm,hz,ht⟩
 ·exact⟨.inl ⟨rfl,_,_,rfl⟩⟩
 ·by_cases h0:n=0
  ·subst h0;exact⟨.inl ⟨rfl,_,_,rfl⟩⟩
  ·refine⟨.inr ⟨by omega,g,0,cap,rfl,hn,lt_block hh,fun j u hj=>?_⟩⟩
   have hlen:j<cs.length:=by
    rw[List.getElem?_eq_some_iff] at hj;exact hj.1
   have h3:cur[j]? =some u:=by
    rw[←ht,List.getElem?_take,if_pos (by omega),Array.getElem?_toList] at hj
    exact hj
   rw[Nat.zero_add]
   exact blk_cell hh j u h3
theorem set_blk' {w:World}{n:Nat}{cs:Array Value}{T:TypeId}{fr:Nat×Nat}(h:w.heap[n]? =some (.cells cs T fr))(i:Nat)(u:Value):(w.setCell ⟨n,i,none⟩ u).heap[n]? =some (.cells (cs.setIfInBounds i u) T fr):=by
 simp[World.setCell,Array.getElem?_modify,h]
theorem rowKept {w w':World}{m e size n:Nat}{v:Value}{cs:List Value}(h:w.ownsRow m e size v n cs)(hk:∀k o,v.ownBlock=some k→w.heap[k]? =some o→w'.heap[k]? =some o):w'.ownsRow m e size v n cs:=by
 obtain⟨h1,h2⟩:=h
 refine⟨h1,?_⟩
 rcases h2 with h2|⟨g,cap,cur,hv,hg,hh,r⟩
 ·exact .inl h2
 ·exact .inr ⟨g,cap,cur,hv,hg,hk g _ (by rw[hv];rfl) hh,r⟩
structure RefAt (w:World)(F:Nat→Prop)(sb:Nat)(fs:List Doc.Fld)(space:Int)(ts:List Doc.Thg)(fv tv:Value)(ps:List (Value×Value)):Prop where
 blk:w.heap[sb]? =some (.cells #[fv,.int .i64 space,tv] 193 (0,0))
 fld:w.ownsRow 0 92 2 fv fs.length (fldsC fs)
 thg:w.ownsRow 0 237 3 tv ts.length (thsC ts ps)
 len:ts.length=ps.length
 each:∀i (h:i<ts.length) (h':i<ps.length),w.ownsRow 0 3 1 ps[i].1 ts[i].spot.length (intC ts[i].spot)∧w.ownsRow 0 94 3 ps[i].2 ts[i].vals.length (valsC ts[i].vals)
 inS:F sb
 inF:∀k,fv.ownBlock=some k→F k
 inT:∀k,tv.ownBlock=some k→F k
 inE:∀i (h:i<ps.length) k,ps[i].1.ownBlock=some k∨ps[i].2.ownBlock=some k→F k
def RefSt (w:World)(F:Nat→Prop)(sb:Nat)(fs:List Doc.Fld)(space:Int)(ts:List Doc.Thg):Prop:=∃fv tv ps,RefAt w F sb fs space ts fv tv ps
section
variable {w:World}{F:Nat→Prop}{sb:Nat}{fs:List Doc.Fld}{space:Int}{ts:List Doc.Thg}{fv tv:Value}{ps:List (Value×Value)}
theorem ownLt {w:World}{m e size n:Nat}{v:Value}{cs:List Value}(h:w.ownsRow m e size v n cs){k:Nat}(hk:v.ownBlock=some k):k<w.heap.size:=by
 obtain⟨_,h2⟩:=h
 rcases h2 with⟨rfl,_⟩|⟨g,cap,cur,rfl,_,hh,_⟩
 ·cases hk
 ·cases hk;exact lt_block hh
theorem RefAt.kept {w':World}{F':Nat→Prop}(h:RefAt w F sb fs space ts fv tv ps)(hk:∀k o,F k→w.heap[k]? =some o→w'.heap[k]? =some o)(hF:∀k,F k→k<w.heap.size→F' k):RefAt w' F' sb fs space ts fv tv ps:=by
 refine⟨hk _ _ h.inS h.blk,rowKept h.fld (fun k o e=>hk k o (h.inF k e)),rowKept h.thg (fun k o e=>hk k o (h.inT k e)),h.len,fun i hi hi'=>?_,hF _ h.inS (lt_block h.blk),fun k e=>hF k (h.inF k e) (ownLt h.fld e),fun k e=>hF k (h.inT k e) (ownLt h.thg e),fun i hi k e=>?_⟩
 ·obtain⟨h1,h2⟩:=h.each i hi hi'
  exact⟨rowKept h1 (fun k o e=>hk k o (h.inE i hi' k (.inl e))),rowKept h2 (fun k o e=>hk k o (h.inE i hi' k (.inr e)))⟩
 ·obtain⟨h1,h2⟩:=h.each i (by rw[h.len];exact hi) hi
  refine hF k (h.inE i hi k e) ?_
  rcases e with e|e
  ·exact ownLt h1 e
  ·exact ownLt h2 e
theorem RefSt.kept {w':World}{F':Nat→Prop}(h:RefSt w F sb fs space ts)(hk:∀k o,F k→w.heap[k]? =some o→w'.heap[k]? =some o)(hF:∀k,F k→k<w.heap.size→F' k):RefSt w' F' sb fs space ts:=by
 obtain⟨fv,tv,ps,h⟩:=h
 exact⟨fv,tv,ps,h.kept hk hF⟩
theorem st_cells {w:World}{b:Nat}{c0 c1 c2:Value}{T:TypeId}(h:w.heap[b]? =some (.cells #[c0,c1,c2] T (0,0))):
  w.cell? ⟨b,0,none⟩=some c0∧w.cell? ⟨b,1,none⟩=some c1∧w.cell? ⟨b,2,none⟩=some c2:=
 ⟨blk_cell h 0 _ rfl,blk_cell h 1 _ rfl,blk_cell h 2 _ rfl⟩
theorem rget_none (h:RefAt w F sb fs space ts fv tv ps)(hl:ts.length≤9223372036854775807)(id:Int)(hn:Doc.idxT ts id=none):
  Calls Tryz.prog 97 #[.pointer (some ⟨sb,0,none⟩),.int .i64 id] w fun e w'=>e=.returned (.tuple #[.slice none 0 0,.slice none 0 0,.int .i64 4])∧w'=w:=by
 obtain⟨c0,c1,c2⟩:=st_cells h.blk
 have HC:Hid _:=at_any sb tv c2 ts ps h.len hl (rowSl h.thg) id
 have HN:Hid (Doc.idxT ts id=none):=hn
 clear hn
 go_enter Tryz.func97,Tryz.ntmps97
 go_wp2_with fail
 refine Calls.mono HC.out ?_
 rw[HN.out]
 rintro e w1 ⟨rfl,hw⟩
 subst hw
 simp only[Doc.placeI]
 go_wp2_with fail
 go_ret3
 exact⟨rfl,rfl⟩
set_option maxHeartbeats 2000000 in
theorem rget_some (h:RefAt w F sb fs space ts fv tv ps)(hl:ts.length≤9223372036854775807)(id:Int)(k:Nat)(hn:Doc.idxT ts id=some k)(hk:k<ts.length)(hk':k<ps.length):
  Calls Tryz.prog 97 #[.pointer (some ⟨sb,0,none⟩),.int .i64 id] w fun e w'=>e=.returned (.tuple #[ps[k].1,ps[k].2,.int .i64 0])∧Below w.heap.size w w':=by
 obtain⟨c0,c1,c2⟩:=st_cells h.blk
 have HC:Hid _:=at_any sb tv c2 ts ps h.len hl (rowSl h.thg) id
 have HN:Hid (Doc.idxT ts id=some k):=hn
 rcases(rowSl h.thg).has with⟨h0,_⟩|⟨h0,b,off,cap,rfl,hc,hlt,hr⟩
 ·omega
 have r1:=hr (k*3+1) ps[k].1 (by rw[thsC_at ts ps h.len k hk hk' 1 (by omega)];rfl)
 have r2:=hr (k*3+2) ps[k].2 (by rw[thsC_at ts ps h.len k hk hk' 2 (by omega)];rfl)
 obtain⟨e1,e2⟩:=h.each k hk hk'
 obtain⟨b1,n1,m1,f1⟩:∃b n c,ps[k].1=.slice b n c:=by
  rcases(rowSl e1).has with⟨_,a,c,e⟩|⟨_,b,o,c,e,_⟩<;>exact⟨_,_,_,e⟩
 obtain⟨b2,n2,m2,f2⟩:∃b n c,ps[k].2=.slice b n c:=by
  rcases(rowSl e2).has with⟨_,a,c,e⟩|⟨_,b,o,c,e,_⟩<;>exact⟨_,_,_,e⟩
 rw[f1,←Nat.add_assoc] at r1
 rw[f2,←Nat.add_assoc] at r2
 rw[f1,f2]
 clear hn hr e1 e2 f1 f2
 go_enter Tryz.func97,Tryz.ntmps97
 go_wp2_with fail
 refine Calls.mono HC.out ?_
 rw[HN.out]
 rintro e w1 ⟨rfl,hw⟩
 subst hw
 simp only[Doc.placeI]
 clear HC
 go_wp2_with fail
 go_region
 all_goals
  go_wp2_with fail
  go_ret3
  exact⟨rfl,(Below.refl _ _).drew⟩
end
theorem Tryz.infoIntT:(Tryz.prog.info? 3).map (fun i=>(i.zero,i.size,i.bytes))=some (some (.int .i64 0),1,8):=by kernel_rfl
theorem Tryz.infoValT:(Tryz.prog.info? 94).map (fun i=>(i.zero,i.size,i.bytes))=some (some (.agg #[.int .i64 0,.int .i64 0,.string ⟨#[]⟩]),3,32):=by kernel_rfl
theorem Tryz.infoThgT:(Tryz.prog.info? 237).map (fun i=>(i.zero,i.size,i.bytes))=some (some (.agg #[.int .i64 0,.slice none 0 0,.slice none 0 0]),3,56):=by kernel_rfl
theorem Tryz.infoFldT:(Tryz.prog.info? 92).map (fun i=>(i.zero,i.size,i.bytes))=some (some (.agg #[.string ⟨#[]⟩,.int .i64 0]),2,24):=by kernel_rfl
def Doc.putArg (fs:List Doc.Fld)(space id:Int)(spot:List Int)(vals:List Doc.Val):Prop:=
 id<0∨(0≤id∧4095<id)∨(0≤id∧id≤4095∧Doc.spotB space spot=false)∨(0≤id∧id≤4095∧Doc.spotB space spot=true∧vals.length≠fs.length)
section
variable {w:World}{F:Nat→Prop}{sb:Nat}{fs:List Doc.Fld}{space:Int}{ts:List Doc.Thg}{fv tv:Value}{ps:List (Value×Value)}
theorem row_slice {w:World}{m e size n:Nat}{v:Value}{cs:List Value}(h:w.ownsRow m e size v n cs):∃b c,v=.slice b n c:=by
 obtain⟨_,h2⟩:=h
 rcases h2 with⟨rfl,rfl⟩|⟨g,cap,cur,rfl,_⟩<;>exact⟨_,_,rfl⟩
theorem Sl.slice {sv:Value}{n:Nat}{cs:List Value}(h:Sl w sv n cs):∃b c,sv=.slice b n c:=by
 rcases h.has with⟨rfl,a,c,e⟩|⟨_,b,o,c,e,_⟩<;>exact⟨_,_,e⟩
set_option maxHeartbeats 2000000 in
theorem rput_arg (h:RefAt w F sb fs space ts fv tv ps)(id:Int)(spot:List Int)(vals:List Doc.Val)(sv vv:Value)(hs:Sl w sv spot.length (intC spot))(hv:Sl w vv vals.length (valsC vals))(hl:spot.length≤9223372036854775807)(hbad:Doc.putArg fs space id spot vals):
  Calls Tryz.prog 93 #[.pointer (some ⟨sb,0,none⟩),.int .i64 id,sv,vv] w fun e w'=>e=.returned (.int .i64 1)∧w'=w:=by
 obtain⟨c0,c1,c2⟩:=st_cells h.blk
 have HC:Hid _:=rspot_any sb space c1 spot hl sv hs
 obtain⟨fb,fc,rfl⟩:=row_slice h.fld
 obtain⟨vb,vc,rfl⟩:=hv.slice
 obtain⟨sbk,sc,rfl⟩:=hs.slice
 clear hs hv
 obtain⟨x,HX⟩:∃x,Hid (x=Doc.spotB space spot):=⟨Doc.spotB space spot,rfl⟩
 unfold Doc.putArg at hbad
 rw[←HX.out] at hbad
 rcases hbad with k1|⟨k1,k2⟩|⟨k1,k2,k3⟩|⟨k1,k2,k3,k4⟩
 all_goals
  go_enter Tryz.func93,Tryz.ntmps93
  go_wp2_with fail
  refine Calls.mono HC.out ?_
  rw[←HX.out]
  rintro e w1 ⟨rfl,hw⟩
  subst hw
  go_wp2_with fail
  all_goals first
   | (go_ret;exact⟨rfl,rfl⟩)
   | (exfalso;simp_all;done)
   | (exfalso;simp_all;omega)
end
end Go.Proofs.YtbnelaoeblhndaaGreatDoor
