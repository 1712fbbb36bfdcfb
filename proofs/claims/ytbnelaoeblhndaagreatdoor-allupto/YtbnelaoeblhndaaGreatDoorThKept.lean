import Derived.Test.YtbnelaoeblhndaaGreatDoorThBook2
import Derived.Test.YtbnelaoeblhndaaGreatDoorFiNrA
import Derived.Deep.QuietTactic
namespace Go.Proofs.YtbnelaoeblhndaaGreatDoor
open Go.RowKit
set_option maxRecDepth 100000
def mH (k:Int):List Value:=[.int .i64 k,.int .i64 k]
theorem appH {W w1:World}{lb:Option Addr}{lc n m g cap S:Nat}{u:List Value}{ms:List Value}(hu:u.length=2)(hl:W.ownsRow 0 61 2 (.slice lb n lc) n (List.replicate n u).flatten)(hown:w1.ownsRow 0 61 2 (.slice (some ⟨g,0,none⟩) (n+m) cap) (n+m) ((List.replicate n u).flatten++ms))(hms:ms=(List.replicate m u).flatten)(hS:W.heap.size=S)
  (hor:(lb=some ⟨g,0,none⟩∧lc=cap)∧W.grownBy w1 (some g)∨g=S∧Below S W w1):
  (∀r k,k≤n+m→W.ownsRow 0 61 2 r k (List.replicate k u).flatten→w1.ownsRow 0 61 2 r k (List.replicate k u).flatten)∧w1.ownsRow 0 61 2 (.slice (some ⟨g,0,none⟩) (n+m) cap) (n+m) (List.replicate (n+m) u).flatten∧Md (fun k=>(Value.slice lb n lc).ownBlock=some k) W w1∧((Value.slice lb n lc).ownBlock=some g∨W.heap.size≤g):=by
 subst hS
 rw[hms,←List.flatten_append,List.replicate_append_replicate] at hown
 have hor':(Value.slice lb n lc=.slice (some ⟨g,0,none⟩) n cap∧W.grownBy w1 (some g))∨(g=W.heap.size∧Below W.heap.size W w1):=by
  rcases hor with⟨⟨rfl,rfl⟩,h⟩|h
  ·exact .inl ⟨rfl,h⟩
  ·exact .inr h
 refine⟨fun r k hk hr=>?_,hown,?_,?_⟩
 ·exact row_marks (mk:=u) (m:=m) hu hl hr hk hown hor'
 ·rcases hor with⟨⟨rfl,rfl⟩,h⟩|⟨_,h⟩
  ·exact(Md.refl _ W).grown h (fun k e=>.inl e)
  ·exact Md.ofBelow h
 ·rcases hor with⟨⟨rfl,rfl⟩,_⟩|⟨h,_⟩
  ·exact .inl rfl
  ·exact .inr (by omega)
theorem Tryz.infoSlH:(Tryz.prog.info? 57).map (fun i=>(i.zero,i.size,i.bytes))=some (some (.slice none 0 0),1,24):=by kernel_rfl
theorem boxH {w:World}{b:Nat}{c0 c1:Value}{T:TypeId}(h:w.heap[b]? =some (.cells #[c0,c1] T (0,0))):w.cell? ⟨b,0,none⟩=some c0∧w.cell? ⟨b,1,none⟩=some c1:=⟨blk_cell h 0 _ rfl,blk_cell h 1 _ rfl⟩
theorem drop_hits (xs:List (Int×Int))(k:Nat)(hk:k<xs.length):(hitsC xs).drop (k*2)=encH xs[k]++(hitsC xs).drop ((k+1)*2):=by
 induction xs generalizing k with
 |nil=>simp at hk
 |cons a r ih=>
  cases k with
  |zero=>simp[hitsC,encH]
  |succ k=>
   have:=ih k (by simpa using hk)
   simp only[hitsC,List.flatMap_cons] at this ⊢
   rw[show(k+1)*2=(encH a).length+k*2 by simp[encH];omega,List.drop_append,show(k+1+1)*2=(encH a).length+(k+1)*2 by simp[encH];omega,List.drop_append,List.drop_of_length_le (show(encH a).length≤(encH a).length+k*2 by omega),List.drop_of_length_le (show(encH a).length≤(encH a).length+(k+1)*2 by omega)]
   simpa using this
theorem splice2 (A B:List Value)(x y:Value){v:Int×Int}{k:Nat}(h:A.length=k*2):((A++(encH v++B)).set (k*2) x).set (k*2+1) y=A++([x,y]++B):=by
 rw[←h]
 rw[List.set_append_right _ _ (Nat.le_refl _),List.set_append_right _ _ (by omega)]
 simp[encH]
structure BookH (w:World)(F:Nat→Prop)(nsv knv:Value)(rows:List Value)(marks:List Int):Prop where
 ns:w.ownsRow 0 57 1 nsv rows.length rows
 kn:w.ownsRow 0 3 1 knv marks.length (intC marks)
 len:rows.length=marks.length
 each:∀i (h:i<rows.length) (h':i<marks.length),∃n,w.ownsRow 0 61 2 rows[i] n (List.replicate n (mH marks[i])).flatten∧∀k,rows[i].ownBlock=some k→F k∧knv.ownBlock≠some k
 inN:∀k,nsv.ownBlock=some k→F k
 inK:∀k,knv.ownBlock=some k→F k
section
variable {w:World}{F:Nat→Prop}{wb:Nat}{lv nsv knv vsv kvv hsv khv:Value}{rows:List Value}{marks:List Int}
set_option maxHeartbeats 2000000 in
theorem hitsB_any (hw:w.heap[wb]? =some (worldO lv vsv kvv hsv khv nsv knv))(hb:BookH w F nsv knv rows marks)(hF:¬F wb)(hrl:rows.length≤1000000000)(xs:List (Int×Int))(l:Value)(hl:w.ownsRow 0 61 2 l xs.length (hitsC xs))(hxl:xs.length≤1000000000)(hlF:∀k,l.ownBlock=some k→¬F k):
  Calls Tryz.prog 103 #[.pointer (some ⟨wb,1,none⟩),l] w fun e w'=>e=.returned (.tuple #[])∧∃nsv' knv' rows' marks',w'.heap[wb]? =some (worldO lv vsv kvv hsv khv nsv' knv')∧BookH w' (fun k=>F k∨l.ownBlock=some k∨w.heap.size≤k) nsv' knv' rows' marks'∧rows'.length=rows.length+4∧Md (fun k=>k=wb∨F k∨l.ownBlock=some k) w w':=by
 obtain⟨i0,hi,hz0,hz1,hz2⟩:=info_parts Tryz.infoIntT
 obtain⟨iv,hiv,hv0,hv1,hv2⟩:=info_parts Tryz.infoHitT
 have c1:w.cell? ⟨wb,5,none⟩=some nsv:=blk_cell hw 5 _ rfl
 obtain⟨b1,m1,e1⟩:=row_slice hb.ns
 subst e1
 obtain⟨lb,lc,e2⟩:=row_slice hl
 subst e2
 obtain⟨b5,m5,e3⟩:=row_slice hb.kn
 subst e3
 have hml:=hb.len
 obtain⟨q,hq,hql⟩:∃q:Nat,(rows.length:Int) / 4=(q:Int)∧q≤1000000000:=⟨rows.length / 4,by omega,by omega⟩
 have hwq:IntKind.i64.wrap (q:Int)=(q:Int):=by rw[IntKind.wrap_i64];omega
 have HW:Hid _:=hw
 have HB:Hid _:=hb
 have HL:Hid _:=hl
 have hwl:=lt_block hw
 have hmk5:marks.length≤1000000000:=by omega
 clear hw hb hl hml
 go_enter Tryz.func103,Tryz.ntmps103
 go_wp2_with fail
 obtain⟨mk,HMK⟩:∃mk:Int,Hid (mk=20000000+(q:Int)):=⟨_,rfl⟩
 rw[←HMK.out]
 have HLF:Hid _:=hlF
 obtain⟨w0,HW0⟩:∃w0,Hid (w0=w.alloc (.cells #[.int .i64 mk,.int .i64 mk] 61)):=⟨_,rfl⟩
 rw[←HW0.out]
 have hb0:Below w.heap.size w w0:=by rw[HW0.out];exact(Below.refl _ _).alloc (Nat.le_refl _) _
 have HBX:Hid (w0.heap[w.heap.size]? =some (.cells #[.int .i64 mk,.int .i64 mk] 61 (0,0))):=by show _=_;rw[HW0.out];exact heap_alloc_new w _
 have HL0:Hid (w0.ownsRow 0 61 2 (.slice lb xs.length lc) xs.length (hitsC xs)):=row_below HL.out hb0
 have hne:(Value.slice lb xs.length lc).ownBlock≠some w.heap.size:=fun e=>by have:=ownLt HL.out e;omega
 clear hq hql hwq c1 hlF
 go_loopw [6] (fun i wr=>∃k:Nat,k≤xs.length∧i=.int .i64 k∧Hid (wr.ownsRow 0 61 2 (.slice lb xs.length lc) xs.length ((List.replicate k (mH mk)).flatten++(hitsC xs).drop (k*2)))∧Hid (Md (fun k=>(Value.slice lb xs.length lc).ownBlock=some k) w0 wr)) (fun i _=>xs.length-(intOf i).toNat)
 case atStart=>exact⟨0,Nat.zero_le _,rfl,HL0.out,Md.refl _ _⟩
 case round=>
  obtain⟨k,hk,rfl,KR,KD⟩:=hrel
  by_cases hk2:k<xs.length
  ·obtain⟨vb,vc,hvb⟩:=own_slice' KR.out (by omega)
   obtain rfl:lb=some ⟨vb,0,none⟩:=by simp at hvb;exact hvb.1
   obtain rfl:lc=vc:=by simp at hvb;exact hvb
   clear hvb
   obtain⟨cur,hcur,hc1,hc2⟩:=own_block KR.out
   have hvl:=lt_block hcur
   obtain⟨u0,z0⟩:∃u,wr.cell? ⟨vb,k*2,none⟩=some u:=⟨_,blk_cell hcur (k*2) _ (Array.getElem?_eq_getElem (by omega))⟩
   obtain⟨u1,z1⟩:∃u,wr.cell? ⟨vb,k*2+1,none⟩=some u:=⟨_,blk_cell hcur (k*2+1) _ (Array.getElem?_eq_getElem (by omega))⟩
   obtain⟨y0,y1⟩:=boxH (KD.out.blk HBX.out (fun e=>hne e))
   have f0:=blk_free hcur (k*2)
   have f1:=blk_free hcur (k*2+1)
   have HST:Hid (((wr.setCell ⟨vb,k*2,none⟩ (.int .i64 mk)).setCell ⟨vb,k*2+1,none⟩ (.int .i64 mk)).ownsRow 0 61 2 (.slice (some ⟨vb,0,none⟩) xs.length lc) xs.length ((List.replicate (k+1) (mH mk)).flatten++(hitsC xs).drop ((k+1)*2))):=by
    rcases KR.out.2 with⟨e,_⟩|⟨g,cap,cu,e,p0,p1,p2,p3,p4,p5⟩
    ·cases e
    ·cases e
     refine⟨by rw[List.length_append,rep_len,List.length_drop,hitsC_len];simp[mH];omega,.inr ⟨vb,lc,_,rfl,p0,set_blk' (set_blk' p1 (k*2) _) (k*2+1) _,p2,p3,by simpa using p4,?_⟩⟩
     rw[Array.toList_setIfInBounds,Array.toList_setIfInBounds,List.take_set,List.take_set,p5,drop_hits xs k hk2]
     rw[splice2 _ _ _ _ (by rw[rep_len];simp[mH]),←List.append_assoc,←rep_snoc k (mH mk)]
     rfl
   clear hcur hc1 hc2
   go_wp2_with fail
   go_roundw
   case rel=>exact⟨k+1,by omega,by go_num,HST,(KD.out.set _ (.inl rfl)).set _ (.inl rfl)⟩
   case measure=>simp[intOf];omega
  ·obtain rfl:k=xs.length:=by omega
   obtain⟨n,hn⟩:∃n,n=xs.length:=⟨_,rfl⟩
   have KR0:Hid (wr.ownsRow 0 61 2 (.slice lb xs.length lc) xs.length (List.replicate xs.length (mH mk)).flatten):=by
    have:=KR.out
    rw[show(hitsC xs).drop (xs.length*2)=[] from List.drop_of_length_le (by rw[hitsC_len];omega),List.append_nil] at this
    exact this
   obtain⟨y0,y1⟩:=boxH (KD.out.blk HBX.out (fun e=>hne e))
   clear hn KR
   go_wp2_with (at_builtin;refine wpList_append_or _ rfl _ _ 57 rfl 0 61 iv _ 2 16 Tryz.underlying57 hiv hv0 hv1 hv2 rfl (by decide) _ _ _ rfl (row_below KR0.out ((Below.refl _ _).alloc (Nat.le_refl _) _)) ⟨wr.heap.size,0,none⟩ 1 1 [.int .i64 mk,.int .i64 mk] rfl (by decide) rfl ?c1 ?c2 ?c3 ?c4 ?c5 ?_)
   case c1=>exact cells_new_at _ [.int .i64 mk,.int .i64 mk] _ _ (by simp)
   case c2=>intro u hu;simp only[List.mem_cons,List.not_mem_nil,or_false] at hu;(repeat (rcases hu with rfl|hu;rfl));try (rw[hu];rfl)
   case c3=>unfold maxLen;omega
   case c4=>omega
   case c5=>omega
   intro g1 p1 w1 own1 or1
   obtain⟨A1,B1,D1,E1⟩:=appH (u:=mH mk) rfl (row_below KR0.out ((Below.refl _ _).alloc (Nat.le_refl _) _)) own1 rfl (by simp) or1
   have HA0:Hid _:=A1 _ xs.length (by omega) (row_below KR0.out ((Below.refl _ _).alloc (Nat.le_refl _) _))
   have HB1:Hid _:=B1
   have HD1:Hid (Md (fun k=>(Value.slice lb xs.length lc).ownBlock=some k) w w1):=((Md.ofBelow hb0).trans KD.out |>.alloc _).trans D1
   have HE1:Hid ((Value.slice lb xs.length lc).ownBlock=some g1∨w.heap.size≤g1):=by
    rcases E1 with h|h
    ·exact .inl h
    ·have:=KD.out.size;have:=hb0.size;exact .inr (by simp at h;omega)
   have HX1:Hid (w1.heap[w.heap.size]? =some (.cells #[.int .i64 mk,.int .i64 mk] 61 (0,0))):=D1.blk ((Below.heap_alloc _ _ _ (lt_block (KD.out.blk HBX.out (fun e=>hne e)))).trans (KD.out.blk HBX.out (fun e=>hne e))) (fun e=>hne e)
   clear own1 or1 A1 B1 D1 E1 y0 y1
   obtain⟨y0,y1⟩:=boxH HX1.out
   go_wp2_with (at_builtin;refine wpList_append_or _ rfl _ _ 57 rfl 0 61 iv _ 2 16 Tryz.underlying57 hiv hv0 hv1 hv2 rfl (by decide) _ _ _ rfl (row_below HA0.out ((Below.refl _ _).alloc (Nat.le_refl _) _)) ⟨w1.heap.size,0,none⟩ 2 2 [.int .i64 mk,.int .i64 mk,.int .i64 mk,.int .i64 mk] rfl (by decide) rfl ?c1 ?c2 ?c3 ?c4 ?c5 ?_)
   case c1=>exact cells_new_at _ [.int .i64 mk,.int .i64 mk,.int .i64 mk,.int .i64 mk] _ _ (by simp)
   case c2=>intro u hu;simp only[List.mem_cons,List.not_mem_nil,or_false] at hu;(repeat (rcases hu with rfl|hu;rfl));try (rw[hu];rfl)
   case c3=>unfold maxLen;omega
   case c4=>omega
   case c5=>omega
   intro g2 p2 w2 own2 or2
   obtain⟨A2,B2,D2,E2⟩:=appH (u:=mH mk) rfl (row_below HA0.out ((Below.refl _ _).alloc (Nat.le_refl _) _)) own2 rfl (by simp) or2
   have HA1:Hid _:=A2 _ xs.length (by omega) (row_below HA0.out ((Below.refl _ _).alloc (Nat.le_refl _) _))
   have HG1:Hid _:=A2 _ (xs.length+1) (by omega) (row_below HB1.out ((Below.refl _ _).alloc (Nat.le_refl _) _))
   have HB2:Hid _:=B2
   have HD2:Hid (Md (fun k=>(Value.slice lb xs.length lc).ownBlock=some k) w w2):=(HD1.out.alloc _).trans D2
   have HE2:Hid ((Value.slice lb xs.length lc).ownBlock=some g2∨w.heap.size≤g2):=by
    rcases E2 with h|h
    ·exact .inl h
    ·have:=HD1.out.size;exact .inr (by simp at h;omega)
   have HX2:Hid (w2.heap[w.heap.size]? =some (.cells #[.int .i64 mk,.int .i64 mk] 61 (0,0))):=D2.blk ((Below.heap_alloc _ _ _ (lt_block HX1.out)).trans HX1.out) (fun e=>hne e)
   clear own2 or2 A2 B2 D2 E2 HA0 HB1 HD1 y0 y1
   obtain⟨y0,y1⟩:=boxH HX2.out
   go_wp2_with (at_builtin;refine wpList_append_or _ rfl _ _ 57 rfl 0 61 iv _ 2 16 Tryz.underlying57 hiv hv0 hv1 hv2 rfl (by decide) _ _ _ rfl (row_below HA1.out ((Below.refl _ _).alloc (Nat.le_refl _) _)) ⟨w2.heap.size,0,none⟩ 3 3 [.int .i64 mk,.int .i64 mk,.int .i64 mk,.int .i64 mk,.int .i64 mk,.int .i64 mk] rfl (by decide) rfl ?c1 ?c2 ?c3 ?c4 ?c5 ?_)
   case c1=>exact cells_new_at _ [.int .i64 mk,.int .i64 mk,.int .i64 mk,.int .i64 mk,.int .i64 mk,.int .i64 mk] _ _ (by simp)
   case c2=>intro u hu;simp only[List.mem_cons,List.not_mem_nil,or_false] at hu;(repeat (rcases hu with rfl|hu;rfl));try (rw[hu];rfl)
   case c3=>unfold maxLen;omega
   case c4=>omega
   case c5=>omega
   intro g3 p3 w3 own3 or3
   obtain⟨A3,B3,D3,E3⟩:=appH (u:=mH mk) rfl (row_below HA1.out ((Below.refl _ _).alloc (Nat.le_refl _) _)) own3 rfl (by simp) or3
   have HL3:Hid _:=A3 _ xs.length (by omega) (row_below HA1.out ((Below.refl _ _).alloc (Nat.le_refl _) _))
   have HG3:Hid _:=A3 _ (xs.length+1) (by omega) (row_below HG1.out ((Below.refl _ _).alloc (Nat.le_refl _) _))
   have HH3:Hid _:=A3 _ (xs.length+2) (by omega) (row_below HB2.out ((Below.refl _ _).alloc (Nat.le_refl _) _))
   have HJ3:Hid _:=B3
   have HD3:Hid (Md (fun k=>(Value.slice lb xs.length lc).ownBlock=some k) w w3):=(HD2.out.alloc _).trans D3
   have HE3:Hid ((Value.slice lb xs.length lc).ownBlock=some g3∨w.heap.size≤g3):=by
    rcases E3 with h|h
    ·exact .inl h
    ·have:=HD2.out.size;exact .inr (by simp at h;omega)
   clear own3 or3 A3 B3 D3 E3 HA1 HG1 HB2 HD2 y0 y1
   have hnl:∀(k:Nat) (cu:Array Value) (T:TypeId) (fr:Nat×Nat),w.heap[k]? =some (.cells cu T fr)→T≠61→w3.heap[k]? =w.heap[k]? :=fun k cu T fr hk hT=>HD3.out.only k (lt_block hk) (fun e=>by
    obtain⟨_,cs',t⟩:=own_type HL.out e
    rw[hk] at t;cases t;exact hT rfl)
   have hw3:w3.heap[wb]? =some (worldO lv vsv kvv hsv khv (.slice b1 rows.length m1) (.slice b5 marks.length m5)):=(hnl wb _ _ _ HW.out (by decide)).trans HW.out
   have hns3:w3.ownsRow 0 57 1 (.slice b1 rows.length m1) rows.length rows:=rowKept HB.out.ns (fun k _ ek ho=>by
    obtain⟨_,cs',t⟩:=own_type HB.out.ns ek
    exact(hnl k _ _ _ t (by decide)).trans ho)
   have d1:w3.cell? ⟨wb,5,none⟩=some (.slice b1 rows.length m1):=blk_cell hw3 5 _ rfl
   obtain⟨i1,hi1,hy0,hy1,hy2⟩:=info_parts Tryz.infoSlH
   have HNS3:Hid _:=hns3
   have HW3:Hid _:=hw3
   have hwl3:=lt_block hw3
   clear hns3 hw3 hnl
   go_wp2_with (at_builtin;refine wpList_append_or _ rfl _ _ 79 rfl 0 57 i1 _ 1 24 Tryz.underlying79 hi1 hy0 hy1 hy2 rfl (by decide) _ _ _ rfl (row_below HNS3.out ((Below.refl _ _).alloc (Nat.le_refl _) _)) ⟨w3.heap.size,0,none⟩ 4 4 [.slice lb xs.length lc,.slice (some ⟨g1,0,none⟩) (xs.length+1) p1,.slice (some ⟨g2,0,none⟩) (xs.length+2) p2,.slice (some ⟨g3,0,none⟩) (xs.length+3) p3] rfl (by decide) rfl ?c1 ?c2 ?c3 ?c4 ?c5 ?_)
   case c1=>exact cells_new_at _ [.slice lb xs.length lc,.slice (some ⟨g1,0,none⟩) (xs.length+1) p1,.slice (some ⟨g2,0,none⟩) (xs.length+2) p2,.slice (some ⟨g3,0,none⟩) (xs.length+3) p3] _ _ (by simp)
   case c2=>intro u hu;simp only[List.mem_cons,List.not_mem_nil,or_false] at hu;rcases hu with rfl|rfl|rfl|rfl<;>rfl
   case c3=>unfold maxLen;omega
   case c4=>omega
   case c5=>omega
   intro g4 p4 w4 own4 or4
   obtain⟨D4,E4⟩:=orMd (n:=rows.length) (by simp) or4
   have hn4:∀(k:Nat) (cu:Array Value) (T:TypeId) (fr:Nat×Nat),w3.heap[k]? =some (.cells cu T fr)→T≠57→w4.heap[k]? =w3.heap[k]? :=fun k cu T fr hk hT=>by
    have hkl:=lt_block hk
    rw[D4.only k (by simp;omega) (fun e=>?_),Below.heap_alloc _ _ _ hkl]
    obtain⟨_,cs',t⟩:=own_type HNS3.out e
    rw[hk] at t;cases t;exact hT rfl
   have hw4:w4.heap[wb]? =some (worldO lv vsv kvv hsv khv (.slice b1 rows.length m1) (.slice b5 marks.length m5)):=(hn4 wb _ _ _ HW3.out (by decide)).trans HW3.out
   have d4:=blk_cell hw4 5 _ rfl
   have f4:=blk_free hw4 5
   have hwl4:=lt_block hw4
   obtain⟨w5,HW5⟩:∃w5,Hid (w5=w4.setCell ⟨wb,5,none⟩ (.slice (some ⟨g4,0,none⟩) (rows.length+4) p4)):=⟨_,rfl⟩
   have hb5:w5.heap[wb]? =some (worldO lv vsv kvv hsv khv (.slice (some ⟨g4,0,none⟩) (rows.length+4) p4) (.slice b5 marks.length m5)):=by rw[HW5.out];exact set_blk' hw4 5 _
   have ho5:∀k,k≠wb→w5.heap[k]? =w4.heap[k]? :=fun k hk=>by rw[HW5.out];exact Below.heap_setCell _ _ _ _ hk
   have hz5:w5.heap.size=w4.heap.size:=by rw[HW5.out];simp
   have rowG:∀{e size:Nat} {r:Value} {n:Nat} {cs:List Value},e≠57→e≠83→w3.ownsRow 0 e size r n cs→w5.ownsRow 0 e size r n cs:=fun {e size r n cs} h1 h2 hr=>rowKept hr (fun k _ ek ho=>by
    obtain⟨_,cs',t⟩:=own_type hr ek
    rw[ho5 k (by rintro rfl;rw[HW3.out] at t;cases t;exact h2 rfl),hn4 k _ _ _ t h1];exact ho)
   have hnk:∀k,(Value.slice b5 marks.length m5).ownBlock=some k→(Value.slice lb xs.length lc).ownBlock≠some k:=fun k e1 e2=>HLF.out k e2 (HB.out.inK k e1)
   have hkn3:w3.ownsRow 0 3 1 (.slice b5 marks.length m5) marks.length (intC marks):=rowKept HB.out.kn (fun k _ ek ho=>(HD3.out.only k (ownLt HB.out.kn ek) (hnk k ek)).trans ho)
   have HKN5:Hid _:=rowG (by decide) (by decide) hkn3
   have d5:=blk_cell hb5 6 _ rfl
   have HNS5:Hid (w5.ownsRow 0 57 1 (.slice (some ⟨g4,0,none⟩) (rows.length+4) p4) (rows.length+4) (rows++[.slice lb xs.length lc,.slice (some ⟨g1,0,none⟩) (xs.length+1) p1,.slice (some ⟨g2,0,none⟩) (xs.length+2) p2,.slice (some ⟨g3,0,none⟩) (xs.length+3) p3])):=rowKept own4 (fun k _ ek ho=>by
    obtain⟨_,cs',t⟩:=own_type own4 ek
    rw[ho5 k (by rintro rfl;rw[hw4] at t;cases t)];exact ho)
   have hs43:w3.heap.size+1≤w4.heap.size:=by have:=D4.size;simpa using this
   have HD5:Hid (Md (fun k=>k=wb∨F k∨(Value.slice lb xs.length lc).ownBlock=some k) w w5):=by
    rw[HW5.out]
    exact(((HD3.out.mono (fun k hk=>.inr (.inr hk))).alloc _).trans (D4.mono (fun k hk=>.inr (.inl (HB.out.inN k hk))))).set _ (.inl (.inl rfl))
   have HE4:Hid ((Value.slice b1 rows.length m1).ownBlock=some g4∨w.heap.size≤g4):=by
    rcases E4 with h|h
    ·exact .inl h
    ·have:=HD3.out.size;exact .inr (by simp at h;omega)
   have HB5:Hid _:=hb5
   have HRI:Hid (∀(r:Value) (n:Nat) (cs:List Value),w3.ownsRow 0 61 2 r n cs→w5.ownsRow 0 61 2 r n cs):=fun r n cs hr=>rowG (by decide) (by decide) hr
   have HNK:Hid _:=hnk
   have hwl5:=lt_block hb5
   clear own4 or4 D4 E4 hn4 hw4 hb5 ho5 rowG hkn3 hnk d1
   have HKN6:Hid ((w4.setCell ⟨wb,5,none⟩ (.slice (some ⟨g4,0,none⟩) (rows.length+4) p4)).ownsRow 0 3 1 (.slice b5 marks.length m5) marks.length (intC marks)):=by rw[←HW5.out];exact HKN5.out
   have d6:(w4.setCell ⟨wb,5,none⟩ (.slice (some ⟨g4,0,none⟩) (rows.length+4) p4)).cell? ⟨wb,6,none⟩=some (.slice b5 marks.length m5):=by rw[←HW5.out];exact d5
   clear d5
   go_wp2_with (at_builtin;refine wpList_append_or _ rfl _ _ 33 rfl 0 3 i0 _ 1 8 Tryz.underlying33 hi hz0 hz1 hz2 rfl (by decide) _ _ _ rfl (row_below HKN6.out ((Below.refl _ _).alloc (Nat.le_refl _) _)) ⟨w4.heap.size,0,none⟩ 4 4 [.int .i64 mk,.int .i64 mk,.int .i64 mk,.int .i64 mk] rfl (by decide) rfl ?c1 ?c2 ?c3 ?c4 ?c5 ?_)
   case c1=>exact cells_new_at _ [.int .i64 mk,.int .i64 mk,.int .i64 mk,.int .i64 mk] _ _ (by simp)
   case c2=>intro u hu;simp only[List.mem_cons,List.not_mem_nil,or_false,or_self] at hu;rw[hu];rfl
   case c3=>unfold maxLen;omega
   case c4=>omega
   case c5=>omega
   intro g6 p6 w6 own6 or6
   rw[←HW5.out] at or6
   obtain⟨D6,E6⟩:=orMd (n:=marks.length) (by simp[hz5]) or6
   have hkl:∀k,(Value.slice b5 marks.length m5).ownBlock=some k→k<w5.heap.size:=fun k e=>ownLt HKN5.out e
   have hn6:∀k,k<w5.heap.size→(Value.slice b5 marks.length m5).ownBlock≠some k→w6.heap[k]? =w5.heap[k]? :=fun k hk hne=>by
    rw[D6.only k (by simp;omega) hne,Below.heap_alloc _ _ _ hk]
   have hw6:w6.heap[wb]? =some (worldO lv vsv kvv hsv khv (.slice (some ⟨g4,0,none⟩) (rows.length+4) p4) (.slice b5 marks.length m5)):=(hn6 wb hwl5 (fun e=>by
    obtain⟨_,cs',t⟩:=own_type HKN5.out e
    rw[HB5.out] at t;cases t)).trans HB5.out
   have d7:=blk_cell hw6 6 _ rfl
   have f7:=blk_free hw6 6
   have hwl6:=lt_block hw6
   have HO6:Hid _:=own6
   have HW6:Hid _:=hw6
   have HN6:Hid _:=hn6
   have HD6:Hid _:=D6
   have HE6:Hid _:=E6
   clear own6 or6 D6 E6 hkl hn6 hw6
   go_wp2_with fail
   go_end0
   have hset:∀k,k≠wb→(w6.setCell ⟨wb,6,none⟩ (.slice (some ⟨g6,0,none⟩) (marks.length+4) p6)).heap[k]? =w6.heap[k]? :=fun k hk=>Below.heap_setCell _ _ _ _ hk
   have hs5:=HD5.out.size
   have hs6:w5.heap.size+1≤w6.heap.size:=by have:=HD6.out.size;simpa using this
   have hg6:(Value.slice b5 marks.length m5).ownBlock=some g6∨w5.heap.size≤g6:=by
    rcases HE6.out with h|h
    ·exact .inl h
    ·exact .inr (by simp at h;omega)
   have fin:∀{r:Value} {n:Nat} {cs:List Value},w5.ownsRow 0 61 2 r n cs→(∀k,r.ownBlock=some k→(Value.slice b5 marks.length m5).ownBlock≠some k)→(w6.setCell ⟨wb,6,none⟩ (.slice (some ⟨g6,0,none⟩) (marks.length+4) p6)).ownsRow 0 61 2 r n cs:=fun {r n cs} hr hne=>rowKept hr (fun k _ ek ho=>by
    obtain⟨_,cs',t⟩:=own_type hr ek
    rw[hset k (by rintro rfl;rw[HB5.out] at t;cases t),HN6.out k (ownLt hr ek) (hne k ek)];exact ho)
   have kne:∀k,(Value.slice b5 marks.length m5).ownBlock=some k→k<w.heap.size:=fun k e=>ownLt HB.out.kn e
   have newr:∀(g n p:Nat),((Value.slice lb xs.length lc).ownBlock=some g∨w.heap.size≤g)→∀k,(Value.slice (some ⟨g,0,none⟩) n p).ownBlock=some k→(F k∨(Value.slice lb xs.length lc).ownBlock=some k∨w.heap.size≤k)∧(Value.slice b5 marks.length m5).ownBlock≠some k:=by
    intro g n p hg k ek
    obtain rfl:g=k:=by cases ek;rfl
    rcases hg with h|h
    ·exact⟨.inr (.inl h),fun e=>HNK.out _ e h⟩
    ·exact⟨.inr (.inr h),fun e=>by have:=kne _ e;omega⟩
   have knew:∀k,k<w5.heap.size→(Value.slice b5 marks.length m5).ownBlock≠some k→(Value.slice (some ⟨g6,0,none⟩) (marks.length+4) p6).ownBlock≠some k:=by
    intro k hk hne e
    obtain rfl:g6=k:=by cases e;rfl
    rcases hg6 with h|h
    ·exact hne h
    ·omega
   refine⟨rfl,.slice (some ⟨g4,0,none⟩) (rows.length+4) p4,.slice (some ⟨g6,0,none⟩) (marks.length+4) p6,rows++[.slice lb xs.length lc,.slice (some ⟨g1,0,none⟩) (xs.length+1) p1,.slice (some ⟨g2,0,none⟩) (xs.length+2) p2,.slice (some ⟨g3,0,none⟩) (xs.length+3) p3],marks++[mk,mk,mk,mk],set_blk' HW6.out 6 _,⟨?_,?_,by simp[HB.out.len],?_,?_,?_⟩,by simp,?_⟩
   ·rw[List.length_append]
    exact rowKept HNS5.out (fun k _ ek ho=>by
     obtain⟨_,cs',t⟩:=own_type HNS5.out ek
     rw[hset k (by rintro rfl;rw[HB5.out] at t;cases t),HN6.out k (ownLt HNS5.out ek) (fun e=>by
      obtain⟨_,cs'',t2⟩:=own_type HKN5.out e
      rw[t] at t2;cases t2)];exact ho)
   ·rw[List.length_append,show intC (marks++[mk,mk,mk,mk])=intC marks++[.int .i64 mk,.int .i64 mk,.int .i64 mk,.int .i64 mk] by simp[intC]]
    exact rowKept HO6.out (fun k _ ek ho=>by
     obtain⟨_,cs',t⟩:=own_type HO6.out ek
     rw[hset k (by rintro rfl;rw[HW6.out] at t;cases t)];exact ho)
   ·intro i h1 h2
    by_cases hi':i<rows.length
    ·obtain⟨n,r1,r2⟩:=HB.out.each i hi' (by rw[←HB.out.len];exact hi')
     have r3:w3.ownsRow 0 61 2 rows[i] n (List.replicate n (mH (marks[i]'(by rw[←HB.out.len];exact hi')))).flatten:=rowKept r1 (fun k _ ek ho=>(HD3.out.only k (ownLt r1 ek) (fun e=>HLF.out k e (r2 k ek).1)).trans ho)
     rw[List.getElem_append_left hi',List.getElem_append_left (by rw[←HB.out.len];exact hi')]
     have r5:=HRI.out _ _ _ r3
     exact⟨n,fin r5 (fun k ek=>(r2 k ek).2),fun k ek=>⟨.inl (r2 k ek).1,knew k (ownLt r5 ek) (r2 k ek).2⟩⟩
    ·have hlen:=HB.out.len
     rw[List.getElem_append_right (by omega),List.getElem_append_right (by omega)]
     have hi4:i-rows.length<4:=by simp at h1;omega
     have hmi:i-marks.length=i-rows.length:=by omega
     have hmk:∀(j:Nat) (hj:j<[mk,mk,mk,mk].length),[mk,mk,mk,mk][j]=mk:=by
      intro j hj
      have:j<4:=by simpa using hj
      rcases(by omega:j=0∨j=1∨j=2∨j=3) with rfl|rfl|rfl|rfl<;>rfl
     rw[hmk]
     obtain⟨d,hd⟩:∃d,i-rows.length=d:=⟨_,rfl⟩
     have hL5:=HRI.out _ _ _ HL3.out
     have hG5:=HRI.out _ _ _ HG3.out
     have hH5:=HRI.out _ _ _ HH3.out
     have hJ5:=HRI.out _ _ _ HJ3.out
     have base:∀(r:Value) (n:Nat),w5.ownsRow 0 61 2 r n (List.replicate n (mH mk)).flatten→(∀k,r.ownBlock=some k→(F k∨(Value.slice lb xs.length lc).ownBlock=some k∨w.heap.size≤k)∧(Value.slice b5 marks.length m5).ownBlock≠some k)→∃n,(w6.setCell ⟨wb,6,none⟩ (.slice (some ⟨g6,0,none⟩) (marks.length+4) p6)).ownsRow 0 61 2 r n (List.replicate n (mH mk)).flatten∧∀k,r.ownBlock=some k→(F k∨(Value.slice lb xs.length lc).ownBlock=some k∨w.heap.size≤k)∧(Value.slice (some ⟨g6,0,none⟩) (marks.length+4) p6).ownBlock≠some k:=
      fun r n hr hk=>⟨n,fin hr (fun k ek=>(hk k ek).2),fun k ek=>⟨(hk k ek).1,knew k (ownLt hr ek) (hk k ek).2⟩⟩
     have hcases:∀(d:Nat) (hd4:d<4),∃n,(w6.setCell ⟨wb,6,none⟩ (.slice (some ⟨g6,0,none⟩) (marks.length+4) p6)).ownsRow 0 61 2 ([Value.slice lb xs.length lc,.slice (some ⟨g1,0,none⟩) (xs.length+1) p1,.slice (some ⟨g2,0,none⟩) (xs.length+2) p2,.slice (some ⟨g3,0,none⟩) (xs.length+3) p3][d]'(by simpa using hd4)) n (List.replicate n (mH mk)).flatten∧∀k,([Value.slice lb xs.length lc,.slice (some ⟨g1,0,none⟩) (xs.length+1) p1,.slice (some ⟨g2,0,none⟩) (xs.length+2) p2,.slice (some ⟨g3,0,none⟩) (xs.length+3) p3][d]'(by simpa using hd4)).ownBlock=some k→(F k∨(Value.slice lb xs.length lc).ownBlock=some k∨w.heap.size≤k)∧(Value.slice (some ⟨g6,0,none⟩) (marks.length+4) p6).ownBlock≠some k:=by
      intro d hd4
      rcases(by omega:d=0∨d=1∨d=2∨d=3) with rfl|rfl|rfl|rfl
      ·exact base _ _ hL5 (fun k ek=>⟨.inr (.inl ek),fun e=>HNK.out _ e ek⟩)
      ·exact base _ _ hG5 (newr g1 _ _ HE1.out)
      ·exact base _ _ hH5 (newr g2 _ _ HE2.out)
      ·exact base _ _ hJ5 (newr g3 _ _ HE3.out)
     exact hcases (i-rows.length) hi4
   ·intro k ek
    obtain rfl:g4=k:=by cases ek;rfl
    rcases HE4.out with h|h
    ·exact .inl (HB.out.inN _ h)
    ·exact .inr (.inr h)
   ·intro k ek
    obtain rfl:g6=k:=by cases ek;rfl
    rcases hg6 with h|h
    ·exact .inl (HB.out.inK _ h)
    ·exact .inr (.inr (by omega))
   ·exact((HD5.out.alloc _).trans (HD6.out.mono (fun k hk=>.inr (.inl (HB.out.inK k hk))))).set _ (.inl (.inl rfl))
end
section
variable {w:World}{F G K:Nat→Prop}{wb:Nat}{lv nsv knv vsv kvv hsv khv:Value}{rows vrows hrows:List Value}{marks vmarks hmarks:List Int}
theorem row_cell {w:World}{m e n g cap j:Nat}{cs:List Value}{u:Value}(h:w.ownsRow m e 1 (.slice (some ⟨g,0,none⟩) n cap) n cs)(hj:cs[j]? =some u):w.cell? ⟨g,j,none⟩=some u:=by
 have:=h.cells (g:=g) rfl j u hj
 rw[addr_add2,Nat.zero_add] at this
 exact this
theorem row_max {w:World}{m e size n:Nat}{v:Value}{cs:List Value}(h:w.ownsRow m e size v n cs):n≤9223372036854775807:=by
 rcases h.2 with⟨_,h0⟩|⟨_,cap,_,_,_,_,h1,h2,_⟩
 ·omega
 ·simp only[maxLen] at h2;omega
theorem below_drewN {B:Nat}{a w:World}{n:Nat}(h:Below B a w):Below B a (w.drewN n):=⟨h.os,h.tape,h.output,h.size,h.block⟩
theorem rep_at {α:Type}(mk:List α)(size:Nat)(hs:mk.length=size){n:Nat}(j:Nat)(hj:j<n)(c:Nat)(hc:c<size):(List.replicate n mk).flatten[j*size+c]? =mk[c]? :=by
 induction n generalizing j with
 |zero=>omega
 |succ n ih=>
  rw[List.replicate_succ,List.flatten_cons]
  cases j with
  |zero=>rw[List.getElem?_append_left (by omega)];simp
  |succ j=>
   rw[List.getElem?_append_right (by rw[hs,Nat.succ_mul];omega),show(j+1)*size+c-mk.length=j*size+c by rw[hs,Nat.succ_mul];omega]
   exact ih j (by omega)
set_option maxHeartbeats 4000000 in
theorem kept_any (hw:w.heap[wb]? =some (worldO lv nsv knv vsv kvv hsv khv))(hn:BookN w F nsv knv rows marks)(hv:BookV w G vsv kvv vrows vmarks)(hh:BookH w K hsv khv hrows hmarks)(h1:rows.length≤1000000000)(h2:vrows.length≤1000000000)(h3:hrows.length≤1000000000):
  Calls Tryz.prog 38 #[.pointer (some ⟨wb,1,none⟩)] w fun e w'=>e=.returned (.bool true)∧Below w.heap.size w w':=by
 obtain⟨b1,m1,e1⟩:=row_slice hn.ns
 obtain⟨b2,m2,e2⟩:=row_slice hn.kn
 obtain⟨b3,m3,e3⟩:=row_slice hv.ns
 obtain⟨b4,m4,e4⟩:=row_slice hv.kn
 obtain⟨b5,m5,e5⟩:=row_slice hh.ns
 obtain⟨b6,m6,e6⟩:=row_slice hh.kn
 subst e1 e2 e3 e4 e5 e6
 have c1:w.cell? ⟨wb,1,none⟩=some (.slice b1 rows.length m1):=blk_cell hw 1 _ rfl
 have c2:w.cell? ⟨wb,2,none⟩=some (.slice b2 marks.length m2):=blk_cell hw 2 _ rfl
 have c3:w.cell? ⟨wb,3,none⟩=some (.slice b3 vrows.length m3):=blk_cell hw 3 _ rfl
 have c4:w.cell? ⟨wb,4,none⟩=some (.slice b4 vmarks.length m4):=blk_cell hw 4 _ rfl
 have c5:w.cell? ⟨wb,5,none⟩=some (.slice b5 hrows.length m5):=blk_cell hw 5 _ rfl
 have c6:w.cell? ⟨wb,6,none⟩=some (.slice b6 hmarks.length m6):=blk_cell hw 6 _ rfl
 have hwl:=lt_block hw
 have HN:Hid _:=hn
 have HV:Hid _:=hv
 have HW:Hid _:=hw
 have HH:Hid _:=hh
 clear hn hv hw hh
 go_enter Tryz.func38,Tryz.ntmps38
 go_wp2_with fail
 go_loopw [3] (fun i wr=>∃k:Nat,k≤rows.length∧i=.int .i64 k∧Below w.heap.size w wr) (fun i _=>rows.length-(intOf i).toNat)
 case atStart=>exact⟨0,Nat.zero_le _,rfl,Below.refl _ _⟩
 case round=>
  obtain⟨k,hk,rfl,hb⟩:=hrel
  have d1:=(hb.cell (p:=⟨wb,1,none⟩) hwl).trans c1
  by_cases hk2:k<rows.length
  ·have hk3:k<marks.length:=by rw[←HN.out.len];exact hk2
   obtain⟨n,r,hro⟩:=HN.out.each k hk2 hk3
   obtain⟨rb,rc,hre⟩:=row_slice r
   obtain⟨nb,nc,hnb⟩:=own_slice' HN.out.ns (by omega)
   obtain⟨kb,kc,hkb⟩:=own_slice' HN.out.kn (by omega)
   obtain rfl:b1=some ⟨nb,0,none⟩:=by simp at hnb;exact hnb.1
   obtain rfl:b2=some ⟨kb,0,none⟩:=by simp at hkb;exact hkb.1
   have n1:=row_cell HN.out.ns (List.getElem?_eq_getElem hk2)
   rw[hre] at n1
   have k1:=row_cell HN.out.kn (int_at marks k hk3)
   obtain⟨mk,HMK⟩:∃mk,Hid (mk=marks[k]):=⟨marks[k],rfl⟩
   rw[←HMK.out] at k1 r
   rw[hre] at r
   have hnl:=ownLt HN.out.ns (k:=nb) rfl
   have hkl:=ownLt HN.out.kn (k:=kb) rfl
   have HR:Hid _:=r
   have hnn:n≤9223372036854775807:=row_max r
   clear r hre hro hnb hkb
   have x1:=(hb.cell (p:=⟨nb,k,none⟩) hnl).trans n1
   go_wp2_with fail
   go_loopw [4] (fun i wx=>∃j:Nat,j≤n∧i=.int .i64 j∧Below w.heap.size w wx) (fun i _=>n-(intOf i).toNat)
   case atStart=>exact⟨0,Nat.zero_le _,rfl,hb⟩
   case round=>
    obtain⟨j,hj,rfl,hb2⟩:=hrel
    have d1:=(hb2.cell (p:=⟨wb,1,none⟩) hwl).trans c1
    have d2:=(hb2.cell (p:=⟨wb,2,none⟩) hwl).trans c2
    have x1:=(hb2.cell (p:=⟨nb,k,none⟩) hnl).trans n1
    have x2:=(hb2.cell (p:=⟨kb,k,none⟩) hkl).trans k1
    by_cases hj2:j<n
    ·obtain⟨g,cap,hg⟩:=own_slice' HR.out (by omega)
     obtain rfl:rb=some ⟨g,0,none⟩:=by simp at hg;exact hg.1
     have y1:=(hb2.cell (p:=⟨g,j,none⟩) (ownLt HR.out (k:=g) rfl)).trans (row_cell HR.out (u:=.int .i64 mk) (j:=j) (by simp[hj2]))
     clear hg
     go_wp2_with fail
     go_quiet (fail)
     go_wp2_with fail
     exact⟨⟨j+1,by omega,by go_num,below_drewN hb2⟩,by simp[intOf];omega⟩
    ·obtain rfl:j=n:=by omega
     go_wp2_with fail
     exact⟨⟨k+1,by omega,by go_num,hb2⟩,by simp[intOf];omega⟩
  ·obtain rfl:k=rows.length:=by omega
   go_wp2_with fail
   clear d1
   go_loopw [5] (fun i wr=>∃k:Nat,k≤vrows.length∧i=.int .i64 k∧Below w.heap.size w wr) (fun i _=>vrows.length-(intOf i).toNat)
   case atStart=>exact⟨0,Nat.zero_le _,rfl,hb⟩
   case round=>
    obtain⟨k,hk,rfl,hb⟩:=hrel
    have d1:=(hb.cell (p:=⟨wb,3,none⟩) hwl).trans c3
    by_cases hk2:k<vrows.length
    ·have hk3:k<vmarks.length:=by rw[←HV.out.len];exact hk2
     obtain⟨n,r,hro⟩:=HV.out.each k hk2 hk3
     obtain⟨rb,rc,hre⟩:=row_slice r
     obtain⟨nb,nc,hnb⟩:=own_slice' HV.out.ns (by omega)
     obtain⟨kb,kc,hkb⟩:=own_slice' HV.out.kn (by omega)
     obtain rfl:b3=some ⟨nb,0,none⟩:=by simp at hnb;exact hnb.1
     obtain rfl:b4=some ⟨kb,0,none⟩:=by simp at hkb;exact hkb.1
     have n1:=row_cell HV.out.ns (List.getElem?_eq_getElem hk2)
     rw[hre] at n1
     have k1:=row_cell HV.out.kn (int_at vmarks k hk3)
     obtain⟨mk,HMK⟩:∃mk,Hid (mk=vmarks[k]):=⟨vmarks[k],rfl⟩
     rw[←HMK.out] at k1 r
     rw[hre] at r
     have hnl:=ownLt HV.out.ns (k:=nb) rfl
     have hkl:=ownLt HV.out.kn (k:=kb) rfl
     have HR:Hid _:=r
     have hnn:n≤9223372036854775807:=row_max r
     clear r hre hro hnb hkb
     have x1:=(hb.cell (p:=⟨nb,k,none⟩) hnl).trans n1
     go_wp2_with fail
     go_loopw [6] (fun i wx=>∃j:Nat,j≤n∧i=.int .i64 j∧Below w.heap.size w wx) (fun i _=>n-(intOf i).toNat)
     case atStart=>exact⟨0,Nat.zero_le _,rfl,hb⟩
     case round=>
      obtain⟨j,hj,rfl,hb2⟩:=hrel
      have d1:=(hb2.cell (p:=⟨wb,3,none⟩) hwl).trans c3
      have d2:=(hb2.cell (p:=⟨wb,4,none⟩) hwl).trans c4
      have x1:=(hb2.cell (p:=⟨nb,k,none⟩) hnl).trans n1
      have x2:=(hb2.cell (p:=⟨kb,k,none⟩) hkl).trans k1
      by_cases hj2:j<n
      ·obtain⟨g,cap,hg⟩:=own_slice' HR.out (by omega)
       obtain rfl:rb=some ⟨g,0,none⟩:=by simp at hg;exact hg.1
       have hcell:∀c u,(mV mk)[c]? =some u→wr.cell? ⟨g,j*3+c,none⟩=some u:=fun c u hu=>by
        have h3:c<3:=(List.getElem?_eq_some_iff.1 hu).1
        have:=World.ownsRow.cells HR.out (g:=g) rfl (j*3+c) u (by rw[rep_at (mV mk) 3 rfl j hj2 c h3];exact hu)
        rw[addr_add2,Nat.zero_add] at this
        exact(hb2.cell (p:=⟨g,j*3+c,none⟩) (ownLt HR.out (k:=g) rfl)).trans this
       have y0:wr.cell? ⟨g,j*3,none⟩=some (.int .i64 1):=hcell 0 _ rfl
       have y1:wr.cell? ⟨g,j*3+1,none⟩=some (.int .i64 mk):=hcell 1 _ rfl
       have y2:wr.cell? ⟨g,j*3+2,none⟩=some (.string ⟨#[]⟩):=hcell 2 _ rfl
       have hsw:wb<wr.heap.size:=Nat.lt_of_lt_of_le hwl hb2.size
       have hsk:kb<wr.heap.size:=Nat.lt_of_lt_of_le hkl hb2.size
       clear hg hcell
       go_wp2_with fail
       go_quiet (fail)
       go_wp2_with fail
       exact⟨⟨j+1,by omega,by go_num,below_drewN (hb2.alloc hb2.size _)⟩,by simp[intOf];omega⟩
      ·obtain rfl:j=n:=by omega
       go_wp2_with fail
       exact⟨⟨k+1,by omega,by go_num,hb2⟩,by simp[intOf];omega⟩
    ·obtain rfl:k=vrows.length:=by omega
     go_wp2_with fail
     clear d1
     go_loopw [8] (fun i wr=>∃k:Nat,k≤hrows.length∧i=.int .i64 k∧Below w.heap.size w wr) (fun i _=>hrows.length-(intOf i).toNat)
     case atStart=>exact⟨0,Nat.zero_le _,rfl,hb⟩
     case round=>
      obtain⟨k,hk,rfl,hb⟩:=hrel
      have d1:=(hb.cell (p:=⟨wb,5,none⟩) hwl).trans c5
      by_cases hk2:k<hrows.length
      ·have hk3:k<hmarks.length:=by rw[←HH.out.len];exact hk2
       obtain⟨n,r,hro⟩:=HH.out.each k hk2 hk3
       obtain⟨rb,rc,hre⟩:=row_slice r
       obtain⟨nb,nc,hnb⟩:=own_slice' HH.out.ns (by omega)
       obtain⟨kb,kc,hkb⟩:=own_slice' HH.out.kn (by omega)
       obtain rfl:b5=some ⟨nb,0,none⟩:=by simp at hnb;exact hnb.1
       obtain rfl:b6=some ⟨kb,0,none⟩:=by simp at hkb;exact hkb.1
       have n1:=row_cell HH.out.ns (List.getElem?_eq_getElem hk2)
       rw[hre] at n1
       have k1:=row_cell HH.out.kn (int_at hmarks k hk3)
       obtain⟨mk,HMK⟩:∃mk,Hid (mk=hmarks[k]):=⟨hmarks[k],rfl⟩
       rw[←HMK.out] at k1 r
       rw[hre] at r
       have hnl:=ownLt HH.out.ns (k:=nb) rfl
       have hkl:=ownLt HH.out.kn (k:=kb) rfl
       have HR:Hid _:=r
       have hnn:n≤9223372036854775807:=row_max r
       clear r hre hro hnb hkb
       have x1:=(hb.cell (p:=⟨nb,k,none⟩) hnl).trans n1
       go_wp2_with fail
       go_loopw [9] (fun i wx=>∃j:Nat,j≤n∧i=.int .i64 j∧Below w.heap.size w wx) (fun i _=>n-(intOf i).toNat)
       case atStart=>exact⟨0,Nat.zero_le _,rfl,hb⟩
       case round=>
        obtain⟨j,hj,rfl,hb2⟩:=hrel
        have d1:=(hb2.cell (p:=⟨wb,5,none⟩) hwl).trans c5
        have d2:=(hb2.cell (p:=⟨wb,6,none⟩) hwl).trans c6
        have x1:=(hb2.cell (p:=⟨nb,k,none⟩) hnl).trans n1
        have x2:=(hb2.cell (p:=⟨kb,k,none⟩) hkl).trans k1
        by_cases hj2:j<n
        ·obtain⟨g,cap,hg⟩:=own_slice' HR.out (by omega)
         obtain rfl:rb=some ⟨g,0,none⟩:=by simp at hg;exact hg.1
         have hcell:∀c u,(mH mk)[c]? =some u→wr.cell? ⟨g,j*2+c,none⟩=some u:=fun c u hu=>by
          have h3:c<2:=(List.getElem?_eq_some_iff.1 hu).1
          have:=World.ownsRow.cells HR.out (g:=g) rfl (j*2+c) u (by rw[rep_at (mH mk) 2 rfl j hj2 c h3];exact hu)
          rw[addr_add2,Nat.zero_add] at this
          exact(hb2.cell (p:=⟨g,j*2+c,none⟩) (ownLt HR.out (k:=g) rfl)).trans this
         have y0:wr.cell? ⟨g,j*2,none⟩=some (.int .i64 mk):=hcell 0 _ rfl
         have y1:wr.cell? ⟨g,j*2+1,none⟩=some (.int .i64 mk):=hcell 1 _ rfl
         have hsw:wb<wr.heap.size:=Nat.lt_of_lt_of_le hwl hb2.size
         have hsk:kb<wr.heap.size:=Nat.lt_of_lt_of_le hkl hb2.size
         clear hg hcell
         go_wp2_with fail
         go_quiet (fail)
         go_wp2_with fail
         exact⟨⟨j+1,by omega,by go_num,below_drewN hb2⟩,by simp[intOf];omega⟩
        ·obtain rfl:j=n:=by omega
         go_wp2_with fail
         exact⟨⟨k+1,by omega,by go_num,hb2⟩,by simp[intOf];omega⟩
      ·obtain rfl:k=hrows.length:=by omega
       go_wp2_with fail
       go_ret
       exact⟨rfl,hb⟩
end
end Go.Proofs.YtbnelaoeblhndaaGreatDoor
