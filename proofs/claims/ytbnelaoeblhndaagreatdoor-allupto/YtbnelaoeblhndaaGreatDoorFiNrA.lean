import Derived.Test.YtbnelaoeblhndaaGreatDoorFiM3
import Derived.Test.YtbnelaoeblhndaaGreatDoorSort
import Derived.ProofKit
import Derived.LaidMore
import Derived.OpenShut
import Derived.Stop.Joined
import Derived.Deep.Slices
import Derived.Lib.LaidTab
import Derived.BigQuiet
import Derived.Sort.Grow
namespace Go.Proofs.YtbnelaoeblhndaaGreatDoor
open Go.RowKit
set_option maxRecDepth 100000
namespace Doc
def str (l:List UInt8)(a:Nat):Tok:=⟨115,⟨l.toArray⟩,0,a⟩
end Doc
section
variable {w:World}
structure LaidF (w:World):Prop where
 sg:Signs w
 g1:1<w.heap.size
 tab:Tab64 w
 g2:0<w.heap.size
variable {F:Nat→Prop}{sb:Nat}{fs:List Doc.Fld}{space:Int}{th:Has}{fv:Value}{hb mt mh:Nat}{pos:Int→Value×Value}
end
end Go.Proofs.YtbnelaoeblhndaaGreatDoor
namespace Go.Proofs.YtbnelaoeblhndaaGreatDoor
namespace Keep
open Go.ChangeShapes Go.WideShapes Go.ChangeAt Go.WideMaps Go.WideElems Go.RowKit
set_option maxRecDepth 100000
theorem own:ownKnob Tryz.prog.godebug=none:=by kernel_rfl
theorem laidOut_all:laidOutB Tryz.prog=true:=by kernel_rfl
theorem signs_at:Tryz.prog.globalNamed "rummage/syntax.signs"=some 1:=by kernel_rfl
theorem signs_type:(Tryz.prog.globals[1]?).map (·.type)=some 255:=by kernel_rfl
theorem tab_at:Tryz.prog.globalNamed "math/bits.deBruijn64tab"=some 0:=by kernel_rfl
theorem tab_type:(Tryz.prog.globals[0]?).map (·.type)=some 241:=by kernel_rfl
theorem cells_str:Tryz.prog.cellsOf 9=1:=by kernel_rfl
theorem cells_signs:Tryz.prog.cellsOf 255=9:=by kernel_rfl
theorem cells_u8:Tryz.prog.cellsOf 5=1:=by kernel_rfl
theorem cells_tab:Tryz.prog.cellsOf 241=64:=by kernel_rfl
theorem bytes_of_list {s:ByteArray}{l:List UInt8}(h:(l:List UInt8)=s.data.toList):s=⟨l.toArray⟩:=by
 apply ByteArray.ext
 apply Array.ext'
 rw[h]
theorem cells_of_strs {P:Program}{w:World}{base:Nat}{sp:Nat→Bool}{held:Bool}{fuel:Nat}{t e:TypeId}{n:Nat}{cs:List Value}{ls:List (List UInt8)}{p:List MemPlace}
  (ht:P.underlying t=some (.array n e)) (he:P.underlying e=some .string) (hce:P.cellsOf e=1) (hct:P.cellsOf t=n)
  (h:DataW.trod (fun _=>()) P w base sp held fuel t cs=some (.agg (ls.map fun l=>.lit (.string l)),p)):∀i (hi:i<ls.length),cs[i]? =some (.string ⟨ls[i].toArray⟩):=by
 obtain⟨xs,m,rfl,hx,hlen,hn,hel⟩:=DataW.trod_array ht h
 simp only[Prod.mk.injEq,DataW.agg.injEq] at hx
 obtain⟨hx,_⟩:=hx
 intro i hi
 have hxl:xs.length=ls.length:=by
  have:=congrArg List.length hx
  simpa using this.symm
 have hi2:i<n:=by omega
 have h1:=hel i hi2
 rw[hce,Nat.mul_one,List.getElem?_eq_getElem (by omega)] at h1
 obtain⟨s,hc,hs,_⟩:=DataW.trod_string he h1
 have hxi:xs[i].1=.lit (.string ls[i]):=by
  have:=congrArg (fun l=>l[i]?) hx
  simp only[List.getElem?_map] at this
  rw[List.getElem?_eq_getElem hi,List.getElem?_eq_getElem (by omega:i<xs.length)] at this
  simpa using this.symm
 rw[hs] at hxi
 simp only[DataW.lit.injEq,Lit.string.injEq] at hxi
 rw[←bytes_of_list hxi.symm]
 have hd:(cs.drop i).take 1=[cs[i]'(by omega)]:=by
  rw[List.drop_eq_getElem_cons (by omega)]
  rfl
 rw[hd] at hc
 rw[List.getElem?_eq_getElem (by omega)]
 exact congrArg some (List.cons.inj hc).1
theorem lt_of_var {P:Program}{W:World}{n:String}{g:Nat}{cs:Array Value}(hg:P.globalNamed n=some g)(h:W.var? P n=some cs):g<W.heap.size:=by
 unfold World.var? at h
 rw[hg] at h
 simp only[Option.bind_some] at h
 cases hh:W.heap[g]? with
 |none=>rw[hh] at h;cases h
 |some o=>exact lt_block hh
theorem of_laid {W:World}(h:laidMetH Tryz.prog Rows.alikeRow.laid W):LaidF W:=by
 rw[MakeChecks.laidMetH_plain _ _ _ (by kernel_rfl)] at h
 obtain⟨ps,⟨g0,t0,cs0,f0,p0,q0,hg0,ht0,hv0,hd0,⟨g1,t1,cs1,f1,p1,q1,hg1,ht1,hv1,hd1,⟨g2,t2,cs2,f2,p2,q2,hg2,ht2,hv2,hd2,⟨g3,t3,cs3,f3,p3,q3,hg3,ht3,hv3,hd3,⟨g4,t4,cs4,f4,p4,q4,hg4,ht4,hv4,hd4,⟨g5,t5,cs5,f5,p5,q5,hg5,ht5,hv5,hd5,_,_⟩,_⟩,_⟩,_⟩,_⟩,_⟩,_,_⟩:=h
 obtain rfl:=Option.some.inj (tab_at.symm.trans hg1)
 obtain rfl:=Option.some.inj (tab_type.symm.trans ht1)
 obtain rfl:=Option.some.inj (signs_at.symm.trans hg5)
 obtain rfl:=Option.some.inj (signs_type.symm.trans ht5)
 have hs:=cells_of_strs (ls:=[[33,61],[60,61],[62,61],[61],[60],[62],[40],[41],[44]]) Tryz.underlying255 Tryz.underlying9 cells_str cells_signs hd5
 have hc:∀i (hi:i<9),W.cell? ⟨1,i,none⟩=some (.string ⟨([[33,61],[60,61],[62,61],[61],[60],[62],[40],[41],[44]]:List (List UInt8))[i].toArray⟩):=by
  intro i hi
  have h1:=World.var?_cell hg5 hv5 i
  have h2:=hs i hi
  rw[Array.getElem?_toList] at h2
  rw[h1,h2]
 have ht:=Lib.cells_of_tab (zs:=Lib.deBruijn64tab.map Int.ofNat) Tryz.underlying241 Tryz.underlying5 cells_u8 cells_tab hd1
 refine⟨⟨hc 0 (by decide),hc 1 (by decide),hc 2 (by decide),hc 3 (by decide),hc 4 (by decide),hc 5 (by decide),hc 6 (by decide),hc 7 (by decide),hc 8 (by decide)⟩,lt_of_var hg5 hv5,fun j hj=>?_,lt_of_var hg1 hv1⟩
 have h1:=World.var?_cell hg1 hv1 j
 rw[h1,←Array.getElem?_toList,ht]
 have hl:j<Lib.deBruijn64tab.length:=hj
 simp[List.getElem?_eq_getElem hl,List.getD_eq_getElem?_getD]
theorem door_met (os:Os)(args:Array Value):laidMetH Tryz.prog Rows.alikeRow.laid ((World.doorLaid Tryz.prog 400 os).forCall (fun _ _=>0) ⟨#[],args,[]⟩).memory:=
 laidMetH_of_parts3 (fuel:=8) (laidMet_of_run' 8 (by kernel_rfl) (by kernel_rfl)) (by kernel_rfl) (by kernel_rfl)
end Keep
open Go.RowKit
set_option maxRecDepth 100000
section
variable {w:World}{F:Nat→Prop}{sb:Nat}{th:Has}
theorem nums_short (ys:Bits):(nums ys).length≤4096:=numsTo_len ys 64
end
open Go.Maps (Keyed)
namespace Doc
def farTo (s p:List Int):Nat→Int
 |0=>0
 |k+1=>farTo s p k+((s[k]?).getD 0-(p[k]?).getD 0)*((s[k]?).getD 0-(p[k]?).getD 0)
def far (s p:List Int):Int:=farTo s p s.length
def Near (s:List Int):Prop:=∀x∈s, -1000≤x∧x≤1000
theorem sq_le {d:Int}(h1: -2000≤d)(h2:d≤2000):0≤d*d∧d*d≤4000000:=by
 rcases Int.le_total 0 d with h|h
 ·exact⟨Int.mul_nonneg h h,Int.mul_le_mul h2 h2 h (by decide)⟩
 ·have e:d*d=(-d)*(-d):=(Int.neg_mul_neg d d).symm
  rw[e]
  have h5: -d≤2000:=by omega
  exact⟨Int.mul_nonneg (by omega) (by omega),Int.mul_le_mul h5 h5 (by omega) (by decide)⟩
theorem near_at {s:List Int}(h:Near s)(k:Nat): -1000≤(s[k]?).getD 0∧(s[k]?).getD 0≤1000:=by
 cases e:s[k]? with
 |none=>simp
 |some x=>exact h x (List.mem_of_getElem? e)
theorem farTo_le {s p:List Int}(hs:Near s)(hp:Near p):∀k,0≤farTo s p k∧farTo s p k≤4000000*k
 |0=>⟨Int.le_refl _,by simp[farTo]⟩
 |k+1=>by
  have h1:=farTo_le hs hp k
  have a:=near_at hs k
  have b:=near_at hp k
  have c:=sq_le (d:=(s[k]?).getD 0-(p[k]?).getD 0) (by omega) (by omega)
  simp only[farTo]
  omega
theorem spot_near {n:Int}{s:List Int}(h:spotB n s=true):Near s:=by
 intro x hx
 unfold spotB at h
 simp only[Bool.and_eq_true,List.all_eq_true] at h
 have:=h.1 x hx
 unfold inSpot at this
 simp only[Bool.and_eq_true,decide_eq_true_eq] at this
 exact this
theorem spot_len {n:Nat}{s:List Int}(h:spotB (n:Int) s=true):s.length=n:=by
 unfold spotB at h
 simp only[Bool.and_eq_true,beq_iff_eq] at h
 omega
def orI (a b:Int):Int:=bif a==0 then b else a
def hitC (x y:Int×Int):Int:=orI (cmpI x.2 y.2) (cmpI x.1 y.1)
end Doc
section
variable {w w':World}{F:Nat→Prop}{hb mt mh:Nat}{th:Has}{pos:Int→Value×Value}
theorem wrap_id {x:Int}(h1: -9223372036854775808≤x)(h2:x≤9223372036854775807):wrap64 x=x:=by
 unfold wrap64
 omega
set_option maxHeartbeats 4000000 in
theorem sfar_any (h:ShelfAt w F hb th mt mh pos)(id:Int)(t:List Int×List Doc.Val)(hn:th id=some t)(p:List Int)(pv:Value)(hp:Sl w pv t.1.length (intC p))(hpl:p.length=t.1.length)(hs:Doc.Near t.1)(hpn:Doc.Near p):
  Calls Tryz.prog 72 #[.pointer (some ⟨hb,0,none⟩),.int .i64 id,pv] w fun e w'=>e=.returned (.int .i64 (Doc.far t.1 p))∧Below w.heap.size w w':=by
 have c0:w.cell? ⟨hb,0,none⟩=some (.map (some mt)):=blk_cell h.blk 0 _ rfl
 obtain⟨g0,g1,g4,g2,g3⟩:=h.rng id t hn
 obtain⟨r1,r2⟩:=h.each id t hn
 have hlk:(Instr.lookup 149 (.map (some mt)) (.int .i64 id) false).run Tryz.prog w=.ok (.agg #[(pos id).1,(pos id).2]) w:=
  h.thg.look_some false intKeyed Tryz.underlying149 (int_key (by omega) (by omega)) ⟨id,t,hn,rfl,rfl⟩
 obtain⟨b1,m1,e1⟩:=row_slice r1
 obtain⟨b2,m2,e2⟩:=row_slice r2
 rw[e1,e2] at hlk
 have s1:=rowSl r1
 rw[e1] at s1
 have HS1:Hid _:=s1
 have HPP:Hid _:=hp
 obtain⟨pa,pc,hpv⟩:=hp.slice
 subst hpv
 have hlt:=h.lt
 obtain⟨n,HN⟩:∃n,Hid (t.1.length=n):=⟨_,rfl⟩
 rw[HN.out] at hlk g4 s1 HS1 HPP hpl
 have HFN:Hid (Doc.far t.1 p=Doc.farTo t.1 p n):=by show _=_;unfold Doc.far;rw[HN.out]
 rw[HFN.out,HN.out]
 clear s1 r1 r2 h hp
 have hfd:∀W:World,(Instr.field 104 (.agg #[.slice b1 n m1,.slice b2 t.2.length m2]) 0).run Tryz.prog W=.ok (.slice b1 n m1) W:=fun W=>by
  simp[Instr.field,asAgg,go_sem]
 go_enter Tryz.func72,Tryz.ntmps72
 go_wp2_with fail
 go_loopw [7,18] (fun f i wr=>∃j:Nat,j≤n∧i=.int .i64 j∧f=.int .i64 (Doc.farTo t.1 p j)∧Below w.heap.size w wr) (fun _ i _=>n-(intOf i).toNat)
 case atStart=>exact⟨0,Nat.zero_le _,rfl,rfl,Below.refl _ _⟩
 case round=>
  obtain⟨j,hj,rfl,rfl,hB⟩:=hrel
  have hsz:=hB.size
  by_cases hj2:j<n
  ·rcases HS1.out.has with⟨h0',_⟩|⟨_,ab,ao,ac,ev,hc2,hlt2,hr2⟩
   ·omega
   cases ev
   rcases HPP.out.has with⟨h0',_⟩|⟨_,qb,qo,qc,ev,hc3,hlt3,hr3⟩
   ·omega
   cases ev
   obtain⟨x,hx⟩:∃x,t.1[j]? =some x:=⟨t.1[j]'(by rw[HN.out];exact hj2),List.getElem?_eq_getElem _⟩
   obtain⟨y,hy⟩:∃y,p[j]? =some y:=⟨p[j]'(by rw[hpl];exact hj2),List.getElem?_eq_getElem _⟩
   have hx3:=hs x (List.mem_of_getElem? hx)
   have hy3:=hpn y (List.mem_of_getElem? hy)
   have d0:wr.cell? ⟨ab,ao+j,none⟩=some (.int .i64 x):=(hB.cell (p:=⟨ab,ao+j,none⟩) hlt2).trans (hr2 j _ (by unfold intC;rw[List.getElem?_map,hx];rfl))
   have d1:wr.cell? ⟨qb,qo+j,none⟩=some (.int .i64 y):=(hB.cell (p:=⟨qb,qo+j,none⟩) hlt3).trans (hr3 j _ (by unfold intC;rw[List.getElem?_map,hy];rfl))
   obtain⟨a,HA⟩:∃a,Hid (Doc.farTo t.1 p j=a):=⟨_,rfl⟩
   have hfb:=Doc.farTo_le hs hpn j
   rw[HA.out] at hfb ⊢
   have HST:Hid (Doc.farTo t.1 p (j+1)=a+(x-y)*(x-y)):=by show _=_;simp only[Doc.farTo,hx,hy,Option.getD_some,HA.out]
   have hsq:=Doc.sq_le (d:=x-y) (by omega) (by omega)
   have w1:wrap64 (x-y)=x-y:=wrap_id (by omega) (by omega)
   have w2:wrap64 ((x-y)*(x-y))=(x-y)*(x-y):=wrap_id (by omega) (by omega)
   have w3:wrap64 (a+(x-y)*(x-y))=a+(x-y)*(x-y):=wrap_id (by omega) (by omega)
   have HB:Hid _:=hB
   clear hr2 hr3 hx hy hB hs hpn
   go_wp2_with fail
   go_quiet (fail)
   go_wp2_with fail
   go_roundw
   case rel=>exact⟨j+1,by omega,by go_num,by rw[HST.out],⟨HB.out.os,HB.out.tape,HB.out.output,HB.out.size,HB.out.block⟩⟩
   case measure=>simp[intOf];omega
  ·obtain rfl:j=n:=by omega
   go_wp2_with fail
   go_ret
   exact⟨rfl,hB⟩
end
section
variable {w:World}
theorem cor_any (b:Nat)(x y:Int)(h0:w.cell? ⟨b,0,none⟩=some (.int .i64 x))(h1:w.cell? ⟨b,1,none⟩=some (.int .i64 y)):
  Calls Tryz.prog 117 #[.slice (some ⟨b,0,none⟩) 2 2] w fun e w'=>e=.returned (.int .i64 (Doc.orI x y))∧w'=w:=by
 obtain⟨r,HR⟩:∃r,Hid (Doc.orI x y=r):=⟨_,rfl⟩
 rw[HR.out]
 go_enter Tryz.func117,Tryz.ntmps117
 go_wp2_with fail
 go_loopw [8] (fun i wr=>∃j:Nat,j≤2∧i=.int .i64 j∧wr=w∧(x≠0→j=0)∧(y≠0→j≤1)) (fun i _=>2-(intOf i).toNat)
 case atStart=>exact⟨0,by omega,rfl,rfl,fun _=>rfl,fun _=>by omega⟩
 case round=>
  obtain⟨j,hj,rfl,rfl,hx,hy⟩:=hrel
  have hj3:j=0∨j=1∨j=2:=by omega
  rcases hj3 with rfl|rfl|rfl
  ·by_cases e:x=0
   ·have e2:(x != 0)=false:=by rw[e];rfl
    go_wp2_with fail
    go_roundw
    case rel=>exact⟨1,by omega,by go_num,by first|rfl|trivial,fun h=>absurd e h,fun _=>by omega⟩
    case measure=>simp[intOf]
   ·have e2:(x != 0)=true:=by simp[e]
    have HE3:Hid (r=x):=by show _=_;rw[←HR.out];unfold Doc.orI;rw[show(x==0)=false by simp[e]];rfl
    go_wp2_with fail
    go_ret
    exact⟨by rw[HE3.out];rfl,rfl⟩
  ·have e0:x=0:=by
    by_cases e:x=0
    ·exact e
    ·have:=hx e;omega
   have HER:Hid (r=y):=by show _=_;rw[←HR.out,e0];rfl
   by_cases e:y=0
   ·have e2:(y != 0)=false:=by rw[e];rfl
    go_wp2_with fail
    go_roundw
    case rel=>exact⟨2,by omega,by go_num,by first|rfl|trivial,fun h=>absurd e0 h,fun h=>absurd e h⟩
    case measure=>simp[intOf]
   ·have e2:(y != 0)=true:=by simp[e]
    go_wp2_with fail
    go_ret
    exact⟨by rw[HER.out];rfl,rfl⟩
  ·have e0:x=0:=by
    by_cases e:x=0
    ·exact e
    ·have:=hx e;omega
   have e1:y=0:=by
    by_cases e:y=0
    ·exact e
    ·have:=hy e;omega
   have HER:Hid (r=0):=by show _=_;rw[←HR.out,e0,e1];rfl
   go_wp2_with fail
   go_ret
   exact⟨by rw[HER.out];rfl,rfl⟩
set_option maxHeartbeats 2000000 in
theorem nearer_any (x y:Int×Int):Calls Tryz.prog 74 #[.agg #[.int .i64 x.1,.int .i64 x.2],.agg #[.int .i64 y.1,.int .i64 y.2]] w fun e w'=>e=.returned (.int .i64 (Doc.hitC x y))∧∃q os',w'=Sort.grow (w.drewN q) os':=by
 obtain⟨x1,x2⟩:=x
 obtain⟨y1,y2⟩:=y
 obtain⟨a,HA⟩:∃a,Hid (Doc.cmpI x2 y2=a):=⟨_,rfl⟩
 obtain⟨b,HB⟩:∃b,Hid (Doc.cmpI x1 y1=b):=⟨_,rfl⟩
 obtain⟨r,HR⟩:∃r,Hid (Doc.hitC (x1,x2) (y1,y2)=r):=⟨_,rfl⟩
 have HOR:Hid (Doc.orI a b=r):=by show _=_;rw[←HR.out,←HA.out,←HB.out];rfl
 have HC1:Hid (∀W:World,Calls Tryz.prog 118 #[.int .i64 x2,.int .i64 y2] W fun e w'=>e=.returned (.int .i64 a)∧w'=W):=fun W=>by rw[←HA.out];exact cmp_int x2 y2
 have HC2:Hid (∀W:World,Calls Tryz.prog 118 #[.int .i64 x1,.int .i64 y1] W fun e w'=>e=.returned (.int .i64 b)∧w'=W):=fun W=>by rw[←HB.out];exact cmp_int x1 y1
 rw[HR.out]
 obtain⟨W0,HW0⟩:∃W0,Hid (W0=(w.alloc (.cells #[.int .i64 x1,.int .i64 x2] 61)).alloc (.cells #[.int .i64 y1,.int .i64 y2] 61)):=⟨_,rfl⟩
 have HS0:Hid (W0.drew.heap[w.heap.size]? =some (.cells #[.int .i64 x1,.int .i64 x2] 61 (0,0))∧W0.drew.heap[w.heap.size+1]? =some (.cells #[.int .i64 y1,.int .i64 y2] 61 (0,0))):=by
  rw[HW0.out]
  exact⟨heap_alloc2_old w _ _,heap_alloc2_new w _ _⟩
 go_enter Tryz.func74,Tryz.ntmps74
 go_wp2_with fail
 rw[←HW0.out]
 refine wp_region_M 12 (fun w'=>w'.heap[w.heap.size]? =some (.cells #[.int .i64 x1,.int .i64 x2] 61 (0,0))∧w'.heap[w.heap.size+1]? =some (.cells #[.int .i64 y1,.int .i64 y2] 61 (0,0))) (by kernel_rfl) ?_
 refine anyM_t (i:=0) (v:=.pointer (some ⟨w.heap.size,1,none⟩)) rfl (by kernel_rfl) (fun _ _ _ h=>h) rfl rfl HS0.out (fun w' hSw=>by go_simp) ?_
 simp only[takes]
 refine anyM_t (i:=1) (v:=.int .i64 x2) rfl (by kernel_rfl) (fun _ _ _ h=>h) rfl rfl HS0.out (fun w' hSw=>by have c:=blk_cell hSw.1 1 _ rfl;go_simp) ?_
 simp only[takes]
 refine anyM_t (i:=2) (v:=.pointer (some ⟨w.heap.size+1,1,none⟩)) rfl (by kernel_rfl) (fun _ _ _ h=>h) rfl rfl HS0.out (fun w' hSw=>by go_simp) ?_
 simp only[takes]
 refine anyM_t (i:=3) (v:=.int .i64 y2) rfl (by kernel_rfl) (fun _ _ _ h=>h) rfl rfl HS0.out (fun w' hSw=>by have c:=blk_cell hSw.2 1 _ rfl;go_simp) ?_
 simp only[takes]
 refine anyM_t (i:=5) (v:=.pointer (some ⟨w.heap.size,0,none⟩)) rfl (by kernel_rfl) (fun _ _ _ h=>h) rfl rfl HS0.out (fun w' hSw=>by go_simp) ?_
 simp only[takes]
 refine anyM_t (i:=6) (v:=.int .i64 x1) rfl (by kernel_rfl) (fun _ _ _ h=>h) rfl rfl HS0.out (fun w' hSw=>by have c:=blk_cell hSw.1 0 _ rfl;go_simp) ?_
 simp only[takes]
 refine anyM_t (i:=7) (v:=.pointer (some ⟨w.heap.size+1,0,none⟩)) rfl (by kernel_rfl) (fun _ _ _ h=>h) rfl rfl HS0.out (fun w' hSw=>by go_simp) ?_
 simp only[takes]
 refine anyM_t (i:=8) (v:=.int .i64 y1) rfl (by kernel_rfl) (fun _ _ _ h=>h) rfl rfl HS0.out (fun w' hSw=>by have c:=blk_cell hSw.2 0 _ rfl;go_simp) ?_
 simp only[takes]
 refine anyM_one (i:=4) (by kernel_rfl) rfl rfl (fun K hK=>?_)
 go_simp
 refine(HC1.out _).mono ?_
 rintro e w2 ⟨rfl,rfl⟩
 refine hK.out _ _ (fun _=>HS0.out) ?_
 clear hK K
 try simp only[Act.put,takes]
 refine anyM_one (i:=9) (by kernel_rfl) rfl rfl (fun K hK=>?_)
 go_simp
 refine(HC2.out _).mono ?_
 rintro e w2 ⟨rfl,rfl⟩
 refine hK.out _ _ (fun _=>HS0.out) ?_
 clear hK K
 try simp only[Act.put,takes]
 refine anyM_one (i:=10) (by kernel_rfl) rfl rfl (fun K hK=>?_)
 go_simp
 have hl1:w.heap.size<W0.heap.size:=lt_block HS0.out.1
 have hl2:w.heap.size+1<W0.heap.size:=lt_block HS0.out.2
 obtain⟨W1,HW1⟩:∃W1,Hid (W1=(W0.alloc (.cells #[.int .i64 a,.int .i64 b] 3)).drew):=⟨_,rfl⟩
 rw[←HW1.out]
 have HS1:Hid (W1.heap[w.heap.size]? =some (.cells #[.int .i64 x1,.int .i64 x2] 61 (0,0))∧W1.heap[w.heap.size+1]? =some (.cells #[.int .i64 y1,.int .i64 y2] 61 (0,0))):=by
  rw[HW1.out]
  exact⟨(Below.heap_alloc _ _ _ hl1).trans HS0.out.1,(Below.heap_alloc _ _ _ hl2).trans HS0.out.2⟩
 have hnw:W1.heap[W0.heap.size]? =some (.cells #[.int .i64 a,.int .i64 b] 3 (0,0)):=by rw[HW1.out];exact heap_alloc_new W0 _
 have HCO:Hid _:=cor_any W0.heap.size a b (blk_cell hnw 0 _ rfl) (blk_cell hnw 1 _ rfl)
 rw[HOR.out] at HCO
 refine hK.out _ _ (fun _=>HS1.out) ?_
 clear hK K
 try simp only[Act.put,takes]
 refine anyM_one (i:=11) (by kernel_rfl) rfl rfl (fun K hK=>?_)
 go_simp
 refine Calls.mono HCO.out ?_
 rintro e w2 ⟨rfl,rfl⟩
 refine hK.out _ _ (fun _=>HS1.out) ?_
 clear hK K
 try simp only[Act.put,takes]
 refine anyM_one (i:=12) (by kernel_rfl) rfl rfl (fun K hK=>?_)
 go_simp
 refine hK.out _ _ (fun _=>HS1.out) ?_
 clear hK K
 refine anyM_done (by kernel_rfl) ?_
 go_wp2_with fail
 go_ret
 refine⟨rfl,1,#[.cells #[.int .i64 x1,.int .i64 x2] 61,.cells #[.int .i64 y1,.int .i64 y2] 61,.cells #[.int .i64 a,.int .i64 b] 3],?_⟩
 rw[HW1.out,HW0.out,Sort.alloc_eq_grow,Sort.alloc_eq_grow,Sort.alloc_eq_grow,Sort.grow_grow,Sort.grow_grow]
 rfl
end
end Go.Proofs.YtbnelaoeblhndaaGreatDoor
namespace Go.Proofs.YtbnelaoeblhndaaGreatDoor
open Go.RowKit
open Go.Sort (HoldsK flatK putRowK size_flatK get_flatK PermIn SortedIn)
set_option maxRecDepth 100000
def encH (x:Int×Int):List Value:=[.int .i64 x.1,.int .i64 x.2]
def hitsC (l:List (Int×Int)):List Value:=l.flatMap encH
theorem hitsC_snoc (l:List (Int×Int))(x:Int×Int):hitsC (l++[x])=hitsC l++[.int .i64 x.1,.int .i64 x.2]:=by unfold hitsC encH;rw[List.flatMap_append];simp
theorem hitsC_len (l:List (Int×Int)):(hitsC l).length=l.length*2:=by
 unfold hitsC encH
 induction l with
 |nil=>rfl
 |cons x r ih=>rw[List.flatMap_cons,List.length_append,ih,List.length_cons];simp;omega
def farK (th:Has)(p:List Int)(j:Nat):Int:=match th (j:Int) with|some t=>Doc.far t.1 p|none=>0
def rowK (th:Has)(p:List Int)(l:List Nat):List (Int×Int):=l.map fun(j:Nat)=>((j:Int),farK th p j)
def hitLt (x y:Int×Int):Bool:=ltOf Doc.hitC x y
def hitsK (th:Has)(p:List Int)(l:List Nat):List (Int×Int):=(rowK th p l).mergeSort (fun x y=> !hitLt y x)
theorem hitLt_is (x y:Int×Int):hitLt x y=decide (x.2<y.2∨(x.2=y.2∧x.1<y.1)):=by
 unfold hitLt ltOf Doc.hitC Doc.orI Doc.cmpI
 by_cases h1:x.2<y.2
 ·simp[h1]
 ·by_cases h2:x.2 > y.2
  ·have h3:¬x.2=y.2:=by omega
   simp[h1,h2,h3]
  ·have h3:x.2=y.2:=by omega
   by_cases h4:x.1<y.1
   ·simp[h3,h4]
   ·by_cases h5:x.1 > y.1
    ·simp[h3,h4,h5]
    ·simp[h3,h4,h5]
theorem hit_swo:Sort.SWO (ltOf Doc.hitC) where
 irrefl x:=by show hitLt x x=false;rw[hitLt_is];simp
 trans x y z h1 h2:=by
  change hitLt x y=true at h1
  change hitLt y z=true at h2
  show hitLt x z=true
  rw[hitLt_is] at *;simp at *;omega
 ntrans x y z h1 h2:=by
  change hitLt x y=false at h1
  change hitLt y z=false at h2
  show hitLt x z=false
  rw[hitLt_is] at *;simp at *;omega
theorem hit_one (x y:Int×Int)(h1:ltOf Doc.hitC x y=false)(h2:ltOf Doc.hitC y x=false):x=y:=by
 change hitLt x y=false at h1
 change hitLt y x=false at h2
 rw[hitLt_is] at h1 h2
 simp at h1 h2
 apply Prod.ext<;>omega
theorem flat_hits (l:List (Int×Int))(j:Nat)(hj:j<l.length*2):(hitsC l)[j]? =some (flatK encH 2 l.toArray)[j]!:=by
 rw[get_flatK _ _ _ _ (by simpa using hj)]
 have h1:j / 2<l.length:=by omega
 have h2:=flat_at encH 2 (fun _=>rfl) l (j / 2) h1 (j % 2) (Nat.mod_lt _ (by decide))
 rw[show j / 2*2+j % 2=j by omega] at h2
 unfold hitsC
 rw[h2,getElem!_pos l.toArray (j / 2) (by simpa using h1),List.getElem_toArray]
 have h3:j % 2=0∨j % 2=1:=by omega
 rcases h3 with e|e<;>rw[e]<;>rfl
theorem heap_putRow (w:World)(blk off:Nat)(d:Array (Int×Int))(k:Nat)(h:k≠blk):(putRowK encH 2 w blk off d).heap[k]? =w.heap[k]? :=by
 show(w.heap.modify blk _)[k]? =_
 rw[Array.getElem?_modify,if_neg (fun e=>h e.symm)]
theorem sorted_below {w:World}{B blk n:Nat}{d:Array (Int×Int)}{os:Array Obj}(hB:B≤blk)(hw:blk<w.heap.size):Below B w (sortWorldK encH 2 w blk 0 n d os):=by
 unfold sortWorldK
 refine⟨rfl,rfl,rfl,?_,fun k hk=>?_⟩
 ·rw[Sort.size_grow,Sort.size_putRowK]
  show w.heap.size≤w.heap.size+_
  omega
 ·rw[Sort.heap_grow_old _ _ (by rw[Sort.size_putRowK];show k<w.heap.size;omega),heap_putRow _ _ _ _ _ (by omega)]
  rfl
section
variable {w:World}
theorem len_zero:Calls Tryz.prog 116 #[.int .u64 0] w fun e w'=>e=.returned (.int .i64 0)∧w'=w:=by
 have h64:Calls Tryz.prog 156 #[.int .u64 0] w fun e w'=>e=.returned (.int .i64 0)∧w'=w:=by
  go_enter Tryz.func156,Tryz.ntmps156
  go_wp2_with fail
  go_ret
  exact⟨by show _=_;kernel_rfl,rfl⟩
 have HL:Hid _:=h64
 clear h64
 go_enter Tryz.func116,Tryz.ntmps116
 go_wp2_with fail
 refine Calls.mono HL.out ?_
 rintro e w1 ⟨rfl,rfl⟩
 go_wp2_with fail
 go_ret
 exact⟨rfl,rfl⟩
theorem ins_nil (f:Value):Calls Tryz.prog 147 #[.slice none 0 0,.int .i64 0,.int .i64 0,f] w fun e w'=>e=.returned (.tuple #[])∧w'=w:=by
 go_enter Tryz.func147,Tryz.ntmps147
 go_wp2_with fail
 go_loopw [8] (fun i wr=>i=.int .i64 1∧wr=w) (fun _ _=>0)
 case atStart=>exact⟨rfl,rfl⟩
 case round=>
  obtain⟨rfl,rfl⟩:=hrel
  go_wp2_with fail
  go_end0
  exact⟨rfl,rfl⟩
theorem pdq_nil (f:Value):Calls Tryz.prog 115 #[.slice none 0 0,.int .i64 0,.int .i64 0,.int .i64 0,f] w fun e w'=>e=.returned (.tuple #[])∧w'=w:=by
 have HI:Hid _:=@ins_nil w f
 go_enter Tryz.func115,Tryz.ntmps115
 go_wp2_with fail
 go_loopw [1,2,3,10,11] (fun i j l x y wr=>i=.int .i64 0∧j=.int .i64 0∧l=.int .i64 0∧x=.bool true∧y=.bool true∧wr=w) (fun _ _ _ _ _ _=>0)
 case atStart=>exact⟨rfl,rfl,rfl,rfl,rfl,rfl⟩
 case round=>
  obtain⟨rfl,rfl,rfl,rfl,rfl,rfl⟩:=hrel
  go_wp2_with fail
  refine Calls.mono HI.out ?_
  rintro e w1 ⟨rfl,rfl⟩
  go_wp2_with fail
  exact bodyPost_ret (v:=.tuple #[]) (by simp[results,Tryz.results115,go_sem]) rfl ⟨rfl,rfl⟩
theorem sort_nil:Calls Tryz.prog 73 #[.slice none 0 0,.func (.func 74) #[] #[]] w fun e w'=>e=.returned (.tuple #[])∧w'=w:=by
 have HP:Hid _:=@pdq_nil w (.func (.func 74) #[] #[])
 have HL:Hid _:=@len_zero w
 go_enter Tryz.func73,Tryz.ntmps73
 go_wp2_with fail
 refine Calls.mono HL.out ?_
 rintro e w1 ⟨rfl,rfl⟩
 go_wp2_with fail
 refine Calls.mono HP.out ?_
 rintro e w1 ⟨rfl,rfl⟩
 go_wp2_with fail
 go_end0
 exact⟨rfl,rfl⟩
theorem sort_row {B:Nat}{v:Value}(l:List (Int×Int))(hl:l.length<4611686018427387904)(h:w.ownsRow B 61 2 v l.length (hitsC l)):
  Calls Tryz.prog 73 #[v,.func (.func 74) #[] #[]] w fun e w'=>e=.returned (.tuple #[])∧w'.ownsRow B 61 2 v l.length (hitsC (l.mergeSort (fun x y=> !hitLt y x)))∧Below B w w':=by
 have hs:=rowSl h
 have h':=h
 obtain⟨_,h2⟩:=h
 rcases h2 with⟨rfl,h0⟩|⟨g,cap,cur,rfl,hg,hh,hn,hm,hz,ht⟩
 ·obtain rfl:=List.eq_nil_of_length_eq_zero h0
  refine sort_nil.mono ?_
  rintro e w' ⟨rfl,rfl⟩
  exact⟨rfl,by simpa using h',Below.refl _ _⟩
 ·have hblk:=lt_block hh
  have hH:HoldsK encH 2 w g 0 l.toArray:=fun j hj=>by
   rw[size_flatK] at hj
   have hj2:j<l.length*2:=by simpa using hj
   refine⟨?_,blk_free hh _⟩
   rcases hs.has with⟨h0,_⟩|⟨_,b,o,c,e,_,_,hr⟩
   ·omega
   ·cases e
    exact hr j _ (flat_hits l j hj2)
  have hcon:=AnyQ.slices_SortFunc Tryz.sortHit 2 Tryz.isAgg61 Tryz.sizeOf61 encH (fun _=>rfl) (fun x v hv=>by simp[encH] at hv;rcases hv with rfl|rfl<;>rfl) Doc.hitC hit_swo 74 #[] g 0 cap l.toArray w (enters_of Tryz.func74 (by kernel_rfl) rfl) (fun _ _ _ _ x y=>nearer_any x y) hH hblk (by simpa using hl)
  refine Calls.mono hcon ?_
  rintro e w' ⟨rfl,d',m,os,hp,hso,rfl⟩
  have hd:d'.toList=l.mergeSort (fun x y=> !hitLt y x):=Sort.sorted_unique_holds hit_swo hit_one l.toArray d' hp hso
  have hsz:d'.size=l.toArray.size:=hp.1
  have hK:=holdsK_sortWorldK encH 2 w g 0 m l.toArray d' os hblk hH hsz
  refine⟨rfl,?_,sorted_below hg hblk⟩
  rw[←hd]
  have hdl:d'.toList.length=l.length:=by simpa using hsz
  have hblk':(sortWorldK encH 2 w g 0 m d' os).heap[g]? =some (.cells (Sort.putCells id 0 (flatK encH 2 d') cur) 61 (0,0)):=by
   unfold sortWorldK
   rw[Sort.heap_grow_old _ _ (by rw[Sort.size_putRowK];exact hblk)]
   show(w.heap.modify g _)[g]? =_
   rw[Array.getElem?_modify,if_pos rfl,hh]
   rfl
  refine⟨by rw[hitsC_len,hdl],.inr ⟨g,cap,_,rfl,hg,hblk',hn,hm,by unfold Sort.putCells;rw[Array.size_mapIdx];exact hz,?_⟩⟩
  apply List.ext_getElem?
  intro j
  rw[List.getElem?_take]
  by_cases hj:j<l.length*2
  ·have h1:=(hK j (by rw[size_flatK];simpa[←hdl] using hj)).1
   rw[if_pos hj,Array.getElem?_toList,flat_hits d'.toList j (by omega)]
   unfold World.cell? at h1
   rw[hblk',Nat.zero_add] at h1
   exact h1
  ·rw[if_neg hj,List.getElem?_eq_none (by rw[hitsC_len,hdl];omega)]
end
end Go.Proofs.YtbnelaoeblhndaaGreatDoor
namespace Go.Proofs.YtbnelaoeblhndaaGreatDoor
open Go.RowKit
set_option maxRecDepth 100000
theorem Tryz.infoHitT:(Tryz.prog.info? 61).map (fun i=>(i.zero,i.size,i.bytes))=some (some (.agg #[.int .i64 0,.int .i64 0]),2,16):=by kernel_rfl
theorem rowK_len (th:Has)(p:List Int)(l:List Nat):(rowK th p l).length=l.length:=by simp[rowK]
theorem hitsK_len (th:Has)(p:List Int)(l:List Nat):(hitsK th p l).length=l.length:=by unfold hitsK;rw[List.length_mergeSort,rowK_len]
section
variable {w:World}{F:Nat→Prop}{sb:Nat}{fs:List Doc.Fld}{space:Int}{th:Has}{fv:Value}{hb mt mh:Nat}{pos:Int→Value×Value}
set_option maxHeartbeats 4000000 in
theorem hits_any (h:ProgAt w F sb fs space th fv hb mt mh pos)(hT:Tab64 w)(hG:0<w.heap.size)(ys:Bits)(hy:∀j,j<4096→memB ys j=true→∃t,th (j:Int)=some t)(p:List Int)(pv:Value)(hp:Sl w pv p.length (intC p))(hsp:Doc.spotB space p=true):
  Calls Tryz.prog 46 #[.pointer (some ⟨sb,0,none⟩),.agg (setC ys),pv] w fun e w'=>∃v,e=.returned v∧w'.ownsRow w.heap.size 61 2 v (nums ys).length (hitsC (hitsK th p (nums ys)))∧Below w.heap.size w w':=by
 obtain⟨i0,hi,hz0,hz1,hz2⟩:=info_parts Tryz.infoHitT
 obtain⟨C,hC⟩:∃C,C=setC ys:=⟨_,rfl⟩
 have HCI:Hid _:=setC_info ys
 have hb0:Below w.heap.size w (w.alloc (.cells C 107)):=(Below.refl _ _).alloc (Nat.le_refl _) _
 have HNM:Hid _:=nums_any ys (w.alloc (.cells C 107)) (hT.below hb0 hG) (by have:=hb0.size;omega)
 rw[←hC] at HCI HNM ⊢
 have H:Hid _:=h
 have HY:Hid _:=hy
 have HPP:Hid _:=hp
 have HSPB:Hid _:=hsp
 have hsl:=h.lt
 obtain⟨pa,pc,hpv⟩:=hp.slice
 subst hpv
 clear h hy hp hsp hT hC hb0
 go_enter Tryz.func46,Tryz.ntmps46
 go_wp2_with (refine wpList_load_row rfl 107 _ rfl w.heap.size rfl 107 C (0,0) _ (heap_alloc_new w _) Tryz.underlying107 rfl HCI.out ?_)
 refine Calls.mono HNM.out ?_
 rintro e w1 ⟨nv,rfl,hown,hb1⟩
 obtain⟨nb,nc,hnv⟩:=row_slice hown
 subst hnv
 have HNS:Hid _:=rowSl hown
 have HB1:Hid (Below w.heap.size w w1):=((Below.refl _ _).alloc (Nat.le_refl _) _).trans (hb1.mono (by simp))
 have HLW:Hid (∀W:World,Below w1.heap.size w1 W→ProgAt W F sb fs space th fv hb mt mh pos∧Sl W (.slice pa p.length pc) p.length (intC p)):=fun W hW=>
  have hB:=HB1.out.trans (hW.mono HB1.out.size)
  ⟨H.out.kept (fun k hk hl=>hB.block k hl) (fun k hk _=>hk),HPP.out.below hB⟩
 obtain⟨l,HL⟩:∃l,Hid (nums ys=l):=⟨_,rfl⟩
 have hll:l.length≤4096:=by rw[←HL.out];exact nums_short ys
 have HYL:Hid (∀j∈l,∃t,th (j:Int)=some t):=fun j hj=>by
  rw[←HL.out,mem_nums] at hj
  exact HY.out j hj.1 hj.2
 rw[HL.out] at HNS ⊢
 clear hown hb1
 go_wp2_with fail
 go_loopw [7,13] (fun v i wr=>∃k:Nat,k≤l.length∧i=.int .i64 k∧Below w1.heap.size w1 wr∧Hid (wr.ownsRow w1.heap.size 61 2 v k (hitsC (rowK th p (l.take k))))) (fun _ i _=>l.length-(intOf i).toNat)
 case atStart=>exact⟨0,Nat.zero_le _,rfl,Below.refl _ _,World.ownsRow_nil _ _ _ _⟩
 case round=>
  obtain⟨k,hk,rfl,hB,HO⟩:=hrel
  have hsz:=hB.size
  obtain⟨vb,vc,hvs⟩:=row_slice HO.out
  subst hvs
  by_cases hk2:k<l.length
  ·rcases HNS.out.has with⟨h0',_⟩|⟨_,ab,ao,ac,ev,hc2,hlt2,hr2⟩
   ·omega
   cases ev
   obtain⟨x,HX⟩:∃x,Hid (l[k]=x):=⟨l[k],rfl⟩
   have hx:l[k]? =some x:=by rw[List.getElem?_eq_getElem hk2,HX.out]
   have d0:wr.cell? ⟨ab,ao+k,none⟩=some (.int .i64 (x:Int)):=(hB.cell (p:=⟨ab,ao+k,none⟩) hlt2).trans (hr2 k _ (by unfold natC intC;rw[List.getElem?_map,List.getElem?_map,hx];rfl))
   obtain⟨t,ht⟩:=HYL.out x (List.mem_of_getElem? hx)
   obtain⟨f,HF⟩:∃f,Hid (farK th p x=f):=⟨_,rfl⟩
   have HFA:Hid (Calls Tryz.prog 72 #[.pointer (some ⟨hb,0,none⟩),.int .i64 (x:Int),.slice pa p.length pc] wr fun e w'=>e=.returned (.int .i64 f)∧Below wr.heap.size wr w'):=by
    obtain⟨hA,hS⟩:=HLW.out wr hB
    obtain⟨ft1,_,_⟩:=hA.fits (x:Int) t ht
    have hsp2:=HSPB.out
    have e1:p.length=t.1.length:=by
     unfold Doc.spotB at ft1 hsp2
     simp only[Bool.and_eq_true,beq_iff_eq] at ft1 hsp2
     omega
    have h3:=sfar_any hA.shf (x:Int) t ht p (.slice pa p.length pc) (by rw[←e1];exact hS) e1 (Doc.spot_near ft1) (Doc.spot_near hsp2)
    have e2:Doc.far t.1 p=f:=by rw[←HF.out];unfold farK;rw[ht]
    rw[e2] at h3
    exact h3
   have HTK:Hid (rowK th p (l.take (k+1))=rowK th p (l.take k)++[((x:Int),f)]):=by
    show _=_
    rw[List.take_add_one,hx,Option.toList_some]
    unfold rowK
    rw[List.map_append,←HF.out]
    rfl
   obtain⟨cc0,cc1,cc2⟩:=(HLW.out wr hB).1.cells
   have HB:Hid _:=hB
   clear hr2 hx hB ht
   go_wp2_with fail
   refine Calls.mono HFA.out ?_
   rintro e w2 ⟨rfl,hb2⟩
   have HB2:Hid (Below w1.heap.size w1 w2):=HB.out.trans (hb2.mono HB.out.size)
   have HO2:Hid (w2.ownsRow w1.heap.size 61 2 (.slice vb k vc) k (hitsC (rowK th p (l.take k)))):=row_below HO.out hb2
   have hsz2:=hb2.size
   clear hb2
   go_wp2_with (at_builtin;refine wpList_append_own _ rfl (.tmp 17) (.tmp 27) 57 rfl w1.heap.size 61 i0 _ 2 16 Tryz.underlying57 hi hz0 hz1 hz2 rfl (by decide) _ _ _ rfl (HO2.out.alloc _) ⟨w2.heap.size,0,none⟩ 1 1 [.int .i64 (x:Int),.int .i64 f] rfl rfl ?c1 ?c2 ?c3 ?c4 ?c5 ?_)
   case c1=>exact cells_new_at _ [.int .i64 (x:Int),.int .i64 f] _ _ (by simp)
   case c2=>intro u hu;simp only[List.mem_cons,List.not_mem_nil,or_false] at hu;rcases hu with rfl|rfl<;>rfl
   case c3=>unfold maxLen;omega
   case c4=>omega
   case c5=>simp;omega
   intro v3 w3 hown3 hgrow3 _
   obtain⟨g3,cap3,rfl⟩:=own_slice hown3
   have HB3:Hid (Below w1.heap.size w1 w3):=(HB2.out.alloc HB2.out.size _).grown hgrow3 (by have:=HB2.out.size;simp;omega) (fun j ej=>own_ge HO2.out ej)
   have HO3:Hid (w3.ownsRow w1.heap.size 61 2 (.slice (some ⟨g3,0,none⟩) (k+1) cap3) (k+1) (hitsC (rowK th p (l.take (k+1))))):=by
    show World.ownsRow _ _ _ _ _ _ _
    rw[HTK.out,hitsC_snoc]
    exact hown3
   clear hown3 hgrow3
   go_wp2_with fail
   go_roundw
   case rel=>exact⟨k+1,by omega,by go_num,HB3.out,HO3⟩
   case measure=>simp[intOf];omega
  ·obtain rfl:k=l.length:=by omega
   rw[List.take_length] at HO
   have HSR:Hid _:=sort_row (w:=wr) (B:=w1.heap.size) (v:=.slice vb l.length vc) (rowK th p l) (by rw[rowK_len];omega) (by rw[rowK_len];exact HO.out)
   have HB:Hid _:=hB
   clear hB
   go_wp2_with fail
   refine Calls.mono HSR.out ?_
   rintro e w5 ⟨rfl,hs5,hb5⟩
   rw[rowK_len] at hs5
   have HS5:Hid _:=hs5
   have HB5:Hid (Below w.heap.size w w5):=HB1.out.trans ((HB.out.trans hb5).mono HB1.out.size)
   clear hs5 hb5
   go_wp2_with fail
   go_ret
   refine⟨_,rfl,?_,HB5.out⟩
   rw[HL.out]
   exact own_less HS5.out HB1.out.size
theorem own_cut {w:World}{B e size:Nat}{a:Option Addr}{n m c:Nat}{cs:List Value}(h:w.ownsRow B e size (.slice a n c) n cs)(hm:m≤n):w.ownsRow B e size (.slice a m c) m (cs.take (m*size)):=by
 obtain⟨h1,h2⟩:=h
 refine⟨by rw[List.length_take,h1];exact Nat.min_eq_left (Nat.mul_le_mul_right _ hm),?_⟩
 rcases h2 with⟨e1,rfl⟩|⟨g,cap,cur,e1,hg,hh,hn,hx,hz,ht⟩
 ·cases e1
  obtain rfl:m=0:=by omega
  exact .inl ⟨rfl,rfl⟩
 ·cases e1
  exact .inr ⟨g,c,cur,rfl,hg,hh,by omega,hx,hz,by rw[←ht,List.take_take,Nat.min_eq_left (Nat.mul_le_mul_right _ hm)]⟩
theorem hitsC_take (l:List (Int×Int))(m:Nat):(hitsC l).take (m*2)=hitsC (l.take m):=by
 induction l generalizing m with
 |nil=>simp[hitsC]
 |cons x l ih=>
  cases m with
  |zero=>simp[hitsC]
  |succ m=>
   have:=ih m
   simp only[hitsC,List.flatMap_cons,List.take_succ_cons] at this ⊢
   rw[show(m+1)*2=m*2+1+1 by omega]
   simp[encH,this]
theorem Sl.cut {w:World}{a:Option Addr}{n m c:Nat}{cs:List Value}(h:Sl w (.slice a n c) n cs)(hm:m≤n):Sl w (.slice a m c) m cs:=by
 by_cases h0:m=0
 ·subst h0;exact⟨.inl ⟨rfl,_,_,rfl⟩⟩
 ·rcases h.has with⟨h1,_⟩|⟨h1,b,o,c',e,h2,h3,h4⟩
  ·omega
  ·cases e
   exact⟨.inr ⟨by omega,b,o,c,rfl,by omega,h3,h4⟩⟩
set_option maxHeartbeats 4000000 in
theorem nearest_row (h:ProgAt w F sb fs space th fv hb mt mh pos)(hsg:Signs w)(hg0:1<w.heap.size)(hT:Tab64 w)(hG:0<w.heap.size)(s:ByteArray)(hs:s.size≤200)(a:Doc.Ast)(j:Nat)(hp:Doc.parse (Doc.toks s 0)=.ok a j)(hev:Doc.Every Doc.TestOk a)(hc:Doc.check fs a=(0,0))
  (p:List Int) (pv:Value) (hpv:Sl w pv p.length (intC p)) (hsp:Doc.spotB space p=true) (hpl:p.length≤9223372036854775807) (most:Nat) (hm:most≤9223372036854775807):
  Calls Tryz.prog 31 #[.pointer (some ⟨sb,0,none⟩),.string s,pv,.int .i64 (most:Int)] w fun e w'=>∃v ys,e=.returned (.tuple #[v,.int .i64 0,.int .i64 0])∧(∀j,j<4096→memB ys j=saysY fs th a j)∧Sl w' v (min most (nums ys).length) (hitsC (hitsK th p (nums ys)))∧Below w.heap.size w w'∧w'.ownsRow w.heap.size 61 2 v (min most (nums ys).length) (hitsC ((hitsK th p (nums ys)).take (min most (nums ys).length))):=by
 obtain⟨Z,hz,HZ⟩:∃Z,(∀w,(zeroValue 107).run Tryz.prog w=.ok (.agg Z) w)∧Hid (Z=setC zeroB):=⟨_,zero_set,rfl⟩
 have HFD:Hid _:=find_ok h hsg hg0 s hs a j hp hev hc
 have HIS:Hid _:=isSpot_any (w:=w) space p hpl pv hpv
 rw[hsp] at HIS
 have HT:Hid (Tab64 w):=hT
 have H:Hid _:=h
 have HPV:Hid _:=hpv
 have HSPB:Hid _:=hsp
 obtain⟨c0,c1,c2⟩:=h.cells
 have hlt:=h.lt
 have hm0:decide ((most:Int)<0)=false:=decide_eq_false (by omega)
 obtain⟨pa,pc,hpe⟩:=hpv.slice
 subst hpe
 clear h hsg hp hev hc hT hpv hsp
 go_enter Tryz.func31,Tryz.ntmps31
 go_wp2_with fail
 refine Calls.mono HIS.out ?_
 rintro e w0 ⟨rfl,hw0⟩
 rw[hw0]
 clear hw0 w0
 go_wp2_with fail
 refine Calls.mono HFD.out ?_
 rintro e w1 ⟨ys,rfl,hys,hb1⟩
 have HYS:Hid _:=hys
 obtain⟨Y,HYC⟩:∃Y,Hid (setC ys=Y):=⟨_,rfl⟩
 rw[HYC.out]
 have HYI:Hid ((Tryz.prog.info? 107).map (·.size)=some Y.size):=by rw[←HYC.out];exact setC_info _
 have HY1:Hid (Y.all (·.oneCell')=true):=by rw[←HYC.out];exact setC_one _
 have HYZ:Hid (Z.size=Y.size):=by rw[←HYC.out,HZ.out];show _=_;rw[setC_size,setC_size]
 obtain⟨W2,HW2⟩:∃W2,Hid (W2=(w1.alloc (.cells Z 107)).setRow w1.heap.size Y):=⟨_,rfl⟩
 have hb2:Below w1.heap.size w1 W2:=by rw[HW2.out];exact Below.setRow ((Below.refl _ _).alloc (Nat.le_refl _) _) (Nat.le_refl _) _
 have hbw:Below w.heap.size w W2:=hb1.trans (hb2.mono hb1.size)
 have HG2:Hid (W2.heap[w1.heap.size]? =some (.cells Y 107 (0,0))):=by rw[HW2.out];exact setRow_heap _ _ Z _ _ _ (heap_alloc_new w1 _)
 have HHT:Hid _:=hits_any (H.out.kept (w':=W2) (fun k hk hl=>hbw.block k hl) (fun k hk _=>hk)) (HT.out.below hbw hG) (Nat.lt_of_lt_of_le hG hbw.size) ys (fun j hj hm=>by
  rw[hys j hj] at hm
  unfold saysY at hm
  cases e:th (j:Int) with
  |none=>rw[e] at hm;cases hm
  |some t=>exact⟨t,rfl⟩) p (.slice pa p.length pc) (HPV.out.below hbw) HSPB.out
 rw[HYC.out] at HHT
 have HBW:Hid _:=hbw
 clear hys hb1 hb2 hbw
 go_wp2_with (first|(refine wpList_store_row rfl 107 _ _ rfl w1.heap.size rfl Y rfl 107 Z (heap_alloc_new w1 _) HYI.out HYZ.out HY1.out ?_;rw[←HW2.out])|(refine wpList_load_row rfl 107 _ rfl w1.heap.size rfl 107 Y (0,0) _ HG2.out Tryz.underlying107 rfl HYI.out ?_))
 refine Calls.mono HHT.out ?_
 rintro e w3 ⟨v,rfl,hs3,hb3⟩
 obtain⟨va,vc,hvv⟩:=row_slice hs3
 subst hvv
 have HR3:Hid _:=own_less hs3 HBW.out.size
 have HS3:Hid _:=rowSl hs3
 have HB3:Hid (Below w.heap.size w w3):=HBW.out.trans (hb3.mono HBW.out.size)
 have hns:=nums_short ys
 clear hb3
 obtain⟨n,HN⟩:∃n,Hid ((nums ys).length=n):=⟨_,rfl⟩
 have HS4:Hid (Sl w3 (.slice va n vc) n (hitsC (hitsK th p (nums ys)))):=by
  rw[←HN.out]
  exact HS3.out
 rw[HN.out] at hns ⊢
 have e1:(min (most:Int) (n:Int)).toNat=min most n:=by omega
 have HFIN:Hid (∃v' ys',(.tuple #[.slice va (min most n) vc,.int .i64 0,.int .i64 0]:Value)=.tuple #[v',.int .i64 0,.int .i64 0]∧(∀j,j<4096→memB ys' j=saysY fs th a j)∧Sl w3 v' (min most (nums ys').length) (hitsC (hitsK th p (nums ys')))∧Below w.heap.size w w3∧w3.ownsRow w.heap.size 61 2 v' (min most (nums ys').length) (hitsC ((hitsK th p (nums ys')).take (min most (nums ys').length)))):=
  ⟨_,ys,rfl,HYS.out,by rw[HN.out];exact HS4.out.cut (Nat.min_le_right _ _),HB3.out,by rw[←hitsC_take,HN.out];have:=HR3.out;rw[HN.out] at this;exact own_cut this (Nat.min_le_right _ _)⟩
 rcases HS4.out.has with⟨h0,va',vc',ev⟩|⟨h0,b,o,c,ev,hcc,_,_⟩
 ·subst h0
  have e2:min (most:Int) 0=0:=by omega
  have e3:min most 0=0:=by omega
  rw[e3] at HFIN
  clear hs3
  cases va
  ·go_wp2_with fail
   go_ret3
   obtain⟨v',ys',e4,r⟩:=HFIN.out
   exact⟨v',ys',by rw[←e4];rfl,r⟩
  ·go_wp2_with fail
   go_ret3
   obtain⟨v',ys',e4,r⟩:=HFIN.out
   exact⟨v',ys',by rw[←e4];rfl,r⟩
 ·cases ev
  clear hs3
  go_wp2_with fail
  go_ret3
  obtain⟨v',ys',e4,r⟩:=HFIN.out
  refine⟨v',ys',?_,r⟩
  rw[←e4,←e1]
  rfl
end
theorem hitsK_perm (th:Has)(p:List Int)(l:List Nat):(hitsK th p l).Perm (rowK th p l):=List.mergeSort_perm _ _
theorem hit_mem {th:Has}{p:List Int}{l:List Nat}{x:Int×Int}(h:x∈hitsK th p l):∃j∈l,x=((j:Int),farK th p j):=by
 have h1:=(hitsK_perm th p l).mem_iff.1 h
 unfold rowK at h1
 obtain⟨j,hj,e⟩:=List.mem_map.1 h1
 exact⟨j,hj,e.symm⟩
theorem mem_hit {th:Has}{p:List Int}{l:List Nat}{j:Nat}(h:j∈l):((j:Int),farK th p j)∈hitsK th p l:=
 (hitsK_perm th p l).mem_iff.2 (List.mem_map.2 ⟨j,h,rfl⟩)
def hitBefore (x y:Int×Int):Prop:=x.2<y.2∨(x.2=y.2∧x.1<y.1)
theorem hits_sorted (th:Has)(p:List Int){l:List Nat}(hl:l.Nodup):(hitsK th p l).Pairwise hitBefore:=by
 have h1:(hitsK th p l).Pairwise (fun x y=>(!hitLt y x)=true):=by
  refine List.pairwise_mergeSort ?_ ?_ _
  ·intro a b c h1 h2
   simp only[hitLt_is,Bool.not_eq_true',decide_eq_false_iff_not] at *
   omega
  ·intro a b
   simp only[hitLt_is,Bool.or_eq_true,Bool.not_eq_true',decide_eq_false_iff_not]
   omega
 have h2:(hitsK th p l).Nodup:=by
  refine(hitsK_perm th p l).nodup_iff.2 ?_
  unfold rowK
  exact List.Pairwise.map _ (fun a b hab e=>hab (by have h5:(a:Int)=(b:Int):=congrArg Prod.fst e;omega)) hl
 refine(List.pairwise_and_iff.2 ⟨h1,h2⟩).imp ?_
 rintro a b ⟨h3,h4⟩
 rw[hitLt_is] at h3
 simp only[Bool.not_eq_true',decide_eq_false_iff_not] at h3
 unfold hitBefore
 by_cases e:a.1=b.1∧a.2=b.2
 ·exact absurd (Prod.ext e.1 e.2) h4
 ·omega
theorem hits_at (th:Has)(p:List Int){l:List Nat}(hl:l.Nodup){i j:Nat}{x y:Int×Int}(hx:(hitsK th p l)[i]? =some x)(hy:(hitsK th p l)[j]? =some y)(hij:i<j):hitBefore x y:=by
 obtain⟨h1,rfl⟩:=List.getElem?_eq_some_iff.1 hx
 obtain⟨h2,rfl⟩:=List.getElem?_eq_some_iff.1 hy
 exact List.pairwise_iff_getElem.1 (hits_sorted th p hl) i j h1 h2 hij
theorem sq_nonneg (d:Int):0≤d*d:=by
 rcases Int.le_total 0 d with h|h
 ·exact Int.mul_nonneg h h
 ·rw[←Int.neg_mul_neg];exact Int.mul_nonneg (by omega) (by omega)
theorem farTo_nonneg (s p:List Int):∀k,0≤Doc.farTo s p k
 |0=>Int.le_refl _
 |k+1=>by
  have h1:=farTo_nonneg s p k
  have h2:=sq_nonneg ((s[k]?).getD 0-(p[k]?).getD 0)
  simp only[Doc.farTo]
  omega
theorem farK_nonneg (th:Has)(p:List Int)(j:Nat):0≤farK th p j:=by
 unfold farK
 split
 ·exact farTo_nonneg _ _ _
 ·exact Int.le_refl _
end Go.Proofs.YtbnelaoeblhndaaGreatDoor
