import Derived.Test.YtbnelaoeblhndaaGreatDoorThN1
import Derived.Deep.WholeRow
import Derived.ChangeKeysEq
import Derived.Laws.Bits64
import Derived.Maps.OwnSet
import Derived.Maps.Range
import Derived.DeepKeys4
import Derived.Deep.RegionHeld3
namespace Go.Proofs.YtbnelaoeblhndaaGreatDoor
open Go.RowKit
set_option maxRecDepth 100000
abbrev Bits:=Nat→BitVec 64
def setC (ws:Bits):Array Value:=Array.ofFn (n:=64) fun i=>.int .u64 ((ws i.val).toNat:Int)
def memB (ws:Bits)(id:Nat):Bool:=(ws (id / 64)).getLsbD (id % 64)
def bitB (id:Nat):BitVec 64:=1#64 <<< (id % 64)
def withB (ws:Bits)(id:Nat):Bits:=fun j=>if j=id / 64 then ws j ||| bitB id else ws j
def withoutB (ws:Bits)(id:Nat):Bits:=fun j=>if j=id / 64 then ws j &&& ~~~bitB id else ws j
theorem setC_size (ws:Bits):(setC ws).size=64:=by simp[setC]
theorem setC_get (ws:Bits){i:Nat}(h:i<64):(setC ws)[i]? =some (.int .u64 ((ws i).toNat:Int)):=by
 simp[setC,h]
theorem setC_one (ws:Bits):(setC ws).all (·.oneCell')=true:=by
 rw[Array.all_eq_true]
 intro i h
 have h':i<64:=by simpa[setC] using h
 have:=setC_get ws h'
 rw[Array.getElem?_eq_getElem h] at this
 rw[Option.some.inj this];rfl
theorem setC_set (ws:Bits){i:Nat}(h:i<64)(b:BitVec 64):(setC ws).setIfInBounds i (.int .u64 (b.toNat:Int))=setC (fun j=>if j=i then b else ws j):=by
 apply Array.ext_getElem?
 intro j
 rw[Array.getElem?_setIfInBounds]
 by_cases hj:j<64
 ·rw[setC_get _ hj,setC_get _ hj]
  by_cases e:i=j
  ·subst e;simp[setC_size,h]
  ·simp[e,Ne.symm e]
 ·have h1:(setC ws)[j]? =none:=by rw[Array.getElem?_eq_none_iff,setC_size];omega
  have h2:(setC (fun j=>if j=i then b else ws j))[j]? =none:=by rw[Array.getElem?_eq_none_iff,setC_size];omega
  rw[h1,h2,if_neg (by omega)]
theorem getLsb_bitB (id j:Nat):(bitB id).getLsbD (j % 64)=decide (j % 64=id % 64):=by
 have h1:j % 64<64:=Nat.mod_lt _ (by decide)
 unfold bitB
 rw[BitVec.getLsbD_shiftLeft,BitVec.getLsbD_one]
 by_cases e:j % 64=id % 64
 ·simp[e,Nat.mod_lt]
 ·by_cases h2:j % 64<id % 64
  ·simp[h2,e]
  ·simp[e];omega
theorem memB_with (ws:Bits)(id j:Nat):memB (withB ws id) j=(decide (j=id) || memB ws j):=by
 unfold memB withB
 by_cases e:j / 64=id / 64
 ·rw[if_pos e,BitVec.getLsbD_or,getLsb_bitB,Bool.or_comm]
  congr 1
  rw[decide_eq_decide]
  omega
 ·rw[if_neg e,show decide (j=id)=false by simp;rintro rfl;exact e rfl];simp
theorem memB_without (ws:Bits)(id j:Nat):memB (withoutB ws id) j=(!decide (j=id) && memB ws j):=by
 have h1:j % 64<64:=Nat.mod_lt _ (by decide)
 unfold memB withoutB
 by_cases e:j / 64=id / 64
 ·rw[if_pos e,BitVec.getLsbD_and,BitVec.getLsbD_not,getLsb_bitB,Bool.and_comm]
  congr 1
  simp only[h1,decide_true,Bool.true_and]
  congr 1
  rw[decide_eq_decide]
  omega
 ·rw[if_neg e,show decide (j=id)=false by simp;rintro rfl;exact e rfl];simp
theorem setC_ext {ws vs:Bits}(h:∀j,j<4096→memB ws j=memB vs j):setC ws=setC vs:=by
 apply Array.ext_getElem?
 intro i
 by_cases hi:i<64
 ·rw[setC_get _ hi,setC_get _ hi]
  have:ws i=vs i:=by
   apply BitVec.eq_of_getLsbD_eq
   intro k hk
   have:=h (i*64+k) (by omega)
   unfold memB at this
   rw[show(i*64+k) / 64=i by omega,show(i*64+k) % 64=k by omega] at this
   exact this
  rw[this]
 ·rw[Array.getElem?_eq_none_iff.2 (by rw[setC_size];omega),Array.getElem?_eq_none_iff.2 (by rw[setC_size];omega)]
def zeroB:Bits:=fun _=>0#64
theorem memB_zero (j:Nat):memB zeroB j=false:=by simp[memB,zeroB]
theorem Tryz.infoSet:(Tryz.prog.info? 107).map (fun i=>(i.zero,i.size))=some (some (.agg (setC zeroB)),64):=by kernel_rfl
theorem Tryz.infoU64:(Tryz.prog.info? 105).map (fun i=>i.size)=some 1:=by kernel_rfl
theorem wrap_bit (id:Nat):IntKind.u64.wrap (2 ^ (id % 64))=((bitB id).toNat:Int):=by
 have h1:id % 64<64:=Nat.mod_lt _ (by decide)
 have h2:(bitB id).toNat=2 ^ (id % 64):=by
  unfold bitB
  rw[BitVec.toNat_shiftLeft,Nat.shiftLeft_eq]
  show 1*2 ^ (id % 64) % 2 ^ 64=_
  rw[Nat.one_mul]
  exact Nat.mod_eq_of_lt (Nat.pow_lt_pow_right (by decide) h1)
 have h3:(2:Int) ^ (id % 64)=((2 ^ (id % 64):Nat):Int):=by simp
 rw[h2,h3]
 have:2 ^ (id % 64)<2 ^ 64:=Nat.pow_lt_pow_right (by decide) h1
 simp[IntKind.wrap,IntKind.bits,IntKind.signed]
 omega
theorem bit_any (id:Nat)(w:World):
  Calls Tryz.prog 111 #[.int .i64 id] w fun e w'=>e=.returned (.int .u64 ((bitB id).toNat:Int))∧w'=w:=by
 go_enter Tryz.func111,Tryz.ntmps111
 go_wp2_with fail
 go_ret
 exact⟨by rw[wrap_bit];rfl,rfl⟩
theorem wpList_store_row {P:Program}{ops:Array Oper}{rest:List Oper}{op:Oper}{a:Act}{w:World}{Q:Exit→Act→World→Prop}(hgd:op.guard=none)(ty:TypeId)(x y:Operand)(ho:op.op=.store ty x y)
  (g:Nat) (hx:a.eval x=.pointer (some ⟨g,0,none⟩)) (cs:Array Value) (hy:a.eval y=.agg cs) (t:TypeId) (cur:Array Value) (hg:w.heap[g]? =some (.cells cur t (0,0)))
  (hi:(P.info? ty).map (·.size)=some cs.size) (hl:cur.size=cs.size) (h1:cs.all (·.oneCell')=true)
  (h:wpList P ops Q rest (a.put op.dst undef) (w.setRow g cs)):wpList P ops Q (op::rest) a w:=
 wpList_plain hgd fun _ hK=>wp_store_row ty x y ho g cs hx hy t cur hg hi hl h1 (hK _ _ h)
theorem Below.setRow {B:Nat}{a w:World}(h:Below B a w){g:Nat}(hg:B≤g)(cs:Array Value):Below B a (w.setRow g cs):=
 h.trans ⟨rfl,rfl,rfl,by simp,fun k hk=>setRow_other _ _ _ _ (by omega)⟩
theorem bits_bv (op:BinOp)(f:BitVec 64→BitVec 64→BitVec 64)(hf:∀a b:Int,bits op .u64 a b=IntKind.u64.wrap ((f (BitVec.ofInt 64 a) (BitVec.ofInt 64 b)).toNat:Int))(a b:BitVec 64):
  bits op .u64 (a.toNat:Int) (b.toNat:Int)=((f a b).toNat:Int):=by
 have h:∀a:BitVec 64,BitVec.ofInt 64 (a.toNat:Int)=a:=fun a=>by rw[BitVec.ofInt_natCast];simp
 rw[hf,h,h,IntKind.wrap_u64]
 have:=(f a b).isLt
 omega
theorem bits_or_bv (a b:BitVec 64):bits .or .u64 (a.toNat:Int) (b.toNat:Int)=((a ||| b).toNat:Int):=bits_bv .or (· ||| ·) (fun _ _=>rfl) a b
theorem bits_and_bv (a b:BitVec 64):bits .and .u64 (a.toNat:Int) (b.toNat:Int)=((a &&& b).toNat:Int):=bits_bv .and (· &&& ·) (fun _ _=>rfl) a b
theorem bits_andNot_bv (a b:BitVec 64):bits .andNot .u64 (a.toNat:Int) (b.toNat:Int)=((a &&& ~~~b).toNat:Int):=bits_bv .andNot (fun a b=>a &&& ~~~b) (fun _ _=>rfl) a b
theorem setC_info (ws:Bits):(Tryz.prog.info? 107).map (·.size)=some (setC ws).size:=by rw[setC_size];exact(zero_of_info Tryz.infoSet).2
theorem zero_set:∀w,(zeroValue 107).run Tryz.prog w=.ok (.agg (setC zeroB)) w:=(zero_of_info Tryz.infoSet).1
set_option maxHeartbeats 1000000 in
theorem with_any (ws:Bits)(id:Nat)(h:id<4096)(w:World):
  Calls Tryz.prog 69 #[.agg (setC ws),.int .i64 id] w fun e w'=>e=.returned (.agg (setC (withB ws id)))∧Below w.heap.size w w':=by
 obtain⟨Z,hz,HZ⟩:∃Z,(∀w,(zeroValue 107).run Tryz.prog w=.ok (.agg Z) w)∧Hid (Z=setC zeroB):=⟨_,zero_set,rfl⟩
 have hq:(id:Int) / 64=((id / 64:Nat):Int):=by omega
 obtain⟨k,hk⟩:∃k,k=id / 64:=⟨_,rfl⟩
 have hi:k<64:=by omega
 have hi0:(0:Int)≤(k:Int):=by omega
 have hi1:(k:Int)<64:=by omega
 rw[←hk] at hq
 obtain⟨C,hC⟩:∃C,C=setC ws:=⟨_,rfl⟩
 obtain⟨R,hR⟩:∃R,R=setC (withB ws id):=⟨_,rfl⟩
 have hC1:C[k]? =some (.int .u64 ((ws k).toNat:Int)):=by rw[hC];exact setC_get ws hi
 rw[←hC,←hR]
 obtain⟨x,hx⟩:∃x,x=((ws k).toNat:Int):=⟨_,rfl⟩
 rw[←hx] at hC1
 have c0:((w.alloc (.cells C 107)).alloc (.cells Z 107)).cell? ⟨w.heap.size,k,none⟩=some (.int .u64 x):=by
  rw[cell_of_row _ _ k C _ _ (heap_alloc2_old w _ _)];exact hC1
 have hwk:IntKind.i64.wrap (k:Int)=(k:Int):=by rw[IntKind.wrap_i64];omega
 obtain⟨y,hy⟩:∃y,y=((bitB id).toNat:Int):=⟨_,rfl⟩
 have HB:Hid (∀w:World,Calls Tryz.prog 111 #[.int .i64 id] w fun e w'=>e=.returned (.int .u64 y)∧w'=w):=by rw[hy];exact bit_any id
 have HV:Hid (C.setIfInBounds k (.int .u64 (bits .or .u64 x y))=R):=by
  show _=_
  rw[hC,hR,hx,hy,bits_or_bv,setC_set ws hi]
  congr 1
  funext j
  unfold withB
  rw[←hk]
  by_cases e:j=k
  ·subst e;simp
  ·simp[e]
 have HRI:Hid _:=setC_info (withB ws id)
 have HZS:Hid (Z.size=R.size):=by show _=_;rw[HZ.out,hR,setC_size,setC_size]
 have HR1:Hid _:=setC_one (withB ws id)
 rw[←hR] at HRI HR1
 clear hx hy hC hR hk HZ
 go_enter Tryz.func69,Tryz.ntmps69
 go_wp2_with fail
 first|go_region_with (go_at_call 111;refine(HB.out _).mono ?_;rintro r w2 ⟨rfl,rfl⟩)|fail "stands"
 all_goals
  rw[HV.out]
  go_wp2_with (first|(refine wpList_load_row rfl 107 _ rfl w.heap.size rfl 107 R (0,0) _ ?g1 Tryz.underlying107 rfl ?g2 ?_)|(refine wpList_store_row rfl 107 _ _ rfl (w.heap.size+1) rfl R rfl 107 Z ?g3 ?g4 ?g5 ?g6 ?_))
  case g1=>exact heap_alloc2_old w _ _
  case g2=>exact HRI.out
  case g3=>exact heap_alloc2_new w _ _
  case g4=>exact HRI.out
  case g5=>exact HZS.out
  case g6=>exact HR1.out
  refine bodyPost_ret (v:=.agg R) (results_cell_row rfl _ _ (w.heap.size+1) 107 R (0,0) _ rfl ?_ Tryz.underlying107 rfl HRI.out) rfl ⟨rfl,?_⟩
  ·exact setRow_heap _ _ Z _ _ _ (heap_alloc2_new w _ _)
  ·exact Below.setRow ((((Below.refl _ _).alloc (Nat.le_refl _) _).alloc (by simp) _).drew) (by omega) _
set_option maxHeartbeats 1000000 in
theorem without_any (ws:Bits)(id:Nat)(h:id<4096)(w:World):
  Calls Tryz.prog 108 #[.agg (setC ws),.int .i64 id] w fun e w'=>e=.returned (.agg (setC (withoutB ws id)))∧Below w.heap.size w w':=by
 obtain⟨Z,hz,HZ⟩:∃Z,(∀w,(zeroValue 107).run Tryz.prog w=.ok (.agg Z) w)∧Hid (Z=setC zeroB):=⟨_,zero_set,rfl⟩
 have hq:(id:Int) / 64=((id / 64:Nat):Int):=by omega
 obtain⟨k,hk⟩:∃k,k=id / 64:=⟨_,rfl⟩
 have hi:k<64:=by omega
 have hi0:(0:Int)≤(k:Int):=by omega
 have hi1:(k:Int)<64:=by omega
 rw[←hk] at hq
 obtain⟨C,hC⟩:∃C,C=setC ws:=⟨_,rfl⟩
 obtain⟨R,hR⟩:∃R,R=setC (withoutB ws id):=⟨_,rfl⟩
 have hC1:C[k]? =some (.int .u64 ((ws k).toNat:Int)):=by rw[hC];exact setC_get ws hi
 rw[←hC,←hR]
 obtain⟨x,hx⟩:∃x,x=((ws k).toNat:Int):=⟨_,rfl⟩
 rw[←hx] at hC1
 have c0:((w.alloc (.cells C 107)).alloc (.cells Z 107)).cell? ⟨w.heap.size,k,none⟩=some (.int .u64 x):=by
  rw[cell_of_row _ _ k C _ _ (heap_alloc2_old w _ _)];exact hC1
 have hwk:IntKind.i64.wrap (k:Int)=(k:Int):=by rw[IntKind.wrap_i64];omega
 obtain⟨y,hy⟩:∃y,y=((bitB id).toNat:Int):=⟨_,rfl⟩
 have HB:Hid (∀w:World,Calls Tryz.prog 111 #[.int .i64 id] w fun e w'=>e=.returned (.int .u64 y)∧w'=w):=by rw[hy];exact bit_any id
 have HV:Hid (C.setIfInBounds k (.int .u64 (bits .andNot .u64 x y))=R):=by
  show _=_
  rw[hC,hR,hx,hy,bits_andNot_bv,setC_set ws hi]
  congr 1
  funext j
  unfold withoutB
  rw[←hk]
  by_cases e:j=k
  ·subst e;simp
  ·simp[e]
 have HRI:Hid _:=setC_info (withoutB ws id)
 have HZS:Hid (Z.size=R.size):=by show _=_;rw[HZ.out,hR,setC_size,setC_size]
 have HR1:Hid _:=setC_one (withoutB ws id)
 rw[←hR] at HRI HR1
 clear hx hy hC hR hk HZ
 go_enter Tryz.func108,Tryz.ntmps108
 go_wp2_with fail
 first|go_region_with (go_at_call 111;refine(HB.out _).mono ?_;rintro r w2 ⟨rfl,rfl⟩)|fail "stands"
 all_goals
  rw[HV.out]
  go_wp2_with (first|(refine wpList_load_row rfl 107 _ rfl w.heap.size rfl 107 R (0,0) _ ?g1 Tryz.underlying107 rfl ?g2 ?_)|(refine wpList_store_row rfl 107 _ _ rfl (w.heap.size+1) rfl R rfl 107 Z ?g3 ?g4 ?g5 ?g6 ?_))
  case g1=>exact heap_alloc2_old w _ _
  case g2=>exact HRI.out
  case g3=>exact heap_alloc2_new w _ _
  case g4=>exact HRI.out
  case g5=>exact HZS.out
  case g6=>exact HR1.out
  refine bodyPost_ret (v:=.agg R) (results_cell_row rfl _ _ (w.heap.size+1) 107 R (0,0) _ rfl ?_ Tryz.underlying107 rfl HRI.out) rfl ⟨rfl,?_⟩
  ·exact setRow_heap _ _ Z _ _ _ (heap_alloc2_new w _ _)
  ·exact Below.setRow ((((Below.refl _ _).alloc (Nat.le_refl _) _).alloc (by simp) _).drew) (by omega) _
def andB (a b:Bits):Bits:=fun j=>a j &&& b j
def orB (a b:Bits):Bits:=fun j=>a j ||| b j
def minusB (a b:Bits):Bits:=fun j=>a j &&& ~~~b j
theorem memB_and (a b:Bits)(j:Nat):memB (andB a b) j=(memB a j && memB b j):=by simp[memB,andB]
theorem memB_or (a b:Bits)(j:Nat):memB (orB a b) j=(memB a j || memB b j):=by simp[memB,orB]
theorem memB_minus (a b:Bits)(j:Nat):memB (minusB a b) j=(memB a j && !memB b j):=by
 have h1:j % 64<64:=Nat.mod_lt _ (by decide)
 simp[memB,minusB,h1]
theorem run_index_set {V:Array Value}{k:Nat}{x:Int}(hk:k<64)(hx:V[k]? =some (.int .u64 x))(w:World):
  (Instr.index 107 (.agg V) (.int .i64 k)).run Tryz.prog w=.ok (.int .u64 x) w:=by
 have h1:∀w,(sizeOf 105).run Tryz.prog w=.ok 1 w:=fun w=>by
  cases hq:Tryz.prog.info? 105 with
  |none=>have:=Tryz.infoU64;simp[hq] at this
  |some i=>have:=Tryz.infoU64;simp[hq] at this;simp[sizeOf,typeInfo,hq,this]
 have h2:(part 105 V k).run Tryz.prog w=.ok (.int .u64 x) w:=by
  unfold part
  simp[isAgg,run_underlying Tryz.underlying105,hx]
 simp[Instr.index,asIntOf,run_underlying Tryz.underlying107,h1,h2]
 omega
def uptoB (f:BitVec 64→BitVec 64→BitVec 64)(a b:Bits)(k:Nat):Bits:=fun j=>if j<k then f (a j) (b j) else a j
theorem upto_zero (f:BitVec 64→BitVec 64→BitVec 64)(a b:Bits):uptoB f a b 0=a:=by funext j;simp[uptoB]
theorem upto_step (f:BitVec 64→BitVec 64→BitVec 64)(a b:Bits)(k:Nat):(fun j=>if j=k then f (a k) (b k) else uptoB f a b k j)=uptoB f a b (k+1):=by
 funext j
 unfold uptoB
 by_cases e:j=k
 ·subst e;simp
 ·by_cases e2:j<k
  ·simp[e,e2,show j<k+1 by omega]
  ·simp[e,e2,show ¬j<k+1 by omega]
theorem upto_all (f:BitVec 64→BitVec 64→BitVec 64)(a b:Bits):setC (uptoB f a b 64)=setC (fun j=>f (a j) (b j)):=by
 apply Array.ext_getElem?
 intro j
 by_cases hj:j<64
 ·rw[setC_get _ hj,setC_get _ hj];simp[uptoB,hj]
 ·rw[Array.getElem?_eq_none_iff.2 (by rw[setC_size];omega),Array.getElem?_eq_none_iff.2 (by rw[setC_size];omega)]
theorem heap_alloc3_0 (w:World)(A B C:Obj):(((w.alloc A).alloc B).alloc C).heap[w.heap.size]? =some A:=by
 rw[Below.heap_alloc _ _ _ (by simp;omega),Below.heap_alloc _ _ _ (by simp)];exact heap_alloc_new w A
theorem heap_alloc3_1 (w:World)(A B C:Obj):(((w.alloc A).alloc B).alloc C).heap[w.heap.size+1]? =some B:=by
 rw[Below.heap_alloc _ _ _ (by simp)];exact heap_alloc2_new w A B
theorem heap_alloc3_2 (w:World)(A B C:Obj):(((w.alloc A).alloc B).alloc C).heap[w.heap.size+1+1]? =some C:=by
 have:=heap_alloc_new ((w.alloc A).alloc B) C
 simpa using this
set_option maxHeartbeats 2000000 in
theorem and_any (ws vs:Bits)(w:World):
  Calls Tryz.prog 197 #[.agg (setC ws),.agg (setC vs)] w fun e w'=>e=.returned (.agg (setC (andB ws vs)))∧Below w.heap.size w w':=by
 obtain⟨Z,hz,HZ⟩:∃Z,(∀w,(zeroValue 107).run Tryz.prog w=.ok (.agg Z) w)∧Hid (Z=setC zeroB):=⟨_,zero_set,rfl⟩
 obtain⟨C,hC⟩:∃C,C=setC ws:=⟨_,rfl⟩
 obtain⟨V,hV⟩:∃V,V=setC vs:=⟨_,rfl⟩
 obtain⟨R,HR⟩:∃R,Hid (R=setC (andB ws vs)):=⟨_,rfl⟩
 rw[←hC,←hV,←HR.out]
 have HVI:Hid _:=setC_info vs
 rw[←hV] at HVI
 have HCC:Hid _:=hC
 have HVV:Hid _:=hV
 clear hC hV
 go_enter Tryz.func197,Tryz.ntmps197
 go_wp2_with (refine wpList_load_row rfl 107 _ rfl (w.heap.size+1) rfl 107 V (0,0) _ ?g1 Tryz.underlying107 rfl HVI.out ?_)
 case g1=>exact heap_alloc3_1 w _ _ _
 go_loopw [8] (fun i wr=>∃k:Nat,k≤64∧i=.int .i64 k∧Below w.heap.size w wr∧Hid (wr.heap[w.heap.size]? =some (.cells (setC (uptoB (fun a b=>a &&& b) ws vs k)) 107 (0,0)))∧Hid (wr.heap[w.heap.size+1+1]? =some (.cells Z 107 (0,0)))) (fun i _=>64-(intOf i).toNat)
 case atStart=>exact⟨0,by omega,rfl,(((Below.refl _ _).alloc (Nat.le_refl _) _).alloc (by simp) _).alloc (by simp;omega) _,by show _=_;rw[heap_alloc3_0,HCC.out,upto_zero],heap_alloc3_2 w _ _ _⟩
 case round=>
  obtain⟨k,hk,rfl,hB,H0,H2⟩:=hrel
  by_cases hk2:k<64
  ·have hi0:(0:Int)≤(k:Int):=by omega
   have hi1:(k:Int)<64:=by omega
   obtain⟨U,HU⟩:∃U,Hid (U=setC (uptoB (fun a b=>a &&& b) ws vs k)):=⟨_,rfl⟩
   have H0:=H0.out
   rw[←HU.out] at H0
   obtain⟨x,HX⟩:∃x,Hid (x=((ws k).toNat:Int)):=⟨_,rfl⟩
   obtain⟨y,HY⟩:∃y,Hid (y=((vs k).toNat:Int)):=⟨_,rfl⟩
   have c0:wr.cell? ⟨w.heap.size,k,none⟩=some (.int .u64 x):=by
    rw[cell_of_row _ _ k U _ _ H0,HU.out,setC_get _ hk2,HX.out]
    simp[uptoB]
   have f0:=frozen_of_row wr w.heap.size k U _ H0
   have hix:=run_index_set (V:=V) (x:=y) hk2 (by rw[HVV.out,HY.out];exact setC_get vs hk2)
   have HS:Hid ((wr.setCell ⟨w.heap.size,k,none⟩ (.int .u64 (bits .and .u64 x y))).heap[w.heap.size]? =some (.cells (setC (uptoB (fun a b=>a &&& b) ws vs (k+1))) 107 (0,0))):=by
    show _=_
    rw[heap_setCell_same _ _ _ U _ _ H0,HU.out,HX.out,HY.out,bits_and_bv,setC_set _ hk2,upto_step (fun a b=>a &&& b)]
   have HT:Hid ((wr.setCell ⟨w.heap.size,k,none⟩ (.int .u64 (bits .and .u64 x y))).heap[w.heap.size+1+1]? =some (.cells Z 107 (0,0))):=by
    show _=_
    rw[heap_setCell_other _ _ _ _ (by show w.heap.size+1+1≠w.heap.size;omega)];exact H2.out
   have hsz:=hB.size
   have hlt:w.heap.size<wr.heap.size:=by
    rcases Nat.lt_or_ge w.heap.size wr.heap.size with h|h
    ·exact h
    ·rw[Array.getElem?_eq_none_iff.2 h] at H0;cases H0
   clear H0 hsz
   go_wp2_with fail
   go_roundw
   case rel=>exact⟨k+1,by omega,by go_num,hB.setCell (p:=⟨w.heap.size,k,none⟩) (Nat.le_refl _) _,HS,HT⟩
   case measure=>simp[intOf];omega
  ·obtain rfl:k=64:=by omega
   have H0:=H0.out
   rw[upto_all (fun a b=>a &&& b)] at H0
   rw[show setC (fun j=>(fun a b=>a &&& b) (ws j) (vs j))=R from HR.out.symm] at H0
   have HRI:Hid _:=setC_info (andB ws vs)
   have HR1:Hid _:=setC_one (andB ws vs)
   have HZS:Hid (Z.size=R.size):=by show _=_;rw[HZ.out,HR.out,setC_size,setC_size]
   rw[←HR.out] at HRI HR1
   have H00:Hid _:=H0
   clear H0
   go_wp2_with (first|(refine wpList_load_row rfl 107 _ rfl w.heap.size rfl 107 R (0,0) _ ?g1 Tryz.underlying107 rfl ?g2 ?_)|(refine wpList_store_row rfl 107 _ _ rfl (w.heap.size+1+1) rfl R rfl 107 Z ?g3 ?g4 ?g5 ?g6 ?_))
   case g1=>exact H00.out
   case g2=>exact HRI.out
   case g3=>exact H2.out
   case g4=>exact HRI.out
   case g5=>exact HZS.out
   case g6=>exact HR1.out
   refine bodyPost_ret (v:=.agg R) (results_cell_row rfl _ _ (w.heap.size+1+1) 107 R (0,0) _ rfl ?_ Tryz.underlying107 rfl HRI.out) rfl ⟨rfl,?_⟩
   ·exact setRow_heap _ _ Z _ _ _ H2.out
   ·exact Below.setRow hB (by omega) _
set_option maxHeartbeats 2000000 in
theorem or_any (ws vs:Bits)(w:World):
  Calls Tryz.prog 198 #[.agg (setC ws),.agg (setC vs)] w fun e w'=>e=.returned (.agg (setC (orB ws vs)))∧Below w.heap.size w w':=by
 obtain⟨Z,hz,HZ⟩:∃Z,(∀w,(zeroValue 107).run Tryz.prog w=.ok (.agg Z) w)∧Hid (Z=setC zeroB):=⟨_,zero_set,rfl⟩
 obtain⟨C,hC⟩:∃C,C=setC ws:=⟨_,rfl⟩
 obtain⟨V,hV⟩:∃V,V=setC vs:=⟨_,rfl⟩
 obtain⟨R,HR⟩:∃R,Hid (R=setC (orB ws vs)):=⟨_,rfl⟩
 rw[←hC,←hV,←HR.out]
 have HVI:Hid _:=setC_info vs
 rw[←hV] at HVI
 have HCC:Hid _:=hC
 have HVV:Hid _:=hV
 clear hC hV
 go_enter Tryz.func198,Tryz.ntmps198
 go_wp2_with (refine wpList_load_row rfl 107 _ rfl (w.heap.size+1) rfl 107 V (0,0) _ ?g1 Tryz.underlying107 rfl HVI.out ?_)
 case g1=>exact heap_alloc3_1 w _ _ _
 go_loopw [8] (fun i wr=>∃k:Nat,k≤64∧i=.int .i64 k∧Below w.heap.size w wr∧Hid (wr.heap[w.heap.size]? =some (.cells (setC (uptoB (fun a b=>a ||| b) ws vs k)) 107 (0,0)))∧Hid (wr.heap[w.heap.size+1+1]? =some (.cells Z 107 (0,0)))) (fun i _=>64-(intOf i).toNat)
 case atStart=>exact⟨0,by omega,rfl,(((Below.refl _ _).alloc (Nat.le_refl _) _).alloc (by simp) _).alloc (by simp;omega) _,by show _=_;rw[heap_alloc3_0,HCC.out,upto_zero],heap_alloc3_2 w _ _ _⟩
 case round=>
  obtain⟨k,hk,rfl,hB,H0,H2⟩:=hrel
  by_cases hk2:k<64
  ·have hi0:(0:Int)≤(k:Int):=by omega
   have hi1:(k:Int)<64:=by omega
   obtain⟨U,HU⟩:∃U,Hid (U=setC (uptoB (fun a b=>a ||| b) ws vs k)):=⟨_,rfl⟩
   have H0:=H0.out
   rw[←HU.out] at H0
   obtain⟨x,HX⟩:∃x,Hid (x=((ws k).toNat:Int)):=⟨_,rfl⟩
   obtain⟨y,HY⟩:∃y,Hid (y=((vs k).toNat:Int)):=⟨_,rfl⟩
   have c0:wr.cell? ⟨w.heap.size,k,none⟩=some (.int .u64 x):=by
    rw[cell_of_row _ _ k U _ _ H0,HU.out,setC_get _ hk2,HX.out]
    simp[uptoB]
   have f0:=frozen_of_row wr w.heap.size k U _ H0
   have hix:=run_index_set (V:=V) (x:=y) hk2 (by rw[HVV.out,HY.out];exact setC_get vs hk2)
   have HS:Hid ((wr.setCell ⟨w.heap.size,k,none⟩ (.int .u64 (bits .or .u64 x y))).heap[w.heap.size]? =some (.cells (setC (uptoB (fun a b=>a ||| b) ws vs (k+1))) 107 (0,0))):=by
    show _=_
    rw[heap_setCell_same _ _ _ U _ _ H0,HU.out,HX.out,HY.out,bits_or_bv,setC_set _ hk2,upto_step (fun a b=>a ||| b)]
   have HT:Hid ((wr.setCell ⟨w.heap.size,k,none⟩ (.int .u64 (bits .or .u64 x y))).heap[w.heap.size+1+1]? =some (.cells Z 107 (0,0))):=by
    show _=_
    rw[heap_setCell_other _ _ _ _ (by show w.heap.size+1+1≠w.heap.size;omega)];exact H2.out
   have hsz:=hB.size
   have hlt:w.heap.size<wr.heap.size:=by
    rcases Nat.lt_or_ge w.heap.size wr.heap.size with h|h
    ·exact h
    ·rw[Array.getElem?_eq_none_iff.2 h] at H0;cases H0
   clear H0 hsz
   go_wp2_with fail
   go_roundw
   case rel=>exact⟨k+1,by omega,by go_num,hB.setCell (p:=⟨w.heap.size,k,none⟩) (Nat.le_refl _) _,HS,HT⟩
   case measure=>simp[intOf];omega
  ·obtain rfl:k=64:=by omega
   have H0:=H0.out
   rw[upto_all (fun a b=>a ||| b)] at H0
   rw[show setC (fun j=>(fun a b=>a ||| b) (ws j) (vs j))=R from HR.out.symm] at H0
   have HRI:Hid _:=setC_info (orB ws vs)
   have HR1:Hid _:=setC_one (orB ws vs)
   have HZS:Hid (Z.size=R.size):=by show _=_;rw[HZ.out,HR.out,setC_size,setC_size]
   rw[←HR.out] at HRI HR1
   have H00:Hid _:=H0
   clear H0
   go_wp2_with (first|(refine wpList_load_row rfl 107 _ rfl w.heap.size rfl 107 R (0,0) _ ?g1 Tryz.underlying107 rfl ?g2 ?_)|(refine wpList_store_row rfl 107 _ _ rfl (w.heap.size+1+1) rfl R rfl 107 Z ?g3 ?g4 ?g5 ?g6 ?_))
   case g1=>exact H00.out
   case g2=>exact HRI.out
   case g3=>exact H2.out
   case g4=>exact HRI.out
   case g5=>exact HZS.out
   case g6=>exact HR1.out
   refine bodyPost_ret (v:=.agg R) (results_cell_row rfl _ _ (w.heap.size+1+1) 107 R (0,0) _ rfl ?_ Tryz.underlying107 rfl HRI.out) rfl ⟨rfl,?_⟩
   ·exact setRow_heap _ _ Z _ _ _ H2.out
   ·exact Below.setRow hB (by omega) _
set_option maxHeartbeats 2000000 in
theorem minus_any (ws vs:Bits)(w:World):
  Calls Tryz.prog 171 #[.agg (setC ws),.agg (setC vs)] w fun e w'=>e=.returned (.agg (setC (minusB ws vs)))∧Below w.heap.size w w':=by
 obtain⟨Z,hz,HZ⟩:∃Z,(∀w,(zeroValue 107).run Tryz.prog w=.ok (.agg Z) w)∧Hid (Z=setC zeroB):=⟨_,zero_set,rfl⟩
 obtain⟨C,hC⟩:∃C,C=setC ws:=⟨_,rfl⟩
 obtain⟨V,hV⟩:∃V,V=setC vs:=⟨_,rfl⟩
 obtain⟨R,HR⟩:∃R,Hid (R=setC (minusB ws vs)):=⟨_,rfl⟩
 rw[←hC,←hV,←HR.out]
 have HVI:Hid _:=setC_info vs
 rw[←hV] at HVI
 have HCC:Hid _:=hC
 have HVV:Hid _:=hV
 clear hC hV
 go_enter Tryz.func171,Tryz.ntmps171
 go_wp2_with (refine wpList_load_row rfl 107 _ rfl (w.heap.size+1) rfl 107 V (0,0) _ ?g1 Tryz.underlying107 rfl HVI.out ?_)
 case g1=>exact heap_alloc3_1 w _ _ _
 go_loopw [8] (fun i wr=>∃k:Nat,k≤64∧i=.int .i64 k∧Below w.heap.size w wr∧Hid (wr.heap[w.heap.size]? =some (.cells (setC (uptoB (fun a b=>a &&& ~~~b) ws vs k)) 107 (0,0)))∧Hid (wr.heap[w.heap.size+1+1]? =some (.cells Z 107 (0,0)))) (fun i _=>64-(intOf i).toNat)
 case atStart=>exact⟨0,by omega,rfl,(((Below.refl _ _).alloc (Nat.le_refl _) _).alloc (by simp) _).alloc (by simp;omega) _,by show _=_;rw[heap_alloc3_0,HCC.out,upto_zero],heap_alloc3_2 w _ _ _⟩
 case round=>
  obtain⟨k,hk,rfl,hB,H0,H2⟩:=hrel
  by_cases hk2:k<64
  ·have hi0:(0:Int)≤(k:Int):=by omega
   have hi1:(k:Int)<64:=by omega
   obtain⟨U,HU⟩:∃U,Hid (U=setC (uptoB (fun a b=>a &&& ~~~b) ws vs k)):=⟨_,rfl⟩
   have H0:=H0.out
   rw[←HU.out] at H0
   obtain⟨x,HX⟩:∃x,Hid (x=((ws k).toNat:Int)):=⟨_,rfl⟩
   obtain⟨y,HY⟩:∃y,Hid (y=((vs k).toNat:Int)):=⟨_,rfl⟩
   have c0:wr.cell? ⟨w.heap.size,k,none⟩=some (.int .u64 x):=by
    rw[cell_of_row _ _ k U _ _ H0,HU.out,setC_get _ hk2,HX.out]
    simp[uptoB]
   have f0:=frozen_of_row wr w.heap.size k U _ H0
   have hix:=run_index_set (V:=V) (x:=y) hk2 (by rw[HVV.out,HY.out];exact setC_get vs hk2)
   have HS:Hid ((wr.setCell ⟨w.heap.size,k,none⟩ (.int .u64 (bits .andNot .u64 x y))).heap[w.heap.size]? =some (.cells (setC (uptoB (fun a b=>a &&& ~~~b) ws vs (k+1))) 107 (0,0))):=by
    show _=_
    rw[heap_setCell_same _ _ _ U _ _ H0,HU.out,HX.out,HY.out,bits_andNot_bv,setC_set _ hk2,upto_step (fun a b=>a &&& ~~~b)]
   have HT:Hid ((wr.setCell ⟨w.heap.size,k,none⟩ (.int .u64 (bits .andNot .u64 x y))).heap[w.heap.size+1+1]? =some (.cells Z 107 (0,0))):=by
    show _=_
    rw[heap_setCell_other _ _ _ _ (by show w.heap.size+1+1≠w.heap.size;omega)];exact H2.out
   have hsz:=hB.size
   have hlt:w.heap.size<wr.heap.size:=by
    rcases Nat.lt_or_ge w.heap.size wr.heap.size with h|h
    ·exact h
    ·rw[Array.getElem?_eq_none_iff.2 h] at H0;cases H0
   clear H0 hsz
   go_wp2_with fail
   go_roundw
   case rel=>exact⟨k+1,by omega,by go_num,hB.setCell (p:=⟨w.heap.size,k,none⟩) (Nat.le_refl _) _,HS,HT⟩
   case measure=>simp[intOf];omega
  ·obtain rfl:k=64:=by omega
   have H0:=H0.out
   rw[upto_all (fun a b=>a &&& ~~~b)] at H0
   rw[show setC (fun j=>(fun a b=>a &&& ~~~b) (ws j) (vs j))=R from HR.out.symm] at H0
   have HRI:Hid _:=setC_info (minusB ws vs)
   have HR1:Hid _:=setC_one (minusB ws vs)
   have HZS:Hid (Z.size=R.size):=by show _=_;rw[HZ.out,HR.out,setC_size,setC_size]
   rw[←HR.out] at HRI HR1
   have H00:Hid _:=H0
   clear H0
   go_wp2_with (first|(refine wpList_load_row rfl 107 _ rfl w.heap.size rfl 107 R (0,0) _ ?g1 Tryz.underlying107 rfl ?g2 ?_)|(refine wpList_store_row rfl 107 _ _ rfl (w.heap.size+1+1) rfl R rfl 107 Z ?g3 ?g4 ?g5 ?g6 ?_))
   case g1=>exact H00.out
   case g2=>exact HRI.out
   case g3=>exact H2.out
   case g4=>exact HRI.out
   case g5=>exact HZS.out
   case g6=>exact HR1.out
   refine bodyPost_ret (v:=.agg R) (results_cell_row rfl _ _ (w.heap.size+1+1) 107 R (0,0) _ rfl ?_ Tryz.underlying107 rfl HRI.out) rfl ⟨rfl,?_⟩
   ·exact setRow_heap _ _ Z _ _ _ H2.out
   ·exact Below.setRow hB (by omega) _
open Go.Maps (Keyed)
open Go.MapKept
open Go.ChangeMaps (setBlock)
structure MapIs (P:Program)(k:TypeId)(w:World)(b:Nat)(f:Value→Value→Prop):Prop where
 has:∃es clock,w.heap[b]? =some (.map es clock)∧Stamped es clock∧(∀e∈es.toList,∃l,keyOf P k e.key=some l)∧∀key v,f key v↔∃e∈es.toList,e.key=key∧e.val=v
def putM (f:Value→Value→Prop)(key val:Value):Value→Value→Prop:=fun x v=>(x=key∧v=val)∨(x≠key∧f x v)
def delM (f:Value→Value→Prop)(key:Value):Value→Value→Prop:=fun x v=>x≠key∧f x v
theorem setBlock_at {w:World}{b:Nat}(h:b<w.heap.size)(o:Obj):(setBlock w b o).heap[b]? =some o:=by
 simp[setBlock,h]
theorem setBlock_md (w:World)(b:Nat)(o:Obj):Md (fun j=>j=b) w (setBlock w b o):=
 ⟨⟨rfl,rfl,rfl,by simp[setBlock],fun k hk=>by omega⟩,fun k hk hf=>by simp[setBlock,Ne.symm hf]⟩
theorem setBlock_size (w:World)(b:Nat)(o:Obj):(setBlock w b o).heap.size=w.heap.size:=by simp[setBlock]
section
variable {P:Program}{k t e:TypeId}{w:World}{b:Nat}{f:Value→Value→Prop}
theorem MapIs.lt (h:MapIs P k w b f):b<w.heap.size:=by
 obtain⟨es,clock,h1,_⟩:=h.has;exact lt_block h1
theorem MapIs.kept {w':World}(h:MapIs P k w b f)(hk:w'.heap[b]? =w.heap[b]?):MapIs P k w' b f:=by
 obtain⟨es,clock,h1,h2⟩:=h.has;exact⟨es,clock,hk.trans h1,h2⟩
theorem MapIs.congr {g:Value→Value→Prop}(h:MapIs P k w b f)(hg:∀x v,g x v↔f x v):MapIs P k w b g:=by
 obtain⟨es,clock,h1,h2,h3,h4⟩:=h.has;exact⟨es,clock,h1,h2,h3,fun x v=>(hg x v).trans (h4 x v)⟩
theorem MapIs.one (h:MapIs P k w b f){key v u:Value}(h1:f key v)(h2:f key u):v=u:=by
 obtain⟨es,clock,_,hs,_,h4⟩:=h.has
 obtain⟨x,hx,rfl,rfl⟩:=(h4 key v).1 h1
 obtain⟨y,hy,e1,rfl⟩:=(h4 x.key u).1 h2
 rw[entry_eq_of_key ((stamped_iff es clock).1 hs).2.2 hx hy e1.symm]
theorem MapIs.look_none (h:MapIs P k w b f)(c:Bool)(K:Keyed P k)(ht:P.underlying t=some (.map k e)){z key:Value}{kl:Lit}(hz:(zeroValue e).run P w=.ok z w)(hkey:keyOf P k key=some kl)(hn:∀v,¬f key v):
  (Instr.lookup t (.map (some b)) key c).run P w=.ok (if c then .tuple #[z,.bool false] else z) w:=by
 obtain⟨es,clock,hb,hs,h3,h4⟩:=h.has
 rcases K.find w hkey es.toList h3 with⟨h1,_⟩|⟨j,e0,_,h2,h5⟩
 ·simp[Instr.lookup,run_underlying ht,MapKept.run_getObj_map hb,K.check w _ hkey,h1,hz,Result.andThen]
 ·exact absurd ((h4 key e0.val).2 ⟨e0,List.mem_of_getElem? h2,h5,rfl⟩) (hn _)
theorem MapIs.look_some (h:MapIs P k w b f)(c:Bool)(K:Keyed P k)(ht:P.underlying t=some (.map k e)){key v:Value}{kl:Lit}(hkey:keyOf P k key=some kl)(hv:f key v):
  (Instr.lookup t (.map (some b)) key c).run P w=.ok (if c then .tuple #[v,.bool true] else v) w:=by
 obtain⟨es,clock,hb,hs,h3,h4⟩:=h.has
 rcases K.find w hkey es.toList h3 with⟨_,h2⟩|⟨j,e0,h1,h2,h5⟩
 ·obtain⟨x,hx,e1,_⟩:=(h4 key v).1 hv
  exact absurd e1 (h2 x hx)
 ·obtain rfl:e0.val=v:=MapIs.one h ((h4 key e0.val).2 ⟨e0,List.mem_of_getElem? h2,h5,rfl⟩) hv
  simp[Instr.lookup,run_underlying ht,MapKept.run_getObj_map hb,K.check w _ hkey,h1,Result.andThen]
theorem MapIs.put (h:MapIs P k w b f)(K:Keyed P k)(ht:P.underlying t=some (.map k e)){key:Value}(val:Value){kl:Lit}(hkey:keyOf P k key=some kl):
  ∃w',(Instr.mapUpdate t (.map (some b)) key val).run P w=.ok () w'∧MapIs P k w' b (putM f key val)∧Md (fun j=>j=b) w w'∧w'.heap.size=w.heap.size:=by
 obtain⟨es,clock,hb,hs,h3,h4⟩:=h.has
 rcases K.find w hkey es.toList h3 with⟨h1,h2⟩|⟨j,e0,h1,h2,h5⟩
 ·refine⟨setBlock w b (.map (es.push ⟨key,val,clock⟩) (clock+1)),?_,⟨_,_,setBlock_at (lt_block hb) _,stamped_push hs h2,?_,?_⟩,setBlock_md _ _ _,setBlock_size _ _ _⟩
  ·simp[Instr.mapUpdate,run_underlying ht,MapKept.run_getObj_map hb,K.check w false hkey,h1,MapKept.run_setObj_map _ hb,Result.andThen,setBlock]
  ·intro x hx
   simp only[Array.toList_push,List.mem_append,List.mem_singleton] at hx
   rcases hx with hx|rfl
   ·exact h3 x hx
   ·exact⟨kl,hkey⟩
  ·intro x v
   simp only[Array.toList_push,List.mem_append,List.mem_singleton,putM]
   constructor
   ·rintro(⟨rfl,rfl⟩|⟨hne,hf⟩)
    ·exact⟨_,.inr rfl,rfl,rfl⟩
    ·obtain⟨y,hy,e1,e2⟩:=(h4 x v).1 hf
     exact⟨y,.inl hy,e1,e2⟩
   ·rintro⟨y,hy|rfl,rfl,rfl⟩
    ·exact .inr ⟨h2 y hy,(h4 _ _).2 ⟨y,hy,rfl,rfl⟩⟩
    ·exact .inl ⟨rfl,rfl⟩
 ·have hj:es[j]? =some e0:=by simpa using h2
  have hkeyf:∀e',es[j]? =some e'→({e' with key:=key,val:=val}:MapEntry).key=e'.key:=fun e' he'=>by rw[hj] at he';cases he';exact h5.symm
  have hlist:(es.modify j (fun e'=>{e' with key:=key,val:=val})).toList=es.toList.set j {e0 with key:=key,val:=val}:=by rw[Array.toList_modify,ChangeMaps.modify_eq_set _ _ _ _ h2]
  have hjl:j<es.toList.length:=(List.getElem?_eq_some_iff.1 h2).1
  have hpw:=((stamped_iff es clock).1 hs).2.2
  refine⟨setBlock w b (.map (es.modify j (fun e'=>{e' with key:=key,val:=val})) clock),?_,⟨_,_,setBlock_at (lt_block hb) _,stamped_modify hs _ _ (fun _ _=>rfl) (fun e' _ he'=>hkeyf e' he'),?_,?_⟩,setBlock_md _ _ _,setBlock_size _ _ _⟩
  ·simp[Instr.mapUpdate,run_underlying ht,MapKept.run_getObj_map hb,K.check w false hkey,h1,hj,h5,K.stays w hkey,MapKept.run_setObj_map _ hb,Result.andThen,setBlock]
  ·intro x hx
   rw[hlist] at hx
   rcases List.mem_or_eq_of_mem_set hx with hx|rfl
   ·exact h3 x hx
   ·exact⟨kl,hkey⟩
  ·intro x v
   rw[hlist]
   constructor
   ·rintro(⟨rfl,rfl⟩|⟨hne,hf⟩)
    ·exact⟨_,List.mem_iff_getElem.2 ⟨j,by simpa using hjl,by simp;rfl⟩,rfl,rfl⟩
    ·obtain⟨y,hy,e1,e2⟩:=(h4 x v).1 hf
     obtain⟨i,hi,rfl⟩:=List.getElem_of_mem hy
     have hij:j≠i:=by
      rintro rfl
      rw[List.getElem?_eq_getElem hi] at h2
      cases h2
      exact hne (e1.symm.trans h5)
     exact⟨_,List.mem_iff_getElem.2 ⟨i,by simpa using hi,by rw[List.getElem_set_ne hij]⟩,e1,e2⟩
   ·rintro⟨y,hy,rfl,rfl⟩
    obtain⟨i,hi,ex⟩:=List.getElem_of_mem hy
    have hi':i<es.toList.length:=by simpa using hi
    rw[List.getElem_set] at ex
    split at ex
    ·subst ex;exact .inl ⟨rfl,rfl⟩
    ·rename_i hne
     subst ex
     refine .inr ⟨fun e1=>?_,(h4 _ _).2 ⟨_,List.getElem_mem hi',rfl,rfl⟩⟩
     have e2:=entry_eq_of_key hpw (List.getElem_mem hi') (List.mem_of_getElem? h2) (e1.trans h5.symm)
     have hjg:es.toList[j]=e0:=by rw[List.getElem?_eq_getElem hjl] at h2;exact Option.some.inj h2
     rcases Nat.lt_trichotomy i j with hlt|rfl|hlt
     ·exact(List.pairwise_iff_getElem.1 hpw i j hi' hjl hlt) (by rw[e2,hjg])
     ·exact hne rfl
     ·exact(List.pairwise_iff_getElem.1 hpw j i hjl hi' hlt) (by rw[e2,hjg])
theorem MapIs.del (h:MapIs P k w b f)(K:Keyed P k)(ht:P.underlying t=some (.map k e)){key:Value}{kl:Lit}(hkey:keyOf P k key=some kl)(ty:TypeId):
  ∃w',(Builtin.delete_ #[t,k] ty #[.map (some b),key]).run P w=.ok (.tuple #[]) w'∧MapIs P k w' b (delM f key)∧Md (fun j=>j=b) w w'∧w'.heap.size=w.heap.size:=by
 obtain⟨es,clock,hb,hs,h3,h4⟩:=h.has
 rcases K.find w hkey es.toList h3 with⟨h1,h2⟩|⟨j,e0,h1,h2,h5⟩
 ·refine⟨setBlock w b (.map es clock),?_,⟨_,_,setBlock_at (lt_block hb) _,hs,h3,?_⟩,setBlock_md _ _ _,setBlock_size _ _ _⟩
  ·simp[Builtin.delete_,run_underlying ht,MapKept.run_getObj_map hb,K.check w _ hkey,h1,MapKept.run_setObj_map _ hb,Result.andThen,setBlock]
  ·intro x v
   constructor
   ·rintro⟨_,hf⟩;exact(h4 x v).1 hf
   ·rintro⟨y,hy,rfl,rfl⟩
    exact⟨h2 y hy,(h4 _ _).2 ⟨y,hy,rfl,rfl⟩⟩
 ·have hjl:j<es.toList.length:=(List.getElem?_eq_some_iff.1 h2).1
  have hjs:j<es.size:=by simpa using hjl
  have hsub:(es.eraseIdxIfInBounds j).toList=es.toList.eraseIdx j:=by
   unfold Array.eraseIdxIfInBounds
   rw[dif_pos hjs]
   simp
  have hpw:=((stamped_iff es clock).1 hs).2.2
  have hjg:es.toList[j]=e0:=by rw[List.getElem?_eq_getElem hjl] at h2;exact Option.some.inj h2
  refine⟨setBlock w b (.map (es.eraseIdxIfInBounds j) clock),?_,⟨_,_,setBlock_at (lt_block hb) _,stamped_erase hs j,?_,?_⟩,setBlock_md _ _ _,setBlock_size _ _ _⟩
  ·simp[Builtin.delete_,run_underlying ht,MapKept.run_getObj_map hb,K.check w _ hkey,h1,MapKept.run_setObj_map _ hb,Result.andThen,setBlock]
  ·intro x hx
   rw[hsub] at hx
   exact h3 x ((List.eraseIdx_sublist _ _).subset hx)
  ·intro x v
   rw[hsub]
   constructor
   ·rintro⟨hne,hf⟩
    obtain⟨y,hy,e1,e2⟩:=(h4 x v).1 hf
    obtain⟨i,hi,rfl⟩:=List.getElem_of_mem hy
    have hij:i≠j:=by
     rintro rfl
     exact hne (by rw[←e1,hjg];exact h5)
    exact⟨_,List.mem_eraseIdx_iff_getElem?.2 ⟨i,hij,List.getElem?_eq_getElem hi⟩,e1,e2⟩
   ·rintro⟨y,hy,rfl,rfl⟩
    obtain⟨i,hij,hi⟩:=List.mem_eraseIdx_iff_getElem?.1 hy
    obtain⟨hil,rfl⟩:=List.getElem?_eq_some_iff.1 hi
    refine⟨fun e1=>?_,(h4 _ _).2 ⟨_,List.getElem_mem hil,rfl,rfl⟩⟩
    rcases Nat.lt_or_gt_of_ne hij with hlt|hlt
    ·exact(List.pairwise_iff_getElem.1 hpw i j hil hjl hlt) (by rw[e1,hjg,h5])
    ·exact(List.pairwise_iff_getElem.1 hpw j i hjl hil hlt) (by rw[e1,hjg,h5])
theorem MapIs.putO (h:MapIs P k w b f)(K:Keyed P k)(ht:P.underlying t=some (.map k e)){key:Value}(val:Value){kl:Lit}(hkey:keyOf P k key=some kl):
  ∃o,∀w1:World,w1.heap[b]? =w.heap[b]? →(Instr.mapUpdate t (.map (some b)) key val).run P w1=.ok () (setBlock w1 b o)∧MapIs P k (setBlock w1 b o) b (putM f key val):=by
 obtain⟨w',hrun,h1,h2,h3⟩:=h.put K ht val hkey
 obtain⟨es,clock,hb,hs,hk,h4⟩:=h.has
 rcases K.find w hkey es.toList hk with⟨q1,q2⟩|⟨j,e0,q1,q2,q5⟩
 ·refine⟨.map (es.push ⟨key,val,clock⟩) (clock+1),fun w1 hw1=>?_⟩
  have hb1:=hw1.trans hb
  have hr:(Instr.mapUpdate t (.map (some b)) key val).run P w1=.ok () (setBlock w1 b (.map (es.push ⟨key,val,clock⟩) (clock+1))):=by
   rcases K.find w1 hkey es.toList hk with⟨p1,p2⟩|⟨i,e1,p1,p2,p5⟩
   ·simp[Instr.mapUpdate,run_underlying ht,MapKept.run_getObj_map hb1,K.check w1 false hkey,p1,MapKept.run_setObj_map _ hb1,Result.andThen,setBlock]
   ·exact absurd p5 (q2 e1 (List.mem_of_getElem? p2))
  refine⟨hr,?_⟩
  obtain⟨w2,r2,r3,_⟩:=(h.kept hw1).put K ht val hkey
  rw[hr] at r2;cases r2;exact r3
 ·refine⟨.map (es.modify j (fun e'=>{e' with key:=key,val:=val})) clock,fun w1 hw1=>?_⟩
  have hb1:=hw1.trans hb
  have hj:es[j]? =some e0:=by simpa using q2
  have hr:(Instr.mapUpdate t (.map (some b)) key val).run P w1=.ok () (setBlock w1 b (.map (es.modify j (fun e'=>{e' with key:=key,val:=val})) clock)):=by
   rcases K.find w1 hkey es.toList hk with⟨p1,p2⟩|⟨i,e1,p1,p2,p5⟩
   ·exact absurd q5 (p2 e0 (List.mem_of_getElem? q2))
   ·have hij:i=j:=by
     have hpw:=((stamped_iff es clock).1 hs).2.2
     obtain⟨hi,rfl⟩:=List.getElem?_eq_some_iff.1 p2
     obtain⟨hj',rfl⟩:=List.getElem?_eq_some_iff.1 q2
     rcases Nat.lt_trichotomy i j with hlt|e|hlt
     ·exact absurd (p5.trans q5.symm) (List.pairwise_iff_getElem.1 hpw i j hi hj' hlt)
     ·exact e
     ·exact absurd (q5.trans p5.symm) (List.pairwise_iff_getElem.1 hpw j i hj' hi hlt)
    subst hij
    rw[p2] at q2;cases q2
    simp[Instr.mapUpdate,run_underlying ht,MapKept.run_getObj_map hb1,K.check w1 false hkey,p1,hj,q5,K.stays w1 hkey,MapKept.run_setObj_map _ hb1,Result.andThen,setBlock]
  refine⟨hr,?_⟩
  obtain⟨w2,r2,r3,_⟩:=(h.kept hw1).put K ht val hkey
  rw[hr] at r2;cases r2;exact r3
theorem MapIs.delO (h:MapIs P k w b f)(K:Keyed P k)(ht:P.underlying t=some (.map k e)){key:Value}{kl:Lit}(hkey:keyOf P k key=some kl)(ty:TypeId):
  ∃o,∀w1:World,w1.heap[b]? =w.heap[b]? →(Builtin.delete_ #[t,k] ty #[.map (some b),key]).run P w1=.ok (.tuple #[]) (setBlock w1 b o)∧MapIs P k (setBlock w1 b o) b (delM f key):=by
 obtain⟨es,clock,hb,hs,hk,h4⟩:=h.has
 rcases K.find w hkey es.toList hk with⟨q1,q2⟩|⟨j,e0,q1,q2,q5⟩
 ·refine⟨.map es clock,fun w1 hw1=>?_⟩
  have hb1:=hw1.trans hb
  have hr:(Builtin.delete_ #[t,k] ty #[.map (some b),key]).run P w1=.ok (.tuple #[]) (setBlock w1 b (.map es clock)):=by
   rcases K.find w1 hkey es.toList hk with⟨p1,p2⟩|⟨i,e1,p1,p2,p5⟩
   ·simp[Builtin.delete_,run_underlying ht,MapKept.run_getObj_map hb1,K.check w1 _ hkey,p1,MapKept.run_setObj_map _ hb1,Result.andThen,setBlock]
   ·exact absurd p5 (q2 e1 (List.mem_of_getElem? p2))
  refine⟨hr,?_⟩
  obtain⟨w2,r2,r3,_⟩:=(h.kept hw1).del K ht hkey ty
  rw[hr] at r2;cases r2;exact r3
 ·refine⟨.map (es.eraseIdxIfInBounds j) clock,fun w1 hw1=>?_⟩
  have hb1:=hw1.trans hb
  have hr:(Builtin.delete_ #[t,k] ty #[.map (some b),key]).run P w1=.ok (.tuple #[]) (setBlock w1 b (.map (es.eraseIdxIfInBounds j) clock)):=by
   rcases K.find w1 hkey es.toList hk with⟨p1,p2⟩|⟨i,e1,p1,p2,p5⟩
   ·exact absurd q5 (p2 e0 (List.mem_of_getElem? q2))
   ·have hij:i=j:=by
     have hpw:=((stamped_iff es clock).1 hs).2.2
     obtain⟨hi,rfl⟩:=List.getElem?_eq_some_iff.1 p2
     obtain⟨hj',rfl⟩:=List.getElem?_eq_some_iff.1 q2
     rcases Nat.lt_trichotomy i j with hlt|e|hlt
     ·exact absurd (p5.trans q5.symm) (List.pairwise_iff_getElem.1 hpw i j hi hj' hlt)
     ·exact e
     ·exact absurd (q5.trans p5.symm) (List.pairwise_iff_getElem.1 hpw j i hj' hi hlt)
    subst hij
    simp[Builtin.delete_,run_underlying ht,MapKept.run_getObj_map hb1,K.check w1 _ hkey,p1,MapKept.run_setObj_map _ hb1,Result.andThen,setBlock]
  refine⟨hr,?_⟩
  obtain⟨w2,r2,r3,_⟩:=(h.kept hw1).del K ht hkey ty
  rw[hr] at r2;cases r2;exact r3
end
end Go.Proofs.YtbnelaoeblhndaaGreatDoor
namespace Go.Proofs.YtbnelaoeblhndaaGreatDoor
open Go.RowKit
open Go.Maps (Keyed)
set_option maxRecDepth 100000
theorem run_part_set (ws:Bits){j:Nat}(h:j<64)(w:World):(part 105 (setC ws) j).run Tryz.prog w=.ok (.int .u64 ((ws j).toNat:Int)) w:=by
 unfold part
 simp[isAgg,run_underlying Tryz.underlying105,setC_get ws h]
theorem run_eqItems_set (ws vs:Bits)(d:Nat)(w:World):∀(is:List Nat),(∀j∈is,j<64)→(Op.eqItems (d+1) 105 1 (setC ws) (setC vs) is).run Tryz.prog w=.ok (is.all fun j=>ws j==vs j) w
 | [],_=>by simp[Op.eqItems]
 |j::is,h=>by
  have hj:=h j (by simp)
  have ih:=run_eqItems_set ws vs d w is (fun i hi=>h i (by simp[hi]))
  have e:(((ws j).toNat:Int)==((vs j).toNat:Int))=(ws j==vs j):=by
   by_cases e:ws j=vs j
   ·simp[e]
   ·have:(ws j).toNat≠(vs j).toNat:=fun h=>e (BitVec.eq_of_toNat_eq h)
    have h2:((ws j).toNat:Int)≠((vs j).toNat:Int):=by omega
    rw[beq_eq_false_iff_ne.2 h2,beq_eq_false_iff_ne.2 e]
  simp only[Op.eqItems,Sem.run_bind,Nat.mul_one,run_part_set ws hj,run_part_set vs hj,Result.andThen_ok,run_equalIn_int w d 105 .u64 .u64 _ _ Tryz.underlying105,e]
  rw[List.all_cons]
  generalize (ws j==vs j)=c
  cases c
  ·simp
  ·simp[ih]
theorem run_eql_set (ws vs:Bits)(w:World):(binOp .eql 107 (.agg (setC ws)) (.agg (setC vs))).run Tryz.prog w=.ok (.bool ((List.range 64).all fun j=>ws j==vs j)) w:=by
 have hi:∃i,Tryz.prog.info? 105=some i∧Tryz.prog.cellsOf 105=1:=by
  cases hq:Tryz.prog.info? 105 with
  |none=>have:=Tryz.infoU64;simp[hq] at this
  |some i=>exact⟨i,rfl,by kernel_rfl⟩
 obtain⟨i,hi,hc⟩:=hi
 have:=run_eqItems_set ws vs 9998 w (List.range 64) (fun j hj=>by simpa using hj)
 show((Op.equal 107 (.agg (setC ws)) (.agg (setC vs))) >>=fun b=>pure (Value.bool b)).run _ _=_
 unfold Op.equal
 rw[Sem.run_bind,show Op.maxDepth=9999+1 from rfl,run_equalIn_array w 9999 _ _ Tryz.underlying107 hi,hc,this]
 rfl
def heldC (f:Nat)(x:Doc.Val):Array Value:=#[.int .i64 f,.int .i64 x.k,.int .i64 x.n,.string x.s]
def Fine (x:Doc.Val):Prop:=(x.k=0∨x.k=1∨x.k=2)∧ -9999999≤x.n∧x.n≤9999999∧x.s.size≤200
theorem Tryz.laidOut:laidOutB Tryz.prog=true:=by kernel_rfl
theorem Tryz.heldRow:(155:TypeId)<Tryz.prog.types.size:=of_decide_eq_true (by kernel_rfl)
theorem Tryz.heldDeep:Tryz.prog.keyType 155=true:=by kernel_rfl
theorem Tryz.heldCells:Tryz.prog.cellsOf 155=4:=by kernel_rfl
theorem heldKeyed:Keyed Tryz.prog 155:=Keyed.of_law (deep_law_laid Tryz.laidOut (m:=3) (by omega) Tryz.heldRow (by kernel_rfl) (by rw[Tryz.underlying155]))
theorem held_key {f:Nat}{x:Doc.Val}(hf:f<4)(hx:Fine x):∃l,keyOf Tryz.prog 155 (.agg (heldC f x))=some l:=by
 have hk: -9223372036854775808≤x.k∧x.k≤9223372036854775807:=by rcases hx.1 with h|h|h<;>omega
 have hn: -9223372036854775808≤x.n∧x.n≤9223372036854775807:=by have:=hx.2;omega
 have hw:∀n:Int, -9223372036854775808≤n∧n≤9223372036854775807→(Lit.int .i64 n).wf=true:=by
  intro n hn
  simpa[Lit.wf,IntKind.min,IntKind.max,IntKind.signed,IntKind.bits] using hn
 have hs:x.s.size≤maxLen:=by have:=hx.2.2.2;unfold maxLen;omega
 have hv:Tryz.prog.cellsOf 94=3:=by kernel_rfl
 have h1:Tryz.prog.cellsOf 3=1:=by kernel_rfl
 have h2:Tryz.prog.cellsOf 9=1:=by kernel_rfl
 have hz:∃d,Tryz.prog.types.size+1=d+4:=by
  have h:(155:Nat)<Tryz.prog.types.size:=Tryz.heldRow
  exact⟨Tryz.prog.types.size-3,by omega⟩
 obtain⟨d,hd⟩:=hz
 have k1:∀d n,(Lit.int .i64 n).wf=true→Tryz.prog.keyLits (d+1) 3 [.int .i64 n]=some [.int .i64 n]:=fun d n h=>by
  simp[Program.keyLits,Tryz.underlying3,h]
 have k2:∀d,Tryz.prog.keyLits (d+1) 9 [.string x.s]=some [.string x.s.data.toList]:=fun d=>by
  simp[Program.keyLits,Tryz.underlying9,hs]
 have k3:∀d,Tryz.prog.keyLits (d+1+1) 94 [.int .i64 x.k,.int .i64 x.n,.string x.s]=some [.int .i64 x.k,.int .i64 x.n,.string x.s.data.toList]:=fun d=>by
  unfold Program.keyLits
  simp[Tryz.underlying94,hv,h1,h2,k1 d _ (hw _ hk),k1 d _ (hw _ hn),k2 d]
 have hkl:∃ls,Tryz.prog.keyLits (Tryz.prog.types.size+1) 155 (heldC f x).toList=some ls:=by
  rw[hd]
  refine⟨[.int .i64 f,.int .i64 x.k,.int .i64 x.n,.string x.s.data.toList],?_⟩
  unfold Program.keyLits
  simp[Tryz.underlying155,Tryz.heldCells,hv,h1,heldC,k1 (d+2) f (hw (f:Int) (by omega)),k3 (d+1)]
 obtain⟨ls,hls⟩:=hkl
 refine⟨.string (keyBytes ls),?_⟩
 simp[keyOf,Tryz.underlying155,Tryz.heldDeep,Value.formed,Tryz.heldCells,Value.cells]
 exact⟨rfl,ls,by simpa using hls,rfl⟩
theorem intKeyed:Keyed Tryz.prog 3:=Go.Maps.int_keyed Tryz.underlying3
def holdM (H:Nat→Nat→Doc.Val→Prop):Value→Value→Prop:=fun key v=>
 ∃(f:Nat) (x:Doc.Val) (ws:Bits),f<4∧Fine x∧key=.agg (heldC f x)∧v=.agg (setC ws)∧(∀j,j<4096→(memB ws j=true↔H j f x))∧∃j,j<4096∧H j f x
theorem heldC_inj {f g:Nat}{x y:Doc.Val}(h:Value.agg (heldC f x)=.agg (heldC g y)):f=g∧x=y:=by
 simp[heldC] at h
 obtain⟨a,b,c,d⟩:=h
 refine⟨by omega,?_⟩
 cases x;cases y
 simp_all
def shelfO (mt mh:Nat):Obj:=.cells #[.map (some mt),.map (some mh)] 152 (0,0)
def lessH (H:Nat→Nat→Doc.Val→Prop)(id f:Nat)(x:Doc.Val):Nat→Nat→Doc.Val→Prop:=fun j g y=>H j g y∧¬(j=id∧g=f∧y=x)
theorem less_iff {H:Nat→Nat→Doc.Val→Prop}{id f j g:Nat}{x y:Doc.Val}(h:¬(g=f∧y=x)):lessH H id f x j g y↔H j g y:=⟨fun h1=>h1.1,fun h1=>⟨h1,fun e=>h e.2⟩⟩
theorem hold_del {H:Nat→Nat→Doc.Val→Prop}{id f:Nat}{x:Doc.Val}(hf:f<4)(hx:Fine x)(hn:∀j,j<4096→¬lessH H id f x j f x)(key v:Value):holdM (lessH H id f x) key v↔delM (holdM H) (.agg (heldC f x)) key v:=by
 constructor
 ·rintro⟨g,y,ws,hg,hy,rfl,rfl,h1,j,hj,h2⟩
  refine⟨fun e=>?_,g,y,ws,hg,hy,rfl,rfl,fun i hi=>?_,j,hj,h2.1⟩
  ·obtain⟨rfl,rfl⟩:=heldC_inj e
   exact hn j hj h2
  ·rw[h1 i hi]
   refine⟨fun h=>h.1,fun h=>⟨h,?_⟩⟩
   rintro⟨rfl,rfl,rfl⟩
   exact hn j hj h2
 ·rintro⟨hne,g,y,ws,hg,hy,rfl,rfl,h1,j,hj,h2⟩
  have hd:¬(g=f∧y=x):=by rintro⟨rfl,rfl⟩;exact hne rfl
  exact⟨g,y,ws,hg,hy,rfl,rfl,fun i hi=>(h1 i hi).trans ⟨fun h=>⟨h,fun e=>hd e.2⟩,fun h=>h.1⟩,j,hj,h2,fun e=>hd e.2⟩
theorem hold_put {H H':Nat→Nat→Doc.Val→Prop}{f:Nat}{x:Doc.Val}{ws:Bits}(hf:f<4)(hx:Fine x)(hw:∀j,j<4096→(memB ws j=true↔H' j f x))(hex:∃j,j<4096∧H' j f x)(ho:∀j g y,¬(g=f∧y=x)→(H' j g y↔H j g y))(key v:Value):
  holdM H' key v↔putM (holdM H) (.agg (heldC f x)) (.agg (setC ws)) key v:=by
 constructor
 ·rintro⟨g,y,vs,hg,hy,rfl,rfl,h1,j,hj,h2⟩
  by_cases e:g=f∧y=x
  ·obtain⟨rfl,rfl⟩:=e
   exact .inl ⟨rfl,congrArg Value.agg (setC_ext (fun i hi=>by rw[Bool.eq_iff_iff];exact(h1 i hi).trans (hw i hi).symm))⟩
  ·exact .inr ⟨fun h=>e (heldC_inj h),g,y,vs,hg,hy,rfl,rfl,fun i hi=>(h1 i hi).trans (ho i g y e),j,hj,(ho j g y e).1 h2⟩
 ·rintro(⟨rfl,rfl⟩|⟨hne,g,y,vs,hg,hy,rfl,rfl,h1,j,hj,h2⟩)
  ·exact⟨f,x,ws,hf,hx,rfl,rfl,hw,hex⟩
  ·have e:¬(g=f∧y=x):=by rintro⟨rfl,rfl⟩;exact hne rfl
   exact⟨g,y,vs,hg,hy,rfl,rfl,fun i hi=>(h1 i hi).trans (ho i g y e).symm,j,hj,(ho j g y e).2 h2⟩
theorem Below.allocB {B:Nat}{a w:World}(h:Below B a w)(hB:B≤a.heap.size)(o:Obj):Below B a (w.alloc o):=h.alloc (Nat.le_trans hB h.size) o
theorem Below.callB {B:Nat}{a w w':World}(h:Below B a w)(hB:B≤a.heap.size)(k:Below w.heap.size w w'):Below B a w':=h.trans (k.mono (Nat.le_trans hB h.size))
theorem setCells_row:∀(cs:List Value) (b o:Nat) (w:World) (cur:Array Value) (T:TypeId) (fr:Nat×Nat),w.heap[b]? =some (.cells cur T fr)→(w.setCells b o cs).heap[b]? =some (.cells (cur.toList.take o++cs++cur.toList.drop (o+cs.length)).toArray T fr)∨cur.size<o+cs.length:=by
 intro cs
 induction cs with
 |nil=>intro b o w cur T fr h;left;simp[World.setCells,h]
 |cons c cs ih=>
  intro b o w cur T fr h
  by_cases hs:cur.size<o+(cs.length+1)
  ·exact .inr (by simpa using hs)
  ·have h2:(w.setCell ⟨b,o,none⟩ c).heap[b]? =some (.cells (cur.setIfInBounds o c) T fr):=by
    simp[World.setCell,Array.getElem?_modify,h]
   rcases ih b (o+1) _ _ T fr h2 with h3|h3
   ·left
    rw[World.setCells,h3]
    have e:(cur.setIfInBounds o c).toList.take (o+1)++cs++(cur.setIfInBounds o c).toList.drop (o+1+cs.length)=cur.toList.take o++c::cs++cur.toList.drop (o+(c::cs).length):=by
     rw[Array.toList_setIfInBounds,List.take_add_one,List.take_set_of_le (Nat.le_refl _),List.drop_set_of_lt (by omega)]
     simp[show o<cur.size by omega,Nat.add_assoc,Nat.add_comm 1]
    rw[e]
   ·exfalso;simp at h3;omega
theorem setCells_all {w:World}{b:Nat}{cur:Array Value}{T:TypeId}{fr:Nat×Nat}{cs:List Value}(h:w.heap[b]? =some (.cells cur T fr))(hl:cur.size=cs.length):(w.setCells b 0 cs).heap[b]? =some (.cells cs.toArray T fr):=by
 rcases setCells_row cs b 0 w cur T fr h with h1|h1
 ·rw[h1];simp[hl]
 ·omega
theorem setCells_below (b:Nat){B:Nat}{a:World}(hb:B≤b):∀(cs:List Value) (o:Nat) (w:World),Below B a w→Below B a (w.setCells b o cs)
 | [],_,_,h=>h
 |c::cs,o,w,h=>by rw[World.setCells];exact setCells_below b hb cs (o+1) _ (h.setCell (p:=⟨b,o,none⟩) hb c)
theorem there_blk {w:World}{b:Nat}{cur:Array Value}{T:TypeId}(h:w.heap[b]? =some (.cells cur T (0,0))){n:Nat}(hn:n≤cur.size):w.there b 0 n:=fun j hj=>by
 rw[Nat.zero_add]
 exact⟨by rw[cell_of_row _ _ _ _ _ _ h];simp;omega,frozen_of_row _ _ _ _ _ h⟩
theorem run_build_set:∀w,(Instr.build 107 #[]).run Tryz.prog w=.ok (.agg (setC zeroB)) w:=fun w=>run_build w _ _ _ (by kernel_rfl)
theorem set_none {ws:Bits}(h:∀j,j<4096→memB ws j=false):((List.range 64).all fun j=>ws j==zeroB j)=true:=by
 rw[List.all_eq_true]
 intro j hj
 have hj:j<64:=by simpa using hj
 rw[beq_iff_eq]
 apply BitVec.eq_of_getLsbD_eq
 intro k hk
 have:=h (j*64+k) (by omega)
 unfold memB at this
 rw[show(j*64+k) / 64=j by omega,show(j*64+k) % 64=k by omega] at this
 rw[this];simp[zeroB]
theorem set_some {ws:Bits}(h:∃j,j<4096∧memB ws j=true):((List.range 64).all fun j=>ws j==zeroB j)=false:=by
 obtain⟨j,hj,h⟩:=h
 rw[List.all_eq_false]
 refine⟨j / 64,by simp;omega,fun e=>?_⟩
 unfold memB at h
 rw[beq_iff_eq.1 e] at h
 simp[zeroB] at h
theorem setBlock_other (w:World){b k:Nat}(h:k≠b)(o:Obj):(Go.ChangeMaps.setBlock w b o).heap[k]? =w.heap[k]? :=by
 simp[Go.ChangeMaps.setBlock,Ne.symm h]
theorem exists_set (p:Nat→Prop):∃ws:Bits,∀j,j<4096→(memB ws j=true↔p j):=by
 have key:∀n,∃ws:Bits,∀j,j<4096→(memB ws j=true↔(j<n∧p j)):=by
  intro n
  induction n with
  |zero=>exact⟨zeroB,fun j _=>by simp[memB_zero]⟩
  |succ n ih=>
   obtain⟨ws,h⟩:=ih
   by_cases hp:p n
   ·refine⟨withB ws n,fun j hj=>?_⟩
    rw[memB_with,Bool.or_eq_true,h j hj,decide_eq_true_iff]
    constructor
    ·rintro(rfl|⟨h1,h2⟩)
     ·exact⟨by omega,hp⟩
     ·exact⟨by omega,h2⟩
    ·rintro⟨h1,h2⟩
     by_cases e:j=n
     ·exact .inl e
     ·exact .inr ⟨by omega,h2⟩
   ·refine⟨ws,fun j hj=>(h j hj).trans ⟨fun h=>⟨by omega,h.2⟩,fun h=>⟨?_,h.2⟩⟩⟩
    have:j≠n:=by rintro rfl;exact hp h.2
    omega
 obtain⟨ws,h⟩:=key 4096
 exact⟨ws,fun j hj=>(h j hj).trans ⟨fun h=>h.2,fun h=>⟨hj,h⟩⟩⟩
set_option maxHeartbeats 1000000 in
theorem release_any {w:World}{hb mt mh:Nat}{H:Nat→Nat→Doc.Val→Prop}(hs:w.heap[hb]? =some (shelfO mt mh))(hh:MapIs Tryz.prog 155 w mh (holdM H))(f:Nat)(hf:f<4)(x:Doc.Val)(hx:Fine x)(id:Nat)(hid:id<4096)(hH:H id f x):
  Calls Tryz.prog 65 #[.pointer (some ⟨hb,0,none⟩),.agg (heldC f x),.int .i64 id] w fun e w'=>e=.returned (.tuple #[])∧MapIs Tryz.prog 155 w' mh (holdM (lessH H id f x))∧Md (fun j=>j=mh) w w':=by
 obtain⟨kl,hkl⟩:=held_key hf hx
 have hex:∃ws:Bits,holdM H (.agg (heldC f x)) (.agg (setC ws))∧(∀j,j<4096→(memB ws j=true↔H j f x)):=by
  obtain⟨ws,h⟩:=exists_set (fun j=>H j f x)
  exact⟨ws,⟨f,x,ws,hf,hx,rfl,rfl,h,id,hid,hH⟩,h⟩
 obtain⟨ws,hv,hm⟩:=hex
 obtain⟨C,HC⟩:∃C,Hid (C=setC ws):=⟨_,rfl⟩
 obtain⟨Z,hz,HZ⟩:∃Z,(∀w,(zeroValue 107).run Tryz.prog w=.ok (.agg Z) w)∧Hid (Z=setC zeroB):=⟨_,zero_set,rfl⟩
 have c1:w.cell? ⟨hb,1,none⟩=some (.map (some mh)):=blk_cell hs 1 _ rfl
 have hlt:=lt_block hs
 have hmlt:=hh.lt
 have hne:mh≠hb:=by
  rintro rfl
  obtain⟨es,clock,h1,_⟩:=hh.has
  rw[hs] at h1;cases h1
 obtain⟨R,HR⟩:∃R:List Value,Hid (R.toArray=setC (withoutB ws id)):=⟨(setC (withoutB ws id)).toList,Array.toArray_toList⟩
 have HWO:Hid (∀w:World,Calls Tryz.prog 108 #[.agg C,.int .i64 id] w fun e w'=>e=.returned (.agg R.toArray)∧Below w.heap.size w w'):=by
  rw[HC.out,HR.out];exact without_any ws id hid
 obtain⟨w0,HW0⟩:∃w0,Hid (w0=w.alloc (.cells (heldC f x) 155)):=⟨_,rfl⟩
 have hz0:w0.heap.size=w.heap.size+1:=by rw[HW0.out];simp
 have hb0:Below w.heap.size w w0:=by rw[HW0.out];exact(Below.refl _ _).alloc (Nat.le_refl _) _
 have hbx:w0.heap[w.heap.size]? =some (.cells #[.int .i64 f,.int .i64 x.k,.int .i64 x.n,.string x.s] 155 (0,0)):=by rw[HW0.out];exact heap_alloc_new w _
 have hlk:∀w':World,w'.heap[mh]? =w.heap[mh]? →(Instr.lookup 150 (.map (some mh)) (.agg #[.int .i64 f,.int .i64 x.k,.int .i64 x.n,.string x.s]) false).run Tryz.prog w'=.ok (.agg C) w':=by
  intro w' h'
  have:=(hh.kept h').look_some false heldKeyed Tryz.underlying150 hkl hv
  rw[←HC.out] at this
  exact this
 have HSB:Hid (∀w':World,Below (w.heap.size+1) w0 w'→Below (w.heap.size+1) w0 w'∧w'.cell? ⟨hb,1,none⟩=some (.map (some mh))∧w'.cell? ⟨w.heap.size,0,none⟩=some (.int .i64 f)∧w'.cell? ⟨w.heap.size,1,none⟩=some (.int .i64 x.k)∧w'.cell? ⟨w.heap.size,2,none⟩=some (.int .i64 x.n)∧w'.cell? ⟨w.heap.size,3,none⟩=some (.string x.s)∧w'.heap[mh]? =w.heap[mh]?):=by
  intro w' h'
  have q:=(h'.block w.heap.size (by omega)).trans hbx
  exact⟨h',((h'.cell (p:=⟨hb,1,none⟩) (by show hb<_;omega)).trans (hb0.cell (p:=⟨hb,1,none⟩) hlt)).trans c1,blk_cell q 0 _ rfl,blk_cell q 1 _ rfl,blk_cell q 2 _ rfl,blk_cell q 3 _ rfl,(h'.block mh (by omega)).trans (hb0.block mh hmlt)⟩
 have HH:Hid _:=hh
 have HM:Hid _:=hm
 have hB:w.heap.size+1≤w0.heap.size:=by omega
 have hRl:R.length=64:=by rw[←setC_size (withoutB ws id),←HR.out];simp
 have hRI:(Tryz.prog.info? 107).map (·.size)=some R.length:=by rw[hRl];exact(zero_of_info Tryz.infoSet).2
 have hR1:∀v,v∈R→v.oneCell'=true:=by
  have:=setC_one (withoutB ws id)
  rw[←HR.out,Array.all_eq_true_iff_forall_mem] at this
  intro v hv
  exact this v (by simpa using hv)
 have hZS:Z.size=R.length:=by rw[HZ.out,hRl,setC_size]
 have HZS:Hid _:=hZS
 have HRL:Hid _:=hRl
 clear hZS hRl
 have HS:Hid _:=hs
 have HZ0:Hid _:=hz0
 have HKL:Hid _:=hkl
 clear hh hv hm hs hkl hz0
 unfold heldC at HW0 ⊢
 go_enter Tryz.func65,Tryz.ntmps65
 go_wp2_with fail
 rw[←HW0.out]
 go_cut [6] (fun v wx=>∃g,v=.pointer (some ⟨g,0,none⟩)∧Below (w.heap.size+1) w0 wx∧wx.heap[g]? =some (.cells R.toArray 107 (0,0))∧w.heap.size+1≤g)
 case first=>
  go_region_held3 (fun w'=>Below (w.heap.size+1) w0 w'∧w'.cell? ⟨hb,1,none⟩=some (.map (some mh))∧w'.cell? ⟨w.heap.size,0,none⟩=some (.int .i64 f)∧w'.cell? ⟨w.heap.size,1,none⟩=some (.int .i64 x.k)∧w'.cell? ⟨w.heap.size,2,none⟩=some (.int .i64 x.n)∧w'.cell? ⟨w.heap.size,3,none⟩=some (.string x.s)∧w'.heap[mh]? =w.heap[mh]?) (first|(refine HSB.out _ ?_;repeat (first|exact Below.refl _ _|refine Below.drew ?_|refine Below.allocB ?_ hB _|refine Below.callB ?_ hB hb2|refine setCells_below _ (by omega) _ _ _ ?_))) (first|(go_at_call 108;refine(HWO.out (w0.alloc (.cells Z 107)).drew).mono ?_;rintro r w2 ⟨rfl,hb2⟩;have q2:=(hb2.block w0.heap.size (by simp)).trans (heap_alloc_new w0 (.cells Z 107));have th:=there_blk q2 (Nat.le_of_eq HZS.out.symm);have hgg:=hB)|(go_at_call 108;refine(HWO.out w0.drew).mono ?_;rintro r w2 ⟨rfl,hb2⟩;have q2:=heap_alloc_new w2 (.cells Z 107);have th:=there_blk q2 (Nat.le_of_eq HZS.out.symm);have hgg:w.heap.size+1≤w2.heap.size:=Nat.le_trans hB hb2.size))
  all_goals (go_wp2_with fail)
  all_goals go_meet
  all_goals (refine⟨_,rfl,?_,setCells_all q2 HZS.out,hgg⟩;repeat (first|exact Below.refl _ _|refine Below.drew ?_|refine Below.allocB ?_ hB _|refine Below.callB ?_ hB hb2|refine setCells_below _ (by omega) _ _ _ ?_))
 case rest=>
  obtain⟨g,rfl,hbw,hg,hgg⟩:=hcut
  have HSW:Hid _:=HSB.out wc hbw
  obtain⟨_,d1,e0,e1,e2,e3,hmm⟩:=HSW.out
  have HHW:Hid (MapIs Tryz.prog 155 wc mh (holdM H)):=HH.out.kept hmm
  have HMD:Hid (Md (fun j=>j=mh) w wc):=(Md.ofBelow hb0).trans (Md.ofBelow (by rw[HZ0.out];exact hbw))
  have hrg:wc.rangeAt g 0 R:=fun j v hj=>by rw[Nat.zero_add,cell_of_row _ _ _ _ _ _ hg];simpa using hj
  have hld:∀j,j<4096→(memB (withoutB ws id) j=true↔lessH H id f x j f x):=by
   intro j hj
   rw[memB_without,Bool.and_eq_true,HM.out j hj]
   simp[lessH,and_comm]
  have HLD:Hid _:=hld
  have hq0:(107:Nat)=107:=rfl
  have hgl:=lt_block hg
  have hgm:g≠mh:=by omega
  have HG:Hid _:=hg
  have hRI':=hRI
  have HRI:Hid ((Tryz.prog.info? 107).map (·.size)=some R.toArray.size):=by show _=_;rw[hRI];simp
  have hbu:=run_build_set
  rw[←HZ.out] at hbu
  have HRG:Hid _:=hrg
  have HRI2:Hid _:=hRI
  clear hmm hlk hld hrg hg hRI hRI' hR1 hq0
  by_cases he:∃j,j<4096∧lessH H id f x j f x
  ·have heq:∀w,(binOp .eql 107 (.agg R.toArray) (.agg Z)).run Tryz.prog w=.ok (.bool false) w:=by
    intro w
    rw[HR.out,HZ.out,run_eql_set,set_some (by obtain⟨j,hj,h⟩:=he;exact⟨j,hj,(HLD.out j hj).2 h⟩)]
   go_wp2_with (refine wpList_load_row rfl 107 _ rfl g rfl 107 R.toArray (0,0) _ HG.out Tryz.underlying107 rfl HRI.out ?_)
   obtain⟨ob,hob⟩:=HHW.out.putO heldKeyed Tryz.underlying150 (.agg R.toArray) HKL.out
   obtain⟨hpu,hpm⟩:=hob wc.drew rfl
   rw[HR.out] at hpm
   have HPM:Hid _:=hpm
   unfold heldC at hpu
   clear hob hpm heq hbu
   have hu:=Tryz.underlying107
   have hRI:=HRI2.out
   have HSB4:Hid (∀w':World,(∀k,k≠mh→w'.heap[k]? =wc.heap[k]?)→w'.cell? ⟨hb,1,none⟩=some (.map (some mh))∧w'.cell? ⟨w.heap.size,0,none⟩=some (.int .i64 f)∧w'.cell? ⟨w.heap.size,1,none⟩=some (.int .i64 x.k)∧w'.cell? ⟨w.heap.size,2,none⟩=some (.int .i64 x.n)∧w'.cell? ⟨w.heap.size,3,none⟩=some (.string x.s)∧w'.rangeAt g 0 R):=by
    intro w' h'
    have hc:∀(k i:Nat),k≠mh→w'.cell? ⟨k,i,none⟩=wc.cell? ⟨k,i,none⟩:=fun k i hk=>by simp[World.cell?,h' k hk]
    have hx:w.heap.size≠mh:=by omega
    exact⟨(hc _ _ (Ne.symm hne)).trans d1,(hc _ _ hx).trans e0,(hc _ _ hx).trans e1,(hc _ _ hx).trans e2,(hc _ _ hx).trans e3,fun j v hj=>(hc _ _ hgm).trans (HRG.out j v hj)⟩
   go_region_held3 (fun w'=>w'.cell? ⟨hb,1,none⟩=some (.map (some mh))∧w'.cell? ⟨w.heap.size,0,none⟩=some (.int .i64 f)∧w'.cell? ⟨w.heap.size,1,none⟩=some (.int .i64 x.k)∧w'.cell? ⟨w.heap.size,2,none⟩=some (.int .i64 x.n)∧w'.cell? ⟨w.heap.size,3,none⟩=some (.string x.s)∧w'.rangeAt g 0 R) (first|exact HSB4.out _ (fun k hk=>rfl)|exact HSB4.out _ (fun k hk=>(setBlock_other _ hk _).trans rfl)) (first|fail)
   all_goals (go_wp2_with fail)
   all_goals
    go_end0
    exact⟨rfl,HPM.out.congr (hold_put hf hx HLD.out he (fun _ _ _ h=>less_iff h)),HMD.out.drew.trans (setBlock_md _ _ _)⟩
  ·have heq:∀w,(binOp .eql 107 (.agg R.toArray) (.agg Z)).run Tryz.prog w=.ok (.bool true) w:=by
    intro w
    rw[HR.out,HZ.out,run_eql_set,set_none (fun j hj=>Bool.eq_false_iff.2 (fun h=>he ⟨j,hj,(HLD.out j hj).1 h⟩))]
   go_wp2_with (refine wpList_load_row rfl 107 _ rfl g rfl 107 R.toArray (0,0) _ HG.out Tryz.underlying107 rfl HRI.out ?_)
   obtain⟨ob,hob⟩:=HHW.out.delO heldKeyed Tryz.underlying150 HKL.out 0
   obtain⟨hpu,hpm⟩:=hob wc.drew rfl
   have HPM:Hid _:=hpm
   unfold heldC at hpu
   clear hob hpm heq hbu
   first|go_region|fail "stands"
   all_goals (go_wp2_with fail)
   all_goals
    refine bodyPost_ret (v:=.tuple #[]) (by simp[results,Tryz.results65,go_sem]) rfl ?_
    exact⟨rfl,HPM.out.congr (hold_del hf hx (fun j hj h=>he ⟨j,hj,h⟩)),HMD.out.drew.trans (setBlock_md _ _ _)⟩
end Go.Proofs.YtbnelaoeblhndaaGreatDoor
