import Derived.Test.YtbnelaoeblhndaaGreatDoorThN7
import Derived.Test.YtbnelaoeblhndaaGreatDoorThN6
namespace Go.Proofs.YtbnelaoeblhndaaGreatDoor
open Go.RowKit
set_option maxRecDepth 100000
structure ProgAt (w:World)(F:Nat→Prop)(sb:Nat)(fs:List Doc.Fld)(space:Int)(th:Has)(fv:Value)(hb mt mh:Nat)(pos:Int→Value×Value):Prop where
 blk:w.heap[sb]? =some (.cells #[fv,.int .i64 space,.pointer (some ⟨hb,0,none⟩)] 99 (0,0))
 fld:w.ownsRow 0 92 2 fv fs.length (fldsC fs)
 shf:ShelfAt w F hb th mt mh pos
 len:1≤fs.length∧fs.length≤4
 spc:1≤space∧space≤4
 kind:∀j (h:j<fs.length),fs[j].kind=1∨fs[j].kind=2
 fits:∀id t,th id=some t→Doc.spotB space t.1=true∧t.2.length=fs.length∧∀j (h1:j<t.2.length) (h2:j<fs.length),Doc.goodV t.2[j] fs[j].kind=true
 inS:F sb
 inF:∀k,fv.ownBlock=some k→F k
def ProgSt (w:World)(F:Nat→Prop)(sb:Nat)(fs:List Doc.Fld)(space:Int)(th:Has):Prop:=∃fv hb mt mh pos,ProgAt w F sb fs space th fv hb mt mh pos
theorem good_fine {v:Doc.Val}{kind:Int}(h:Doc.goodV v kind=true):Fine v:=by
 unfold Doc.goodV at h
 simp only[Bool.or_eq_true,Bool.and_eq_true,beq_iff_eq,decide_eq_true_eq] at h
 have hz:v.s.toList=[]→v.s.size=0:=fun e=>by
  rw[ByteArray.toList_eq] at e
  show v.s.data.size=0
  rw[←Array.length_toList,e];rfl
 rcases h with(⟨h1,h2,h3⟩|⟨h1,⟨⟨h2,h3⟩,h4⟩,h5⟩)|⟨h1,⟨h2,h3⟩,h4⟩
 ·exact⟨.inl h1,by omega,by omega,by have:=hz h3;omega⟩
 ·exact⟨.inr (.inl h1),by omega,by omega,by have:=hz h3;omega⟩
 ·exact⟨.inr (.inr h1),by omega,by omega,by omega⟩
theorem spot_len {space:Int}{l:List Int}(h:Doc.spotB space l=true):(l.length:Int)=space:=by
 unfold Doc.spotB at h
 simp only[Bool.and_eq_true,beq_iff_eq] at h
 exact h.2
section
variable {w w':World}{F:Nat→Prop}{sb:Nat}{fs:List Doc.Fld}{space:Int}{th:Has}{fv:Value}{hb mt mh:Nat}{pos:Int→Value×Value}
theorem ProgAt.lt (h:ProgAt w F sb fs space th fv hb mt mh pos):sb<w.heap.size:=lt_block h.blk
theorem ProgAt.kept {F':Nat→Prop}(h:ProgAt w F sb fs space th fv hb mt mh pos)(hk:∀k,F k→k<w.heap.size→w'.heap[k]? =w.heap[k]?)(hF:∀k,F k→k<w.heap.size→F' k):ProgAt w' F' sb fs space th fv hb mt mh pos:=
 ⟨(hk _ h.inS h.lt).trans h.blk,rowKept h.fld (fun k _ e ho=>(hk k (h.inF k e) (ownLt h.fld e)).trans ho),h.shf.kept hk hF,h.len,h.spc,h.kind,h.fits,hF _ h.inS h.lt,fun k e=>hF k (h.inF k e) (ownLt h.fld e)⟩
theorem ProgSt.kept {F':Nat→Prop}(h:ProgSt w F sb fs space th)(hk:∀k,F k→k<w.heap.size→w'.heap[k]? =w.heap[k]?)(hF:∀k,F k→k<w.heap.size→F' k):ProgSt w' F' sb fs space th:=by
 obtain⟨a,b,c,d,e,h⟩:=h
 exact⟨a,b,c,d,e,h.kept hk hF⟩
theorem ProgAt.cells (h:ProgAt w F sb fs space th fv hb mt mh pos):w.cell? ⟨sb,0,none⟩=some fv∧w.cell? ⟨sb,1,none⟩=some (.int .i64 space)∧w.cell? ⟨sb,2,none⟩=some (.pointer (some ⟨hb,0,none⟩)):=st_cells h.blk
theorem ProgAt.turn {th':Has}{pos':Int→Value×Value}{F':Nat→Prop}(h:ProgAt w F sb fs space th fv hb mt mh pos)(hs:ShelfAt w' F' hb th' mt mh pos')(hd:Md (fun j=>j=mt∨j=mh) w w')(hF:∀k,F k→F' k)
  (hf:∀id t,th' id=some t→Doc.spotB space t.1=true∧t.2.length=fs.length∧∀j (h1:j<t.2.length) (h2:j<fs.length),Doc.goodV t.2[j] fs[j].kind=true):ProgAt w' F' sb fs space th' fv hb mt mh pos':=by
 have hm:∀(k:Nat) (cu:Array Value) (T:TypeId) (fr:Nat×Nat),w.heap[k]? =some (.cells cu T fr)→w'.heap[k]? =w.heap[k]? :=fun k cu T fr hk=>hd.only k (lt_block hk) (by
  rintro(rfl|rfl)
  ·obtain⟨es,cl,hq,_⟩:=h.shf.thg.has;rw[hk] at hq;cases hq
  ·obtain⟨es,cl,hq,_⟩:=h.shf.hold.has;rw[hk] at hq;cases hq)
 refine⟨(hm _ _ _ _ h.blk).trans h.blk,rowKept h.fld (fun k o e ho=>?_),hs,h.len,h.spc,h.kind,hf,hF _ h.inS,fun k e=>hF _ (h.inF k e)⟩
 obtain⟨_,cs',t⟩:=own_type h.fld e
 exact(hm k _ _ _ t).trans ho
theorem pdrop_none (h:ProgAt w F sb fs space th fv hb mt mh pos)(id:Int)(h0: -9223372036854775808≤id)(h1:id≤9223372036854775807)(hn:th id=none):
  Calls Tryz.prog 22 #[.pointer (some ⟨sb,0,none⟩),.int .i64 id] w fun e w'=>e=.returned (.int .i64 4)∧Below w.heap.size w w':=by
 obtain⟨c0,c1,c2⟩:=h.cells
 have HD:Hid _:=sdrop_none h.shf id h0 h1 hn
 go_enter Tryz.func22,Tryz.ntmps22
 go_wp2_with fail
 refine Calls.mono HD.out ?_
 rintro e w1 ⟨rfl,hb1⟩
 go_wp2_with fail
 go_ret
 exact⟨rfl,hb1⟩
theorem pdrop_some (h:ProgAt w F sb fs space th fv hb mt mh pos)(id:Int)(t:List Int×List Doc.Val)(hn:th id=some t):
  Calls Tryz.prog 22 #[.pointer (some ⟨sb,0,none⟩),.int .i64 id] w fun e w'=>e=.returned (.int .i64 0)∧ProgAt w' F sb fs space (dropT th id) fv hb mt mh pos∧Md F w w':=by
 obtain⟨c0,c1,c2⟩:=h.cells
 obtain⟨n,rfl⟩:∃n:Nat,id=n:=⟨id.toNat,by have:=(h.shf.rng id t hn).1;omega⟩
 have HD:Hid _:=sdrop_some h.shf n t hn
 have H:Hid _:=h
 clear h
 go_enter Tryz.func22,Tryz.ntmps22
 go_wp2_with fail
 refine Calls.mono HD.out ?_
 rintro e w1 ⟨rfl,h1,hd1⟩
 have H1:Hid _:=h1
 have HD1:Hid _:=hd1
 clear h1 hd1
 go_wp2_with fail
 go_ret
 refine⟨rfl,H.out.turn H1.out HD1.out (fun k hk=>hk) (fun i s hs=>?_),HD1.out.mono (fun k hk=>by rcases hk with rfl|rfl;exact H.out.shf.inT;exact H.out.shf.inH)⟩
 by_cases e:i=n
 ·simp[dropT,e] at hs
 ·simp[dropT,e] at hs
  exact H.out.fits i s hs
theorem pget_none (h:ProgAt w F sb fs space th fv hb mt mh pos)(id:Int)(h0: -9223372036854775808≤id)(h1:id≤9223372036854775807)(hn:th id=none):
  Calls Tryz.prog 32 #[.pointer (some ⟨sb,0,none⟩),.int .i64 id] w fun e w'=>e=.returned (.tuple #[.slice none 0 0,.slice none 0 0,.int .i64 4])∧Below w.heap.size w w':=by
 obtain⟨c0,c1,c2⟩:=h.cells
 have HD:Hid _:=sget_none h.shf id h0 h1 hn
 go_enter Tryz.func32,Tryz.ntmps32
 go_wp2_with fail
 refine Calls.mono HD.out ?_
 rintro e w1 ⟨rfl,hb1⟩
 go_wp2_with fail
 go_ret3
 exact⟨rfl,hb1.alloc hb1.size _⟩
theorem pget_some (h:ProgAt w F sb fs space th fv hb mt mh pos)(id:Int)(t:List Int×List Doc.Val)(hn:th id=some t):
  Calls Tryz.prog 32 #[.pointer (some ⟨sb,0,none⟩),.int .i64 id] w fun e w'=>∃v1 v2,e=.returned (.tuple #[v1,v2,.int .i64 0])∧w'.ownsRow w.heap.size 3 1 v1 t.1.length (intC t.1)∧w'.ownsRow w.heap.size 94 3 v2 t.2.length (valsC t.2)∧Below w.heap.size w w':=by
 obtain⟨c0,c1,c2⟩:=h.cells
 have HD:Hid _:=sget_some h.shf id t hn
 clear h
 go_enter Tryz.func32,Tryz.ntmps32
 go_wp2_with fail
 refine Calls.mono HD.out ?_
 rintro e w1 ⟨v1,v2,rfl,r1,r2,hb1⟩
 obtain⟨b1,m1,rfl⟩:=row_slice r1
 obtain⟨b2,m2,rfl⟩:=row_slice r2
 have R1:Hid _:=row_below r1 ((Below.refl _ _).alloc (Nat.le_refl _) (.cells #[.slice b1 t.1.length m1,.slice b2 t.2.length m2] 104))
 have R2:Hid _:=row_below r2 ((Below.refl _ _).alloc (Nat.le_refl _) (.cells #[.slice b1 t.1.length m1,.slice b2 t.2.length m2] 104))
 clear r1 r2
 go_wp2_with fail
 go_region
 all_goals
  go_wp2_with fail
  go_ret3
  exact⟨_,_,rfl,R1.out,R2.out,(hb1.alloc hb1.size _).drew⟩
set_option maxHeartbeats 1000000 in
theorem pput_bad (id E:Int)(hE:E≠0)(sv vv:Value)(hc:Calls Tryz.prog 42 #[.pointer (some ⟨sb,0,none⟩),.int .i64 id,sv,vv] w fun e w'=>e=.returned (.int .i64 E)∧Below w.heap.size w w'):
  Calls Tryz.prog 28 #[.pointer (some ⟨sb,0,none⟩),.int .i64 id,sv,vv] w fun e w'=>e=.returned (.int .i64 E)∧Below w.heap.size w w':=by
 have HC:Hid _:=hc
 have hE2:(E != 0)=true:=by simpa using hE
 clear hc hE
 go_enter Tryz.func28,Tryz.ntmps28
 go_wp2_with fail
 refine Calls.mono HC.out ?_
 rintro e w1 ⟨rfl,hb1⟩
 go_wp2_with fail
 go_ret
 exact⟨rfl,hb1⟩
set_option maxHeartbeats 1000000 in
theorem pput_ok (h:ProgAt w F sb fs space th fv hb mt mh pos)(id:Int)(sv vv:Value)(spot:List Int)(vals:List Doc.Val)(hs:Sl w sv spot.length (intC spot))(hv:Sl w vv vals.length (valsC vals))
  (k1:0≤id) (k2:id≤4095) (k3:Doc.spotB space spot=true) (k4:vals.length=fs.length) (k5:∀j (h1:j<vals.length) (h2:j<fs.length),Doc.goodV vals[j] fs[j].kind=true):
  Calls Tryz.prog 28 #[.pointer (some ⟨sb,0,none⟩),.int .i64 id,sv,vv] w fun e w'=>e=.returned (.int .i64 0)∧ProgSt w' (fun k=>F k∨w.heap.size≤k) sb fs space (putT th id (spot,vals))∧Md F w w':=by
 obtain⟨c0,c1,c2⟩:=h.cells
 obtain⟨n,rfl⟩:∃n:Nat,id=n:=⟨id.toNat,by omega⟩
 have hl:=spot_len k3
 have hsp:=h.spc
 have hfl:=h.len
 have hfine:∀x∈vals,Fine x:=fun x hx=>by
  obtain⟨j,hj,rfl⟩:=List.getElem_of_mem hx
  exact good_fine (k5 j hj (by omega))
 have HC:Hid _:=cput_any sb h.lt fs h.kind space n fv sv vv c0 c1 (rowSl h.fld) spot vals hs hv (by omega) (by omega) (by omega) k1 k2 k3 k4
 have HS:Hid (∀W,Below w.heap.size w W→Calls Tryz.prog 43 #[.pointer (some ⟨hb,0,none⟩),.int .i64 n,.agg #[sv,vv]] W fun e w'=>e=.returned (.tuple #[])∧(∃pos',ShelfAt w' (fun k=>F k∨W.heap.size≤k) hb (putT th n (spot,vals)) mt mh pos')∧Md (fun j=>j=mt∨j=mh) W w'):=
  fun W hW=>sput_any (h.shf.kept (w':=W) (F':=F) (fun k _ hk=>hW.block k hk) (fun k hk _=>hk)) n (by omega) sv vv spot vals (hs.below hW) (hv.below hW) (by omega) (by omega) hfine
 obtain⟨b1,m1,e1⟩:=hs.slice
 obtain⟨b2,m2,e2⟩:=hv.slice
 subst e1 e2
 have H:Hid _:=h
 have K5:Hid _:=k5
 have hlt:=h.lt
 have K3:Hid _:=k3
 have K4:Hid _:=k4
 clear hs hv h k5 k3 k4 hl
 go_enter Tryz.func28,Tryz.ntmps28
 go_wp2_with fail
 refine Calls.mono HC.out ?_
 rintro e w1 ⟨hb1,he⟩
 obtain rfl:e=.returned (.int .i64 0):=by
  rcases he with⟨_,j,h1,h2,hbad⟩|⟨e1,_⟩
  ·rw[K5.out j h1 h2] at hbad;cases hbad
  ·exact e1
 clear he
 have d2:=(hb1.cell (p:=⟨sb,2,none⟩) hlt).trans c2
 have HB1:Hid _:=hb1
 go_wp2_with fail
 refine(HS.out w1 HB1.out).mono ?_
 rintro e w2 ⟨rfl,⟨pos',hs2⟩,hd2⟩
 have HS2:Hid _:=hs2
 have HD2:Hid _:=hd2
 clear hs2 hd2
 go_wp2_with fail
 go_ret
 have hk1:=H.out.kept (w':=w1) (F':=F) (fun k _ hk=>HB1.out.block k hk) (fun k hk _=>hk)
 have hsz:=HB1.out.size
 refine⟨rfl,⟨fv,hb,mt,mh,pos',?_⟩,(Md.ofBelow HB1.out).trans (HD2.out.mono (fun k hk=>by rcases hk with rfl|rfl;exact H.out.shf.inT;exact H.out.shf.inH))⟩
 refine hk1.turn (HS2.out.kept (fun k _ _=>rfl) (fun k hk _=>?_)) HD2.out (fun k hk=>.inl hk) (fun i s hs=>?_)
 ·rcases hk with hk|hk
  ·exact .inl hk
  ·exact .inr (by omega)
 ·by_cases e:i=n
  ·simp[putT,e] at hs
   subst hs
   exact⟨K3.out,K4.out,K5.out⟩
  ·simp[putT,e] at hs
   exact H.out.fits i s hs
end
def noneT:Has:=fun _=>none
section
variable {w w':World}
theorem snew_any (w:World):Calls Tryz.prog 63 #[] w fun e w'=>∃mt mh hb,e=.returned (.pointer (some ⟨hb,0,none⟩))∧ShelfAt w' (fun k=>w.heap.size≤k) hb noneT mt mh (fun _=>(.slice none 0 0,.slice none 0 0))∧Below w.heap.size w w':=by
 have hmm:=@run_makeMap Tryz.prog
 go_enter Tryz.func63,Tryz.ntmps63
 go_wp2_with fail
 go_ret
 have q0:=heap_alloc3_0 w (.map #[] 0) (.map #[] 0) (.cells #[.map (some w.heap.size),.map (some (w.heap.size+1))] 152)
 have q1:=heap_alloc3_1 w (.map #[] 0) (.map #[] 0) (.cells #[.map (some w.heap.size),.map (some (w.heap.size+1))] 152)
 have q2:=heap_alloc3_2 w (.map #[] 0) (.map #[] 0) (.cells #[.map (some w.heap.size),.map (some (w.heap.size+1))] 152)
 refine⟨w.heap.size,w.heap.size+1,w.heap.size+1+1,rfl,⟨q2,?_,?_,by omega,fun id t h=>(by cases h),fun id t h=>(by cases h),by omega,by omega,by omega,fun id t h=>(by cases h)⟩,((((Below.refl _ _).alloc (Nat.le_refl _) _).alloc (by simp) _).alloc (by simp;omega) _)⟩
 ·exact⟨#[],0,q0,MapKept.stamped_empty 0,by simp,fun key v=>⟨fun h=>(by obtain⟨i,t,h,_⟩:=h;cases h),fun h=>(by obtain⟨e,h,_⟩:=h;simp at h)⟩⟩
 ·exact⟨#[],0,q1,MapKept.stamped_empty 0,by simp,fun key v=>⟨fun h=>(by obtain⟨f,x,ws,_,_,_,_,_,j,_,t,h,_⟩:=h;cases h),fun h=>(by obtain⟨e,h,_⟩:=h;simp at h)⟩⟩
theorem pnew_bad (fv:Value)(space E:Int)(hE:E≠0)(hc:Calls Tryz.prog 61 #[fv,.int .i64 space] w fun e w'=>e=.returned (.int .i64 E)∧Below w.heap.size w w'):
  Calls Tryz.prog 39 #[fv,.int .i64 space] w fun e w'=>e=.returned (.tuple #[.pointer none,.int .i64 E])∧Below w.heap.size w w':=by
 have HC:Hid _:=hc
 have hE2:(E != 0)=true:=by simpa using hE
 clear hc hE
 go_enter Tryz.func39,Tryz.ntmps39
 go_wp2_with fail
 refine Calls.mono HC.out ?_
 rintro e w1 ⟨rfl,hb1⟩
 go_wp2_with fail
 go_ret2
 exact⟨rfl,hb1⟩
set_option maxHeartbeats 1000000 in
theorem pnew_ok (hsg:Signs w)(hg0:1<w.heap.size)(fs:List Doc.Fld)(fv:Value)(hs:Sl w fv fs.length (fldsC fs))(space:Int)(k1:1≤fs.length)(k2:fs.length≤4)(k3:1≤space)(k4:space≤4)(hnm:∀j (h:j<fs.length),fs[j].name.size≤140737488351232)
  (k5:∀j (h:j<fs.length),Doc.kindB fs[j].kind=true) (k6:∀j (h:j<fs.length),(Doc.nameB fs[j].name && !Doc.hasB (fs.take j) fs[j].name)=true):
  Calls Tryz.prog 39 #[fv,.int .i64 space] w fun e w'=>∃sb,e=.returned (.tuple #[.pointer (some ⟨sb,0,none⟩),.int .i64 0])∧ProgSt w' (fun k=>w.heap.size≤k) sb fs space noneT∧Below w.heap.size w w':=by
 have HC:Hid _:=cnew_any hsg hg0 fs fv hs space k1 k2 k3 k4 hnm
 have HO:Hid (∀W,Below w.heap.size w W→Calls Tryz.prog 62 #[fv] W fun e w'=>∃v,e=.returned v∧w'.ownsRow W.heap.size 92 2 v fs.length (fldsC fs)∧Below W.heap.size W w'):=fun W hW=>ownFields_any fs k1 k2 fv (hs.below hW) hnm
 have K5:Hid _:=k5
 have K6:Hid _:=k6
 clear k5 k6 hs
 go_enter Tryz.func39,Tryz.ntmps39
 go_wp2_with fail
 refine Calls.mono HC.out ?_
 rintro e w1 ⟨hb1,he⟩
 obtain rfl:e=.returned (.int .i64 0):=by
  rcases he with⟨_,j,h1,hbad⟩|⟨_,_,j,h1,hbad⟩|⟨_,_,e1⟩
  ·rw[K5.out j h1] at hbad;cases hbad
  ·rw[K6.out j h1] at hbad;cases hbad
  ·exact e1
 clear he
 have HB1:Hid _:=hb1
 go_wp2_with fail
 refine(HO.out w1 HB1.out).mono ?_
 rintro e w2 ⟨v,rfl,r2,hb2⟩
 obtain⟨b,c,rfl⟩:=row_slice r2
 have R2:Hid _:=r2
 have HB2:Hid _:=hb2
 clear r2 hb1 hb2
 go_wp2_with fail
 refine(snew_any w2).mono ?_
 rintro e w3 ⟨mt,mh,hb,rfl,hs3,hb3⟩
 have HS3:Hid _:=hs3
 have HB3:Hid _:=hb3
 clear hs3 hb3
 go_wp2_with fail
 go_ret2
 have s1:=HB1.out.size
 have s2:=HB2.out.size
 have s3:=HB3.out.size
 have hal:∀k,k<w3.heap.size→(w3.alloc (.cells #[.slice b fs.length c,.int .i64 space,.pointer (some ⟨hb,0,none⟩)] 99)).heap[k]? =w3.heap[k]? :=fun k hk=>Below.heap_alloc _ _ _ hk
 refine⟨w3.heap.size,rfl,⟨.slice b fs.length c,hb,mt,mh,_,⟨heap_alloc_new w3 _,?_,HS3.out.kept (fun k _ hk=>hal k hk) (fun k hk _=>by show w.heap.size≤k;omega),⟨k1,k2⟩,⟨k3,k4⟩,fun j h=>?_,fun id t h=>(by cases h),by show w.heap.size≤w3.heap.size;omega,fun k e=>?_⟩⟩,?_⟩
 ·exact rowKept (own_less R2.out (Nat.zero_le _)) (fun k _ ek ho=>(hal k (Nat.lt_of_lt_of_le (ownLt R2.out ek) s3)).trans ((HB3.out.block k (ownLt R2.out ek)).trans ho))
 ·have:=K5.out j h
  simp[Doc.kindB] at this
  exact this
 ·have:=own_ge R2.out e;show w.heap.size≤k;omega
 ·exact((HB1.out.trans (HB2.out.mono s1)).trans (HB3.out.mono (by omega))).alloc (by omega) _
end
end Go.Proofs.YtbnelaoeblhndaaGreatDoor
