import Derived.Test.YtbnelaoeblhndaaGreatDoorThN3
import Derived.Test.YtbnelaoeblhndaaGreatDoorThN5
namespace Go.Proofs.YtbnelaoeblhndaaGreatDoor
open Go.RowKit
open Go.Maps (Keyed)
set_option maxRecDepth 100000
abbrev Has:=Int→Option (List Int×List Doc.Val)
def Hof (th:Has):Nat→Nat→Doc.Val→Prop:=fun j f x=>∃t,th (j:Int)=some t∧t.2[f]? =some x
def cutH (th:Has)(id:Int)(k:Nat):Nat→Nat→Doc.Val→Prop:=fun j f x=>Hof th j f x∧¬((j:Int)=id∧f<k)
def thingM (th:Has)(pos:Int→Value×Value):Value→Value→Prop:=fun key v=>∃id t,th id=some t∧key=.int .i64 id∧v=.agg #[(pos id).1,(pos id).2]
def dropT (th:Has)(id:Int):Has:=fun i=>if i=id then none else th i
def putT (th:Has)(id:Int)(t:List Int×List Doc.Val):Has:=fun i=>if i=id then some t else th i
theorem holdM_congr {H H':Nat→Nat→Doc.Val→Prop}(h:∀j f x,j<4096→(H j f x↔H' j f x))(key v:Value):holdM H key v↔holdM H' key v:=by
 constructor
 ·rintro⟨f,x,ws,a,b,c,d,e,j,hj,g⟩
  exact⟨f,x,ws,a,b,c,d,fun i hi=>(e i hi).trans (h i f x hi),j,hj,(h j f x hj).1 g⟩
 ·rintro⟨f,x,ws,a,b,c,d,e,j,hj,g⟩
  exact⟨f,x,ws,a,b,c,d,fun i hi=>(e i hi).trans (h i f x hi).symm,j,hj,(h j f x hj).2 g⟩
structure ShelfAt (w:World)(F:Nat→Prop)(hb:Nat)(th:Has)(mt mh:Nat)(pos:Int→Value×Value):Prop where
 blk:w.heap[hb]? =some (shelfO mt mh)
 thg:MapIs Tryz.prog 3 w mt (thingM th pos)
 hold:MapIs Tryz.prog 155 w mh (holdM (Hof th))
 ne:mt≠mh
 rng:∀id t,th id=some t→0≤id∧id≤4095∧t.1.length≤4∧t.2.length≤4∧∀x∈t.2,Fine x
 each:∀id t,th id=some t→w.ownsRow 0 3 1 (pos id).1 t.1.length (intC t.1)∧w.ownsRow 0 94 3 (pos id).2 t.2.length (valsC t.2)
 inS:F hb
 inT:F mt
 inH:F mh
 inE:∀id t,th id=some t→∀k,(pos id).1.ownBlock=some k∨(pos id).2.ownBlock=some k→F k
section
variable {w w':World}{F:Nat→Prop}{hb mt mh:Nat}{th:Has}{pos:Int→Value×Value}
theorem row_not_map {m e size n:Nat}{v:Value}{cs:List Value}{P:Program}{k:TypeId}{f:Value→Value→Prop}{b j:Nat}(h:w.ownsRow m e size v n cs)(hm:MapIs P k w b f)(hj:v.ownBlock=some j):j≠b:=by
 rintro rfl
 obtain⟨_,cs',t⟩:=own_type h hj
 obtain⟨es,clock,h1,_⟩:=hm.has
 rw[t] at h1;cases h1
theorem ShelfAt.lt (h:ShelfAt w F hb th mt mh pos):hb<w.heap.size:=lt_block h.blk
theorem ShelfAt.hbt (h:ShelfAt w F hb th mt mh pos):hb≠mt:=by
 rintro rfl
 obtain⟨es,clock,h1,_⟩:=h.thg.has
 rw[h.blk] at h1;cases h1
theorem ShelfAt.hbh (h:ShelfAt w F hb th mt mh pos):hb≠mh:=by
 rintro rfl
 obtain⟨es,clock,h1,_⟩:=h.hold.has
 rw[h.blk] at h1;cases h1
theorem ShelfAt.kept {F':Nat→Prop}(h:ShelfAt w F hb th mt mh pos)(hk:∀k,F k→k<w.heap.size→w'.heap[k]? =w.heap[k]?)(hF:∀k,F k→k<w.heap.size→F' k):ShelfAt w' F' hb th mt mh pos:=by
 refine⟨(hk _ h.inS h.lt).trans h.blk,h.thg.kept (hk _ h.inT h.thg.lt),h.hold.kept (hk _ h.inH h.hold.lt),h.ne,h.rng,fun id t ht=>?_,hF _ h.inS h.lt,hF _ h.inT h.thg.lt,hF _ h.inH h.hold.lt,fun id t ht k hk2=>?_⟩
 ·obtain⟨r1,r2⟩:=h.each id t ht
  exact⟨rowKept r1 (fun k o e ho=>(hk k (h.inE id t ht k (.inl e)) (ownLt r1 e)).trans ho),rowKept r2 (fun k o e ho=>(hk k (h.inE id t ht k (.inr e)) (ownLt r2 e)).trans ho)⟩
 ·obtain⟨r1,r2⟩:=h.each id t ht
  refine hF k (h.inE id t ht k hk2) ?_
  rcases hk2 with e|e
  ·exact ownLt r1 e
  ·exact ownLt r2 e
theorem int_key {id:Int}(h0: -9223372036854775808≤id)(h1:id≤9223372036854775807):keyOf Tryz.prog 3 (.int .i64 id)=some (.int .i64 id):=
 Go.Maps.keyOf_int_mk Tryz.underlying3 (by simpa[Lit.wf,IntKind.min,IntKind.max,IntKind.signed,IntKind.bits] using⟨h0,h1⟩)
theorem sdrop_none (h:ShelfAt w F hb th mt mh pos)(id:Int)(h0: -9223372036854775808≤id)(h1:id≤9223372036854775807)(hn:th id=none):
  Calls Tryz.prog 41 #[.pointer (some ⟨hb,0,none⟩),.int .i64 id] w fun e w'=>e=.returned (.bool false)∧Below w.heap.size w w':=by
 have c0:w.cell? ⟨hb,0,none⟩=some (.map (some mt)):=blk_cell h.blk 0 _ rfl
 obtain⟨zt,hzt,HZT⟩:∃zt,(∀w,(zeroValue 104).run Tryz.prog w=.ok (.agg zt) w)∧Hid (zt= #[.slice none 0 0,.slice none 0 0]):=⟨_,Tryz.zeroValue104,rfl⟩
 have hlk:=h.thg.look_none true intKeyed Tryz.underlying149 (hzt w) (int_key h0 h1) (fun v hv=>by
  obtain⟨i,t,ht,e,_⟩:=hv
  simp at e;subst e
  rw[hn] at ht;cases ht)
 rw[HZT.out] at hlk
 simp only[if_true] at hlk
 clear hzt
 go_enter Tryz.func41,Tryz.ntmps41
 go_wp2_with fail
 go_ret
 exact⟨rfl,(Below.refl _ _).alloc (Nat.le_refl _) _⟩
theorem cut_zero (th:Has)(id:Int):∀j f x,j<4096→(Hof th j f x↔cutH th id 0 j f x):=fun j f x _=>⟨fun h=>⟨h,by omega⟩,fun h=>h.1⟩
theorem cut_step {th:Has}{id:Nat}{t:List Int×List Doc.Val}(ht:th (id:Int)=some t){k:Nat}{x:Doc.Val}(hx:t.2[k]? =some x):∀j f y,j<4096→(lessH (cutH th id k) id k x j f y↔cutH th id (k+1) j f y):=by
 intro j f y _
 constructor
 ·rintro⟨⟨h1,h2⟩,h3⟩
  refine⟨h1,?_⟩
  rintro⟨e,hf⟩
  obtain rfl:j=id:=by omega
  by_cases hfk:f=k
  ·subst hfk
   obtain⟨t',ht',hy⟩:=h1
   rw[ht] at ht';cases ht'
   rw[hx] at hy;cases hy
   exact h3 ⟨rfl,rfl,rfl⟩
  ·exact h2 ⟨e,by omega⟩
 ·rintro⟨h1,h2⟩
  exact⟨⟨h1,fun h=>h2 ⟨h.1,by omega⟩⟩,fun h=>h2 ⟨by omega,by omega⟩⟩
theorem cut_all {th:Has}{id:Nat}{t:List Int×List Doc.Val}(ht:th (id:Int)=some t):∀j f y,j<4096→(cutH th id t.2.length j f y↔Hof (dropT th id) j f y):=by
 intro j f y _
 constructor
 ·rintro⟨⟨t',ht',hy⟩,h2⟩
  have hne:(j:Int)≠id:=by
   intro e
   rw[e,ht] at ht';cases ht'
   exact h2 ⟨e,(List.getElem?_eq_some_iff.1 hy).1⟩
  exact⟨t',by simp[dropT,hne,ht'],hy⟩
 ·rintro⟨t',ht',hy⟩
  by_cases e:(j:Int)=id
  ·simp[dropT,e] at ht'
  ·simp[dropT,e] at ht'
   exact⟨⟨t',ht',hy⟩,fun h=>e h.1⟩
set_option maxHeartbeats 2000000 in
theorem sdrop_some (h:ShelfAt w F hb th mt mh pos)(id:Nat)(t:List Int×List Doc.Val)(hn:th (id:Int)=some t):
  Calls Tryz.prog 41 #[.pointer (some ⟨hb,0,none⟩),.int .i64 id] w fun e w'=>e=.returned (.bool true)∧ShelfAt w' F hb (dropT th id) mt mh pos∧Md (fun j=>j=mt∨j=mh) w w':=by
 have c0:w.cell? ⟨hb,0,none⟩=some (.map (some mt)):=blk_cell h.blk 0 _ rfl
 obtain⟨g0,g1,_,g2,g3⟩:=h.rng id t hn
 obtain⟨r1,r2⟩:=h.each id t hn
 have hkey:=int_key (id:=(id:Int)) (by omega) (by omega)
 have hlk:=h.thg.look_some true intKeyed Tryz.underlying149 hkey ⟨id,t,hn,rfl,rfl⟩
 simp only[if_true] at hlk
 obtain⟨b1,m1,e1⟩:=row_slice r1
 obtain⟨b2,m2,e2⟩:=row_slice r2
 rw[e1,e2] at hlk
 obtain⟨ob,hob⟩:=h.thg.delO intKeyed Tryz.underlying149 hkey 0
 obtain⟨hde,hdm⟩:=hob (w.alloc (.cells #[.slice b1 t.1.length m1,.slice b2 t.2.length m2] 104)) (Below.heap_alloc _ _ _ h.thg.lt)
 obtain⟨w1,HW1⟩:∃w1,Hid (w1=Go.ChangeMaps.setBlock (w.alloc (.cells #[.slice b1 t.1.length m1,.slice b2 t.2.length m2] 104)) mt ob):=⟨_,rfl⟩
 rw[←HW1.out] at hde hdm
 have hmd1:Md (fun j=>j=mt∨j=mh) w w1:=by
  rw[HW1.out];exact((Md.refl _ w).alloc _).trans ((setBlock_md _ _ _).mono (fun k hk=>.inl hk))
 have hsz:w.heap.size<w1.heap.size:=by rw[HW1.out,setBlock_size];simp
 have hbx:w1.heap[w.heap.size]? =some (.cells #[.slice b1 t.1.length m1,.slice b2 t.2.length m2] 104 (0,0)):=by
  rw[HW1.out,setBlock_other _ (by have:=h.thg.lt;omega)];exact heap_alloc_new w _
 have HMH:Hid (w1.heap[mh]? =w.heap[mh]?):=by
  show _=_
  rw[HW1.out,setBlock_other _ (Ne.symm h.ne)];exact Below.heap_alloc _ _ _ h.hold.lt
 have HOLD:Hid (∀k,k<w.heap.size→k≠mt→w1.heap[k]? =w.heap[k]?):=by
  intro k hk hne
  rw[HW1.out,setBlock_other _ hne];exact Below.heap_alloc _ _ _ hk
 have HNM:Hid (∀k,(pos id).1.ownBlock=some k∨(pos id).2.ownBlock=some k→k≠mt∧k≠mh):=by
  rintro k (e|e)
  ·exact⟨row_not_map r1 h.thg e,row_not_map r1 h.hold e⟩
  ·exact⟨row_not_map r2 h.thg e,row_not_map r2 h.hold e⟩
 rw[e1,e2] at HNM
 have k1:=blk_cell hbx 1 _ rfl
 have hlt:=h.lt
 have H:Hid _:=h
 have HDM:Hid _:=hdm
 have HR2:Hid _:=rowSl r2
 rw[e2] at HR2
 have HMD1:Hid _:=hmd1
 clear hob hdm hmd1 hbx r1 r2 hkey h
 go_enter Tryz.func41,Tryz.ntmps41
 go_wp2_with fail
 go_loopw [28] (fun i wr=>∃k:Nat,k≤t.2.length∧i=.int .i64 k∧Hid (MapIs Tryz.prog 155 wr mh (holdM (cutH th id k)))∧Hid (Md (fun j=>j=mh) w1 wr)) (fun i _=>t.2.length-(intOf i).toNat)
 case atStart=>
  refine⟨0,Nat.zero_le _,rfl,?_,Md.refl _ _⟩
  exact MapIs.congr (H.out.hold.kept HMH.out) (holdM_congr (fun j f x hj=>(cut_zero th id j f x hj).symm))
 case round=>
  obtain⟨k,hk,rfl,HM,HMD⟩:=hrel
  by_cases hk2:k<t.2.length
  ·have hsl:=HR2.out.has
   obtain⟨b,off,hb2,hbl,hrd⟩:∃b off,b2=some ⟨b,off,none⟩∧b<w.heap.size∧∀j u,(valsC t.2)[j]? =some u→w.cell? ⟨b,off+j,none⟩=some u:=by
    rcases hsl with⟨h0,_⟩|⟨h0,b,off,cap,e,_,hl,hr⟩
    ·omega
    ·simp at e;exact⟨b,off,e.1,hl,hr⟩
   clear hsl
   subst hb2
   obtain⟨n1,n2⟩:=HNM.out b (.inr rfl)
   have hcell:∀i,wr.cell? ⟨b,i,none⟩=w.cell? ⟨b,i,none⟩:=fun i=>by
    have:=(HMD.out.only b (by have:=HMD1.out.size;omega) n2).trans (HOLD.out b hbl n1)
    simp[World.cell?,this]
   obtain⟨x,HX⟩:∃x,Hid (t.2[k]? =some x):=⟨t.2[k],List.getElem?_eq_getElem hk2⟩
   have hx0:=(hcell _).trans (hrd (k*3+0) (.int .i64 x.k) (by unfold valsC;rw[flat_at valC 3 valC_len t.2 k hk2 0 (by omega)];rw[List.getElem?_eq_getElem hk2] at HX;obtain rfl:=Option.some.inj HX.out;rfl))
   have hx1:=(hcell _).trans (hrd (k*3+1) (.int .i64 x.n) (by unfold valsC;rw[flat_at valC 3 valC_len t.2 k hk2 1 (by omega)];rw[List.getElem?_eq_getElem hk2] at HX;obtain rfl:=Option.some.inj HX.out;rfl))
   have hx2:=(hcell _).trans (hrd (k*3+2) (.string x.s) (by unfold valsC;rw[flat_at valC 3 valC_len t.2 k hk2 2 (by omega)];rw[List.getElem?_eq_getElem hk2] at HX;obtain rfl:=Option.some.inj HX.out;rfl))
   rw[←Nat.add_assoc] at hx1 hx2
   rw[Nat.add_zero] at hx0
   have HFX:Hid (Fine x):=g3 x (List.mem_of_getElem? HX.out)
   have hal:∀o,MapIs Tryz.prog 155 (wr.alloc o) mh (holdM (cutH th id k)):=fun o=>HM.out.kept (Below.heap_alloc _ _ _ HM.out.lt)
   have hsb:∀o,(wr.alloc o).heap[hb]? =some (shelfO mt mh):=fun o=>by
    have hl2:hb<wr.heap.size:=by have:=HMD.out.size;omega
    rw[Below.heap_alloc _ _ _ hl2,HMD.out.only hb (by omega) H.out.hbh,HOLD.out hb hlt H.out.hbt];exact H.out.blk
   have HREL:Hid (∀o,Calls Tryz.prog 65 #[.pointer (some ⟨hb,0,none⟩),.agg #[.int .i64 k,.int .i64 x.k,.int .i64 x.n,.string x.s],.int .i64 id] (wr.alloc o) fun e w'=>e=.returned (.tuple #[])∧MapIs Tryz.prog 155 w' mh (holdM (lessH (cutH th id k) id k x))∧Md (fun j=>j=mh) (wr.alloc o) w'):=
    fun o=>release_any (hsb o) (hal o) k (by omega) x HFX.out id (by omega) ⟨⟨t,hn,HX.out⟩,by omega⟩
   clear hcell hrd hal hsb
   go_wp2_with fail
   refine(HREL.out _).mono ?_
   rintro e w3 ⟨rfl,hm3,hd3⟩
   have HM3:Hid _:=hm3
   have HD3:Hid _:=hd3
   clear hm3 hd3
   go_wp2_with fail
   go_roundw
   case rel=>exact⟨k+1,by omega,by go_num,MapIs.congr HM3.out (holdM_congr (fun j f y hj=>(cut_step hn HX.out j f y hj).symm)),(HMD.out.alloc _).trans HD3.out⟩
   case measure=>simp[intOf];omega
  ·obtain rfl:k=t.2.length:=by omega
   go_wp2_with fail
   go_ret
   have hold:∀k,k<w.heap.size→k≠mt→k≠mh→wr.heap[k]? =w.heap[k]? :=fun k hk h1 h2=>(HMD.out.only k (by have:=HMD1.out.size;omega) h2).trans (HOLD.out k hk h1)
   refine⟨rfl,⟨(hold hb hlt H.out.hbt H.out.hbh).trans H.out.blk,?_,MapIs.congr HM.out (holdM_congr (fun j f y hj=>(cut_all hn j f y hj).symm)),H.out.ne,fun i s hs=>?_,fun i s hs=>?_,H.out.inS,H.out.inT,H.out.inH,fun i s hs=>?_⟩,HMD1.out.trans (HMD.out.mono (fun j hj=>.inr hj))⟩
   ·refine MapIs.congr (HDM.out.kept (HMD.out.only mt HDM.out.lt H.out.ne)) (fun key v=>?_)
    constructor
    ·rintro⟨i,s,hs,rfl,rfl⟩
     by_cases e:i=id
     ·simp[dropT,e] at hs
     ·simp[dropT,e] at hs
      exact⟨by simp[e],i,s,hs,rfl,rfl⟩
    ·rintro⟨hne,i,s,hs,rfl,rfl⟩
     have e:i≠id:=by rintro rfl;exact hne rfl
     exact⟨i,s,by simp[dropT,e,hs],rfl,rfl⟩
   all_goals
    by_cases e:i=id
    ·simp[dropT,e] at hs
    ·simp[dropT,e] at hs
     first
      |exact H.out.rng i s hs
      |exact H.out.inE i s hs
      | (obtain⟨q1,q2⟩:=H.out.each i s hs
         exact⟨rowKept q1 (fun k o ek ho=>(hold k (ownLt q1 ek) (row_not_map q1 H.out.thg ek) (row_not_map q1 H.out.hold ek)).trans ho),rowKept q2 (fun k o ek ho=>(hold k (ownLt q2 ek) (row_not_map q2 H.out.thg ek) (row_not_map q2 H.out.hold ek)).trans ho)⟩)
end
end Go.Proofs.YtbnelaoeblhndaaGreatDoor
namespace Go.Proofs.YtbnelaoeblhndaaGreatDoor
open Go.RowKit
set_option maxRecDepth 100000
theorem valsC_one' (l:List Doc.Val):∀u∈valsC l,u.oneCell'=true:=by
 intro u hu
 obtain⟨v,_,hv⟩:=List.mem_flatMap.1 hu
 simp only[valC,List.mem_cons,List.not_mem_nil,or_false] at hv
 rcases hv with rfl|rfl|rfl<;>rfl
theorem intC_len (l:List Int):(intC l).length=l.length*1:=by simp[intC]
theorem valsC_len' (l:List Doc.Val):(valsC l).length=l.length*3:=by
 induction l with
 |nil=>rfl
 |cons a r ih=>simp[valsC,List.flatMap_cons,valC] at ih ⊢;omega
theorem row_below {w w':World}{m e size n:Nat}{v:Value}{cs:List Value}(h:w.ownsRow m e size v n cs)(hb:Below w.heap.size w w'):w'.ownsRow m e size v n cs:=
 rowKept h (fun k _ ek ho=>(hb.block k (ownLt h ek)).trans ho)
theorem own_less {w:World}{m m' e size n:Nat}{v:Value}{cs:List Value}(h:w.ownsRow m e size v n cs)(hm:m'≤m):w.ownsRow m' e size v n cs:=by
 obtain⟨a,b⟩:=h
 refine⟨a,?_⟩
 rcases b with b|⟨g',cap',cur',e1,h1,r⟩
 ·exact .inl b
 ·exact .inr ⟨g',cap',cur',e1,Nat.le_trans hm h1,r⟩
theorem row_set {w:World}{m e size n:Nat}{v:Value}{cs:List Value}{g i:Nat}{u:Value}{cu:Array Value}{T:TypeId}(h:w.ownsRow m e size v n cs)(hg:w.heap[g]? =some (.cells cu T (0,0)))(hT:e≠T):(w.setCell ⟨g,i,none⟩ u).ownsRow m e size v n cs:=
 rowKept h (fun k _ ek ho=>by
  have hne:k≠g:=by
   rintro rfl
   obtain⟨_,cs',t⟩:=own_type h ek
   rw[hg] at t;simp at t;exact hT t.2.symm
  rw[Below.heap_setCell _ _ _ _ hne];exact ho)
theorem pair_set {w3:World}{g m n1 n2 c1 c2:Nat}{z0 z1:Value}{b1 b2:Option Addr}{T:TypeId}{e1 e2 s1 s2:Nat}{cs1 cs2:List Value}{m':Nat}(hg:w3.heap[g]? =some (.cells #[z0,z1] T (0,0)))
  (r1:w3.ownsRow m e1 s1 (.slice b1 n1 c1) n1 cs1) (r2:w3.ownsRow m' e2 s2 (.slice b2 n2 c2) n2 cs2) (h1:e1≠T) (h2:e2≠T):
  ((w3.setCell ⟨g,0,none⟩ (.slice b1 n1 c1)).setCell ⟨g,1,none⟩ (.slice b2 n2 c2)).heap[g]? =some (.cells #[.slice b1 n1 c1,.slice b2 n2 c2] T (0,0))∧
  ((w3.setCell ⟨g,0,none⟩ (.slice b1 n1 c1)).setCell ⟨g,1,none⟩ (.slice b2 n2 c2)).ownsRow m e1 s1 (.slice b1 n1 c1) n1 cs1∧((w3.setCell ⟨g,0,none⟩ (.slice b1 n1 c1)).setCell ⟨g,1,none⟩ (.slice b2 n2 c2)).ownsRow m' e2 s2 (.slice b2 n2 c2) n2 cs2:=by
 have q1:=set_blk' hg 0 (.slice b1 n1 c1)
 exact⟨set_blk' q1 1 _,row_set (row_set r1 hg h1) q1 h1,row_set (row_set r2 hg h2) q1 h2⟩
theorem set_same {w:World}{b i:Nat}{cu:Array Value}{T:TypeId}{fr:Nat×Nat}{v:Value}(h:w.heap[b]? =some (.cells cu T fr))(hv:cu[i]? =some v):(w.setCell ⟨b,i,none⟩ v).heap[b]? =w.heap[b]? :=by
 rw[set_blk' h,h]
 congr 2
 apply Array.ext_getElem?
 intro j
 rw[Array.getElem?_setIfInBounds]
 by_cases e:i=j
 ·subst e
  rw[hv]
  have:=(Array.getElem?_eq_some_iff.1 hv).1
  simp[this]
 ·simp[e]
section
variable {w:World}
set_option maxHeartbeats 2000000 in
theorem copied_any (sv vv:Value)(spot:List Int)(vals:List Doc.Val)(hs:Sl w sv spot.length (intC spot))(hv:Sl w vv vals.length (valsC vals))(hn:spot.length≤1000000)(hm:vals.length≤1000000)(hx:∀x∈vals,x.s.size≤200):
  Calls Tryz.prog 68 #[.agg #[sv,vv]] w fun e w'=>∃v1 v2,e=.returned (.agg #[v1,v2])∧w'.ownsRow w.heap.size 3 1 v1 spot.length (intC spot)∧w'.ownsRow w.heap.size 94 3 v2 vals.length (valsC vals)∧Below w.heap.size w w':=by
 obtain⟨b1,c1,e1⟩:=hs.slice
 obtain⟨b2,c2,e2⟩:=hv.slice
 subst e1 e2
 obtain⟨w0,HW0⟩:∃w0,Hid (w0=(w.alloc (.cells #[.slice b1 spot.length c1,.slice b2 vals.length c2] 104)).alloc (.cells #[.slice none 0 0,.slice none 0 0] 104)):=⟨_,rfl⟩
 have hz0:w0.heap.size=w.heap.size+2:=by rw[HW0.out];simp
 have hb0:Below w.heap.size w w0:=by rw[HW0.out];exact((Below.refl _ _).alloc (Nat.le_refl _) _).alloc (by simp) _
 have hq0:w0.heap[w.heap.size]? =some (.cells #[.slice b1 spot.length c1,.slice b2 vals.length c2] 104 (0,0)):=by rw[HW0.out];exact heap_alloc2_old w _ _
 have hq1:w0.heap[w.heap.size+1]? =some (.cells #[.slice none 0 0,.slice none 0 0] 104 (0,0)):=by rw[HW0.out];exact heap_alloc2_new w _ _
 have hB:w.heap.size+2≤w0.heap.size:=by omega
 have HSB:Hid (∀w':World,Below (w.heap.size+2) w0 w'→Below (w.heap.size+2) w0 w'∧w'.cell? ⟨w.heap.size,0,none⟩=some (.slice b1 spot.length c1)∧w'.cell? ⟨w.heap.size,1,none⟩=some (.slice b2 vals.length c2)):=by
  intro w' h'
  have q:=(h'.block w.heap.size (by omega)).trans hq0
  exact⟨h',blk_cell q 0 _ rfl,blk_cell q 1 _ rfl⟩
 have HI:Hid (∀W,Below w.heap.size w W→Calls Tryz.prog 109 #[.slice b1 spot.length c1] W fun e w'=>∃v',e=.returned v'∧w'.ownsRow W.heap.size 3 1 v' spot.length (intC spot)∧Below W.heap.size W w'):=
  fun W hW=>cloneI_any _ _ _ (hs.below hW) (intC_len _) hn (intC_one _)
 have HV:Hid (∀W,Below w.heap.size w W→Calls Tryz.prog 110 #[.slice b2 vals.length c2] W fun e w'=>∃v',e=.returned v'∧w'.ownsRow W.heap.size 94 3 v' vals.length (valsC vals)∧Below W.heap.size W w'):=
  fun W hW=>cloneV_any _ _ _ (hv.below hW) (valsC_len' _) hm (valsC_one' _)
 have HZ0:Hid _:=hz0
 have HQ1:Hid _:=hq1
 have HQ3:Hid (∀W w3:World,Below (W.alloc (.cells #[.slice none 0 0,.slice none 0 0] 104)).heap.size (W.alloc (.cells #[.slice none 0 0,.slice none 0 0] 104)) w3→w3.cell? ⟨W.heap.size,0,none⟩=some (.slice none 0 0)∧w3.cell? ⟨W.heap.size,1,none⟩=some (.slice none 0 0)∧w3.frozen? ⟨W.heap.size,0,none⟩=false∧w3.frozen? ⟨W.heap.size,1,none⟩=false∧W.heap.size<w3.heap.size):=fun W w3 h=>by
  have q:=(h.block W.heap.size (by simp)).trans (heap_alloc_new W _)
  exact⟨blk_cell q 0 _ rfl,blk_cell q 1 _ rfl,blk_free q 0,blk_free q 1,lt_block q⟩
 have HQ:Hid (∀W w2:World,Below (W.alloc (.cells #[.slice none 0 0,.slice none 0 0] 104)).drew.heap.size (W.alloc (.cells #[.slice none 0 0,.slice none 0 0] 104)).drew w2→∀w3,Below w2.heap.size w2 w3→w3.cell? ⟨W.heap.size,0,none⟩=some (.slice none 0 0)∧w3.cell? ⟨W.heap.size,1,none⟩=some (.slice none 0 0)∧w3.frozen? ⟨W.heap.size,0,none⟩=false∧w3.frozen? ⟨W.heap.size,1,none⟩=false∧W.heap.size<w3.heap.size):=fun W w2 h w3 h3=>HQ3.out W w3 (Below.callB ((Below.refl _ _).drew.trans h) (Nat.le_refl _) h3)
 have HG2:Hid (∀w2:World,Below (w0.alloc (.cells #[.slice none 0 0,.slice none 0 0] 104)).drew.heap.size (w0.alloc (.cells #[.slice none 0 0,.slice none 0 0] 104)).drew w2→w.heap.size+2≤w2.heap.size):=fun w2 h=>by
  have:=h.size
  simp at this
  omega
 clear hz0 hq0 hq1 hs hv
 go_enter Tryz.func68,Tryz.ntmps68
 go_wp2_with fail
 rw[←HW0.out]
 go_cut [3] (fun v wx=>∃g b3 c3 b4 c4,v=.pointer (some ⟨g,0,none⟩)∧Below (w.heap.size+2) w0 wx∧w.heap.size+2≤g∧wx.heap[g]? =some (.cells #[.slice b3 spot.length c3,.slice b4 vals.length c4] 104 (0,0))∧wx.ownsRow (w.heap.size+2) 3 1 (.slice b3 spot.length c3) spot.length (intC spot)∧wx.ownsRow (w.heap.size+2) 94 3 (.slice b4 vals.length c4) vals.length (valsC vals))
 case first=>
  (first|go_region_held3 (fun w'=>Below (w.heap.size+2) w0 w'∧w'.cell? ⟨w.heap.size,0,none⟩=some (.slice b1 spot.length c1)∧w'.cell? ⟨w.heap.size,1,none⟩=some (.slice b2 vals.length c2)) (first|(refine HSB.out _ ?_;repeat (first|exact Below.refl _ _|refine Below.drew ?_|refine Below.allocB ?_ hB _|refine Below.callB ?_ hB hb3|refine Below.callB ?_ hB hb2|refine Below.setCell ?_ hB _|refine Below.setCell ?_ hgg _))) (first|(go_at_call 109;refine(HI.out w0.drew hb0.drew).mono ?_;rintro r w2 ⟨v1,rfl,hown1,hb2⟩;obtain⟨b3,c3,rfl⟩:=row_slice hown1;have hbw:=Below.callB hb0.drew (Nat.le_refl _) hb2;have hq:∀w3:World,Below w2.heap.size w2 w3→w2.heap.size≤w3.heap.size:=fun _ h=>h.size;have hg2:w.heap.size+2≤w2.heap.size:=Nat.le_trans hB hb2.size)|(go_at_call 109;refine(HI.out (w0.alloc (.cells #[.slice none 0 0,.slice none 0 0] 104)).drew (Below.drew (Below.allocB hb0 (Nat.le_refl _) _))).mono ?_;rintro r w2 ⟨v1,rfl,hown1,hb2⟩;obtain⟨b3,c3,rfl⟩:=row_slice hown1;have hbw:=Below.callB (Below.drew (Below.allocB hb0 (Nat.le_refl _) (.cells #[.slice none 0 0,.slice none 0 0] 104))) (Nat.le_refl _) hb2;have hq:=HQ.out w0 w2 hb2;have hg2:=HG2.out w2 hb2)|(go_at_call 110;refine(HV.out (w2.alloc (.cells #[.slice none 0 0,.slice none 0 0] 104)) (Below.allocB hbw (Nat.le_refl _) _)).mono ?_;rintro r w3 ⟨v2,rfl,hown2,hb3⟩;obtain⟨b4,c4,rfl⟩:=row_slice hown2;have q3:=HQ3.out w2 w3 hb3;have hgg:=hg2)|(go_at_call 110;refine(HV.out w2 hbw).mono ?_;rintro r w3 ⟨v2,rfl,hown2,hb3⟩;obtain⟨b4,c4,rfl⟩:=row_slice hown2;have q3:=hq w3 hb3;have hgg:=Nat.le_trans hg2 hb3.size)))
  all_goals (go_wp2_with fail)
  all_goals go_meet
  ·refine⟨w3.heap.size,b3,c3,b4,c4,rfl,Below.allocB (Below.callB (Below.callB (Below.refl _ _).drew hB hb2) hB hb3) hB _,hgg,heap_alloc_new w3 _,row_below (own_less (row_below hown1 hb3) hB) ((Below.refl _ _).alloc (Nat.le_refl _) _),row_below (own_less hown2 hg2) ((Below.refl _ _).alloc (Nat.le_refl _) _)⟩
  ·have r1:=row_below (row_below hown1 ((Below.refl _ _).alloc (Nat.le_refl _) _)) hb3
   obtain⟨p1,p2,p3⟩:=pair_set ((hb3.block w2.heap.size (by simp)).trans (heap_alloc_new w2 _)) r1 hown2 (by decide) (by decide)
   exact⟨w2.heap.size,b3,c3,b4,c4,rfl,Below.setCell (Below.setCell (Below.callB (Below.allocB (Below.callB (Below.refl _ _).drew hB hb2) hB _) hB hb3) hgg _) hgg _,hgg,p1,own_less p2 hB,own_less p3 (Nat.le_trans hg2 (by simp))⟩
  ·have r1:=row_below hown1 hb3
   obtain⟨p1,p2,p3⟩:=pair_set ((hb3.block w0.heap.size (Nat.lt_of_lt_of_le (by simp) hb2.size)).trans ((hb2.block w0.heap.size (by simp)).trans (heap_alloc_new w0 _))) r1 hown2 (by decide) (by decide)
   exact⟨w0.heap.size,b3,c3,b4,c4,rfl,Below.setCell (Below.setCell (Below.callB (Below.callB (Below.allocB (Below.refl _ _) hB _).drew hB hb2) hB hb3) hB _) hB _,hB,p1,own_less p2 (Nat.le_trans hB (by simp)),own_less p3 hg2⟩
 case rest=>
  obtain⟨g,b3,c3,b4,c4,rfl,hbw,hgg,hg,r1,r2⟩:=hcut
  have d0:=blk_cell hg 0 _ rfl
  have d1:=blk_cell hg 1 _ rfl
  have HR1:Hid _:=r1
  have HR2:Hid _:=r2
  have HG:Hid _:=hg
  have HBW:Hid _:=hbw
  have hgl:=lt_block hg
  clear r1 r2 hg hbw
  go_wp2_with fail
  go_loopw [15] (fun i wr=>∃k:Nat,k≤vals.length∧i=.int .i64 k∧Hid (Below (w.heap.size+2) w0 wr)∧Hid (wr.heap[g]? =some (.cells #[.slice b3 spot.length c3,.slice b4 vals.length c4] 104 (0,0)))∧Hid (wr.ownsRow (w.heap.size+2) 3 1 (.slice b3 spot.length c3) spot.length (intC spot))∧Hid (wr.ownsRow (w.heap.size+2) 94 3 (.slice b4 vals.length c4) vals.length (valsC vals))) (fun i _=>vals.length-(intOf i).toNat)
  case atStart=>exact⟨0,Nat.zero_le _,rfl,HBW,HG,HR1,HR2⟩
  case round=>
   obtain⟨k,hk,rfl,KB,KG,KR1,KR2⟩:=hrel
   have d1:=blk_cell KG.out 1 _ rfl
   by_cases hk2:k<vals.length
   ·obtain⟨vb,vc,hvb⟩:=own_slice' KR2.out (by omega)
    obtain rfl:b4=some ⟨vb,0,none⟩:=by simp at hvb;exact hvb.1
    obtain rfl:c4=vc:=by simp at hvb;exact hvb
    clear hvb
    obtain⟨cur,hcur,hcap,hcz⟩:=own_block KR2.out
    obtain⟨x,HX⟩:∃x,Hid (x=vals[k]):=⟨vals[k],rfl⟩
    have hx2:wr.cell? ⟨vb,k*3+2,none⟩=some (.string x.s):=by
     have:=KR2.out.cells (g:=vb) rfl (k*3+2) (.string x.s) (by unfold valsC;rw[flat_at valC 3 valC_len vals k hk2 2 (by omega),HX.out];rfl)
     rw[addr_add2,Nat.zero_add] at this
     exact this
    have hxs:x.s.size≤140737488351232:=by have:=hx x (by rw[HX.out];exact List.getElem_mem hk2);omega
    have hvl:=lt_block hcur
    have hglr:=lt_block KG.out
    have hvg:vb≠g:=by rintro rfl;rw[KG.out] at hcur;cases hcur
    have hci:cur[k*3+2]? =some (.string x.s):=by rw[←hx2,cell_of_row _ _ _ _ _ _ hcur]
    have hvm:=own_ge KR2.out (k:=vb) rfl
    have HCU:Hid _:=hcur
    have HCI:Hid _:=hci
    have HS5:Hid (∀w':World,w'.heap[g]? =wr.heap[g]? →w'.heap[vb]? =wr.heap[vb]? →w'.cell? ⟨g,1,none⟩=some (.slice (some ⟨vb,0,none⟩) vals.length c4)∧w'.cell? ⟨vb,k*3+2,none⟩=some (.string x.s)∧w'.frozen? ⟨vb,k*3+2,none⟩=false∧vb<w'.heap.size):=by
     intro w' h1 h2
     have q1:=h1.trans KG.out
     have q2:=h2.trans hcur
     exact⟨blk_cell q1 1 _ rfl,by rw[cell_of_row _ _ _ _ _ _ q2];exact hci,frozen_of_row _ _ _ _ _ q2,lt_block q2⟩
    clear hcur hci hx
    go_wp2_with fail
    (first|go_region_held3 (fun w'=>w'.cell? ⟨g,1,none⟩=some (.slice (some ⟨vb,0,none⟩) vals.length c4)∧w'.cell? ⟨vb,k*3+2,none⟩=some (.string x.s)∧w'.frozen? ⟨vb,k*3+2,none⟩=false∧vb<w'.heap.size) (first|exact HS5.out _ rfl rfl|exact HS5.out _ p1 p2|exact HS5.out _ p3 p4) (first|(go_at_call 106;refine(sclone_any x.s hxs wr.drew).mono ?_;rintro r w2 ⟨rfl,hb2⟩;have p1:=hb2.block g hglr;have p2:=hb2.block vb hvl;have p3:=(Below.heap_setCell w2 ⟨vb,k*3+2,none⟩ (.string x.s) g (Ne.symm hvg)).trans p1;have p4:=(set_same (p2.trans HCU.out) HCI.out).trans p2)))
    all_goals (go_wp2_with fail)
    all_goals
     go_roundw
     case rel=>exact⟨k+1,by omega,by go_num,Below.setCell (Below.callB (KB.out.drew) hB hb2) hvm _,p3.trans KG.out,rowKept KR1.out (fun j _ ej ho=>by
      have hj:j≠vb:=by
       rintro rfl
       obtain⟨_,cs',t⟩:=own_type KR1.out ej
       rw[HCU.out] at t;cases t
      rw[Below.heap_setCell _ _ _ _ hj,hb2.block j (ownLt KR1.out ej)];exact ho),rowKept KR2.out (fun j _ ej ho=>by
      cases ej;exact p4.trans ho)⟩
     case measure=>simp[intOf];omega
   ·obtain rfl:k=vals.length:=by omega
    have q1:=(KB.out.block (w.heap.size+1) (by omega)).trans HQ1.out
    have d0:=blk_cell KG.out 0 _ rfl
    have y0:=blk_cell q1 0 _ rfl
    have y1:=blk_cell q1 1 _ rfl
    have y2:=blk_free q1 0
    have y3:=blk_free q1 1
    have y4:=lt_block q1
    go_wp2_with fail
    obtain⟨p1,p2,p3⟩:=pair_set q1 KR1.out KR2.out (by decide) (by decide)
    refine bodyPost_ret (v:=.agg #[.slice b3 spot.length c3,.slice b4 vals.length c4]) (results_cell_row rfl _ _ (w.heap.size+1) 104 _ (0,0) _ rfl p1 Tryz.underlying104 rfl (by kernel_rfl)) rfl ⟨_,_,rfl,own_less p2 (by omega),own_less p3 (by omega),?_⟩
    exact Below.setCell (Below.setCell (hb0.trans (KB.out.mono (by omega))) (by show w.heap.size≤w.heap.size+1;omega) _) (by show w.heap.size≤w.heap.size+1;omega) _
end
open Go.Maps (Keyed)
section
variable {w w':World}{F:Nat→Prop}{hb mt mh:Nat}{th:Has}{pos:Int→Value×Value}
theorem sget_none (h:ShelfAt w F hb th mt mh pos)(id:Int)(h0: -9223372036854775808≤id)(h1:id≤9223372036854775807)(hn:th id=none):
  Calls Tryz.prog 47 #[.pointer (some ⟨hb,0,none⟩),.int .i64 id] w fun e w'=>e=.returned (.tuple #[.agg #[.slice none 0 0,.slice none 0 0],.bool false])∧Below w.heap.size w w':=by
 have c0:w.cell? ⟨hb,0,none⟩=some (.map (some mt)):=blk_cell h.blk 0 _ rfl
 have hlt:=h.lt
 obtain⟨zt,hzt,HZT⟩:∃zt,(∀w,(zeroValue 104).run Tryz.prog w=.ok (.agg zt) w)∧Hid (zt= #[.slice none 0 0,.slice none 0 0]):=⟨_,Tryz.zeroValue104,rfl⟩
 have hal:∀o,(w.alloc o).heap[mt]? =w.heap[mt]? :=fun o=>Below.heap_alloc _ _ _ h.thg.lt
 have hlk:=fun o=>(h.thg.kept (hal o)).look_none true intKeyed Tryz.underlying149 (hzt _) (int_key h0 h1) (fun v hv=>by
  obtain⟨i,t,ht,e,_⟩:=hv
  simp at e;subst e
  rw[hn] at ht;cases ht)
 rw[HZT.out] at hlk
 simp only[if_true] at hlk
 clear hzt hal
 go_enter Tryz.func47,Tryz.ntmps47
 go_wp2_with fail
 refine bodyPost_ret (v:=.tuple #[.agg #[.slice none 0 0,.slice none 0 0],.bool false]) (by simp[results,Tryz.results47,go_sem]) rfl ⟨rfl,?_⟩
 exact((Below.refl _ _).alloc (Nat.le_refl _) _).alloc (by simp) _
set_option maxHeartbeats 1000000 in
theorem sget_some (h:ShelfAt w F hb th mt mh pos)(id:Int)(t:List Int×List Doc.Val)(hn:th id=some t):
  Calls Tryz.prog 47 #[.pointer (some ⟨hb,0,none⟩),.int .i64 id] w fun e w'=>∃v1 v2,e=.returned (.tuple #[.agg #[v1,v2],.bool true])∧w'.ownsRow w.heap.size 3 1 v1 t.1.length (intC t.1)∧w'.ownsRow w.heap.size 94 3 v2 t.2.length (valsC t.2)∧Below w.heap.size w w':=by
 have c0:w.cell? ⟨hb,0,none⟩=some (.map (some mt)):=blk_cell h.blk 0 _ rfl
 have hlt:=h.lt
 obtain⟨g0,g1,g4,g2,g3⟩:=h.rng id t hn
 obtain⟨r1,r2⟩:=h.each id t hn
 have hlk:∀o,(Instr.lookup 149 (.map (some mt)) (.int .i64 id) true).run Tryz.prog (w.alloc o)=.ok (.tuple #[.agg #[(pos id).1,(pos id).2],.bool true]) (w.alloc o):=fun o=>
  (h.thg.kept (Below.heap_alloc _ _ _ h.thg.lt)).look_some true intKeyed Tryz.underlying149 (int_key (by omega) (by omega)) ⟨id,t,hn,rfl,rfl⟩
 obtain⟨b1,m1,e1⟩:=row_slice r1
 obtain⟨b2,m2,e2⟩:=row_slice r2
 rw[e1,e2] at hlk
 have s1:=rowSl r1
 have s2:=rowSl r2
 rw[e1] at s1
 rw[e2] at s2
 have HC:Hid (∀W,Below w.heap.size w W→Calls Tryz.prog 68 #[.agg #[.slice b1 t.1.length m1,.slice b2 t.2.length m2]] W fun e w'=>∃v1 v2,e=.returned (.agg #[v1,v2])∧w'.ownsRow W.heap.size 3 1 v1 t.1.length (intC t.1)∧w'.ownsRow W.heap.size 94 3 v2 t.2.length (valsC t.2)∧Below W.heap.size W w'):=
  fun W hW=>copied_any _ _ t.1 t.2 (s1.below hW) (s2.below hW) (by omega) (by omega) (fun x hx=>(g3 x hx).2.2.2)
 clear s1 s2 r1 r2
 go_enter Tryz.func47,Tryz.ntmps47
 go_wp2_with fail
 have hbw:Below w.heap.size w ((w.alloc (.cells #[.slice none 0 0,.slice none 0 0] 104)).alloc (.cells #[.slice b1 t.1.length m1,.slice b2 t.2.length m2] 104)):=((Below.refl _ _).alloc (Nat.le_refl _) _).alloc (by simp) _
 refine(HC.out _ hbw).mono ?_
 rintro e w3 ⟨v1,v2,rfl,r1,r2,hb3⟩
 obtain⟨b3,m3,rfl⟩:=row_slice r1
 obtain⟨b4,m4,rfl⟩:=row_slice r2
 have q3:=(hb3.block w.heap.size (by simp;omega)).trans (heap_alloc2_old w _ _)
 have y0:=blk_cell q3 0 _ rfl
 have y1:=blk_cell q3 1 _ rfl
 have y2:=blk_free q3 0
 have y3:=blk_free q3 1
 have y4:=lt_block q3
 have R1:Hid _:=r1
 have R2:Hid _:=r2
 have HB3:Hid _:=hb3
 have HBW:Hid _:=hbw
 clear r1 r2 hb3 hbw
 go_wp2_with fail
 obtain⟨p1,p2,p3⟩:=pair_set q3 R1.out R2.out (by decide) (by decide)
 have z0:=blk_cell p1 0 _ rfl
 have z1:=blk_cell p1 1 _ rfl
 refine bodyPost_ret (v:=.tuple #[.agg #[.slice b3 t.1.length m3,.slice b4 t.2.length m4],.bool true]) (by simp[results,Tryz.results47,go_sem,z0,z1]) rfl ⟨_,_,rfl,own_less p2 (by simp;omega),own_less p3 (by simp;omega),?_⟩
 exact Below.setCell (Below.setCell (Below.callB HBW.out (Nat.le_refl _) HB3.out) (Nat.le_refl _) _) (Nat.le_refl _) _
theorem cell_cells {b i:Nat}{u:Value}(h:w.cell? ⟨b,i,none⟩=some u):∃(cu:Array Value) (T:TypeId) (fr:Nat×Nat),w.heap[b]? =some (.cells cu T fr):=by
 cases hq:w.heap[b]? with
 |none=>simp[World.cell?,hq] at h
 |some o=>
  cases o with
  |cells cu T fr=>exact⟨cu,T,fr,rfl⟩
  | _=>simp[World.cell?,hq] at h
theorem Sl.maps {sv:Value}{n:Nat}{cs:List Value}(h:Sl w sv n cs)(hcs:0<n→cs≠[])(hs:w.heap.size≤w'.heap.size)(hk:∀(k:Nat) (cu:Array Value) (T:TypeId) (fr:Nat×Nat),w.heap[k]? =some (.cells cu T fr)→w'.heap[k]? =w.heap[k]?):Sl w' sv n cs:=by
 rcases h.has with h|⟨h0,b,off,cap,rfl,hc,hl,hr⟩
 ·exact⟨.inl h⟩
 ·have hb:w'.heap[b]? =w.heap[b]? :=by
   obtain⟨c,r,rfl⟩:=List.exists_cons_of_ne_nil (hcs h0)
   obtain⟨cu,T,fr,hq⟩:=cell_cells (hr 0 c rfl)
   exact hk b cu T fr hq
  exact⟨.inr ⟨h0,b,off,cap,rfl,hc,Nat.lt_of_lt_of_le hl hs,fun j u hj=>by have:=hr j u hj;unfold World.cell? at this ⊢;simp only[hb];exact this⟩⟩
theorem drop_none {th:Has}{id:Int}(h:th id=none):dropT th id=th:=by
 funext i
 by_cases e:i=id
 ·subst e;simp[dropT,h]
 ·simp[dropT,e]
theorem sdrop_any (h:ShelfAt w F hb th mt mh pos)(id:Nat)(hid:id<4096):
  Calls Tryz.prog 41 #[.pointer (some ⟨hb,0,none⟩),.int .i64 id] w fun e w'=>e=.returned (.bool (th id).isSome)∧ShelfAt w' F hb (dropT th id) mt mh pos∧Md (fun j=>j=mt∨j=mh) w w':=by
 cases hn:th (id:Int) with
 |none=>
  refine(sdrop_none h id (by omega) (by omega) hn).mono ?_
  rintro e w' ⟨rfl,hb'⟩
  refine⟨rfl,?_,Md.ofBelow hb'⟩
  rw[drop_none hn]
  exact h.kept (fun k _ hk=>hb'.block k hk) (fun k hk _=>hk)
 |some t=>exact sdrop_some h id t hn
end
def layH (th:Has)(id:Nat)(vals:List Doc.Val)(k:Nat):Nat→Nat→Doc.Val→Prop:=fun j f x=>Hof (dropT th id) j f x∨(j=id∧f<k∧vals[f]? =some x)
theorem lay_zero (th:Has)(id:Nat)(vals:List Doc.Val):∀j f x,j<4096→(Hof (dropT th id) j f x↔layH th id vals 0 j f x):=fun j f x _=>⟨fun h=>.inl h,fun h=>by rcases h with h|⟨_,h,_⟩;exact h;omega⟩
theorem lay_all (th:Has)(id:Nat)(spot:List Int)(vals:List Doc.Val):∀j f x,j<4096→(layH th id vals vals.length j f x↔Hof (putT th id (spot,vals)) j f x):=by
 intro j f x _
 constructor
 ·rintro(⟨t,ht,hx⟩|⟨rfl,_,hx⟩)
  ·by_cases e:(j:Int)=id
   ·simp[dropT,e] at ht
   ·simp[dropT,e] at ht
    exact⟨t,by simp[putT,e,ht],hx⟩
  ·exact⟨(spot,vals),by simp[putT],hx⟩
 ·rintro⟨t,ht,hx⟩
  by_cases e:(j:Int)=id
  ·simp[putT,e] at ht
   subst ht
   exact .inr ⟨by omega,(List.getElem?_eq_some_iff.1 hx).1,hx⟩
  ·simp[putT,e] at ht
   exact .inl ⟨t,by simp[dropT,e,ht],hx⟩
section
variable {w w':World}{F:Nat→Prop}{hb mt mh:Nat}{th:Has}{pos:Int→Value×Value}
set_option maxHeartbeats 2000000 in
theorem sput_any (h:ShelfAt w F hb th mt mh pos)(id:Nat)(hid:id<4096)(sv vv:Value)(spot:List Int)(vals:List Doc.Val)(hs:Sl w sv spot.length (intC spot))(hv:Sl w vv vals.length (valsC vals))(hn:spot.length≤4)(hm:vals.length≤4)(hx:∀x∈vals,Fine x):
  Calls Tryz.prog 43 #[.pointer (some ⟨hb,0,none⟩),.int .i64 id,.agg #[sv,vv]] w fun e w'=>e=.returned (.tuple #[])∧(∃pos',ShelfAt w' (fun k=>F k∨w.heap.size≤k) hb (putT th id (spot,vals)) mt mh pos')∧Md (fun j=>j=mt∨j=mh) w w':=by
 obtain⟨b1,c1,e1⟩:=hs.slice
 obtain⟨b2,c2,e2⟩:=hv.slice
 subst e1 e2
 have hba:Below w.heap.size w (w.alloc (.cells #[.slice b1 spot.length c1,.slice b2 vals.length c2] 104)):=(Below.refl _ _).alloc (Nat.le_refl _) _
 have HD:Hid _:=sdrop_any (h.kept (w':=w.alloc (.cells #[.slice b1 spot.length c1,.slice b2 vals.length c2] 104)) (F':=F) (fun k _ hk=>hba.block k hk) (fun k hk _=>hk)) id hid
 have hlt:=h.lt
 have hmt:=h.thg.lt
 have hmh:=h.hold.lt
 have H:Hid _:=h
 have HS:Hid _:=hs
 have HV:Hid _:=hv
 clear h hs hv
 go_enter Tryz.func43,Tryz.ntmps43
 go_wp2_with fail
 refine Calls.mono HD.out ?_
 rintro e w1 ⟨rfl,h1,hd1⟩
 have hsz1:=hd1.size
 have hsz1:w.heap.size+1≤w1.heap.size:=by simpa using hsz1
 have hold1:∀k,k<w.heap.size+1→k≠mt→k≠mh→w1.heap[k]? =(w.alloc (.cells #[.slice b1 spot.length c1,.slice b2 vals.length c2] 104)).heap[k]? :=fun k hk n1 n2=>hd1.only k (by simpa using hk) (by rintro(e|e);exact n1 e;exact n2 e)
 have q1:=(hold1 w.heap.size (by omega) (by omega) (by omega)).trans (heap_alloc_new w _)
 have y0:=blk_cell q1 0 _ rfl
 have y1:=blk_cell q1 1 _ rfl
 have hcl:∀(k:Nat) (cu:Array Value) (T:TypeId) (fr:Nat×Nat),w.heap[k]? =some (.cells cu T fr)→w1.heap[k]? =w.heap[k]? :=fun k cu T fr hk=>by
  have hkl:=lt_block hk
  rw[hold1 k (by omega) (by rintro rfl;obtain⟨es,cl,hq,_⟩:=H.out.thg.has;rw[hk] at hq;cases hq) (by rintro rfl;obtain⟨es,cl,hq,_⟩:=H.out.hold.has;rw[hk] at hq;cases hq)]
  exact hba.block k hkl
 have HC:Hid _:=copied_any _ _ spot vals (HS.out.maps (w':=w1) (fun h0 e=>by have:=intC_len spot;rw[e] at this;simp at this;omega) (by omega) hcl) (HV.out.maps (w':=w1) (fun h0 e=>by have:=valsC_len' vals;rw[e] at this;simp at this;omega) (by omega) hcl) (by omega) (by omega) (fun x hx'=>(hx x hx').2.2.2)
 have H1:Hid _:=h1
 have HD1:Hid _:=hd1
 have HO1:Hid _:=hold1
 have HQ1:Hid _:=q1
 clear hcl h1 hd1 hold1 q1 HD
 go_wp2_with fail
 refine Calls.mono HC.out ?_
 rintro e w2 ⟨v1,v2,rfl,r1,r2,hb2⟩
 obtain⟨b3,c3,rfl⟩:=row_slice r1
 obtain⟨b4,c4,rfl⟩:=row_slice r2
 clear HC y0 y1
 have hsz2:=hb2.size
 have c0:w2.cell? ⟨hb,0,none⟩=some (.map (some mt)):=blk_cell ((hb2.block hb H1.out.lt).trans H1.out.blk) 0 _ rfl
 obtain⟨W,HW⟩:∃W,Hid (W=w2.alloc (.cells #[.slice b3 spot.length c3,.slice b4 vals.length c4] 104)):=⟨_,rfl⟩
 have hbW:Below w1.heap.size w1 W:=by rw[HW.out];exact hb2.alloc hb2.size _
 have hqW:W.heap[w2.heap.size]? =some (.cells #[.slice b3 spot.length c3,.slice b4 vals.length c4] 104 (0,0)):=by rw[HW.out];exact heap_alloc_new w2 _
 have hpK:=(H1.out.thg.kept (hbW.block mt H1.out.thg.lt)).putO intKeyed Tryz.underlying149 (.agg #[.slice b3 spot.length c3,.slice b4 vals.length c4]) (int_key (id:=(id:Int)) (by omega) (by omega))
 obtain⟨ob,hob⟩:=hpK
 obtain⟨hpu,hpm⟩:=hob W.drew rfl
 have HPM:Hid _:=hpm
 have k0:W.cell? ⟨hb,0,none⟩=some (.map (some mt)):=blk_cell ((hbW.block hb H1.out.lt).trans H1.out.blk) 0 _ rfl
 have k1:=blk_cell hqW 0 _ rfl
 have k2:=blk_cell hqW 1 _ rfl
 have hlW:=lt_block hqW
 clear hob hpm c0
 go_wp2_with fail
 rw[←HW.out]
 go_cut [] (fun wx=>wx=Go.ChangeMaps.setBlock W.drew mt ob)
 case first=>
  first|go_region|fail "stands"
  all_goals (go_wp2_with fail)
  all_goals go_meet
  all_goals rfl
 case rest=>
  subst hcut
  obtain⟨X,HX⟩:∃X,Hid (X=Go.ChangeMaps.setBlock W.drew mt ob):=⟨_,rfl⟩
  rw[←HX.out] at HPM ⊢
  have hoX:∀k,k≠mt→X.heap[k]? =W.heap[k]? :=fun k hk=>by rw[HX.out,setBlock_other _ hk];rfl
  have hzX:X.heap.size=W.heap.size:=by rw[HX.out,setBlock_size];rfl
  have q0:=(hoX w2.heap.size (by omega)).trans hqW
  have x1:=blk_cell q0 1 _ rfl
  have HOX:Hid _:=hoX
  have HHX:Hid (MapIs Tryz.prog 155 X mh (holdM (Hof (dropT th id)))):=H1.out.hold.kept ((hoX mh (Ne.symm H.out.ne)).trans (hbW.block mh H1.out.hold.lt))
  have HR2:Hid (X.ownsRow w1.heap.size 94 3 (.slice b4 vals.length c4) vals.length (valsC vals)):=rowKept r2 (fun k _ ek ho=>by
   rw[hoX k (by have:=own_ge r2 ek;have:=H1.out.thg.lt;omega),HW.out,Below.heap_alloc _ _ _ (lt_block ho)];exact ho)
  have HR1:Hid (X.ownsRow w1.heap.size 3 1 (.slice b3 spot.length c3) spot.length (intC spot)):=rowKept r1 (fun k _ ek ho=>by
   rw[hoX k (by have:=own_ge r1 ek;have:=H1.out.thg.lt;omega),HW.out,Below.heap_alloc _ _ _ (lt_block ho)];exact ho)
  have HBX:Hid (X.heap[hb]? =some (shelfO mt mh)):=(hoX hb H.out.hbt).trans ((hbW.block hb H1.out.lt).trans H1.out.blk)
  clear k0 k1 k2 hpu hoX r1 r2 hqW q0
  go_wp2_with fail
  go_loopw [24] (fun i wr=>∃k:Nat,k≤vals.length∧i=.int .i64 k∧Hid (MapIs Tryz.prog 155 wr mh (holdM (layH th id vals k)))∧Hid (Md (fun j=>j=mh) X wr)) (fun i _=>vals.length-(intOf i).toNat)
  case atStart=>exact⟨0,Nat.zero_le _,rfl,MapIs.congr HHX.out (holdM_congr (fun j f x hj=>(lay_zero th id vals j f x hj).symm)),Md.refl _ _⟩
  case round=>
   obtain⟨k,hk,rfl,KM,KD⟩:=hrel
   by_cases hk2:k<vals.length
   ·obtain⟨vb,vc,hvb⟩:=own_slice' HR2.out (by omega)
    obtain rfl:b4=some ⟨vb,0,none⟩:=by simp at hvb;exact hvb.1
    obtain rfl:c4=vc:=by simp at hvb;exact hvb
    clear hvb
    obtain⟨cur,hcur,_,_⟩:=own_block HR2.out
    obtain⟨x,HXX⟩:∃x,Hid (x=vals[k]):=⟨vals[k],rfl⟩
    have hvl:=lt_block hcur
    have hvm:vb≠mh:=row_not_map HR2.out HHX.out rfl
    have hce:∀c u,c<3→(valC x)[c]? =some u→wr.cell? ⟨vb,k*3+c,none⟩=some u:=fun c u hc hu=>by
     have:=HR2.out.cells (g:=vb) rfl (k*3+c) u (by unfold valsC;rw[flat_at valC 3 valC_len vals k hk2 c hc,←HXX.out];exact hu)
     rw[addr_add2,Nat.zero_add] at this
     rw[cell_of_row _ _ _ _ _ _ ((KD.out.only vb hvl hvm).trans hcur),←cell_of_row _ _ _ _ _ _ hcur]
     exact this
    have hx0:wr.cell? ⟨vb,k*3,none⟩=some (.int .i64 x.k):=hce 0 _ (by omega) rfl
    have hx1:=hce 1 (.int .i64 x.n) (by omega) rfl
    have hx2:=hce 2 (.string x.s) (by omega) rfl
    have HFX:Hid (Fine x):=hx x (by rw[HXX.out];exact List.getElem_mem hk2)
    clear hce hcur
    obtain⟨Y,HY⟩:∃Y,Hid (Y=(wr.alloc (.cells #[.int .i64 x.k,.int .i64 x.n,.string x.s] 94)).alloc (.cells #[.int .i64 k,.int .i64 x.k,.int .i64 x.n,.string x.s] 155)):=⟨_,rfl⟩
    have hbY:Below wr.heap.size wr Y:=by rw[HY.out];exact((Below.refl _ _).alloc (Nat.le_refl _) _).alloc (by simp) _
    have hqY:Y.heap[wr.heap.size+1]? =some (.cells #[.int .i64 k,.int .i64 x.k,.int .i64 x.n,.string x.s] 155 (0,0)):=by rw[HY.out];exact heap_alloc2_new wr _ _
    have hzY:Y.heap.size=wr.heap.size+2:=by rw[HY.out];simp
    have KMY:Hid (MapIs Tryz.prog 155 Y mh (holdM (layH th id vals k))):=KM.out.kept (hbY.block mh KM.out.lt)
    have hlm:=KM.out.lt
    have hhl:hb<wr.heap.size:=by have:=KD.out.size;have:=lt_block HBX.out;omega
    have hsY:Y.heap[hb]? =some (shelfO mt mh):=(hbY.block hb hhl).trans ((KD.out.only hb (lt_block HBX.out) H.out.hbh).trans HBX.out)
    obtain⟨kl,hkl⟩:=held_key (f:=k) (by omega) HFX.out
    have hex:∃ws:Bits,(Instr.lookup 150 (.map (some mh)) (.agg (heldC k x)) false).run Tryz.prog Y.drew=.ok (.agg (setC ws)) Y.drew∧∀j,j<4096→(memB ws j=true↔layH th id vals k j k x):=by
     by_cases he:∃j,j<4096∧layH th id vals k j k x
     ·obtain⟨ws,hws⟩:=exists_set (fun j=>layH th id vals k j k x)
      refine⟨ws,?_,hws⟩
      exact(KMY.out.kept (w':=Y.drew) rfl).look_some false heldKeyed Tryz.underlying150 hkl ⟨k,x,ws,by omega,HFX.out,rfl,rfl,hws,he⟩
     ·refine⟨zeroB,?_,fun j hj=>⟨fun h=>(by rw[memB_zero] at h;cases h),fun h=>absurd ⟨j,hj,h⟩ he⟩⟩
      exact(KMY.out.kept (w':=Y.drew) rfl).look_none false heldKeyed Tryz.underlying150 (zero_set _) hkl (fun v hv=>by
       obtain⟨f,y,ws,_,_,e,_,_,hj⟩:=hv
       obtain⟨rfl,rfl⟩:=heldC_inj e
       exact he hj)
    obtain⟨ws,hlk,hws⟩:=hex
    obtain⟨C,HC2⟩:∃C,Hid (C=setC ws):=⟨_,rfl⟩
    obtain⟨R,HR⟩:∃R,Hid (R=setC (withB ws id)):=⟨_,rfl⟩
    rw[←HC2.out] at hlk
    have HWI:Hid (∀w:World,Calls Tryz.prog 69 #[.agg C,.int .i64 id] w fun e w'=>e=.returned (.agg R)∧Below w.heap.size w w'):=by
     rw[HC2.out,HR.out];exact with_any ws id hid
    obtain⟨ob2,hob2⟩:=KMY.out.putO heldKeyed Tryz.underlying150 (.agg R) hkl
    unfold heldC at hlk hob2
    have HOB2:Hid _:=hob2
    have hnm:hb≠mh:=H.out.hbh
    have hnb:wr.heap.size+1≠mh:=by omega
    have HS8:Hid (∀w':World,(∀j,j≠mh→j<Y.heap.size→w'.heap[j]? =Y.heap[j]?)→w'.cell? ⟨hb,1,none⟩=some (.map (some mh))∧w'.cell? ⟨wr.heap.size+1,0,none⟩=some (.int .i64 k)∧w'.cell? ⟨wr.heap.size+1,1,none⟩=some (.int .i64 x.k)∧w'.cell? ⟨wr.heap.size+1,2,none⟩=some (.int .i64 x.n)∧w'.cell? ⟨wr.heap.size+1,3,none⟩=some (.string x.s)):=by
     intro w' h'
     have a1:=(h' hb hnm (by omega)).trans hsY
     have a2:=(h' _ hnb (by omega)).trans hqY
     exact⟨blk_cell a1 1 _ rfl,blk_cell a2 0 _ rfl,blk_cell a2 1 _ rfl,blk_cell a2 2 _ rfl,blk_cell a2 3 _ rfl⟩
    have HWS:Hid _:=hws
    have HHY:Hid _:=hbY
    have hmY:mh<Y.heap.size:=by omega
    clear hob2 hws hsY hqY hkl
    go_wp2_with fail
    rw[←HY.out]
    (first|go_region_held3 (fun w'=>w'.cell? ⟨hb,1,none⟩=some (.map (some mh))∧w'.cell? ⟨wr.heap.size+1,0,none⟩=some (.int .i64 k)∧w'.cell? ⟨wr.heap.size+1,1,none⟩=some (.int .i64 x.k)∧w'.cell? ⟨wr.heap.size+1,2,none⟩=some (.int .i64 x.n)∧w'.cell? ⟨wr.heap.size+1,3,none⟩=some (.string x.s)) (first|exact HS8.out _ (fun j _ _=>rfl)|exact HS8.out _ (fun j _ hj=>hb4.block j hj)|exact HS8.out _ (fun j hj hl=>(setBlock_other _ hj _).trans (hb4.block j hl))) (first|(go_at_call 69;refine(HWI.out Y.drew).mono ?_;rintro r w4 ⟨rfl,hb4⟩;have hpu2:=(HOB2.out w4 (hb4.block mh hmY)).1)))
    all_goals (go_wp2_with fail)
    all_goals
     go_roundw
     case rel=>
      refine⟨k+1,by omega,by go_num,?_,(KD.out.trans (Md.ofBelow HHY.out)).drew.trans (((Md.ofBelow hb4).trans (setBlock_md _ _ _)))⟩
      have hmm:=(HOB2.out w4 (hb4.block mh hmY)).2
      rw[HR.out] at hmm
      refine MapIs.congr hmm (hold_put (by omega) HFX.out (fun j hj=>?_) ⟨id,hid,.inr ⟨rfl,by omega,by rw[HXX.out];exact List.getElem?_eq_getElem hk2⟩⟩ (fun j g y hg=>?_))
      ·rw[memB_with,Bool.or_eq_true,HWS.out j hj,decide_eq_true_iff]
       constructor
       ·rintro(rfl|h|⟨h1,h2,h3⟩)
        ·exact .inr ⟨rfl,by omega,by rw[HXX.out];exact List.getElem?_eq_getElem hk2⟩
        ·exact .inl h
        ·omega
       ·rintro(h|⟨h1,h2,h3⟩)
        ·exact .inr (.inl h)
        ·exact .inl h1
      ·constructor
       ·rintro(h|⟨h1,h2,h3⟩)
        ·exact .inl h
        ·refine .inr ⟨h1,?_,h3⟩
         by_cases e:g=k
         ·subst e
          rw[List.getElem?_eq_getElem hk2,←HXX.out] at h3
          cases h3
          exact absurd ⟨rfl,rfl⟩ hg
         ·omega
       ·rintro(h|⟨h1,h2,h3⟩)
        ·exact .inl h
        ·exact .inr ⟨h1,by omega,h3⟩
     case measure=>simp[intOf];omega
   ·obtain rfl:k=vals.length:=by omega
    go_wp2_with fail
    go_end0
    have hout:∀j,j<W.heap.size→j≠mt→j≠mh→wr.heap[j]? =W.heap[j]? :=fun j hj h1 h2=>(KD.out.only j (by omega) h2).trans (HOX.out j h1)
    have hw1:∀j,j<w1.heap.size→j≠mt→j≠mh→wr.heap[j]? =w1.heap[j]? :=fun j hj h1 h2=>(hout j (by have:=hbW.size;omega) h1 h2).trans (hbW.block j hj)
    refine⟨rfl,⟨fun i=>if i=id then (.slice b3 spot.length c3,.slice b4 vals.length c4) else pos i,?_⟩,?_⟩
    ·refine⟨(KD.out.only hb (lt_block HBX.out) H.out.hbh).trans HBX.out,?_,MapIs.congr KM.out (holdM_congr (fun j f x hj=>(lay_all th id spot vals j f x hj).symm)),H.out.ne,fun i t ht=>?_,fun i t ht=>?_,.inl H.out.inS,.inl H.out.inT,.inl H.out.inH,fun i t ht=>?_⟩
     ·refine MapIs.congr (HPM.out.kept (KD.out.only mt HPM.out.lt H.out.ne)) (fun key v=>?_)
      constructor
      ·rintro⟨i,t,ht,rfl,rfl⟩
       by_cases e:i=id
       ·subst e;exact .inl ⟨rfl,by simp⟩
       ·simp[putT,e] at ht
        exact .inr ⟨by simp[e],i,t,by simp[dropT,e,ht],rfl,by simp[e]⟩
      ·rintro(⟨rfl,rfl⟩|⟨hne,i,t,ht,rfl,rfl⟩)
       ·exact⟨id,(spot,vals),by simp[putT],rfl,by simp⟩
       ·have e:i≠id:=by rintro rfl;exact hne rfl
        simp[dropT,e] at ht
        exact⟨i,t,by simp[putT,e,ht],rfl,by simp[e]⟩
     ·by_cases e:i=id
      ·simp[putT,e] at ht
       subst ht
       exact⟨by omega,by omega,hn,hm,hx⟩
      ·simp[putT,e] at ht
       exact H.out.rng i t ht
     ·by_cases e:i=id
      ·simp[putT,e] at ht
       subst ht
       simp only[e,if_true]
       exact⟨rowKept (own_less HR1.out (Nat.zero_le _)) (fun j _ ej ho=>(KD.out.only j (ownLt HR1.out ej) (row_not_map HR1.out HHX.out ej)).trans ho),rowKept (own_less HR2.out (Nat.zero_le _)) (fun j _ ej ho=>(KD.out.only j (ownLt HR2.out ej) (row_not_map HR2.out HHX.out ej)).trans ho)⟩
      ·simp[putT,e] at ht
       simp only[e,if_false]
       obtain⟨p1,p2⟩:=H1.out.each i t (by simp[dropT,e,ht])
       exact⟨rowKept p1 (fun j _ ej ho=>(hw1 j (ownLt p1 ej) (row_not_map p1 H1.out.thg ej) (row_not_map p1 H1.out.hold ej)).trans ho),rowKept p2 (fun j _ ej ho=>(hw1 j (ownLt p2 ej) (row_not_map p2 H1.out.thg ej) (row_not_map p2 H1.out.hold ej)).trans ho)⟩
     ·by_cases e:i=id
      ·simp only[e,if_true]
       rintro j (ej|ej)
       ·have:=own_ge HR1.out ej;exact .inr (by omega)
       ·have:=own_ge HR2.out ej;exact .inr (by omega)
      ·simp[putT,e] at ht
       simp only[e,if_false]
       intro j ej
       exact .inl (H.out.inE i t ht j ej)
    ·exact((Md.ofBelow hba).trans (HD1.out.trans (Md.ofBelow hbW))).trans ((⟨by rw[HX.out];exact(Below.refl 0 W).drew.trans (setBlock_md W.drew mt ob).below,fun j hj h'=>HOX.out j (fun e=>h' (.inl e))⟩:Md (fun j=>j=mt∨j=mh) W X).trans (KD.out.mono (fun j hj=>.inr hj)))
end
end Go.Proofs.YtbnelaoeblhndaaGreatDoor
