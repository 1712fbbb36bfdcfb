import Derived.Test.YtbnelaoeblhndaaGreatDoorThStep
namespace Go.Proofs.YtbnelaoeblhndaaGreatDoor
open Go.RowKit
set_option maxRecDepth 100000
theorem in_nil (w:World):In w (.slice none 0 0) 0 []:=⟨⟨.inl ⟨rfl,_,_,rfl⟩⟩,.inl rfl⟩
theorem in_blk {w:World}{b n c:Nat}{cs:List Value}{T:TypeId}(h:w.heap[b]? =some (.cells cs.toArray T (0,0)))(hn:0<n)(hc:n≤c):In w (.slice (some ⟨b,0,none⟩) n c) n cs:=
 ⟨⟨.inr ⟨hn,b,0,c,rfl,hc,lt_block h,fun j u hj=>by rw[Nat.zero_add];exact blkl_cell h j u hj⟩⟩,.inr ⟨_,_,rfl⟩⟩
section
variable {B:Nat}{w:World}{wb n g:Nat}
theorem step_made (hB:B≤w.heap.size)(hS:LawSt B w wb n g)(hn:0<n)(hn2:n≤1000)(hg:g≤1000)(hL:LaidA w)(a:Int)(ha1:0≤a)(ha2:a≤1000)(p0 p1:Int)(v0 v1:Doc.Val):
  Calls Tryz.prog 37 #[.pointer (some ⟨wb,0,none⟩),.agg #[.int .i64 3,.int .i64 0,.int .i64 a,.string ⟨#[]⟩,.slice none 0 0,.slice (some ⟨w.heap.size,0,none⟩) 2 2,.slice (some ⟨w.heap.size+1,0,none⟩) 2 2]] ((w.alloc (.cells #[.int .i64 p0,.int .i64 p1] 3)).alloc (.cells #[.int .i64 v0.k,.int .i64 v0.n,.string v0.s,.int .i64 v1.k,.int .i64 v1.n,.string v1.s] 94)) fun e w'=>e=.returned (.bool true)∧Below B w w'∧∃n' g',n≤n'∧n'≤n+1∧g≤g'∧g'≤g+1∧LawSt B w' wb n' g':=by
 obtain⟨own,ps,lv,nsv,knv,vsv,kvv,hsv,khv,rows,marks,vrows,vmarks,hrows,hmarks,hA,rfl,h1,h2,hq3⟩:=hS
 have hb:Below w.heap.size w ((w.alloc (.cells #[.int .i64 p0,.int .i64 p1] 3)).alloc (.cells #[.int .i64 v0.k,.int .i64 v0.n,.string v0.s,.int .i64 v1.k,.int .i64 v1.n,.string v1.s] 94)):=((Below.refl _ _).alloc (Nat.le_refl _) _).alloc (by simp) _
 refine(step_any (Nat.le_trans hB hb.size) (law_below hA hb) h1 h2 hq3 (by omega) hn (by omega) (hL.below hb) 3 0 a (by decide) (by decide) (by decide) (by omega) (by omega) ⟨#[]⟩ [] (.slice none 0 0) (fun j h=>by simp at h) (by simp) (in_nil _)
  [p0,p1] _ (by simp) (in_blk (cs:=intC [p0,p1]) (heap_alloc2_old w _ _) (by simp) (by simp)) (fun _ k e=>?_) [v0,v1] _ (by simp) (in_blk (cs:=valsC [v0,v1]) (heap_alloc2_new w _ _) (by simp) (by simp)) (fun _ k e=>?_)).mono ?_
 ·cases e;exact⟨by simp only[World.size_alloc];omega,.inr (by simp)⟩
 ·cases e;exact⟨by simp only[World.size_alloc];omega,.inr (by simp;intro h;omega)⟩
 ·rintro e w' ⟨rfl,hb',h⟩
  exact⟨rfl,(hb.mono hB).trans hb',h⟩
theorem step_get (hB:B≤w.heap.size)(hS:LawSt B w wb n g)(hn:0<n)(hn2:n≤100000000)(hg:g≤200000000)(hL:LaidA w)(e a:Int)(he1:0≤e)(he2:e≤9223372036854775807)(ha1:0≤a)(ha2:a≤1000):
  Calls Tryz.prog 37 #[.pointer (some ⟨wb,0,none⟩),.agg #[.int .i64 5,.int .i64 e,.int .i64 a,.string ⟨#[]⟩,.slice none 0 0,.slice none 0 0,.slice none 0 0]] w fun r w'=>r=.returned (.bool true)∧Below B w w'∧∃n' g',n≤n'∧n'≤n+1∧g≤g'∧g'≤g+1∧LawSt B w' wb n' g':=by
 obtain⟨own,ps,lv,nsv,knv,vsv,kvv,hsv,khv,rows,marks,vrows,vmarks,hrows,hmarks,hA,rfl,h1,h2,hq3⟩:=hS
 exact step_any hB hA h1 h2 hq3 hg hn hn2 hL 5 e a (by decide) (by omega) he2 (by omega) (by omega) ⟨#[]⟩ [] (.slice none 0 0) (fun j h=>by simp at h) (by simp) (in_nil _) [] _ (by simp) (in_nil _) (fun _ k e=>by cases e) [] _ (by simp) (in_nil _) (fun _ k e=>by cases e)
theorem first_ok:Doc.newOK [⟨⟨#[110]⟩,1⟩,⟨⟨#[115]⟩,2⟩] 2:=by
 refine⟨by simp[Doc.newArg],fun j h=>?_,fun j h=>?_⟩
 ·rcases(show j=0∨j=1 by simp at h;omega) with rfl|rfl<;>rfl
 ·rcases(show j=0∨j=1 by simp at h;omega) with rfl|rfl<;>kernel_rfl
theorem LaidA.belowB {w w':World}{B:Nat}(h:LaidA w)(hb:Below B w w')(h1:1<B)(h2:3<B)(h3:0<B):LaidA w':=
 ⟨⟨h.pl.sg.below hb h1,h.pl.tens.below hb h2,Nat.lt_of_lt_of_le h.pl.g1 hb.size,Nat.lt_of_lt_of_le h.pl.g2 hb.size⟩,h.tab.below hb h3,Nat.lt_of_lt_of_le h.g3 hb.size⟩
set_option maxHeartbeats 4000000 in
theorem begins_any (hB:B≤w.heap.size)(hS:LawSt B w wb 0 0)(hL:LaidA w)(hg1:1<B)(hg2:3<B)(hg3:0<B):
  Calls Tryz.prog 36 #[.pointer (some ⟨wb,0,none⟩)] w fun e w'=>e=.returned (.bool true)∧Below B w w'∧∃n' g',0<n'∧n'≤10∧g'≤10∧LawSt B w' wb n' g':=by
 obtain⟨own,ps,lv,nsv,knv,vsv,kvv,hsv,khv,rows,marks,vrows,vmarks,hrows,hmarks,hA,hp0,h1,h2,hq3⟩:=hS
 have hb0:Below w.heap.size w (w.alloc (.cells #[.string ⟨#[110]⟩,.int .i64 1,.string ⟨#[115]⟩,.int .i64 2] 92)):=(Below.refl _ _).alloc (Nat.le_refl _) _
 have hL0:=hL.below hb0
 have HM:Hid _:=more_any (Nat.le_trans hB hb0.size) (law_below hA hb0) (by omega) hL0.pl.sg hL0.pl.g1 [⟨⟨#[110]⟩,1⟩,⟨⟨#[115]⟩,2⟩] 2 (fun j h=>by rcases(show j=0∨j=1 by simp at h;omega) with rfl|rfl<;>simp[ByteArray.size]) (by simp) (.slice (some ⟨w.heap.size,0,none⟩) 2 2) (in_blk (cs:=fldsC [⟨⟨#[110]⟩,1⟩,⟨⟨#[115]⟩,2⟩]) (heap_alloc_new w _) (by decide) (by decide))
 have HB0:Hid _:=hb0
 have HL:Hid _:=hL
 clear hA hL hb0 hL0
 go_enter Tryz.func36,Tryz.ntmps36
 go_wp2_with fail
 refine Calls.mono HM.out ?_
 rintro e w1 ⟨rfl,hb1,own1,ps1,lv1,q1,q2,q3,hA1⟩
 have hp1:ps1.length=1:=by have:=q3 first_ok;omega
 obtain⟨b1,c1,e1⟩:=row_slice hA1.prs
 subst e1
 have d0:w1.cell? ⟨wb,0,none⟩=some (.slice b1 1 c1):=by rw[←hp1];exact blk_cell hA1.blk 0 _ rfl
 have HB1:Hid (Below B w w1):=(HB0.out.mono hB).trans hb1
 have HS1:Hid (LawSt B w1 wb 1 0):=⟨own1,ps1,_,nsv,knv,vsv,kvv,hsv,khv,rows,marks,vrows,vmarks,hrows,hmarks,hA1,hp1,h1,h2,hq3⟩
 have HL1:Hid (LaidA w1):=HL.out.belowB HB1.out hg1 hg2 hg3
 have hs1:B≤w1.heap.size:=Nat.le_trans hB HB1.out.size
 have HC1:Hid _:=step_made hs1 HS1.out (by decide) (by decide) (by decide) HL1.out 1 (by decide) (by decide) 0 0 ⟨1,5,⟨#[]⟩⟩ ⟨2,0,⟨#[97,98]⟩⟩
 clear hA1 hp1 q1 q2 q3 hb1 HM hp0 h1 h2 hq3
 go_wp2_with fail
 refine Calls.mono HC1.out ?_
 rintro e w2 ⟨rfl,hb2,n2,g2,a1,a2,a3,a4,hS2⟩
 have HB2:Hid (Below B w w2):=HB1.out.trans hb2
 have HS2:Hid _:=hS2
 have HL2:Hid (LaidA w2):=HL.out.belowB HB2.out hg1 hg2 hg3
 have hs2:B≤w2.heap.size:=Nat.le_trans hB HB2.out.size
 have HC2:Hid _:=step_made hs2 HS2.out (by omega) (by omega) (by omega) HL2.out 2 (by decide) (by decide) 3 4 ⟨0,0,⟨#[]⟩⟩ ⟨2,0,⟨#[98]⟩⟩
 clear hb2 hS2 HC1 d0
 go_wp2_with fail
 refine Calls.mono HC2.out ?_
 rintro e w3 ⟨rfl,hb3,n3,g3,a5,a6,a7,a8,hS3⟩
 have HB3:Hid (Below B w w3):=HB2.out.trans hb3
 have HS3:Hid _:=hS3
 have HL3:Hid (LaidA w3):=HL.out.belowB HB3.out hg1 hg2 hg3
 have hs3:B≤w3.heap.size:=Nat.le_trans hB HB3.out.size
 have HC3:Hid _:=step_made hs3 HS3.out (by omega) (by omega) (by omega) HL3.out 3 (by decide) (by decide) 0 0 ⟨1, -5,⟨#[]⟩⟩ ⟨0,0,⟨#[]⟩⟩
 clear hb3 hS3 HC2
 go_wp2_with fail
 refine Calls.mono HC3.out ?_
 rintro e w4 ⟨rfl,hb4,n4,g4,a9,a10,a11,a12,hS4⟩
 have HB4:Hid (Below B w w4):=HB3.out.trans hb4
 have HS4:Hid _:=hS4
 have HL4:Hid (LaidA w4):=HL.out.belowB HB4.out hg1 hg2 hg3
 have hs4:B≤w4.heap.size:=Nat.le_trans hB HB4.out.size
 have HC4:Hid _:=step_get hs4 HS4.out (by omega) (by omega) (by omega) HL4.out 0 2 (by decide) (by decide) (by decide) (by decide)
 clear hb4 hS4 HC3
 go_wp2_with fail
 refine Calls.mono HC4.out ?_
 rintro e w5 ⟨rfl,hb5,n5,g5,a13,a14,a15,a16,hS5⟩
 have HS5:Hid _:=hS5
 have HB5:Hid (Below B w w5):=HB4.out.trans hb5
 clear hS5 hb5 HC4
 go_wp2_with fail
 go_ret
 exact⟨rfl,HB5.out,n5,g5,by omega,by omega,by omega,HS5.out⟩
end
structure StepD where
 k:Int
 e:Int
 a:Int
 s:ByteArray
 fs:List Doc.Fld
 Fv:Value
 spot:List Int
 Lv:Value
 vals:List Doc.Val
 Vv:Value
def stepC (d:StepD):List Value:=[.int .i64 d.k,.int .i64 d.e,.int .i64 d.a,.string d.s,d.Fv,d.Lv,d.Vv]
structure StepOk (w:World)(d:StepD):Prop where
 e1: -9223372036854775808≤d.e
 e2:d.e≤9223372036854775807
 a1: -9223372036854775808≤d.a
 a2:d.a≤9223372036854775807
 nm:∀j (h:j<d.fs.length),d.fs[j].name.size≤140737488351232
 fl:d.fs.length≤1000000000
 sl:d.spot.length≤1000000000
 vl:d.vals.length≤1000000000
 fi:In w d.Fv d.fs.length (fldsC d.fs)
 li:In w d.Lv d.spot.length (intC d.spot)
 vi:In w d.Vv d.vals.length (valsC d.vals)
 lb:0<d.spot.length→∀k,d.Lv.ownBlock=some k→k<w.heap.size
 vb:0<d.vals.length→∀k,d.Vv.ownBlock=some k→k<w.heap.size
section
variable {B:Nat}{w:World}{wb n g:Nat}
theorem step_get' (hB:B≤w.heap.size)(hS:LawSt B w wb n g)(hn:0<n)(hn2:n≤100000000)(hg:g≤200000000)(e a:Int)(he1:0≤e)(he2:e≤9223372036854775807)(ha1:0≤a)(ha2:a≤1000):
  Calls Tryz.prog 37 #[.pointer (some ⟨wb,0,none⟩),.agg #[.int .i64 5,.int .i64 e,.int .i64 a,.string ⟨#[]⟩,.slice none 0 0,.slice none 0 0,.slice none 0 0]] w fun r w'=>r=.returned (.bool true)∧Below B w w'∧LawSt B w' wb n (g+1):=by
 obtain⟨own,ps,lv,nsv,knv,vsv,kvv,hsv,khv,rows,marks,vrows,vmarks,hrows,hmarks,hA,rfl,h1,h2,hq3⟩:=hS
 refine step_pair hA hn hn2 5 e a (by decide) (by decide) (by decide) (by omega) he2 _ _ _ _ _ _ _ _ _ _ _ (fun h=>by cases h) (fun hk i hi W hW=>?_) (fun h=>by cases h) (fun h=>by cases h) (fun h=>by cases h) (fun _ _ h=>absurd rfl h)
 refine(gets_any (Nat.le_trans hB hW.size) (law_below hA hW) (by omega) (by omega) i hi a (by omega) (by omega)).mono ?_
 rintro e' w' ⟨rfl,hb,own',nsv',knv',vsv',kvv',rows',marks',vrows',vmarks',hA',hr1,hr2⟩
 exact⟨rfl,rfl,(hW.mono hB).trans hb,own',ps,lv,nsv',knv',vsv',kvv',hsv,khv,rows',marks',vrows',vmarks',hrows,hmarks,hA',rfl,by omega,by omega,by omega⟩
theorem kept_st (hS:LawSt B w wb n g)(hg:g≤200000000):Calls Tryz.prog 38 #[.pointer (some ⟨wb,1,none⟩)] w fun e w'=>e=.returned (.bool true)∧Below w.heap.size w w'∧LawSt B w' wb n g:=by
 obtain⟨own,ps,lv,nsv,knv,vsv,kvv,hsv,khv,rows,marks,vrows,vmarks,hrows,hmarks,hA,rfl,h1,h2,hq3⟩:=hS
 refine(kept_any hA.blk hA.bkn hA.bkv hA.bkh (by omega) (by omega) (by omega)).mono ?_
 rintro e w' ⟨rfl,hb⟩
 exact⟨rfl,hb,_,ps,lv,nsv,knv,vsv,kvv,hsv,khv,rows,marks,vrows,vmarks,hrows,hmarks,law_below hA hb,rfl,h1,h2,hq3⟩
theorem st_len (hS:LawSt B w wb n g):∃b c,w.cell? ⟨wb,0,none⟩=some (.slice b n c)∧B≤wb∧wb<w.heap.size:=by
 obtain⟨own,ps,lv,nsv,knv,vsv,kvv,hsv,khv,rows,marks,vrows,vmarks,hrows,hmarks,hA,rfl,h1,h2,hq3⟩:=hS
 obtain⟨b,c,e⟩:=row_slice hA.prs
 subst e
 exact⟨b,c,blk_cell hA.blk 0 _ rfl,hA.wbc.1,hA.wbc.2.1⟩
theorem step_script {w0:World}(hb:Below w0.heap.size w0 w)(hS:LawSt w0.heap.size w wb n g)(hn:0<n)(hn2:n≤100000000)(hg:g≤200000000)(hL:LaidA w)(d:StepD)(hd:StepOk w0 d)(hk:d.k≤7):
  Calls Tryz.prog 37 #[.pointer (some ⟨wb,0,none⟩),.agg #[.int .i64 d.k,.int .i64 d.e,.int .i64 d.a,.string d.s,d.Fv,d.Lv,d.Vv]] w (Stepped w0.heap.size w wb n g):=by
 obtain⟨own,ps,lv,nsv,knv,vsv,kvv,hsv,khv,rows,marks,vrows,vmarks,hrows,hmarks,hA,rfl,h1,h2,hq3⟩:=hS
 have hs:=hb.size
 exact step_any hs hA h1 h2 hq3 hg hn hn2 hL d.k d.e d.a hk hd.e1 hd.e2 hd.a1 hd.a2 d.s d.fs d.Fv hd.nm hd.fl (hd.fi.below hb) d.spot d.Lv hd.sl (hd.li.below hb) (fun h0 k e=>by have:=hd.lb h0 k e;exact⟨by omega,.inl this⟩) d.vals d.Vv hd.vl (hd.vi.below hb) (fun h0 k e=>by have:=hd.vb h0 k e;exact⟨by omega,.inl this⟩)
theorem law_start (w:World):LawSt w.heap.size (w.alloc (.cells #[.slice none 0 0,.slice none 0 0,.slice none 0 0,.slice none 0 0,.slice none 0 0,.slice none 0 0,.slice none 0 0] 83)) w.heap.size 0 0:=by
 refine⟨fun _=>0,[],.slice none 0 0,.slice none 0 0,.slice none 0 0,.slice none 0 0,.slice none 0 0,.slice none 0 0,.slice none 0 0,[],[],[],[],[],[],⟨heap_alloc_new w _,⟨Nat.le_refl _,by simp,rfl⟩,World.ownsRow_nil _ _ _ _,fun k e=>(by cases e),⟨World.ownsRow_nil _ _ _ _,World.ownsRow_nil _ _ _ _,rfl,fun i h=>(by simp at h),fun k e=>(by cases e),fun k e=>(by cases e)⟩,⟨World.ownsRow_nil _ _ _ _,World.ownsRow_nil _ _ _ _,rfl,fun i h=>(by simp at h),fun k e=>(by cases e),fun k e=>(by cases e)⟩,⟨World.ownsRow_nil _ _ _ _,World.ownsRow_nil _ _ _ _,rfl,fun i h=>(by simp at h),fun k e=>(by cases e),fun k e=>(by cases e)⟩,fun i h=>(by simp at h)⟩,rfl,Nat.le_refl _,Nat.le_refl _,Nat.le_refl _⟩
set_option maxHeartbeats 4000000 in
theorem plays_any (ds:List StepD)(hdl:ds.length≤2000000)(sv:Value)(hs:Sl w sv ds.length (ds.flatMap stepC))(hds:∀j (h:j<ds.length),StepOk w ds[j])(hL:LaidA w):
  Calls Tryz.prog 15 #[sv,.int .i64 7] w fun e w'=>e=.returned (.bool true)∧Below w.heap.size w w':=by
 obtain⟨sb,sc,e1⟩:=hs.slice
 subst e1
 have hb0:Below w.heap.size w (w.alloc (.cells #[.slice none 0 0,.slice none 0 0,.slice none 0 0,.slice none 0 0,.slice none 0 0,.slice none 0 0,.slice none 0 0] 83)):=(Below.refl _ _).alloc (Nat.le_refl _) _
 have HBG:Hid _:=begins_any hb0.size (law_start w) (hL.below hb0) hL.pl.g1 hL.pl.g2 hL.g3
 have HB0:Hid _:=hb0
 have HS:Hid _:=hs
 have HDS:Hid _:=hds
 have HL:Hid _:=hL
 clear hs hds hL hb0
 go_enter Tryz.func15,Tryz.ntmps15
 go_wp2_with fail
 refine Calls.mono HBG.out ?_
 rintro e w1 ⟨rfl,hb1,n1,g1,k1,k2,k3,hS1⟩
 have HB1:Hid (Below w.heap.size w w1):=HB0.out.trans hb1
 have HS1:Hid _:=hS1
 clear hb1 hS1 HBG
 go_wp2_with fail
 go_loopw [6,7] (fun ok i wr=>ok=.bool true∧∃k n g:Nat,k≤ds.length∧i=.int .i64 k∧0<n∧n≤10+k∧g≤10+k∧Hid (Below w.heap.size w wr)∧Hid (LawSt w.heap.size wr w.heap.size n g)) (fun _ i _=>ds.length-(intOf i).toNat)
 case atStart=>exact⟨rfl,0,n1,g1,Nat.zero_le _,rfl,k1,k2,k3,HB1,HS1⟩
 case round=>
  obtain⟨rfl,k,n,g,hk,rfl,hn0,hn1,hg1,KB,KS⟩:=hrel
  by_cases hk2:k<ds.length
  ·rcases HS.out.has with⟨h0,_⟩|⟨_,b,off,cap,he,_,hlt,hr⟩
   ·omega
   simp only[Value.slice.injEq] at he
   obtain⟨rfl,_,rfl⟩:=he
   obtain⟨d,HDD⟩:∃d,Hid (d=ds[k]):=⟨ds[k],rfl⟩
   have HDO:Hid (StepOk w d):=by rw[HDD.out];exact HDS.out k hk2
   obtain⟨Fb,Fc,eF⟩:=HDO.out.fi.sl.slice
   obtain⟨Lb,Lc,eL⟩:=HDO.out.li.sl.slice
   obtain⟨Vb,Vc,eV⟩:=HDO.out.vi.sl.slice
   have hc:∀c u,(stepC d)[c]? =some u→wr.cell? ⟨b,off+(k*7+c),none⟩=some u:=fun c u hu=>by
    have h7:c<7:=(List.getElem?_eq_some_iff.1 hu).1
    exact(KB.out.cell (p:=⟨b,off+(k*7+c),none⟩) hlt).trans (hr _ u (by rw[flat_at stepC 7 (fun _=>rfl) ds k hk2 c h7,←HDD.out];exact hu))
   have x0:=hc 0 (.int .i64 d.k) rfl
   have x1:=hc 1 (.int .i64 d.e) rfl
   have x2:=hc 2 (.int .i64 d.a) rfl
   have x3:=hc 3 (.string d.s) rfl
   have x4:=hc 4 (.slice Fb d.fs.length Fc) (by rw[←eF];rfl)
   have x5:=hc 5 (.slice Lb d.spot.length Lc) (by rw[←eL];rfl)
   have x6:=hc 6 (.slice Vb d.vals.length Vc) (by rw[←eV];rfl)
   rw[Nat.add_zero] at x0
   rw[←Nat.add_assoc] at x1 x2 x3 x4 x5 x6
   clear hr hc
   by_cases hd5:7<d.k
   ·go_wp2_with fail
    exact⟨⟨rfl,k+1,n,g,by omega,by go_num,hn0,by omega,by omega,KB,KS⟩,by simp[intOf];omega⟩
   ·have hd5':d.k≤7:=by omega
    have HC:Hid _:=step_script KB.out KS.out hn0 (by omega) (by omega) (HL.out.below KB.out) d HDO.out hd5'
    rw[eF,eL,eV] at HC
    clear eF eL eV
    go_wp2_with fail
    refine Calls.mono HC.out ?_
    rintro e' w2 ⟨rfl,hb2,n',g',q1,q2,q3,q4,hS2⟩
    have HB2:Hid (Below w.heap.size w w2):=KB.out.trans hb2
    have HK:Hid _:=kept_st hS2 (by omega)
    obtain⟨_,_,_,_,hwl⟩:=st_len hS2
    clear hb2 hS2 HC x0 x1 x2 x3 x4 x5 x6
    go_wp2_with fail
    refine Calls.mono HK.out ?_
    rintro e' w3 ⟨rfl,hb3,hS3⟩
    have HB3:Hid (Below w.heap.size w w3):=HB2.out.trans (hb3.mono HB2.out.size)
    have HS3:Hid _:=hS3
    clear hb3 hS3 HK
    go_wp2_with fail
    exact⟨⟨rfl,k+1,n',g',by omega,by go_num,by omega,by omega,by omega,HB3,HS3⟩,by simp[intOf];omega⟩
  ·obtain rfl:k=ds.length:=by omega
   go_wp2_with fail
   go_loopw [6,9] (fun ok i wr=>ok=.bool true∧∃k g:Nat,k≤n∧i=.int .i64 k∧g≤10+ds.length+k*8∧Hid (Below w.heap.size w wr)∧Hid (LawSt w.heap.size wr w.heap.size n g)) (fun _ i _=>n-(intOf i).toNat)
   case atStart=>exact⟨rfl,0,g,Nat.zero_le _,rfl,by omega,KB,KS⟩
   case round=>
    obtain⟨rfl,k,g2,hk3,rfl,hg2,KB2,KS2⟩:=hrel
    obtain⟨lb,lc,y0,_,hwl⟩:=st_len KS2.out
    by_cases hk4:k<n
    ·go_wp2_with fail
     go_loopw [6,10] (fun ok i wr=>ok=.bool true∧∃j g:Nat,j≤8∧i=.int .i64 j∧g≤10+ds.length+k*8+j∧Hid (Below w.heap.size w wr)∧Hid (LawSt w.heap.size wr w.heap.size n g)) (fun _ i _=>8-(intOf i).toNat)
     case atStart=>exact⟨rfl,0,g2,Nat.zero_le _,rfl,by omega,KB2,KS2⟩
     case round=>
      obtain⟨rfl,j,g3,hj,rfl,hg3,KB3,KS3⟩:=hrel
      by_cases hj8:j<8
      ·have HC:Hid _:=step_get' KB3.out.size KS3.out hn0 (by omega) (by omega) k j (by omega) (by omega) (by omega) (by omega)
       have hj8':(j:Int)<8:=by omega
       go_wp2_with fail
       refine Calls.mono HC.out ?_
       rintro e' w4 ⟨rfl,hb4,hS4⟩
       have HB4:Hid (Below w.heap.size w w4):=KB3.out.trans hb4
       have HS4:Hid _:=hS4
       clear hb4 hS4 HC
       go_wp2_with fail
       exact⟨⟨rfl,j+1,g3+1,by omega,by go_num,by omega,HB4,HS4⟩,by simp[intOf];omega⟩
      ·obtain rfl:j=8:=by omega
       go_wp2_with fail
       exact⟨⟨rfl,k+1,g3,by omega,by go_num,by omega,KB3,KS3⟩,by simp[intOf];omega⟩
    ·obtain rfl:k=n:=by omega
     have HK:Hid _:=kept_st KS2.out (by omega)
     go_wp2_with fail
     refine Calls.mono HK.out ?_
     rintro e' w5 ⟨rfl,hb5,_⟩
     go_wp2_with fail
     go_ret
     exact⟨rfl,KB2.out.trans (hb5.mono KB2.out.size)⟩
end
end Go.Proofs.YtbnelaoeblhndaaGreatDoor
namespace Go.Proofs.YtbnelaoeblhndaaGreatDoor
open Go.RowKit Go.ChangeShapes Go.WideShapes
set_option maxRecDepth 100000
theorem list_of {α:Type}{p:Nat→α→Prop}:∀(n:Nat),(∀i,i<n→∃a,p i a)→∃l:List α,l.length=n∧∀i (h:i<l.length),p i l[i]:=by
 intro n
 induction n with
 |zero=>exact fun _=>⟨[],rfl,fun i h=>by simp at h⟩
 |succ n ih=>
  intro h
  obtain⟨l,hl,hp⟩:=ih (fun i hi=>h i (by omega))
  obtain⟨a,ha⟩:=h n (by omega)
  refine⟨l++[a],by simp[hl],fun i hi=>?_⟩
  by_cases hi':i<l.length
  ·rw[List.getElem_append_left hi'];exact hp i hi'
  ·have:i=l.length:=by simp at hi;omega
   subst this
   rw[List.getElem_append_right (Nat.le_refl _)]
   simp only[Nat.sub_self,List.getElem_cons_zero]
   rw[hl];exact ha
section
variable {H:Type}{enc:TypeId×Value→H}{P:Program}{w:World}{sp:Nat→Bool}{held:Bool}
theorem open_list {t e:TypeId}{sz:Nat}(ht:P.underlying t=some (.slice e))(hsz:P.cellsOf e=sz)(hz:0<sz){fuel:Nat}{sv:Value}{x:DataW H×List MemPlace}(h:DataW.trod enc P w 0 sp held fuel t [sv]=some x)
  {α:Type} (dec:α→List Value) (Q:α→DataW H→Prop) (hdec:∀a,(dec a).length=sz)
  (he:∀n cs' d pl,DataW.trod enc P w 0 sp held n e cs'=some (d,pl)→∃a,cs'=dec a∧Q a d):
  ∃l:List α,In w sv l.length (l.flatMap dec)∧((x.1=.nil∧l=[])∨∃elems spare,x.1=.slice elems spare∧elems.length=l.length∧∀i (h1:i<l.length) (h2:i<elems.length),Q l[i] elems[i])∧(0<l.length→∀k,sv.ownBlock=some k→k<w.heap.size):=by
 rcases Go.Deep.open_slice ht h with⟨hc,rfl⟩|⟨a,len,cap,m,n,D,Pl,hc,_,hl,hm,hme,rfl,hel⟩
 ·simp only[List.cons.injEq,and_true] at hc
  subst hc
  exact⟨[],in_nil w,.inl ⟨rfl,rfl⟩,fun h=>by simp at h⟩
 ·simp only[List.cons.injEq,and_true] at hc
  subst hc
  have hlm:len≤m:=by rw[hme];split<;>omega
  obtain⟨l,hll,hp⟩:=list_of (p:=fun i (y:α)=>w.cells? 0 (a.add (i*sz)) sz=some (dec y)∧Q y (D i)) len (fun i hi=>by
   obtain⟨cs',h1,h2⟩:=hel i (by omega)
   rw[hsz] at h1
   obtain⟨y,rfl,hq⟩:=he n cs' _ _ h2
   exact⟨y,h1,hq⟩)
  have hcell:∀i (hi:i<l.length) c,c<sz→w.cell? (a.add (i*sz+c))=(dec l[i])[c]? :=fun i hi c hc=>by
   have:=(World.cells?_some (hp i hi).1).2.2 c hc
   rw[←this,Go.Deep.add_add]
  have hblk:0<l.length→a.spot=none∧a.block<w.heap.size:=fun h0=>by
   have h1:=hcell 0 h0 0 hz
   have hd:=hdec l[0]
   rw[List.getElem?_eq_getElem (by omega)] at h1
   have ha0:a.add 0=a:=by simp[Addr.add]
   simp only[Nat.zero_mul,Nat.zero_add] at h1
   rw[ha0] at h1
   exact⟨World.cell?_spot h1,World.block_lt_of_cell? w _ h1⟩
  refine⟨l,⟨⟨?_⟩,.inr ⟨a,cap,by rw[hll]⟩⟩,.inr ⟨(List.range len).map D,_,rfl,by simp[hll],fun i h1 h2=>?_⟩,fun h0 k ek=>?_⟩
  ·by_cases h0:l.length=0
   ·exact .inl ⟨h0,some a,cap,by rw[←hll,h0]⟩
   ·obtain⟨hs,hb⟩:=hblk (by omega)
    obtain⟨b,off,spot⟩:=a
    simp only at hs hb
    subst hs
    refine .inr ⟨by omega,b,off,cap,by rw[hll],by omega,hb,fun j u hj=>?_⟩
    have hfl:(l.flatMap dec).length=l.length*sz:=by
     clear hj hcell hp hblk hll h0
     induction l with
     |nil=>simp
     |cons y r ih=>rw[List.flatMap_cons,List.length_append,ih,hdec,List.length_cons,Nat.succ_mul,Nat.add_comm]
    have hjl:j<l.length*sz:=by rw[←hfl];exact(List.getElem?_eq_some_iff.1 hj).1
    have hi:j / sz<l.length:=Nat.div_lt_of_lt_mul (by rw[Nat.mul_comm];exact hjl)
    have hjd:j / sz*sz+j % sz=j:=by rw[Nat.mul_comm];exact Nat.div_add_mod j sz
    have h1:=hcell (j / sz) hi (j % sz) (Nat.mod_lt _ hz)
    rw[hjd,addr_add2] at h1
    rw[h1,←flat_at dec sz hdec l (j / sz) hi (j % sz) (Nat.mod_lt _ hz),hjd]
    exact hj
  ·have:=(hp i h1).2
   simpa using this
  ·have:=(hblk h0).2
   obtain rfl:a.block=k:=by
    have:(Value.slice (some a) len cap).ownBlock=some a.block:=rfl
    rw[this] at ek;cases ek;rfl
   exact this
theorem bulk_one (d:DataW H):1≤Rows.uptoBulk d:=by
 cases d<;>first|(unfold Rows.uptoBulk;omega)|(rename_i l;cases l<;>(unfold Rows.uptoBulk;omega))
theorem bulk_len:∀(l:List (DataW H)),l.length≤Rows.uptoBulkAll l
 | []=>by simp[Rows.uptoBulkAll]
 |d::r=>by
  have h1:=bulk_one d
  have h2:=bulk_len r
  simp only[Rows.uptoBulkAll,List.length_cons]
  omega
theorem bulk_mem {d:DataW H}:∀{l:List (DataW H)},d∈l→Rows.uptoBulk d≤Rows.uptoBulkAll l
 | [],h=>by cases h
 |x::r,h=>by
  simp only[Rows.uptoBulkAll]
  rcases List.mem_cons.1 h with rfl|h
  ·omega
  ·have:=bulk_mem h;omega
theorem wf_i64 {n:Int}(h:(Lit.int .i64 n).wf=true): -9223372036854775808≤n∧n≤9223372036854775807:=by
 simpa[Lit.wf,IntKind.min,IntKind.max,IntKind.signed,IntKind.bits] using h
theorem Tryz.cInt:Tryz.prog.cellsOf 3=1:=by kernel_rfl
theorem Tryz.cFld:Tryz.prog.cellsOf 92=2:=by kernel_rfl
theorem Tryz.cVal:Tryz.prog.cellsOf 94=3:=by kernel_rfl
theorem Tryz.cStep:Tryz.prog.cellsOf 87=7:=by kernel_rfl
theorem Tryz.cFs:Tryz.prog.cellsOf 85=1:=by kernel_rfl
theorem Tryz.cIs:Tryz.prog.cellsOf 33=1:=by kernel_rfl
theorem Tryz.cVs:Tryz.prog.cellsOf 55=1:=by kernel_rfl
theorem drop_take_one {cs:List Value}{i:Nat}{v:Value}(h:(cs.drop i).take 1=[v]):cs[i]? =some v:=by
 have:=congrArg (fun l=>l[0]?) h
 simpa using this
theorem open_fld {n:Nat}{cs:List Value}{d:DataW H}{pl:List MemPlace}(h:DataW.trod enc Tryz.prog w 0 sp held n 92 cs=some (d,pl)):∃f:Doc.Fld,cs=fldC f∧f.name.size≤Rows.uptoBulk d:=by
 obtain⟨xs,m,_,hx,hcl,hxl,hf⟩:=DataW.trod_struct Tryz.underlying92 h
 rw[Tryz.cFld] at hcl
 have hl:xs.length=2:=hxl
 have g0:=hf 0 _ rfl
 have g1:=hf 1 _ rfl
 rw[List.getElem?_eq_getElem (by omega)] at g0 g1
 obtain⟨s,e0,hd0,_⟩:=DataW.trod_string Tryz.underlying9 g0
 obtain⟨k,e1,_,_⟩:=DataW.trod_int Tryz.underlying3 g1
 have e0:=drop_take_one e0
 have e1:=drop_take_one e1
 have hs:s.size≤Rows.uptoBulk d:=by
  have hd:d=.agg (xs.map (·.1)):=congrArg Prod.fst hx
  have:=bulk_mem (H:=H) (d:=xs[0].1) (l:=xs.map (·.1)) (List.mem_map.2 ⟨xs[0],List.getElem_mem _,rfl⟩)
  rw[hd]
  rw[hd0] at this
  simp only[Rows.uptoBulk,Array.length_toList] at this ⊢
  have hz:s.size=s.data.size:=rfl
  omega
 refine⟨⟨s,k⟩,?_,hs⟩
 match cs,hcl,e0,e1 with
 | [x,y],_,e0,e1=>simp at e0 e1;subst e0 e1;rfl
theorem open_val {n:Nat}{cs:List Value}{d:DataW H}{pl:List MemPlace}(h:DataW.trod enc Tryz.prog w 0 sp held n 94 cs=some (d,pl)):∃v:Doc.Val,cs=valC v:=by
 obtain⟨xs,m,_,hx,hcl,hxl,hf⟩:=DataW.trod_struct Tryz.underlying94 h
 rw[Tryz.cVal] at hcl
 have hl:xs.length=3:=hxl
 have g0:=hf 0 _ rfl
 have g1:=hf 1 _ rfl
 have g2:=hf 2 _ rfl
 rw[List.getElem?_eq_getElem (by omega)] at g0 g1 g2
 obtain⟨k,e0,_,_⟩:=DataW.trod_int Tryz.underlying3 g0
 obtain⟨n',e1,_,_⟩:=DataW.trod_int Tryz.underlying3 g1
 obtain⟨s,e2,_,_⟩:=DataW.trod_string Tryz.underlying9 g2
 have e0:=drop_take_one e0
 have e1:=drop_take_one e1
 have e2:=drop_take_one e2
 refine⟨⟨k,n',s⟩,?_⟩
 match cs,hcl,e0,e1,e2 with
 | [x,y,z],_,e0,e1,e2=>simp at e0 e1 e2;subst e0 e1 e2;rfl
theorem open_step {n:Nat}{cs:List Value}{d:DataW H}{pl:List MemPlace}(h:DataW.trod enc Tryz.prog w 0 sp held n 87 cs=some (d,pl)):
  ∃s:StepD,cs=stepC s∧(Rows.uptoBulk d≤1048576→StepOk w s):=by
 obtain⟨xs,m,_,hx,hcl,hxl,hf⟩:=DataW.trod_struct Tryz.underlying87 h
 rw[Tryz.cStep] at hcl
 have hl:xs.length=7:=hxl
 have g0:=hf 0 _ rfl
 have g1:=hf 1 _ rfl
 have g2:=hf 2 _ rfl
 have g3:=hf 3 _ rfl
 have g4:=hf 4 _ rfl
 have g5:=hf 5 _ rfl
 have g6:=hf 6 _ rfl
 rw[List.getElem?_eq_getElem (by omega)] at g0 g1 g2 g3 g4 g5 g6
 obtain⟨k,e0,_,_⟩:=DataW.trod_int Tryz.underlying3 g0
 obtain⟨e,e1,_,w1⟩:=DataW.trod_int Tryz.underlying3 g1
 obtain⟨a,e2,_,w2⟩:=DataW.trod_int Tryz.underlying3 g2
 obtain⟨s,e3,_,_⟩:=DataW.trod_string Tryz.underlying9 g3
 have y0:=drop_take_one e0
 have y1:=drop_take_one e1
 have y2:=drop_take_one e2
 have y3:=drop_take_one e3
 clear e0 e1 e2 e3
 obtain⟨c0,c1,c2,c3,c4,c5,c6,rfl⟩:∃c0 c1 c2 c3 c4 c5 c6,cs=[c0,c1,c2,c3,c4,c5,c6]:=by
  match cs,hcl with
  | [c0,c1,c2,c3,c4,c5,c6],_=>exact⟨_,_,_,_,_,_,_,rfl⟩
 simp at y0 y1 y2 y3
 subst y0 y1 y2 y3
 have g4':DataW.trod enc Tryz.prog w 0 sp held m 85 [c4]=some xs[4]:=by simpa[Tryz.cFs] using g4
 have g5':DataW.trod enc Tryz.prog w 0 sp held m 33 [c5]=some xs[5]:=by simpa[Tryz.cIs] using g5
 have g6':DataW.trod enc Tryz.prog w 0 sp held m 55 [c6]=some xs[6]:=by simpa[Tryz.cVs] using g6
 obtain⟨fs,i4,q4,_⟩:=open_list Tryz.underlying85 Tryz.cFld (by decide) g4' fldC (fun f d=>f.name.size≤Rows.uptoBulk d) fldC_len (fun n cs' d pl h=>open_fld h)
 obtain⟨is,i5,q5,b5⟩:=open_list Tryz.underlying33 Tryz.cInt (by decide) g5' (fun n:Int=>[Value.int .i64 n]) (fun _ _=>True) (fun _=>rfl) (fun n cs' d pl h=>by
  obtain⟨z,rfl,_,_⟩:=DataW.trod_int Tryz.underlying3 h
  exact⟨z,rfl,trivial⟩)
 obtain⟨vs,i6,q6,b6⟩:=open_list Tryz.underlying55 Tryz.cVal (by decide) g6' valC (fun _ _=>True) valC_len (fun n cs' d pl h=>by
  obtain⟨v,rfl⟩:=open_val h
  exact⟨v,rfl,trivial⟩)
 refine⟨⟨k,e,a,s,fs,c4,is,c5,vs,c6⟩,rfl,fun hb=>?_⟩
 have hint:is.flatMap (fun n:Int=>[Value.int .i64 n])=intC is:=by
  clear i5 q5 b5
  induction is with
  |nil=>rfl
  |cons z r ih=>rw[List.flatMap_cons,ih];rfl
 rw[hint] at i5
 have hd:d=.agg (xs.map (·.1)):=congrArg Prod.fst hx
 subst hd
 have part:∀i (hi:i<xs.length),Rows.uptoBulk xs[i].1≤1048576:=fun i hi=>by
  have:=bulk_mem (H:=H) (d:=xs[i].1) (l:=xs.map (·.1)) (List.mem_map.2 ⟨xs[i],List.getElem_mem hi,rfl⟩)
  simp only[Rows.uptoBulk] at hb
  omega
 have len:∀{β:Type} {l:List β} {y:DataW H},Rows.uptoBulk y≤1048576→((y=.nil∧l=[])∨∃elems spare,y=.slice elems spare∧elems.length=l.length)→l.length≤1048576:=by
  intro β l y hy hq
  rcases hq with⟨_,rfl⟩|⟨elems,spare,rfl,hl⟩
  ·simp
  ·have:=bulk_len elems
   simp only[Rows.uptoBulk] at hy
   omega
 have l4:=len (part 4 (by omega)) (q4.imp id fun⟨e,s,h,hl,_⟩=>⟨e,s,h,hl⟩)
 have l5:=len (part 5 (by omega)) (q5.imp id fun⟨e,s,h,hl,_⟩=>⟨e,s,h,hl⟩)
 have l6:=len (part 6 (by omega)) (q6.imp id fun⟨e,s,h,hl,_⟩=>⟨e,s,h,hl⟩)
 refine⟨(wf_i64 w1).1,(wf_i64 w1).2,(wf_i64 w2).1,(wf_i64 w2).2,fun j hj=>?_,by show fs.length≤_;omega,by show is.length≤_;omega,by show vs.length≤_;omega,i4,i5,i6,b5,b6⟩
 rcases q4 with⟨_,rfl⟩|⟨elems,spare,he4,hl',hq⟩
 ·simp at hj
 ·have hje:j<elems.length:=by rw[hl'];exact hj
  have h1:=hq j hj hje
  have h2:=bulk_mem (List.getElem_mem hje)
  have h3:=part 4 (by omega)
  rw[he4] at h3
  simp only[Rows.uptoBulk] at h3
  show fs[j].name.size≤140737488351232
  omega
theorem open_script {fuel:Nat}{sv:Value}{x:DataW H×List MemPlace}(h:DataW.trod enc Tryz.prog w 0 sp held fuel 29 [sv]=some x)(hb:Rows.uptoBulk x.1≤1048576):
  ∃ds:List StepD,ds.length≤2000000∧Sl w sv ds.length (ds.flatMap stepC)∧∀j (h:j<ds.length),StepOk w ds[j]:=by
 obtain⟨ds,i0,q0,_⟩:=open_list Tryz.underlying29 Tryz.cStep (by decide) h stepC (fun s d=>Rows.uptoBulk d≤1048576→StepOk w s) (fun _=>rfl) (fun n cs' d pl h=>open_step h)
 refine⟨ds,?_,i0.sl,fun j hj=>?_⟩
 ·rcases q0 with⟨_,rfl⟩|⟨elems,spare,hx,hl,_⟩
  ·simp
  ·have:=bulk_len elems
   rw[hx] at hb
   simp only[Rows.uptoBulk] at hb
   omega
 ·rcases q0 with⟨_,rfl⟩|⟨elems,spare,hx,hl,hq⟩
  ·simp at hj
  ·have hje:j<elems.length:=by rw[hl];exact hj
   refine hq j hj hje ?_
   have:=bulk_mem (List.getElem_mem hje)
   rw[hx] at hb
   simp only[Rows.uptoBulk] at hb
   omega
end
end Go.Proofs.YtbnelaoeblhndaaGreatDoor
