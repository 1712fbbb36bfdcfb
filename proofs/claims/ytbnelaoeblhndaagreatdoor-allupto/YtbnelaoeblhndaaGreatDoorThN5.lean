import Derived.Test.YtbnelaoeblhndaaGreatDoorThN2
import Derived.Test.YtbnelaoeblhndaaGreatDoorRefRep
import Derived.Test.YtbnelaoeblhndaaGreatDoorShelfT
import Derived.Deep.RegionHeldLaw
import Derived.Deep.AppendLies
namespace Go.Proofs.YtbnelaoeblhndaaGreatDoor
open Go.RowKit
set_option maxRecDepth 100000
section
variable {w:World}
theorem pwithin_any (n a b:Int):Calls Tryz.prog 66 #[.int .i64 n,.int .i64 a,.int .i64 b] w fun e w'=>e=.returned (.bool (decide (a≤n) && decide (n≤b)))∧w'=w:=by
 go_enter Tryz.func66,Tryz.ntmps66
 go_wp2_with fail
 all_goals
  go_ret
  refine⟨ret_bool ?_,rfl⟩
  first|(simp[*];done)|(simp_all;done)|(simp_all;omega)
set_option maxHeartbeats 2000000 in
theorem isSpot_any (space:Int)(l:List Int)(hl:l.length≤9223372036854775807)(sv:Value)(hs:Sl w sv l.length (intC l)):
  Calls Tryz.prog 44 #[sv,.int .i64 space] w fun e w'=>e=.returned (.bool (Doc.spotB space l))∧w'=w:=by
 by_cases hlen:(l.length:Int)=space
 ·have HSP:Hid (Doc.spotB space l=l.all Doc.inSpot):=by show _=_;unfold Doc.spotB;rw[beq_iff_eq.2 hlen,Bool.and_true]
  rcases hs.has with⟨h0,a,cap,rfl⟩|⟨h0,b,off,cap,rfl,hc,hlt,hr⟩
  ·obtain rfl:=List.eq_nil_of_length_eq_zero h0
   go_enter Tryz.func44,Tryz.ntmps44
   go_wp2_with fail
   all_goals first
    | (go_loop [13] (fun i=>i=.int .i64 0) (fun _=>0)
       case atStart=>rfl
       case round=>
        obtain rfl:=hrel
        go_wp2_with fail
        go_ret
        exact⟨by rw[HSP.out];rfl,rfl⟩)
    | (exfalso;simp_all;done)
  ·have HR:Hid _:=hr
   clear hs hr
   go_enter Tryz.func44,Tryz.ntmps44
   go_wp2_with fail
   go_loop [13] (fun i=>∃k:Nat,k≤l.length∧i=.int .i64 k∧Hid (∀j (_:j<k) (hj:j<l.length),Doc.inSpot l[j]=true)) (fun i=>l.length-(intOf i).toNat)
   case atStart=>exact⟨0,Nat.zero_le _,rfl,fun j hj=>by omega⟩
   case round=>
    obtain⟨k,hk,rfl,HB⟩:=hrel
    by_cases hk2:k<l.length
    ·have r0:=HR.out k (.int .i64 l[k]) (by simp[intC,hk2])
     obtain⟨x,HX⟩:∃x,Hid (x=l[k]):=⟨l[k],rfl⟩
     rw[←HX.out] at r0
     obtain⟨g,HG⟩:∃g,Hid (g=(decide (-1000≤x) && decide (x≤1000))):=⟨(decide (-1000≤x) && decide (x≤1000)),rfl⟩
     cases g with
     |true=>
      go_wp2_with fail
      refine(pwithin_any x (-1000) 1000).mono ?_
      rw[←HG.out]
      rintro e w1 ⟨rfl,hw⟩
      subst hw
      go_wp2_with fail
      go_round
      case rel=>exact⟨k+1,by omega,by go_num,fun j hj hjl=>by
       by_cases h:j=k
       ·subst h;rw[←HX.out];exact HG.out.symm
       ·exact HB.out j (by omega) hjl⟩
      case measure=>simp[intOf];omega
     |false=>
      have HF:Hid (Doc.spotB space l=false):=by
       show _=_
       rw[HSP.out,List.all_eq_false]
       exact⟨l[k],List.getElem_mem hk2,by rw[←HX.out];show ¬Doc.inSpot x=true;rw[show Doc.inSpot x=false from HG.out.symm];simp⟩
      go_wp2_with fail
      refine(pwithin_any x (-1000) 1000).mono ?_
      rw[←HG.out]
      rintro e w1 ⟨rfl,hw⟩
      subst hw
      go_wp2_with fail
      go_ret
      exact⟨by rw[HF.out];rfl,rfl⟩
    ·obtain rfl:k=l.length:=by omega
     have HF:Hid (Doc.spotB space l=true):=by
      show _=_
      rw[HSP.out,List.all_eq_true]
      intro y hy
      obtain⟨j,hj,rfl⟩:=List.getElem_of_mem hy
      exact HB.out j hj hj
     go_wp2_with fail
     go_ret
     exact⟨by rw[HF.out];rfl,rfl⟩
 ·have HSP:Hid (Doc.spotB space l=false):=by show _=_;unfold Doc.spotB;rw[beq_eq_false_iff_ne.2 hlen,Bool.and_false]
  obtain⟨b,c,rfl⟩:∃b c,sv=.slice b l.length c:=by
   rcases hs.has with⟨h0,a,c,e⟩|⟨_,b,o,c,e,_⟩
   ·rw[h0];exact⟨_,_,e⟩
   ·exact⟨_,_,e⟩
  clear hs
  go_enter Tryz.func44,Tryz.ntmps44
  go_wp2_with fail
  all_goals first
   | (go_ret;exact⟨by rw[HSP.out];rfl,rfl⟩)
   | (exfalso;simp_all;done)
theorem goodV_kind {v:Doc.Val}{kind:Int}(hk:kind=1∨kind=2):Doc.goodV v kind=(if v.k=kind then (if kind=1 then (decide (-9999999≤v.n) && decide (v.n≤9999999)) && v.s.toList==[] else v.n==0 && decide (v.s.size≤12)) else v.k==0 && (v.n==0 && v.s.toList==[])):=by
 unfold Doc.goodV
 rcases hk with rfl|rfl
 ·by_cases h:v.k=1
  ·rw[if_pos h,if_pos rfl,h];simp[Bool.and_comm,Bool.and_left_comm]
  ·rw[if_neg h]
   have h1:(v.k==1)=false:=by simpa using h
   rw[h1];simp
 ·by_cases h:v.k=2
  ·rw[if_pos h,if_neg (by decide),h];simp
  ·rw[if_neg h]
   have h1:(v.k==2)=false:=by simpa using h
   rw[h1];simp
set_option maxHeartbeats 2000000 in
theorem fits_any (v:Doc.Val)(kind:Int)(hk:kind=1∨kind=2):
  Calls Tryz.prog 67 #[.agg #[.int .i64 v.k,.int .i64 v.n,.string v.s],.int .i64 kind] w fun e w'=>e=.returned (.bool (Doc.goodV v kind))∧Below w.heap.size w w':=by
 have HG:Hid _:=goodV_kind (v:=v) hk
 obtain⟨k,n,s⟩:=v
 simp only at HG
 by_cases h:k=kind
 ·subst h
  rcases hk with rfl|rfl
  ·go_enter Tryz.func67,Tryz.ntmps67
   go_wp2_with fail
   refine(pwithin_any n (-9999999) 9999999).mono ?_
   obtain⟨g,HW⟩:∃g,Hid (g=(decide (-9999999≤n) && decide (n≤9999999))):=⟨_,rfl⟩
   rw[←HW.out] at HG ⊢
   rintro e w1 ⟨rfl,hw⟩
   subst hw
   cases g
   all_goals
    go_wp2_with fail
    all_goals
     go_ret
     refine⟨ret_bool ?_,(Below.refl _ _).alloc (Nat.le_refl _) _⟩
     first
      | (rw[HG.out];clear HG;first|(simp[*];done)|(simp_all;done)|(simp_all;omega))
      | (clear HG;simp[Doc.goodV];done)
      | (clear HG;simp[Doc.goodV];omega)
  ·go_enter Tryz.func67,Tryz.ntmps67
   go_wp2_with fail
   all_goals
    go_ret
    refine⟨ret_bool ?_,(Below.refl _ _).alloc (Nat.le_refl _) _⟩
    first
     | (rw[HG.out];clear HG;first|(simp[*];done)|(simp_all;done)|(simp_all;omega))
     | (clear HG;simp[Doc.goodV];done)
     | (clear HG;simp[Doc.goodV];omega)
 ·go_enter Tryz.func67,Tryz.ntmps67
  go_wp2_with fail
  all_goals
   go_ret
   refine⟨ret_bool ?_,(Below.refl _ _).alloc (Nat.le_refl _) _⟩
   first
    | (rw[HG.out];clear HG;first|(simp[*];done)|(simp_all;done)|(simp_all;omega))
    | (clear HG;simp[Doc.goodV];done)
    | (clear HG;simp[Doc.goodV];omega)
end
section
variable {w:World}
set_option maxHeartbeats 2000000 in
theorem cput_arg (xb:Nat)(fs:List Doc.Fld)(space id:Int)(fv sv vv:Value)(c0:w.cell? ⟨xb,0,none⟩=some fv)(c1:w.cell? ⟨xb,1,none⟩=some (.int .i64 space))(hf:Sl w fv fs.length (fldsC fs))(spot:List Int)(vals:List Doc.Val)(hs:Sl w sv spot.length (intC spot))(hv:Sl w vv vals.length (valsC vals))(hl:spot.length≤9223372036854775807)(hbad:Doc.putArg fs space id spot vals):
  Calls Tryz.prog 42 #[.pointer (some ⟨xb,0,none⟩),.int .i64 id,sv,vv] w fun e w'=>e=.returned (.int .i64 1)∧w'=w:=by
 have HC:Hid _:=isSpot_any space spot hl sv hs
 obtain⟨fb,fc,rfl⟩:=hf.slice
 obtain⟨vb,vc,rfl⟩:=hv.slice
 obtain⟨sbk,sc,rfl⟩:=hs.slice
 clear hs hv hf
 obtain⟨x,HX⟩:∃x,Hid (x=Doc.spotB space spot):=⟨Doc.spotB space spot,rfl⟩
 unfold Doc.putArg at hbad
 rw[←HX.out] at hbad
 obtain⟨g,HG⟩:∃g,Hid (g=(decide (0≤id) && decide (id≤4095))):=⟨(decide (0≤id) && decide (id≤4095)),rfl⟩
 have hb2:g=false∨(g=true∧x=false)∨(g=true∧x=true∧vals.length≠fs.length):=by
  have:=HG.out
  rcases hbad with k1|⟨k1,k2⟩|⟨k1,k2,k3⟩|⟨k1,k2,k3,k4⟩
  ·left;rw[this];simp;omega
  ·left;rw[this];simp;omega
  ·right;left;exact⟨by rw[this];simp;omega,k3⟩
  ·right;right;exact⟨by rw[this];simp;omega,k3,k4⟩
 clear hbad
 rcases hb2 with rfl|⟨rfl,rfl⟩|⟨rfl,rfl,k4⟩
 ·go_enter Tryz.func42,Tryz.ntmps42
  go_wp2_with fail
  refine(pwithin_any id 0 4095).mono ?_
  rw[←HG.out]
  rintro e w1 ⟨rfl,hw⟩
  subst hw
  go_wp2_with fail
  go_ret
  exact⟨rfl,rfl⟩
 all_goals
  go_enter Tryz.func42,Tryz.ntmps42
  go_wp2_with fail
  refine(pwithin_any id 0 4095).mono ?_
  rw[←HG.out]
  rintro e w1 ⟨rfl,hw⟩
  subst hw
  go_wp2_with fail
  refine Calls.mono HC.out ?_
  rw[←HX.out]
  rintro e w2 ⟨rfl,hw⟩
  subst hw
  go_wp2_with fail
  all_goals first
   | (go_ret;exact⟨rfl,rfl⟩)
   | (exfalso;simp_all;done)
   | (exfalso;simp_all;omega)
set_option maxHeartbeats 4000000 in
theorem cput_any (xb:Nat)(hxb:xb<w.heap.size)(fs:List Doc.Fld)(hkind:∀j (h:j<fs.length),fs[j].kind=1∨fs[j].kind=2)(space id:Int)(fv sv vv:Value)(c0:w.cell? ⟨xb,0,none⟩=some fv)(c1:w.cell? ⟨xb,1,none⟩=some (.int .i64 space))(hf:Sl w fv fs.length (fldsC fs))(spot:List Int)(vals:List Doc.Val)(hs:Sl w sv spot.length (intC spot))(hv:Sl w vv vals.length (valsC vals))(hl:spot.length≤9223372036854775807)(hvl:vals.length≤1000)(hv0:0<vals.length)
  (k1:0≤id) (k2:id≤4095) (k3:Doc.spotB space spot=true) (k4:vals.length=fs.length):
  Calls Tryz.prog 42 #[.pointer (some ⟨xb,0,none⟩),.int .i64 id,sv,vv] w fun e w'=>Below w.heap.size w w'∧
   ((e=.returned (.int .i64 3)∧∃j,∃(h1:j<vals.length) (h2:j<fs.length),Doc.goodV vals[j] fs[j].kind=false)∨
    (e=.returned (.int .i64 0)∧∀j (h1:j<vals.length) (h2:j<fs.length),Doc.goodV vals[j] fs[j].kind=true)):=by
 have HC:Hid _:=isSpot_any space spot hl sv hs
 have K3:Hid (Doc.spotB space spot=true):=k3
 have hg:(decide (0≤id) && decide (id≤4095))=true:=by simp;omega
 have HG:Hid ((decide (0≤id) && decide (id≤4095))=true):=hg
 obtain⟨sbk,sc,rfl⟩:=hs.slice
 rcases hv.has with⟨h0,_⟩|⟨_,vb,vo,vc,rfl,hvc,hvlt,hvr⟩
 ·omega
 rcases hf.has with⟨h0,_⟩|⟨_,fb,fo,fc,rfl,hfc,hflt,hfr⟩
 ·omega
 have HVR:Hid _:=hvr
 have HFR:Hid _:=hfr
 have HKD:Hid _:=hkind
 clear hs hv hf k3 hvr hfr hg k1 k2 hkind
 go_enter Tryz.func42,Tryz.ntmps42
 go_wp2_with fail
 refine(pwithin_any id 0 4095).mono ?_
 rw[HG.out]
 rintro e w1 ⟨rfl,hw⟩
 subst hw
 go_wp2_with fail
 refine Calls.mono HC.out ?_
 rw[K3.out]
 rintro e w2 ⟨rfl,hw⟩
 subst hw
 go_wp2_with fail
 go_loopw [35] (fun iv wr=>∃k:Nat,k≤fs.length∧iv=.int .i64 k∧Below w2.heap.size w2 wr∧Hid (∀j (_:j<k) (h1:j<vals.length) (h2:j<fs.length),Doc.goodV vals[j] fs[j].kind=true)) (fun iv _=>fs.length-(intOf iv).toNat)
 case atStart=>exact⟨0,Nat.zero_le _,rfl,Below.refl _ _,fun j hj=>by omega⟩
 case round=>
  obtain⟨k,hk,rfl,hb,HB⟩:=hrel
  have hcs:∀(b o:Nat) (u:Value),b<w2.heap.size→w2.cell? ⟨b,o,none⟩=some u→wr.cell? ⟨b,o,none⟩=some u:=fun b o u hb' hu=>(hb.cell (p:=⟨b,o,none⟩) hb').trans hu
  have e0:=hcs _ _ _ hxb c0
  have hsz:=hb.size
  have hx1:xb<wr.heap.size:=by omega
  have hx2:vb<wr.heap.size:=by omega
  have hx3:fb<wr.heap.size:=by omega
  by_cases hk2:k<fs.length
  ·have hk3:k<vals.length:=by omega
   have r0:=hcs _ _ _ hvlt (HVR.out (k*3) (.int .i64 vals[k].k) (by unfold valsC;rw[show k*3=k*3+0 from rfl,flat_at valC 3 valC_len vals k hk3 0 (by omega)];rfl))
   have r1:=hcs _ _ _ hvlt (HVR.out (k*3+1) (.int .i64 vals[k].n) (by unfold valsC;rw[flat_at valC 3 valC_len vals k hk3 1 (by omega)];rfl))
   have r2:=hcs _ _ _ hvlt (HVR.out (k*3+2) (.string vals[k].s) (by unfold valsC;rw[flat_at valC 3 valC_len vals k hk3 2 (by omega)];rfl))
   have q1:=hcs _ _ _ hflt (HFR.out (k*2+1) (.int .i64 fs[k].kind) (by unfold fldsC;rw[flat_at fldC 2 fldC_len fs k (by omega) 1 (by omega)];rfl))
   rw[←Nat.add_assoc] at r1 r2 q1
   obtain⟨x,HX⟩:∃x,Hid (x=vals[k]):=⟨vals[k],rfl⟩
   obtain⟨kd,HK⟩:∃kd,Hid (kd=fs[k].kind):=⟨fs[k].kind,rfl⟩
   have hkd:Hid (kd=1∨kd=2):=(show kd=1∨kd=2 by rw[HK.out];exact HKD.out k hk2)
   rw[←HX.out] at r0 r1 r2
   rw[←HK.out] at q1
   obtain⟨gd,HGD⟩:∃gd,Hid (gd=Doc.goodV x kd):=⟨Doc.goodV x kd,rfl⟩
   cases gd with
   |false=>
    go_wp2_with fail
    go_region_with (go_at_call 67;go_must (go_fit (fits_any (w:=(wr.alloc (.cells #[.int .i64 x.k,.int .i64 x.n,.string x.s] 94)).drew) x kd hkd.out));rw[←HGD.out];rintro r w3 ⟨rfl,hb3⟩)
    all_goals
     go_wp2_with fail
     go_ret
     refine⟨(hb.alloc hsz _).drew.trans (hb3.mono (by show w2.heap.size≤(wr.heap.push _).size;simp;omega)),.inl ⟨rfl,k,hk3,hk2,?_⟩⟩
     rw[←HX.out,←HK.out]
     exact HGD.out.symm
   |true=>
    go_wp2_with fail
    go_region_with (go_at_call 67;go_must (go_fit (fits_any (w:=(wr.alloc (.cells #[.int .i64 x.k,.int .i64 x.n,.string x.s] 94)).drew) x kd hkd.out));rw[←HGD.out];rintro r w3 ⟨rfl,hb3⟩)
    all_goals
     go_wp2_with fail
     go_roundw
     case rel=>
      refine⟨k+1,by omega,by go_num,(hb.alloc hsz _).drew.trans (hb3.mono (by show w2.heap.size≤(wr.heap.push _).size;simp;omega)),fun j hj h1 h2=>?_⟩
      by_cases h:j=k
      ·subst h;rw[←HX.out,←HK.out];exact HGD.out.symm
      ·exact HB.out j (by omega) h1 h2
     case measure=>simp[intOf];omega
  ·obtain rfl:k=fs.length:=by omega
   go_wp2_with fail
   go_ret
   exact⟨hb,.inr ⟨rfl,fun j h1 h2=>HB.out j h2 h1 h2⟩⟩
end
section
variable {w:World}
def Doc.hasB (fs:List Doc.Fld)(nm:ByteArray):Bool:=fs.any fun f=>f.name.toList==nm.toList
set_option maxHeartbeats 2000000 in
theorem hasName_any (fs:List Doc.Fld)(hl:fs.length≤9223372036854775807)(fv:Value)(hs:Sl w fv fs.length (fldsC fs))(nm:ByteArray):
  Calls Tryz.prog 105 #[fv,.string nm] w fun e w'=>e=.returned (.bool (Doc.hasB fs nm))∧Below w.heap.size w w':=by
 rcases hs.has with⟨h0,a,cap,rfl⟩|⟨h0,b,off,cap,rfl,hc,hlt,hr⟩
 ·obtain rfl:=List.eq_nil_of_length_eq_zero h0
  go_enter Tryz.func105,Tryz.ntmps105
  go_wp2_with fail
  go_loop [9] (fun i=>i=.int .i64 0) (fun _=>0)
  case atStart=>rfl
  case round=>
   obtain rfl:=hrel
   go_wp2_with fail
   go_ret
   exact⟨rfl,Below.refl _ _⟩
 ·have HR:Hid _:=hr
  clear hs hr
  go_enter Tryz.func105,Tryz.ntmps105
  go_wp2_with fail
  go_loopw [9] (fun i wr=>∃k:Nat,k≤fs.length∧i=.int .i64 k∧Below w.heap.size w wr∧Hid (∀j (_:j<k) (hj:j<fs.length),(fs[j].name.toList==nm.toList)=false)) (fun i _=>fs.length-(intOf i).toNat)
  case atStart=>exact⟨0,Nat.zero_le _,rfl,Below.refl _ _,fun j hj=>by omega⟩
  case round=>
   obtain⟨k,hk,rfl,hb,HB⟩:=hrel
   have hsz:=hb.size
   have hbl:b<wr.heap.size:=by omega
   by_cases hk2:k<fs.length
   ·have r0:=(hb.cell (p:=⟨b,off+k*2,none⟩) hlt).trans (HR.out (k*2) (.string fs[k].name) (by unfold fldsC;rw[show k*2=k*2+0 from rfl,flat_at fldC 2 fldC_len fs k hk2 0 (by omega)];rfl))
    have r1:=(hb.cell (p:=⟨b,off+(k*2+1),none⟩) hlt).trans (HR.out (k*2+1) (.int .i64 fs[k].kind) (by unfold fldsC;rw[flat_at fldC 2 fldC_len fs k hk2 1 (by omega)];rfl))
    rw[←Nat.add_assoc] at r1
    obtain⟨x,HX⟩:∃x,Hid (x=fs[k]):=⟨fs[k],rfl⟩
    rw[←HX.out] at r0 r1
    by_cases hin:(x.name.toList==nm.toList)=true
    ·have HF:Hid (Doc.hasB fs nm=true):=by
      show _=_
      unfold Doc.hasB
      rw[List.any_eq_true]
      exact⟨fs[k],List.getElem_mem hk2,by rw[←HX.out];exact hin⟩
     go_wp2_with fail
     go_ret
     exact⟨by rw[HF.out];rfl,hb.alloc hsz _⟩
    ·have hin:(x.name.toList==nm.toList)=false:=by simpa using hin
     have HI:Hid ((x.name.toList==nm.toList)=false):=hin
     go_wp2_with fail
     go_roundw
     case rel=>exact⟨k+1,by omega,by go_num,hb.alloc hsz _,fun j hj hjl=>by
      by_cases h:j=k
      ·subst h;rw[←HX.out];exact HI.out
      ·exact HB.out j (by omega) hjl⟩
     case measure=>simp[intOf];omega
   ·obtain rfl:k=fs.length:=by omega
    have HF:Hid (Doc.hasB fs nm=false):=by
     show _=_
     unfold Doc.hasB
     rw[List.any_eq_false]
     intro f hf
     obtain⟨j,hj,rfl⟩:=List.getElem_of_mem hf
     rw[HB.out j hj hj];simp
    go_wp2_with fail
    go_ret
    exact⟨by rw[HF.out];rfl,hb⟩
end
theorem tmod_nat (x:Int)(hx:0≤x)(n:Nat)(hn:0<n):∃r:Nat,x.tmod n=r∧r<n:=by
 refine⟨x.toNat % n,?_,Nat.mod_lt _ hn⟩
 rw[Int.ofNat_tmod,Int.toNat_of_nonneg hx]
section
variable {w:World}
set_option maxHeartbeats 1000000 in
theorem pick_any (c:Int)(hc1: -9223372036854775808≤c)(hc2:c≤9223372036854775807)(n:Nat)(hn:0<n)(hn2:n≤9223372036854775807):
  Calls Tryz.prog 55 #[.int .i64 c,.int .i64 n] w fun e w'=>(∃r:Nat,r<n∧e=.returned (.int .i64 r))∧w'=w:=by
 by_cases h:c<0
 ·obtain⟨r,h1,h2⟩:=tmod_nat (-(c+1)) (by omega) n hn
  go_enter Tryz.func55,Tryz.ntmps55
  go_wp2_with fail
  go_ret
  exact⟨⟨r,h2,rfl⟩,rfl⟩
 ·obtain⟨r,h1,h2⟩:=tmod_nat c (by omega) n hn
  go_enter Tryz.func55,Tryz.ntmps55
  go_wp2_with fail
  go_ret
  exact⟨⟨r,h2,rfl⟩,rfl⟩
theorem int_at (l:List Int)(k:Nat)(hk:k<l.length):(intC l)[k]? =some (.int .i64 l[k]):=by simp[intC,hk]
set_option maxHeartbeats 2000000 in
theorem same_any (l:List Int)(hl:l.length≤9223372036854775807)(av bv:Value)(ha:Sl w av l.length (intC l))(hb:Sl w bv l.length (intC l)):
  Calls Tryz.prog 98 #[av,bv] w fun e w'=>e=.returned (.bool true)∧Below w.heap.size w w':=by
 rcases ha.has with⟨h0,a,cap,rfl⟩|⟨h0,b,off,cap,rfl,hc,hlt,hr⟩
 ·obtain⟨a2,cap2,rfl⟩:∃a c,bv=.slice a 0 c:=by
   rcases hb.has with⟨_,a,c,e⟩|⟨h1,_⟩
   ·exact⟨a,c,e⟩
   ·omega
  go_enter Tryz.func98,Tryz.ntmps98
  go_wp2_with fail
  go_loop [5] (fun i=>i=.int .i64 0) (fun _=>0)
  case atStart=>rfl
  case round=>
   obtain rfl:=hrel
   go_wp2_with fail
   go_ret
   exact⟨rfl,Below.refl _ _⟩
 ·rcases hb.has with⟨h1,_⟩|⟨_,b2,off2,cap2,rfl,hc2,hlt2,hr2⟩
  ·omega
  have HR:Hid _:=hr
  have HR2:Hid _:=hr2
  clear ha hb hr hr2
  go_enter Tryz.func98,Tryz.ntmps98
  go_wp2_with fail
  go_loopw [5] (fun i wr=>∃k:Nat,k≤l.length∧i=.int .i64 k∧Below w.heap.size w wr) (fun i _=>l.length-(intOf i).toNat)
  case atStart=>exact⟨0,Nat.zero_le _,rfl,Below.refl _ _⟩
  case round=>
   obtain⟨k,hk,rfl,hb⟩:=hrel
   by_cases hk2:k<l.length
   ·have r0:=(hb.cell (p:=⟨b,off+k,none⟩) hlt).trans (HR.out k _ (int_at l k hk2))
    have r1:=(hb.cell (p:=⟨b2,off2+k,none⟩) hlt2).trans (HR2.out k _ (int_at l k hk2))
    obtain⟨x,HX⟩:∃x,Hid (x=l[k]):=⟨l[k],rfl⟩
    rw[←HX.out] at r0 r1
    go_wp2_with fail
    go_region
    all_goals
     go_wp2_with fail
     go_roundw
     case rel=>exact⟨k+1,by omega,by go_num,hb.drew⟩
     case measure=>simp[intOf];omega
   ·obtain rfl:k=l.length:=by omega
    go_wp2_with fail
    go_ret
    exact⟨rfl,hb⟩
end
def Doc.newArg (fs:List Doc.Fld)(space:Int):Prop:=fs.length<1∨(1≤fs.length∧4<fs.length)∨(1≤fs.length∧fs.length≤4∧space<1)∨(1≤fs.length∧fs.length≤4∧1≤space∧4<space)
def Doc.kindB (k:Int):Bool:=k==1 || k==2
def Doc.nameAt (fs:List Doc.Fld)(i:Nat)(nm:ByteArray):Bool:=Doc.nameB nm && !(decide (Doc.placeI (Doc.idxF fs nm)<i))
section
variable {w:World}
set_option maxHeartbeats 2000000 in
theorem rnew_arg (fs:List Doc.Fld)(fv:Value)(hs:Sl w fv fs.length (fldsC fs))(space:Int)(hbad:Doc.newArg fs space):
  Calls Tryz.prog 89 #[fv,.int .i64 space] w fun e w'=>e=.returned (.tuple #[.pointer none,.int .i64 1])∧w'=w:=by
 obtain⟨b,c,rfl⟩:=hs.slice
 clear hs
 rcases hbad with k1|⟨k1,k2⟩|⟨k1,k2,k3⟩|⟨k1,k2,k3,k4⟩
 all_goals
  go_enter Tryz.func89,Tryz.ntmps89
  go_wp2_with fail
  all_goals first
   | (go_ret2;exact⟨rfl,rfl⟩)
   | (exfalso;simp_all;done)
   | (exfalso;simp_all;omega)
structure NewMid (w:World)(space:Int)(fs:List Doc.Fld)(k:Nat)(wr:World)(fv:Value):Prop where
 below:Below w.heap.size w wr
 box:wr.heap[w.heap.size]? =some (.cells #[fv,.int .i64 space,.slice none 0 0] 193 (0,0))
 row:wr.ownsRow (w.heap.size+1) 92 2 fv k (fldsC (fs.take k))
theorem fldC_one (f:Doc.Fld):∀u∈fldC f,u.oneCell'=true:=by
 intro u hu
 simp only[fldC,List.mem_cons,List.not_mem_nil,or_false] at hu
 rcases hu with rfl|rfl<;>rfl
theorem NewMid.step {w3 w4:World}{space:Int}{fs:List Doc.Fld}{k:Nat}{fv v4:Value}{x:Doc.Fld}{o:Obj}
  (h:NewMid w space fs k w3 fv) (hown:w4.ownsRow (w.heap.size+1) 92 2 v4 (k+1) (fldsC (fs.take k)++fldC x)) (hgrow:(w3.alloc o).drew.grownBy w4 fv.ownBlock) (hk:k<fs.length) (hx:x=fs[k]):
  w4.heap[w.heap.size]? =some (.cells #[fv,.int .i64 space,.slice none 0 0] 193 (0,0))∧NewMid w space fs (k+1) (w4.setCell ⟨w.heap.size,0,none⟩ v4) v4:=by
 have hl:=lt_block h.box
 have old:∀j,j<w3.heap.size→some j≠fv.ownBlock→w4.heap[j]? =w3.heap[j]? :=fun j hj hne=>
  (hgrow.block j (by show j<(w3.heap.push o).size;simp;omega) hne).trans (heap_alloc_old w3 o hj)
 have hbx:=(old _ hl (fun e=>by have:=own_ge h.row e.symm;omega)).trans h.box
 have hbel:Below w.heap.size w w4:=by
  have:=h.below.size
  exact((h.below.alloc h.below.size o).drew).grown hgrow (by show w.heap.size≤(w3.heap.push o).size;simp;omega) (fun j e=>by have:=own_ge h.row e;omega)
 refine⟨hbx,hbel.setCell (p:=⟨w.heap.size,0,none⟩) (Nat.le_refl _) _,set_blk' hbx 0 _,?_⟩
 have e3:fldsC (fs.take (k+1))=fldsC (fs.take k)++fldC x:=by
  rw[←List.take_append_getElem hk,hx]
  unfold fldsC
  rw[List.flatMap_append]
  simp
 rw[e3]
 refine rowKept hown (fun j u e hu=>?_)
 have h1:=own_ge hown e
 rw[Below.heap_setCell _ _ _ _ (by show j≠w.heap.size;omega)]
 exact hu
theorem own_zero {w:World}{m e size n:Nat}{v:Value}{cs:List Value}(h:w.ownsRow m e size v n cs):w.ownsRow 0 e size v n cs:=by
 obtain⟨a,b⟩:=h
 refine⟨a,?_⟩
 rcases b with b|⟨g',cap',cur',e1,_,r⟩
 ·exact .inl b
 ·exact .inr ⟨g',cap',cur',e1,Nat.zero_le _,r⟩
set_option maxHeartbeats 4000000 in
theorem rnew_any (fs:List Doc.Fld)(fv:Value)(hs:Sl w fv fs.length (fldsC fs))(space:Int)(k1:1≤fs.length)(k2:fs.length≤4)(k3:1≤space)(k4:space≤4)(hnm:∀j (h:j<fs.length),fs[j].name.size≤140737488351232):
  Calls Tryz.prog 89 #[fv,.int .i64 space] w fun e w'=>
   (e=.returned (.tuple #[.pointer none,.int .i64 1])∧Below w.heap.size w w'∧∃j,∃(h:j<fs.length),Doc.kindB fs[j].kind=false)∨
   ((∀j (h:j<fs.length),Doc.kindB fs[j].kind=true)∧e=.returned (.tuple #[.pointer none,.int .i64 2])∧Below w.heap.size w w'∧∃j,∃(h:j<fs.length),Doc.nameAt fs j fs[j].name=false)∨
   ((∀j (h:j<fs.length),Doc.kindB fs[j].kind=true)∧(∀j (h:j<fs.length),Doc.nameAt fs j fs[j].name=true)∧e=.returned (.tuple #[.pointer (some ⟨w.heap.size,0,none⟩),.int .i64 0])∧RefSt w' (fun k=>w.heap.size≤k) w.heap.size fs space []∧Below w.heap.size w w'):=by
 obtain⟨i0,hi,hz0,hz1,hz2⟩:=info_parts Tryz.infoFldT
 rcases hs.has with⟨h0,_⟩|⟨_,b,off,cap,rfl,hc,hlt,hr⟩
 ·omega
 have HS:Hid _:=hs
 have HR:Hid _:=hr
 clear hs hr
 go_enter Tryz.func89,Tryz.ntmps89
 go_wp2_with fail
 have hst:NewMid w space fs 0 (w.alloc (.cells #[.slice none 0 0,.int .i64 space,.slice none 0 0] 193)) (.slice none 0 0):=⟨(Below.refl _ _).alloc (Nat.le_refl _) _,heap_alloc_new w _,World.ownsRow_nil _ _ _ _⟩
 go_loopw [7] (fun iv wr=>∃(k:Nat) (fw:Value),k≤fs.length∧iv=.int .i64 k∧NewMid w space fs k wr fw∧Hid (∀j (_:j<k) (h1:j<fs.length),Doc.kindB fs[j].kind=true)) (fun iv _=>fs.length-(intOf iv).toNat)
 case atStart=>exact⟨0,_,Nat.zero_le _,rfl,hst,fun j hj=>by omega⟩
 case round=>
  obtain⟨k,fw,hk,rfl,hm,HB⟩:=hrel
  clear hst
  obtain⟨fb,fc,rfl⟩:=row_slice hm.row
  by_cases hk2:k<fs.length
  ·have r0:=(hm.below.cell (p:=⟨b,off+k*2,none⟩) hlt).trans (HR.out (k*2) (.string fs[k].name) (by unfold fldsC;rw[show k*2=k*2+0 from rfl,flat_at fldC 2 fldC_len fs k hk2 0 (by omega)];rfl))
   have r1:=(hm.below.cell (p:=⟨b,off+(k*2+1),none⟩) hlt).trans (HR.out (k*2+1) (.int .i64 fs[k].kind) (by unfold fldsC;rw[flat_at fldC 2 fldC_len fs k hk2 1 (by omega)];rfl))
   rw[←Nat.add_assoc] at r1
   obtain⟨x,HX⟩:∃x,Hid (x=fs[k]):=⟨fs[k],rfl⟩
   rw[←HX.out] at r0 r1
   obtain⟨nm,kd⟩:=x
   simp only at r0 r1
   obtain⟨b0,b1,b2⟩:=st_cells hm.box
   have f0:=blk_free hm.box 0
   have hbl:=lt_block hm.box
   have hsz:=hm.below.size
   by_cases hkd:kd=1∨kd=2
   ·have HKD:Hid (Doc.kindB kd=true):=(show Doc.kindB kd=true by rcases hkd with rfl|rfl<;>rfl)
    rcases hkd with rfl|rfl
    ·go_wp2_with fail
     go_region_law (refine step_append_at rfl (.tmp 53) (.tmp 58) 85 rfl (w.heap.size+1) 92 i0 _ 2 24 Tryz.underlying85 hi hz0 hz1 hz2 rfl (by decide) _ k (fldsC (fs.take k)) (by simp[Act.eval]) (own_drew (hm.row.alloc _)) ⟨wr.heap.size,0,none⟩ 1 1 (fldC ⟨nm,1⟩) (by simp[Act.eval]) rfl (fun j u hj=>cells_new_drew _ (fldC ⟨nm,1⟩) _ _ (by simp) j u hj) (fldC_one ⟨nm,1⟩) (by unfold maxLen;omega) (by omega) (by simp;omega) ?_;intro v4 w4 hown4 hgrow4 _;obtain⟨g4,cap4,rfl⟩:=own_slice' hown4 (by omega);obtain⟨hbx4,hmid4⟩:=NewMid.step hm hown4 hgrow4 hk2 HX.out;have b40:=blk_cell hbx4 0 _ rfl;have f40:=blk_free hbx4 0;have HM:Hid _:=hmid4;clear hown4 hgrow4 hmid4)
     all_goals
      go_wp2_with fail
      go_roundw
      case rel=>
       refine⟨k+1,_,by omega,by go_num,HM.out,fun j hj h1=>?_⟩
       by_cases h:j=k
       ·subst h;rw[←HX.out];exact HKD.out
       ·exact HB.out j (by omega) h1
      case measure=>simp[intOf];omega
    ·go_wp2_with fail
     go_region_law (refine step_append_at rfl (.tmp 53) (.tmp 58) 85 rfl (w.heap.size+1) 92 i0 _ 2 24 Tryz.underlying85 hi hz0 hz1 hz2 rfl (by decide) _ k (fldsC (fs.take k)) (by simp[Act.eval]) (own_drew (hm.row.alloc _)) ⟨wr.heap.size,0,none⟩ 1 1 (fldC ⟨nm,2⟩) (by simp[Act.eval]) rfl (fun j u hj=>cells_new_drew _ (fldC ⟨nm,2⟩) _ _ (by simp) j u hj) (fldC_one ⟨nm,2⟩) (by unfold maxLen;omega) (by omega) (by simp;omega) ?_;intro v4 w4 hown4 hgrow4 _;obtain⟨g4,cap4,rfl⟩:=own_slice' hown4 (by omega);obtain⟨hbx4,hmid4⟩:=NewMid.step hm hown4 hgrow4 hk2 HX.out;have b40:=blk_cell hbx4 0 _ rfl;have f40:=blk_free hbx4 0;have HM:Hid _:=hmid4;clear hown4 hgrow4 hmid4)
     all_goals
      go_wp2_with fail
      go_roundw
      case rel=>
       refine⟨k+1,_,by omega,by go_num,HM.out,fun j hj h1=>?_⟩
       by_cases h:j=k
       ·subst h;rw[←HX.out];exact HKD.out
       ·exact HB.out j (by omega) h1
      case measure=>simp[intOf];omega
   ·have hkd1:¬kd=1:=fun h=>hkd (.inl h)
    have hkd2:¬kd=2:=fun h=>hkd (.inr h)
    have HKD:Hid (Doc.kindB kd=false):=(show Doc.kindB kd=false by simp[Doc.kindB,hkd1,hkd2])
    clear hkd
    go_wp2_with fail
    all_goals first
     | (go_ret2;refine .inl ⟨rfl,hm.below,k,hk2,?_⟩;rw[←HX.out];exact HKD.out)
     | (exfalso;simp_all;done)
  ·obtain rfl:k=fs.length:=by omega
   have hall:∀j (h:j<fs.length),Doc.kindB fs[j].kind=true:=fun j h=>HB.out j h h
   have HALL:Hid _:=hall
   have HM:Hid _:=hm
   have hsl2:∀w',Below w.heap.size w w'→Sl w' (.slice (some ⟨b,off,none⟩) fs.length cap) fs.length (fldsC fs):=fun w' hb'=>HS.out.below hb'
   have HSL:Hid _:=hsl2
   have hbel:=hm.below
   clear hall hm hsl2
   go_wp2_with fail
   go_loopw [8] (fun iv wx=>∃k:Nat,k≤fs.length∧iv=.int .i64 k∧wx=wr∧Hid (∀j (_:j<k) (h1:j<fs.length),Doc.nameAt fs j fs[j].name=true)) (fun iv _=>fs.length-(intOf iv).toNat)
   case atStart=>exact⟨0,Nat.zero_le _,rfl,rfl,fun j hj=>by omega⟩
   case round=>
    obtain⟨k,hk',rfl,rfl,HB2⟩:=hrel
    by_cases hk2':k<fs.length
    ·have r0:=(hbel.cell (p:=⟨b,off+k*2,none⟩) hlt).trans (HR.out (k*2) (.string fs[k].name) (by unfold fldsC;rw[show k*2=k*2+0 from rfl,flat_at fldC 2 fldC_len fs k hk2' 0 (by omega)];rfl))
     obtain⟨x,HX⟩:∃x,Hid (x=fs[k].name):=⟨fs[k].name,rfl⟩
     rw[←HX.out] at r0
     have hxs:=hnm k hk2'
     rw[←HX.out] at hxs
     obtain⟨nb,HNB⟩:∃nb,Hid (nb=Doc.nameB x):=⟨Doc.nameB x,rfl⟩
     obtain⟨fp,HFP⟩:∃fp,Hid (fp=Doc.placeI (Doc.idxF fs x)):=⟨Doc.placeI (Doc.idxF fs x),rfl⟩
     have HNA:Hid (Doc.nameAt fs k x=(nb && !(decide (fp<k)))):=by show _=_;unfold Doc.nameAt;rw[HNB.out,HFP.out]
     cases nb with
     |false=>
      go_wp2_with fail
      refine(name_any x _ hxs).mono ?_
      rw[←HNB.out]
      rintro r w5 ⟨rfl,hw5⟩
      subst hw5
      go_wp2_with fail
      go_ret2
      refine .inr (.inl ⟨HALL.out,rfl,hbel,k,hk2',?_⟩)
      rw[←HX.out,HNA.out];rfl
     |true=>
      by_cases hfp:fp<k
      ·go_wp2_with fail
       refine(name_any x _ hxs).mono ?_
       rw[←HNB.out]
       rintro r w5 ⟨rfl,hw5⟩
       subst hw5
       go_wp2_with fail
       refine(field_any fs (by omega) _ (HSL.out _ hbel) x).mono ?_
       rw[←HFP.out]
       rintro r w6 ⟨rfl,hw6⟩
       subst hw6
       go_wp2_with fail
       go_ret2
       refine .inr (.inl ⟨HALL.out,rfl,hbel,k,hk2',?_⟩)
       rw[←HX.out,HNA.out];simp[hfp]
      ·go_wp2_with fail
       refine(name_any x _ hxs).mono ?_
       rw[←HNB.out]
       rintro r w5 ⟨rfl,hw5⟩
       subst hw5
       go_wp2_with fail
       refine(field_any fs (by omega) _ (HSL.out _ hbel) x).mono ?_
       rw[←HFP.out]
       rintro r w6 ⟨rfl,hw6⟩
       subst hw6
       go_wp2_with fail
       go_roundw
       case rel=>
        refine⟨k+1,by omega,by go_num,by first|rfl|trivial,fun j hj h1=>?_⟩
        by_cases h:j=k
        ·subst h;rw[←HX.out,HNA.out];simp[hfp]
        ·exact HB2.out j (by omega) h1
       case measure=>simp[intOf];omega
    ·obtain rfl:k=fs.length:=by omega
     go_wp2_with fail
     go_ret2
     refine .inr (.inr ⟨HALL.out,fun j h=>HB2.out j h h,rfl,?_,hbel⟩)
     have hm:=HM.out
     have hrow:=hm.row
     rw[List.take_of_length_le (Nat.le_refl _)] at hrow
     have hr0:=own_zero hrow
     exact⟨_,_,[],hm.box,hr0,World.ownsRow_nil _ _ _ _,rfl,fun i hi=>(by simp at hi),Nat.le_refl _,fun k e=>(by have:=own_ge hrow e;omega),fun k e=>(by cases e),fun i hi=>(by simp at hi)⟩
end
theorem sclone_any (s:ByteArray)(hs:s.size≤140737488351232)(w:World):Calls Tryz.prog 106 #[.string s] w fun e w'=>e=.returned (.string s)∧Below w.heap.size w w':=by
 go_enter Tryz.func106,Tryz.ntmps106
 go_wp2_with fail
 refine(Tryz.stringslite_Clone s _ (by omega)).mono ?_
 rintro e w1 ⟨rfl,hb⟩
 go_wp2_with fail
 go_ret
 exact⟨rfl,hb⟩
section
variable {w:World}
theorem box_kept {w3 w4:World}{o u:Obj}{j:Nat}{row:Option Nat}(hg:(w3.alloc o).grownBy w4 row)(q:w3.heap[j]? =some u)(hne:some j≠row):w4.heap[j]? =some u:=
 (hg.block j (by have:=lt_block q;simp;omega) hne).trans ((heap_alloc_old w3 o (lt_block q)).trans q)
theorem grown_below {w3 w4 wr:World}{o:Obj}{e size k:Nat}{v:Value}{cs:List Value}(hb:Below w.heap.size w w3)(hg:(w3.alloc o).grownBy w4 v.ownBlock)(hr:wr.ownsRow w.heap.size e size v k cs):Below w.heap.size w w4:=
 (hb.alloc hb.size o).grown hg (by have:=hb.size;simp;omega) (fun j ej=>own_ge hr ej)
set_option maxHeartbeats 4000000 in
theorem ownFields_any (fs:List Doc.Fld)(h1:1≤fs.length)(hl:fs.length≤4)(fv:Value)(hs:Sl w fv fs.length (fldsC fs))(hnm:∀j (h:j<fs.length),fs[j].name.size≤140737488351232):
  Calls Tryz.prog 62 #[fv] w fun e w'=>∃v,e=.returned v∧w'.ownsRow w.heap.size 92 2 v fs.length (fldsC fs)∧Below w.heap.size w w':=by
 obtain⟨i0,hi,hz0,hz1,hz2⟩:=info_parts Tryz.infoFldT
 rcases hs.has with⟨h0,_⟩|⟨h0,b,off,cap,rfl,hc,hlt,hr⟩
 ·omega
 have HR:Hid _:=hr
 clear hs hr
 go_enter Tryz.func62,Tryz.ntmps62
 go_wp2_with fail
 go_loopw [3,8] (fun v i wr=>∃k:Nat,k≤fs.length∧i=.int .i64 k∧wr.ownsRow w.heap.size 92 2 v k (fldsC (fs.take k))∧Below w.heap.size w wr) (fun _ i _=>fs.length-(intOf i).toNat)
 case atStart=>exact⟨0,Nat.zero_le _,rfl,World.ownsRow_nil _ _ _ _,Below.refl _ _⟩
 case round=>
  obtain⟨k,hk,rfl,hrow,hb⟩:=hrel
  obtain⟨vb,vc,rfl⟩:=row_slice hrow
  have hsz:=hb.size
  have hbl:b<wr.heap.size:=by omega
  by_cases hk2:k<fs.length
  ·have r0:=(hb.cell (p:=⟨b,off+k*2,none⟩) hlt).trans (HR.out (k*2) (.string fs[k].name) (by unfold fldsC;rw[show k*2=k*2+0 from rfl,flat_at fldC 2 fldC_len fs k hk2 0 (by omega)];rfl))
   have r1:=(hb.cell (p:=⟨b,off+(k*2+1),none⟩) hlt).trans (HR.out (k*2+1) (.int .i64 fs[k].kind) (by unfold fldsC;rw[flat_at fldC 2 fldC_len fs k hk2 1 (by omega)];rfl))
   rw[←Nat.add_assoc] at r1
   have hxs:=hnm k hk2
   obtain⟨x,HX⟩:∃x,Hid (x=fs[k]):=⟨fs[k],rfl⟩
   rw[←HX.out] at r0 r1 hxs
   go_wp2_with fail
   have hnb:some wr.heap.size≠(Value.slice vb k vc).ownBlock:=fun e=>by have:=ownLt hrow e.symm;omega
   have hbox:=heap_alloc_new wr (.cells #[.string x.name,.int .i64 x.kind] 92)
   have s0:=blk_cell hbox 0 _ rfl
   have s1:=blk_cell hbox 1 _ rfl
   go_region_held_law (fun w'=>w'.cell? ⟨wr.heap.size,0,none⟩=some (.string x.name)∧w'.cell? ⟨wr.heap.size,1,none⟩=some (.int .i64 x.kind)) (first|exact⟨u0,u1⟩|go_keep|(exact⟨(hb3.cell (p:=⟨wr.heap.size,0,none⟩) (by show wr.heap.size<(wr.heap.push _).size;simp)).trans s0,(hb3.cell (p:=⟨wr.heap.size,1,none⟩) (by show wr.heap.size<(wr.heap.push _).size;simp)).trans s1⟩)) (first|(go_at_call 106;refine(sclone_any x.name hxs _).mono ?_;rintro r w3 ⟨rfl,hb3⟩;have q3:=(hb3.block wr.heap.size (by show wr.heap.size<(wr.heap.push _).size;simp)).trans hbox;have hrow3:w3.ownsRow w.heap.size 92 2 (.slice vb k vc) k (fldsC (fs.take k)):=rowKept (hrow.alloc _) (fun j o e ho=>(hb3.block j (lt_block ho)).trans ho);have hb4:Below w.heap.size w w3:=(hb.alloc hsz _).drew.trans (hb3.mono (by show w.heap.size≤(wr.heap.push _).size;simp;omega));have hsz3:=hb4.size)|(refine step_append_at rfl (.tmp 12) (.tmp 19) 85 rfl w.heap.size 92 i0 _ 2 24 Tryz.underlying85 hi hz0 hz1 hz2 rfl (by decide) (.slice vb k vc) k (fldsC (fs.take k)) (by simp[Act.eval]) (by first|exact hrow3.alloc _|exact own_drew (hrow3.alloc _)) ⟨w3.heap.size,0,none⟩ 1 1 (fldC x) (by simp[Act.eval]) rfl (by first|exact fun j u hj=>cells_new _ (fldC x) _ _ rfl j u hj|exact fun j u hj=>cells_new_drew _ (fldC x) _ _ rfl j u hj) (fldC_one x) (by unfold maxLen;omega) (by omega) (by simp;omega) ?_;intro v4 w4 hown4 hgrow4 _;have q4:=box_kept hgrow4 q3 hnb;have u0:=blk_cell q4 0 _ rfl;have u1:=blk_cell q4 1 _ rfl;have hb5:=grown_below hb4 hgrow4 hrow;obtain⟨g4,cap4,rfl⟩:=own_slice' hown4 (by omega)))
   all_goals
    go_wp2_with fail
    go_roundw
    case rel=>
     refine⟨k+1,by omega,by go_num,?_,hb5⟩
     have e3:fldsC (fs.take (k+1))=fldsC (fs.take k)++fldC x:=by
      rw[←List.take_append_getElem hk2,HX.out]
      unfold fldsC
      rw[List.flatMap_append]
      simp
     rw[e3];exact hown4
    case measure=>simp[intOf];omega
  ·obtain rfl:k=fs.length:=by omega
   rw[List.take_of_length_le (Nat.le_refl _)] at hrow
   go_wp2_with fail
   go_ret
   exact⟨_,rfl,hrow,hb⟩
end
end Go.Proofs.YtbnelaoeblhndaaGreatDoor
