import Derived.Test.YtbnelaoeblhndaaGreatDoorSynWr7
import Derived.Test.YtbnelaoeblhndaaGreatDoorThN8
import Derived.Maps.RangeWalk
import Derived.Lib.TrailingZeros
import Derived.Laws.Bits64b
import Derived.OrdersHeld
namespace Go.Proofs.YtbnelaoeblhndaaGreatDoor
open Go.RowKit
set_option maxRecDepth 100000
section
variable {w:World}
set_option maxHeartbeats 2000000 in
theorem place_any (fs:List Doc.Fld)(hl:fs.length≤9223372036854775807)(fv:Value)(hs:Sl w fv fs.length (fldsC fs))(nm:ByteArray):
  Calls Tryz.prog 144 #[.string nm,fv] w fun e w'=>e=.returned (.int .i64 (Doc.placeI (Doc.idxF fs nm)))∧Below w.heap.size w w':=by
 rcases hs.has with⟨h0,a,cap,rfl⟩|⟨h0,b,off,cap,rfl,hc,hlt,hr⟩
 ·obtain rfl:=List.eq_nil_of_length_eq_zero h0
  go_enter Tryz.func144,Tryz.ntmps144
  go_wp2_with fail
  go_loop [9] (fun i=>i=.int .i64 0) (fun _=>0)
  case atStart=>rfl
  case round=>
   obtain rfl:=hrel
   go_wp2_with fail
   go_ret
   exact⟨rfl,Below.refl _ _⟩
 ·have HR:Hid _:=hr
  clear hs hr
  go_enter Tryz.func144,Tryz.ntmps144
  go_wp2_with fail
  go_loopw [9] (fun i wr=>∃k:Nat,k≤fs.length∧i=.int .i64 k∧Below w.heap.size w wr∧Hid (∀j (_:j<k) (hj:j<fs.length),(fs[j].name.toList==nm.toList)=false)) (fun i _=>fs.length-(intOf i).toNat)
  case atStart=>exact⟨0,Nat.zero_le _,rfl,Below.refl _ _,fun j hj=>by omega⟩
  case round=>
   obtain⟨k,hk,rfl,hb,HB⟩:=hrel
   have hsz:=hb.size
   have hbl:b<wr.heap.size:=by omega
   by_cases hk2:k<fs.length
   ·have r0:=(hb.cell (p:=⟨b,off+k*2,none⟩) hlt).trans (HR.out (k*2) (.string fs[k].name) (by unfold fldsC;rw[show k*2=k*2+0 from rfl,flat_at fldC 2 fldC_len fs k hk2 0 (by omega)];rfl))
    have r1:=(hb.cell (p:=⟨b,off+(k*2+1),none⟩) hlt).trans (HR.out (k*2+1) (.int .i64 fs[k].kind) (by unfold fldsC;rw[flat_at fldC 2 fldC_len fs k hk2 1 (by omega)];rfl))
    rw[←Nat.add_assoc] at r1
    obtain⟨x,HX⟩:∃x,Hid (x=fs[k]):=⟨fs[k],rfl⟩
    rw[←HX.out] at r0 r1
    by_cases hin:(x.name.toList==nm.toList)=true
    ·have HF:Hid (Doc.idxF fs nm=some k):=Doc.idxF_some hk2 (by rw[←HX.out];exact hin) (fun j hj=>HB.out j hj (by omega))
     go_wp2_with fail
     go_ret
     exact⟨by rw[HF.out];rfl,hb.alloc hsz _⟩
    ·have hin:(x.name.toList==nm.toList)=false:=by simpa using hin
     have HI:Hid ((x.name.toList==nm.toList)=false):=hin
     go_wp2_with fail
     go_roundw
     case rel=>exact⟨k+1,by omega,by go_num,hb.alloc hsz _,fun j hj hjl=>by
      by_cases h:j=k
      ·subst h;rw[←HX.out];exact HI.out
      ·exact HB.out j (by omega) hjl⟩
     case measure=>simp[intOf];omega
   ·obtain rfl:k=fs.length:=by omega
    have HF:Hid (Doc.idxF fs nm=none):=Doc.idxF_none (fun j hj=>HB.out j hj hj)
    go_wp2_with fail
    go_ret
    exact⟨by rw[HF.out];rfl,hb⟩
def Doc.standsB (o:Int)(sg:List UInt8):Bool:=
 bif sg==[33,61] then o != 0 else bif sg==[60] then decide (o<0) else bif sg==[60,61] then decide (o≤0) else bif sg==[62] then decide (o > 0) else decide (o≥0)
theorem stands_any (o:Int)(sg:ByteArray):
  Calls Tryz.prog 195 #[.int .i64 o,.string sg] w fun e w'=>e=.returned (.bool (Doc.standsB o sg.toList))∧w'=w:=by
 unfold Doc.standsB
 by_cases h1:(sg.toList==[33,61])=true
 ·rw[h1]
  simp only[cond_true]
  go_enter Tryz.func195,Tryz.ntmps195
  go_wp2_with fail
  go_ret
  exact⟨rfl,rfl⟩
 ·have h1:(sg.toList==[33,61])=false:=by simpa using h1
  rw[h1]
  by_cases h2:(sg.toList==[60])=true
  ·rw[h2]
   simp only[cond_true,cond_false]
   go_enter Tryz.func195,Tryz.ntmps195
   go_wp2_with fail
   go_ret
   exact⟨rfl,rfl⟩
  ·have h2:(sg.toList==[60])=false:=by simpa using h2
   rw[h2]
   by_cases h3:(sg.toList==[60,61])=true
   ·rw[h3]
    simp only[cond_true,cond_false]
    go_enter Tryz.func195,Tryz.ntmps195
    go_wp2_with fail
    go_ret
    exact⟨rfl,rfl⟩
   ·have h3:(sg.toList==[60,61])=false:=by simpa using h3
    rw[h3]
    by_cases h4:(sg.toList==[62])=true
    ·rw[h4]
     simp only[cond_true,cond_false]
     go_enter Tryz.func195,Tryz.ntmps195
     go_wp2_with fail
     go_ret
     exact⟨rfl,rfl⟩
    ·have h4:(sg.toList==[62])=false:=by simpa using h4
     rw[h4]
     simp only[cond_false]
     go_enter Tryz.func195,Tryz.ntmps195
     go_wp2_with fail
     go_ret
     exact⟨rfl,rfl⟩
end
section
variable {w:World}
def Doc.cmpI (a b:Int):Int:=bif decide (a<b) then -1 else bif decide (a > b) then 1 else 0
theorem isNaN_int (a:Int):Calls Tryz.prog 157 #[.int .i64 a] w fun e w'=>e=.returned (.bool false)∧w'=w:=by
 go_enter Tryz.func157,Tryz.ntmps157
 go_wp2_with fail
 go_ret
 exact⟨rfl,rfl⟩
theorem isNaN_str (a:ByteArray):Calls Tryz.prog 216 #[.string a] w fun e w'=>e=.returned (.bool false)∧w'=w:=by
 go_enter Tryz.func216,Tryz.ntmps216
 go_wp2_with fail
 go_ret
 exact⟨rfl,rfl⟩
theorem cmp_int (a b:Int):Calls Tryz.prog 118 #[.int .i64 a,.int .i64 b] w fun e w'=>e=.returned (.int .i64 (Doc.cmpI a b))∧w'=w:=by
 have HC:Hid _:=@isNaN_int w a
 have HD:Hid _:=@isNaN_int w b
 unfold Doc.cmpI
 by_cases h1:a<b
 ·rw[decide_eq_true h1]
  simp only[cond_true]
  go_enter Tryz.func118,Tryz.ntmps118
  go_wp2_with fail
  refine Calls.mono HC.out ?_
  rintro e w1 ⟨rfl,rfl⟩
  go_wp2_with fail
  refine Calls.mono HD.out ?_
  rintro e w1 ⟨rfl,rfl⟩
  go_wp2_with fail
  go_ret
  exact⟨rfl,rfl⟩
 ·rw[decide_eq_false h1]
  by_cases h2:a > b
  ·rw[decide_eq_true h2]
   simp only[cond_true,cond_false]
   go_enter Tryz.func118,Tryz.ntmps118
   go_wp2_with fail
   refine Calls.mono HC.out ?_
   rintro e w1 ⟨rfl,rfl⟩
   go_wp2_with fail
   refine Calls.mono HD.out ?_
   rintro e w1 ⟨rfl,rfl⟩
   go_wp2_with fail
   go_ret
   exact⟨rfl,rfl⟩
  ·rw[decide_eq_false h2]
   simp only[cond_false]
   go_enter Tryz.func118,Tryz.ntmps118
   go_wp2_with fail
   refine Calls.mono HC.out ?_
   rintro e w1 ⟨rfl,rfl⟩
   go_wp2_with fail
   refine Calls.mono HD.out ?_
   rintro e w1 ⟨rfl,rfl⟩
   go_wp2_with fail
   go_ret
   exact⟨rfl,rfl⟩
def Doc.cmpS (a b:List UInt8):Int:=bif Op.bytesLess a b then -1 else bif !(a==b) then 1 else 0
theorem cmp_str (a b:ByteArray):Calls Tryz.prog 206 #[.string a,.string b] w fun e w'=>e=.returned (.int .i64 (Doc.cmpS a.toList b.toList))∧w'=w:=by
 have HC:Hid _:=@isNaN_str w a
 have HD:Hid _:=@isNaN_str w b
 obtain⟨r,HR⟩:∃r,Hid (Doc.cmpS a.toList b.toList=r):=⟨_,rfl⟩
 rw[HR.out]
 go_enter Tryz.func206,Tryz.ntmps206
 go_wp2_with fail
 refine Calls.mono HC.out ?_
 rintro e w1 ⟨rfl,rfl⟩
 go_wp2_with fail
 refine Calls.mono HD.out ?_
 rintro e w1 ⟨rfl,rfl⟩
 go_wp2_with fail
 ·rename_i h1
  have:r= -1:=by rw[←HR.out,Doc.cmpS,h1];rfl
  subst this
  go_ret
  exact⟨rfl,rfl⟩
 ·rename_i h1 _ _ h2
  have:r=1:=by rw[←HR.out,Doc.cmpS,h1,h2];rfl
  subst this
  go_ret
  exact⟨rfl,rfl⟩
 ·rename_i h1 h2
  have:r=0:=by rw[←HR.out,Doc.cmpS,h1,h2];rfl
  subst this
  go_ret
  exact⟨rfl,rfl⟩
def Doc.cmpV (a b:Doc.Val):Int:=bif a.k==1 then Doc.cmpI a.n b.n else Doc.cmpS a.s.toList b.s.toList
theorem compare_any (a b:Doc.Val):Calls Tryz.prog 196 #[.agg #[.int .i64 a.k,.int .i64 a.n,.string a.s],.agg #[.int .i64 b.k,.int .i64 b.n,.string b.s]] w fun e w'=>e=.returned (.int .i64 (Doc.cmpV a b))∧Below w.heap.size w w':=by
 obtain⟨ak,an,sa⟩:=a
 obtain⟨bk,bn,sb⟩:=b
 have HI:Hid (∀w,Calls Tryz.prog _ _ w _):=fun w=>@cmp_int w an bn
 have HS:Hid (∀w,Calls Tryz.prog _ _ w _):=fun w=>@cmp_str w sa sb
 unfold Doc.cmpV
 by_cases h1:(ak==1)=true
 ·simp only[h1,cond_true]
  go_enter Tryz.func196,Tryz.ntmps196
  go_wp2_with fail
  refine Calls.mono (HI.out _) ?_
  rintro e w1 ⟨rfl,rfl⟩
  go_wp2_with fail
  go_ret
  exact⟨rfl,((Below.refl _ _).alloc (Nat.le_refl _) _).alloc (by simp) _⟩
 ·have h1:(ak==1)=false:=by simpa using h1
  simp only[h1,cond_false]
  go_enter Tryz.func196,Tryz.ntmps196
  go_wp2_with fail
  refine Calls.mono (HS.out _) ?_
  rintro e w1 ⟨rfl,rfl⟩
  go_wp2_with fail
  go_ret
  exact⟨rfl,((Below.refl _ _).alloc (Nat.le_refl _) _).alloc (by simp) _⟩
end
def Doc.litBad (kd:Int):List Doc.Tok→Int×Int
 | []=>(0,0)
 |t::r=>bif litK t==kd then Doc.litBad kd r else (3,t.at_)
def Doc.checkT (fs:List Doc.Fld)(n o:Doc.Tok)(lits:List Doc.Tok):Int×Int:=
 match Doc.idxF fs n.S with
 |none=>(2,n.at_)
 |some k=>match fs[k]? with
  |none=>(2,n.at_)
  |some f=>bif o.S.toList==[108,105,107,101] && f.kind != 2 then (3,o.at_) else Doc.litBad f.kind lits
theorem Doc.litBad_at {kd:Int}{t:Doc.Tok}:∀{l:List Doc.Tok} {k:Nat} (hk:k<l.length),(∀j (_:j<k) (hj:j<l.length),(litK l[j]==kd)=true)→l[k]=t→(litK t==kd)=false→Doc.litBad kd l=(3,(t.at_:Int))
 |x::r,0,_,_,h,h2=>by
  simp only[List.getElem_cons_zero] at h
  subst h
  simp[Doc.litBad,h2]
 |x::r,k+1,hk,hb,h,h2=>by
  have h0:=hb 0 (by omega) (by simp)
  simp only[List.getElem_cons_zero] at h0
  simp only[Doc.litBad,h0,cond_true]
  exact Doc.litBad_at (k:=k) (by simpa using hk) (fun j hj hjl=>hb (j+1) (by omega) (by simpa using hjl)) (by simpa using h) h2
theorem Doc.litBad_none {kd:Int}:∀{l:List Doc.Tok},(∀j (hj:j<l.length),(litK l[j]==kd)=true)→Doc.litBad kd l=(0,0)
 | [],_=>rfl
 |x::r,hb=>by
  have h0:=hb 0 (by simp)
  simp only[List.getElem_cons_zero] at h0
  simp only[Doc.litBad,h0,cond_true]
  exact Doc.litBad_none (fun j hj=>hb (j+1) (by simpa using hj))
section
variable {w:World}
theorem litC_len (t:Doc.Tok):(litC t).length=4:=rfl
theorem idxF_lt {fs:List Doc.Fld}{nm:ByteArray}{k:Nat}(h:Doc.idxF fs nm=some k):k<fs.length:=by
 unfold Doc.idxF at h
 rw[List.findIdx?_eq_some_iff_getElem] at h
 exact h.1
set_option maxHeartbeats 4000000 in
theorem checkTest_any (fs:List Doc.Fld)(hl:fs.length≤1000000)(fv:Value)(hs:Sl w fv fs.length (fldsC fs))(n o:Doc.Tok)(lits:List Doc.Tok)(hll:lits.length≤1000000)(lv:Value)(hv:Sl w lv lits.length (litsC lits)):
  Calls Tryz.prog 112 #[.agg #[.int .i64 3,.slice none 0 0,.string n.S,.int .i64 n.at_,.string o.S,.int .i64 o.at_,lv],fv] w fun e w'=>e=.returned (.tuple #[.int .i64 (Doc.checkT fs n o lits).1,.int .i64 (Doc.checkT fs n o lits).2])∧Below w.heap.size w w':=by
 have hb0:Below w.heap.size w (w.alloc (.cells #[.int .i64 3,.slice none 0 0,.string n.S,.int .i64 n.at_,.string o.S,.int .i64 o.at_,lv] 69)):=(Below.refl _ _).alloc (Nat.le_refl _) _
 have HP:Hid _:=place_any fs (by omega) fv (hs.below hb0) n.S
 obtain⟨ce,HCE⟩:∃ce,Hid (Doc.checkT fs n o lits=ce):=⟨_,rfl⟩
 rw[HCE.out]
 cases hx:Doc.idxF fs n.S with
 |none=>
  have hce:ce=(2,(n.at_:Int)):=by rw[←HCE.out];simp[Doc.checkT,hx]
  subst hce
  rw[hx] at HP
  obtain⟨a,c,rfl⟩:=hv.slice
  clear hs hv
  go_enter Tryz.func112,Tryz.ntmps112
  go_wp2_with fail
  refine Calls.mono HP.out ?_
  rintro e w1 ⟨rfl,hb1⟩
  have b1:=(hb1.block w.heap.size (by simp)).trans (heap_alloc_new w _)
  obtain⟨d0,d1,d2,d3,d4,d5,d6⟩:=fv_cells b1
  have hbb:=hb0.trans (hb1.mono (by simp))
  go_wp2_with fail
  go_region
  all_goals go_wp2_with fail
  all_goals go_ret2
  all_goals exact⟨rfl,Below.drew hbb⟩
 |some k=>
  have hk:=idxF_lt hx
  rw[hx,show Doc.placeI (some k)=(k:Int) from rfl] at HP
  rcases hs.has with⟨h0,_⟩|⟨h0,b,off,cap,rfl,hc,hlt,hr⟩
  ·omega
  have q0:=hr (k*2+1) (.int .i64 fs[k].kind) (by unfold fldsC;rw[flat_at fldC 2 fldC_len fs k hk 1 (by omega)];rfl)
  rw[←Nat.add_assoc] at q0
  obtain⟨kd,HKD⟩:∃kd,Hid (fs[k].kind=kd):=⟨fs[k].kind,rfl⟩
  rw[HKD.out] at q0
  have HCT:Hid (Doc.checkT fs n o lits=bif o.S.toList==[108,105,107,101] && kd != 2 then (3,(o.at_:Int)) else Doc.litBad kd lits):=by
   show _=_
   unfold Doc.checkT
   rw[hx]
   simp only[List.getElem?_eq_getElem hk,HKD.out]
  obtain⟨a,c,hlv⟩:=hv.slice
  subst hlv
  have HV:Hid _:=hv
  clear hs hv hr hx
  by_cases hbad:((o.S.toList==[108,105,107,101])=true)∧(kd==2)=false
  ·obtain⟨hlike,hk2⟩:=hbad
   have hce:ce=(3,(o.at_:Int)):=by rw[←HCE.out,HCT.out,hlike];simp[bne,hk2]
   subst hce
   go_enter Tryz.func112,Tryz.ntmps112
   go_wp2_with fail
   refine Calls.mono HP.out ?_
   rintro e w1 ⟨rfl,hb1⟩
   have b1:=(hb1.block w.heap.size (by simp)).trans (heap_alloc_new w _)
   obtain⟨d0,d1,d2,d3,d4,d5,d6⟩:=fv_cells b1
   have hbb:=hb0.trans (hb1.mono (by simp))
   have q1:=(hbb.cell (p:=⟨b,off+k*2+1,none⟩) hlt).trans q0
   go_wp2_with fail
   go_region
   all_goals go_wp2_with fail
   all_goals go_ret2
   all_goals exact⟨rfl,Below.drew hbb⟩
  ·have hg:(o.S.toList==[108,105,107,101])=false∨((o.S.toList==[108,105,107,101])=true∧(kd==2)=true):=by
    cases h1:(o.S.toList==[108,105,107,101])
    ·exact .inl rfl
    ·cases h2:(kd==2)
     ·exact absurd ⟨h1,h2⟩ hbad
     ·exact .inr ⟨rfl,rfl⟩
   have HCL:Hid (ce=Doc.litBad kd lits):=by
    show _=_
    rw[←HCE.out,HCT.out]
    rcases hg with h1|⟨h1,h2⟩
    ·rw[h1];rfl
    ·rw[h1];simp[bne,h2]
   clear hbad
   rcases hg with hlike|⟨hlike,hk2⟩<;>(
    go_enter Tryz.func112,Tryz.ntmps112
    go_wp2_with fail
    refine Calls.mono HP.out ?_
    rintro e w1 ⟨rfl,hb1⟩
    have b1:=(hb1.block w.heap.size (by simp)).trans (heap_alloc_new w _)
    obtain⟨d0,d1,d2,d3,d4,d5,d6⟩:=fv_cells b1
    have hbb:=hb0.trans (hb1.mono (by simp))
    have q1:=(hbb.cell (p:=⟨b,off+k*2+1,none⟩) hlt).trans q0
    have HBB:Hid _:=hbb
    go_wp2_with fail
    go_loopw [35] (fun i wr=>∃j:Nat,j≤lits.length∧i=.int .i64 j∧Below w.heap.size w wr∧Hid (∀x (_:x<j) (hx:x<lits.length),(litK lits[x]==kd)=true)) (fun i _=>lits.length-(intOf i).toNat)
    case atStart=>exact⟨0,Nat.zero_le _,rfl,HBB.out,fun j hj=>by omega⟩
    case round=>
     obtain⟨j,hj,rfl,hb,HB⟩:=hrel
     have hsz:=hb.size
     by_cases hj2:j<lits.length
     ·rcases HV.out.has with⟨h0',_⟩|⟨_,lb,lo,lc,elv,hc2,hlt2,hr2⟩
      ·omega
      cases elv
      obtain⟨x,HX⟩:∃x,Hid (x=lits[j]):=⟨lits[j],rfl⟩
      have rr:∀i (_:i<4),wr.cell? ⟨lb,lo+j*4+i,none⟩=(litC x)[i]? :=fun i hi=>by
       have hf:=flat_at litC 4 litC_len lits j hj2 i hi
       have hlc:((litC lits[j])[i]?).isSome=true:=by
        rw[List.getElem?_eq_getElem (by rw[litC_len];exact hi)];rfl
       obtain⟨u,hu⟩:=Option.isSome_iff_exists.1 hlc
       rw[hb.cell (p:=⟨lb,lo+j*4+i,none⟩) hlt2,HX.out,hu,Nat.add_assoc]
       exact hr2 (j*4+i) u (by unfold litsC;rw[hf,hu])
      have r0:wr.cell? ⟨lb,lo+j*4,none⟩=some (.int .i64 (litK x)):=rr 0 (by omega)
      have r1:wr.cell? ⟨lb,lo+j*4+1,none⟩=some (.int .i64 x.N):=rr 1 (by omega)
      have r2:wr.cell? ⟨lb,lo+j*4+2,none⟩=some (.string x.S):=rr 2 (by omega)
      have r3:wr.cell? ⟨lb,lo+j*4+3,none⟩=some (.int .i64 x.at_):=rr 3 (by omega)
      clear rr hr2
      by_cases hin:(litK x==kd)=true
      ·have HI:Hid ((litK x==kd)=true):=hin
       go_wp2_with fail
       go_roundw
       case rel=>exact⟨j+1,by omega,by go_num,hb.alloc hsz _,fun i hi hil=>by
        by_cases h:i=j
        ·subst h;rw[←HX.out];exact HI.out
        ·exact HB.out i (by omega) hil⟩
       case measure=>simp[intOf];omega
      ·have hin:(litK x==kd)=false:=by simpa using hin
       have hce:ce=(3,(x.at_:Int)):=HCL.out.trans (Doc.litBad_at hj2 HB.out HX.out.symm hin)
       subst hce
       go_wp2_with fail
       go_region
       all_goals go_wp2_with fail
       all_goals go_ret2
       all_goals exact⟨rfl,Below.drew (hb.alloc hsz _)⟩
     ·obtain rfl:j=lits.length:=by omega
      have hce:ce=(0,0):=HCL.out.trans (Doc.litBad_none (fun i hi=>HB.out i hi hi))
      subst hce
      go_wp2_with fail
      go_ret2
      exact⟨rfl,hb⟩)
end
namespace Doc
def joined (f:Ast→Ast→Ast):List Ast→Option Ast
 | []=>none
 |a::r=>some (r.foldl f a)
theorem joined_snoc {f:Ast→Ast→Ast}{l:List Ast}{a b:Ast}(h:joined f l=some a):joined f (l++[b])=some (f a b):=by
 cases l with
 |nil=>cases h
 |cons x r=>simp only[joined,Option.some.injEq] at h;simp[joined,List.foldl_append,h]
end Doc
structure Beside (w:World)(F:Nat→Prop)(f:Doc.Ast→Doc.Ast→Doc.Ast)(cs:List Value)(a:Doc.Ast)(gs:List (List Value×Doc.Ast)):Prop where
 cells:cs=gs.flatMap (·.1)
 each:∀g∈gs,RepT w F 0 g.1 g.2∧SizeOf.sizeOf g.2≤SizeOf.sizeOf a∧(∀Q,Doc.Every Q a→Doc.Every Q g.2)
 all:Doc.joined f (gs.map (·.2))=some a
theorem RepT.beside {w:World}{F:Nat→Prop}{k:Nat}{cs:List Value}{a:Doc.Ast}(h:RepT w F k cs a):
  (k=1→∃gs,Beside w F .and cs a gs)∧(k=2→∃gs,Beside w F .or cs a gs):=by
 induction h with
 |test h1 h2=>exact⟨fun h=>(by cases h),fun h=>(by cases h)⟩
 |not _ h1 h2 ih=>exact⟨fun h=>(by cases h),fun h=>(by cases h)⟩
 |and _ _ h1 h2 ih1 ih2=>exact⟨fun h=>(by cases h),fun h=>(by cases h)⟩
 |or _ _ h1 h2 ih1 ih2=>exact⟨fun h=>(by cases h),fun h=>(by cases h)⟩
 | @one cs a k h0 h1 ih=>
   refine⟨fun _=>⟨[(cs,a)],?_⟩,fun _=>⟨[(cs,a)],?_⟩⟩
   all_goals
    refine⟨by simp,?_,rfl⟩
    intro g hg
    obtain rfl:=List.mem_singleton.1 hg
    exact⟨h0,Nat.le_refl _,fun _ h=>h⟩
 | @andL l cs a b h1 h2 ih1 ih2=>
   refine⟨fun _=>?_,fun h=>by cases h⟩
   obtain⟨gs,hg⟩:=ih1.1 rfl
   refine⟨gs++[(cs,b)],?_,?_,?_⟩
   ·rw[hg.cells];simp
   ·intro g hm
    rcases List.mem_append.1 hm with hm|hm
    ·obtain⟨e1,e2,e3⟩:=hg.each g hm
     exact⟨e1,by simp only[Doc.Ast.and.sizeOf_spec];omega,fun Q h=>e3 Q h.1⟩
    ·obtain rfl:=List.mem_singleton.1 hm
     exact⟨h2,by simp only[Doc.Ast.and.sizeOf_spec];omega,fun Q h=>h.2⟩
   ·rw[List.map_append];exact Doc.joined_snoc hg.all
 | @orL l cs a b h1 h2 ih1 ih2=>
   refine⟨fun h=>(by cases h),fun _=>?_⟩
   obtain⟨gs,hg⟩:=ih1.2 rfl
   refine⟨gs++[(cs,b)],?_,?_,?_⟩
   ·rw[hg.cells];simp
   ·intro g hm
    rcases List.mem_append.1 hm with hm|hm
    ·obtain⟨e1,e2,e3⟩:=hg.each g hm
     exact⟨e1,by simp only[Doc.Ast.or.sizeOf_spec];omega,fun Q h=>e3 Q h.1⟩
    ·obtain rfl:=List.mem_singleton.1 hm
     exact⟨h2,by simp only[Doc.Ast.or.sizeOf_spec];omega,fun Q h=>h.2⟩
   ·rw[List.map_append];exact Doc.joined_snoc hg.all
structure Parts (w:World)(F:Nat→Prop)(a:Doc.Ast)(v:Value)(gs:List (List Value×Doc.Ast)):Prop where
 owns:w.ownsRow 0 69 7 v gs.length (gs.flatMap (·.1))
 ours:∀k,v.ownBlock=some k→F k
 ne:gs≠[]
 each:∀g∈gs,RepT w F 0 g.1 g.2∧SizeOf.sizeOf g.2<SizeOf.sizeOf a∧(∀Q,Doc.Every Q a→Doc.Every Q g.2)
 how:(kindOf a=2∧∃x,a=.not x∧gs.map (·.2)=[x])∨(kindOf a=1∧Doc.joined .and (gs.map (·.2))=some a)∨(kindOf a=0∧Doc.joined .or (gs.map (·.2))=some a)
theorem flat7 {w:World}{F:Nat→Prop}:∀{gs:List (List Value×Doc.Ast)},(∀g∈gs,RepT w F 0 g.1 g.2)→(gs.flatMap (·.1)).length=gs.length*7
 | [],_=>rfl
 |g::r,h=>by
  rw[List.flatMap_cons,List.length_append,flat7 (fun x hx=>h x (by simp[hx])),((h g (by simp)).five rfl).one.2,List.length_cons]
  omega
theorem RepT.parts {w:World}{F:Nat→Prop}{cs:List Value}{a:Doc.Ast}(h:RepT w F 0 cs a):
  (∃n o lits v,a=.test n o lits∧cs=[.int .i64 3,.slice none 0 0,.string n.S,.int .i64 n.at_,.string o.S,.int .i64 o.at_,v]∧w.ownsRow 0 230 4 v lits.length (litsC lits)∧(∀k,v.ownBlock=some k→F k))∨
  ∃v gs,cs=[.int .i64 (kindOf a),v,.string ⟨#[]⟩,.int .i64 0,.string ⟨#[]⟩,.int .i64 0,.slice none 0 0]∧Parts w F a v gs:=by
 cases h with
 |test h1 h2=>exact .inl ⟨_,_,_,_,rfl,rfl,h1,h2⟩
 | @not cs a v h0 h1 h2=>
   refine .inr ⟨v,[(cs,a)],rfl,by simpa using h1,h2,by simp,?_,.inl ⟨rfl,a,rfl,rfl⟩⟩
   intro g hg
   obtain rfl:=List.mem_singleton.1 hg
   exact⟨h0,by simp only[Doc.Ast.not.sizeOf_spec];omega,fun _ h=>h⟩
 |one h1 h2=>omega
 | @and l cs a b n v h1 h2 h3 h4=>
   obtain⟨gs,hg⟩:=h1.beside.1 rfl
   have hall:∀g∈gs++[(cs,b)],RepT w F 0 g.1 g.2∧SizeOf.sizeOf g.2<SizeOf.sizeOf (Doc.Ast.and a b)∧(∀Q,Doc.Every Q (Doc.Ast.and a b)→Doc.Every Q g.2):=by
    intro g hm
    rcases List.mem_append.1 hm with hm|hm
    ·obtain⟨e1,e2,e3⟩:=hg.each g hm
     exact⟨e1,by simp only[Doc.Ast.and.sizeOf_spec];omega,fun Q h=>e3 Q h.1⟩
    ·obtain rfl:=List.mem_singleton.1 hm
     exact⟨h2,by simp only[Doc.Ast.and.sizeOf_spec];omega,fun Q h=>h.2⟩
   have hcs:l++cs=(gs++[(cs,b)]).flatMap (·.1):=by rw[hg.cells];simp
   rw[hcs] at h3
   have hn:n=(gs++[(cs,b)]).length:=by
    have h5:=own_len h3
    rw[flat7 (fun g hm=>(hall g hm).1)] at h5
    omega
   subst hn
   exact .inr ⟨v,gs++[(cs,b)],rfl,h3,h4,by simp,hall,.inr (.inl ⟨rfl,by rw[List.map_append];exact Doc.joined_snoc hg.all⟩)⟩
 | @or l cs a b n v h1 h2 h3 h4=>
   obtain⟨gs,hg⟩:=h1.beside.2 rfl
   have hall:∀g∈gs++[(cs,b)],RepT w F 0 g.1 g.2∧SizeOf.sizeOf g.2<SizeOf.sizeOf (Doc.Ast.or a b)∧(∀Q,Doc.Every Q (Doc.Ast.or a b)→Doc.Every Q g.2):=by
    intro g hm
    rcases List.mem_append.1 hm with hm|hm
    ·obtain⟨e1,e2,e3⟩:=hg.each g hm
     exact⟨e1,by simp only[Doc.Ast.or.sizeOf_spec];omega,fun Q h=>e3 Q h.1⟩
    ·obtain rfl:=List.mem_singleton.1 hm
     exact⟨h2,by simp only[Doc.Ast.or.sizeOf_spec];omega,fun Q h=>h.2⟩
   have hcs:l++cs=(gs++[(cs,b)]).flatMap (·.1):=by rw[hg.cells];simp
   rw[hcs] at h3
   have hn:n=(gs++[(cs,b)]).length:=by
    have h5:=own_len h3
    rw[flat7 (fun g hm=>(hall g hm).1)] at h5
    omega
   subst hn
   exact .inr ⟨v,gs++[(cs,b)],rfl,h3,h4,by simp,hall,.inr (.inr ⟨rfl,by rw[List.map_append];exact Doc.joined_snoc hg.all⟩)⟩
namespace Doc
def check (fs:List Fld):Ast→Int×Int
 | .test n o l=>checkT fs n o l
 | .not a=>check fs a
 | .and a b=>bif (check fs a).1==0 then check fs b else check fs a
 | .or a b=>bif (check fs a).1==0 then check fs b else check fs a
def checkL (fs:List Fld):List Ast→Int×Int
 | []=>(0,0)
 |a::r=>bif (check fs a).1==0 then checkL fs r else check fs a
theorem litBad_zero {kd:Int}:∀{l:List Tok},((litBad kd l).1==0)=true→litBad kd l=(0,0)
 | [],_=>rfl
 |t::r,h=>by
  unfold litBad at h ⊢
  cases hx:(litK t==kd)
  ·rw[hx] at h;simp at h
  ·rw[hx] at h;simp only[cond_true] at h ⊢;exact litBad_zero h
theorem checkT_zero {fs:List Fld}{n o:Tok}{l:List Tok}(h:((checkT fs n o l).1==0)=true):checkT fs n o l=(0,0):=by
 unfold checkT at h ⊢
 split at h
 ·simp at h
 ·split at h
  ·simp at h
  ·rename_i f _
   cases hx:(o.S.toList==[108,105,107,101] && f.kind != 2)
   ·rw[hx] at h;simp only[cond_false] at h ⊢;exact litBad_zero h
   ·rw[hx] at h;simp at h
theorem check_zero {fs:List Fld}:∀{a:Ast},((check fs a).1==0)=true→check fs a=(0,0)
 | .test _ _ _,h=>checkT_zero h
 | .not a,h=>check_zero (a:=a) h
 | .and a b,h=>by
   unfold check at h ⊢
   cases hx:((check fs a).1==0)
   ·rw[hx] at h;simp only[cond_false] at h;rw[hx] at h;cases h
   ·rw[hx] at h;exact check_zero (a:=b) h
 | .or a b,h=>by
   unfold check at h ⊢
   cases hx:((check fs a).1==0)
   ·rw[hx] at h;simp only[cond_false] at h;rw[hx] at h;cases h
   ·rw[hx] at h;exact check_zero (a:=b) h
theorem check_fold {fs:List Fld}{f:Ast→Ast→Ast}(hf:∀a b,check fs (f a b)=bif (check fs a).1==0 then check fs b else check fs a):∀(r:List Ast) (a:Ast),check fs (r.foldl f a)=checkL fs (a::r)
 | [],a=>by
   simp only[List.foldl_nil,checkL]
   cases hx:((check fs a).1==0)
   ·rfl
   ·exact check_zero hx
 |b::r,a=>by
  rw[List.foldl_cons,check_fold hf r (f a b)]
  simp only[checkL,hf]
  cases hx:((check fs a).1==0)
  ·simp[hx]
  ·simp
theorem check_joined {fs:List Fld}{f:Ast→Ast→Ast}(hf:∀a b,check fs (f a b)=bif (check fs a).1==0 then check fs b else check fs a){l:List Ast}{a:Ast}(h:joined f l=some a):check fs a=checkL fs l:=by
 cases l with
 |nil=>cases h
 |cons x r=>
  simp only[joined,Option.some.injEq] at h
  rw[←h,check_fold hf]
theorem checkL_one {fs:List Fld}{a:Ast}:checkL fs [a]=check fs a:=by
 simp only[checkL]
 cases hx:((check fs a).1==0)
 ·rfl
 ·exact(check_zero hx).symm
theorem checkL_at {fs:List Fld}:∀{l:List Ast} {k:Nat} (hk:k<l.length),(∀j (_:j<k) (hj:j<l.length),((check fs l[j]).1==0)=true)→((check fs l[k]).1==0)=false→checkL fs l=check fs l[k]
 |x::r,0,_,_,h2=>by
  simp only[List.getElem_cons_zero] at h2 ⊢
  simp[checkL,h2]
 |x::r,k+1,hk,hb,h2=>by
  have h0:=hb 0 (by omega) (by simp)
  simp only[List.getElem_cons_zero] at h0
  simp only[checkL,h0,cond_true,List.getElem_cons_succ] at h2 ⊢
  exact checkL_at (k:=k) (by simpa using hk) (fun j hj hjl=>hb (j+1) (by omega) (by simpa using hjl)) h2
theorem checkL_none {fs:List Fld}:∀{l:List Ast},(∀j (hj:j<l.length),((check fs l[j]).1==0)=true)→checkL fs l=(0,0)
 | [],_=>rfl
 |x::r,hb=>by
  have h0:=hb 0 (by simp)
  simp only[List.getElem_cons_zero] at h0
  simp only[checkL,h0,cond_true]
  exact checkL_none (fun j hj=>hb (j+1) (by simpa using hj))
end Doc
theorem Parts.check {w:World}{F:Nat→Prop}{a:Doc.Ast}{v:Value}{gs:List (List Value×Doc.Ast)}(h:Parts w F a v gs)(fs:List Doc.Fld):Doc.check fs a=Doc.checkL fs (gs.map (·.2)):=by
 rcases h.how with⟨_,x,rfl,e⟩|⟨_,e⟩|⟨_,e⟩
 ·rw[e,Doc.checkL_one];rfl
 ·exact Doc.check_joined (fun _ _=>rfl) e
 ·exact Doc.check_joined (fun _ _=>rfl) e
theorem Parts.kind {w:World}{F:Nat→Prop}{a:Doc.Ast}{v:Value}{gs:List (List Value×Doc.Ast)}(h:Parts w F a v gs):(kindOf a==3)=false:=by
 rcases h.how with⟨e,_⟩|⟨e,_⟩|⟨e,_⟩<;>rw[e]<;>rfl
def CheckC (fs:List Doc.Fld)(fv:Value)(a:Doc.Ast):Prop:=∀(w:World) (cs:List Value),Sl w fv fs.length (fldsC fs)→RepT w (fun k=>k<w.heap.size) 0 cs a→Doc.Every (fun _ _ l=>l.length≤1000000) a→
 Calls Tryz.prog 70 #[.agg cs.toArray,fv] w fun e w'=>e=.returned (.tuple #[.int .i64 (Doc.check fs a).1,.int .i64 (Doc.check fs a).2])∧Below w.heap.size w w'
theorem RepT.belowS {w w':World}{k:Nat}{cs:List Value}{a:Doc.Ast}(h:RepT w (fun k=>k<w.heap.size) k cs a)(hb:Below w.heap.size w w'):RepT w' (fun k=>k<w'.heap.size) k cs a:=
 h.kept (fun k o hk ho=>(hb.block k hk).trans ho) (fun k hk _=>by have:=hb.size;omega)
set_option maxHeartbeats 4000000 in
theorem check_step (fs:List Doc.Fld)(hl:fs.length≤1000000)(fv:Value)(a:Doc.Ast)(ih:∀b:Doc.Ast,SizeOf.sizeOf b<SizeOf.sizeOf a→CheckC fs fv b):CheckC fs fv a:=by
 intro w cs hs hr hev
 obtain⟨fa,fc,hfv⟩:=hs.slice
 rcases hr.parts with⟨n,o,lits,v,rfl,rfl,ho,hF⟩|⟨v,gs,rfl,hp⟩
 ·obtain⟨va,vc,hvv⟩:=(rowSl ho).slice
  have hb0:Below w.heap.size w (w.alloc (.cells #[.int .i64 3,.slice none 0 0,.string n.S,.int .i64 n.at_,.string o.S,.int .i64 o.at_,v] 69)):=(Below.refl _ _).alloc (Nat.le_refl _) _
  have HC:Hid _:=checkTest_any (w:=w.alloc (.cells #[.int .i64 3,.slice none 0 0,.string n.S,.int .i64 n.at_,.string o.S,.int .i64 o.at_,v] 69)) fs hl fv (hs.below hb0) n o lits hev v ((rowSl ho).below hb0)
  have hce:Doc.check fs (.test n o lits)=Doc.checkT fs n o lits:=rfl
  rw[hce]
  obtain⟨⟨c1,c2⟩,HCE⟩:∃ce,Hid (Doc.checkT fs n o lits=ce):=⟨_,rfl⟩
  rw[HCE.out] at HC ⊢
  clear hs hr hev ho hF hce
  subst hfv hvv
  go_enter Tryz.func70,Tryz.ntmps70
  go_wp2_with fail
  refine Calls.mono HC.out ?_
  rintro e w1 ⟨rfl,hb1⟩
  go_wp2_with fail
  go_ret2
  exact⟨rfl,hb0.trans (hb1.mono (by simp))⟩
 ·have hne:gs.length≠0:=fun e=>hp.ne (List.eq_nil_of_length_eq_zero e)
  obtain⟨pg,cap,hv⟩:=own_slice_side hp.owns hne
  have hpg:pg<w.heap.size:=hp.ours pg (by rw[hv];rfl)
  have hcap:gs.length≤cap∧cap≤maxLen:=by
   obtain⟨_,h2⟩:=hp.owns
   rw[hv] at h2
   rcases h2 with⟨e,_⟩|⟨g',cap',cur,e,_,_,hc,hm,_⟩
   ·cases e
   ·cases e;exact⟨hc,hm⟩
  have hcap1:=hcap.1
  have hcap2:=hcap.2
  unfold maxLen at hcap2
  have hkd:=hp.kind
  have HCK:Hid (Doc.check fs a=Doc.checkL fs (gs.map (·.2))):=hp.check fs
  rw[HCK.out]
  obtain⟨⟨c1,c2⟩,HCE⟩:∃ce,Hid (Doc.checkL fs (gs.map (·.2))=ce):=⟨_,rfl⟩
  rw[HCE.out]
  have HS:Hid _:=hs
  have HO:Hid _:=hp.owns
  have HR:Hid (∀g∈gs,RepT w (fun k=>k<w.heap.size) 0 g.1 g.2):=fun g hg=>(hp.each g hg).1
  have HE:Hid (∀g∈gs,Doc.Every (fun _ _ l=>l.length≤1000000) g.2):=fun g hg=>(hp.each g hg).2.2 _ hev
  have HI:Hid (∀g∈gs,CheckC fs fv g.2):=fun g hg=>ih g.2 (hp.each g hg).2.1
  have H5:Hid (∀g∈gs,g.1.length=7):=fun g hg=>((hp.each g hg).1.five rfl).one.2
  obtain⟨kd,HKD⟩:∃kd,Hid (kindOf a=kd):=⟨_,rfl⟩
  rw[HKD.out] at hkd ⊢
  have hb0:Below w.heap.size w (w.alloc (.cells #[.int .i64 kd,v,.string ⟨#[]⟩,.int .i64 0,.string ⟨#[]⟩,.int .i64 0,.slice none 0 0] 69)):=(Below.refl _ _).alloc (Nat.le_refl _) _
  have HB0:Hid _:=hb0
  clear hs hr hev hp hcap ih hb0
  subst hfv hv
  go_enter Tryz.func70,Tryz.ntmps70
  go_wp2_with fail
  go_loopw [21] (fun i wr=>∃j:Nat,j≤gs.length∧i=.int .i64 j∧Below w.heap.size w wr∧Hid (∀x (_:x<j) (hx:x<(gs.map (·.2)).length),((Doc.check fs (gs.map (·.2))[x]).1==0)=true)) (fun i _=>gs.length-(intOf i).toNat)
  case atStart=>exact⟨0,Nat.zero_le _,rfl,HB0.out,fun j hj=>by omega⟩
  case round=>
   obtain⟨j,hj,rfl,hb,HB⟩:=hrel
   have hsz:=hb.size
   by_cases hj2:j<gs.length
   ·have hmem:=List.getElem_mem hj2
    have hrep:=(HR.out gs[j] hmem).belowS hb
    obtain⟨b1,n1,m1,s1,s2,na1,na2,b2,n2,m2,hcs⟩:=(hrep.five rfl).has
    obtain⟨x,HX⟩:∃x:Int,Hid (x=kindOf gs[j].2):=⟨kindOf gs[j].2,rfl⟩
    rw[←HX.out] at hcs
    have hO':=own_kept HO.out (fun k o hk ho=>(hb.block k (by cases hk;exact hpg)).trans ho)
    obtain⟨r0,r1,r2,r3,r4,r5,r6⟩:=side_cells hO' H5.out j hj2 hcs
    have hpgx:pg<wr.heap.size:=by omega
    have hba:Below wr.heap.size wr (wr.alloc (.cells #[.int .i64 x,.slice b1 n1 m1,.string s1,.int .i64 na1,.string s2,.int .i64 na2,.slice b2 n2 m2] 69)):=(Below.refl _ _).alloc (Nat.le_refl _) _
    have hrep2:=hrep.belowS hba
    rw[hcs] at hrep2
    have HCALL:Hid _:=HI.out gs[j] hmem _ _ ((HS.out.below hb).below hba) hrep2 (HE.out gs[j] hmem)
    have HBA:Hid _:=hb.trans (hba.mono hsz)
    have hjm:(gs.map (·.2))[j]'(by simpa using hj2)=gs[j].2:=by simp
    obtain⟨⟨k1,k2⟩,HK⟩:∃ce,Hid (Doc.check fs gs[j].2=ce):=⟨Doc.check fs gs[j].2,rfl⟩
    rw[HK.out] at HCALL
    have HJ:Hid (Doc.check fs ((gs.map (·.2))[j]'(by simpa using hj2))=(k1,k2)):=by show _=_;rw[hjm];exact HK.out
    clear hrep hcs hmem hO' hba hrep2 hjm
    by_cases hz:(k1==0)=true
    ·have HZ:Hid ((k1==0)=true):=hz
     go_wp2_with fail
     refine Calls.mono HCALL.out ?_
     rintro e w1 ⟨rfl,hb1⟩
     go_wp2_with fail
     go_roundw
     case rel=>exact⟨j+1,by omega,by go_num,HBA.out.trans (hb1.mono (by simp;omega)),fun i hi hil=>by
      by_cases h:i=j
      ·subst h;rw[HJ.out];exact HZ.out
      ·exact HB.out i (by omega) hil⟩
     case measure=>simp[intOf];omega
    ·have hz:(k1==0)=false:=by simpa using hz
     have hce:(c1,c2)=(k1,k2):=HCE.out.symm.trans ((Doc.checkL_at (by simpa using hj2) HB.out (by rw[HJ.out];exact hz)).trans HJ.out)
     cases hce
     go_wp2_with fail
     refine Calls.mono HCALL.out ?_
     rintro e w1 ⟨rfl,hb1⟩
     go_wp2_with fail
     go_ret2
     exact⟨rfl,HBA.out.trans (hb1.mono (by simp;omega))⟩
   ·obtain rfl:j=gs.length:=by omega
    have hce:(c1,c2)=(0,0):=HCE.out.symm.trans (Doc.checkL_none (fun i hi=>HB.out i (by simpa using hi) hi))
    cases hce
    go_wp2_with fail
    go_ret2
    exact⟨rfl,hb⟩
theorem check_all (fs:List Doc.Fld)(hl:fs.length≤1000000)(fv:Value):∀a:Doc.Ast,CheckC fs fv a:=by
 have:∀(n:Nat) (a:Doc.Ast),SizeOf.sizeOf a<n→CheckC fs fv a:=by
  intro n
  induction n with
  |zero=>intro a h;omega
  |succ n ih=>intro a h;exact check_step fs hl fv a (fun b hb=>ih b (by omega))
 exact fun a=>this _ a (Nat.lt_succ_self _)
open Go.Maps (Keyed)
set_option maxHeartbeats 1000000 in
theorem having_any {w:World}{F:Nat→Prop}{hb mt mh:Nat}{th:Has}{pos:Int→Value×Value}(h:ShelfAt w F hb th mt mh pos)(f:Nat)(hf:f<4)(x:Doc.Val)(hx:Fine x):
  Calls Tryz.prog 170 #[.pointer (some ⟨hb,0,none⟩),.int .i64 f,.agg #[.int .i64 x.k,.int .i64 x.n,.string x.s]] w fun e w'=>∃ws:Bits,e=.returned (.agg (setC ws))∧(∀j,j<4096→(memB ws j=true↔Hof th j f x))∧Below w.heap.size w w':=by
 obtain⟨kl,hkl⟩:=held_key hf hx
 obtain⟨ws,HWS⟩:∃ws,Hid (∀j,j<4096→(memB ws j=true↔Hof th j f x)):=exists_set (fun j=>Hof th j f x)
 obtain⟨Z,hz,HZ⟩:∃Z,(∀w,(zeroValue 107).run Tryz.prog w=.ok (.agg Z) w)∧Hid (Z=setC zeroB):=⟨_,zero_set,rfl⟩
 obtain⟨R,HR⟩:∃R:List Value,Hid (R.toArray=setC ws):=⟨(setC ws).toList,Array.toArray_toList⟩
 have hlk:∀w':World,w'.heap[mh]? =w.heap[mh]? →(Instr.lookup 150 (.map (some mh)) (.agg #[.int .i64 f,.int .i64 x.k,.int .i64 x.n,.string x.s]) false).run Tryz.prog w'=.ok (.agg R.toArray) w':=by
  intro w' h'
  by_cases he:∃j,j<4096∧Hof th j f x
  ·have:=(h.hold.kept h').look_some false heldKeyed Tryz.underlying150 hkl ⟨f,x,ws,hf,hx,rfl,rfl,HWS.out,he⟩
   rw[←HR.out] at this
   exact this
  ·have:=(h.hold.kept h').look_none false heldKeyed Tryz.underlying150 (zero_set w') hkl (fun v hv=>by
    obtain⟨g,y,vs,hg,hy,e1,rfl,h1,j,hj,h2⟩:=hv
    obtain⟨rfl,rfl⟩:=heldC_inj e1
    exact he ⟨j,hj,h2⟩)
   have hzz:setC zeroB=R.toArray:=by
    rw[HR.out]
    refine setC_ext (fun i hi=>?_)
    rw[memB_zero,eq_comm,Bool.eq_false_iff]
    intro e
    exact he ⟨i,hi,(HWS.out i hi).1 e⟩
   rw[hzz] at this
   exact this
 have c1:w.cell? ⟨hb,1,none⟩=some (.map (some mh)):=blk_cell h.blk 1 _ rfl
 have hlt:=h.lt
 have hmlt:=h.hold.lt
 have hRl:R.length=64:=by rw[←setC_size ws,←HR.out];simp
 have hRI:(Tryz.prog.info? 107).map (·.size)=some R.length:=by rw[hRl];exact(zero_of_info Tryz.infoSet).2
 have hR1:∀v,v∈R→v.oneCell'=true:=by
  have:=setC_one ws
  rw[←HR.out,Array.all_eq_true_iff_forall_mem] at this
  intro v hv
  exact this v (by simpa using hv)
 have HZS:Hid (Z.size=R.length):=by show _=_;rw[HZ.out,hRl,setC_size]
 have HRI:Hid ((Tryz.prog.info? 107).map (·.size)=some R.toArray.size):=by show _=_;rw[hRI];simp
 have hu:=Tryz.underlying107
 obtain⟨w0,HW0⟩:∃w0,Hid (w0=(w.alloc (.cells #[.int .i64 x.k,.int .i64 x.n,.string x.s] 94)).alloc (.cells Z 107)):=⟨_,rfl⟩
 have hb0:Below w.heap.size w w0:=by rw[HW0.out];exact((Below.refl _ _).alloc (Nat.le_refl _) _).alloc (by simp) _
 have q0:=(hb0.cell (p:=⟨hb,1,none⟩) hlt).trans c1
 have hl0:=hlk w0.drew (by show w0.heap[mh]? =_;exact hb0.block mh hmlt)
 have hbx:w0.heap[w.heap.size]? =some (.cells #[.int .i64 x.k,.int .i64 x.n,.string x.s] 94 (0,0)):=by rw[HW0.out];exact heap_alloc2_old w _ _
 have hbz:w0.heap[w.heap.size+1]? =some (.cells Z 107 (0,0)):=by rw[HW0.out];exact heap_alloc2_new w _ _
 have e0:w0.cell? ⟨w.heap.size,0,none⟩=some (.int .i64 x.k):=blk_cell hbx 0 _ rfl
 have e1:w0.cell? ⟨w.heap.size,1,none⟩=some (.int .i64 x.n):=blk_cell hbx 1 _ rfl
 have e2:w0.cell? ⟨w.heap.size,2,none⟩=some (.string x.s):=blk_cell hbx 2 _ rfl
 have th0:=there_blk hbz (Nat.le_of_eq HZS.out.symm)
 have th1:w0.drew.there (w.heap.size+1) 0 R.length:=there_blk (w:=w0.drew) hbz (Nat.le_of_eq HZS.out.symm)
 have HBZ:Hid _:=hbz
 have HB0:Hid _:=hb0
 have hz0:w0.heap.size=w.heap.size+2:=by rw[HW0.out];simp
 have hlk0:∀w':World,w'.heap[mh]? =w.heap[mh]? →_:=hlk
 have HM0:Hid (w0.heap[mh]? =w.heap[mh]?):=hb0.block mh hmlt
 have HSB:Hid (∀w':World,Below (w.heap.size+1) w0 w'→Below (w.heap.size+1) w0 w'∧w'.cell? ⟨hb,1,none⟩=some (.map (some mh))∧w'.cell? ⟨w.heap.size,0,none⟩=some (.int .i64 x.k)∧w'.cell? ⟨w.heap.size,1,none⟩=some (.int .i64 x.n)∧w'.cell? ⟨w.heap.size,2,none⟩=some (.string x.s)∧w'.heap[mh]? =w.heap[mh]?):=by
  intro w' h'
  have q:=(h'.block w.heap.size (by omega)).trans hbx
  exact⟨h',(h'.cell (p:=⟨hb,1,none⟩) (by show hb<_;omega)).trans q0,blk_cell q 0 _ rfl,blk_cell q 1 _ rfl,blk_cell q 2 _ rfl,(h'.block mh (by omega)).trans HM0.out⟩
 have HRL:Hid _:=hRl
 clear h hkl hbx hbz hb0 c1 q0 hl0 hlk0 hRl e0 e1 e2
 go_enter Tryz.func170,Tryz.ntmps170
 go_wp2_with fail
 rw[←HW0.out]
 first|go_region_held3 (fun w'=>Below (w.heap.size+1) w0 w'∧w'.cell? ⟨hb,1,none⟩=some (.map (some mh))∧w'.cell? ⟨w.heap.size,0,none⟩=some (.int .i64 x.k)∧w'.cell? ⟨w.heap.size,1,none⟩=some (.int .i64 x.n)∧w'.cell? ⟨w.heap.size,2,none⟩=some (.string x.s)∧w'.heap[mh]? =w.heap[mh]?) (first|(refine HSB.out _ ?_;repeat (first|exact Below.refl _ _|refine Below.drew ?_|refine setCells_below _ (by omega) _ _ _ ?_))) (fail)|fail "stands"
 all_goals (go_wp2_with fail)
 all_goals
  refine bodyPost_ret (v:=.agg R.toArray) (results_cell_row rfl _ _ (w.heap.size+1) 107 R.toArray (0,0) _ rfl (setCells_all (w:=w0.drew) HBZ.out HZS.out) Tryz.underlying107 rfl HRI.out) rfl ⟨ws,by rw[HR.out],HWS.out,?_⟩
  exact setCells_below _ (by omega) _ _ _ (Below.drew HB0.out)
open Go.MapKept
open Go.ChangeMaps (setBlock)
structure MapOver (P:Program)(k:TypeId)(w:World)(b r:Nat)(f:Value→Value→Prop)(done:Value→Prop)(cnt:Nat):Prop where
 has:∃es clock since seen c0,w.heap[r]? =some (.mapIter (some b) since seen c0)∧w.heap[b]? =some (.map es clock)∧Stamped es clock∧(∀key v,f key v↔∃e∈es.toList,e.key=key∧e.val=v)∧(∀x∈es.toList,x.born<since)∧since≤c0∧since≤clock∧(leftOf es seen).size=cnt∧(∀e∈es.toList,(done e.key↔seen.contains e.born=true))
section
variable {P:Program}{k t e:TypeId}{w:World}{b r:Nat}{f:Value→Value→Prop}{done:Value→Prop}{cnt:Nat}
theorem MapOver.kept {w':World}(h:MapOver P k w b r f done cnt)(hb:w'.heap[b]? =w.heap[b]?)(hr:w'.heap[r]? =w.heap[r]?):MapOver P k w' b r f done cnt:=by
 obtain⟨es,clock,since,seen,c0,h1,h2,h3⟩:=h.has
 exact⟨es,clock,since,seen,c0,hr.trans h1,hb.trans h2,h3⟩
theorem MapOver.lt (h:MapOver P k w b r f done cnt):r<w.heap.size:=by
 obtain⟨es,clock,since,seen,c0,h1,h2,h3⟩:=h.has
 exact lt_block h1
theorem MapIs.range (h:MapIs P k w b f)(ht:P.underlying t=some (.map k e)):
  ∃o cnt,(Instr.range t (.map (some b))).run P w=.ok (.pointer (some ⟨w.heap.size,0,none⟩)) (w.alloc o)∧MapOver P k (w.alloc o) b w.heap.size f (fun _=>False) cnt:=by
 obtain⟨es,clock,hb,hs,h3,h4⟩:=h.has
 obtain⟨hs1,hs2,hs3⟩:=(stamped_iff es clock).1 hs
 refine⟨.mapIter (some b) clock #[] clock,_,run_range_map w t k e b es clock ht hb,es,clock,clock,#[],clock,heap_alloc_new w _,?_,hs,h4,hs1,Nat.le_refl _,Nat.le_refl _,rfl,?_⟩
 ·rw[heap_alloc_old w _ (lt_block hb)];exact hb
 ·intro e he;simp
theorem MapOver.next (h:MapOver P k w b r f done cnt)(ty:TypeId):
  ((∀key v,f key v→done key)∧(Instr.next (.pointer (some ⟨r,0,none⟩)) false ty).run P w=.ok (.tuple #[.bool false]) w)∨
  ∃key v w' cnt',f key v∧¬done key∧cnt'<cnt∧(Instr.next (.pointer (some ⟨r,0,none⟩)) false ty).run P w=.ok (.tuple #[.bool true,key,v]) w'∧MapOver P k w' b r f (fun x=>done x∨x=key) cnt'∧
   Md (fun j=>j=r) w w'∧w'.heap.size=w.heap.size∧(Instr.entry (.pointer (some ⟨r,0,none⟩))).run P w'=.ok (.tuple #[key,v]) w':=by
 obtain⟨es,clock,since,seen,c0,hr,hb,hs,h4,hold,hsc,hsk,hc,hd⟩:=h.has
 obtain⟨hs1,hs2,hs3⟩:=(stamped_iff es clock).1 hs
 rcases run_next_at (P:=P) w ty r b since c0 seen es clock hr hb hold hsc with⟨h0,hrun⟩|⟨e,he,w1,hw1,hrun⟩
 ·refine .inl ⟨fun key v hf=>?_,hrun⟩
  obtain⟨x,hx,rfl,rfl⟩:=(h4 key v).1 hf
  exact(hd x hx).2 (all_seen es seen h0 x hx)
 ·obtain⟨he1,he2⟩:=mem_left he
  have hw:w1.heap=w.heap:=by rcases hw1 with rfl|rfl<;>rfl
  have hrl:r<w1.heap.size:=by rw[hw];exact lt_block hr
  have hne:b≠r:=fun e=>by subst e;rw[hr] at hb;cases hb
  have hat:=setBlock_at hrl (.mapIter (some b) since (seen.push e.born) clock)
  have hob:(setBlock w1 r (.mapIter (some b) since (seen.push e.born) clock)).heap[b]? =some (.map es clock):=by
   rw[←hb,←hw];simp[setBlock,Ne.symm hne]
  refine .inr ⟨e.key,e.val,_,_,(h4 _ _).2 ⟨e,he1,rfl,rfl⟩,fun hdn=>?_,?_,hrun,⟨es,clock,since,seen.push e.born,clock,hat,hob,hs,h4,hold,hsk,hsk,rfl,?_⟩,?_,?_,run_entry_at _ r b since seen es clock e hat hob he1 hs2⟩
  ·rw[(hd e he1).1 hdn] at he2;cases he2
  ·rw[←hc];exact left_shrinks es seen e he
  ·intro x hx
   rw[contains_push,Bool.or_eq_true,hd x hx]
   refine or_congr Iff.rfl ⟨fun h=>?_,fun h=>?_⟩
   ·rw[entry_eq_of_key hs3 hx he1 h];simp
   ·rw[born_inj hs2 hx he1 (by simpa using h)]
  ·have hd:Md (fun j=>j=r) w w1:=by
    rcases hw1 with rfl|rfl
    ·exact Md.refl _ _
    ·exact Md.ofBelow (Below.drew (Below.refl _ _))
   exact hd.trans (setBlock_md _ _ _)
  ·rw[setBlock_size,hw]
theorem MapOver.left_eq (h:MapOver P k w b r f done cnt):w.rangeLeft b r=cnt:=by
 obtain⟨es,clock,since,seen,c0,hr,hb,_,_,_,_,_,hc,_⟩:=h.has
 simp[World.rangeLeft,hr,hb,hc]
end
section
variable {P:Program}{w:World}{ops:Array Oper}{rest:List Oper}{o:Oper}{a:Act}{Q:Exit→Act→World→Prop}
theorem wpList_range_is (hg:o.guard=none)(m:Operand)(t:TypeId)(hop:o.op=Op.range t m)(k e:TypeId)(ht:P.underlying t=some (.map k e))(b:Nat)(f:Value→Value→Prop)(hm:a.eval m=.map (some b))(h:MapIs P k w b f)
  (hK:∀ob cnt,MapOver P k (w.alloc ob) b w.heap.size f (fun _=>False) cnt→wpList P ops Q rest (a.put o.dst (.pointer (some ⟨w.heap.size,0,none⟩))) (w.alloc ob)):wpList P ops Q (o::rest) a w:=by
 refine wpList_plain hg fun K' hK'=>?_
 obtain⟨ob,cnt,hrun,hr⟩:=h.range ht
 unfold Oper.wp
 simp[execOp,hop,hm,hrun,Result.andThen]
 exact hK' _ _ (hK ob cnt hr)
theorem wpList_next_is (hg:o.guard=none)(it:Operand)(hop:o.op=Op.next it false)(k:TypeId)(b r:Nat)(f:Value→Value→Prop)(done:Value→Prop)(cnt:Nat)(hit:a.eval it=.pointer (some ⟨r,0,none⟩))(h:MapOver P k w b r f done cnt)
  (hDone:(∀key v,f key v→done key)→wpList P ops Q rest (a.put o.dst (.tuple #[.bool false])) w)
  (hMore:∀key v w' cnt',f key v→¬done key→cnt'<cnt→MapOver P k w' b r f (fun x=>done x∨x=key) cnt'→Md (fun j=>j=r) w w'→w'.heap.size=w.heap.size→(Instr.entry (.pointer (some ⟨r,0,none⟩))).run P w'=.ok (.tuple #[key,v]) w'→wpList P ops Q rest (a.put o.dst (.tuple #[.bool true,key,v])) w'):
  wpList P ops Q (o::rest) a w:=by
 refine wpList_plain hg fun K' hK'=>?_
 unfold Oper.wp
 rcases h.next o.type with⟨hd,hrun⟩|⟨key,v,w',cnt',h1,h2,h3,hrun,h4,h5,h6,h7⟩
 ·simp[execOp,hop,hit,hrun,Result.andThen]
  exact hK' _ _ (hDone hd)
 ·simp[execOp,hop,hit,hrun,Result.andThen]
  exact hK' _ _ (hMore key v w' cnt' h1 h2 h3 h4 h5 h6 h7)
end
end Go.Proofs.YtbnelaoeblhndaaGreatDoor
namespace Go.Proofs.YtbnelaoeblhndaaGreatDoor
open Go.RowKit
open Go.Maps (Keyed)
set_option maxRecDepth 100000
set_option maxHeartbeats 2000000 in
theorem all_any {w:World}{F:Nat→Prop}{hb mt mh:Nat}{th:Has}{pos:Int→Value×Value}(h:ShelfAt w F hb th mt mh pos):
  Calls Tryz.prog 113 #[.pointer (some ⟨hb,0,none⟩)] w fun e w'=>∃ws:Bits,e=.returned (.agg (setC ws))∧(∀j,j<4096→(memB ws j=true↔∃t,th (j:Int)=some t))∧Below w.heap.size w w':=by
 obtain⟨Z,hz,HZ⟩:∃Z,(∀w,(zeroValue 107).run Tryz.prog w=.ok (.agg Z) w)∧Hid (Z=setC zeroB):=⟨_,zero_set,rfl⟩
 have c1:w.cell? ⟨hb,0,none⟩=some (.map (some mt)):=blk_cell h.blk 0 _ rfl
 have hlt:=h.lt
 have hmlt:=h.thg.lt
 have HM:Hid _:=h.thg
 have HRNG:Hid _:=h.rng
 have HSZ:Hid (∀ws:Bits,Z.size=(setC ws).size):=fun ws=>by rw[HZ.out,setC_size,setC_size]
 have HK:Hid (∀o o',((w.alloc o).alloc o').heap[mt]? =w.heap[mt]?):=fun o o'=>by
  rw[heap_alloc_old _ _ (by simp;omega),heap_alloc_old _ _ hmlt]
 clear h
 go_enter Tryz.func113,Tryz.ntmps113
 go_wp2_with (first|(at_range;refine wpList_range_is rfl _ 149 rfl 3 104 Tryz.underlying149 mt _ rfl (HM.out.kept (HK.out _ _)) ?_;intro ob cnt0 hov)|go_in)
 go_frame
 have hz1:((w.alloc (.cells Z 107)).alloc (.cells Z 107)).heap.size=w.heap.size+1+1:=by simp
 rw[hz1] at hov ⊢
 clear hz1
 have HOV:Hid _:=hov
 clear hov
 go_loopw [4] (fun _ wr=>∃(done:Value→Prop) (cnt:Nat) (ws:Bits),MapOver Tryz.prog 3 wr mt (w.heap.size+1+1) (thingM th pos) done cnt∧wr.heap[w.heap.size+1]? =some (.cells (setC ws) 107 (0,0))∧wr.heap[w.heap.size]? =some (.cells Z 107 (0,0))∧Below w.heap.size w wr∧Hid (∀j,j<4096→(memB ws j=true↔(done (.int .i64 (j:Int))∧∃t,th (j:Int)=some t)))) (fun _ wr=>wr.rangeLeft mt (w.heap.size+1+1))
 case atStart=>
  refine⟨_,_,zeroB,HOV.out,?_,?_,(((Below.refl _ _).alloc (Nat.le_refl _) _).alloc (by simp) _).alloc (by simp;omega) _,fun j hj=>by simp[memB_zero]⟩
  ·rw[heap_alloc_old _ _ (by simp),heap_alloc2_new,HZ.out]
  ·rw[heap_alloc_old _ _ (by simp;omega),heap_alloc2_old]
 case round=>
  obtain⟨done,cnt,ws,hov,hg1,hg0,hb,HWS⟩:=hrel
  have HG1:Hid _:=hg1
  have HG0:Hid _:=hg0
  have HLE:Hid _:=hov.left_eq
  obtain⟨C,HC⟩:∃C,Hid (setC ws=C):=⟨_,rfl⟩
  rw[HC.out] at HG1
  have HCI:Hid ((Tryz.prog.info? 107).map (·.size)=some C.size):=by rw[←HC.out];exact setC_info ws
  have HC1:Hid (C.all (·.oneCell')=true):=by rw[←HC.out];exact setC_one ws
  have HCS:Hid (Z.size=C.size):=by rw[←HC.out];exact HSZ.out ws
  have hne:mt≠w.heap.size+1+1:=by omega
  clear hg1 hg0
  go_wp2_with (first|(at_next;refine wpList_next_is rfl _ rfl 3 mt (w.heap.size+1+1) _ _ _ rfl hov ?_ ?_)|go_in)
  ·intro hdone
   have HDN:Hid _:=hdone
   clear hdone hov
   go_wp2_with (first|(refine wpList_load_row rfl 107 _ rfl (w.heap.size+1) rfl 107 C (0,0) _ HG1.out Tryz.underlying107 rfl HCI.out ?_)|(refine wpList_store_row rfl 107 _ _ rfl w.heap.size rfl C rfl 107 Z HG0.out HCI.out HCS.out HC1.out ?_))
   refine bodyPost_ret (v:=.agg C) (results_cell_row rfl _ _ w.heap.size 107 C (0,0) _ rfl (setRow_heap _ _ Z _ _ _ HG0.out) Tryz.underlying107 rfl HCI.out) rfl ⟨ws,by rw[HC.out],fun j hj=>?_,Below.setRow hb (Nat.le_refl _) _⟩
   rw[HWS.out j hj]
   exact⟨fun h=>h.2,fun⟨t,ht⟩=>⟨HDN.out _ _ ⟨j,t,ht,rfl,rfl⟩,t,ht⟩⟩
  ·intro key v w1 cnt1 hf hnd hcl hov1 hmd hs1 hen
   obtain⟨id,t,ht,rfl,rfl⟩:=hf
   have hr:=HRNG.out id t ht
   obtain⟨n,rfl⟩:∃n:Nat,id=n:=⟨id.toNat,by omega⟩
   have hn:n<4096:=by omega
   obtain⟨R,HR⟩:∃R,Hid (setC (withB ws n)=R):=⟨_,rfl⟩
   have HW:Hid (∀w:World,Calls Tryz.prog 69 #[.agg C,.int .i64 n] w fun e w'=>e=.returned (.agg R)∧Below w.heap.size w w'):=by
    rw[←HC.out,←HR.out];exact with_any ws n hn
   have HRI:Hid ((Tryz.prog.info? 107).map (·.size)=some R.size):=by rw[←HR.out];exact setC_info _
   have HR1:Hid (R.all (·.oneCell')=true):=by rw[←HR.out];exact setC_one _
   have HRS:Hid (C.size=R.size):=by show _=_;rw[←HC.out,←HR.out,setC_size,setC_size]
   have hw1:∀k,k<wr.heap.size→k≠w.heap.size+1+1→w1.heap[k]? =wr.heap[k]? :=fun k hk hk2=>hmd.2 k hk hk2
   have hl1:=lt_block HG1.out
   have hl0:=lt_block HG0.out
   have HG1':Hid _:=(hw1 _ hl1 (by omega)).trans HG1.out
   have HG0':Hid _:=(hw1 _ hl0 (by omega)).trans HG0.out
   have HMD:Hid _:=hmd
   have HOV1:Hid _:=hov1
   have HT:Hid _:=ht
   have HND:Hid _:=hnd
   clear hov1 hov hmd ht hw1 hnd hr
   go_wp2_with (first|(refine wpList_load_row rfl 107 _ rfl (w.heap.size+1) rfl 107 C (0,0) _ HG1'.out Tryz.underlying107 rfl HCI.out ?_))
   refine Calls.mono (HW.out _) ?_
   rintro e w2 ⟨rfl,hb2⟩
   have HG2:Hid _:=(hb2.block (w.heap.size+1) (by omega)).trans HG1'.out
   have HG3:Hid _:=(hb2.block w.heap.size (by omega)).trans HG0'.out
   go_wp2_with (first|(refine wpList_store_row rfl 107 _ _ rfl (w.heap.size+1) rfl R rfl 107 C HG2.out HRI.out HRS.out HR1.out ?_))
   go_frame
   go_roundw
   case rel=>
    have hrl:=HOV1.out.lt
    have hbk:∀k,k<w1.heap.size→k≠w.heap.size+1→(w2.setRow (w.heap.size+1) R).heap[k]? =w1.heap[k]? :=fun k hk hk2=>(setRow_other _ _ _ _ hk2).trans (hb2.block k hk)
    have hbw:=hb.size
    refine⟨fun x=>done x∨x=.int .i64 (n:Int),cnt1,withB ws n,HOV1.out.kept (hbk mt (by omega) (by omega)) (hbk _ hrl (by omega)),?_,(setRow_other _ _ _ _ (by omega)).trans HG3.out,?_,fun j hj=>?_⟩
    ·rw[HR.out];exact setRow_heap _ _ C _ _ _ HG2.out
    ·refine Below.setRow (hb.trans ?_) (by omega) _
     exact(show Below w.heap.size wr w1 from {HMD.out.below with block:=fun k hk=>HMD.out.only k (by omega) (by omega)}).trans (hb2.mono (by omega))
    ·rw[memB_with,Bool.or_eq_true,HWS.out j hj,decide_eq_true_iff]
     constructor
     ·rintro(rfl|⟨h1,h2⟩)
      ·exact⟨.inr rfl,t,HT.out⟩
      ·exact⟨.inl h1,h2⟩
     ·rintro⟨h1|h1,h2⟩
      ·exact .inr ⟨h1,h2⟩
      ·have:(j:Int)=n:=by injection h1
       exact .inl (by omega)
   case measure=>
    have hrl:=HOV1.out.lt
    have hbk:∀k,k<w1.heap.size→k≠w.heap.size+1→(w2.setRow (w.heap.size+1) R).heap[k]? =w1.heap[k]? :=fun k hk hk2=>(setRow_other _ _ _ _ hk2).trans (hb2.block k hk)
    have hbw:=hb.size
    rw[(HOV1.out.kept (hbk mt (by omega) (by omega)) (hbk _ hrl (by omega))).left_eq,HLE.out]
    exact hcl
set_option maxHeartbeats 4000000 in
theorem where_any {w:World}{F:Nat→Prop}{hb mt mh:Nat}{th:Has}{pos:Int→Value×Value}(h:ShelfAt w F hb th mt mh pos)(f:Nat)(g:FuncId)(caps:Array Value)(p:Doc.Val→Bool)
  (hcf:∀xs w,Sem.run Tryz.prog (callFunc g xs) w=.ok (.enter g xs) w)
  (hp:∀(w':World) (x:Doc.Val),Below w.heap.size w w'→Fine x→(x.k==0)=false→Calls Tryz.prog g (#[.agg #[.int .i64 x.k,.int .i64 x.n,.string x.s]]++caps) w' fun e w''=>e=.returned (.bool (p x))∧Below w'.heap.size w' w''):
  Calls Tryz.prog 192 #[.pointer (some ⟨hb,0,none⟩),.int .i64 f,.func (.func g) #[] caps] w fun e w'=>∃ws:Bits,e=.returned (.agg (setC ws))∧(∀j,j<4096→(memB ws j=true↔∃x,Hof th j f x∧(x.k==0)=false∧p x=true))∧Below w.heap.size w w':=by
 obtain⟨Z,hz,HZ⟩:∃Z,(∀w,(zeroValue 107).run Tryz.prog w=.ok (.agg Z) w)∧Hid (Z=setC zeroB):=⟨_,zero_set,rfl⟩
 have c1:w.cell? ⟨hb,1,none⟩=some (.map (some mh)):=blk_cell h.blk 1 _ rfl
 have hlt:=h.lt
 have hmlt:=h.hold.lt
 have HM:Hid _:=h.hold
 have HSZ:Hid (∀ws:Bits,Z.size=(setC ws).size):=fun ws=>by rw[HZ.out,setC_size,setC_size]
 have HK:Hid (∀o o',((w.alloc o).alloc o').heap[mh]? =w.heap[mh]?):=fun o o'=>by
  rw[heap_alloc_old _ _ (by simp;omega),heap_alloc_old _ _ hmlt]
 have HP:Hid _:=hp
 have HRG:Hid (∀j x,Hof th j f x→f<4∧Fine x):=by
  rintro j x ⟨t,ht,hx⟩
  have hr:=h.rng _ t ht
  have:=(List.getElem?_eq_some_iff.1 hx).1
  exact⟨by omega,hr.2.2.2.2 x (List.mem_of_getElem? hx)⟩
 clear h hp
 go_enter Tryz.func192,Tryz.ntmps192
 go_wp2_with (first|(at_range;refine wpList_range_is rfl _ 150 rfl 155 107 Tryz.underlying150 mh _ rfl (HM.out.kept (HK.out _ _)) ?_;intro ob cnt0 hov)|go_in)
 go_frame
 have hz1:((w.alloc (.cells Z 107)).alloc (.cells Z 107)).heap.size=w.heap.size+1+1:=by simp
 rw[hz1] at hov ⊢
 clear hz1
 have HOV:Hid _:=hov
 clear hov
 go_loopw [8] (fun _ wr=>∃(done:Value→Prop) (cnt:Nat) (ws:Bits),MapOver Tryz.prog 155 wr mh (w.heap.size+1+1) (holdM (Hof th)) done cnt∧wr.heap[w.heap.size+1]? =some (.cells (setC ws) 107 (0,0))∧wr.heap[w.heap.size]? =some (.cells Z 107 (0,0))∧Below w.heap.size w wr∧Hid (∀j,j<4096→(memB ws j=true↔∃x,done (.agg (heldC f x))∧Hof th j f x∧(x.k==0)=false∧p x=true))) (fun _ wr=>wr.rangeLeft mh (w.heap.size+1+1))
 case atStart=>
  refine⟨_,_,zeroB,HOV.out,?_,?_,(((Below.refl _ _).alloc (Nat.le_refl _) _).alloc (by simp) _).alloc (by simp;omega) _,fun j hj=>by simp[memB_zero]⟩
  ·rw[heap_alloc_old _ _ (by simp),heap_alloc2_new,HZ.out]
  ·rw[heap_alloc_old _ _ (by simp;omega),heap_alloc2_old]
 case round=>
  obtain⟨done,cnt,ws,hov,hg1,hg0,hb,HWS⟩:=hrel
  have HG1:Hid _:=hg1
  have HG0:Hid _:=hg0
  have HLE:Hid _:=hov.left_eq
  obtain⟨C,HC⟩:∃C,Hid (setC ws=C):=⟨_,rfl⟩
  rw[HC.out] at HG1
  have HCI:Hid ((Tryz.prog.info? 107).map (·.size)=some C.size):=by rw[←HC.out];exact setC_info ws
  have HC1:Hid (C.all (·.oneCell')=true):=by rw[←HC.out];exact setC_one ws
  have HCS:Hid (Z.size=C.size):=by rw[←HC.out];exact HSZ.out ws
  clear hg1 hg0
  go_wp2_with (first|(at_next;refine wpList_next_is rfl _ rfl 155 mh (w.heap.size+1+1) _ _ _ rfl hov ?_ ?_)|go_in)
  ·intro hdone
   have HDN:Hid _:=hdone
   clear hdone
   have HMX:Hid (∀j x,j<4096→Hof th j f x→f<4→Fine x→done (.agg (heldC f x))):=by
    intro j x hj hx hf hfx
    obtain⟨vs,hvs⟩:=exists_set (fun i=>Hof th i f x)
    exact HDN.out _ _ ⟨f,x,vs,hf,hfx,rfl,rfl,hvs,j,hj,hx⟩
   clear hov
   go_wp2_with (first|(refine wpList_load_row rfl 107 _ rfl (w.heap.size+1) rfl 107 C (0,0) _ HG1.out Tryz.underlying107 rfl HCI.out ?_)|(refine wpList_store_row rfl 107 _ _ rfl w.heap.size rfl C rfl 107 Z HG0.out HCI.out HCS.out HC1.out ?_))
   refine bodyPost_ret (v:=.agg C) (results_cell_row rfl _ _ w.heap.size 107 C (0,0) _ rfl (setRow_heap _ _ Z _ _ _ HG0.out) Tryz.underlying107 rfl HCI.out) rfl ⟨ws,by rw[HC.out],fun j hj=>?_,Below.setRow hb (Nat.le_refl _) _⟩
   rw[HWS.out j hj]
   exact⟨fun⟨x,_,h2⟩=>⟨x,h2⟩,fun⟨x,h1,h2⟩=>⟨x,HMX.out j x hj h1 (HRG.out j x h1).1 (HRG.out j x h1).2,h1,h2⟩⟩
  ·intro key v w1 cnt1 hf hnd hcl hov1 hmd hs1 hen
   obtain⟨fd,x,vs,hfd,hx,rfl,rfl,hvs,hex⟩:=hf
   obtain⟨D,HD⟩:∃D,Hid (setC vs=D):=⟨_,rfl⟩
   rw[HD.out] at hen ⊢
   have HDI:Hid ((Tryz.prog.info? 107).map (·.size)=some D.size):=by rw[←HD.out];exact setC_info vs
   have HD1:Hid (D.all (·.oneCell')=true):=by rw[←HD.out];exact setC_one vs
   have HDS:Hid (Z.size=D.size):=by rw[←HD.out];exact HSZ.out vs
   have hw1:∀k,k<wr.heap.size→k≠w.heap.size+1+1→w1.heap[k]? =wr.heap[k]? :=fun k hk hk2=>hmd.2 k hk hk2
   have hl1:=lt_block HG1.out
   have hl0:=lt_block HG0.out
   have HG1':Hid _:=(hw1 _ hl1 (by omega)).trans HG1.out
   have HG0':Hid _:=(hw1 _ hl0 (by omega)).trans HG0.out
   have HMD:Hid _:=hmd
   have HOV1:Hid _:=hov1
   have HVS:Hid _:=hvs
   have HEX:Hid _:=hex
   have HX:Hid _:=hx
   have hdd:=hov1.lt
   unfold heldC at hen ⊢
   have HS1:Hid _:=hs1
   clear hov1 hov hmd hw1 hnd hvs hex hx hs1
   obtain⟨w3,HW3⟩:∃w3,Hid (w3=((w1.alloc (.cells #[.int .i64 fd,.int .i64 x.k,.int .i64 x.n,.string x.s] 155)).alloc (.cells Z 107)).setRow (w1.heap.size+1) D):=⟨_,rfl⟩
   have hb3:Below w1.heap.size w1 w3:=by rw[HW3.out];exact Below.setRow (((Below.refl _ _).alloc (Nat.le_refl _) _).alloc (by simp) _) (by omega) _
   have hk3:w3.heap[w1.heap.size]? =some (.cells #[.int .i64 fd,.int .i64 x.k,.int .i64 x.n,.string x.s] 155 (0,0)):=by
    rw[HW3.out,setRow_other _ _ _ _ (by omega)];exact heap_alloc2_old w1 _ _
   have hd3:w3.heap[w1.heap.size+1]? =some (.cells D 107 (0,0)):=by
    rw[HW3.out];exact setRow_heap _ _ Z _ _ _ (heap_alloc2_new w1 _ _)
   have k0:w3.cell? ⟨w1.heap.size,0,none⟩=some (.int .i64 fd):=blk_cell hk3 0 _ rfl
   have k1:w3.cell? ⟨w1.heap.size,1,none⟩=some (.int .i64 x.k):=blk_cell hk3 1 _ rfl
   have k2:w3.cell? ⟨w1.heap.size,2,none⟩=some (.int .i64 x.n):=blk_cell hk3 2 _ rfl
   have k3:w3.cell? ⟨w1.heap.size,3,none⟩=some (.string x.s):=blk_cell hk3 3 _ rfl
   have HB3:Hid _:=hb3
   have HD3:Hid _:=hd3
   clear hb3 hd3 hk3
   have hwb:Below w.heap.size wr w1:={HMD.out.below with block:=fun k hk=>HMD.out.only k (by have:=hb.size;omega) (by omega)}
   have FIN:Hid (∀(wx:World) (us:Bits),(∀k,k<w1.heap.size→k≠w.heap.size+1→wx.heap[k]? =w1.heap[k]?)→Below w.heap.size w wx→wx.heap[w.heap.size+1]? =some (.cells (setC us) 107 (0,0))→(∀j,j<4096→(memB us j=true↔(memB ws j=true∨(fd=f∧(x.k==0)=false∧p x=true∧Hof th j f x))))→
     (∃(done:Value→Prop) (cnt:Nat) (ws:Bits),MapOver Tryz.prog 155 wx mh (w.heap.size+1+1) (holdM (Hof th)) done cnt∧wx.heap[w.heap.size+1]? =some (.cells (setC ws) 107 (0,0))∧wx.heap[w.heap.size]? =some (.cells Z 107 (0,0))∧Below w.heap.size w wx∧Hid (∀j,j<4096→(memB ws j=true↔∃x,done (.agg (heldC f x))∧Hof th j f x∧(x.k==0)=false∧p x=true)))∧wx.rangeLeft mh (w.heap.size+1+1)<wr.rangeLeft mh (w.heap.size+1+1)):=by
    intro wx us hkk hbx hrow hus
    have hws:=hb.size
    have hsz:=HS1.out
    have hov2:=HOV1.out.kept (hkk mh (by omega) (by omega)) (hkk _ hdd (by omega))
    refine⟨⟨_,cnt1,us,hov2,hrow,(hkk _ (by omega) (by omega)).trans HG0'.out,hbx,fun j hj=>?_⟩,by rw[hov2.left_eq,HLE.out];exact hcl⟩
    rw[hus j hj,HWS.out j hj]
    constructor
    ·rintro(⟨y,h1,h2⟩|⟨rfl,h2,h3,h4⟩)
     ·exact⟨y,.inl h1,h2⟩
     ·exact⟨x,.inr rfl,h4,h2,h3⟩
    ·rintro⟨y,h1|h1,h2,h3,h4⟩
     ·exact .inl ⟨y,h1,h2,h3,h4⟩
     ·obtain⟨rfl,rfl⟩:=heldC_inj h1
      exact .inr ⟨rfl,h3,h4,h2⟩
   have HWB:Hid _:=hb.trans hwb
   clear hwb
   by_cases e1:((fd:Int)==(f:Int))=true
   ·have HW3B:Hid _:=HWB.out.trans (HB3.out.mono (by have:=HWB.out.size;omega))
    have HCALL:Hid ((x.k==0)=false→_):=HP.out w3 x HW3B.out HX.out
    obtain⟨pv,HPV⟩:∃pv,Hid (p x=pv):=⟨_,rfl⟩
    rw[HPV.out] at HCALL
    have HFD:Hid (fd=f):=by show _=_;have:=e1;simp only[beq_iff_eq] at this;omega
    go_wp2_with (first|(refine wpList_store_row rfl 107 _ _ rfl (w1.heap.size+1) rfl D rfl 107 Z (heap_alloc2_new w1 _ _) HDI.out HDS.out HD1.out ?_;rw[←HW3.out]))
    ·have e2:= ‹x.k=0›
     exact FIN.out w3 ws (fun k hk _=>HB3.out.block k hk) (HWB.out.trans (HB3.out.mono (by have:=HWB.out.size;omega))) ((HB3.out.block _ (by have:=HS1.out;omega)).trans (HG1'.out.trans (by rw[HC.out]))) (fun j _=>⟨.inl,fun h=>h.elim id (fun h=>by rw[e2] at h;cases h.2.1)⟩)
    ·have e2:(x.k==0)=false:=by have h:= ‹¬x.k=0›;simpa using h
     have HE2:Hid _:=e2
     cases pv with
     |false=>
      refine Calls.mono (HCALL.out HE2.out) ?_
      rintro e w4 ⟨rfl,hb4⟩
      have HB4:Hid (Below w1.heap.size w1 w4):=HB3.out.trans (hb4.mono HB3.out.size)
      go_wp2_with fail
      exact FIN.out w4 ws (fun k hk _=>HB4.out.block k hk) (HWB.out.trans (HB4.out.mono (by have:=HWB.out.size;omega))) ((HB4.out.block _ (by have:=HS1.out;omega)).trans (HG1'.out.trans (by rw[HC.out]))) (fun j _=>⟨.inl,fun h=>h.elim id (fun h=>by have:=HPV.out;rw[h.2.2.1] at this;cases this)⟩)
     |true=>
      obtain⟨R,HR⟩:∃R,Hid (setC (orB ws vs)=R):=⟨_,rfl⟩
      have HOR:Hid (∀w:World,Calls Tryz.prog 198 #[.agg C,.agg D] w fun e w'=>e=.returned (.agg R)∧Below w.heap.size w w'):=by
       rw[←HC.out,←HD.out,←HR.out];exact or_any ws vs
      have HRI:Hid ((Tryz.prog.info? 107).map (·.size)=some R.size):=by rw[←HR.out];exact setC_info _
      have HR1:Hid (R.all (·.oneCell')=true):=by rw[←HR.out];exact setC_one _
      have HRS:Hid (C.size=R.size):=by show _=_;rw[←HC.out,←HR.out,setC_size,setC_size]
      refine Calls.mono (HCALL.out HE2.out) ?_
      rintro e w4 ⟨rfl,hb4⟩
      have HB4:Hid (Below w1.heap.size w1 w4):=HB3.out.trans (hb4.mono HB3.out.size)
      have HG4:Hid _:=(HB4.out.block _ (by have:=HS1.out;omega)).trans HG1'.out
      have HD4:Hid _:=(hb4.block (w1.heap.size+1) (lt_block HD3.out)).trans HD3.out
      have hb4s:=hb4.size
      go_wp2_with (first|(refine wpList_load_row rfl 107 _ rfl (w.heap.size+1) rfl 107 C (0,0) _ HG4.out Tryz.underlying107 rfl HCI.out ?_)|(refine wpList_load_row rfl 107 _ rfl (w1.heap.size+1) rfl 107 D (0,0) _ HD4.out Tryz.underlying107 rfl HDI.out ?_))
      refine Calls.mono (HOR.out _) ?_
      rintro e w5 ⟨rfl,hb5⟩
      have HB5:Hid (Below w1.heap.size w1 w5):=HB4.out.trans (hb5.mono HB4.out.size)
      have HG5:Hid _:=(HB5.out.block _ (by have:=HS1.out;omega)).trans HG1'.out
      go_wp2_with (first|(refine wpList_store_row rfl 107 _ _ rfl (w.heap.size+1) rfl R rfl 107 C HG5.out HRI.out HRS.out HR1.out ?_))
      go_frame
      have HFIN:Hid _:=FIN.out (w5.setRow (w.heap.size+1) R) (orB ws vs) (fun k hk hk2=>(setRow_other _ _ _ _ hk2).trans (HB5.out.block k hk)) (Below.setRow (HWB.out.trans (HB5.out.mono (by have:=HWB.out.size;omega))) (by omega) _) (by rw[HR.out];exact setRow_heap _ _ C _ _ _ HG5.out) (fun j hj=>by
       rw[memB_or,Bool.or_eq_true,HVS.out j hj,HFD.out]
       exact⟨fun h=>h.imp id (fun h=>⟨rfl,HE2.out,HPV.out,h⟩),fun h=>h.imp id (fun h=>h.2.2.2)⟩)
      go_roundw
      case rel=>exact HFIN.out.1
      case measure=>exact HFIN.out.2
   ·have e1:((fd:Int)==(f:Int))=false:=by simpa using e1
    go_wp2_with (first|(refine wpList_store_row rfl 107 _ _ rfl (w1.heap.size+1) rfl D rfl 107 Z (heap_alloc2_new w1 _ _) HDI.out HDS.out HD1.out ?_;rw[←HW3.out]))
    exact FIN.out w3 ws (fun k hk _=>HB3.out.block k hk) (HWB.out.trans (HB3.out.mono (by have:=HWB.out.size;omega))) ((HB3.out.block _ (by have:=HS1.out;omega)).trans (HG1'.out.trans (by rw[HC.out]))) (fun j _=>⟨.inl,fun h=>h.elim id (fun h=>by rw[h.1] at e1;simp at e1)⟩)
end Go.Proofs.YtbnelaoeblhndaaGreatDoor
namespace Go.Proofs.YtbnelaoeblhndaaGreatDoor
open Go.RowKit
set_option maxRecDepth 100000
section
variable {P:Program}
def lay (cur:Array Value)(off:Nat)(R:Array Value):Array Value:=(cur.toList.take off++R.toList++cur.toList.drop (off+R.size)).toArray
theorem lay_size {cur:Array Value}{off:Nat}{R:Array Value}(h:off+R.size≤cur.size):(lay cur off R).size=cur.size:=by
 simp[lay];omega
theorem lay_at {cur:Array Value}{off:Nat}{R:Array Value}(h:off+R.size≤cur.size)(j:Nat):(lay cur off R)[j]? =if j<off then cur[j]? else if j<off+R.size then R[j-off]? else cur[j]? :=by
 unfold lay
 rw[List.getElem?_toArray]
 simp only[List.getElem?_append,List.length_append,List.length_take,Array.length_toList,List.getElem?_drop,List.getElem?_take,Array.getElem?_toList]
 by_cases h1:j<off
 ·simp[h1,show j<min off cur.size+R.size by omega,show j<min off cur.size by omega]
 ·by_cases h2:j<off+R.size
  ·simp[h1,h2,show min off cur.size=off by omega]
  ·simp[h1,h2,show min off cur.size=off by omega,show off+R.size+(j-(off+R.size))=j by omega]
theorem add_off (g off j:Nat):(⟨g,off,none⟩:Addr).add j=⟨g,off+j,none⟩:=by unfold Addr.add;split<;>simp_all
theorem run_loadVar_off (w:World)(g off:Nat)(t ty:TypeId)(cs R:Array Value)(fr:Nat×Nat)(d:TypeDesc)(hg:w.heap[g]? =some (.cells cs t fr))(hR:∀j v,R[j]? =some v→cs[off+j]? =some v)
  (hu:P.underlying ty=some d) (hd:(match d with | .struct _ | .array _ _=>true|_=>false)=true) (hi:(P.info? ty).map (·.size)=some R.size):
  (loadVar ty ⟨g,off,none⟩).run P w=.ok (.agg R) w:=by
 have hl:(loadCells ⟨g,off,none⟩ R.toList.length).run P w=.ok R.toList.toArray w:=
  run_loadCells_list (P:=P) w ⟨g,off,none⟩ R.toList (fun j v hv=>by
   rw[add_off,cell_of_row w g (off+j) cs t fr hg]
   exact hR j v (by simpa using hv))
 cases hq:P.info? ty with
 |none=>simp[hq] at hi
 |some i=>
  have hs:i.size=R.size:=by simpa[hq] using hi
  have hagg:(isAgg ty).run P w=.ok true w:=by
   unfold isAgg
   rw[Sem.run_bind,run_underlying hu w]
   cases d<;>simp_all
  simp only[Array.length_toList,Array.toArray_toList] at hl
  simp[loadVar,Sem.run_bind,hagg,sizeOf,typeInfo,hq,hs,hl]
theorem wpList_load_off {ops:Array Oper}{rest:List Oper}{o:Oper}{a:Act}{w:World}{Q:Exit→Act→World→Prop}(hgd:o.guard=none)(ty:TypeId)(x:Operand)(ho:o.op=.load ty x)
  (g off:Nat) (hx:a.eval x=.pointer (some ⟨g,off,none⟩)) (t:TypeId) (cs R:Array Value) (fr:Nat×Nat) (d:TypeDesc) (hg:w.heap[g]? =some (.cells cs t fr)) (hR:∀j v,R[j]? =some v→cs[off+j]? =some v)
  (hu:P.underlying ty=some d) (hd:(match d with | .struct _ | .array _ _=>true|_=>false)=true) (hi:(P.info? ty).map (·.size)=some R.size)
  (h:wpList P ops Q rest (a.put o.dst (.agg R)) w):wpList P ops Q (o::rest) a w:=by
 refine wpList_plain hgd fun _ hK=>?_
 unfold Oper.wp execOp
 simp only[ho,hx,Instr.loadAt,Instr.sureAddr,Sem.run_bind,Sem.run_pure,Result.andThen_ok,run_loadVar_off w g off t ty cs R fr d hg hR hu hd hi]
 exact hK _ _ h
theorem setRow_self {w:World}{g:Nat}{cur:Array Value}{t:TypeId}{fr:Nat×Nat}(hg:w.heap[g]? =some (.cells cur t fr)):w.setRow g cur=w:=by
 have hlt:g<w.heap.size:=(Array.getElem?_eq_some_iff.1 hg).1
 have hv:w.heap[g]=.cells cur t fr:=(Array.getElem?_eq_some_iff.1 hg).2
 unfold World.setRow
 cases w with
 |mk heap tape drawn os output=>
  congr 1
  apply Array.ext
  ·simp
  ·intro k h1 h2
   simp only[Array.getElem_modify]
   split
   ·rename_i hk;subst hk;simp at hv;simp[hv]
   ·rfl
theorem run_storeCells_off (g off:Nat)(t:TypeId):∀(vs:List Value) (i:Nat) (cur:Array Value) (w:World),w.heap[g]? =some (.cells cur t (0,0))→off+i+vs.length≤cur.size→(∀v∈vs,v.oneCell'=true)→
  (storeCells ⟨g,off,none⟩ vs i).run P w=.ok () (w.setRow g (lay cur (off+i) vs.toArray))
 | [],i,cur,w,hg,hl,_=>by
   have:lay cur (off+i) #[]=cur:=by
    apply Array.ext_getElem?
    intro k
    rw[lay_at (by simpa using hl)]
    by_cases h:k<off+i
    ·simp[h]
    ·simp[h]
   simp only[storeCells,this]
   show Result.ok () w=_
   rw[setRow_self hg]
 |v::rest,i,cur,w,hg,hl,h1=>by
  have hi:off+i<cur.size:=by simp at hl;omega
  have hcell:w.cell? ⟨g,off+i,none⟩=some cur[off+i]:=by simp[World.cell?,hg,hi]
  have hfro:w.frozen? ⟨g,off+i,none⟩=false:=by simp[World.frozen?,hg]
  have hst:(store ((⟨g,off,none⟩:Addr).add i) v).run P w=.ok () (w.setRow g (cur.setIfInBounds (off+i) v)):=by
   rw[add_off,run_store P w _ v _ (h1 v (by simp)),hcell]
   simp[hfro,setCell_eq_setRow w g (off+i) cur t (0,0) v hg]
  have ih:=run_storeCells_off g off t rest (i+1) (cur.setIfInBounds (off+i) v) (w.setRow g (cur.setIfInBounds (off+i) v)) (setRow_heap w g cur _ t _ hg) (by simp at hl ⊢;omega) (fun x hx=>h1 x (by simp[hx]))
  simp only[storeCells,Sem.run_bind,hst,Result.andThen_ok,ih,setRow_setRow]
  congr 2
  apply Array.ext_getElem?
  intro k
  rw[lay_at (by simp at hl ⊢;omega),lay_at (by simp at hl ⊢;omega)]
  simp only[List.size_toArray,List.length_cons,List.getElem?_toArray,Array.getElem?_setIfInBounds]
  by_cases h2:k<off+i
  ·simp[h2,show k<off+(i+1) by omega,show off+i≠k by omega]
  ·by_cases h3:k=off+i
   ·subst h3;simp[hi]
   ·by_cases h4:k<off+i+(rest.length+1)
    ·simp[h2,h4,show ¬k<off+(i+1) by omega,show k<off+(i+1)+rest.length by omega,show k-(off+i)=(k-(off+(i+1)))+1 by omega]
    ·simp[h2,h4,show ¬k<off+(i+1) by omega,show ¬k<off+(i+1)+rest.length by omega,show off+i≠k by omega]
end
section
variable {P:Program}{ops:Array Oper}{o:Oper}{a:Act}{w:World}{K:Act→World→Prop}{Q:Exit→Act→World→Prop}{E:Prop}
theorem step_store_off (hgd:o.guard=none)(ty:TypeId)(x y:Operand)(ho:o.op=.store ty x y)
  (g off:Nat) (hx:a.eval x=.pointer (some ⟨g,off,none⟩)) (R:Array Value) (hy:a.eval y=.agg R) (t:TypeId) (cur:Array Value) (hg:w.heap[g]? =some (.cells cur t (0,0)))
  (hi:(P.info? ty).map (·.size)=some R.size) (hl:off+R.size≤cur.size) (h1:R.all (·.oneCell')=true)
  (h:K (a.put o.dst undef) (w.setRow g (lay cur off R))):if Region.wanted o (yielded ops a.tmps)=true then Oper.wp P o a w K Q else E:=by
 have hw:Region.wanted o (yielded ops a.tmps)=true:=by simp[Region.wanted,hgd]
 rw[if_pos hw]
 have hs:=run_storeCells_off (P:=P) g off t R.toList 0 cur w hg (by simpa using hl) (fun v hv=>(Array.all_eq_true_iff_forall_mem.1 h1) v (by simpa using hv))
 have hv:(storeVar ty ⟨g,off,none⟩ (.agg R)).run P w=.ok () (w.setRow g (lay cur off R)):=by
  cases hq:P.info? ty with
  |none=>simp[hq] at hi
  |some i=>
   have hs2:R.size=i.size:=by simp[hq] at hi;omega
   simpa[storeVar,sizeOf,typeInfo,hq,Value.cells,hs2] using hs
 unfold Oper.wp execOp
 simp only[ho,hx,hy,Instr.storeAt,Instr.sureAddr,Sem.run_bind,Sem.run_pure,Result.andThen_ok,hv]
 exact h
theorem lay_whole {cur R:Array Value}(h:cur.size=R.size):lay cur 0 R=R:=by
 apply Array.ext_getElem?
 intro k
 rw[lay_at (by omega)]
 by_cases hk:k<R.size
 ·simp[hk]
 ·simp[hk,Array.getElem?_eq_none_iff.2 (show cur.size≤k by omega)]
end
def twoC (ys ns:Bits):Array Value:=setC ys++setC ns
theorem twoC_size (ys ns:Bits):(twoC ys ns).size=128:=by simp[twoC,setC_size]
theorem twoC_yes (ys ns:Bits)(j:Nat)(v:Value)(h:(setC ys)[j]? =some v):(twoC ys ns)[0+j]? =some v:=by
 have hj:j<(setC ys).size:=(Array.getElem?_eq_some_iff.1 h).1
 rw[Nat.zero_add,twoC,Array.getElem?_append_left hj];exact h
theorem twoC_no (ys ns:Bits)(j:Nat)(v:Value)(h:(setC ns)[j]? =some v):(twoC ys ns)[64+j]? =some v:=by
 rw[twoC,Array.getElem?_append_right (by rw[setC_size];omega),setC_size,Nat.add_sub_cancel_left];exact h
theorem twoC_one (ys ns:Bits):(twoC ys ns).all (·.oneCell')=true:=by
 rw[twoC,Array.all_append,setC_one,setC_one];rfl
theorem lay_yes (ys ns ws:Bits):lay (twoC ys ns) 0 (setC ws)=twoC ws ns:=by
 apply Array.ext_getElem?
 intro k
 rw[lay_at (by rw[setC_size,twoC_size];omega),setC_size]
 simp only[twoC,Array.getElem?_append,setC_size]
 by_cases h:k<64
 ·simp[h]
 ·simp[h]
theorem lay_no (ys ns ws:Bits):lay (twoC ys ns) 64 (setC ws)=twoC ys ws:=by
 apply Array.ext_getElem?
 intro k
 rw[lay_at (by rw[setC_size,twoC_size];omega),setC_size]
 simp only[twoC,Array.getElem?_append,setC_size]
 by_cases h:k<64
 ·simp[h]
 ·by_cases h2:k<128
  ·simp[h,h2]
  ·simp[h,h2,Array.getElem?_eq_none_iff.2 (show(setC ns).size≤k-64 by rw[setC_size];omega),Array.getElem?_eq_none_iff.2 (show(setC ws).size≤k-64 by rw[setC_size];omega)]
theorem Tryz.infoVerdict:(Tryz.prog.info? 214).map (fun i=>(i.zero,i.size))=some (some (.agg (twoC zeroB zeroB)),128):=by kernel_rfl
theorem twoC_info (ys ns:Bits):(Tryz.prog.info? 214).map (·.size)=some (twoC ys ns).size:=by rw[twoC_size];exact(zero_of_info Tryz.infoVerdict).2
theorem zero_verdict:∀w,(zeroValue 214).run Tryz.prog w=.ok (.agg (twoC zeroB zeroB)) w:=(zero_of_info Tryz.infoVerdict).1
theorem fold_lay (off:Nat):∀(r:List Value) (k:Nat) (cells:Array Value),off+k+r.length≤cells.size→∀j:Nat,
  ((r.zipIdx k).foldl (fun(cs:Array Value) (x:Value×Nat)=>cs.setIfInBounds (off+x.2) x.1) cells)[j]? =if j<off+k then cells[j]? else if j<off+k+r.length then r[j-(off+k)]? else cells[j]?
 | [],k,cells,h,j=>by
   by_cases h1:j<off+k
   ·simp[h1]
   ·simp[h1]
 |v::r,k,cells,h,j=>by
  rw[List.zipIdx_cons,List.foldl_cons,fold_lay off r (k+1) _ (by simp at h ⊢;omega) j]
  simp only[Array.getElem?_setIfInBounds,List.length_cons]
  simp only[List.length_cons] at h
  by_cases h1:j<off+k
  ·simp[h1,show j<off+(k+1) by omega,show off+k≠j by omega]
  ·by_cases h2:j=off+k
   ·subst h2
    simp[show off+k<cells.size by omega,show off+k<off+(k+1) by omega]
   ·by_cases h3:j<off+k+(r.length+1)
    ·simp[h1,h3,show ¬j<off+(k+1) by omega,show j<off+(k+1)+r.length by omega,show j-(off+k)=(j-(off+(k+1)))+1 by omega]
    ·simp[h1,h3,show ¬j<off+(k+1) by omega,show ¬j<off+(k+1)+r.length by omega,show off+k≠j by omega]
theorem fill_lay {place:Nat→Option (Nat×Nat)}{cells:Array Value}{i off:Nat}{v:Value}{rest:List (Nat×Value)}(hp:place i=some (off,v.cells.size))(hl:off+v.cells.size≤cells.size):
  Instr.fill place cells ((i,v)::rest)=Instr.fill place (lay cells off v.cells) rest:=by
 have hf:(v.cells.zipIdx.foldl (fun(cs:Array Value) (x:Value×Nat)=>cs.setIfInBounds (off+x.2) x.1) cells)=lay cells off v.cells:=by
  apply Array.ext_getElem?
  intro j
  rw[←Array.foldl_toList,Array.toList_zipIdx,fold_lay off v.cells.toList 0 cells (by simpa using hl),lay_at hl]
  simp
 have hc:(decide (v.cells.size≠v.cells.size) || decide (off+v.cells.size > cells.size))=false:=by simp;omega
 have e:Instr.fill place cells ((i,v)::rest)=(match place i with
  |none=>none
  |some (off,size)=>if v.cells.size≠size || off+v.cells.size > cells.size then none else Instr.fill place (v.cells.zipIdx.foldl (fun(cs:Array Value) (x:Value×Nat)=>cs.setIfInBounds (off+x.2) x.1) cells) rest):=rfl
 rw[e,hp]
 show(if (decide (v.cells.size≠v.cells.size) || decide (off+v.cells.size > cells.size))=true then none else Instr.fill place (v.cells.zipIdx.foldl (fun(cs:Array Value) (x:Value×Nat)=>cs.setIfInBounds (off+x.2) x.1) cells) rest)=_
 rw[hc,hf]
 rfl
theorem built_two:∀parts,Tryz.prog.built 214 parts=Instr.fill (fun x=>(#[(0,64),(64,64)]:Array (Nat×Nat))[x]?) (twoC zeroB zeroB) parts:=by intro parts;kernel_rfl
theorem run_build_two (ys ns:Bits):∀w,(Instr.build 214 #[(0,.agg (setC ys)),(1,.agg (setC ns))]).run Tryz.prog w=.ok (.agg (twoC ys ns)) w:=fun w=>run_build w _ _ _ (by
 rw[built_two]
 show Instr.fill _ _ [(0,.agg (setC ys)),(1,.agg (setC ns))]=_
 have hs:∀ws:Bits,(Value.agg (setC ws)).cells.size=64:=setC_size
 rw[fill_lay (off:=0) (by rw[hs];rfl) (by rw[hs,twoC_size];omega)]
 show Instr.fill _ (lay (twoC zeroB zeroB) 0 (setC ys)) _=_
 rw[lay_yes,fill_lay (off:=64) (by rw[hs];rfl) (by rw[hs,twoC_size];omega)]
 show Instr.fill _ (lay (twoC ys zeroB) 64 (setC ns)) _=_
 rw[lay_no]
 rfl)
def sieveC (fv:Value)(hb:Nat)(all:Bits):Array Value:=#[fv,.pointer (some ⟨hb,0,none⟩)]++setC all
theorem sieveC_all (fv:Value)(hb:Nat)(all:Bits)(j:Nat)(v:Value)(h:(setC all)[j]? =some v):(sieveC fv hb all)[2+j]? =some v:=by
 rw[sieveC,Array.getElem?_append_right (by simp)]
 simpa using h
theorem built_sieve:∀parts,Tryz.prog.built 212 parts=Instr.fill (fun x=>(#[(0,1),(1,1),(2,64)]:Array (Nat×Nat))[x]?) (#[.slice none 0 0,.pointer none]++setC zeroB) parts:=by intro parts;kernel_rfl
theorem fill_sieve (u1 u2 v1 v2:Value)(h1:v1.cells= #[v1])(h2:v2.cells= #[v2])(Z A:Array Value)(hZ:Z.size=64)(hA:A.size=64):
  Instr.fill (fun x=>(#[(0,1),(1,1),(2,64)]:Array (Nat×Nat))[x]?) (#[u1,u2]++Z) [(0,v1),(1,v2),(2,.agg A)]=some (#[v1,v2]++A):=by
 have hs:(Value.agg A).cells.size=64:=hA
 have hz:(#[u1,u2]++Z).size=66:=by simp[hZ]
 have h1':v1.cells.size=1:=by rw[h1];rfl
 have h2':v2.cells.size=1:=by rw[h2];rfl
 have s1:(lay (#[u1,u2]++Z) 0 v1.cells).size=66:=by rw[lay_size (by omega),hz]
 have s2:(lay (lay (#[u1,u2]++Z) 0 v1.cells) 1 v2.cells).size=66:=by rw[lay_size (by omega),s1]
 rw[fill_lay (off:=0) (by rw[h1'];rfl) (by omega),fill_lay (off:=1) (by rw[h2'];rfl) (by omega),fill_lay (off:=2) (by rw[hs];rfl) (by omega)]
 show some _=some _
 congr 1
 apply Array.ext_getElem?
 intro k
 rw[lay_at (by omega),lay_at (by omega),lay_at (by omega),hs,h1',h2',h1,h2]
 show(if k<2 then if k<1 then if k<0 then _ else if k<0+1 then #[v1][k-0]? else _ else if k<1+1 then #[v2][k-1]? else _ else if k<2+64 then A[k-2]? else _)=_
 by_cases h:k<2
 ·have:k=0∨k=1:=by omega
  rcases this with rfl|rfl<;>simp[Array.getElem?_append]
 ·by_cases h3:k<66
  ·simp[h,h3,Array.getElem?_append]
  ·have e1:=Array.getElem?_eq_none_iff.2 (show A.size≤k-2 by omega)
   have e2:=Array.getElem?_eq_none_iff.2 (show Z.size≤k-2 by omega)
   simp[h,h3,Array.getElem?_append,e1,e2,show ¬k<1 by omega]
theorem run_build_sieve (a:Option Addr)(n c:Nat)(hb:Nat)(all:Bits):∀w,(Instr.build 212 #[(0,.slice a n c),(1,.pointer (some ⟨hb,0,none⟩)),(2,.agg (setC all))]).run Tryz.prog w=.ok (.agg (sieveC (.slice a n c) hb all)) w:=fun w=>run_build w _ _ _ (by
 rw[built_sieve]
 exact fill_sieve _ _ _ _ rfl rfl _ _ (setC_size _) (setC_size _))
theorem run_field_yes (ys ns:Bits):∀w,(Instr.field 214 (.agg (twoC ys ns)) 0).run Tryz.prog w=.ok (.agg (setC ys)) w:=fun w=>by
 have hx:(twoC ys ns).extract 0 64=setC ys:=by
  apply Array.ext_getElem?
  intro k
  rw[Array.getElem?_extract]
  by_cases h:k<64
  ·simp[twoC,setC_size,Array.getElem?_append,h]
  ·simp[h,twoC_size,Array.getElem?_eq_none_iff.2 (show(setC ys).size≤k by rw[setC_size];omega)]
 have hi:=(zero_of_info Tryz.infoSet).2
 cases hq:Tryz.prog.info? 107 with
 |none=>simp[hq] at hi
 |some i=>
  have hs:i.size=64:=by simpa[hq] using hi
  simp[Instr.field,run_underlying Tryz.underlying214,asAgg,part,isAgg,run_underlying Tryz.underlying107,sizeOf,typeInfo,hq,hs,hx]
def bitsOf (x:Nat):List Nat:=(List.range 64).filter fun b=>x.testBit b
theorem bitsOf_zero:bitsOf 0=[]:=by simp[bitsOf]
theorem range_split {n k:Nat}(h:k<n):List.range n=List.range k++k::List.range' (k+1) (n-k-1):=by
 rw[List.range_eq_range',List.range_eq_range',show n=k+(1+(n-k-1)) by omega,←List.range'_append_1,←List.range'_append_1]
 simp
theorem filter_step {n k:Nat}(h:k<n){p q:Nat→Bool}(h1:∀b,b<k→p b=false)(h2:p k=true)(h3:∀b,b≤k→q b=false)(h4:∀b,k<b→q b=p b):
  (List.range n).filter p=k::(List.range n).filter q:=by
 rw[range_split h,List.filter_append,List.filter_append,List.filter_cons_of_pos h2,List.filter_cons_of_neg (by rw[h3 k (Nat.le_refl _)];simp)]
 have e1:(List.range k).filter p=[]:=by
  rw[List.filter_eq_nil_iff];intro b hb;rw[h1 b (List.mem_range.1 hb)];simp
 have e2:(List.range k).filter q=[]:=by
  rw[List.filter_eq_nil_iff];intro b hb;rw[h3 b (Nat.le_of_lt (List.mem_range.1 hb))];simp
 rw[e1,e2,List.nil_append,List.nil_append]
 congr 1
 apply List.filter_congr
 intro b hb
 rw[List.mem_range'_1] at hb
 exact(h4 b (by omega)).symm
theorem low_step (x:Nat)(hx0:x≠0)(hx:x<18446744073709551616):
  Lib.ctz 64 x<64∧bitsOf x=Lib.ctz 64 x::bitsOf (x &&& (x-1))∧x &&& (x-1)<x:=by
 obtain⟨m,hm,hk⟩:=Lib.ctzFrom_spec 64 x (by omega) hx
 have hc:Lib.ctz 64 x=Lib.ctzFrom 64 x:=by unfold Lib.ctz;rw[if_neg hx0]
 rw[hc]
 generalize Lib.ctzFrom 64 x=k at hm hk
 subst hm
 have hp:0<2 ^ k:=Nat.two_pow_pos k
 have e1:∀b,(2 ^ k*(2*m+1)).testBit b=(decide (k≤b) && (2*m+1).testBit (b-k)):=fun b=>by rw[Nat.mul_comm,Nat.testBit_mul_two_pow]
 have e2:2 ^ k*(2*m+1)-1=2 ^ k*(2*m)+(2 ^ k-1):=by
  rw[Nat.mul_add,Nat.mul_one];omega
 have e3:∀b,(2 ^ k*(2*m)+(2 ^ k-1)).testBit b=if b<k then (2 ^ k-1).testBit b else (2*m).testBit (b-k):=fun b=>Nat.testBit_two_pow_mul_add _ (by omega) b
 have hodd:∀b,(2*m+1).testBit (b+1)=m.testBit b:=fun b=>by
  rw[Nat.testBit_succ];congr 1;omega
 have hev:∀b,(2*m).testBit (b+1)=m.testBit b:=fun b=>by
  rw[Nat.testBit_succ];congr 1;omega
 have hq:∀b,((2 ^ k*(2*m+1)) &&& (2 ^ k*(2*m+1)-1)).testBit b=(decide (k<b) && (2*m+1).testBit (b-k)):=by
  intro b
  rw[Nat.testBit_and,e1,e2,e3]
  by_cases h1:b<k
  ·simp[h1,show ¬k≤b by omega,show ¬k<b by omega]
  ·by_cases h2:b=k
   ·subst h2;simp
   ·obtain⟨c,rfl⟩:∃c,b=k+(c+1):=⟨b-k-1,by omega⟩
    have h3:k+(c+1)-k=c+1:=by omega
    rw[if_neg h1,h3,hodd,hev]
    simp
 refine⟨hk,?_,?_⟩
 ·unfold bitsOf
  refine filter_step hk ?_ ?_ ?_ ?_
  ·intro b hb;rw[e1];simp[show ¬k≤b by omega]
  ·rw[e1];simp
  ·intro b hb;rw[hq];simp[show ¬k<b by omega]
  ·intro b hb;rw[hq,e1];simp[hb,show k≤b by omega]
 ·have h1:2 ^ k*(2*m+1) &&& (2 ^ k*(2*m+1)-1)≤2 ^ k*(2*m+1)-1:=Nat.and_le_right
  have h2:0<2 ^ k*(2*m+1):=Nat.mul_pos hp (by omega)
  omega
def numsTo (ws:Bits)(k:Nat):List Nat:=(List.range (64*k)).filter (memB ws)
theorem memB_word (ws:Bits){k b:Nat}(h:b<64):memB ws (64*k+b)=(ws k).toNat.testBit b:=by
 unfold memB
 rw[show(64*k+b) / 64=k by omega,show(64*k+b) % 64=b by omega]
 rfl
theorem numsTo_step (ws:Bits)(k:Nat):numsTo ws (k+1)=numsTo ws k++(bitsOf (ws k).toNat).map (64*k+ ·):=by
 unfold numsTo bitsOf
 rw[show 64*(k+1)=64*k+64 by omega,List.range_add,List.filter_append,List.filter_map]
 congr 2
 apply List.filter_congr
 intro b hb
 exact memB_word ws (List.mem_range.1 hb)
def nums (ws:Bits):List Nat:=(List.range 4096).filter (memB ws)
theorem nums_all (ws:Bits):numsTo ws 64=nums ws:=rfl
theorem mem_nums {ws:Bits}{j:Nat}:j∈nums ws↔j<4096∧memB ws j=true:=by
 unfold nums;rw[List.mem_filter,List.mem_range]
theorem numsTo_len (ws:Bits)(k:Nat):(numsTo ws k).length≤64*k:=by
 unfold numsTo
 have:=List.length_filter_le (memB ws) (List.range (64*k))
 simpa using this
def Tab64 (w:World):Prop:=∀j,j<64→w.cell? ⟨0,j,none⟩=some (.int .u8 (Lib.deBruijn64tab.getD j 0:Nat))
theorem Tab64.below {B:Nat}{w w':World}(h:Tab64 w)(hb:Below B w w')(hB:0<B):Tab64 w':=fun j hj=>(hb.cell (p:=⟨0,j,none⟩) hB).trans (h j hj)
theorem wrap_u64_mod (n:Int):IntKind.u64.wrap n=n % 18446744073709551616:=by simp[IntKind.wrap,IntKind.signed,IntKind.bits]
set_option maxHeartbeats 1000000 in
theorem tz_core (x k idx:Nat)(w:World)(hx0:((x:Int)==0)=false)
  (key:IntKind.u64.wrap (bits BinOp.and IntKind.u64 (x:Int) (IntKind.u64.wrap (-(x:Int)))*285870213051353865) / 288230376151711744=(idx:Int))
  (hi:idx<64) (hk:k<64) (hcell:w.cell? ⟨0,idx,none⟩=some (.int .u8 k)):
  Calls Tryz.prog 107 #[.int .u64 x] w fun e w'=>e=.returned (.int .i64 k)∧w'=w:=by
 go_enter Tryz.func107,Tryz.ntmps107
 go_wp2_with (simp only[key])
 go_ret
 exact⟨rfl,rfl⟩
theorem tz_any (x:Nat)(hx0:x≠0)(hx:x<18446744073709551616)(w:World)(hT:Tab64 w):
  Calls Tryz.prog 107 #[.int .u64 x] w fun e w'=>e=.returned (.int .i64 (Lib.ctz 64 x:Nat))∧w'=w:=by
 obtain⟨hlow,hk⟩:=Lib.lowest_bit 64 x hx0 hx
 obtain⟨hi,htab⟩:=Lib.deBruijn64_at _ hk
 have hcell:=hT _ hi
 rw[htab] at hcell
 refine tz_core x _ _ w (by simp;omega) ?_ hi hk hcell
 have e1:IntKind.u64.wrap (-(x:Int))=((18446744073709551616-x:Nat):Int):=by rw[wrap_u64_mod];omega
 rw[e1,bits_and_u64_nat x _ hx (by omega)]
 have hlow':x &&& (18446744073709551616-x)=2 ^ Lib.ctz 64 x:=hlow
 rw[hlow',wrap_u64_mod]
 generalize 2 ^ Lib.ctz 64 x=p
 omega
def natC (l:List Nat):List Value:=intC (l.map Int.ofNat)
theorem natC_snoc (l:List Nat)(x:Nat):natC (l++[x])=natC l++[.int .i64 (x:Int)]:=by simp[natC,intC]
set_option maxHeartbeats 4000000 in
theorem nums_any (ws:Bits)(w:World)(hT:Tab64 w)(hG:0<w.heap.size):
  Calls Tryz.prog 64 #[.agg (setC ws)] w fun e w'=>∃v,e=.returned v∧w'.ownsRow w.heap.size 3 1 v (nums ws).length (natC (nums ws))∧Below w.heap.size w w':=by
 obtain⟨i0,hi,hz0,hz1,hz2⟩:=info_parts Tryz.infoIntT
 obtain⟨C,hC⟩:∃C,C=setC ws:=⟨_,rfl⟩
 rw[←hC]
 have HCC:Hid _:=hC
 have HCI:Hid _:=setC_info ws
 rw[←hC] at HCI
 have HT:Hid (Tab64 w):=hT
 clear hC hT
 go_enter Tryz.func64,Tryz.ntmps64
 go_wp2_with (refine wpList_load_row rfl 107 _ rfl w.heap.size rfl 107 C (0,0) _ ?g1 Tryz.underlying107 rfl HCI.out ?_)
 case g1=>exact heap_alloc_new w _
 go_loopw [3,7] (fun v i wr=>∃k:Nat,k≤64∧i=.int .i64 k∧Below w.heap.size w wr∧Hid (wr.ownsRow w.heap.size 3 1 v (numsTo ws k).length (natC (numsTo ws k)))) (fun _ i _=>64-(intOf i).toNat)
 case atStart=>exact⟨0,by omega,rfl,(Below.refl _ _).alloc (Nat.le_refl _) _,World.ownsRow_nil _ _ _ _⟩
 case round=>
  obtain⟨k,hk,rfl,hB,HO⟩:=hrel
  by_cases hk2:k<64
  ·have hi0:(0:Int)≤(k:Int):=by omega
   have hi1:(k:Int)<64:=by omega
   obtain⟨x,HX⟩:∃x:Nat,Hid (x=(ws k).toNat):=⟨_,rfl⟩
   have hix:=run_index_set (V:=C) (x:=(x:Int)) hk2 (by rw[HCC.out,HX.out];exact setC_get ws hk2)
   have HXL:Hid (x<18446744073709551616):=by show _<_;rw[HX.out];exact(ws k).isLt
   have HSTEP:Hid (numsTo ws (k+1)=numsTo ws k++(bitsOf x).map (64*k+ ·)):=by show _=_;rw[HX.out];exact numsTo_step ws k
   obtain⟨vb,vc,hvs⟩:=row_slice HO.out
   subst hvs
   have HB:Hid _:=hB
   clear hB
   go_wp2_with fail
   go_loopw [3,5] (fun v y wy=>∃(y':Nat) (l:List Nat),y=.int .u64 y'∧y'<18446744073709551616∧Hid (l++(bitsOf y').map (64*k+ ·)=numsTo ws (k+1))∧Below w.heap.size w wy∧Hid (wy.ownsRow w.heap.size 3 1 v l.length (natC l))) (fun _ y _=>(intOf y).toNat)
   case atStart=>exact⟨x,numsTo ws k,rfl,HXL.out,HSTEP.out.symm,HB.out,HO⟩
   case round=>
    obtain⟨y,l,rfl,hyl,HL,hB,HO⟩:=hrel
    have hsz:=hB.size
    by_cases hy0:y=0
    ·subst hy0
     have HEQ:Hid (l=numsTo ws (k+1)):=by
      have:=HL.out
      rw[bitsOf_zero,List.map_nil,List.append_nil] at this
      exact this
     go_wp2_with fail
     go_roundw
     case rel=>exact⟨k+1,by omega,by go_num,hB,by rw[←HEQ.out];exact HO⟩
     case measure=>simp[intOf];omega
    ·obtain⟨hc1,hc2,hc3⟩:=low_step y hy0 hyl
     have hyy:((y:Int)==0)=false:=by simp;omega
     obtain⟨z,HZ⟩:∃z,Hid (z=y &&& (y-1)):=⟨_,rfl⟩
     have hband:bits BinOp.and IntKind.u64 (y:Int) ((y:Int)-1)=(z:Int):=by
      rw[show((y:Int)-1)=((y-1:Nat):Int) by omega,bits_and_u64_nat y _ hyl (by omega),HZ.out]
     obtain⟨c,HC⟩:∃c,Hid (c=Lib.ctz 64 y):=⟨_,rfl⟩
     have HTZ:Hid (∀W,Below w.heap.size w W→Calls Tryz.prog 107 #[.int .u64 y] W fun e w'=>e=.returned (.int .i64 c)∧w'=W):=by
      intro W hW
      rw[HC.out]
      exact tz_any y hy0 hyl W (HT.out.below hW hG)
     rw[←HC.out] at hc1 hc2
     rw[←HZ.out] at hc2 hc3
     have HBIT:Hid (bitsOf y=c::bitsOf z):=hc2
     have hlen:l.length≤4096:=by
      have h1:=congrArg List.length HL.out
      rw[List.length_append] at h1
      have h2:=numsTo_len ws (k+1)
      omega
     obtain⟨vb,vc,hvs⟩:=row_slice HO.out
     subst hvs
     have HB:Hid _:=hB
     clear hc2 hy0 hB
     go_wp2_with (first|(go_at_call 107;refine(HTZ.out _ HB.out).mono ?_;rintro r w2 ⟨rfl,rfl⟩)|(at_builtin;refine wpList_append_own _ rfl (.tmp 17) (.tmp 23) 33 rfl w.heap.size 3 i0 _ 1 8 Tryz.underlying33 hi hz0 hz1 hz2 rfl (by decide) _ _ _ rfl (HO.out.alloc _) ⟨w2.heap.size,0,none⟩ 1 1 [.int .i64 ((k:Int)*64+(c:Int))] rfl rfl ?c1 ?c2 ?c3 ?c4 ?c5 ?_))
     case c1=>exact cells_new_at _ [.int .i64 ((k:Int)*64+(c:Int))] _ _ (by simp)
     case c2=>intro u hu;simp only[List.mem_cons,List.not_mem_nil,or_false] at hu;rw[hu];rfl
     case c3=>unfold maxLen;omega
     case c4=>omega
     case c5=>have:=HB.out.size;simp;omega
     intro v3 w3 hown3 hgrow3 _
     obtain⟨g3,cap3,rfl⟩:=own_slice hown3
     have HB3:Hid (Below w.heap.size w w3):=(HB.out.alloc HB.out.size _).grown hgrow3 (by have:=HB.out.size;simp;omega) (fun j ej=>own_ge HO.out ej)
     have HO3:Hid (w3.ownsRow w.heap.size 3 1 (.slice (some ⟨g3,0,none⟩) (l.length+1) cap3) (l++[64*k+c]).length (natC (l++[64*k+c]))):=by
      show World.ownsRow _ _ _ _ _ _ _
      rw[natC_snoc,List.length_append,show((64*k+c:Nat):Int)=(k:Int)*64+c by omega]
      exact hown3
     clear hown3 hgrow3
     go_wp2_with fail
     go_roundw
     case rel=>exact⟨z,l++[64*k+c],rfl,by omega,by show _=_;rw[←HL.out,HBIT.out];simp,HB3.out,HO3⟩
     case measure=>simp[intOf];omega
  ·obtain rfl:k=64:=by omega
   obtain⟨vb,vc,hvs⟩:=row_slice HO.out
   subst hvs
   rw[nums_all] at HO
   go_wp2_with fail
   go_ret
   exact⟨_,rfl,HO.out,hB⟩
section
variable {P:Program}{md:Region.Mode}{ops:Array Oper}{Q:Exit→Act→World→Prop}{S:World→Prop}{f:Nat}
def anyM (P:Program)(md:Region.Mode)(ops:Array Oper)(Q:Exit→Act→World→Prop)(S:World→Prop)(f:Nat):Nat→Array Bool→Act→World→Prop
 |0,l,a,w=>Region.ready md ops l=[]∧Q .normal a w
 |n+1,l,a,w=>(Region.ready md ops l=[]→Q .normal a w)∧∀i∈Region.ready md ops l,wpOp P ops Q i (fun a' w'=>(i≠f→S w')∧anyM P md ops Q S f n (l.setIfInBounds i true) a' w') a w
theorem anyM_any:∀(n:Nat) (l:Array Bool) (a:Act) (w:World),anyM P md ops Q S f n l a w→wpAny P md ops Q n l a w
 |0,_,_,_,h=>h
 |n+1,_,_,_,h=>⟨h.1,fun i hi=>wpOp_mono (fun a' w' h'=>anyM_any n _ a' w' h'.2) (h.2 i hi)⟩
theorem ready_ne {l:Array Bool}{i:Nat}(h:i∈Region.ready md ops l):Region.ready md ops l≠[]:=fun e=>by rw[e] at h;cases h
def waitsB (md:Region.Mode)(ops:Array Oper)(f i:Nat):Bool:=match ops[f]? with|none=>false|some o=>o.after.any fun e=>Region.binds md e && e.on==i
theorem anyM_first {i:Nat}{oi:Oper}{v:Value}(hi:ops[i]? =some oi)(hsel:∀(j:Nat) (o:Oper) cs b,ops[j]? =some o→o.op≠ .select cs b)(hw:waitsB md ops f i=true)
  (hQ:∀c a w,Q (.panic c) (a.put oi.dst v) w→Q (.panic c) a w):∀(n:Nat) (l:Array Bool) (a:Act) (w:World),
    (∀j oj,ops[j]? =some oj→j≠i→l.getD j true=false→(∀e∈oj.after,Region.binds md e=true→e.on≠i)→oi.apart ops oj=true)→
    i∈Region.ready md ops l→YieldsIf P ops S oi v a→S w→anyM P md ops Q S f n (l.setIfInBounds i true) (a.put oi.dst v) w→anyM P md ops Q S f (n+1) l a w:=by
 intro n
 induction n with
 |zero=>
  intro l a w _ hr hy hS H
  refine⟨fun h=>absurd h (ready_ne hr),fun j hj=>?_⟩
  by_cases hji:j=i
  ·subst hji;exact hy.wpOp hi hS ⟨fun _=>hS,H⟩
  ·have:=ready_mono hj hji
   rw[H.1] at this;cases this
 |succ n ih=>
  intro l a w hfree hr hy hS H
  refine⟨fun h=>absurd h (ready_ne hr),fun j hj=>?_⟩
  by_cases hji:j=i
  ·subst hji;exact hy.wpOp hi hS ⟨fun _=>hS,H⟩
  ·have h1:=H.2 j (ready_mono hj hji)
   obtain⟨hjun,oj,hoj,hall⟩:=mem_ready.1 hj
   have hnot:∀e∈oj.after,Region.binds md e=true→e.on≠i:=fun e he hb heq=>by
    have q1:=hall e he hb
    have q0:=(mem_ready.1 hr).1
    rw[heq] at q1
    rcases Nat.lt_or_ge i l.size with h'|h'
    ·simp[h'] at q0 q1;rw[q0] at q1;cases q1
    ·simp[Array.getElem?_eq_none h'] at q1
   have hjf:j≠f:=by
    rintro rfl
    unfold waitsB at hw
    rw[hoj] at hw
    simp only[Array.any_eq_true'] at hw
    obtain⟨e,he,h2⟩:=hw
    rw[Bool.and_eq_true,beq_iff_eq] at h2
    exact hnot e he h2.1 h2.2
   have hri:=ready_mono hr (Ne.symm hji)
   have h2:=wpOp_putIf hoj (hfree j oj hoj hji hjun hnot) (fun cs b=>hsel i oi cs b hi) (fun cs b=>hsel j oj cs b hoj) hQ hy h1
   refine wpOp_mono (fun a' w' h3=>?_) h2
   obtain⟨hy',hS',h4⟩:=h3
   refine⟨fun _=>hS' hjf,ih _ a' w' (fun k ok hk hki hun hno=>hfree k ok hk hki ?_ hno) hri hy' (hS' hjf) ?_⟩
   ·by_cases hjk:j=k
    ·subst hjk;exact hjun
    ·rw[getD_set_ne true hjk] at hun;exact hun
   ·rw[Array.setIfInBounds_comm _ _ hji];exact h4
theorem anyM_take {i:Nat}{oi:Oper}{v:Value}{t:Tmp}{n:Nat}{l:Array Bool}{a:Act}{w:World}(hi:ops[i]? =some oi)(hs:Region.noSelect ops=true)(hf:Region.free md ops l i=true)(hr:(Region.ready md ops l).contains i=true)(hw:waitsB md ops f i=true)
  (hQ:∀c a w,Q (.panic c) (a.put oi.dst v) w→Q (.panic c) a w) (hwt:oi.guard=none) (hdst:oi.dst=some t) (hS:S w) (hy:∀w,S w→(execOp a.eval oi).run P w=.ok (.value v) w)
  (h:anyM P md ops Q S f n (l.setIfInBounds i true) {a with tmps:=a.tmps.setIfInBounds t v} w):anyM P md ops Q S f (n+1) l a w:=by
 have h:anyM P md ops Q S f n (l.setIfInBounds i true) (a.put oi.dst v) w:=by rw[hdst];exact h
 exact anyM_first hi (Region.noSelect_spec hs) hw hQ n l a w (Region.free_spec hi hf) (by simpa using hr) (.inl ⟨by simp[Region.wanted,hwt],hy⟩) hS h
theorem anyM_t {i:Nat}{oi:Oper}{v:Value}{t:Tmp}{n:Nat}{l:Array Bool}{a:Act}{w:World}(hi:ops[i]? =some oi)(hc:(Region.noSelect ops && Region.free md ops l i && (Region.ready md ops l).contains i && waitsB md ops f i)=true)
  (hQ:∀c a w,Q (.panic c) (a.put oi.dst v) w→Q (.panic c) a w) (hwt:oi.guard=none) (hdst:oi.dst=some t) (hS:S w) (hy:∀w,S w→(execOp a.eval oi).run P w=.ok (.value v) w)
  (h:anyM P md ops Q S f n (l.setIfInBounds i true) {a with tmps:=a.tmps.setIfInBounds t v} w):anyM P md ops Q S f (n+1) l a w:=by
 simp only[Bool.and_eq_true] at hc
 exact anyM_take hi hc.1.1.1 hc.1.1.2 hc.1.2 hc.2 hQ hwt hdst hS hy h
theorem takes {α:Type}:(∀(l:List α) i a,l.toArray.setIfInBounds i a=(l.set i a).toArray)∧(∀(a b:α) l,(a::l).set 0 b=b::l)∧∀(a:α) l i b,(a::l).set (i+1) b=a::l.set i b:=⟨fun _ _ _=>by simp,fun _ _ _=>rfl,fun _ _ _ _=>rfl⟩
theorem anyM_one {i:Nat}{o:Oper}{n:Nat}{l:Array Bool}{a:Act}{w:World}(hr:Region.ready md ops l=[i])(ho:ops[i]? =some o)(hg:o.guard=none)
  (h:∀K':Act→World→Prop,Shut (∀a w,(i≠f→S w)→anyM P md ops Q S f n (l.setIfInBounds i true) a w→K' a w)→Oper.wp P o a w K' Q):anyM P md ops Q S f (n+1) l a w:=by
 refine⟨fun h0=>absurd (hr ▸ h0) (by simp),fun j hj=>?_⟩
 rw[hr] at hj
 obtain rfl:=List.mem_singleton.1 hj
 refine wpOp_step ho (fun K' hK=>?_)
 rw[if_pos (by simp[Region.wanted,hg])]
 exact h K' (fun a w hS hW=>hK a w ⟨hS,hW⟩)
theorem anyM_two {i j:Nat}{o o':Oper}{n:Nat}{l:Array Bool}{a:Act}{w:World}(hr:Region.ready md ops l=[i,j])(ho:ops[i]? =some o)(hg:o.guard=none)(ho':ops[j]? =some o')(hg':o'.guard=none)
  (h:∀K':Act→World→Prop,Shut (∀a w,(i≠f→S w)→anyM P md ops Q S f n (l.setIfInBounds i true) a w→K' a w)→Oper.wp P o a w K' Q)
  (h':∀K':Act→World→Prop,Shut (∀a w,(j≠f→S w)→anyM P md ops Q S f n (l.setIfInBounds j true) a w→K' a w)→Oper.wp P o' a w K' Q):anyM P md ops Q S f (n+1) l a w:=by
 refine⟨fun h0=>absurd (hr ▸ h0) (by simp),fun q hq=>?_⟩
 rw[hr] at hq
 rcases List.mem_cons.1 hq with rfl|hq
 ·refine wpOp_step ho (fun K' hK=>?_)
  rw[if_pos (by simp[Region.wanted,hg])]
  exact h K' (fun a w hS hW=>hK a w ⟨hS,hW⟩)
 ·obtain rfl:=List.mem_singleton.1 hq
  refine wpOp_step ho' (fun K' hK=>?_)
  rw[if_pos (by simp[Region.wanted,hg'])]
  exact h' K' (fun a w hS hW=>hK a w ⟨hS,hW⟩)
theorem anyM_done {n:Nat}{l:Array Bool}{a:Act}{w:World}(hr:Region.ready md ops l=[])(h:Q .normal a w):anyM P md ops Q S f n l a w:=by
 cases n with
 |zero=>exact⟨hr,h⟩
 |succ n=>exact⟨fun _=>h,by rw[hr];simp⟩
theorem wp_region_M {id:Nat}{a:Act}{w:World}(f:Nat)(S:World→Prop)(hm:P.follows .mixedOrders=true)(h:anyM P .any ops Q S f ops.size (Array.replicate ops.size false) a w.drew):(Code.region id ops true).wp P Q a w:=
 wp_region_any hm (anyM_any _ _ _ _ h)
theorem run_load_off {ev:Operand→Value}{o:Oper}{w:World}(ty:TypeId)(x:Operand)(ho:o.op=.load ty x)(g off:Nat)(hx:ev x=.pointer (some ⟨g,off,none⟩))(t:TypeId)(cs R:Array Value)(fr:Nat×Nat)(d:TypeDesc)(hg:w.heap[g]? =some (.cells cs t fr))(hR:∀j v,R[j]? =some v→cs[off+j]? =some v)
  (hu:P.underlying ty=some d) (hd:(match d with | .struct _ | .array _ _=>true|_=>false)=true) (hi:(P.info? ty).map (·.size)=some R.size):(execOp ev o).run P w=.ok (.value (.agg R)) w:=by
 unfold execOp
 simp only[ho,hx,Instr.loadAt,Instr.sureAddr,Sem.run_bind,Sem.run_pure,Result.andThen_ok,run_loadVar_off w g off t ty cs R fr d hg hR hu hd hi]
theorem run_load_all {ev:Operand→Value}{o:Oper}{w:World}(ty:TypeId)(x:Operand)(ho:o.op=.load ty x)(g:Nat)(hx:ev x=.pointer (some ⟨g,0,none⟩))(t:TypeId)(cs:Array Value)(fr:Nat×Nat)(d:TypeDesc)(hg:w.heap[g]? =some (.cells cs t fr))
  (hu:P.underlying ty=some d) (hd:(match d with | .struct _ | .array _ _=>true|_=>false)=true) (hi:(P.info? ty).map (·.size)=some cs.size):(execOp ev o).run P w=.ok (.value (.agg cs)) w:=
 run_load_off ty x ho g 0 hx t cs cs fr d hg (fun j v h=>by rw[Nat.zero_add];exact h) hu hd hi
theorem run_build_op {ev:Operand→Value}{o:Oper}{w:World}(t:TypeId)(parts:Array (Nat×Operand))(ho:o.op=.build t parts)(v:Value)(vs:Array (Nat×Value))(hp:(parts.map fun(i,x)=>(i,ev x))=vs)(hr:(Instr.build t vs).run P w=.ok v w):(execOp ev o).run P w=.ok (.value v) w:=by
 unfold execOp
 simp only[ho,hp,Sem.run_bind,Sem.run_pure,Result.andThen_ok,hr]
theorem wpList_val {rest:List Oper}{o:Oper}{a:Act}{w:World}(hgd:o.guard=none)(v:Value)(hr:(execOp a.eval o).run P w=.ok (.value v) w)(h:wpList P ops Q rest (a.put o.dst v) w):wpList P ops Q (o::rest) a w:=by
 refine wpList_plain hgd fun _ hK=>?_
 unfold Oper.wp
 rw[hr]
 exact hK _ _ h
theorem wpList_box_is {rest:List Oper}{o:Oper}{a:Act}{w:World}(hgd:o.guard=none)(t:TypeId)(x:Operand)(ho:o.op=.box t x)(cells:Array Value)(hx:a.eval x=.agg cells)
  (h:wpList P ops Q rest (a.put o.dst (.pointer (some ⟨w.heap.size,0,none⟩))) (w.alloc (.cells cells t))):wpList P ops Q (o::rest) a w:=by
 refine wpList_plain hgd fun _ hK=>?_
 unfold Oper.wp execOp
 simp only[ho,hx,Sem.run_bind,Instr.box,newVar,newRow,run_newObj_alloc,Sem.run_pure,Result.andThen_ok]
 exact hK _ _ h
theorem wpList_build_is {rest:List Oper}{o:Oper}{a:Act}{w:World}(hgd:o.guard=none)(t:TypeId)(parts:Array (Nat×Operand))(ho:o.op=.build t parts)(v:Value)(vs:Array (Nat×Value))(hp:(parts.map fun(i,x)=>(i,a.eval x))=vs)(hr:(Instr.build t vs).run P w=.ok v w)
  (h:wpList P ops Q rest (a.put o.dst v) w):wpList P ops Q (o::rest) a w:=by
 refine wpList_plain hgd fun _ hK=>?_
 unfold Oper.wp
 rw[run_build_op t parts ho v vs hp hr]
 exact hK _ _ h
theorem wp_store_off {o:Oper}{a:Act}{w:World}{K:Act→World→Prop}(ty:TypeId)(x y:Operand)(ho:o.op=.store ty x y)
  (g off:Nat) (hx:a.eval x=.pointer (some ⟨g,off,none⟩)) (R:Array Value) (hy:a.eval y=.agg R) (t:TypeId) (cur:Array Value) (hg:w.heap[g]? =some (.cells cur t (0,0)))
  (hi:(P.info? ty).map (·.size)=some R.size) (hl:off+R.size≤cur.size) (h1:R.all (·.oneCell')=true) (hgd:o.guard=none) (hdst:o.dst=none)
  (h:K a (w.setRow g (lay cur off R))):Oper.wp P o a w K Q:=by
 have h:K (a.put o.dst undef) (w.setRow g (lay cur off R)):=by rw[hdst];exact h
 have:=step_store_off (P:=P) (ops:=#[]) (E:=True) (Q:=Q) (K:=K) hgd ty x y ho g off hx R hy t cur hg hi hl h1 h
 rw[if_pos (by simp[Region.wanted,hgd])] at this
 exact this
end
namespace Doc
def litV (t:Tok):Val:=⟨litK t,t.N,t.S⟩
def eqV (a b:Val):Bool:=a.k==b.k && a.n==b.n && a.s.data.toList==b.s.data.toList
theorem eqV_iff {a b:Val}:eqV a b=true↔a=b:=by
 obtain⟨a1,a2,a3⟩:=a
 obtain⟨b1,b2,b3⟩:=b
 simp only[eqV,Bool.and_eq_true,beq_iff_eq,Val.mk.injEq]
 constructor
 ·rintro⟨⟨h1,h2⟩,h3⟩;exact⟨h1,h2,ba_ext h3⟩
 ·rintro⟨rfl,rfl,rfl⟩;exact⟨⟨rfl,rfl⟩,rfl⟩
def nullV:Val:=⟨0,0,⟨#[]⟩⟩
def meetV (x:Val)(o:Tok)(lits:List Tok):Bool:=
 bif o.S.toList==[61] || o.S.toList==[105,110] then lits.any (fun t=>eqV (litV t) x)
 else bif o.S.toList==[108,105,107,101] then hasP x.s (tk lits 0).S
 else standsB (cmpV x (litV (tk lits 0))) o.S.toList
def sayV (x:Val)(o:Tok)(lits:List Tok):Bool×Bool:=
 bif o.S.toList==[105,115] then (x.k==0,!(x.k==0)) else (!(x.k==0) && meetV x o lits,!(x.k==0) && !meetV x o lits)
def eval (fs:List Fld)(vals:List Val):Ast→Bool×Bool
 | .test n o lits=>match idxF fs n.S with
   |none=>(false,false)
   |some k=>match vals[k]? with
    |none=>(false,false)
    |some x=>sayV x o lits
 | .not a=>((eval fs vals a).2,(eval fs vals a).1)
 | .and a b=>((eval fs vals a).1 && (eval fs vals b).1,(eval fs vals a).2 || (eval fs vals b).2)
 | .or a b=>((eval fs vals a).1 || (eval fs vals b).1,(eval fs vals a).2 && (eval fs vals b).2)
end Doc
def saysY (fs:List Doc.Fld)(th:Has)(a:Doc.Ast)(j:Nat):Bool:=match th (j:Int) with|none=>false|some t=>(Doc.eval fs t.2 a).1
def saysN (fs:List Doc.Fld)(th:Has)(a:Doc.Ast)(j:Nat):Bool:=match th (j:Int) with|none=>false|some t=>(Doc.eval fs t.2 a).2
def Says (fs:List Doc.Fld)(th:Has)(a:Doc.Ast)(ys ns:Bits):Prop:=∀j,j<4096→memB ys j=saysY fs th a j∧memB ns j=saysN fs th a j
section
variable {fs:List Doc.Fld}{th:Has}{a b:Doc.Ast}{y1 n1 y2 n2:Bits}
theorem Says.not (h:Says fs th a y1 n1):Says fs th (.not a) n1 y1:=by
 intro j hj
 obtain⟨h1,h2⟩:=h j hj
 rw[h1,h2];unfold saysY saysN
 cases th (j:Int)<;>exact⟨rfl,rfl⟩
theorem Says.and (h:Says fs th a y1 n1)(k:Says fs th b y2 n2):Says fs th (.and a b) (andB y1 y2) (orB n1 n2):=by
 intro j hj
 obtain⟨h1,h2⟩:=h j hj
 obtain⟨k1,k2⟩:=k j hj
 rw[memB_and,memB_or,h1,h2,k1,k2];unfold saysY saysN
 cases th (j:Int)<;>exact⟨rfl,rfl⟩
theorem Says.or (h:Says fs th a y1 n1)(k:Says fs th b y2 n2):Says fs th (.or a b) (orB y1 y2) (andB n1 n2):=by
 intro j hj
 obtain⟨h1,h2⟩:=h j hj
 obtain⟨k1,k2⟩:=k j hj
 rw[memB_and,memB_or,h1,h2,k1,k2];unfold saysY saysN
 cases th (j:Int)<;>exact⟨rfl,rfl⟩
def Fits (fs:List Doc.Fld)(th:Has):Prop:=∀id t,th id=some t→t.2.length=fs.length∧∀j (h1:j<t.2.length) (h2:j<fs.length),Doc.goodV t.2[j] fs[j].kind=true
theorem good_null {v:Doc.Val}{kind:Int}(h:Doc.goodV v kind=true):(v.k==0)=true↔v=Doc.nullV:=by
 constructor
 ·intro h0
  unfold Doc.goodV at h
  simp only[Bool.or_eq_true,Bool.and_eq_true,beq_iff_eq,decide_eq_true_eq] at h h0
  rcases h with(⟨h1,h2,h3⟩|⟨h1,_⟩)|⟨h1,_⟩
  ·obtain⟨k,n,s⟩:=v
   simp only at h1 h2 h3
   subst h1 h2
   rw[ByteArray.toList_eq] at h3
   have:s=⟨#[]⟩:=ba_ext h3
   subst this;rfl
  ·omega
  ·omega
 ·rintro rfl;rfl
theorem says_test (hfit:Fits fs th){n o:Doc.Tok}{lits:List Doc.Tok}{k:Nat}(hk:Doc.idxF fs n.S=some k){nulls all yes:Bits}
  (h0:∀j,j<4096→(memB nulls j=true↔Hof th j k Doc.nullV)) (h1:∀j,j<4096→(memB all j=true↔∃t,th (j:Int)=some t)):
  ((o.S.toList==[105,115])=true→Says fs th (.test n o lits) nulls (minusB all nulls))∧
  ((o.S.toList==[105,115])=false→(∀j,j<4096→(memB yes j=true↔∃x,Hof th j k x∧(x.k==0)=false∧Doc.meetV x o lits=true))→Says fs th (.test n o lits) yes (minusB (minusB all nulls) yes)):=by
 have hkl:k<fs.length:=idxF_lt hk
 have key:∀j:Nat,j<4096→(th (j:Int)=none∧memB nulls j=false∧memB all j=false)∨∃t x,th (j:Int)=some t∧t.2[k]? =some x∧memB nulls j=(x.k==0)∧memB all j=true:=by
  intro j hj
  cases ht:th (j:Int) with
  |none=>
   refine .inl ⟨rfl,?_,?_⟩
   ·rw[Bool.eq_false_iff,Ne,h0 j hj]
    rintro⟨t,h,_⟩;rw[ht] at h;cases h
   ·rw[Bool.eq_false_iff,Ne,h1 j hj]
    rintro⟨t,h⟩;rw[ht] at h;cases h
  |some t=>
   obtain⟨hl,hg⟩:=hfit _ t ht
   have hkt:k<t.2.length:=by omega
   refine .inr ⟨t,t.2[k],rfl,List.getElem?_eq_getElem hkt,?_,(h1 j hj).2 ⟨t,ht⟩⟩
   rw[Bool.eq_iff_iff,h0 j hj,good_null (hg k hkt hkl)]
   constructor
   ·rintro⟨t',h,h'⟩
    rw[ht] at h;cases h
    rw[List.getElem?_eq_getElem hkt] at h'
    exact Option.some.inj h'
   ·intro e
    exact⟨t,ht,by rw[List.getElem?_eq_getElem hkt,e]⟩
 constructor
 ·intro ho j hj
  rw[memB_minus]
  unfold saysY saysN
  rcases key j hj with⟨e1,e2,e3⟩|⟨t,x,e1,e2,e3,e4⟩
  ·rw[e1,e2,e3];exact⟨rfl,rfl⟩
  ·rw[e1,e3,e4]
   simp only[Doc.eval,hk,e2,Doc.sayV,ho,cond_true]
   exact⟨trivial,by simp⟩
 ·intro ho hy j hj
  rw[memB_minus,memB_minus]
  have hy:=hy j hj
  unfold saysY saysN
  rcases key j hj with⟨e1,e2,e3⟩|⟨t,x,e1,e2,e3,e4⟩
  ·rw[e1,e2,e3]
   refine⟨?_,rfl⟩
   rw[Bool.eq_false_iff,Ne,hy]
   rintro⟨x,⟨t,h,_⟩,_⟩;rw[e1] at h;cases h
  ·have hyx:memB yes j=(!(x.k==0) && Doc.meetV x o lits):=by
    rw[Bool.eq_iff_iff,hy,Bool.and_eq_true,Bool.not_eq_true']
    constructor
    ·rintro⟨x',⟨t',h,h'⟩,h2⟩
     rw[e1] at h;cases h
     rw[e2] at h';cases h'
     exact h2
    ·intro h;exact⟨x,⟨t,e1,e2⟩,h⟩
   rw[e1,e3,e4,hyx]
   simp only[Doc.eval,hk,e2,Doc.sayV,ho,cond_false]
   refine⟨trivial,?_⟩
   cases (x.k==0)<;>cases Doc.meetV x o lits<;>rfl
end
end Go.Proofs.YtbnelaoeblhndaaGreatDoor
