import Derived.Test.YtbnelaoeblhndaaGreatDoorSynRel2
import Derived.Test.YtbnelaoeblhndaaGreatDoorThN5
namespace Go.Proofs.YtbnelaoeblhndaaGreatDoor
open Go.RowKit
set_option maxRecDepth 100000
theorem ba_list_ext {a b:ByteArray}(h:a.toList=b.toList):a=b:=by
 rw[ByteArray.toList_eq,ByteArray.toList_eq] at h
 exact ByteArray.ext (Array.ext' h)
theorem name_ptok (s:ByteArray):(pName (ptok s 0) && ((ptok s 0).text.toList==s.toList))=Doc.nameB s:=by
 have hpn:=ptok_name (s:=s) (p:=0) (Nat.zero_le _)
 by_cases hn:Doc.nameB s=true
 ·have hn':=hn
  simp only[Doc.nameB,Bool.and_eq_true,decide_eq_true_eq,beq_iff_eq] at hn'
  obtain⟨⟨⟨h1,h2⟩,h3⟩,_⟩:=hn'
  obtain⟨c,r,hcr⟩:=Doc.rest_at s 0 (by omega)
  have hcl:(decide ((97:UInt8)≤c) && decide (c≤122))=true:=by
   by_cases hx:(decide ((97:UInt8)≤c) && decide (c≤122))=true
   ·exact hx
   ·exfalso
    rw[hcr] at h3
    unfold Doc.run at h3
    rw[List.takeWhile_cons_of_neg (by simpa using hx)] at h3
    simp at h3;omega
  have hlet:Doc.isLetter c=true:=hcl
  have h32:Doc.run 32 32 (Doc.rest s 0)=0:=by
   rw[hcr];unfold Doc.run
   rw[List.takeWhile_cons_of_neg]
   ·rfl
   ·simp only[Bool.and_eq_true,decide_eq_true_eq] at hcl ⊢
    rintro⟨_,h⟩
    exact absurd (UInt8.le_trans hcl.1 h) (by decide)
  have hpast:Doc.past s 0=0:=by unfold Doc.past;rw[h32]
  have hlex:Doc.lex (Doc.rest s 0)=(119,s.size):=by
   rw[hcr]
   unfold Doc.lex
   simp only
   rw[if_pos hlet,←hcr,h3,if_pos h2]
  have htok:=ptok_tok (s:=s) (p:=0) (by rw[hpast];omega) (by rw[hpast,hlex];show(119:UInt8)≠120;decide)
  rw[hpast,hlex] at htok
  obtain⟨e1,e2⟩:=htok
  have hex:s.extract 0 (0+s.size)=s:=by
   apply ba_list_ext
   rw[ext_list,ByteArray.toList_eq]
   show(s.data.toList.drop 0).take s.size=s.data.toList
   rw[List.drop_zero,List.take_of_length_le (by rw[Array.length_toList];exact Nat.le_refl _)]
  have htx:(ptok s 0).text=s:=by rw[e1];exact hex
  obtain⟨t1,_,t3,_,_⟩:=tok_of (s:=s) (a:=0) hlex
  rw[hpn,e2,t1,(t3 (.inl rfl)).1,hex,htx,hn]
  simp
 ·have hn:Doc.nameB s=false:=by simpa using hn
  rw[hn]
  by_cases ht:((ptok s 0).text.toList==s.toList)=true
  ·have htx:(ptok s 0).text=s:=ba_list_ext (by simpa using ht)
   rw[hpn]
   rcases ptok_cases (s:=s) (p:=0) (Nat.zero_le _) with⟨_,_,h3⟩|⟨_,_,h3⟩|⟨a,k,n,ha,hx,hk,hnn,hle,h1,h2⟩
   ·rw[h3];rfl
   ·rw[h3];rfl
   ·obtain⟨t1,_,t3,_,_⟩:=tok_of hx
    rw[h2,t1]
    by_cases hw:k=119
    ·have:(Doc.tok s a).S=s:=by
      have h4:(ptok s 0).text=s.extract a (a+n):=by rw[h1]
      rw[(t3 (.inl hw)).1,←h4,htx]
     rw[this,hn];simp
    ·rw[beq_eq_false_iff_ne.2 hw];rfl
  ·rw[show((ptok s 0).text.toList==s.toList)=false by simpa using ht,Bool.and_false]
set_option maxHeartbeats 2000000 in
theorem isNameP_any (s:ByteArray)(w:World)(hs:s.size≤140737488351232)(hsg:Signs w)(h0:1<w.heap.size):
  Calls Tryz.prog 104 #[.string s] w fun e w'=>e=.returned (.bool (Doc.nameB s))∧Below w.heap.size w w':=by
 have HN:Hid _:=name_ptok s
 go_enter Tryz.func104,Tryz.ntmps104
 go_wp2_with fail
 refine(tokenFrom_any s 0 _ hs (Nat.zero_le _) hsg h0).mono ?_
 rintro r w1 ⟨t,HT,rfl,hb1⟩
 rw[←HT.out] at HN
 go_wp2_with fail
 refine(isName_any t _).mono ?_
 obtain⟨g,HG⟩:∃g,Hid (g=pName t):=⟨pName t,rfl⟩
 rw[←HG.out] at HN ⊢
 rintro r w2 ⟨rfl,hb2⟩
 have q:=(hb2.block w1.heap.size (by simp)).trans (heap_alloc_new w1 _)
 obtain⟨a0,a1,a2⟩:=th_cells q
 have hbf:Below w.heap.size w w2:=(hb1.alloc hb1.size _).trans (hb2.mono (by have:=hb1.size;simp;omega))
 cases g
 all_goals
  go_wp2_with fail
  go_ret
  refine⟨ret_bool ?_,hbf⟩
  rw[←HN.out]
  simp
section
variable {w:World}
set_option maxHeartbeats 2000000 in
theorem cnew_arg (fs:List Doc.Fld)(fv:Value)(hs:Sl w fv fs.length (fldsC fs))(space:Int)(hbad:Doc.newArg fs space):
  Calls Tryz.prog 61 #[fv,.int .i64 space] w fun e w'=>e=.returned (.int .i64 1)∧w'=w:=by
 obtain⟨b,c,rfl⟩:=hs.slice
 clear hs
 obtain⟨g1,HG1⟩:∃g,Hid (g=(decide (1≤(fs.length:Int)) && decide ((fs.length:Int)≤4))):=⟨_,rfl⟩
 obtain⟨g2,HG2⟩:∃g,Hid (g=(decide (1≤space) && decide (space≤4))):=⟨_,rfl⟩
 have hb2:g1=false∨(g1=true∧g2=false):=by
  have e1:=HG1.out
  have e2:=HG2.out
  rcases hbad with k1|⟨k1,k2⟩|⟨k1,k2,k3⟩|⟨k1,k2,k3,k4⟩
  ·left;rw[e1];simp;omega
  ·left;rw[e1];simp;omega
  ·right;exact⟨by rw[e1];simp;omega,by rw[e2];simp;omega⟩
  ·right;exact⟨by rw[e1];simp;omega,by rw[e2];simp;omega⟩
 clear hbad
 rcases hb2 with rfl|⟨rfl,rfl⟩
 ·go_enter Tryz.func61,Tryz.ntmps61
  go_wp2_with fail
  refine(pwithin_any (fs.length:Int) 1 4).mono ?_
  rw[←HG1.out]
  rintro e w1 ⟨rfl,hw⟩
  subst hw
  go_wp2_with fail
  go_ret
  exact⟨rfl,rfl⟩
 ·go_enter Tryz.func61,Tryz.ntmps61
  go_wp2_with fail
  refine(pwithin_any (fs.length:Int) 1 4).mono ?_
  rw[←HG1.out]
  rintro e w1 ⟨rfl,hw⟩
  subst hw
  go_wp2_with fail
  refine(pwithin_any space 1 4).mono ?_
  rw[←HG2.out]
  rintro e w2 ⟨rfl,hw⟩
  subst hw
  go_wp2_with fail
  go_ret
  exact⟨rfl,rfl⟩
theorem Sl.take {b off cap:Nat}{fs:List Doc.Fld}(hr:∀j u,(fldsC fs)[j]? =some u→w.cell? ⟨b,off+j,none⟩=some u)(hlt:b<w.heap.size)(hc:fs.length≤cap)(k:Nat)(hk:k≤fs.length):Sl w (.slice (some ⟨b,off,none⟩) k cap) k (fldsC (fs.take k)):=by
 by_cases h0:k=0
 ·subst h0;exact⟨.inl ⟨rfl,_,_,rfl⟩⟩
 ·refine⟨.inr ⟨by omega,b,off,cap,rfl,by omega,hlt,fun j u hj=>hr j u ?_⟩⟩
  have e:fldsC fs=fldsC (fs.take k)++fldsC (fs.drop k):=by
   unfold fldsC;rw[←List.flatMap_append,List.take_append_drop]
  rw[e]
  obtain⟨h1,_⟩:=List.getElem?_eq_some_iff.1 hj
  rw[List.getElem?_append_left h1];exact hj
end
theorem nameAt_eq (fs:List Doc.Fld)(j:Nat)(h:j<fs.length):Doc.nameAt fs j fs[j].name=(Doc.nameB fs[j].name && !Doc.hasB (fs.take j) fs[j].name):=by
 have key:decide (Doc.placeI (Doc.idxF fs fs[j].name)<j)=Doc.hasB (fs.take j) fs[j].name:=by
  cases hi:Doc.idxF fs fs[j].name with
  |none=>
   exfalso
   have:=List.findIdx?_eq_none_iff.1 hi fs[j] (List.getElem_mem h)
   simp at this
  |some i0=>
   obtain⟨hl,hp,hb⟩:=List.findIdx?_eq_some_iff_getElem.1 hi
   by_cases hlt:i0<j
   ·have e:Doc.hasB (fs.take j) fs[j].name=true:=by
     unfold Doc.hasB
     rw[List.any_eq_true]
     exact⟨fs[i0],List.mem_iff_getElem.2 ⟨i0,by rw[List.length_take];omega,by rw[List.getElem_take]⟩,hp⟩
    rw[e]
    simp[Doc.placeI];omega
   ·have e:Doc.hasB (fs.take j) fs[j].name=false:=by
     unfold Doc.hasB
     rw[List.any_eq_false]
     intro f hf
     obtain⟨i,hi',rfl⟩:=List.getElem_of_mem hf
     rw[List.length_take] at hi'
     rw[List.getElem_take]
     exact hb i (by omega)
    rw[e]
    simp[Doc.placeI];omega
 unfold Doc.nameAt
 rw[key]
section
variable {w:World}
set_option maxHeartbeats 4000000 in
theorem cnew_any (hsg:Signs w)(hg0:1<w.heap.size)(fs:List Doc.Fld)(fv:Value)(hs:Sl w fv fs.length (fldsC fs))(space:Int)(k1:1≤fs.length)(k2:fs.length≤4)(k3:1≤space)(k4:space≤4)(hnm:∀j (h:j<fs.length),fs[j].name.size≤140737488351232):
  Calls Tryz.prog 61 #[fv,.int .i64 space] w fun e w'=>Below w.heap.size w w'∧
   ((e=.returned (.int .i64 1)∧∃j,∃(h:j<fs.length),Doc.kindB fs[j].kind=false)∨
    ((∀j (h:j<fs.length),Doc.kindB fs[j].kind=true)∧e=.returned (.int .i64 2)∧∃j,∃(h:j<fs.length),(Doc.nameB fs[j].name && !Doc.hasB (fs.take j) fs[j].name)=false)∨
    ((∀j (h:j<fs.length),Doc.kindB fs[j].kind=true)∧(∀j (h:j<fs.length),(Doc.nameB fs[j].name && !Doc.hasB (fs.take j) fs[j].name)=true)∧e=.returned (.int .i64 0))):=by
 have HG1:Hid ((decide (1≤(fs.length:Int)) && decide ((fs.length:Int)≤4))=true):=(show _=_ by simp;omega)
 have HG2:Hid ((decide (1≤space) && decide (space≤4))=true):=(show _=_ by simp;omega)
 rcases hs.has with⟨h0,_⟩|⟨_,b,off,cap,rfl,hc,hlt,hr⟩
 ·omega
 have HR:Hid _:=hr
 have HSG:Hid _:=hsg
 clear hs hr hsg
 go_enter Tryz.func61,Tryz.ntmps61
 go_wp2_with fail
 refine(pwithin_any (fs.length:Int) 1 4).mono ?_
 rw[HG1.out]
 rintro e w1 ⟨rfl,hw⟩
 subst hw
 go_wp2_with fail
 refine(pwithin_any space 1 4).mono ?_
 rw[HG2.out]
 rintro e w2 ⟨rfl,hw⟩
 subst hw
 go_wp2_with fail
 go_loopw [20] (fun iv wr=>∃k:Nat,k≤fs.length∧iv=.int .i64 k∧Below w2.heap.size w2 wr∧Hid (∀j (_:j<k) (h1:j<fs.length),Doc.kindB fs[j].kind=true)) (fun iv _=>fs.length-(intOf iv).toNat)
 case atStart=>exact⟨0,Nat.zero_le _,rfl,Below.refl _ _,fun j hj=>by omega⟩
 case round=>
  obtain⟨k,hk,rfl,hb,HB⟩:=hrel
  have hsz:=hb.size
  have hbl:b<wr.heap.size:=by omega
  by_cases hk2:k<fs.length
  ·have r0:=(hb.cell (p:=⟨b,off+k*2,none⟩) hlt).trans (HR.out (k*2) (.string fs[k].name) (by unfold fldsC;rw[show k*2=k*2+0 from rfl,flat_at fldC 2 fldC_len fs k hk2 0 (by omega)];rfl))
   have r1:=(hb.cell (p:=⟨b,off+(k*2+1),none⟩) hlt).trans (HR.out (k*2+1) (.int .i64 fs[k].kind) (by unfold fldsC;rw[flat_at fldC 2 fldC_len fs k hk2 1 (by omega)];rfl))
   rw[←Nat.add_assoc] at r1
   obtain⟨x,HX⟩:∃x,Hid (x=fs[k]):=⟨fs[k],rfl⟩
   rw[←HX.out] at r0 r1
   obtain⟨nm,kd⟩:=x
   simp only at r0 r1
   by_cases hkd:kd=1∨kd=2
   ·have HKD:Hid (Doc.kindB kd=true):=(show Doc.kindB kd=true by rcases hkd with rfl|rfl<;>rfl)
    rcases hkd with rfl|rfl
    all_goals
     go_wp2_with fail
     go_roundw
     case rel=>
      refine⟨k+1,by omega,by go_num,hb.alloc hsz _,fun j hj h1=>?_⟩
      by_cases h:j=k
      ·subst h;rw[←HX.out];exact HKD.out
      ·exact HB.out j (by omega) h1
     case measure=>simp[intOf];omega
   ·have hkd1:¬kd=1:=fun h=>hkd (.inl h)
    have hkd2:¬kd=2:=fun h=>hkd (.inr h)
    have HKD:Hid (Doc.kindB kd=false):=(show Doc.kindB kd=false by simp[Doc.kindB,hkd1,hkd2])
    clear hkd
    go_wp2_with fail
    all_goals first
     | (go_ret;refine⟨hb.alloc hsz _,.inl ⟨rfl,k,hk2,?_⟩⟩;rw[←HX.out];exact HKD.out)
     | (exfalso;simp_all;done)
  ·obtain rfl:k=fs.length:=by omega
   have hall:∀j (h:j<fs.length),Doc.kindB fs[j].kind=true:=fun j h=>HB.out j h h
   have HALL:Hid _:=hall
   clear hall
   go_wp2_with fail
   go_loopw [35] (fun iv wx=>∃k:Nat,k≤fs.length∧iv=.int .i64 k∧Below w2.heap.size w2 wx∧Hid (∀j (_:j<k) (h1:j<fs.length),(Doc.nameB fs[j].name && !Doc.hasB (fs.take j) fs[j].name)=true)) (fun iv _=>fs.length-(intOf iv).toNat)
   case atStart=>exact⟨0,Nat.zero_le _,rfl,hb,fun j hj=>by omega⟩
   case round=>
    obtain⟨k,hk',rfl,hb2,HB2⟩:=hrel
    have hsz2:=hb2.size
    have hbl2:b<wr.heap.size:=by omega
    by_cases hk2':k<fs.length
    ·have r0:=(hb2.cell (p:=⟨b,off+k*2,none⟩) hlt).trans (HR.out (k*2) (.string fs[k].name) (by unfold fldsC;rw[show k*2=k*2+0 from rfl,flat_at fldC 2 fldC_len fs k hk2' 0 (by omega)];rfl))
     have r1:=(hb2.cell (p:=⟨b,off+(k*2+1),none⟩) hlt).trans (HR.out (k*2+1) (.int .i64 fs[k].kind) (by unfold fldsC;rw[flat_at fldC 2 fldC_len fs k hk2' 1 (by omega)];rfl))
     rw[←Nat.add_assoc] at r1
     have hxs:=hnm k hk2'
     obtain⟨x,HX⟩:∃x,Hid (x=fs[k]):=⟨fs[k],rfl⟩
     rw[←HX.out] at r0 r1 hxs
     obtain⟨nb,HNB⟩:∃nb,Hid (nb=Doc.nameB x.name):=⟨Doc.nameB x.name,rfl⟩
     obtain⟨hn,HHN⟩:∃hn,Hid (hn=Doc.hasB (fs.take k) x.name):=⟨Doc.hasB (fs.take k) x.name,rfl⟩
     have hba:Below w2.heap.size w2 (wr.alloc (.cells #[.string x.name,.int .i64 x.kind] 92)).drew:=(hb2.alloc hsz2 _).drew
     have HSA:Hid (Signs (wr.alloc (.cells #[.string x.name,.int .i64 x.kind] 92)).drew):=HSG.out.below hba hg0
     have hga:1<(wr.alloc (.cells #[.string x.name,.int .i64 x.kind] 92)).drew.heap.size:=Nat.lt_of_lt_of_le hg0 hba.size
     have hkl:(fs.take k).length=k:=by rw[List.length_take];omega
     have HSL:Hid (∀w',Below w2.heap.size w2 w'→Sl w' (.slice (some ⟨b,off,none⟩) k cap) (fs.take k).length (fldsC (fs.take k))):=fun w' hb'=>by rw[hkl];exact Sl.take (fun j u hj=>(hb'.cell (p:=⟨b,off+j,none⟩) hlt).trans (HR.out j u hj)) (Nat.lt_of_lt_of_le hlt hb'.size) hc k hk'
     cases nb with
     |false=>
      go_wp2_with fail
      go_cut [51] (fun v wx=>v=.bool true∧Below w2.heap.size w2 wx)
      case first=>
       first|go_region_with (go_at_call 104;go_must (go_fit (isNameP_any x.name _ hxs HSA.out hga));rw[←HNB.out];rintro r w3 ⟨rfl,hb3⟩)|fail "stands"
       all_goals (go_wp2_with fail)
       all_goals go_meet
       all_goals exact⟨rfl,hba.trans (hb3.mono hba.size)⟩
      case rest=>
       obtain⟨rfl,hbx⟩:=hcut
       go_wp2_with fail
       go_ret
       refine⟨hbx,.inr (.inl ⟨HALL.out,rfl,k,hk2',?_⟩)⟩
       rw[←HX.out,←HNB.out];rfl
     |true=>
      cases hn with
      |false=>
       go_wp2_with fail
       go_region_with (first|(go_at_call 104;go_must (go_fit (isNameP_any x.name _ hxs HSA.out hga));rw[←HNB.out];rintro r w3 ⟨rfl,hb3⟩;have q3:=(hb3.block wr.heap.size (by show wr.heap.size<(wr.heap.push _).size;simp)).trans (heap_alloc_new wr _);have t0:=blk_cell q3 0 _ rfl;have hbc:=hba.trans (hb3.mono hba.size))|(go_at_call 105;go_must (go_fit (hasName_any (w:=w3) (fs.take k) (by omega) _ (HSL.out _ hbc) x.name));rw[←HHN.out];rintro r w4 ⟨rfl,hb4⟩))
       all_goals
        go_wp2_with fail
        go_roundw
        case rel=>
         refine⟨k+1,by omega,by go_num,hbc.trans (hb4.mono hbc.size),fun j hj h1=>?_⟩
         by_cases h:j=k
         ·subst h;rw[←HX.out,←HNB.out,←HHN.out];rfl
         ·exact HB2.out j (by omega) h1
        case measure=>simp[intOf];omega
      |true=>
       go_wp2_with fail
       go_region_with (first|(go_at_call 104;go_must (go_fit (isNameP_any x.name _ hxs HSA.out hga));rw[←HNB.out];rintro r w3 ⟨rfl,hb3⟩;have q3:=(hb3.block wr.heap.size (by show wr.heap.size<(wr.heap.push _).size;simp)).trans (heap_alloc_new wr _);have t0:=blk_cell q3 0 _ rfl;have hbc:=hba.trans (hb3.mono hba.size))|(go_at_call 105;go_must (go_fit (hasName_any (w:=w3) (fs.take k) (by omega) _ (HSL.out _ hbc) x.name));rw[←HHN.out];rintro r w4 ⟨rfl,hb4⟩))
       all_goals
        go_wp2_with fail
        go_ret
        refine⟨hbc.trans (hb4.mono hbc.size),.inr (.inl ⟨HALL.out,rfl,k,hk2',?_⟩)⟩
        rw[←HX.out,←HNB.out,←HHN.out];rfl
    ·obtain rfl:k=fs.length:=by omega
     go_wp2_with fail
     go_ret
     exact⟨hb2,.inr (.inr ⟨HALL.out,fun j h=>HB2.out j h h,rfl⟩)⟩
end
end Go.Proofs.YtbnelaoeblhndaaGreatDoor
