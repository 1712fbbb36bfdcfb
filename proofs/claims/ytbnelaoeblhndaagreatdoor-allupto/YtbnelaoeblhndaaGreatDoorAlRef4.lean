import Derived.Test.YtbnelaoeblhndaaGreatDoorAlRef3
import Derived.Test.YtbnelaoeblhndaaGreatDoorAlFits2
namespace Go.Proofs.YtbnelaoeblhndaaGreatDoor
open Go.RowKit
set_option maxRecDepth 100000
theorem RSt.start {B:Nat}{w:World}{v:Value}{L:List Doc.Tok}(h:w.ownsRow B 175 4 v L.length (toksC L))(hB:B≤w.heap.size):
  RSt B (w.alloc (.cells #[v,.int .i64 0,.int .i64 0,.slice none 0 0,.int .i64 0,.int .i64 0] 136)) w.heap.size v L 0 0 (.slice none 0 0) [] 0 0:=
 ⟨heap_alloc_new w _,h.alloc _,World.ownsRow_nil _ _ _ _,hB⟩
def PPost (w:World)(L:List Doc.Tok)(res:Doc.Res Doc.Ast)(e:Ending)(w':World):Prop:=
 match res with
 | .ok a j=>∃(fb k:Nat) (Lv Nv:Value) (nodes:List NodeR),e=.returned (.tuple #[.pointer (some ⟨fb,0,none⟩),.int .i64 0,.int .i64 0])∧RSt w.heap.size w' fb Lv L k 0 Nv nodes 0 0∧RepM w.heap.size w' [] nodes k a∧nodes.length≤300∧j≤L.length∧Below w.heap.size w w'
 | .err er p=>e=.returned (.tuple #[.pointer none,.int .i64 er,.int .i64 p])∧0<er∧Below w.heap.size w w'
set_option maxHeartbeats 1000000 in
theorem parse_long (s:ByteArray)(w:World)(hs:200<s.size):
  Calls Tryz.prog 52 #[.string s] w fun e w'=>e=.returned (.tuple #[.pointer none,.int .i64 5,.int .i64 0])∧w'=w:=by
 go_enter Tryz.func52,Tryz.ntmps52
 go_wp2_with fail
 go_ret3
 exact⟨rfl,rfl⟩
theorem parse_err_of {L:List Doc.Tok}{er p:Nat}(h:Doc.pFilter L 6 0=.err er p):Doc.parse L=.err er p:=by simp[Doc.parse,h]
theorem parse_ok_of {L:List Doc.Tok}{a:Doc.Ast}{j:Nat}(h:Doc.pFilter L 6 0=.ok a j)(k:((Doc.tk L j).kind==101)=true):Doc.parse L=.ok a j:=by
 simp only[Doc.parse,h,k,if_true]
theorem parse_bad_of {L:List Doc.Tok}{a:Doc.Ast}{j:Nat}(h:Doc.pFilter L 6 0=.ok a j)(k:((Doc.tk L j).kind==101)=false):Doc.parse L=.err 6 (Doc.tk L j).at_:=by
 simp[Doc.parse,h,k]
set_option maxHeartbeats 4000000 in
theorem parse_any (s:ByteArray)(w:World)(hs:s.size≤200):
  Calls Tryz.prog 52 #[.string s] w (PPost w (Doc.toks s 0) (Doc.parse (Doc.toks s 0))):=by
 obtain⟨L,HL⟩:∃L,Hid (L=Doc.toks s 0):=⟨_,rfl⟩
 have hL:L.length≤300:=by rw[HL.out];have:=Doc.toks_len0 s;omega
 have hE:Hid (Doc.Ended L):=by rw[HL.out];exact Doc.toks_ended0 s
 have hS:Hid (∀k,(Doc.tk L k).S.size≤200):=by rw[HL.out];exact Doc.tk_size s hs
 have hpos:0<L.length:=by rw[HL.out];exact Doc.toks_pos s
 rw[←HL.out]
 go_enter Tryz.func52,Tryz.ntmps52
 go_wp2_with fail
 refine(tokens_any s _ hs).mono ?_
 rw[←HL.out]
 rintro e w1 ⟨v,rfl,hown,hb1⟩
 have h1:=RSt.start hown hb1.size
 obtain hv|⟨g,cap,hv⟩:=own_shape hown
 ·exfalso
  have:=hown.2
  rcases this with⟨_,h0⟩|⟨g,cap,cur,rfl,_⟩
  ·omega
  ·cases hv
 subst hv
 have hs1:Step w.heap.size w (w1.alloc (.cells #[.slice (some ⟨g,0,none⟩) L.length cap,.int .i64 0,.int .i64 0,.slice none 0 0,.int .i64 0,.int .i64 0] 136)):=(Step.ofBelow hb1 (Nat.le_refl _)).alloc hb1.size _
 clear hown hb1
 go_wp2_with fail
 refine(filter_all hL hE.out hS.out h1 (by simp) hpos).mono ?_
 intro e w2 hpost
 clear h1
 cases hres:Doc.pFilter L 6 0 with
 |err er p=>
  have HN:Hid (Doc.parse L=.err er p):=parse_err_of hres
  rw[hres] at hpost
  clear hres
  obtain⟨k,j,Nv2,nodes2,rfl,h6,hpre2,hlen2,hs6,her,hij2,hj2⟩:=hpost
  have hs7:=hs1.trans hs6
  clear hs1 hs6
  obtain⟨t,HT⟩:∃t,Hid (t=Doc.tk L j):=⟨_,rfl⟩
  go_wp2_with fail
  refine(now_st h6 hj2 hL t ((Doc.tk_eq hj2).trans HT.out.symm)).mono ?_
  rintro e w3 ⟨rfl,hb3⟩
  have h7:=h6.below hb3
  have hs8:=hs7.trans (Step.ofBelow hb3 h6.Ble)
  have hz:((er:Int) != 0)=true:=by rw[bne_iff_ne];omega
  have hz2:((er:Int)==0)=false:=by rw[beq_eq_false_iff_ne];omega
  have c4:=h7.c4
  have c5:=h7.c5
  have hlt:=h7.lt
  by_cases kt:(t.kind==101)=true
  ·have kn:((t.kind.toNat:Int) != 101)=false:=kind_ne t.kind 101 (by omega) _ kt
   go_wp2_with fail
   go_region
   all_goals (try go_wp2_with fail)
   all_goals go_ret3
   all_goals (rw[HN.out];exact⟨rfl,her,(hs8.alloc h7.Ble _).below.drew⟩)
  ·have kt:(t.kind==101)=false:=by simpa using kt
   have kn:((t.kind.toNat:Int) != 101)=true:=kind_ne t.kind 101 (by omega) _ kt
   go_wp2_with fail
   refine(wrong_old (h7.alloc _) her 6).mono ?_
   rintro e w4 ⟨rfl,rfl⟩
   go_wp2_with fail
   go_region
   all_goals (try go_wp2_with fail)
   all_goals go_ret3
   all_goals (rw[HN.out];exact⟨rfl,her,(hs8.alloc h7.Ble _).below.drew⟩)
 |ok a j=>
  rw[hres] at hpost
  have HR:Hid (Doc.pFilter L 6 0=.ok a j):=hres
  clear hres
  obtain⟨k,Nv2,nodes2,rfl,h6,hpre2,hlen2,hrep,hs6,hij2,hj2⟩:=hpost
  have hs7:=hs1.trans hs6
  clear hs1 hs6
  obtain⟨t,HT⟩:∃t,Hid (t=Doc.tk L j):=⟨_,rfl⟩
  go_wp2_with fail
  refine(now_st h6 hj2 hL t ((Doc.tk_eq hj2).trans HT.out.symm)).mono ?_
  rintro e w3 ⟨rfl,hb3⟩
  have h7:=h6.below hb3
  have hs8:=hs7.trans (Step.ofBelow hb3 h6.Ble)
  have hrep7:=hrep.mono (Step.ofBelow hb3 h6.Ble)
  clear h6 hs7 hb3 hrep
  by_cases kt:(t.kind==101)=true
  ·have kn:((t.kind.toNat:Int) != 101)=false:=kind_ne t.kind 101 (by omega) _ kt
   have HN:Hid (Doc.parse L=.ok a j):=parse_ok_of HR.out (by rw[←HT.out];exact kt)
   clear kt
   have c4:=h7.c4z
   have c1:=h7.c1
   have f1:=h7.fr 1
   have hlt:=h7.lt
   go_wp2_with fail
   go_ret3
   rw[HN.out]
   obtain⟨h8,hs9⟩:=RSt.stored h7 (i:=1) (u:=.int .i64 (k:Int)) (at2:=k) (op2:=0) (E2:=0) (p2:=0) rfl
   exact⟨_,k,_,Nv2,nodes2,rfl,h8.alloc _,(hrep7.mono hs9.step).mono ((Step.refl _ _).alloc h8.Ble _),by simp at hlen2;omega,by omega,((hs8.trans hs9.step).alloc h8.Ble _).below⟩
  ·have kt:(t.kind==101)=false:=by simpa using kt
   have kn:((t.kind.toNat:Int) != 101)=true:=kind_ne t.kind 101 (by omega) _ kt
   have HN:Hid (Doc.parse L=.err 6 t.at_):=by have:=parse_bad_of HR.out (by rw[←HT.out];exact kt);rw[←HT.out] at this;exact this
   clear kt
   go_wp2_with fail
   refine(wrong_new (h7.alloc _) hj2 hL t ((Doc.tk_eq hj2).trans HT.out.symm) 6).mono ?_
   rintro e w4 ⟨rfl,h8,hs9⟩
   have c4:w4.cell? ⟨_,4,none⟩=some (.int .i64 6):=h8.c4
   have c5:=h8.c5
   go_wp2_with fail
   go_region
   all_goals (try go_wp2_with fail)
   all_goals go_ret3
   all_goals (rw[HN.out];exact⟨rfl,by omega,((hs8.alloc h7.Ble _).trans hs9.step).below.drew⟩)
theorem made_nodes {B:Nat}{w:World}{nodes:List NodeR}{ts:List (Doc.Tok×Doc.Tok×List Doc.Tok)}(h:Made B w nodes ts):(∀x∈ts,x.2.2.length≤300)→∃T,NodesAre B w nodes T∧T.filterMap id=ts:=by
 induction h with
 |nil=>intro _;exact⟨[],⟨rfl,fun k n hn=>by simp at hn⟩,rfl⟩
 | @test new ts n lits _ h1 h2 ih=>
   intro hl
   obtain⟨T,⟨t1,t2⟩,t3⟩:=ih (fun x hx=>hl x (List.mem_append_left _ hx))
   refine⟨T++[some (n.name,n.ask,lits)],⟨by simp[t1],fun k m hm=>?_⟩,by rw[List.filterMap_append,t3];rfl⟩
   by_cases hk:k<new.length
   ·rw[List.getElem?_append_left hk] at hm
    rw[List.getElem?_append_left (by omega)]
    exact t2 k m hm
   ·have hk2:k=new.length:=by
     have:=(List.getElem?_eq_some_iff.1 hm).1
     simp at this
     omega
    subst hk2
    rw[List.getElem?_concat_length] at hm
    cases hm
    refine .inl ⟨h1,lits,?_,h2,hl (n.name,n.ask,lits) (by simp)⟩
    rw[←t1,List.getElem?_concat_length]
 | @other new ts n _ h1 h2 ih=>
   intro hl
   obtain⟨T,⟨t1,t2⟩,t3⟩:=ih hl
   refine⟨T++[none],⟨by simp[t1],fun k m hm=>?_⟩,by rw[List.filterMap_append,t3];simp⟩
   by_cases hk:k<new.length
   ·rw[List.getElem?_append_left hk] at hm
    rw[List.getElem?_append_left (by omega)]
    exact t2 k m hm
   ·have hk2:k=new.length:=by
     have:=(List.getElem?_eq_some_iff.1 hm).1
     simp at this
     omega
    subst hk2
    rw[List.getElem?_concat_length] at hm
    cases hm
    refine .inr ⟨h1,h2,?_⟩
    rw[←t1,List.getElem?_concat_length]
theorem tests_len:∀{a:Doc.Ast},Doc.Every Doc.TestOk a→∀x∈Doc.testsOf a,x.2.2.length≤300
 | .test n o l,h,x,hx=>by
   obtain rfl:x=(n,o,l):=by simpa[Doc.testsOf] using hx
   exact h.len
 | .not a,h,x,hx=>tests_len (a:=a) h x hx
 | .and a b,h,x,hx=>by
   rcases List.mem_append.1 hx with hx|hx
   ·exact tests_len h.1 x hx
   ·exact tests_len h.2 x hx
 | .or a b,h,x,hx=>by
   rcases List.mem_append.1 hx with hx|hx
   ·exact tests_len h.1 x hx
   ·exact tests_len h.2 x hx
def ParsedC (s:ByteArray)(a:Doc.Ast)(e1 e2:Int)(fa:Option Addr)(fn fc:Nat)(W:World):Prop:=
 Calls Tryz.prog 52 #[.string s] W fun e w'=>∃(fb k:Nat) (Lv Nv:Value) (L:List Doc.Tok) (nodes:List NodeR),e=.returned (.tuple #[.pointer (some ⟨fb,0,none⟩),.int .i64 0,.int .i64 0])∧RSt W.heap.size w' fb Lv L k 0 Nv nodes 0 0∧Rep W.heap.size w' nodes k a∧nodes.length≤300∧Below W.heap.size W w'∧
  ∀W2:World,Below w'.heap.size w' W2→Calls Tryz.prog 139 #[.pointer (some ⟨fb,0,none⟩),.slice fa fn fc] W2 fun e w'=>e=.returned (.tuple #[.int .i64 e1,.int .i64 e2])∧Below W2.heap.size W2 w'
theorem parsed_ok {s:ByteArray}(hs:s.size≤200){a:Doc.Ast}{j:Nat}(hp:Doc.parse (Doc.toks s 0)=.ok a j){fs:List Doc.Fld}(hK:Doc.KindsOk fs)(hfl:fs.length≤4){fa:Option Addr}{fc:Nat}{w:World}(hf:Sl w (.slice fa fs.length fc) fs.length (fldsC fs)){e1 e2:Int}(hc:Doc.check fs a=(e1,e2)):
  ParsedC s a e1 e2 fa fs.length fc w:=by
 have h:=parse_any s w hs
 rw[hp] at h
 refine h.mono ?_
 rintro e w1 ⟨fb,k,Lv,Nv,nodes,rfl,hst,⟨hrep,new,hnew,hmade⟩,hn,hj,hb⟩
 refine⟨fb,k,Lv,Nv,_,nodes,rfl,hst,hrep,hn,hb,fun W2 hW2=>?_⟩
 rw[List.nil_append] at hnew
 subst hnew
 have hev:=Doc.parse_ok (Doc.ok_toks s hs) hp
 obtain⟨T,hT,hTe⟩:=made_nodes (hmade.mono (Step.ofBelow hW2 hst.Ble)) (tests_len hev)
 refine(fits_walk (hst.below hW2) hn hT hfl ((hf.below hb).below hW2)).mono ?_
 rintro e w2 ⟨x1,x2,rfl,hx,hb2⟩
 have h2:=Doc.fits_check hK hs (Doc.parse_ix hp) hj hTe
 rw[←hx.out,hc] at h2
 cases h2
 exact⟨rfl,hb2⟩
theorem parses_ok {s:ByteArray}{a:Doc.Ast}{fa:Option Addr}{fn fc:Nat}{w:World}(h:ParsedC s a 0 0 fa fn fc w):ParsesC s a fa fn fc w:=h
section
variable {w:World}{F:Nat→Prop}{sb:Nat}{fs:List Doc.Fld}{space:Int}{ts:List Doc.Thg}{fv tv:Value}{ps:List (Value×Value)}
theorem rselect_read (s:ByteArray)(er p:Nat)(hne:er≠0)(HP:Calls Tryz.prog 52 #[.string s] w fun e w'=>e=.returned (.tuple #[.pointer none,.int .i64 er,.int .i64 p])∧Below w.heap.size w w'):
  Calls Tryz.prog 101 #[.pointer (some ⟨sb,0,none⟩),.string s] w fun e w'=>e=.returned (.tuple #[.slice none 0 0,.int .i64 er,.int .i64 p])∧Below w.heap.size w w':=by
 have HPC:Hid _:=HP
 have hz:((er:Int) != 0)=true:=by rw[bne_iff_ne];omega
 clear HP
 go_enter Tryz.func101,Tryz.ntmps101
 go_wp2_with fail
 refine Calls.mono HPC.out ?_
 rintro e w1 ⟨rfl,hb1⟩
 go_wp2_with fail
 go_ret3
 exact⟨rfl,hb1⟩
theorem rselect_check (h:RefAt w F sb fs space ts fv tv ps)(s:ByteArray)(a:Doc.Ast)(e1 e2:Int)(hne:e1≠0)(HP:∀fa fc,fv=.slice fa fs.length fc→ParsedC s a e1 e2 fa fs.length fc w):
  Calls Tryz.prog 101 #[.pointer (some ⟨sb,0,none⟩),.string s] w fun e w'=>e=.returned (.tuple #[.slice none 0 0,.int .i64 e1,.int .i64 e2])∧Below w.heap.size w w':=by
 obtain⟨fa,fc,hfv⟩:=(rowSl h.fld).slice
 subst hfv
 have HPC:Hid _:=HP fa fc rfl
 obtain⟨c0,c1,c2⟩:=st_cells h.blk
 have hsl:=lt_block h.blk
 have hz:(e1 != 0)=true:=by rw[bne_iff_ne];exact hne
 clear HP h
 go_enter Tryz.func101,Tryz.ntmps101
 go_wp2_with fail
 refine Calls.mono HPC.out ?_
 rintro e w1 ⟨fb,kr,Lv,Nv,L,nodes,rfl,hst,hrep,hnl,hb1,hfit⟩
 have HB1:Hid _:=hb1
 have HFIT:Hid _:=hfit w1 (Below.refl _ _)
 have e0:w1.cell? ⟨sb,0,none⟩=some (.slice fa fs.length fc):=(hb1.cell (p:=⟨sb,0,none⟩) hsl).trans c0
 clear hst hrep hb1 hfit
 go_wp2_with fail
 refine Calls.mono HFIT.out ?_
 rintro e w2 ⟨rfl,hb2⟩
 have HB2:Hid (Below w.heap.size w w2):=HB1.out.trans (hb2.mono HB1.out.size)
 clear hb2 e0 c0 c1 c2
 go_wp2_with fail
 go_ret3
 exact⟨rfl,HB2.out⟩
theorem rnearest_bad (s:ByteArray)(c1:w.cell? ⟨sb,1,none⟩=some (.int .i64 space))(p:List Int)(hpl:p.length≤9223372036854775807)(pv:Value)(hpv:Sl w pv p.length (intC p))(hsp:Doc.spotB space p=true)(most:Int)(hm:0≤most)(e1 e2:Int)(hne:e1≠0)
  (HSEL:Calls Tryz.prog 101 #[.pointer (some ⟨sb,0,none⟩),.string s] w fun e w'=>e=.returned (.tuple #[.slice none 0 0,.int .i64 e1,.int .i64 e2])∧Below w.heap.size w w'):
  Calls Tryz.prog 102 #[.pointer (some ⟨sb,0,none⟩),.string s,pv,.int .i64 most] w fun e w'=>e=.returned (.tuple #[.slice none 0 0,.int .i64 e1,.int .i64 e2])∧Below w.heap.size w w':=by
 have HSPT:Hid _:=rspot_any (w:=w) sb space c1 p hpl pv hpv
 rw[hsp] at HSPT
 have HSL:Hid _:=HSEL
 have hm0:decide (most<0)=false:=decide_eq_false (by omega)
 have hz:(e1 != 0)=true:=by rw[bne_iff_ne];exact hne
 obtain⟨pa,pc,hpe⟩:=hpv.slice
 subst hpe
 clear hpv HSEL hsp c1
 go_enter Tryz.func102,Tryz.ntmps102
 go_wp2_with fail
 refine Calls.mono HSPT.out ?_
 rintro e w0 ⟨rfl,hw0⟩
 rw[hw0]
 clear hw0 w0
 go_wp2_with fail
 refine Calls.mono HSL.out ?_
 rintro e w1 ⟨rfl,hb1⟩
 go_wp2_with fail
 go_ret3
 exact⟨rfl,hb1⟩
theorem rnearest_arg (s:ByteArray)(c1:w.cell? ⟨sb,1,none⟩=some (.int .i64 space))(p:List Int)(hpl:p.length≤9223372036854775807)(pv:Value)(hpv:Sl w pv p.length (intC p))(most:Int)(hbad:Doc.spotB space p=false∨most<0):
  Calls Tryz.prog 102 #[.pointer (some ⟨sb,0,none⟩),.string s,pv,.int .i64 most] w fun e w'=>e=.returned (.tuple #[.slice none 0 0,.int .i64 1,.int .i64 0])∧Below w.heap.size w w':=by
 have HSPT:Hid _:=rspot_any (w:=w) sb space c1 p hpl pv hpv
 obtain⟨pa,pc,hpe⟩:=hpv.slice
 subst hpe
 clear hpv c1
 cases hsb:Doc.spotB space p
 ·rw[hsb] at HSPT
  go_enter Tryz.func102,Tryz.ntmps102
  go_wp2_with fail
  refine Calls.mono HSPT.out ?_
  rintro e w0 ⟨rfl,hw0⟩
  rw[hw0]
  clear hw0 w0
  go_wp2_with fail
  go_ret3
  exact⟨rfl,Below.refl _ _⟩
 ·rw[hsb] at HSPT
  have hm0:decide (most<0)=true:=by
   rcases hbad with h|h
   ·rw[hsb] at h;cases h
   ·exact decide_eq_true h
  go_enter Tryz.func102,Tryz.ntmps102
  go_wp2_with fail
  refine Calls.mono HSPT.out ?_
  rintro e w0 ⟨rfl,hw0⟩
  rw[hw0]
  clear hw0 w0
  go_wp2_with fail
  go_ret3
  exact⟨rfl,Below.refl _ _⟩
end
end Go.Proofs.YtbnelaoeblhndaaGreatDoor
