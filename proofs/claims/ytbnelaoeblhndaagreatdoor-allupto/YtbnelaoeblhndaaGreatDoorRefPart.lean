import Derived.Test.YtbnelaoeblhndaaGreatDoorRefTest
namespace Go.Proofs.YtbnelaoeblhndaaGreatDoor
open Go.RowKit
set_option maxRecDepth 100000
def zTok:Doc.Tok:=⟨0,⟨#[]⟩,0,0⟩
section
variable {B:Nat}{w:World}{fb:Nat}{Lv:Value}{L:List Doc.Tok}{i op:Nat}{Nv:Value}{nodes:List NodeR}
def PartC (L:List Doc.Tok)(d op:Nat):Prop:=∀{B:Nat} {w:World} {fb:Nat} {Lv:Value} {i:Nat} {Nv:Value} {nodes:List NodeR},RSt B w fb Lv L i op Nv nodes 0 0→nodes.length≤i→i<L.length→
 Calls Tryz.prog 168 #[.pointer (some ⟨fb,0,none⟩)] w (RPost B fb Lv L i op nodes w (Doc.pPart L d i))
def AllC (L:List Doc.Tok)(d op:Nat):Prop:=∀{B:Nat} {w:World} {fb:Nat} {Lv:Value} {i:Nat} {Nv:Value} {nodes:List NodeR},RSt B w fb Lv L i op Nv nodes 0 0→nodes.length≤i→i<L.length→
 Calls Tryz.prog 132 #[.pointer (some ⟨fb,0,none⟩)] w (RPost B fb Lv L i op nodes w (Doc.pAll L d i))
def FilterC (L:List Doc.Tok)(d op:Nat):Prop:=∀{B:Nat} {w:World} {fb:Nat} {Lv:Value} {i:Nat} {Nv:Value} {nodes:List NodeR},RSt B w fb Lv L i op Nv nodes 0 0→nodes.length≤i→i<L.length→
 Calls Tryz.prog 83 #[.pointer (some ⟨fb,0,none⟩)] w (RPost B fb Lv L i op nodes w (Doc.pFilter L d i))
theorem node_all {E place:Nat}(h:RSt B w fb Lv L i op Nv nodes E place)(hn:nodes.length≤300)(a b:Int):
  Calls Tryz.prog 134 #[.pointer (some ⟨fb,0,none⟩),.agg #[.int .u8 38,.int .i64 a,.int .i64 b,.int .u8 0,.string ⟨#[]⟩,.int .i64 0,.int .i64 0,.int .u8 0,.string ⟨#[]⟩,.int .i64 0,.int .i64 0,.slice none 0 0]] w fun r w'=>
   ∃Nv',r=.returned (.int .i64 nodes.length)∧RSt B w' fb Lv L i op Nv' (nodes++[⟨38,a,b,zTok,zTok,.slice none 0 0⟩]) E place∧Step B w w':=
 node_st h hn ⟨38,a,b,zTok,zTok,.slice none 0 0⟩ rfl
theorem node_filter {E place:Nat}(h:RSt B w fb Lv L i op Nv nodes E place)(hn:nodes.length≤300)(a b:Int):
  Calls Tryz.prog 134 #[.pointer (some ⟨fb,0,none⟩),.agg #[.int .u8 124,.int .i64 a,.int .i64 b,.int .u8 0,.string ⟨#[]⟩,.int .i64 0,.int .i64 0,.int .u8 0,.string ⟨#[]⟩,.int .i64 0,.int .i64 0,.slice none 0 0]] w fun r w'=>
   ∃Nv',r=.returned (.int .i64 nodes.length)∧RSt B w' fb Lv L i op Nv' (nodes++[⟨124,a,b,zTok,zTok,.slice none 0 0⟩]) E place∧Step B w w':=
 node_st h hn ⟨124,a,b,zTok,zTok,.slice none 0 0⟩ rfl
theorem node_not {E place:Nat}(h:RSt B w fb Lv L i op Nv nodes E place)(hn:nodes.length≤300)(a:Int):
  Calls Tryz.prog 134 #[.pointer (some ⟨fb,0,none⟩),.agg #[.int .u8 33,.int .i64 a,.int .i64 0,.int .u8 0,.string ⟨#[]⟩,.int .i64 0,.int .i64 0,.int .u8 0,.string ⟨#[]⟩,.int .i64 0,.int .i64 0,.slice none 0 0]] w fun r w'=>
   ∃Nv',r=.returned (.int .i64 nodes.length)∧RSt B w' fb Lv L i op Nv' (nodes++[⟨33,a,0,zTok,zTok,.slice none 0 0⟩]) E place∧Step B w w':=
 node_st h hn ⟨33,a,0,zTok,zTok,.slice none 0 0⟩ rfl
def zeroNat:Value→Nat | .int _ 0=>1|_=>0
def chMeas (n fb:Nat)(wx:World):Nat:=n-(intOf ((wx.cell? ⟨fb,1,none⟩).getD undef)).toNat+zeroNat ((wx.cell? ⟨fb,4,none⟩).getD undef)
theorem chMeas_ok {n j:Nat}{wx:World}(h:wx.cell? ⟨fb,1,none⟩=some (.int .i64 j))(k:wx.cell? ⟨fb,4,none⟩=some (.int .i64 0)):chMeas n fb wx=n-j+1:=by
 simp[chMeas,h,k,intOf,zeroNat]
theorem chMeas_err {n j er:Nat}{wx:World}(h:wx.cell? ⟨fb,1,none⟩=some (.int .i64 j))(k:wx.cell? ⟨fb,4,none⟩=some (.int .i64 er))(her:0<er):chMeas n fb wx=n-j:=by
 obtain⟨q,rfl⟩:∃q,er=q+1:=⟨er-1,by omega⟩
 simp only[chMeas,h,k,intOf,Option.getD_some,Int.toNat_natCast]
 rw[show zeroNat (.int .i64 ((q+1:Nat):Int))=0 from by unfold zeroNat;split<;>first|rfl|(rename_i h;injection h with _ h;omega)]
 rfl
def ChRel (B fb:Nat)(w:World)(Lv:Value)(L:List Doc.Tok)(i op:Nat)(nodes:List NodeR)(link:Nat→Doc.Res Doc.Ast)(word:List UInt8)(mk:Doc.Ast→Doc.Ast→Doc.Ast)(whole:Doc.Res Doc.Ast)(v:Value)(wx:World):Prop:=
 ∃(k:Int) (j:Nat) (Nv':Value) (nodes':List NodeR) (er p:Nat),v=.int .i64 k∧RSt B wx fb Lv L j op Nv' nodes' er p∧nodes <+:nodes'∧nodes'.length+i≤nodes.length+j∧Step B w wx∧i≤j∧j<L.length∧
  ((er=0∧p=0∧∃(n kn:Nat) (a:Doc.Ast),k=kn∧L.length-j<n∧RepM B wx nodes nodes' kn a∧i<j∧whole=Doc.cLoop L link word mk n a j)
   ∨(0<er∧whole=.err er p))
set_option maxHeartbeats 4000000 in
theorem rall_any {d op:Nat}(hp:PartC L d op)(h:RSt B w fb Lv L i op Nv nodes 0 0)(hn:nodes.length≤i)(hi:i<L.length)(hL:L.length≤300)(hE:Doc.Ended L):
  Calls Tryz.prog 132 #[.pointer (some ⟨fb,0,none⟩)] w (RPost B fb Lv L i op nodes w (Doc.pAll L d i)):=by
 have HP:Hid (PartC L d op):=hp
 clear hp
 go_enter Tryz.func132,Tryz.ntmps132
 go_wp2_with fail
 refine(HP.out h hn hi).mono ?_
 intro e w1 hpost
 cases hres:Doc.pPart L d i with
 |err er p=>
  have HR:Hid (Doc.pAll L d i=.err er p):=by show _=_;unfold Doc.pAll Doc.chain;rw[show Doc.pPart L d i=_ from hres]
  rw[hres] at hpost
  clear hres
  obtain⟨k,j,Nv',nodes',rfl,h1,hpre,hlen,hs1,her,hij,hj⟩:=hpost
  have c4:=h1.c4
  have hz:((er:Int)==0)=false:=by rw[beq_eq_false_iff_ne];omega
  go_wp2_with fail
  refine wp_loop_rounds 1 ?_
  rw[rounds_succ]
  go_wp2_with fail
  go_ret
  rw[HR.out]
  exact⟨k,j,Nv',nodes',rfl,h1,hpre,hlen,hs1,her,hij,hj⟩
 |ok a j=>
  have HR:Hid (Doc.pAll L d i=Doc.cLoop L (Doc.pPart L d) Doc.wAnd .and (L.length+1) a j):=by show _=_;unfold Doc.pAll Doc.chain;rw[show Doc.pPart L d i=_ from hres]
  rw[hres] at hpost
  clear hres
  obtain⟨k,Nv',nodes',rfl,h1,hpre,hlen,hrep,hs1,hij,hj⟩:=hpost
  go_wp2_with fail
  go_loopw [3] (fun v wx=>ChRel B fb w Lv L i op nodes (Doc.pPart L d) Doc.wAnd .and (Doc.pAll L d i) v wx) (fun _ wx=>chMeas L.length fb wx)
  case atStart=>exact⟨k,j,Nv',nodes',0,0,rfl,h1,hpre,hlen,hs1,by omega,hj,.inl ⟨rfl,rfl,L.length+1,k,a,rfl,by omega,hrep,hij,HR.out⟩⟩
  case round=>
   clear h1 hpre hlen hrep hs1 HR
   obtain⟨k,j,Nv',nodes',er,p,rfl,h1,hpre,hlen,hs1,hij,hj,hcase⟩:=hrel
   rcases hcase with⟨rfl,rfl,n,kn,a,rfl,hn1,hrep,hij',HR'⟩|⟨her,HR'⟩
   ·have HR:Hid (Doc.pAll L d i=Doc.cLoop L (Doc.pPart L d) Doc.wAnd .and n a j):=HR'
    clear HR'
    obtain⟨n,rfl⟩:∃q,n=q+1:=⟨n-1,by omega⟩
    obtain⟨x,HX⟩:∃x,Hid (x=Doc.tk L j):=⟨_,rfl⟩
    have hms:=chMeas_ok (n:=L.length) h1.c1 h1.c4z
    have c4:=h1.c4z
    go_wp2_with fail
    refine(is_st h1 hj hL x ((Doc.tk_eq hj).trans HX.out.symm) _).mono ?_
    rw[isW_of x [97,110,100]]
    clear c4
    by_cases k1:Doc.is x [97,110,100]=true
    ·have hj1:j+1<L.length:=Doc.ended_next hE hj (by rw[←HX.out];exact Doc.is_kind k1)
     rw[k1]
     rintro e w2 ⟨rfl,hb2⟩
     have h2:=h1.below hb2
     have hs2:=hs1.trans (Step.ofBelow hb2 h1.Ble)
     have hrep2:=hrep.mono (Step.ofBelow hb2 h1.Ble)
     have c1:=h2.c1
     have f1:=h2.fr 1
     clear h1 hs1 hrep hb2
     go_wp2_with fail
     obtain⟨h3,hs3⟩:=RSt.stored h2 (i:=1) (u:=.int .i64 ((j:Int)+1)) (at2:=j+1) (op2:=op) (E2:=0) (p2:=0) rfl
     have hrep3:=hrep2.mono hs3.step
     have hs3':=hs2.trans hs3.step
     clear h2 hs2 hrep2 c1 f1 hs3
     refine(HP.out h3 (by omega) hj1).mono ?_
     intro e w3 hpost
     cases hres:Doc.pPart L d (j+1) with
     |err er p=>
      have HN:Hid (Doc.pAll L d i=.err er p):=HR.out.trans (by rw[Doc.cLoop,←HX.out,if_pos (by exact k1),hres])
      rw[hres] at hpost
      clear hres
      obtain⟨k2,j2,Nv2,nodes2,rfl,h4,hpre2,hlen2,hs4,her,hij2,hj2⟩:=hpost
      go_wp2_with fail
      refine(node_all h4 (by omega) kn k2).mono ?_
      rintro e w4 ⟨Nv3,rfl,h5,hs5⟩
      have c4:=h5.c4
      go_wp2_with fail
      go_roundw
      case rel=>exact⟨nodes2.length,j2,Nv3,_,er,p,rfl,h5,hpre.trans (hpre2.trans ⟨_,rfl⟩),by simp;omega,(hs3'.trans hs4).trans hs5,by omega,hj2,.inr ⟨her,HN.out⟩⟩
      case measure=>rw[hms,chMeas_err (n:=L.length) h5.c1 h5.c4 her];omega
     |ok b j2=>
      have HN:Hid (Doc.pAll L d i=Doc.cLoop L (Doc.pPart L d) Doc.wAnd .and n (.and a b) j2):=HR.out.trans (by rw[Doc.cLoop,←HX.out,if_pos (by exact k1),hres])
      rw[hres] at hpost
      clear hres
      obtain⟨k2,Nv2,nodes2,rfl,h4,hpre2,hlen2,hrepb,hs4,hij2,hj2⟩:=hpost
      go_wp2_with fail
      refine(node_all h4 (by omega) kn k2).mono ?_
      rintro e w4 ⟨Nv3,rfl,h5,hs5⟩
      go_wp2_with fail
      go_roundw
      case rel=>
       refine⟨nodes2.length,j2,Nv3,_,0,0,rfl,h5,hpre.trans (hpre2.trans ⟨_,rfl⟩),by simp;omega,(hs3'.trans hs4).trans hs5,by omega,hj2,.inl ⟨rfl,rfl,n,nodes2.length,.and a b,rfl,by omega,?_,by omega,HN.out⟩⟩
       exact RepM.and (n:=⟨38,kn,k2,zTok,zTok,.slice none 0 0⟩) (hrep3.mono (hs4.trans hs5)) (hrepb.mono hs5) rfl rfl rfl rfl
      case measure=>rw[hms,chMeas_ok (n:=L.length) h5.c1 h5.c4z];omega
    ·have k1:Doc.is x [97,110,100]=false:=by simpa using k1
     have HN:Hid (Doc.pAll L d i=.ok a j):=HR.out.trans (by rw[Doc.cLoop,←HX.out,if_neg (by intro h;exact absurd (h.symm.trans k1) (by simp))])
     rw[k1]
     rintro e w2 ⟨rfl,hb2⟩
     have h2:=h1.below hb2
     go_wp2_with fail
     go_ret
     rw[HN.out]
     exact⟨kn,Nv',nodes',rfl,h2,hpre,hlen,hrep.mono (Step.ofBelow hb2 h1.Ble),hs1.trans (Step.ofBelow hb2 h1.Ble),hij',hj⟩
   ·have HR:Hid (Doc.pAll L d i=.err er p):=HR'
    clear HR'
    have c4:=h1.c4
    have hz:((er:Int)==0)=false:=by rw[beq_eq_false_iff_ne];omega
    go_wp2_with fail
    go_ret
    rw[HR.out]
    exact⟨k,j,Nv',nodes',rfl,h1,hpre,hlen,hs1,her,hij,hj⟩
set_option maxHeartbeats 4000000 in
theorem filter_any {d op:Nat}(hp:AllC L d op)(h:RSt B w fb Lv L i op Nv nodes 0 0)(hn:nodes.length≤i)(hi:i<L.length)(hL:L.length≤300)(hE:Doc.Ended L):
  Calls Tryz.prog 83 #[.pointer (some ⟨fb,0,none⟩)] w (RPost B fb Lv L i op nodes w (Doc.pFilter L d i)):=by
 have HP:Hid (AllC L d op):=hp
 clear hp
 go_enter Tryz.func83,Tryz.ntmps83
 go_wp2_with fail
 refine(HP.out h hn hi).mono ?_
 intro e w1 hpost
 cases hres:Doc.pAll L d i with
 |err er p=>
  have HR:Hid (Doc.pFilter L d i=.err er p):=by show _=_;unfold Doc.pFilter Doc.chain;rw[show Doc.pAll L d i=_ from hres]
  rw[hres] at hpost
  clear hres
  obtain⟨k,j,Nv',nodes',rfl,h1,hpre,hlen,hs1,her,hij,hj⟩:=hpost
  have c4:=h1.c4
  have hz:((er:Int)==0)=false:=by rw[beq_eq_false_iff_ne];omega
  go_wp2_with fail
  refine wp_loop_rounds 1 ?_
  rw[rounds_succ]
  go_wp2_with fail
  go_ret
  rw[HR.out]
  exact⟨k,j,Nv',nodes',rfl,h1,hpre,hlen,hs1,her,hij,hj⟩
 |ok a j=>
  have HR:Hid (Doc.pFilter L d i=Doc.cLoop L (Doc.pAll L d) Doc.wOr .or (L.length+1) a j):=by show _=_;unfold Doc.pFilter Doc.chain;rw[show Doc.pAll L d i=_ from hres]
  rw[hres] at hpost
  clear hres
  obtain⟨k,Nv',nodes',rfl,h1,hpre,hlen,hrep,hs1,hij,hj⟩:=hpost
  go_wp2_with fail
  go_loopw [3] (fun v wx=>ChRel B fb w Lv L i op nodes (Doc.pAll L d) Doc.wOr .or (Doc.pFilter L d i) v wx) (fun _ wx=>chMeas L.length fb wx)
  case atStart=>exact⟨k,j,Nv',nodes',0,0,rfl,h1,hpre,hlen,hs1,by omega,hj,.inl ⟨rfl,rfl,L.length+1,k,a,rfl,by omega,hrep,hij,HR.out⟩⟩
  case round=>
   clear h1 hpre hlen hrep hs1 HR
   obtain⟨k,j,Nv',nodes',er,p,rfl,h1,hpre,hlen,hs1,hij,hj,hcase⟩:=hrel
   rcases hcase with⟨rfl,rfl,n,kn,a,rfl,hn1,hrep,hij',HR'⟩|⟨her,HR'⟩
   ·have HR:Hid (Doc.pFilter L d i=Doc.cLoop L (Doc.pAll L d) Doc.wOr .or n a j):=HR'
    clear HR'
    obtain⟨n,rfl⟩:∃q,n=q+1:=⟨n-1,by omega⟩
    obtain⟨x,HX⟩:∃x,Hid (x=Doc.tk L j):=⟨_,rfl⟩
    have hms:=chMeas_ok (n:=L.length) h1.c1 h1.c4z
    have c4:=h1.c4z
    go_wp2_with fail
    refine(is_st h1 hj hL x ((Doc.tk_eq hj).trans HX.out.symm) _).mono ?_
    rw[isW_of x [111,114]]
    clear c4
    by_cases k1:Doc.is x [111,114]=true
    ·have hj1:j+1<L.length:=Doc.ended_next hE hj (by rw[←HX.out];exact Doc.is_kind k1)
     rw[k1]
     rintro e w2 ⟨rfl,hb2⟩
     have h2:=h1.below hb2
     have hs2:=hs1.trans (Step.ofBelow hb2 h1.Ble)
     have hrep2:=hrep.mono (Step.ofBelow hb2 h1.Ble)
     have c1:=h2.c1
     have f1:=h2.fr 1
     clear h1 hs1 hrep hb2
     go_wp2_with fail
     obtain⟨h3,hs3⟩:=RSt.stored h2 (i:=1) (u:=.int .i64 ((j:Int)+1)) (at2:=j+1) (op2:=op) (E2:=0) (p2:=0) rfl
     have hrep3:=hrep2.mono hs3.step
     have hs3':=hs2.trans hs3.step
     clear h2 hs2 hrep2 c1 f1 hs3
     refine(HP.out h3 (by omega) hj1).mono ?_
     intro e w3 hpost
     cases hres:Doc.pAll L d (j+1) with
     |err er p=>
      have HN:Hid (Doc.pFilter L d i=.err er p):=HR.out.trans (by rw[Doc.cLoop,←HX.out,if_pos (by exact k1),hres])
      rw[hres] at hpost
      clear hres
      obtain⟨k2,j2,Nv2,nodes2,rfl,h4,hpre2,hlen2,hs4,her,hij2,hj2⟩:=hpost
      go_wp2_with fail
      refine(node_filter h4 (by omega) kn k2).mono ?_
      rintro e w4 ⟨Nv3,rfl,h5,hs5⟩
      have c4:=h5.c4
      go_wp2_with fail
      go_roundw
      case rel=>exact⟨nodes2.length,j2,Nv3,_,er,p,rfl,h5,hpre.trans (hpre2.trans ⟨_,rfl⟩),by simp;omega,(hs3'.trans hs4).trans hs5,by omega,hj2,.inr ⟨her,HN.out⟩⟩
      case measure=>rw[hms,chMeas_err (n:=L.length) h5.c1 h5.c4 her];omega
     |ok b j2=>
      have HN:Hid (Doc.pFilter L d i=Doc.cLoop L (Doc.pAll L d) Doc.wOr .or n (.or a b) j2):=HR.out.trans (by rw[Doc.cLoop,←HX.out,if_pos (by exact k1),hres])
      rw[hres] at hpost
      clear hres
      obtain⟨k2,Nv2,nodes2,rfl,h4,hpre2,hlen2,hrepb,hs4,hij2,hj2⟩:=hpost
      go_wp2_with fail
      refine(node_filter h4 (by omega) kn k2).mono ?_
      rintro e w4 ⟨Nv3,rfl,h5,hs5⟩
      go_wp2_with fail
      go_roundw
      case rel=>
       refine⟨nodes2.length,j2,Nv3,_,0,0,rfl,h5,hpre.trans (hpre2.trans ⟨_,rfl⟩),by simp;omega,(hs3'.trans hs4).trans hs5,by omega,hj2,.inl ⟨rfl,rfl,n,nodes2.length,.or a b,rfl,by omega,?_,by omega,HN.out⟩⟩
       exact RepM.or (n:=⟨124,kn,k2,zTok,zTok,.slice none 0 0⟩) (hrep3.mono (hs4.trans hs5)) (hrepb.mono hs5) rfl rfl rfl rfl
      case measure=>rw[hms,chMeas_ok (n:=L.length) h5.c1 h5.c4z];omega
    ·have k1:Doc.is x [111,114]=false:=by simpa using k1
     have HN:Hid (Doc.pFilter L d i=.ok a j):=HR.out.trans (by rw[Doc.cLoop,←HX.out,if_neg (by intro h;exact absurd (h.symm.trans k1) (by simp))])
     rw[k1]
     rintro e w2 ⟨rfl,hb2⟩
     have h2:=h1.below hb2
     go_wp2_with fail
     go_ret
     rw[HN.out]
     exact⟨kn,Nv',nodes',rfl,h2,hpre,hlen,hrep.mono (Step.ofBelow hb2 h1.Ble),hs1.trans (Step.ofBelow hb2 h1.Ble),hij',hj⟩
   ·have HR:Hid (Doc.pFilter L d i=.err er p):=HR'
    clear HR'
    have c4:=h1.c4
    have hz:((er:Int)==0)=false:=by rw[beq_eq_false_iff_ne];omega
    go_wp2_with fail
    go_ret
    rw[HR.out]
    exact⟨k,j,Nv',nodes',rfl,h1,hpre,hlen,hs1,her,hij,hj⟩
end
section
variable {B:Nat}{w:World}{fb:Nat}{Lv:Value}{L:List Doc.Tok}{i op:Nat}{Nv:Value}{nodes:List NodeR}
theorem RPost.ret {res:Doc.Res Doc.Ast}{e:Ending}{w':World}(h:RPost B fb Lv L i op nodes w res e w'):∃k:Int,e=.returned (.int .i64 k):=by
 cases res with
 |ok a j=>obtain⟨k,_,_,rfl,_⟩:=h;exact⟨_,rfl⟩
 |err er p=>obtain⟨k,_,_,_,rfl,_⟩:=h;exact⟨_,rfl⟩
theorem RPost.pre {res:Doc.Res Doc.Ast}{e:Ending}{w2 w':World}(hs:Step B w w2)(h:RPost B fb Lv L i op nodes w2 res e w'):RPost B fb Lv L i op nodes w res e w':=by
 cases res with
 |ok a j=>obtain⟨k,Nv',nodes',rfl,h1,hpre,hlen,hrep,hs1,hij,hj⟩:=h;exact⟨k,Nv',nodes',rfl,h1,hpre,hlen,hrep,hs.trans hs1,hij,hj⟩
 |err er p=>obtain⟨k,j,Nv',nodes',rfl,h1,hpre,hlen,hs1,her,hij,hj⟩:=h;exact⟨k,j,Nv',nodes',rfl,h1,hpre,hlen,hs.trans hs1,her,hij,hj⟩
set_option maxHeartbeats 2000000 in
theorem part_test {d:Nat}(hp:Doc.pPart L d i=Doc.pTest L i)(h:RSt B w fb Lv L i op Nv nodes 0 0)(hn:nodes.length≤i)(hi:i<L.length)(hL:L.length≤300)(hE:Doc.Ended L)(hS:∀k,(Doc.tk L k).S.size≤200)
  (x:Doc.Tok) (hx:x=Doc.tk L i) (k1:Doc.is x [110,111,116]=false) (k2:Doc.is x [40]=false):
  Calls Tryz.prog 168 #[.pointer (some ⟨fb,0,none⟩)] w (RPost B fb Lv L i op nodes w (Doc.pPart L d i)):=by
 have HP:Hid (Doc.pPart L d i=Doc.pTest L i):=hp
 have HX:Hid (x=Doc.tk L i):=hx
 clear hp hx
 go_enter Tryz.func168,Tryz.ntmps168
 go_wp2_with fail
 refine(is_st h hi hL x ((Doc.tk_eq hi).trans HX.out.symm) _).mono ?_
 rw[isW_of x [110,111,116],k1]
 rintro e w1 ⟨rfl,hb1⟩
 have h1:=h.below hb1
 have hs1:=Step.ofBelow hb1 h.Ble
 clear h hb1
 go_wp2_with fail
 refine(is_st h1 hi hL x ((Doc.tk_eq hi).trans HX.out.symm) _).mono ?_
 rw[isW_of x [40],k2]
 rintro e w2 ⟨rfl,hb2⟩
 have h2:=h1.below hb2
 have hs2:=hs1.trans (Step.ofBelow hb2 h1.Ble)
 clear h1 hb2 hs1
 go_wp2_with fail
 refine(test_any h2 hn hi hL hE hS).mono ?_
 intro e w3 hpost
 obtain⟨k,rfl⟩:=hpost.ret
 have HQ:Hid _:=hpost
 clear hpost
 go_wp2_with fail
 go_ret
 rw[HP.out]
 exact RPost.pre hs2 HQ.out
set_option maxHeartbeats 2000000 in
theorem part_deep (hp:Doc.pPart L 0 i=.err 7 (Doc.tk L i).at_)(h:RSt B w fb Lv L i 6 Nv nodes 0 0)(hi:i<L.length)(hL:L.length≤300)
  (x:Doc.Tok) (hx:x=Doc.tk L i) (hk:Doc.is x [110,111,116]=true∨(Doc.is x [110,111,116]=false∧Doc.is x [40]=true)):
  Calls Tryz.prog 168 #[.pointer (some ⟨fb,0,none⟩)] w (RPost B fb Lv L i 6 nodes w (Doc.pPart L 0 i)):=by
 have HP:Hid (Doc.pPart L 0 i=.err 7 x.at_):=by rw[hx];exact hp
 have HX:Hid (x=Doc.tk L i):=hx
 clear hp hx
 rcases hk with k1|⟨k1,k2⟩
 all_goals
  go_enter Tryz.func168,Tryz.ntmps168
  go_wp2_with fail
  refine(is_st h hi hL x ((Doc.tk_eq hi).trans HX.out.symm) _).mono ?_
  rw[isW_of x [110,111,116],k1]
  rintro e w1 ⟨rfl,hb1⟩
  have h1:=h.below hb1
  have hs1:=Step.ofBelow hb1 h.Ble
  clear h hb1
  go_wp2_with fail
  refine(is_st h1 hi hL x ((Doc.tk_eq hi).trans HX.out.symm) _).mono ?_
  rw[isW_of x [40]]
  try rw[k2]
  rintro e w2 ⟨rfl,hb2⟩
  have h2:=h1.below hb2
  have hs2:=hs1.trans (Step.ofBelow hb2 h1.Ble)
  clear h1 hb2 hs1
  have c2:w2.cell? ⟨fb,2,none⟩=some (.int .i64 6):=h2.c2
  go_wp2_with fail
  refine(wrong_new h2 hi hL x ((Doc.tk_eq hi).trans HX.out.symm) 7).mono ?_
  rintro e w3 ⟨rfl,h3,hs3⟩
  go_wp2_with fail
  go_ret
  rw[HP.out]
  exact⟨0,i,Nv,nodes,rfl,h3,List.prefix_rfl,by omega,hs2.trans hs3.step,by omega,by omega,hi⟩
theorem RSt.up {j E p:Nat}{w3:World}(h:RSt B w3 fb Lv L j (op+1) Nv nodes E p):
  RSt B (w3.setCell ⟨fb,2,none⟩ (.int .i64 (op:Int))) fb Lv L j op Nv nodes E p∧Mv B fb w3 (w3.setCell ⟨fb,2,none⟩ (.int .i64 (op:Int))):=by
 exact RSt.stored h rfl
set_option maxHeartbeats 4000000 in
theorem part_not {d:Nat}(ih:PartC L d (op+1))(ho:op+(d+1)=6)(h:RSt B w fb Lv L i op Nv nodes 0 0)(hn:nodes.length≤i)(hi:i<L.length)(hL:L.length≤300)(hE:Doc.Ended L)
  (x:Doc.Tok) (hx:x=Doc.tk L i) (k1:Doc.is x [110,111,116]=true):
  Calls Tryz.prog 168 #[.pointer (some ⟨fb,0,none⟩)] w (RPost B fb Lv L i op nodes w (Doc.pPart L (d+1) i)):=by
 have HX:Hid (x=Doc.tk L i):=hx
 have HI:Hid (PartC L d (op+1)):=ih
 have hz:((op:Int)==6)=false:=by rw[beq_eq_false_iff_ne];omega
 have hi1:i+1<L.length:=Doc.ended_next hE hi (by rw[←hx];exact Doc.is_kind k1)
 have HP:Hid (Doc.pPart L (d+1) i=match Doc.pPart L d (i+1) with | .ok a j=>.ok (.not a) j | .err e p=>.err e p):=by
  show _=_;rw[Doc.pPart,←hx,if_pos (by exact k1)];rfl
 clear ih hx
 go_enter Tryz.func168,Tryz.ntmps168
 go_wp2_with fail
 refine(is_st h hi hL x ((Doc.tk_eq hi).trans HX.out.symm) _).mono ?_
 rw[isW_of x [110,111,116],k1]
 rintro e w1 ⟨rfl,hb1⟩
 have h1:=h.below hb1
 have hs1:=Step.ofBelow hb1 h.Ble
 clear h hb1
 go_wp2_with fail
 refine(is_st h1 hi hL x ((Doc.tk_eq hi).trans HX.out.symm) _).mono ?_
 rw[isW_of x [40]]
 rintro e w2 ⟨rfl,hb2⟩
 have h2:=h1.below hb2
 have hs2:=hs1.trans (Step.ofBelow hb2 h1.Ble)
 clear h1 hb2 hs1
 have c2:=h2.c2
 have f2:=h2.fr 2
 have c1:=h2.c1
 have f1:=h2.fr 1
 go_wp2_with fail
 obtain⟨h3,hs3⟩:=RSt.stored h2 (i:=2) (u:=.int .i64 ((op:Int)+1)) (at2:=i) (op2:=op+1) (E2:=0) (p2:=0) rfl
 obtain⟨h4,hs4⟩:=RSt.stored h3 (i:=1) (u:=.int .i64 ((i:Int)+1)) (at2:=i+1) (op2:=op+1) (E2:=0) (p2:=0) rfl
 have hs5:=(hs2.trans hs3.step).trans hs4.step
 clear h2 hs2 h3 hs3 hs4 c1 c2 f1 f2
 refine(HI.out h4 (by omega) hi1).mono ?_
 intro e w3 hpost
 cases hres:Doc.pPart L d (i+1) with
 |err er p=>
  have HN:Hid (Doc.pPart L (d+1) i=.err er p):=by have:=HP.out;rw[hres] at this;exact this
  rw[hres] at hpost
  clear hres
  obtain⟨k2,j2,Nv2,nodes2,rfl,h6,hpre2,hlen2,hs6,her,hij2,hj2⟩:=hpost
  go_wp2_with fail
  refine(node_not h6 (by omega) k2).mono ?_
  rintro e w4 ⟨Nv3,rfl,h7,hs7⟩
  have c2:=h7.c2
  have f2:=h7.fr 2
  go_wp2_with fail
  go_ret
  rw[HN.out]
  obtain⟨h8,hs8⟩:=h7.up
  refine⟨nodes2.length,j2,Nv3,_,rfl,h8,hpre2.trans ⟨_,rfl⟩,by simp;omega,((hs5.trans hs6).trans hs7).trans hs8.step,her,by omega,hj2⟩
 |ok a j2=>
  have HN:Hid (Doc.pPart L (d+1) i=.ok (.not a) j2):=by have:=HP.out;rw[hres] at this;exact this
  rw[hres] at hpost
  clear hres
  obtain⟨k2,Nv2,nodes2,rfl,h6,hpre2,hlen2,hrep,hs6,hij2,hj2⟩:=hpost
  go_wp2_with fail
  refine(node_not h6 (by omega) k2).mono ?_
  rintro e w4 ⟨Nv3,rfl,h7,hs7⟩
  have c2:=h7.c2
  have f2:=h7.fr 2
  go_wp2_with fail
  go_ret
  rw[HN.out]
  obtain⟨h8,hs8⟩:=h7.up
  refine⟨nodes2.length,Nv3,_,rfl,h8,hpre2.trans ⟨_,rfl⟩,by simp;omega,?_,((hs5.trans hs6).trans hs7).trans hs8.step,by omega,hj2⟩
  exact RepM.not (n:=⟨33,k2,0,zTok,zTok,.slice none 0 0⟩) (hrep.mono (hs7.trans hs8.step)) rfl rfl rfl
set_option maxHeartbeats 4000000 in
theorem part_round {d:Nat}(ih:FilterC L d (op+1))(ho:op+(d+1)=6)(h:RSt B w fb Lv L i op Nv nodes 0 0)(hn:nodes.length≤i)(hi:i<L.length)(hL:L.length≤300)(hE:Doc.Ended L)
  (x:Doc.Tok) (hx:x=Doc.tk L i) (k1:Doc.is x [110,111,116]=false) (k2:Doc.is x [40]=true):
  Calls Tryz.prog 168 #[.pointer (some ⟨fb,0,none⟩)] w (RPost B fb Lv L i op nodes w (Doc.pPart L (d+1) i)):=by
 have HX:Hid (x=Doc.tk L i):=hx
 have HI:Hid (FilterC L d (op+1)):=ih
 have hz:((op:Int)==6)=false:=by rw[beq_eq_false_iff_ne];omega
 have hi1:i+1<L.length:=Doc.ended_next hE hi (by rw[←hx];exact Doc.is_kind k2)
 have HP:Hid (Doc.pPart L (d+1) i=match Doc.pFilter L d (i+1) with | .ok a j=>(if Doc.is (Doc.tk L j) [41] then .ok a (j+1) else .err 6 (Doc.tk L j).at_) | .err e p=>.err e p):=by
  show _=_;rw[Doc.pPart,←hx,if_neg (by intro h;exact absurd (h.symm.trans k1) (by simp)),if_pos k2];rfl
 clear ih hx
 go_enter Tryz.func168,Tryz.ntmps168
 go_wp2_with fail
 refine(is_st h hi hL x ((Doc.tk_eq hi).trans HX.out.symm) _).mono ?_
 rw[isW_of x [110,111,116],k1]
 rintro e w1 ⟨rfl,hb1⟩
 have h1:=h.below hb1
 have hs1:=Step.ofBelow hb1 h.Ble
 clear h hb1
 go_wp2_with fail
 refine(is_st h1 hi hL x ((Doc.tk_eq hi).trans HX.out.symm) _).mono ?_
 rw[isW_of x [40],k2]
 rintro e w2 ⟨rfl,hb2⟩
 have h2:=h1.below hb2
 have hs2:=hs1.trans (Step.ofBelow hb2 h1.Ble)
 clear h1 hb2 hs1
 have c2:=h2.c2
 have f2:=h2.fr 2
 have c1:=h2.c1
 have f1:=h2.fr 1
 go_wp2_with fail
 obtain⟨h3,hs3⟩:=RSt.stored h2 (i:=2) (u:=.int .i64 ((op:Int)+1)) (at2:=i) (op2:=op+1) (E2:=0) (p2:=0) rfl
 obtain⟨h4,hs4⟩:=RSt.stored h3 (i:=1) (u:=.int .i64 ((i:Int)+1)) (at2:=i+1) (op2:=op+1) (E2:=0) (p2:=0) rfl
 have hs5:=(hs2.trans hs3.step).trans hs4.step
 clear h2 hs2 h3 hs3 hs4 c1 c2 f1 f2
 refine(HI.out h4 (by omega) hi1).mono ?_
 intro e w3 hpost
 cases hres:Doc.pFilter L d (i+1) with
 |err er p=>
  have HN:Hid (Doc.pPart L (d+1) i=.err er p):=by have:=HP.out;rw[hres] at this;exact this
  rw[hres] at hpost
  clear hres
  obtain⟨k2,j2,Nv2,nodes2,rfl,h6,hpre2,hlen2,hs6,her,hij2,hj2⟩:=hpost
  go_wp2_with fail
  refine(must_old h6 her hj2 hL _).mono ?_
  rintro e w4 ⟨rfl,h7,hs7⟩
  have c2:=h7.c2
  have f2:=h7.fr 2
  go_wp2_with fail
  go_ret
  rw[HN.out]
  obtain⟨h8,hs8⟩:=h7.up
  exact⟨k2,j2,Nv2,nodes2,rfl,h8,hpre2,by omega,((hs5.trans hs6).trans hs7.step).trans hs8.step,her,by omega,hj2⟩
 |ok a j2=>
  have HN':Hid (Doc.pPart L (d+1) i=if Doc.is (Doc.tk L j2) [41] then .ok a (j2+1) else .err 6 (Doc.tk L j2).at_):=by have:=HP.out;rw[hres] at this;exact this
  rw[hres] at hpost
  clear hres
  obtain⟨k2,Nv2,nodes2,rfl,h6,hpre2,hlen2,hrep,hs6,hij2,hj2⟩:=hpost
  obtain⟨y,HY⟩:∃y,Hid (y=Doc.tk L j2):=⟨_,rfl⟩
  go_wp2_with fail
  by_cases k4:Doc.is y [41]=true
  ·have HN:Hid (Doc.pPart L (d+1) i=.ok a (j2+1)):=by have:=HN'.out;rw[←HY.out,if_pos k4] at this;exact this
   have hj3:j2+1<L.length:=Doc.ended_next hE hj2 (by rw[←HY.out];exact Doc.is_kind k4)
   refine(must_yes h6 hj2 hL _ (by rw[Doc.tk_eq hj2,←HY.out];exact(isW_of y [41]).trans k4)).mono ?_
   rintro e w4 ⟨rfl,h7,hs7⟩
   have c2:=h7.c2
   have f2:=h7.fr 2
   go_wp2_with fail
   go_ret
   rw[HN.out]
   obtain⟨h8,hs8⟩:=h7.up
   exact⟨k2,Nv2,nodes2,rfl,h8,hpre2,by omega,hrep.mono (hs7.step.trans hs8.step),((hs5.trans hs6).trans hs7.step).trans hs8.step,by omega,hj3⟩
  ·have k4:Doc.is y [41]=false:=by simpa using k4
   have HN:Hid (Doc.pPart L (d+1) i=.err 6 y.at_):=by have:=HN'.out;rw[←HY.out,if_neg (by rw[k4];simp)] at this;exact this
   refine(must_no h6 hj2 hL _ (by rw[Doc.tk_eq hj2,←HY.out];exact(isW_of y [41]).trans k4)).mono ?_
   rintro e w4 ⟨rfl,h7,hs7⟩
   have c2:=h7.c2
   have f2:=h7.fr 2
   go_wp2_with fail
   go_ret
   rw[HN.out]
   obtain⟨h8,hs8⟩:=h7.up
   rw[Doc.tk_eq hj2,←HY.out] at h8
   exact⟨k2,j2,Nv2,nodes2,rfl,h8,hpre2,by omega,((hs5.trans hs6).trans hs7.step).trans hs8.step,by omega,by omega,hj2⟩
end
theorem allC_of {L:List Doc.Tok}{d op:Nat}(hL:L.length≤300)(hE:Doc.Ended L)(h:PartC L d op):AllC L d op:=by
 intro B w fb Lv i Nv nodes h1 hn hi
 exact rall_any @h h1 hn hi hL hE
theorem filterC_of {L:List Doc.Tok}{d op:Nat}(hL:L.length≤300)(hE:Doc.Ended L)(h:AllC L d op):FilterC L d op:=by
 intro B w fb Lv i Nv nodes h1 hn hi
 exact filter_any @h h1 hn hi hL hE
theorem part_any {L:List Doc.Tok}(hL:L.length≤300)(hE:Doc.Ended L)(hS:∀k,(Doc.tk L k).S.size≤200):∀d op,op+d=6→PartC L d op:=by
 intro d
 induction d with
 |zero=>
  intro op ho
  obtain rfl:op=6:=by omega
  intro B w fb Lv i Nv nodes h hn hi
  by_cases k1:Doc.is (Doc.tk L i) [110,111,116]=true
  ·exact part_deep (by rw[Doc.pPart,if_pos (by rw[Bool.or_eq_true];exact .inl k1)]) h hi hL _ rfl (.inl k1)
  ·have k1':Doc.is (Doc.tk L i) [110,111,116]=false:=by simpa using k1
   by_cases k2:Doc.is (Doc.tk L i) [40]=true
   ·exact part_deep (by rw[Doc.pPart,if_pos (by rw[Bool.or_eq_true];exact .inr k2)]) h hi hL _ rfl (.inr ⟨k1',k2⟩)
   ·have k2':Doc.is (Doc.tk L i) [40]=false:=by simpa using k2
    exact part_test (show Doc.pPart L 0 i=Doc.pTest L i from by rw[Doc.pPart,if_neg (by rw[Bool.or_eq_true];exact fun h=>h.elim k1 k2)]) h hn hi hL hE hS _ rfl k1' k2'
 |succ d ih=>
  intro op ho
  have ih':PartC L d (op+1):=by
   intro B w fb Lv i Nv nodes h1 h2 h3
   exact ih (op+1) (by omega) h1 h2 h3
  intro B w fb Lv i Nv nodes h hn hi
  by_cases k1:Doc.is (Doc.tk L i) [110,111,116]=true
  ·exact part_not @ih' ho h hn hi hL hE _ rfl k1
  ·have k1':Doc.is (Doc.tk L i) [110,111,116]=false:=by simpa using k1
   by_cases k2:Doc.is (Doc.tk L i) [40]=true
   ·exact part_round (filterC_of hL hE (allC_of hL hE @ih')) ho h hn hi hL hE _ rfl k1' k2
   ·have k2':Doc.is (Doc.tk L i) [40]=false:=by simpa using k2
    exact part_test (show Doc.pPart L (d+1) i=Doc.pTest L i from by rw[Doc.pPart,if_neg (by exact k1),if_neg k2]) h hn hi hL hE hS _ rfl k1' k2'
theorem filter_all {L:List Doc.Tok}(hL:L.length≤300)(hE:Doc.Ended L)(hS:∀k,(Doc.tk L k).S.size≤200):FilterC L 6 0:=
 by
 intro B w fb Lv i Nv nodes h1 h2 h3
 refine filterC_of hL hE (allC_of hL hE ?_) h1 h2 h3
 intro B w fb Lv i Nv nodes h1 h2 h3
 exact part_any hL hE hS 6 0 rfl h1 h2 h3
end Go.Proofs.YtbnelaoeblhndaaGreatDoor
