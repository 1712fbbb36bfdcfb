import Derived.Test.YtbnelaoeblhndaaGreatDoorSynChain
import Derived.Defers
namespace Go.Proofs.YtbnelaoeblhndaaGreatDoor
open Go.RowKit
set_option maxRecDepth 100000
theorem Doc.ended_kind:∀{L:List Doc.Tok},Doc.Ended L→∀{i:Nat},i+1<L.length→((Doc.tk L i).kind=119∨(Doc.tk L i).kind=110∨(Doc.tk L i).kind=115∨(Doc.tk L i).kind=103):=by
 intro L
 induction L with
 |nil=>intro h;exact absurd h (by simp[Doc.Ended])
 |cons t L ih=>
  intro h i hi
  cases L with
  |nil=>simp at hi
  |cons u r=>
   cases i with
   |zero=>exact h.1
   |succ i=>exact ih h.2 (i:=i) (by simpa using hi)
section
variable {B:Nat}{w:World}{rb:Nat}{s:ByteArray}{L:List Doc.Tok}{p i j op fault:Nat}
theorem At.next_any (h:At s L p i)(hE:Doc.Ended L)(hi:i+1<L.length):∃q,At s L q (i+1)∧(Doc.tk L i).at_<(Doc.tk L (i+1)).at_∧(Doc.tk L (i+1)).at_≤s.size:=by
 have hk:=Doc.ended_kind hE hi
 have h2:=(h.next hE hk).1
 refine⟨_,h2,?_⟩
 rw[←h.at_,←h2.at_]
 exact h.at_lt hk h2 (Nat.le_refl _)
theorem At.mono_any (hE:Doc.Ended L):∀n {i p:Nat},At s L p i→i+n<L.length→(Doc.tk L i).at_≤(Doc.tk L (i+n)).at_:=by
 intro n
 induction n with
 |zero=>intro i p _ _;exact Nat.le_refl _
 |succ n ih=>
  intro i p h hi
  obtain⟨q,h1,h2,_⟩:=h.next_any hE (by omega)
  have:=ih h1 (by omega)
  rw[show i+(n+1)=i+1+n by omega];omega
theorem PR.mono (h:PR B w rb s L i op fault)(hE:Doc.Ended L)(hij:i≤j)(hj:j<L.length):(Doc.tk L i).at_≤(Doc.tk L j).at_:=by
 obtain⟨q,h1,_⟩:=h.has
 have:=h1.mono_any hE (j-i) (by omega)
 rwa [show i+(j-i)=j by omega] at this
def zBox:Obj:=.cells #[.int .i64 0,.slice none 0 0,.string ⟨#[]⟩,.int .i64 0,.string ⟨#[]⟩,.int .i64 0,.slice none 0 0] 69 (0,0)
def ChainRel (B rb:Nat)(s:ByteArray)(L:List Doc.Tok)(op fault:Nat)(w:World)(tag:Nat)(mk:Doc.Ast→Doc.Ast→Doc.Ast)(wd:List UInt8)(link:Nat→Doc.Res Doc.Ast)(i:Nat)(pv:Value)(wx:World):Prop:=
 ∃(n m j:Nat) (l:List Value) (acc:Option Doc.Ast),wx.heap[w.heap.size]? =some zBox∧wx.ownsRow (w.heap.size+1) 69 7 pv m l∧PR B wx rb s L j op fault∧PM B rb w wx∧L.length-j<n∧m≤j∧AccRep wx (fun k=>w.heap.size<k∧some k≠pv.ownBlock) tag mk m l acc∧Hid (Doc.contT L link wd mk none (L.length+1) i=Doc.contT L link wd mk acc n j)
set_option maxHeartbeats 4000000 in
theorem chain_any (h:PR B w rb s L i op fault)(hE:Doc.Ended L)(hL:L.length≤300)(hs:s.size≤200)(tag:Nat)(kind:Int)(mk:Doc.Ast→Doc.Ast→Doc.Ast)(hJ:Joins tag kind mk)(wd:List UInt8)(hwd:Bare wd)(f:FuncId)(hf:∀(xs:Array Value) (w:World),Sem.run Tryz.prog (callFunc f xs) w=.ok (.enter f xs) w)(link:Nat→Doc.Res Doc.Ast)
  (hlk:∀i a j,i<L.length→link i=.ok a j→i<j)
  (HR:∀w' i',PR B w' rb s L i' op fault→Calls Tryz.prog f #[.pointer (some ⟨rb,0,none⟩)] w' (TPost B rb s L op fault w' (link i'))):
  Calls Tryz.prog 125 #[.pointer (some ⟨rb,0,none⟩),.int .i64 kind,.string ⟨wd.toArray⟩,.func (.func f) #[.pointer (some ⟨rb,0,none⟩)] #[]] w (TPost B rb s L op fault w (Doc.chain L link wd mk i)):=by
 rw[Doc.chain_contT]
 obtain⟨i0,hti,htz0,htz1,htz2⟩:=info_parts Tryz.infoTree
 have HR':Hid (∀w' i',PR B w' rb s L i' op fault→Calls Tryz.prog f #[.pointer (some ⟨rb,0,none⟩)] w' (TPost B rb s L op fault w' (link i'))):=HR
 have HLK:Hid (∀i a j,i<L.length→link i=.ok a j→i<j):=hlk
 have HJ:Hid (Joins tag kind mk):=hJ
 have hr0:=h.rlt
 have hb0:=h.Ble
 have hne:w.heap.size≠rb:=by omega
 clear HR hlk hJ
 go_enter Tryz.func125,Tryz.ntmps125
 go_wp2_with fail
 go_loopw [10] (fun pv wx=>ChainRel B rb s L op fault w tag mk wd link i pv wx) (fun _ wx=>readMeas (s.size+1) rb wx)
 case atStart=>exact⟨L.length+1,0,i,[],none,heap_alloc_new w _,World.ownsRow_nil _ _ _ _,h.alloc _,(PM.refl B rb w).alloc h.Ble _,by omega,by omega,⟨rfl,rfl⟩,by show _=_;rfl⟩
 case round=>
  obtain⟨n,m,j,l,acc,hbox,hown,hx,kx,hn,hm,hacc,HL⟩:=hrel
  obtain⟨n,rfl⟩:∃q,n=q+1:=⟨n-1,by omega⟩
  have hj:=hx.ltL
  have HC:=HR'.out _ j hx
  have hms:=hx.meas (s.size+1)
  cases hl:link j with
  |err e q=>
   rw[hl] at HC
   have HN:Hid (Doc.contT L link wd mk none (L.length+1) i=.err e q):=by show _=_;rw[HL.out];unfold Doc.contT;rw[hl]
   have HC':Hid _:=HC
   clear HC hl hown hacc
   go_wp2_with fail
   refine Calls.mono HC'.out ?_
   rintro r w2 ⟨j2,rfl,hq,h2,k2⟩
   have HQ:Hid (q=(Doc.tk L j2).at_):=hq
   have b2:=k2.blk hbox hne
   obtain⟨a0,a1,a2,a3,a4,a5,a6⟩:=fv_cells (by exact b2)
   obtain⟨x0,x1,x2,x3,x4,x5,x6⟩:=fv_free (by exact b2)
   have hl2:=lt_block b2
   clear hq hms
   go_wp2_with fail
   refine bodyPost_ret (v:=.tuple #[.agg #[.int .i64 0,.slice none 0 0,.string ⟨#[]⟩,.int .i64 0,.string ⟨#[]⟩,.int .i64 0,.slice none 0 0],.bool false]) (by simp[results,Tryz.results125,go_sem,a0,a1,a2,a3,a4,a5,a6,hl2]) rfl ?_
   rw[HN.out]
   exact⟨j2,rfl,HQ.out,(h2.set7 _ _ _ _ _ _ _ hne hb0).alloc _,((kx.trans k2).set7 _ _ _ _ _ _ _ (Nat.le_refl _) hb0).alloc (h2.set7 _ _ _ _ _ _ _ hne hb0).Ble _⟩
  |ok b j2=>
   rw[hl] at HC
   obtain⟨cb,hcb⟩:∃cb,cb=Doc.comb mk acc b:=⟨_,rfl⟩
   have HN:Hid (Doc.contT L link wd mk none (L.length+1) i=Doc.cLoop L link wd mk (n+1) cb j2):=by show _=_;rw[HL.out,hcb];unfold Doc.contT;rw[hl]
   have hjj:=HLK.out j b j2 hj hl
   have HC':Hid _:=HC
   have HM:Hid ((Doc.tk L j).at_≤(Doc.tk L j2).at_∨L.length≤j2):=by
    rcases Nat.lt_or_ge j2 L.length with h|h
    ·exact .inl (hx.mono hE (by omega) h)
    ·exact .inr h
   have zx:=kx.below.size
   have HMS:Hid (readMeas (s.size+1) rb wr=s.size+1-(Doc.tk L j).at_):=hms
   have HAC:Hid _:=hacc
   have HOW:Hid _:=hown
   have hpl:m≤300:=by omega
   clear HC hl hacc
   go_wp2_with fail
   refine Calls.mono HC'.out ?_
   rintro r w2 ⟨cs,rfl,hrep,h2,k2⟩
   have hj2:=h2.ltL
   obtain⟨b1,n1,m1,s1,s2,na1,na2,b2,n2,m2,hcs⟩:=(hrep.five rfl).has
   have hcs':cs= #[.int .i64 (kindOf b),.slice b1 n1 m1,.string s1,.int .i64 na1,.string s2,.int .i64 na2,.slice b2 n2 m2]:=Array.ext' (by rw[hcs])
   subst hcs'
   have hA2:=AccRep.snoc HJ.out (AccRep.kept HAC.out (w':=w2) (F':=fun k=>w.heap.size<k∧some k≠u10.ownBlock) (fun k o hF ho=>k2.blk ho (by omega)) (fun k hF _=>hF))
    (hrep.kept (w':=w2) (F':=fun k=>w.heap.size<k∧some k≠u10.ownBlock) (fun _ _ _ ho=>ho) (fun k hF _=>⟨by have:=lt_block hbox;omega,fun e=>by have:=(World.ownsRow.lt HOW.out k e.symm).2;omega⟩))
   rw[←hcb] at hA2
   have HA2:Hid _:=hA2
   have bx2:=k2.blk hbox hne
   have kx2:=kx.trans k2
   have HB2:Hid (w2.heap[w.heap.size]? =some zBox):=bx2
   have hl2:=lt_block bx2
   have hr2:=h2.rlt
   have hownA:=((own_pm HOW.out (by omega:rb<w.heap.size+1) k2).alloc (.cells #[.int .i64 (kindOf b),.slice b1 n1 m1,.string s1,.int .i64 na1,.string s2,.int .i64 na2,.slice b2 n2 m2] 69)).alloc (.cells #[.int .i64 (kindOf b),.slice b1 n1 m1,.string s1,.int .i64 na1,.string s2,.int .i64 na2,.slice b2 n2 m2] 69)
   clear hrep hA2 hcs hbox hown bx2 hms k2 kx
   go_wp2_with (at_builtin;refine wpList_append_own_at _ rfl (.tmp 21) (.tmp 23) 66 rfl (w.heap.size+1) 69 i0 _ 7 104 Tryz.underlying66 hti htz0 htz1 htz2 rfl (by decide) _ _ _ rfl hownA ⟨w2.heap.size+1,0,none⟩ 1 1 [.int .i64 (kindOf b),.slice b1 n1 m1,.string s1,.int .i64 na1,.string s2,.int .i64 na2,.slice b2 n2 m2] rfl rfl ?c1 ?c2 ?c3 ?c4 ?c5 ?_)
   case c1=>exact cells_new_at _ [.int .i64 (kindOf b),.slice b1 n1 m1,.string s1,.int .i64 na1,.string s2,.int .i64 na2,.slice b2 n2 m2] _ _ (by simp)
   case c2=>intro u hu;simp only[List.mem_cons,List.not_mem_nil,or_false] at hu;rcases hu with rfl|rfl|rfl|rfl|rfl|rfl|rfl<;>rfl
   case c3=>unfold maxLen;omega
   case c4=>omega
   case c5=>simp;omega
   intro v3 w3 hown3 hgrow3 _ hat3
   obtain⟨g3,cap3,rfl⟩:=own_slice hown3
   have hrow3:∀k,u10.ownBlock=some k→w.heap.size+1≤k:=fun k hk=>(hownA.lt k hk).1
   have hA3:AccRep w3 (fun k=>w.heap.size<k∧some k≠some g3) tag mk (m+1) (l++[.int .i64 (kindOf b),.slice b1 n1 m1,.string s1,.int .i64 na1,.string s2,.int .i64 na2,.slice b2 n2 m2]) (some cb):=by
    refine AccRep.kept HA2.out (fun k o hF ho=>?_) (fun k hF hk=>⟨hF.1,fun e=>?_⟩)
    ·have hlk:=lt_block ho
     rw[hgrow3.block k (by simp;omega) hF.2,heap_alloc_old _ _ (by simp;omega),heap_alloc_old _ _ hlk];exact ho
    ·rcases hat3 with e2|e2
     ·exact hF.2 (e.trans e2)
     ·have:some k=some (w2.heap.size+1+1):=e.trans e2
      simp at this;omega
   have h3:=((h2.alloc _).alloc _).grown hgrow3 (fun k hk=>by have:=hrow3 k hk;omega)
   have k3:=((kx2.alloc h2.Ble _).alloc (h2.alloc _).Ble _).grown ((h2.alloc _).alloc _).Ble hgrow3 (fun k hk=>by have:=hrow3 k hk;omega) (fun k hk=>by have:=hrow3 k hk;omega)
   have bx3:w3.heap[w.heap.size]? =some zBox:=by
    rw[hgrow3.block _ (by simp;omega) (fun e=>by have:=hrow3 _ e.symm;omega),heap_alloc_old _ _ (by simp;omega),heap_alloc_old _ _ hl2];exact HB2.out
   have HA3:Hid _:=hA3
   have HO3:Hid _:=hown3
   have hl0:=HOW.out.1
   have hcell:=hown3.cells (g:=g3) rfl
   have hg3:=(hown3.lt g3 rfl).2
   clear hA3 hown3 hgrow3 hat3 hownA HAC HOW HA2 HB2 hrow3
   by_cases k9:Doc.is (Doc.tk L j2) wd=true
   ·have HN2:Hid (Doc.contT L link wd mk none (L.length+1) i=Doc.contT L link wd mk (some cb) n (j2+1)):=by show _=_;rw[HN.out,Doc.cLoop_contT,if_pos k9]
    have hst:=h3.step hE (Doc.is_kind k9)
    have HC2:Hid _:=takr_yes h3 hE hs wd hwd k9
    clear k9 hcell
    go_wp2_with fail
    refine Calls.mono HC2.out ?_
    rintro r w4 ⟨rfl,h4,k4⟩
    go_wp2_with fail
    have hj4:=h4.ltL
    go_roundw
    case rel=>exact⟨n,m+1,j2+1,_,some cb,k4.blk bx3 hne,own_pm HO3.out (by omega) k4,h4,k3.trans k4,by omega,by omega,AccRep.kept HA3.out (fun k o hF ho=>k4.blk ho (by omega)) (fun k hF _=>hF),HN2⟩
    case measure=>
     rw[HMS.out,h4.meas (s.size+1)]
     have:=HM.out
     omega
   ·have HN2:Hid (Doc.contT L link wd mk none (L.length+1) i=.ok cb j2):=by show _=_;rw[HN.out,Doc.cLoop_contT,if_neg k9]
    have HC2:Hid _:=takr_not h3 wd hwd (by simpa using k9)
    clear k9
    have hl3:=lt_block bx3
    by_cases hm0:m=0
    ·subst hm0
     have hln:l=[]:=List.eq_nil_of_length_eq_zero (by omega)
     subst hln
     have d0:=hcell 0 _ rfl
     have d1:=hcell 1 _ rfl
     have d2:=hcell 2 _ rfl
     have d3:=hcell 3 _ rfl
     have d4:=hcell 4 _ rfl
     have d5:=hcell 5 _ rfl
     have d6:=hcell 6 _ rfl
     have HJ1:Hid _:=join_one (w:=w3) kind g3 cap3 hg3 _ _ _ _ _ _ _ _ _ _ _ d0 d1 d2 d3 d4 d5 d6
     clear hcell d0 d1 d2 d3 d4 d5 d6
     go_wp2_with fail
     refine Calls.mono HC2.out ?_
     rintro r w4 ⟨rfl,rfl⟩
     go_wp2_with fail
     refine Calls.mono HJ1.out ?_
     rintro r w5 ⟨rfl,hb5⟩
     have bx5:=(hb5.block _ hl3).trans bx3
     obtain⟨a0,a1,a2,a3,a4,a5,a6⟩:=fv_cells (by exact bx5)
     obtain⟨x0,x1,x2,x3,x4,x5,x6⟩:=fv_free (by exact bx5)
     have hl5:=lt_block bx5
     go_wp2_with fail
     refine bodyPost_ret (v:=.tuple #[.agg #[.int .i64 (kindOf b),.slice b1 n1 m1,.string s1,.int .i64 na1,.string s2,.int .i64 na2,.slice b2 n2 m2],.bool true]) (by simp[results,Tryz.results125,go_sem,a0,a1,a2,a3,a4,a5,a6]) rfl ?_
     rw[HN2.out]
     refine⟨_,rfl,?_,(h3.below hb5).set7 _ _ _ _ _ _ _ hne hb0,(k3.trans (PM.ofBelow hb5 h3.Ble)).set7 _ _ _ _ _ _ _ (Nat.le_refl _) hb0⟩
     rcases HA3.out with⟨_,hq⟩|⟨hq,_⟩
     ·refine RepT.kept hq (fun k o hF ho=>?_) (fun k hF _=>by omega)
      rw[set7_block _ _ _ _ _ _ _ (by omega),hb5.block k (lt_block ho)];exact ho
     ·omega
    ·have hmn:(((m+1:Nat):Int)==1)=false:=by rw[beq_eq_false_iff_ne];omega
     have HJ1:Hid _:=join_many (w:=w3) kind g3 (m+1) cap3 hmn
     clear hcell hmn
     go_wp2_with fail
     refine Calls.mono HC2.out ?_
     rintro r w4 ⟨rfl,rfl⟩
     go_wp2_with fail
     refine Calls.mono HJ1.out ?_
     rintro r w5 ⟨rfl,hb5⟩
     have bx5:=(hb5.block _ hl3).trans bx3
     obtain⟨a0,a1,a2,a3,a4,a5,a6⟩:=fv_cells (by exact bx5)
     obtain⟨x0,x1,x2,x3,x4,x5,x6⟩:=fv_free (by exact bx5)
     have hl5:=lt_block bx5
     go_wp2_with fail
     refine bodyPost_ret (v:=.tuple #[.agg #[.int .i64 kind,.slice (some ⟨g3,0,none⟩) (m+1) cap3,.string ⟨#[]⟩,.int .i64 0,.string ⟨#[]⟩,.int .i64 0,.slice none 0 0],.bool true]) (by simp[results,Tryz.results125,go_sem,a0,a1,a2,a3,a4,a5,a6]) rfl ?_
     rw[HN2.out]
     refine⟨_,rfl,?_,(h3.below hb5).set7 _ _ _ _ _ _ _ hne hb0,(k3.trans (PM.ofBelow hb5 h3.Ble)).set7 _ _ _ _ _ _ _ (Nat.le_refl _) hb0⟩
     have hgb:=(World.ownsRow.lt HO3.out g3 rfl).1
     have hkeep:∀k o,w.heap.size<k→w4.heap[k]? =some o→(((((((w5.setCell ⟨w.heap.size,0,none⟩ (.int .i64 kind)).setCell ⟨w.heap.size,1,none⟩ (.slice (some ⟨g3,0,none⟩) (m+1) cap3)).setCell ⟨w.heap.size,2,none⟩ (.string ⟨#[]⟩)).setCell ⟨w.heap.size,3,none⟩ (.int .i64 0)).setCell ⟨w.heap.size,4,none⟩ (.string ⟨#[]⟩)).setCell ⟨w.heap.size,5,none⟩ (.int .i64 0)).setCell ⟨w.heap.size,6,none⟩ (.slice none 0 0)).heap[k]? =some o:=by
      intro k o hk ho
      rw[set7_block _ _ _ _ _ _ _ (by omega),hb5.block k (lt_block ho)];exact ho
     rcases HA3.out with⟨hq,_⟩|⟨_,l',cs',a',b',e1,rfl,hq1,hq2⟩
     ·omega
     ·refine HJ.out.whole (n:=m+1) (hq1.kept (fun k o hF ho=>hkeep k o hF.1 ho) (fun k hF _=>by omega)) (hq2.kept (fun k o hF ho=>hkeep k o hF.1 ho) (fun k hF _=>by omega)) ?_ (fun k hk=>?_)
      ·rw[←e1]
       exact own_mono (own_kept HO3.out (fun k o hk ho=>hkeep k o (by have:=(World.ownsRow.lt HO3.out k hk).1;omega) ho)) (Nat.zero_le _)
      ·have:g3=k:=by simpa[Value.ownBlock] using hk
       omega
end
section
variable {B:Nat}{w:World}{rb:Nat}{s:ByteArray}{L:List Doc.Tok}{i op fault:Nat}
theorem TPost.ret {res:Doc.Res Doc.Ast}{r:Ending}{w':World}(h:TPost B rb s L op fault w res r w'):∃(x:Int) (b1:Option Addr) (n1 m1:Nat) (s1 s2:ByteArray) (na1 na2:Int) (b2:Option Addr) (n2 m2:Nat) (b:Bool),r=.returned (.tuple #[.agg #[.int .i64 x,.slice b1 n1 m1,.string s1,.int .i64 na1,.string s2,.int .i64 na2,.slice b2 n2 m2],.bool b]):=by
 cases res with
 |ok a j=>
  obtain⟨cs,rfl,hrep,_⟩:=h
  obtain⟨b1,n1,m1,s1,s2,na1,na2,b2,n2,m2,hcs⟩:=(hrep.five rfl).has
  have hcs':cs= #[.int .i64 (kindOf a),.slice b1 n1 m1,.string s1,.int .i64 na1,.string s2,.int .i64 na2,.slice b2 n2 m2]:=Array.ext' (by rw[hcs])
  subst hcs'
  exact⟨_,_,_,_,_,_,_,_,_,_,_,_,rfl⟩
 |err e q=>obtain⟨j,rfl,_⟩:=h;exact⟨_,_,_,_,_,_,_,_,_,_,_,_,rfl⟩
theorem TPost.pass (h:PR B w rb s L i op fault){o:Obj}{res:Doc.Res Doc.Ast}{w1:World}{c0 c1 c2 c3 c4 c5 c6 b:Value}(hp:TPost B rb s L op fault (w.alloc o) res (.returned (.tuple #[.agg #[c0,c1,c2,c3,c4,c5,c6],b])) w1):
  TPost B rb s L op fault w res (.returned (.tuple #[.agg #[c0,c1,c2,c3,c4,c5,c6],b])) (((((((w1.setCell ⟨w.heap.size,0,none⟩ c0).setCell ⟨w.heap.size,1,none⟩ c1).setCell ⟨w.heap.size,2,none⟩ c2).setCell ⟨w.heap.size,3,none⟩ c3).setCell ⟨w.heap.size,4,none⟩ c4).setCell ⟨w.heap.size,5,none⟩ c5).setCell ⟨w.heap.size,6,none⟩ c6):=by
 have hne:w.heap.size≠rb:=by have:=h.rlt;omega
 have hz:(w.alloc o).heap.size=w.heap.size+1:=by simp
 cases res with
 |ok a j=>
  obtain⟨cs,e,hrep,h1,k1⟩:=hp
  refine⟨cs,e,?_,h1.set7 _ _ _ _ _ _ _ hne h.Ble,(((PM.refl B rb w).alloc h.Ble o).trans k1).set7 _ _ _ _ _ _ _ (Nat.le_refl _) h.Ble⟩
  refine hrep.kept (fun k u hF hu=>?_) (fun k hF _=>by omega)
  rw[set7_block _ _ _ _ _ _ _ (by omega)];exact hu
 |err e q=>
  obtain⟨j,e1,e2,h1,k1⟩:=hp
  exact⟨j,e1,e2,h1.set7 _ _ _ _ _ _ _ hne h.Ble,(((PM.refl B rb w).alloc h.Ble o).trans k1).set7 _ _ _ _ _ _ _ (Nat.le_refl _) h.Ble⟩
theorem TPost.pm {res:Doc.Res Doc.Ast}{r:Ending}{w':World}(h:TPost B rb s L op fault w res r w'):PM B rb w w':=by
 cases res with
 |ok a j=>obtain⟨_,_,_,_,h⟩:=h;exact h
 |err e q=>obtain⟨_,_,_,_,h⟩:=h;exact h
set_option maxHeartbeats 1000000 in
theorem sall_any {d:Nat}(h:PR B w rb s L i op fault)(hE:Doc.Ended L)(hL:L.length≤300)(hs:s.size≤200)(hlk:∀i a j,i<L.length→Doc.pPart L d i=.ok a j→i<j)
  (HR:∀w' i',PR B w' rb s L i' op fault→Calls Tryz.prog 163 #[.pointer (some ⟨rb,0,none⟩)] w' (TPost B rb s L op fault w' (Doc.pPart L d i'))):
  Calls Tryz.prog 126 #[.pointer (some ⟨rb,0,none⟩)] w (TPost B rb s L op fault w (Doc.pAll L d i)):=by
 have HC:Hid (∀w',PR B w' rb s L i op fault→Calls Tryz.prog 125 #[.pointer (some ⟨rb,0,none⟩),.int .i64 1,.string ⟨#[97,110,100]⟩,.func (.func 163) #[.pointer (some ⟨rb,0,none⟩)] #[]] w' (TPost B rb s L op fault w' (Doc.pAll L d i))):=
  fun w' h'=>chain_any h' hE hL hs 1 1 .and joins_and [97,110,100] bare_and 163 Tryz.call163 (Doc.pPart L d) hlk HR
 have hlt:=h.rlt
 clear HR hlk
 go_enter Tryz.func126,Tryz.ntmps126
 go_wp2_with fail
 refine Calls.mono (HC.out _ (h.alloc _)) ?_
 intro r w1 hp
 obtain⟨x,b1,n1,m1,s1,s2,na1,na2,b2,n2,m2,b,rfl⟩:=hp.ret
 have q1:=hp.pm.blk (heap_alloc_new w _) (by omega:w.heap.size≠rb)
 have HP:Hid _:=hp
 clear hp
 obtain⟨a0,a1,a2,a3,a4,a5,a6⟩:=fv_cells q1
 obtain⟨x0,x1,x2,x3,x4,x5,x6⟩:=fv_free q1
 have hl:=lt_block q1
 go_wp2_with fail
 exact bodyPost_ret (v:=.tuple #[.agg #[.int .i64 x,.slice b1 n1 m1,.string s1,.int .i64 na1,.string s2,.int .i64 na2,.slice b2 n2 m2],.bool b]) (by simp[results,Tryz.results126,go_sem,a0,a1,a2,a3,a4,a5,a6]) rfl (TPost.pass h HP.out)
set_option maxHeartbeats 1000000 in
theorem sfilter_any {d:Nat}(h:PR B w rb s L i op fault)(hE:Doc.Ended L)(hL:L.length≤300)(hs:s.size≤200)(hlk:∀i a j,i<L.length→Doc.pAll L d i=.ok a j→i<j)
  (HR:∀w' i',PR B w' rb s L i' op fault→Calls Tryz.prog 126 #[.pointer (some ⟨rb,0,none⟩)] w' (TPost B rb s L op fault w' (Doc.pAll L d i'))):
  Calls Tryz.prog 76 #[.pointer (some ⟨rb,0,none⟩)] w (TPost B rb s L op fault w (Doc.pFilter L d i)):=by
 have HC:Hid (∀w',PR B w' rb s L i op fault→Calls Tryz.prog 125 #[.pointer (some ⟨rb,0,none⟩),.int .i64 0,.string ⟨#[111,114]⟩,.func (.func 126) #[.pointer (some ⟨rb,0,none⟩)] #[]] w' (TPost B rb s L op fault w' (Doc.pFilter L d i))):=
  fun w' h'=>chain_any h' hE hL hs 2 0 .or joins_or [111,114] bare_or 126 Tryz.call126 (Doc.pAll L d) hlk HR
 have hlt:=h.rlt
 clear HR hlk
 go_enter Tryz.func76,Tryz.ntmps76
 go_wp2_with fail
 refine Calls.mono (HC.out _ (h.alloc _)) ?_
 intro r w1 hp
 obtain⟨x,b1,n1,m1,s1,s2,na1,na2,b2,n2,m2,b,rfl⟩:=hp.ret
 have q1:=hp.pm.blk (heap_alloc_new w _) (by omega:w.heap.size≠rb)
 have HP:Hid _:=hp
 clear hp
 obtain⟨a0,a1,a2,a3,a4,a5,a6⟩:=fv_cells q1
 obtain⟨x0,x1,x2,x3,x4,x5,x6⟩:=fv_free q1
 have hl:=lt_block q1
 go_wp2_with fail
 exact bodyPost_ret (v:=.tuple #[.agg #[.int .i64 x,.slice b1 n1 m1,.string s1,.int .i64 na1,.string s2,.int .i64 na2,.slice b2 n2 m2],.bool b]) (by simp[results,Tryz.results76,go_sem,a0,a1,a2,a3,a4,a5,a6]) rfl (TPost.pass h HP.out)
end
def Doc.notR:Doc.Res Doc.Ast→Doc.Res Doc.Ast
 | .ok a j=>.ok (.not a) j
 | .err e p=>.err e p
section
variable {B:Nat}{w:World}{rb:Nat}{s:ByteArray}{L:List Doc.Tok}{i op fault:Nat}
set_option maxHeartbeats 1000000 in
theorem neg_any {res:Doc.Res Doc.Ast}(h:PR B w rb s L i op fault)
  (HR:∀w',PR B w' rb s L i op fault→Calls Tryz.prog 163 #[.pointer (some ⟨rb,0,none⟩)] w' (TPost B rb s L op fault w' res)):
  Calls Tryz.prog 183 #[.pointer (some ⟨rb,0,none⟩)] w (TPost B rb s L op fault w (Doc.notR res)):=by
 have HR':Hid (∀w',PR B w' rb s L i op fault→Calls Tryz.prog 163 #[.pointer (some ⟨rb,0,none⟩)] w' (TPost B rb s L op fault w' res)):=HR
 have hlt:=h.rlt
 have hb0:=h.Ble
 have hne:w.heap.size≠rb:=by omega
 clear HR
 cases res with
 |err e q=>
  go_enter Tryz.func183,Tryz.ntmps183
  go_wp2_with fail
  refine Calls.mono (HR'.out _ (h.alloc _)) ?_
  rintro r w1 ⟨j,rfl,hq,h1,k1⟩
  have HQ:Hid (q=(Doc.tk L j).at_):=hq
  have q1:=k1.blk (heap_alloc_new w _) hne
  have k2:=((PM.refl B rb w).alloc h.Ble _).trans k1
  obtain⟨a0,a1,a2,a3,a4,a5,a6⟩:=fv_cells q1
  obtain⟨x0,x1,x2,x3,x4,x5,x6⟩:=fv_free q1
  have hl:=lt_block q1
  clear hq
  go_wp2_with fail
  exact bodyPost_ret (v:=.tuple #[.agg #[.int .i64 0,.slice none 0 0,.string ⟨#[]⟩,.int .i64 0,.string ⟨#[]⟩,.int .i64 0,.slice none 0 0],.bool false]) (by simp[results,Tryz.results183,go_sem,a0,a1,a2,a3,a4,a5,a6,hl]) rfl ⟨j,rfl,HQ.out,(h1.set7 _ _ _ _ _ _ _ hne hb0).alloc _,(k2.set7 _ _ _ _ _ _ _ (Nat.le_refl _) hb0).alloc (h1.set7 _ _ _ _ _ _ _ hne hb0).Ble _⟩
 |ok a j=>
  go_enter Tryz.func183,Tryz.ntmps183
  go_wp2_with fail
  refine Calls.mono (HR'.out _ (h.alloc _)) ?_
  rintro r w1 ⟨cs,rfl,hrep,h1,k1⟩
  obtain⟨b1,n1,m1,s1,s2,na1,na2,b2,n2,m2,hcs⟩:=(hrep.five rfl).has
  have hcs':cs= #[.int .i64 (kindOf a),.slice b1 n1 m1,.string s1,.int .i64 na1,.string s2,.int .i64 na2,.slice b2 n2 m2]:=Array.ext' (by rw[hcs])
  subst hcs'
  have HRP:Hid _:=hrep
  have q1:=k1.blk (heap_alloc_new w _) hne
  have k2:=((PM.refl B rb w).alloc h.Ble _).trans k1
  obtain⟨a0,a1,a2,a3,a4,a5,a6⟩:=fv_cells q1
  obtain⟨x0,x1,x2,x3,x4,x5,x6⟩:=fv_free q1
  have hl:=lt_block q1
  clear hrep hcs
  go_wp2_with fail
  refine bodyPost_ret (v:=.tuple #[.agg #[.int .i64 2,.slice (some ⟨w1.heap.size+1,0,none⟩) 1 1,.string ⟨#[]⟩,.int .i64 0,.string ⟨#[]⟩,.int .i64 0,.slice none 0 0],.bool true]) (by simp[results,Tryz.results183,go_sem,a0,a1,a2,a3,a4,a5,a6,hl,show w.heap.size<w1.heap.size+1 by omega]) rfl ?_
  have h2:=h1.set7 (n:=w.heap.size) (.int .i64 2) (.slice (some ⟨w1.heap.size+1,0,none⟩) 1 1) (.string ⟨#[]⟩) (.int .i64 0) (.string ⟨#[]⟩) (.int .i64 0) (.slice none 0 0) hne hb0
  refine⟨_,rfl,?_,(h2.alloc _).alloc _,((k2.set7 _ _ _ _ _ _ _ (Nat.le_refl _) hb0).alloc h2.Ble _).alloc (h2.alloc _).Ble _⟩
  have hz:(w.alloc zBox).heap.size=w.heap.size+1:=by simp
  refine RepT.not (cs:=[.int .i64 (kindOf a),.slice b1 n1 m1,.string s1,.int .i64 na1,.string s2,.int .i64 na2,.slice b2 n2 m2]) (RepT.kept HRP.out (fun k o hF ho=>?_) (fun k hF _=>?_)) ⟨rfl,.inr ⟨w1.heap.size+1,1,#[.int .i64 (kindOf a),.slice b1 n1 m1,.string s1,.int .i64 na1,.string s2,.int .i64 na2,.slice b2 n2 m2],rfl,Nat.zero_le _,?_,Nat.le_refl _,by unfold maxLen;omega,?_,?_⟩⟩ (fun k hk=>?_)
  ·have hlk:=lt_block ho
   have hF':w.heap.size+1≤k:=by simpa using hF
   rw[heap_alloc_old _ _ (by simp;omega),heap_alloc_old _ _ (by simp;omega),set7_block _ _ _ _ _ _ _ (by omega)];exact ho
  ·have hF':w.heap.size+1≤k:=by simpa using hF
   omega
  ·have:=heap_alloc_new ((((((((w1.setCell ⟨w.heap.size,0,none⟩ (.int .i64 2)).setCell ⟨w.heap.size,1,none⟩ (.slice (some ⟨w1.heap.size+1,0,none⟩) 1 1)).setCell ⟨w.heap.size,2,none⟩ (.string ⟨#[]⟩)).setCell ⟨w.heap.size,3,none⟩ (.int .i64 0)).setCell ⟨w.heap.size,4,none⟩ (.string ⟨#[]⟩)).setCell ⟨w.heap.size,5,none⟩ (.int .i64 0)).setCell ⟨w.heap.size,6,none⟩ (.slice none 0 0)).alloc (.cells #[.int .i64 (kindOf a),.slice b1 n1 m1,.string s1,.int .i64 na1,.string s2,.int .i64 na2,.slice b2 n2 m2] 69)) (.cells #[.int .i64 (kindOf a),.slice b1 n1 m1,.string s1,.int .i64 na1,.string s2,.int .i64 na2,.slice b2 n2 m2] 69)
   simpa using this
  ·rfl
  ·rfl
  ·have:w1.heap.size+1=k:=by simpa[Value.ownBlock] using hk
   omega
end
def Doc.brkR (L:List Doc.Tok):Doc.Res Doc.Ast→Doc.Res Doc.Ast
 | .ok a j=>if Doc.is (Doc.tk L j) [41] then .ok a (j+1) else .err 6 (Doc.tk L j).at_
 | .err e p=>.err e p
section
variable {B:Nat}{w:World}{rb:Nat}{s:ByteArray}{L:List Doc.Tok}{i op fault:Nat}
theorem PR.c4 (h:PR B w rb s L i op fault):w.cell? ⟨rb,4,none⟩=some (.int .i64 op):=by obtain⟨q,_,b⟩:=h.has;exact b.c4
theorem PR.c2 (h:PR B w rb s L i op fault):∃x:ByteArray,w.cell? ⟨rb,2,none⟩=some (.string x)∧∀l,Bare l→(x.toList==l)=Doc.is (Doc.tk L i) l:=by
 obtain⟨q,a,b⟩:=h.has;exact⟨_,b.c2,fun l hl=>a.is hl⟩
theorem PR.fr (h:PR B w rb s L i op fault)(k:Nat):w.frozen? ⟨rb,k,none⟩=false:=by obtain⟨q,_,b⟩:=h.has;exact b.fr k
theorem PR.opset (h:PR B w rb s L i op fault)(op2:Nat):PR B (w.setCell ⟨rb,4,none⟩ (.int .i64 op2)) rb s L i op2 fault∧PM B rb w (w.setCell ⟨rb,4,none⟩ (.int .i64 op2)):=by
 obtain⟨q,a,b⟩:=h.has
 obtain⟨h1,h2⟩:=b.stored (i:=4) (u:=.int .i64 op2) (t2:=ptok s q) (op2:=op2) (fault2:=fault) rfl
 exact⟨⟨q,a,h1⟩,h2⟩
theorem PM.blk2 {o p:Obj}{w1:World}(k:PM B rb ((w.alloc o).alloc p) w1)(hne:w.heap.size+1≠rb):w1.heap[w.heap.size+1]? =some p:=by
 have:=heap_alloc_new (w.alloc o) p
 rw[show(w.alloc o).heap.size=w.heap.size+1 by simp] at this
 exact k.blk this hne
theorem PM.blk1 {o p:Obj}{w1:World}(k:PM B rb ((w.alloc o).alloc p) w1)(hne:w.heap.size≠rb):w1.heap[w.heap.size]? =some o:=by
 have:=heap_alloc_new w o
 exact k.blk ((heap_alloc_old (w.alloc o) p (by simp)).trans this) hne
theorem TPost.up (h:PR B w rb s L i op fault){res:Doc.Res Doc.Ast}{w1 w2:World}(k0:PM B rb w w1)(hz:w.heap.size+2≤w1.heap.size){c0 c1 c2 c3 c4 c5 c6 b:Value}(hp:TPost B rb s L (op+1) fault w1 res (.returned (.tuple #[.agg #[c0,c1,c2,c3,c4,c5,c6],b])) w2):
  TPost B rb s L op fault w res (.returned (.tuple #[.agg #[c0,c1,c2,c3,c4,c5,c6],b])) ((((((((w2.setCell ⟨w.heap.size+1,0,none⟩ c0).setCell ⟨w.heap.size+1,1,none⟩ c1).setCell ⟨w.heap.size+1,2,none⟩ c2).setCell ⟨w.heap.size+1,3,none⟩ c3).setCell ⟨w.heap.size+1,4,none⟩ c4).setCell ⟨w.heap.size+1,5,none⟩ c5).setCell ⟨w.heap.size+1,6,none⟩ c6).setCell ⟨rb,4,none⟩ (.int .i64 op)):=by
 have hlt:=h.rlt
 have hB:=h.Ble
 have hne:w.heap.size+1≠rb:=by omega
 have hBn:B≤w.heap.size+1:=by omega
 cases res with
 |ok a j=>
  obtain⟨cs,e,hrep,h1,k2⟩:=hp
  have h3:=h1.set7 c0 c1 c2 c3 c4 c5 c6 hne hBn
  obtain⟨h4,k4⟩:=h3.opset op
  refine⟨cs,e,?_,h4,((k0.trans k2).set7 c0 c1 c2 c3 c4 c5 c6 (by omega) hBn).trans k4⟩
  refine hrep.kept (fun k u hF hu=>?_) (fun k hF _=>by omega)
  rw[Below.heap_setCell _ _ _ _ (by show k≠rb;omega),set7_block _ _ _ _ _ _ _ (by omega)];exact hu
 |err e q=>
  obtain⟨j,e1,e2,h1,k2⟩:=hp
  have h3:=h1.set7 c0 c1 c2 c3 c4 c5 c6 hne hBn
  obtain⟨h4,k4⟩:=h3.opset op
  exact⟨j,e1,e2,h4,((k0.trans k2).set7 c0 c1 c2 c3 c4 c5 c6 (by omega) hBn).trans k4⟩
theorem TPost.pr {res:Doc.Res Doc.Ast}{r:Ending}{w':World}(h:TPost B rb s L op fault w res r w'):∃j f,PR B w' rb s L j op f:=by
 cases res with
 |ok a j=>obtain⟨_,_,_,h,_⟩:=h;exact⟨_,_,h⟩
 |err e q=>obtain⟨_,_,_,h,_⟩:=h;exact⟨_,_,h⟩
theorem back_any (u:FrameMode)(w:World)(pb rb:Nat)(x y:Int)(hx:x=y+1)(h1:0≤y)(h2:y≤6)(hp:w.cell? ⟨pb,0,none⟩=some (.pointer (some ⟨rb,0,none⟩)))(c4:w.cell? ⟨rb,4,none⟩=some (.int .i64 x))(f4:w.frozen? ⟨rb,4,none⟩=false):
  CallsD Tryz.prog 201 #[.pointer (some ⟨pb,0,none⟩)] u w fun e u' w'=>u'=u∧(e=.returned (.tuple #[])∧w'=w.setCell ⟨rb,4,none⟩ (.int .i64 y)):=by
 have hw:IntKind.i64.wrap (x-1)=y:=by simp[IntKind.wrap_i64];omega
 clear hx
 go_enter_d Tryz.func201,Tryz.ntmps201
 go_wp2_with fail
 go_end0
 exact⟨rfl,rfl⟩
set_option maxHeartbeats 1000000 in
theorem sd_deep (h:PR B w rb s L i 6 fault)(f:FuncId):
  Calls Tryz.prog 182 #[.pointer (some ⟨rb,0,none⟩),.func (.func f) #[.pointer (some ⟨rb,0,none⟩)] #[]] w (TPost B rb s L 6 fault w (.err 7 (Doc.tk L i).at_)):=by
 have c4:w.cell? ⟨rb,4,none⟩=some (.int .i64 6):=h.c4
 have hlt:=h.rlt
 have hne:w.heap.size+1≠rb:=by omega
 go_enter_defers Tryz.func182,Tryz.ntmps182
 go_wp2_with fail
 refine(refuser ((h.alloc _).alloc _) 7).mono ?_
 rintro r w1 ⟨rfl,h1,k1⟩
 have q1:=k1.blk2 hne
 obtain⟨a0,a1,a2,a3,a4,a5,a6⟩:=fv_cells q1
 obtain⟨x0,x1,x2,x3,x4,x5,x6⟩:=fv_free q1
 have hl:=lt_block q1
 go_wp2_with fail
 refine⟨.tuple #[.agg #[.int .i64 0,.slice none 0 0,.string ⟨#[]⟩,.int .i64 0,.string ⟨#[]⟩,.int .i64 0,.slice none 0 0],.bool false],?_,?_⟩
 ·simp[results,Tryz.results182,go_sem,a0,a1,a2,a3,a4,a5,a6]
 ·exact⟨i,rfl,rfl,h1.set7 _ _ _ _ _ _ _ hne (by have:=h.Ble;omega),((((PM.refl B rb w).alloc h.Ble _).alloc (h.alloc _).Ble _).trans k1).set7 _ _ _ _ _ _ _ (by omega) (by have:=h.Ble;omega)⟩
set_option maxHeartbeats 2000000 in
theorem sd_any (h:PR B w rb s L i op fault)(ho:op<6)(hE:Doc.Ended L)(hs:s.size≤200)(t:Doc.Tok)(ht:t=Doc.tk L i)(hk:t.kind=119∨t.kind=103)(f:FuncId)(hf:∀(xs:Array Value) (w:World),Sem.run Tryz.prog (callFunc f xs) w=.ok (.enter f xs) w){res:Doc.Res Doc.Ast}
  (HI:∀w',PR B w' rb s L (i+1) (op+1) fault→Calls Tryz.prog f #[.pointer (some ⟨rb,0,none⟩)] w' (TPost B rb s L (op+1) fault w' res)):
  Calls Tryz.prog 182 #[.pointer (some ⟨rb,0,none⟩),.func (.func f) #[.pointer (some ⟨rb,0,none⟩)] #[]] w (TPost B rb s L op fault w res):=by
 have HI':Hid (∀w',PR B w' rb s L (i+1) (op+1) fault→Calls Tryz.prog f #[.pointer (some ⟨rb,0,none⟩)] w' (TPost B rb s L (op+1) fault w' res)):=HI
 have HT:Hid (t=Doc.tk L i):=ht
 clear HI ht
 have c4:=h.c4
 have f4:=h.fr 4
 have hz:((op:Int)==6)=false:=by rw[beq_eq_false_iff_ne];omega
 have hlt:=h.rlt
 have hb0:=h.Ble
 have hne:w.heap.size+1≠rb:=by omega
 have hne0:w.heap.size≠rb:=by omega
 have hmf:∀(fn:Fn) (first cap:Array Value) (w:World),(Instr.makeFunc fn first cap).run Tryz.prog w=.ok (.func fn first cap) w:=fun _ _ _ _=>rfl
 go_enter_defers Tryz.func182,Tryz.ntmps182
 go_wp2_with fail
 obtain⟨h0,k0⟩:=h.opset (op+1)
 obtain⟨w0,hw0⟩:∃w0,w0=w.setCell ⟨rb,4,none⟩ (.int .i64 ((op+1:Nat):Int)):=⟨_,rfl⟩
 have hsz:w0.heap.size=w.heap.size:=by rw[hw0];simp
 have hw1:w.setCell ⟨rb,4,none⟩ (.int .i64 ((op:Int)+1))=w0:=by rw[hw0];simp
 rw[hw1]
 rw[←hw0] at h0 k0
 clear hw1 hw0
 refine(taker ((h0.alloc _).alloc _) hE hs t HT.out hk).mono ?_
 rintro r w1 ⟨kk,rfl,h2,k2⟩
 have k12:=((k0.alloc h0.Ble _).alloc (h0.alloc _).Ble _).trans k2
 have hz2:w.heap.size+2≤w1.heap.size:=by have:=k2.below.size;simp at this;omega
 have q0:=k2.blk1 (by omega)
 have q1:=k2.blk2 (by omega)
 rw[hsz] at q0 q1
 have r0:=blk_cell q0 0 _ rfl
 clear k2
 go_wp2_with fail
 refine Calls.mono (HI'.out _ h2) ?_
 intro r w2 hp
 obtain⟨x,b1,n1,m1,s1,s2,na1,na2,b2,n2,m2,b,rfl⟩:=hp.ret
 have q2:=hp.pm.blk q0 hne0
 have q1:=hp.pm.blk q1 hne
 obtain⟨j',f',hpr⟩:=TPost.pr hp
 have HP:Hid _:=hp
 clear hp
 obtain⟨a0,a1,a2,a3,a4,a5,a6⟩:=fv_cells q1
 obtain⟨x0,x1,x2,x3,x4,x5,x6⟩:=fv_free q1
 have hl:=lt_block q1
 go_wp2_with fail
 refine leaves_cons (f:=201) (args:=#[.pointer (some ⟨w.heap.size,0,none⟩)]) (by simp) (by simp[go_sem]) ?_
 refine(back_any .returning _ w.heap.size rb ((op+1:Nat):Int) (op:Int) (by omega) (by omega) (by omega) ?_ ?_ ?_).mono ?_
 ·exact blk_cell ((set7_block _ _ _ _ _ _ _ (by omega)).trans q2) 0 _ rfl
 ·exact(hpr.set7 _ _ _ _ _ _ _ hne (by omega)).c4
 ·exact(hpr.set7 _ _ _ _ _ _ _ hne (by omega)).fr 4
 rintro e u' w3 ⟨rfl,rfl,rfl⟩
 refine⟨.tuple #[.agg #[.int .i64 x,.slice b1 n1 m1,.string s1,.int .i64 na1,.string s2,.int .i64 na2,.slice b2 n2 m2],.bool b],?_,TPost.up h k12 hz2 HP.out⟩
 simp[results,Tryz.results182,go_sem,a0,a1,a2,a3,a4,a5,a6]
end
section
variable {B:Nat}{w:World}{rb:Nat}{s:ByteArray}{L:List Doc.Tok}{i op fault:Nat}
set_option maxHeartbeats 2000000 in
theorem brk_any {res:Doc.Res Doc.Ast}(h:PR B w rb s L i op fault)(hE:Doc.Ended L)(hs:s.size≤200)
  (HR:∀w',PR B w' rb s L i op fault→Calls Tryz.prog 76 #[.pointer (some ⟨rb,0,none⟩)] w' (TPost B rb s L op fault w' res)):
  Calls Tryz.prog 184 #[.pointer (some ⟨rb,0,none⟩)] w (TPost B rb s L op fault w (Doc.brkR L res)):=by
 have HR':Hid (∀w',PR B w' rb s L i op fault→Calls Tryz.prog 76 #[.pointer (some ⟨rb,0,none⟩)] w' (TPost B rb s L op fault w' res)):=HR
 have hlt:=h.rlt
 have hb0:=h.Ble
 have hne:w.heap.size≠rb:=by omega
 clear HR
 cases res with
 |err e q=>
  go_enter Tryz.func184,Tryz.ntmps184
  go_wp2_with fail
  refine Calls.mono (HR'.out _ (h.alloc _)) ?_
  rintro r w1 ⟨j,rfl,hq,h1,k1⟩
  have HQ:Hid (q=(Doc.tk L j).at_):=hq
  have q1:=k1.blk (heap_alloc_new w _) hne
  have k2:=((PM.refl B rb w).alloc h.Ble _).trans k1
  obtain⟨a0,a1,a2,a3,a4,a5,a6⟩:=fv_cells q1
  obtain⟨x0,x1,x2,x3,x4,x5,x6⟩:=fv_free q1
  have hl:=lt_block q1
  clear hq
  go_wp2_with fail
  exact bodyPost_ret (v:=.tuple #[.agg #[.int .i64 0,.slice none 0 0,.string ⟨#[]⟩,.int .i64 0,.string ⟨#[]⟩,.int .i64 0,.slice none 0 0],.bool false]) (by simp[results,Tryz.results184,go_sem,a0,a1,a2,a3,a4,a5,a6,hl]) rfl ⟨j,rfl,HQ.out,(h1.set7 _ _ _ _ _ _ _ hne hb0).alloc _,(k2.set7 _ _ _ _ _ _ _ (Nat.le_refl _) hb0).alloc (h1.set7 _ _ _ _ _ _ _ hne hb0).Ble _⟩
 |ok a j=>
  by_cases k5:Doc.is (Doc.tk L j) [41]=true
  ·have HB:Hid (Doc.brkR L (.ok a j)=.ok a (j+1)):=by show _=_;unfold Doc.brkR;dsimp only;rw[if_pos k5]
   have HK:Hid (Doc.is (Doc.tk L j) [41]=true):=k5
   clear k5
   go_enter Tryz.func184,Tryz.ntmps184
   go_wp2_with fail
   refine Calls.mono (HR'.out _ (h.alloc _)) ?_
   rintro r w1 ⟨cs,rfl,hrep,h1,k1⟩
   obtain⟨b1,n1,m1,s1,s2,na1,na2,b2,n2,m2,hcs⟩:=(hrep.five rfl).has
   have hcs':cs= #[.int .i64 (kindOf a),.slice b1 n1 m1,.string s1,.int .i64 na1,.string s2,.int .i64 na2,.slice b2 n2 m2]:=Array.ext' (by rw[hcs])
   subst hcs'
   have HRP:Hid _:=hrep
   have q1:=k1.blk (heap_alloc_new w _) hne
   have k2:=((PM.refl B rb w).alloc h.Ble _).trans k1
   clear hrep hcs
   go_wp2_with fail
   refine(takr_yes (h1.alloc _) hE hs [41] bare_close HK.out).mono ?_
   rintro r w2 ⟨rfl,h2,k3⟩
   have hl0:=lt_block q1
   have q2:=k3.blk (heap_alloc_new w1 _) (by have:=h1.rlt;omega)
   have q3:=k3.blk ((heap_alloc_old w1 _ hl0).trans q1) hne
   obtain⟨a0,a1,a2,a3,a4,a5,a6⟩:=fv_cells q3
   obtain⟨x0,x1,x2,x3,x4,x5,x6⟩:=fv_free q3
   obtain⟨b0',b1',b2',b3',b4',b5',b6'⟩:=fv_cells q2
   have hl:=lt_block q3
   go_wp2_with fail
   rw[HB.out]
   refine bodyPost_ret (v:=.tuple #[.agg #[.int .i64 (kindOf a),.slice b1 n1 m1,.string s1,.int .i64 na1,.string s2,.int .i64 na2,.slice b2 n2 m2],.bool true]) (by simp[results,Tryz.results184,go_sem,a0,a1,a2,a3,a4,a5,a6]) rfl ⟨_,rfl,?_,h2.set7 _ _ _ _ _ _ _ hne hb0,((k2.alloc h1.Ble _).trans k3).set7 _ _ _ _ _ _ _ (Nat.le_refl _) hb0⟩
   refine RepT.kept HRP.out (fun k o hF ho=>?_) (fun k hF _=>?_)
   ·have hF':w.heap.size+1≤k:=by simpa using hF
    have hlk:=lt_block ho
    rw[set7_block _ _ _ _ _ _ _ (by omega)]
    exact k3.blk ((heap_alloc_old w1 _ hlk).trans ho) (by omega)
   ·have hF':w.heap.size+1≤k:=by simpa using hF
    omega
  ·have k5:Doc.is (Doc.tk L j) [41]=false:=by simpa using k5
   have HB:Hid (Doc.brkR L (.ok a j)=.err 6 (Doc.tk L j).at_):=by show _=_;unfold Doc.brkR;dsimp only;rw[if_neg (by rw[k5];simp)]
   have HK:Hid (Doc.is (Doc.tk L j) [41]=false):=k5
   clear k5
   go_enter Tryz.func184,Tryz.ntmps184
   go_wp2_with fail
   refine Calls.mono (HR'.out _ (h.alloc _)) ?_
   rintro r w1 ⟨cs,rfl,hrep,h1,k1⟩
   obtain⟨b1,n1,m1,s1,s2,na1,na2,b2,n2,m2,hcs⟩:=(hrep.five rfl).has
   have hcs':cs= #[.int .i64 (kindOf a),.slice b1 n1 m1,.string s1,.int .i64 na1,.string s2,.int .i64 na2,.slice b2 n2 m2]:=Array.ext' (by rw[hcs])
   subst hcs'
   have q1:=k1.blk (heap_alloc_new w _) hne
   have k2:=((PM.refl B rb w).alloc h.Ble _).trans k1
   clear hrep hcs
   go_wp2_with fail
   refine(takr_not (h1.alloc _) [41] bare_close HK.out).mono ?_
   rintro r w2 ⟨rfl,rfl⟩
   have hl0:=lt_block q1
   go_wp2_with fail
   refine(refuser (h1.alloc _) 6).mono ?_
   rintro r w3 ⟨rfl,h3,k3⟩
   have q3:=k3.blk ((heap_alloc_old w1 _ hl0).trans q1) hne
   obtain⟨a0,a1,a2,a3,a4,a5,a6⟩:=fv_cells q3
   obtain⟨x0,x1,x2,x3,x4,x5,x6⟩:=fv_free q3
   have hl:=lt_block q3
   go_wp2_with fail
   rw[HB.out]
   exact bodyPost_ret (v:=.tuple #[.agg #[.int .i64 0,.slice none 0 0,.string ⟨#[]⟩,.int .i64 0,.string ⟨#[]⟩,.int .i64 0,.slice none 0 0],.bool false]) (by simp[results,Tryz.results184,go_sem,a0,a1,a2,a3,a4,a5,a6]) rfl ⟨j,rfl,rfl,h3.set7 _ _ _ _ _ _ _ hne hb0,((k2.alloc h1.Ble _).trans k3).set7 _ _ _ _ _ _ _ (Nat.le_refl _) hb0⟩
end
section
variable {B:Nat}{w:World}{rb:Nat}{s:ByteArray}{L:List Doc.Tok}{i op fault:Nat}
set_option maxHeartbeats 1000000 in
theorem part_neg {res:Doc.Res Doc.Ast}(h:PR B w rb s L i op fault)(hk:Doc.is (Doc.tk L i) [110,111,116]=true)
  (HS:∀w',PR B w' rb s L i op fault→Calls Tryz.prog 182 #[.pointer (some ⟨rb,0,none⟩),.func (.func 183) #[.pointer (some ⟨rb,0,none⟩)] #[]] w' (TPost B rb s L op fault w' res)):
  Calls Tryz.prog 163 #[.pointer (some ⟨rb,0,none⟩)] w (TPost B rb s L op fault w res):=by
 have HC:Hid (∀w',PR B w' rb s L i op fault→Calls Tryz.prog 182 #[.pointer (some ⟨rb,0,none⟩),.func (.func 183) #[.pointer (some ⟨rb,0,none⟩)] #[]] w' (TPost B rb s L op fault w' res)):=HS
 obtain⟨x,c2,hx⟩:=h.c2
 have k1:=(hx _ bare_not).trans hk
 have hlt:=h.rlt
 have hmf:∀(fn:Fn) (first cap:Array Value) (w:World),(Instr.makeFunc fn first cap).run Tryz.prog w=.ok (.func fn first cap) w:=fun _ _ _ _=>rfl
 clear HS hx hk
 go_enter Tryz.func163,Tryz.ntmps163
 go_wp2_with fail
 refine Calls.mono (HC.out _ (h.alloc _)) ?_
 intro r w1 hp
 obtain⟨x,b1,n1,m1,s1,s2,na1,na2,b2,n2,m2,b,rfl⟩:=hp.ret
 have q1:=hp.pm.blk (heap_alloc_new w _) (by omega:w.heap.size≠rb)
 have HP:Hid _:=hp
 clear hp
 obtain⟨a0,a1,a2,a3,a4,a5,a6⟩:=fv_cells q1
 obtain⟨x0,x1,x2,x3,x4,x5,x6⟩:=fv_free q1
 have hl:=lt_block q1
 go_wp2_with fail
 exact bodyPost_ret (v:=.tuple #[.agg #[.int .i64 x,.slice b1 n1 m1,.string s1,.int .i64 na1,.string s2,.int .i64 na2,.slice b2 n2 m2],.bool b]) (by simp[results,Tryz.results163,go_sem,a0,a1,a2,a3,a4,a5,a6]) rfl (TPost.pass h HP.out)
set_option maxHeartbeats 1000000 in
theorem part_brk {res:Doc.Res Doc.Ast}(h:PR B w rb s L i op fault)(hk1:Doc.is (Doc.tk L i) [110,111,116]=false)(hk2:Doc.is (Doc.tk L i) [40]=true)
  (HS:∀w',PR B w' rb s L i op fault→Calls Tryz.prog 182 #[.pointer (some ⟨rb,0,none⟩),.func (.func 184) #[.pointer (some ⟨rb,0,none⟩)] #[]] w' (TPost B rb s L op fault w' res)):
  Calls Tryz.prog 163 #[.pointer (some ⟨rb,0,none⟩)] w (TPost B rb s L op fault w res):=by
 have HC:Hid (∀w',PR B w' rb s L i op fault→Calls Tryz.prog 182 #[.pointer (some ⟨rb,0,none⟩),.func (.func 184) #[.pointer (some ⟨rb,0,none⟩)] #[]] w' (TPost B rb s L op fault w' res)):=HS
 obtain⟨x,c2,hx⟩:=h.c2
 have k1:=(hx _ bare_not).trans hk1
 have k2:=(hx _ bare_open).trans hk2
 have hlt:=h.rlt
 have hmf:∀(fn:Fn) (first cap:Array Value) (w:World),(Instr.makeFunc fn first cap).run Tryz.prog w=.ok (.func fn first cap) w:=fun _ _ _ _=>rfl
 clear HS hx hk1 hk2
 go_enter Tryz.func163,Tryz.ntmps163
 go_wp2_with fail
 refine Calls.mono (HC.out _ (h.alloc _)) ?_
 intro r w1 hp
 obtain⟨x,b1,n1,m1,s1,s2,na1,na2,b2,n2,m2,b,rfl⟩:=hp.ret
 have q1:=hp.pm.blk (heap_alloc_new w _) (by omega:w.heap.size≠rb)
 have HP:Hid _:=hp
 clear hp
 obtain⟨a0,a1,a2,a3,a4,a5,a6⟩:=fv_cells q1
 obtain⟨x0,x1,x2,x3,x4,x5,x6⟩:=fv_free q1
 have hl:=lt_block q1
 go_wp2_with fail
 exact bodyPost_ret (v:=.tuple #[.agg #[.int .i64 x,.slice b1 n1 m1,.string s1,.int .i64 na1,.string s2,.int .i64 na2,.slice b2 n2 m2],.bool b]) (by simp[results,Tryz.results163,go_sem,a0,a1,a2,a3,a4,a5,a6]) rfl (TPost.pass h HP.out)
set_option maxHeartbeats 1000000 in
theorem part_tst {res:Doc.Res Doc.Ast}(h:PR B w rb s L i op fault)(hk1:Doc.is (Doc.tk L i) [110,111,116]=false)(hk2:Doc.is (Doc.tk L i) [40]=false)
  (HS:∀w',PR B w' rb s L i op fault→Calls Tryz.prog 185 #[.pointer (some ⟨rb,0,none⟩)] w' (TPost B rb s L op fault w' res)):
  Calls Tryz.prog 163 #[.pointer (some ⟨rb,0,none⟩)] w (TPost B rb s L op fault w res):=by
 have HC:Hid (∀w',PR B w' rb s L i op fault→Calls Tryz.prog 185 #[.pointer (some ⟨rb,0,none⟩)] w' (TPost B rb s L op fault w' res)):=HS
 obtain⟨x,c2,hx⟩:=h.c2
 have k1:=(hx _ bare_not).trans hk1
 have k2:=(hx _ bare_open).trans hk2
 have hlt:=h.rlt
 clear HS hx hk1 hk2
 go_enter Tryz.func163,Tryz.ntmps163
 go_wp2_with fail
 refine Calls.mono (HC.out _ (h.alloc _)) ?_
 intro r w1 hp
 obtain⟨x,b1,n1,m1,s1,s2,na1,na2,b2,n2,m2,b,rfl⟩:=hp.ret
 have q1:=hp.pm.blk (heap_alloc_new w _) (by omega:w.heap.size≠rb)
 have HP:Hid _:=hp
 clear hp
 obtain⟨a0,a1,a2,a3,a4,a5,a6⟩:=fv_cells q1
 obtain⟨x0,x1,x2,x3,x4,x5,x6⟩:=fv_free q1
 have hl:=lt_block q1
 go_wp2_with fail
 exact bodyPost_ret (v:=.tuple #[.agg #[.int .i64 x,.slice b1 n1 m1,.string s1,.int .i64 na1,.string s2,.int .i64 na2,.slice b2 n2 m2],.bool b]) (by simp[results,Tryz.results163,go_sem,a0,a1,a2,a3,a4,a5,a6]) rfl (TPost.pass h HP.out)
end
theorem is_wg {t:Doc.Tok}{l:List UInt8}(h:Doc.is t l=true):t.kind=119∨t.kind=103:=by
 simp only[Doc.is,Bool.and_eq_true,Bool.or_eq_true,beq_iff_eq] at h
 exact h.1
theorem parts_all {s:ByteArray}{L:List Doc.Tok}(H:Doc.Ok L)(hs:s.size≤200):∀(d op:Nat),op+d=6→∀{B:Nat} {w:World} {rb i fault:Nat},PR B w rb s L i op fault→
  Calls Tryz.prog 163 #[.pointer (some ⟨rb,0,none⟩)] w (TPost B rb s L op fault w (Doc.pPart L d i)):=by
 intro d
 induction d with
 |zero=>
  intro op ho B w rb i fault h
  obtain rfl:op=6:=by omega
  by_cases k1:Doc.is (Doc.tk L i) [110,111,116]=true
  ·rw[show Doc.pPart L 0 i=.err 7 (Doc.tk L i).at_ by rw[Doc.pPart,if_pos (by rw[Bool.or_eq_true];exact .inl k1)]]
   exact part_neg h k1 (fun w' h'=>sd_deep h' _)
  ·have k1':Doc.is (Doc.tk L i) [110,111,116]=false:=by simpa using k1
   by_cases k2:Doc.is (Doc.tk L i) [40]=true
   ·rw[show Doc.pPart L 0 i=.err 7 (Doc.tk L i).at_ by rw[Doc.pPart,if_pos (by rw[Bool.or_eq_true];exact .inr k2)]]
    exact part_brk h k1' k2 (fun w' h'=>sd_deep h' _)
   ·have k2':Doc.is (Doc.tk L i) [40]=false:=by simpa using k2
    rw[show Doc.pPart L 0 i=Doc.pTest L i by rw[Doc.pPart,if_neg (by rw[Bool.or_eq_true];exact fun h=>h.elim k1 k2)]]
    exact part_tst h k1' k2' (fun w' h'=>test_all h' H.hE H.hL hs)
 |succ d ih=>
  intro op ho B w rb i fault h
  by_cases k1:Doc.is (Doc.tk L i) [110,111,116]=true
  ·rw[show Doc.pPart L (d+1) i=Doc.notR (Doc.pPart L d (i+1)) by rw[Doc.pPart,if_pos (by exact k1)];cases Doc.pPart L d (i+1)<;>rfl]
   exact part_neg h k1 (fun w' h'=>sd_any h' (by omega) H.hE hs _ rfl (is_wg k1) _ Tryz.call183 (fun w'' h''=>neg_any h'' (fun w3 h3=>ih (op+1) (by omega) h3)))
  ·have k1':Doc.is (Doc.tk L i) [110,111,116]=false:=by simpa using k1
   by_cases k2:Doc.is (Doc.tk L i) [40]=true
   ·rw[show Doc.pPart L (d+1) i=Doc.brkR L (Doc.pFilter L d (i+1)) by
     rw[Doc.pPart,if_neg (by exact k1),if_pos k2]
     show _=Doc.brkR L (Doc.chain L (Doc.chain L (Doc.pPart L d) Doc.wAnd .and) Doc.wOr .or (i+1))
     cases Doc.chain L (Doc.chain L (Doc.pPart L d) Doc.wAnd .and) Doc.wOr .or (i+1)<;>rfl]
    have hp:=Doc.part_fine H d
    have ha:=Doc.all_of_part H hp
    exact part_brk h k1' k2 (fun w' h'=>sd_any h' (by omega) H.hE hs _ rfl (is_wg k2) _ Tryz.call184 (fun w'' h''=>brk_any h'' H.hE hs (fun w3 h3=>
     sfilter_any h3 H.hE H.hL hs (fun i a j hi hj=>(ha i j a hi hj).2.2.1) (fun w4 i4 h4=>
      sall_any h4 H.hE H.hL hs (fun i a j hi hj=>(hp i j a hi hj).2.2.1) (fun w5 i5 h5=>ih (op+1) (by omega) h5)))))
   ·have k2':Doc.is (Doc.tk L i) [40]=false:=by simpa using k2
    rw[show Doc.pPart L (d+1) i=Doc.pTest L i by rw[Doc.pPart,if_neg (by exact k1),if_neg k2]]
    exact part_tst h k1' k2' (fun w' h'=>test_all h' H.hE H.hL hs)
theorem filters_all {s:ByteArray}{L:List Doc.Tok}(H:Doc.Ok L)(hs:s.size≤200){B:Nat}{w:World}{rb i fault:Nat}(h:PR B w rb s L i 0 fault):
  Calls Tryz.prog 76 #[.pointer (some ⟨rb,0,none⟩)] w (TPost B rb s L 0 fault w (Doc.pFilter L 6 i)):=by
 have hp:=Doc.part_fine H 6
 have ha:=Doc.all_of_part H hp
 exact sfilter_any h H.hE H.hL hs (fun i a j hi hj=>(ha i j a hi hj).2.2.1) (fun w4 i4 h4=>
  sall_any h4 H.hE H.hL hs (fun i a j hi hj=>(hp i j a hi hj).2.2.1) (fun w5 i5 h5=>parts_all H hs 6 0 rfl h5))
section
variable {B:Nat}{w:World}{rb:Nat}{s:ByteArray}{L:List Doc.Tok}{i op fault:Nat}
theorem PR.c1 (h:PR B w rb s L i op fault):∃x:PTok,w.cell? ⟨rb,1,none⟩=some (.int .i64 x.kind)∧(x.kind==0)=((Doc.tk L i).kind==101):=by
 obtain⟨q,a,b⟩:=h.has
 refine⟨ptok s q,b.c1,?_⟩
 rw[(ptok_kinds a.le).2.2,a.hd]
def Doc.endR (L:List Doc.Tok):Doc.Res Doc.Ast→Doc.Res Doc.Ast
 | .ok a j=>if (Doc.tk L j).kind==101 then .ok a j else .err 6 (Doc.tk L j).at_
 | .err e p=>.err e p
set_option maxHeartbeats 2000000 in
theorem whole_any {res:Doc.Res Doc.Ast}(h:PR B w rb s L i op fault)
  (HR:∀w',PR B w' rb s L i op fault→Calls Tryz.prog 76 #[.pointer (some ⟨rb,0,none⟩)] w' (TPost B rb s L op fault w' res)):
  Calls Tryz.prog 49 #[.pointer (some ⟨rb,0,none⟩)] w (TPost B rb s L op fault w (Doc.endR L res)):=by
 have HR':Hid (∀w',PR B w' rb s L i op fault→Calls Tryz.prog 76 #[.pointer (some ⟨rb,0,none⟩)] w' (TPost B rb s L op fault w' res)):=HR
 have hlt:=h.rlt
 have hb0:=h.Ble
 have hne:w.heap.size≠rb:=by omega
 clear HR
 cases res with
 |err e q=>
  go_enter Tryz.func49,Tryz.ntmps49
  go_wp2_with fail
  refine Calls.mono (HR'.out _ (h.alloc _)) ?_
  rintro r w1 ⟨j,rfl,hq,h1,k1⟩
  have HQ:Hid (q=(Doc.tk L j).at_):=hq
  have q1:=k1.blk (heap_alloc_new w _) hne
  have k2:=((PM.refl B rb w).alloc h.Ble _).trans k1
  obtain⟨a0,a1,a2,a3,a4,a5,a6⟩:=fv_cells q1
  obtain⟨x0,x1,x2,x3,x4,x5,x6⟩:=fv_free q1
  have hl:=lt_block q1
  clear hq
  go_wp2_with fail
  exact bodyPost_ret (v:=.tuple #[.agg #[.int .i64 0,.slice none 0 0,.string ⟨#[]⟩,.int .i64 0,.string ⟨#[]⟩,.int .i64 0,.slice none 0 0],.bool false]) (by simp[results,Tryz.results49,go_sem,a0,a1,a2,a3,a4,a5,a6,hl]) rfl ⟨j,rfl,HQ.out,(h1.set7 _ _ _ _ _ _ _ hne hb0).alloc _,(k2.set7 _ _ _ _ _ _ _ (Nat.le_refl _) hb0).alloc (h1.set7 _ _ _ _ _ _ _ hne hb0).Ble _⟩
 |ok a j=>
  by_cases k5:((Doc.tk L j).kind==101)=true
  ·have HB:Hid (Doc.endR L (.ok a j)=.ok a j):=by show _=_;unfold Doc.endR;dsimp only;rw[if_pos k5]
   have HK:Hid (((Doc.tk L j).kind==101)=true):=k5
   clear k5
   go_enter Tryz.func49,Tryz.ntmps49
   go_wp2_with fail
   refine Calls.mono (HR'.out _ (h.alloc _)) ?_
   rintro r w1 ⟨cs,rfl,hrep,h1,k1⟩
   obtain⟨b1,n1,m1,s1,s2,na1,na2,b2,n2,m2,hcs⟩:=(hrep.five rfl).has
   have hcs':cs= #[.int .i64 (kindOf a),.slice b1 n1 m1,.string s1,.int .i64 na1,.string s2,.int .i64 na2,.slice b2 n2 m2]:=Array.ext' (by rw[hcs])
   subst hcs'
   have HRP:Hid _:=hrep
   have q1:=k1.blk (heap_alloc_new w _) hne
   have k2:=((PM.refl B rb w).alloc h.Ble _).trans k1
   obtain⟨xx,xc,xk⟩:=h1.c1
   rw[HK.out] at xk
   have hl0:=lt_block q1
   have hrl:=h1.rlt
   obtain⟨a0,a1,a2,a3,a4,a5,a6⟩:=fv_cells q1
   obtain⟨x0,x1,x2,x3,x4,x5,x6⟩:=fv_free q1
   clear hrep hcs
   go_wp2_with fail
   rw[HB.out]
   refine bodyPost_ret (v:=.tuple #[.agg #[.int .i64 (kindOf a),.slice b1 n1 m1,.string s1,.int .i64 na1,.string s2,.int .i64 na2,.slice b2 n2 m2],.bool true]) (by simp[results,Tryz.results49,go_sem,a0,a1,a2,a3,a4,a5,a6,hl0]) rfl ⟨_,rfl,?_,(h1.set7 _ _ _ _ _ _ _ hne hb0).alloc _,(k2.set7 _ _ _ _ _ _ _ (Nat.le_refl _) hb0).alloc (h1.set7 _ _ _ _ _ _ _ hne hb0).Ble _⟩
   refine RepT.kept HRP.out (fun k o hF ho=>?_) (fun k hF _=>?_)
   ·have hF':w.heap.size+1≤k:=by simpa using hF
    have hlk:=lt_block ho
    rw[heap_alloc_old _ _ (by simp;omega),set7_block _ _ _ _ _ _ _ (by omega)]
    exact ho
   ·have hF':w.heap.size+1≤k:=by simpa using hF
    omega
  ·have k5:((Doc.tk L j).kind==101)=false:=by simpa using k5
   have HB:Hid (Doc.endR L (.ok a j)=.err 6 (Doc.tk L j).at_):=by show _=_;unfold Doc.endR;dsimp only;rw[if_neg (by rw[k5];simp)]
   have HK:Hid (((Doc.tk L j).kind==101)=false):=k5
   clear k5
   go_enter Tryz.func49,Tryz.ntmps49
   go_wp2_with fail
   refine Calls.mono (HR'.out _ (h.alloc _)) ?_
   rintro r w1 ⟨cs,rfl,hrep,h1,k1⟩
   obtain⟨b1,n1,m1,s1,s2,na1,na2,b2,n2,m2,hcs⟩:=(hrep.five rfl).has
   have hcs':cs= #[.int .i64 (kindOf a),.slice b1 n1 m1,.string s1,.int .i64 na1,.string s2,.int .i64 na2,.slice b2 n2 m2]:=Array.ext' (by rw[hcs])
   subst hcs'
   have q1:=k1.blk (heap_alloc_new w _) hne
   have k2:=((PM.refl B rb w).alloc h.Ble _).trans k1
   obtain⟨xx,xc,xk⟩:=h1.c1
   rw[HK.out] at xk
   have hl0:=lt_block q1
   have hrl:=h1.rlt
   clear hrep hcs
   go_wp2_with fail
   refine(refuser (h1.alloc _) 6).mono ?_
   rintro r w3 ⟨rfl,h3,k3⟩
   have q3:=k3.blk ((heap_alloc_old w1 _ hl0).trans q1) hne
   obtain⟨a0,a1,a2,a3,a4,a5,a6⟩:=fv_cells q3
   obtain⟨x0,x1,x2,x3,x4,x5,x6⟩:=fv_free q3
   have hl:=lt_block q3
   go_wp2_with fail
   rw[HB.out]
   exact bodyPost_ret (v:=.tuple #[.agg #[.int .i64 0,.slice none 0 0,.string ⟨#[]⟩,.int .i64 0,.string ⟨#[]⟩,.int .i64 0,.slice none 0 0],.bool false]) (by simp[results,Tryz.results49,go_sem,a0,a1,a2,a3,a4,a5,a6]) rfl ⟨j,rfl,rfl,h3.set7 _ _ _ _ _ _ _ hne hb0,((k2.alloc h1.Ble _).trans k3).set7 _ _ _ _ _ _ _ (Nat.le_refl _) hb0⟩
end
def ReadPost (w:World)(res:Doc.Res Doc.Ast)(r:Ending)(w':World):Prop:=
 match res with
 | .ok a _=>∃cs,r=.returned (.tuple #[.agg cs,.int .i64 0,.int .i64 0])∧RepT w' (fun k=>w.heap.size≤k) 0 cs.toList a∧Below w.heap.size w w'
 | .err e q=>r=.returned (.tuple #[.agg #[.int .i64 0,.slice none 0 0,.string ⟨#[]⟩,.int .i64 0,.string ⟨#[]⟩,.int .i64 0,.slice none 0 0],.int .i64 e,.int .i64 q])∧Below w.heap.size w w'
set_option maxHeartbeats 2000000 in
theorem read_long (s:ByteArray)(hs:200<s.size)(w:World):
  Calls Tryz.prog 33 #[.string s] w (ReadPost w (.err 5 0)):=by
 go_enter Tryz.func33,Tryz.ntmps33
 go_wp2_with fail
 exact bodyPost_ret (v:=.tuple #[.agg #[.int .i64 0,.slice none 0 0,.string ⟨#[]⟩,.int .i64 0,.string ⟨#[]⟩,.int .i64 0,.slice none 0 0],.int .i64 5,.int .i64 0]) (by simp[results,Tryz.results33,go_sem]) rfl ⟨rfl,(Below.refl _ _).alloc (Nat.le_refl _) _⟩
theorem PR.c5 {B:Nat}{w:World}{rb:Nat}{s:ByteArray}{L:List Doc.Tok}{i op fault:Nat}(h:PR B w rb s L i op fault):w.cell? ⟨rb,5,none⟩=some (.int .i64 fault)∧w.cell? ⟨rb,3,none⟩=some (.int .i64 (Doc.tk L i).at_):=by
 obtain⟨q,a,b⟩:=h.has
 exact⟨b.c5,by rw[←a.at_];exact b.c3⟩
theorem below_set7 {w w2:World}(h:Below w.heap.size w w2)(c0 c1 c2 c3 c4 c5 c6:Value):Below w.heap.size w (((((((w2.setCell ⟨w.heap.size,0,none⟩ c0).setCell ⟨w.heap.size,1,none⟩ c1).setCell ⟨w.heap.size,2,none⟩ c2).setCell ⟨w.heap.size,3,none⟩ c3).setCell ⟨w.heap.size,4,none⟩ c4).setCell ⟨w.heap.size,5,none⟩ c5).setCell ⟨w.heap.size,6,none⟩ c6):=
 ((((((h.setCell (p:=⟨w.heap.size,0,none⟩) (Nat.le_refl _) c0).setCell (p:=⟨w.heap.size,1,none⟩) (Nat.le_refl _) c1).setCell (p:=⟨w.heap.size,2,none⟩) (Nat.le_refl _) c2).setCell (p:=⟨w.heap.size,3,none⟩) (Nat.le_refl _) c3).setCell (p:=⟨w.heap.size,4,none⟩) (Nat.le_refl _) c4).setCell (p:=⟨w.heap.size,5,none⟩) (Nat.le_refl _) c5).setCell (p:=⟨w.heap.size,6,none⟩) (Nat.le_refl _) c6
set_option maxHeartbeats 2000000 in
theorem read_any (s:ByteArray)(hs:s.size≤200)(w:World)(hsg:Signs w)(h0:1<w.heap.size):
  Calls Tryz.prog 33 #[.string s] w (ReadPost w (Doc.parse (Doc.toks s 0))):=by
 go_enter Tryz.func33,Tryz.ntmps33
 go_wp2_with fail
 refine(tokenFrom_at 0 0 rfl s _ hs (by omega) (hsg.below ((Below.refl w.heap.size _).alloc (Nat.le_refl _) _) h0) (by simp;omega)).mono ?_
 rintro r w1 ⟨t,HT,rfl,hb1⟩
 have hsz1:=hb1.size
 have hsz1:w.heap.size+1≤w1.heap.size:=by simpa using hsz1
 have hbw:Below w.heap.size w w1:=((Below.refl _ _).alloc (Nat.le_refl _) _).trans (hb1.mono (by simp))
 have q1:=(hb1.block w.heap.size (by simp)).trans (heap_alloc_new w _)
 have hpr:PR w1.heap.size (w1.alloc (.cells #[.string s,.int .i64 t.kind,.string t.text,.int .i64 t.at_,.int .i64 0,.int .i64 0] 119)) w1.heap.size s (Doc.toks s 0) 0 0 0:=by
  refine⟨0,At.start s,⟨?_,?_,Nat.le_refl _,by omega⟩⟩
  ·rw[←HT.out];exact heap_alloc_new w1 _
  ·exact hsg.below (hbw.trans (((Below.refl _ _).alloc (Nat.le_refl _) _).mono (by omega))) h0
 have HW:Hid (Calls Tryz.prog 49 #[.pointer (some ⟨w1.heap.size,0,none⟩)] (w1.alloc (.cells #[.string s,.int .i64 t.kind,.string t.text,.int .i64 t.at_,.int .i64 0,.int .i64 0] 119)) (TPost w1.heap.size w1.heap.size s (Doc.toks s 0) 0 0 (w1.alloc (.cells #[.string s,.int .i64 t.kind,.string t.text,.int .i64 t.at_,.int .i64 0,.int .i64 0] 119)) (Doc.parse (Doc.toks s 0)))):=by
  show Calls _ _ _ _ _
  rw[show Doc.parse (Doc.toks s 0)=Doc.endR (Doc.toks s 0) (Doc.pFilter (Doc.toks s 0) 6 0) by unfold Doc.parse;cases Doc.pFilter (Doc.toks s 0) 6 0<;>rfl]
  exact whole_any hpr (fun w' h'=>filters_all (Doc.ok_toks s hs) hs h')
 have kb:Below w1.heap.size w1 (w1.alloc (.cells #[.string s,.int .i64 t.kind,.string t.text,.int .i64 t.at_,.int .i64 0,.int .i64 0] 119)):=(Below.refl _ _).alloc (Nat.le_refl _) _
 clear hpr
 cases hres:Doc.parse (Doc.toks s 0) with
 |ok a j=>
  rw[hres] at HW
  have HE:Hid _:=hres
  clear hres
  go_wp2_with fail
  refine Calls.mono HW.out ?_
  rintro r w2 ⟨cs,rfl,hrep,h2,k2⟩
  obtain⟨b1,n1,m1,s1,s2,na1,na2,b2,n2,m2,hcs⟩:=(hrep.five rfl).has
  have hcs':cs= #[.int .i64 (kindOf a),.slice b1 n1 m1,.string s1,.int .i64 na1,.string s2,.int .i64 na2,.slice b2 n2 m2]:=Array.ext' (by rw[hcs])
  subst hcs'
  have HRP:Hid _:=hrep
  have kw:Below w1.heap.size w1 w2:=kb.trans k2.below
  have q2:=(kw.block w.heap.size (by omega)).trans q1
  have hl0:=lt_block q2
  obtain⟨a0,a1,a2,a3,a4,a5,a6⟩:=fv_cells q2
  obtain⟨x0,x1,x2,x3,x4,x5,x6⟩:=fv_free q2
  clear hrep hcs HW
  go_wp2_with fail
  rw[HE.out]
  refine bodyPost_ret (v:=.tuple #[.agg #[.int .i64 (kindOf a),.slice b1 n1 m1,.string s1,.int .i64 na1,.string s2,.int .i64 na2,.slice b2 n2 m2],.int .i64 0,.int .i64 0]) (by simp[results,Tryz.results33,go_sem,a0,a1,a2,a3,a4,a5,a6,hl0]) rfl ⟨_,rfl,?_,(below_set7 (hbw.trans (kw.mono (by omega))) _ _ _ _ _ _ _).alloc (by simp;omega) _⟩
  refine RepT.kept HRP.out (fun k o hF ho=>?_) (fun k hF _=>?_)
  ·have hF':w1.heap.size+1≤k:=by simpa using hF
   have hlk:=lt_block ho
   rw[heap_alloc_old _ _ (by simp;omega),set7_block _ _ _ _ _ _ _ (by omega)]
   exact ho
  ·have hF':w1.heap.size+1≤k:=by simpa using hF
   omega
 |err e q=>
  rw[hres] at HW
  have HE:Hid _:=hres
  clear hres
  go_wp2_with fail
  refine Calls.mono HW.out ?_
  rintro r w2 ⟨j,rfl,hq,h2,k2⟩
  have kw:Below w1.heap.size w1 w2:=kb.trans k2.below
  have q2:=(kw.block w.heap.size (by omega)).trans q1
  have hl0:=lt_block q2
  obtain⟨c5,c3⟩:=h2.c5
  rw[←hq] at c3
  have hlr:=h2.rlt
  obtain⟨a0,a1,a2,a3,a4,a5,a6⟩:=fv_cells q2
  obtain⟨x0,x1,x2,x3,x4,x5,x6⟩:=fv_free q2
  clear HW hq
  go_wp2_with fail
  go_region
  all_goals
   go_wp2_with fail
   rw[HE.out]
   refine bodyPost_ret (v:=.tuple #[.agg #[.int .i64 0,.slice none 0 0,.string ⟨#[]⟩,.int .i64 0,.string ⟨#[]⟩,.int .i64 0,.slice none 0 0],.int .i64 e,.int .i64 q]) (by simp[results,Tryz.results33,go_sem,a0,a1,a2,a3,a4,a5,a6,hl0]) rfl ⟨rfl,?_⟩
   exact((below_set7 (hbw.trans (kw.mono (by omega))) _ _ _ _ _ _ _).alloc (by simp;omega) _).drew
end Go.Proofs.YtbnelaoeblhndaaGreatDoor
