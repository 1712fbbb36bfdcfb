import Derived.Test.YtbnelaoeblhndaaGreatDoorSynRel2
namespace Go.Proofs.YtbnelaoeblhndaaGreatDoor
open Go.RowKit
set_option maxRecDepth 100000
def litK (t:Doc.Tok):Int:=if t.kind==115 then 2 else 1
def litC (t:Doc.Tok):List Value:=[.int .i64 (litK t),.int .i64 t.N,.string t.S,.int .i64 t.at_]
def litsC (l:List Doc.Tok):List Value:=l.flatMap litC
theorem litC_one (t:Doc.Tok):∀u∈litC t,u.oneCell'=true:=by
 intro u hu
 simp only[litC,List.mem_cons,List.not_mem_nil,or_false] at hu
 rcases hu with rfl|rfl|rfl|rfl<;>rfl
theorem litsC_snoc (l:List Doc.Tok)(t:Doc.Tok):litsC (l++[t])=litsC l++litC t:=by simp[litsC]
section
variable {B:Nat}{w:World}{rb:Nat}{s:ByteArray}{L:List Doc.Tok}{p i op fault:Nat}
structure PR (B:Nat)(w:World)(rb:Nat)(s:ByteArray)(L:List Doc.Tok)(i op fault:Nat):Prop where
 has:∃p,At s L p i∧PSt B w rb s (ptok s p) op fault
theorem PR.below {w':World}(h:PR B w rb s L i op fault)(hb:Below w.heap.size w w'):PR B w' rb s L i op fault:=by
 obtain⟨p,h1,h2⟩:=h.has;exact⟨p,h1,h2.below hb⟩
theorem PR.alloc (h:PR B w rb s L i op fault)(o:Obj):PR B (w.alloc o) rb s L i op fault:=h.below ((Below.refl _ _).alloc (Nat.le_refl _) o)
theorem PR.Ble (h:PR B w rb s L i op fault):B≤w.heap.size:=by obtain⟨p,_,h2⟩:=h.has;exact h2.Ble
theorem At.text {t:Doc.Tok}(ha:At s L p i)(ht:t=Doc.tk L i)(hk:t.kind=119∨t.kind=103):(ptok s p).text=t.S:=by
 rw[ht,←ha.hd] at hk ⊢
 rcases ptok_cases ha.le with⟨_,_,h3⟩|⟨_,_,h3⟩|⟨a,k,n,_,hx,_,_,_,h1,h2⟩
 ·rw[h3] at hk;exact absurd hk (by decide)
 ·rw[h3] at hk;exact absurd hk (by decide)
 ·rw[h2,(tok_of hx).1] at hk
  rw[h1,h2,((tok_of hx).2.2.1 hk).1]
theorem ba_of (l:List UInt8):(⟨l.toArray⟩:ByteArray).toList=l:=by rw[ByteArray.toList_eq]
theorem At.at_ (ha:At s L p i):(ptok s p).at_=(Doc.tk L i).at_:=by rw[(ptok_kind ha.le).2,ha.hd]
theorem take_at (h:PSt B w rb s (ptok s p) op fault)(ha:At s L p i)(hE:Doc.Ended L)(hs:s.size≤200)(t:Doc.Tok)(ht:t=Doc.tk L i)(hk:t.kind=119∨t.kind=103):
  Calls Tryz.prog 181 #[.pointer (some ⟨rb,0,none⟩)] w fun r w'=>∃k:Int,r=.returned (.agg #[.int .i64 k,.string t.S,.int .i64 t.at_])∧PR B w' rb s L (i+1) op fault∧PM B rb w w':=by
 have hn:=ha.next hE (by rw[←ht];rcases hk with h|h<;>simp[h])
 refine(take_st h hs hn.1.le).mono ?_
 rintro r w1 ⟨rfl,h1,k1⟩
 exact⟨_,by rw[ha.text ht hk,ha.at_,←ht],⟨_,hn.1,h1⟩,k1⟩
theorem takeIf_at (h:PSt B w rb s (ptok s p) op fault)(ha:At s L p i)(hE:Doc.Ended L)(hs:s.size≤200)(l:List UInt8)(hx:Bare l)(hk:Doc.is (Doc.tk L i) l=true):
  Calls Tryz.prog 161 #[.pointer (some ⟨rb,0,none⟩),.string ⟨l.toArray⟩] w fun r w'=>r=.returned (.bool true)∧PR B w' rb s L (i+1) op fault∧PM B rb w w':=by
 have hn:=ha.next hE (Doc.is_kind hk)
 refine(takeIf_yes h hs hn.1.le ⟨l.toArray⟩ (by rw[ba_of l,ha.is hx];exact hk)).mono ?_
 rintro r w1 ⟨rfl,h1,k1⟩
 exact⟨rfl,⟨_,hn.1,h1⟩,k1⟩
theorem takeIf_not (h:PSt B w rb s (ptok s p) op fault)(ha:At s L p i)(l:List UInt8)(hx:Bare l)(hk:Doc.is (Doc.tk L i) l=false):
  Calls Tryz.prog 161 #[.pointer (some ⟨rb,0,none⟩),.string ⟨l.toArray⟩] w fun r w'=>r=.returned (.bool false)∧w'=w:=
 takeIf_no h ⟨l.toArray⟩ (by rw[ba_of l,ha.is hx];exact hk)
theorem literal_yes (h:PSt B w rb s (ptok s p) op fault)(ha:At s L p i)(hE:Doc.Ended L)(hs:s.size≤200)(t:Doc.Tok)(ht:t=Doc.tk L i)(hk:Doc.lit false t=true):
  Calls Tryz.prog 217 #[.pointer (some ⟨rb,0,none⟩)] w fun r w'=>r=.returned (.tuple #[.agg #[.int .i64 (litK t),.int .i64 t.N,.string t.S,.int .i64 t.at_],.bool true])∧PR B w' rb s L (i+1) op fault∧PM B rb w w':=by
 have hn:=ha.next hE (by rw[←ht];exact Doc.lit_kind hk)
 have hhd:=ha.hd.trans ht.symm
 have hat:((ptok s p).at_:Int)=(t.at_:Int):=by rw[ha.at_,←ht]
 by_cases h5:t.kind=115
 ·obtain⟨e1,e2,e3,e4⟩:=ptok_str ha.le (by rw[hhd];exact h5)
  rw[hhd] at e3 e4
  refine(literal_ok h hs hn.1.le (.inr e1) 2 0 _ (fun w=>value_str _ e1 e2 (by have:=hn.1.le;omega) w)).mono ?_
  rintro r w1 ⟨rfl,h1,k1⟩
  refine⟨?_,⟨_,hn.1,h1⟩,k1⟩
  rw[hat,e3,e4,show litK t=2 by unfold litK;rw[h5];rfl]
 ·have h0:t.kind=110:=by
   simp only[Doc.lit,Bool.or_eq_true,beq_iff_eq,Bool.and_eq_true] at hk
   rcases hk with h|h
   ·exact absurd h h5
   ·exact h.1
  obtain⟨e1,e2,e3⟩:=ptok_num ha.le (by rw[hhd];exact h0)
  rw[hhd] at e2 e3
  refine(literal_ok h hs hn.1.le (.inl e1) 1 t.N _ (fun w=>value_num _ e1 t.N w e3)).mono ?_
  rintro r w1 ⟨rfl,h1,k1⟩
  refine⟨?_,⟨_,hn.1,h1⟩,k1⟩
  rw[hat,e2,show litK t=1 by unfold litK;rw[h0];rfl];rfl
theorem literal_not (h:PSt B w rb s (ptok s p) op fault)(ha:At s L p i)(hk:Doc.lit false (Doc.tk L i)=false):
  Calls Tryz.prog 217 #[.pointer (some ⟨rb,0,none⟩)] w fun r w'=>r=.returned (.tuple #[.agg #[.int .i64 0,.int .i64 0,.string ⟨#[]⟩,.int .i64 0],.bool false])∧PSt B w' rb s (ptok s p) op fault∧PM B rb w w':=by
 rw[←ha.hd] at hk
 simp only[Doc.lit,Bool.not_false,Bool.and_true,Bool.or_eq_false_iff] at hk
 have hkk:=ptok_kinds ha.le
 exact literal_no h (hkk.1.trans hk.2) (hkk.2.1.trans hk.1)
set_option maxHeartbeats 1000000 in
theorem single_yes (h:PSt B w rb s (ptok s p) op fault)(ha:At s L p i)(hE:Doc.Ended L)(hs:s.size≤200)(t:Doc.Tok)(ht:t=Doc.tk L i)(hk:Doc.lit false t=true):
  Calls Tryz.prog 211 #[.pointer (some ⟨rb,0,none⟩)] w fun r w'=>∃g,r=.returned (.tuple #[.slice (some ⟨g,0,none⟩) 1 1,.bool true])∧w.heap.size≤g∧w'.heap[g]? =some (.cells (litC t).toArray 230 (0,0))∧PR B w' rb s L (i+1) op fault∧PM B rb w w':=by
 have HC:Hid (∀w',PSt B w' rb s (ptok s p) op fault→Calls Tryz.prog 217 #[.pointer (some ⟨rb,0,none⟩)] w' fun r w''=>r=.returned (.tuple #[.agg #[.int .i64 (litK t),.int .i64 t.N,.string t.S,.int .i64 t.at_],.bool true])∧PR B w'' rb s L (i+1) op fault∧PM B rb w' w''):=fun w' h'=>literal_yes h' ha hE hs t ht hk
 have HX:Hid (t=Doc.tk L i):=ht
 clear ht hk
 go_enter Tryz.func211,Tryz.ntmps211
 go_wp2_with (go_at_call 217;refine(HC.out _ (by first|exact h|exact h.alloc _)).mono ?_;rintro r w1 ⟨rfl,h1,k1⟩)
 go_ret2
 have hz:=k1.below.size
 refine⟨w1.heap.size+1,rfl,by omega,?_,(h1.alloc _).alloc _,(k1.alloc h1.Ble _).alloc (h1.alloc _).Ble _⟩
 have:=heap_alloc_new (w1.alloc (.cells #[.int .i64 (litK t),.int .i64 t.N,.string t.S,.int .i64 t.at_] 230)) (.cells #[.int .i64 (litK t),.int .i64 t.N,.string t.S,.int .i64 t.at_] 230)
 simpa[litC] using this
set_option maxHeartbeats 1000000 in
theorem single_not (h:PSt B w rb s (ptok s p) op fault)(ha:At s L p i)(hk:Doc.lit false (Doc.tk L i)=false):
  Calls Tryz.prog 211 #[.pointer (some ⟨rb,0,none⟩)] w fun r w'=>r=.returned (.tuple #[.slice none 0 0,.bool false])∧PSt B w' rb s (ptok s p) op fault∧PM B rb w w':=by
 have HC:Hid (∀w',PSt B w' rb s (ptok s p) op fault→Calls Tryz.prog 217 #[.pointer (some ⟨rb,0,none⟩)] w' fun r w''=>r=.returned (.tuple #[.agg #[.int .i64 0,.int .i64 0,.string ⟨#[]⟩,.int .i64 0],.bool false])∧PSt B w'' rb s (ptok s p) op fault∧PM B rb w' w''):=fun w' h'=>literal_not h' ha hk
 clear hk
 go_enter Tryz.func211,Tryz.ntmps211
 go_wp2_with (go_at_call 217;refine(HC.out _ (by first|exact h|exact h.alloc _)).mono ?_;rintro r w1 ⟨rfl,h1,k1⟩)
 go_ret2
 exact⟨rfl,h1.alloc _,k1.alloc h1.Ble _⟩
set_option maxHeartbeats 1000000 in
theorem prefix_yes (h:PSt B w rb s (ptok s p) op fault)(ha:At s L p i)(hE:Doc.Ended L)(hs:s.size≤200)(t:Doc.Tok)(ht:t=Doc.tk L i)(hk:Doc.lit true t=true):
  Calls Tryz.prog 208 #[.pointer (some ⟨rb,0,none⟩)] w fun r w'=>∃g,r=.returned (.tuple #[.slice (some ⟨g,0,none⟩) 1 1,.bool true])∧w.heap.size≤g∧w'.heap[g]? =some (.cells (litC t).toArray 230 (0,0))∧PR B w' rb s L (i+1) op fault∧PM B rb w w':=by
 have h5:t.kind=115:=by simpa[Doc.lit] using hk
 have h4:(ptok s p).kind=4:=by
  have:=(ptok_kinds ha.le).2.1
  rw[ha.hd,←ht,h5] at this;simpa using this
 have HC:Hid _:=single_yes h ha hE hs t ht (by simp[Doc.lit,h5])
 have c1:=h.c1
 rw[h4] at c1
 clear hk h5 h4
 go_enter Tryz.func208,Tryz.ntmps208
 go_wp2_with fail
 refine Calls.mono HC.out ?_
 rintro r w1 ⟨g,rfl,h1⟩
 have H1:Hid _:=h1
 clear h1
 go_wp2_with fail
 go_ret2
 exact⟨g,rfl,H1.out⟩
set_option maxHeartbeats 1000000 in
theorem prefix_not (h:PSt B w rb s (ptok s p) op fault)(ha:At s L p i)(hk:Doc.lit true (Doc.tk L i)=false):
  Calls Tryz.prog 208 #[.pointer (some ⟨rb,0,none⟩)] w fun r w'=>r=.returned (.tuple #[.slice none 0 0,.bool false])∧PSt B w' rb s (ptok s p) op fault∧PM B rb w w':=by
 have h4:((ptok s p).kind != 4)=true:=by
  have:=(ptok_kinds ha.le).2.1
  rw[ha.hd] at this
  have h5:((Doc.tk L i).kind==115)=false:=by simpa[Doc.lit] using hk
  rw[h5] at this
  rw[bne,this];rfl
 have c1:=h.c1
 clear hk
 go_enter Tryz.func208,Tryz.ntmps208
 go_wp2_with fail
 go_ret2
 exact⟨rfl,h,PM.refl _ _ _⟩
set_option maxHeartbeats 1000000 in
theorem null_yes (h:PSt B w rb s (ptok s p) op fault)(ha:At s L p i)(hE:Doc.Ended L)(hs:s.size≤200)(hk:Doc.is (Doc.tk L i) [110,117,108,108]=true):
  Calls Tryz.prog 209 #[.pointer (some ⟨rb,0,none⟩)] w fun r w'=>r=.returned (.tuple #[.slice none 0 0,.bool true])∧PR B w' rb s L (i+1) op fault∧PM B rb w w':=by
 have HC:Hid _:=takeIf_at h ha hE hs [110,117,108,108] bare_null hk
 clear hk
 go_enter Tryz.func209,Tryz.ntmps209
 go_wp2_with fail
 refine Calls.mono HC.out ?_
 rintro r w1 ⟨rfl,h1,k1⟩
 go_wp2_with fail
 go_ret2
 exact⟨rfl,h1,k1⟩
set_option maxHeartbeats 1000000 in
theorem null_not (h:PSt B w rb s (ptok s p) op fault)(ha:At s L p i)(hk:Doc.is (Doc.tk L i) [110,117,108,108]=false):
  Calls Tryz.prog 209 #[.pointer (some ⟨rb,0,none⟩)] w fun r w'=>r=.returned (.tuple #[.slice none 0 0,.bool false])∧PSt B w' rb s (ptok s p) op fault∧PM B rb w w':=by
 have HC:Hid _:=takeIf_not h ha [110,117,108,108] bare_null hk
 clear hk
 go_enter Tryz.func209,Tryz.ntmps209
 go_wp2_with fail
 refine Calls.mono HC.out ?_
 rintro r w1 ⟨rfl,rfl⟩
 go_wp2_with fail
 go_ret2
 exact⟨rfl,h,PM.refl _ _ _⟩
end
theorem Tryz.infoLit:(Tryz.prog.info? 230).map (fun i=>(i.zero,i.size,i.bytes))=some (some (.agg #[.int .i64 0,.int .i64 0,.string ⟨#[]⟩,.int .i64 0]),4,40):=by kernel_rfl
section
variable {B:Nat}{w:World}{rb:Nat}{s:ByteArray}{L:List Doc.Tok}{p i op fault:Nat}
theorem own_pm {wx w':World}{m:Nat}{e:TypeId}{size n:Nat}{v:Value}{xs:List Value}(h:wx.ownsRow m e size v n xs)(hm:rb<m)(k:PM B rb wx w'):w'.ownsRow m e size v n xs:=by
 obtain⟨h1,h2⟩:=h
 refine⟨h1,?_⟩
 rcases h2 with h2|⟨g,cap,cur,hv,hg,hh,r⟩
 ·exact .inl h2
 ·exact .inr ⟨g,cap,cur,hv,hg,k.blk hh (by omega),r⟩
theorem PSt.grown {t:PTok}{w5 w6:World}{row:Option Nat}(h:PSt B w5 rb s t op fault)(hg:w5.grownBy w6 row)(hr:∀k,row=some k→rb<k):PSt B w6 rb s t op fault:=by
 have hb:=(Below.refl B w5).grown hg h.Ble (fun k hk=>by have:=hr k hk;have:=h.base;omega)
 exact⟨(hg.block rb h.lt (fun e=>by have:=hr rb e.symm;omega)).trans h.blk,h.sg.below hb h.sB,h.base,h.sB⟩
theorem PR.grown {w5 w6:World}{row:Option Nat}(h:PR B w5 rb s L i op fault)(hg:w5.grownBy w6 row)(hr:∀k,row=some k→rb<k):PR B w6 rb s L i op fault:=by
 obtain⟨q,h1,h2⟩:=h.has;exact⟨q,h1,h2.grown hg hr⟩
theorem PM.grown {w5 w6:World}{row:Option Nat}(h:PM B rb w w5)(hB:B≤w5.heap.size)(hg:w5.grownBy w6 row)(hr:∀k,row=some k→w.heap.size≤k)(hr2:∀k,row=some k→B≤k):PM B rb w w6:=
 ⟨h.below.grown hg hB hr2,fun k hk hf=>(hg.block k (Nat.lt_of_lt_of_le hk h.below.size) (fun e=>by have:=hr k e.symm;omega)).trans (h.only k hk hf)⟩
def ListPost (B rb:Nat)(s:ByteArray)(L:List Doc.Tok)(op fault:Nat)(w:World)(res:Doc.Res (List Doc.Tok))(r:Ending)(w':World):Prop:=
 match res with
 | .ok lits j=>∃v,r=.returned (.tuple #[v,.bool true])∧w'.ownsRow w.heap.size 230 4 v lits.length (litsC lits)∧PR B w' rb s L j op fault∧PM B rb w w'
 | .err e q=>∃v j,r=.returned (.tuple #[v,.bool false])∧v.oneCell'=true∧e=6∧q=(Doc.tk L j).at_∧PR B w' rb s L j op fault∧PM B rb w w'
def readMeas (n rb:Nat)(wx:World):Nat:=n-(intOf ((wx.cell? ⟨rb,3,none⟩).getD undef)).toNat
theorem readMeas_eq {t:PTok}(n:Nat)(h:PSt B w rb s t op fault):readMeas n rb w=n-t.at_:=by
 simp[readMeas,h.c3,intOf]
theorem At.at_lt {p2 i2:Nat}(ha:At s L p i)(hk:(Doc.tk L i).kind=119∨(Doc.tk L i).kind=110∨(Doc.tk L i).kind=115∨(Doc.tk L i).kind=103)(h2:At s L p2 i2)(hp:(ptok s p).at_ +(ptok s p).text.size≤p2):(ptok s p).at_<(ptok s p2).at_∧(ptok s p2).at_≤s.size:=by
 have hK:(Doc.hd s p).kind=119∨(Doc.hd s p).kind=110∨(Doc.hd s p).kind=115∨(Doc.hd s p).kind=103:=by rw[ha.hd];exact hk
 have h1:(ptok s p).at_<(ptok s p).at_ +(ptok s p).text.size:=by
  rcases ptok_cases ha.le with⟨_,_,h3⟩|⟨_,_,h3⟩|⟨a,k,n,_,hx,_,hn,hle,h1,_⟩
  ·rw[h3] at hK;exact absurd hK (by decide)
  ·rw[h3] at hK;exact absurd hK (by decide)
  ·rw[h1];show a<a+(s.extract a (a+n)).size;simp;omega
 have h4:=Doc.past_le h2.le
 have h5:Doc.past s p2≤(ptok s p2).at_∧(ptok s p2).at_≤s.size:=by
  unfold ptok
  split
  ·exact⟨h4.2,Nat.le_refl _⟩
  ·split<;>exact⟨Nat.le_refl _,h4.2⟩
 omega
theorem PR.step (h:PR B w rb s L i op fault)(hE:Doc.Ended L)(hk:(Doc.tk L i).kind=119∨(Doc.tk L i).kind=110∨(Doc.tk L i).kind=115∨(Doc.tk L i).kind=103):(Doc.tk L i).at_<(Doc.tk L (i+1)).at_∧(Doc.tk L (i+1)).at_≤s.size:=by
 obtain⟨q,h1,_⟩:=h.has
 have h2:=(h1.next hE hk).1
 rw[←h1.at_,←h2.at_]
 exact h1.at_lt hk h2 (Nat.le_refl _)
theorem PR.meas (n:Nat)(h:PR B w rb s L i op fault):readMeas n rb w=n-(Doc.tk L i).at_:=by
 obtain⟨q,h1,h2⟩:=h.has
 rw[readMeas_eq n h2,h1.at_]
theorem PR.ltL (h:PR B w rb s L i op fault):i<L.length:=by obtain⟨_,h1,_⟩:=h.has;exact h1.lt
theorem PR.rlt (h:PR B w rb s L i op fault):rb<w.heap.size:=by obtain⟨_,_,h2⟩:=h.has;exact h2.lt
theorem PR.base (h:PR B w rb s L i op fault):B≤rb:=by obtain⟨_,_,h2⟩:=h.has;exact h2.base
theorem litr_yes (h:PR B w rb s L i op fault)(hE:Doc.Ended L)(hs:s.size≤200)(t:Doc.Tok)(ht:t=Doc.tk L i)(hk:Doc.lit false t=true):
  Calls Tryz.prog 217 #[.pointer (some ⟨rb,0,none⟩)] w fun r w'=>r=.returned (.tuple #[.agg #[.int .i64 (litK t),.int .i64 t.N,.string t.S,.int .i64 t.at_],.bool true])∧PR B w' rb s L (i+1) op fault∧PM B rb w w':=by
 obtain⟨q,h1,h2⟩:=h.has
 exact literal_yes h2 h1 hE hs t ht hk
theorem litr_not (h:PR B w rb s L i op fault)(hk:Doc.lit false (Doc.tk L i)=false):
  Calls Tryz.prog 217 #[.pointer (some ⟨rb,0,none⟩)] w fun r w'=>r=.returned (.tuple #[.agg #[.int .i64 0,.int .i64 0,.string ⟨#[]⟩,.int .i64 0],.bool false])∧PR B w' rb s L i op fault∧PM B rb w w':=by
 obtain⟨q,h1,h2⟩:=h.has
 refine(literal_not h2 h1 hk).mono ?_
 rintro r w' ⟨rfl,h3,h4⟩
 exact⟨rfl,⟨q,h1,h3⟩,h4⟩
theorem takr_yes (h:PR B w rb s L i op fault)(hE:Doc.Ended L)(hs:s.size≤200)(l:List UInt8)(hx:Bare l)(hk:Doc.is (Doc.tk L i) l=true):
  Calls Tryz.prog 161 #[.pointer (some ⟨rb,0,none⟩),.string ⟨l.toArray⟩] w fun r w'=>r=.returned (.bool true)∧PR B w' rb s L (i+1) op fault∧PM B rb w w':=by
 obtain⟨q,h1,h2⟩:=h.has
 exact takeIf_at h2 h1 hE hs l hx hk
theorem takr_not (h:PR B w rb s L i op fault)(l:List UInt8)(hx:Bare l)(hk:Doc.is (Doc.tk L i) l=false):
  Calls Tryz.prog 161 #[.pointer (some ⟨rb,0,none⟩),.string ⟨l.toArray⟩] w fun r w'=>r=.returned (.bool false)∧w'=w:=by
 obtain⟨q,h1,h2⟩:=h.has
 exact takeIf_not h2 h1 l hx hk
theorem cells_new_at (w:World)(cs:List Value)(T:TypeId)(n:Nat)(hn:n=w.heap.size):∀j u,cs[j]? =some u→(w.alloc (.cells cs.toArray T (0,0))).cell? ((⟨n,0,none⟩:Addr).add j)=some u:=by
 intro j u hj
 subst hn
 have:=cell_new_fr w cs.toArray T (0,0) j
 rw[show(⟨w.heap.size,0,none⟩:Addr).add j=⟨w.heap.size,j,none⟩ by simp[Addr.add];omega]
 rw[this];simpa using hj
theorem len_snoc' (l:List Doc.Tok)(t:Doc.Tok):(l++[t]).length=l.length+1:=by simp
set_option maxHeartbeats 4000000 in
theorem list_yes (h:PR B w rb s L i op fault)(hE:Doc.Ended L)(hL:L.length≤300)(hs:s.size≤200)(hk:Doc.is (Doc.tk L i) [40]=true):
  Calls Tryz.prog 207 #[.pointer (some ⟨rb,0,none⟩)] w (ListPost B rb s L op fault w (Doc.pLits L (L.length+1) [] (i+1))):=by
 obtain⟨i0,hti,htz0,htz1,htz2⟩:=info_parts Tryz.infoLit
 have HC:Hid _:=takr_yes h hE hs [40] bare_open hk
 have hr0:=h.rlt
 have hb0:=h.Ble
 clear hk
 go_enter Tryz.func207,Tryz.ntmps207
 go_wp2_with fail
 refine Calls.mono HC.out ?_
 rintro r w1 ⟨rfl,h1,k1⟩
 go_wp2_with fail
 go_loopw [4] (fun lv wx=>∃(n j:Nat) (acc:List Doc.Tok),wx.ownsRow w.heap.size 230 4 lv acc.length (litsC acc)∧PR B wx rb s L j op fault∧PM B rb w wx∧L.length-j<n∧acc.length≤j∧Hid (Doc.pLits L (L.length+1) [] (i+1)=Doc.pLits L n acc j)) (fun _ wx=>readMeas (s.size+1) rb wx)
 case atStart=>exact⟨L.length+1,i+1,[],World.ownsRow_nil _ _ _ _,h1,k1,by omega,by simp,by show _=_;rfl⟩
 case round=>
  obtain⟨n,j,acc,hown,hx,kx,hn,hacc,HL⟩:=hrel
  obtain⟨n,rfl⟩:∃q,n=q+1:=⟨n-1,by omega⟩
  clear h1 k1 HC
  have hj:=hx.ltL
  by_cases k8:Doc.lit false (Doc.tk L j)=true
  ·obtain⟨x,HX⟩:∃x,Hid (x=Doc.tk L j):=⟨_,rfl⟩
   have hst:=hx.step hE (Doc.lit_kind k8)
   have hms:=hx.meas (s.size+1)
   have k8x:Doc.lit false x=true:=by rw[HX.out];exact k8
   have HK:Hid (Doc.lit false x=true):=k8x
   clear k8 k8x
   go_wp2_with (first|(go_at_call 217;refine(litr_yes (by first|exact hx|exact hx.alloc _) hE hs x HX.out HK.out).mono ?_;rintro r w2 ⟨rfl,h2,k2⟩)|(at_builtin;refine wpList_append_own _ rfl (.tmp 17) (.tmp 19) 67 rfl w.heap.size 230 i0 _ 4 40 Tryz.underlying67 hti htz0 htz1 htz2 rfl (by decide) _ _ _ rfl (((own_pm hown hr0 k2).alloc _).alloc _) ⟨w2.heap.size+1,0,none⟩ 1 1 (litC x) rfl rfl ?c1 (litC_one x) ?c3 ?c4 ?c5 ?_))
   case c1=>exact cells_new_at _ (litC x) _ _ (by simp)
   case c3=>unfold maxLen;omega
   case c4=>omega
   case c5=>have:=kx.below.size;have:=k2.below.size;simp;omega
   intro v3 w3 hown3 hgrow3 _
   obtain⟨g3,cap3,rfl⟩:=own_slice hown3
   have hownA:=((own_pm hown hr0 k2).alloc (.cells #[.int .i64 (litK x),.int .i64 x.N,.string x.S,.int .i64 x.at_] 230)).alloc (.cells #[.int .i64 (litK x),.int .i64 x.N,.string x.S,.int .i64 x.at_] 230)
   have hrow:=fun k hk=>(hownA.lt k hk).1
   have h3:=((h2.alloc _).alloc _).grown hgrow3 (fun k hk=>Nat.lt_of_lt_of_le hr0 (hrow k hk))
   have k3:=(((kx.trans k2).alloc h2.Ble _).alloc (h2.alloc _).Ble _).grown ((h2.alloc _).alloc _).Ble hgrow3 (fun k hk=>hrow k hk) (fun k hk=>Nat.le_trans hb0 (hrow k hk))
   have hown4:w3.ownsRow w.heap.size 230 4 (.slice (some ⟨g3,0,none⟩) (acc.length+1) cap3) (acc++[x]).length (litsC (acc++[x])):=by
    rw[len_snoc',litsC_snoc];exact hown3
   clear hownA hrow hgrow3 hown3 hown h2 k2 kx
   by_cases k9:Doc.is (Doc.tk L (j+1)) [44]=true
   ·have hst2:=h3.step hE (Doc.is_kind k9)
    have HN:Hid (Doc.pLits L (L.length+1) [] (i+1)=Doc.pLits L n (acc++[x]) (j+2)):=HL.out.trans (pLits_more HX.out rfl HK.out k9)
    have HC:Hid _:=takr_yes h3 hE hs [44] bare_comma k9
    clear k9
    go_wp2_with fail
    refine Calls.mono HC.out ?_
    rintro r w4 ⟨rfl,h4,k4⟩
    go_wp2_with fail
    have hj4:=h4.ltL
    go_roundw
    case rel=>exact⟨n,j+2,acc++[x],own_pm hown4 hr0 k4,h4,k3.trans k4,by omega,by simp;omega,HN⟩
    case measure=>rw[hms,h4.meas (s.size+1)];omega
   ·have k9:Doc.is (Doc.tk L (j+1)) [44]=false:=by simpa using k9
    have HN:Hid (Doc.pLits L (L.length+1) [] (i+1)=if Doc.is (Doc.tk L (j+1)) [41] then .ok (acc++[x]) (j+1+1) else .err 6 (Doc.tk L (j+1)).at_):=HL.out.trans (pLits_last HX.out rfl HK.out k9)
    have HC:Hid _:=takr_not h3 [44] bare_comma k9
    clear k9
    go_wp2_with fail
    refine Calls.mono HC.out ?_
    rintro r w4 ⟨rfl,rfl⟩
    by_cases k10:Doc.is (Doc.tk L (j+1)) [41]=true
    ·have HC2:Hid _:=takr_yes h3 hE hs [41] bare_close k10
     have HN2:Hid (Doc.pLits L (L.length+1) [] (i+1)=.ok (acc++[x]) (j+2)):=by show _=_;rw[HN.out,if_pos k10]
     clear k10
     go_wp2_with fail
     refine Calls.mono HC2.out ?_
     rintro r w5 ⟨rfl,h5,k5⟩
     go_wp2_with fail
     go_ret2
     rw[HN2.out]
     exact⟨_,rfl,own_pm hown4 hr0 k5,h5,k3.trans k5⟩
    ·have k10:Doc.is (Doc.tk L (j+1)) [41]=false:=by simpa using k10
     have HC2:Hid _:=takr_not h3 [41] bare_close k10
     have HN2:Hid (Doc.pLits L (L.length+1) [] (i+1)=.err 6 (Doc.tk L (j+1)).at_):=by show _=_;rw[HN.out,if_neg (by rw[k10];simp)]
     clear k10
     go_wp2_with fail
     refine Calls.mono HC2.out ?_
     rintro r w5 ⟨rfl,rfl⟩
     go_wp2_with fail
     go_ret2
     rw[HN2.out]
     exact⟨_,j+1,rfl,rfl,rfl,rfl,h3,k3⟩
  ·have k8:Doc.lit false (Doc.tk L j)=false:=by simpa using k8
   have HN:Hid (Doc.pLits L (L.length+1) [] (i+1)=.err 6 (Doc.tk L j).at_):=HL.out.trans (pLits_bad rfl k8)
   have HK:Hid (Doc.lit false (Doc.tk L j)=false):=k8
   clear k8 hown
   go_wp2_with (go_at_call 217;refine(litr_not (by first|exact hx|exact hx.alloc _) HK.out).mono ?_;rintro r w2 ⟨rfl,h2,k2⟩)
   go_ret2
   rw[HN.out]
   exact⟨_,j,rfl,rfl,rfl,rfl,h2.alloc _,(kx.trans k2).alloc h2.Ble _⟩
end
section
variable {B:Nat}{w:World}{rb:Nat}{s:ByteArray}{L:List Doc.Tok}{p i op fault:Nat}{t:PTok}
set_option maxHeartbeats 1000000 in
theorem list_not (h:PR B w rb s L i op fault)(hk:Doc.is (Doc.tk L i) [40]=false):
  Calls Tryz.prog 207 #[.pointer (some ⟨rb,0,none⟩)] w fun r w'=>r=.returned (.tuple #[.slice none 0 0,.bool false])∧w'=w:=by
 have HC:Hid _:=takr_not h [40] bare_open hk
 clear hk
 go_enter Tryz.func207,Tryz.ntmps207
 go_wp2_with fail
 refine Calls.mono HC.out ?_
 rintro r w1 ⟨rfl,rfl⟩
 go_wp2_with fail
 go_ret2
 exact⟨rfl,rfl⟩
set_option maxHeartbeats 1000000 in
theorem after_in (h:PSt B w rb s t op fault)(k1:(t.text.toList==[105,110])=true):
  Calls Tryz.prog 202 #[.pointer (some ⟨rb,0,none⟩)] w fun r w'=>r=.returned (.func (.func 207) #[.pointer (some ⟨rb,0,none⟩)] #[])∧w'=w:=by
 have c1:=h.c1
 have c2:=h.c2
 have c3:=h.c3
 go_enter Tryz.func202,Tryz.ntmps202
 go_wp2_with fail
 go_ret
 exact⟨rfl,rfl⟩
set_option maxHeartbeats 1000000 in
theorem after_like (h:PSt B w rb s t op fault)(k1:(t.text.toList==[105,110])=false)(k2:(t.text.toList==[108,105,107,101])=true):
  Calls Tryz.prog 202 #[.pointer (some ⟨rb,0,none⟩)] w fun r w'=>r=.returned (.func (.func 208) #[.pointer (some ⟨rb,0,none⟩)] #[])∧w'=w:=by
 have c1:=h.c1
 have c2:=h.c2
 have c3:=h.c3
 go_enter Tryz.func202,Tryz.ntmps202
 go_wp2_with fail
 go_ret
 exact⟨rfl,rfl⟩
set_option maxHeartbeats 1000000 in
theorem after_is (h:PSt B w rb s t op fault)(k1:(t.text.toList==[105,110])=false)(k2:(t.text.toList==[108,105,107,101])=false)(k3:(t.text.toList==[105,115])=true):
  Calls Tryz.prog 202 #[.pointer (some ⟨rb,0,none⟩)] w fun r w'=>r=.returned (.func (.func 209) #[.pointer (some ⟨rb,0,none⟩)] #[])∧w'=w:=by
 have c1:=h.c1
 have c2:=h.c2
 have c3:=h.c3
 go_enter Tryz.func202,Tryz.ntmps202
 go_wp2_with fail
 go_ret
 exact⟨rfl,rfl⟩
set_option maxHeartbeats 1000000 in
theorem after_cmp (h:PSt B w rb s t op fault)(k1:(t.text.toList==[105,110])=false)(k2:(t.text.toList==[108,105,107,101])=false)(k3:(t.text.toList==[105,115])=false)(k4:pCmp t=true):
  Calls Tryz.prog 202 #[.pointer (some ⟨rb,0,none⟩)] w fun r w'=>r=.returned (.func (.func 211) #[.pointer (some ⟨rb,0,none⟩)] #[])∧Below w.heap.size w w':=by
 have c1:=h.c1
 have c2:=h.c2
 have c3:=h.c3
 have HK:Hid (pCmp t=true):=k4
 clear k4
 go_enter Tryz.func202,Tryz.ntmps202
 go_wp2_with fail
 refine(cmps_any t w).mono ?_
 rw[HK.out]
 rintro r w1 ⟨rfl,hb⟩
 go_wp2_with fail
 go_ret
 exact⟨rfl,hb⟩
set_option maxHeartbeats 1000000 in
theorem after_nil (h:PSt B w rb s t op fault)(k1:(t.text.toList==[105,110])=false)(k2:(t.text.toList==[108,105,107,101])=false)(k3:(t.text.toList==[105,115])=false)(k4:pCmp t=false):
  Calls Tryz.prog 202 #[.pointer (some ⟨rb,0,none⟩)] w fun r w'=>r=.returned (.nilFunc)∧Below w.heap.size w w':=by
 have c1:=h.c1
 have c2:=h.c2
 have c3:=h.c3
 have HK:Hid (pCmp t=false):=k4
 clear k4
 go_enter Tryz.func202,Tryz.ntmps202
 go_wp2_with fail
 refine(cmps_any t w).mono ?_
 rw[HK.out]
 rintro r w1 ⟨rfl,hb⟩
 go_wp2_with fail
 go_ret
 exact⟨rfl,hb⟩
end
inductive RepT (w:World) (F:Nat→Prop):Nat→List Value→Doc.Ast→Prop
 |test {name ask:Doc.Tok} {lits:List Doc.Tok} {v:Value}:w.ownsRow 0 230 4 v lits.length (litsC lits)→(∀k,v.ownBlock=some k→F k)→RepT w F 0 [.int .i64 3,.slice none 0 0,.string name.S,.int .i64 name.at_,.string ask.S,.int .i64 ask.at_,v] (.test name ask lits)
 |not {cs:List Value} {a:Doc.Ast} {v:Value}:RepT w F 0 cs a→w.ownsRow 0 69 7 v 1 cs→(∀k,v.ownBlock=some k→F k)→RepT w F 0 [.int .i64 2,v,.string ⟨#[]⟩,.int .i64 0,.string ⟨#[]⟩,.int .i64 0,.slice none 0 0] (.not a)
 |one {cs:List Value} {a:Doc.Ast} {k:Nat}:RepT w F 0 cs a→k=1∨k=2→RepT w F k cs a
 |andL {l cs:List Value} {a b:Doc.Ast}:RepT w F 1 l a→RepT w F 0 cs b→RepT w F 1 (l++cs) (.and a b)
 |orL {l cs:List Value} {a b:Doc.Ast}:RepT w F 2 l a→RepT w F 0 cs b→RepT w F 2 (l++cs) (.or a b)
 |and {l cs:List Value} {a b:Doc.Ast} {n:Nat} {v:Value}:RepT w F 1 l a→RepT w F 0 cs b→w.ownsRow 0 69 7 v n (l++cs)→(∀k,v.ownBlock=some k→F k)→RepT w F 0 [.int .i64 1,v,.string ⟨#[]⟩,.int .i64 0,.string ⟨#[]⟩,.int .i64 0,.slice none 0 0] (.and a b)
 |or {l cs:List Value} {a b:Doc.Ast} {n:Nat} {v:Value}:RepT w F 2 l a→RepT w F 0 cs b→w.ownsRow 0 69 7 v n (l++cs)→(∀k,v.ownBlock=some k→F k)→RepT w F 0 [.int .i64 0,v,.string ⟨#[]⟩,.int .i64 0,.string ⟨#[]⟩,.int .i64 0,.slice none 0 0] (.or a b)
theorem own_kept {w w':World}{m:Nat}{e:TypeId}{size n:Nat}{v:Value}{xs:List Value}(h:w.ownsRow m e size v n xs)(hk:∀k o,v.ownBlock=some k→w.heap[k]? =some o→w'.heap[k]? =some o):w'.ownsRow m e size v n xs:=by
 obtain⟨h1,h2⟩:=h
 refine⟨h1,?_⟩
 rcases h2 with h2|⟨g,cap,cur,hv,hg,hh,r⟩
 ·exact .inl h2
 ·exact .inr ⟨g,cap,cur,hv,hg,hk g _ (by rw[hv];rfl) hh,r⟩
theorem own_there {w:World}{m:Nat}{e:TypeId}{size n:Nat}{v:Value}{xs:List Value}(h:w.ownsRow m e size v n xs){k:Nat}(hk:v.ownBlock=some k):k<w.heap.size:=by
 obtain⟨_,h2⟩:=h
 rcases h2 with⟨rfl,_⟩|⟨g,cap,cur,rfl,_,hh,_⟩
 ·cases hk
 ·cases hk;exact lt_block hh
theorem RepT.kept {w w':World}{F F':Nat→Prop}{k:Nat}{cs:List Value}{a:Doc.Ast}(h:RepT w F k cs a)(hk:∀k o,F k→w.heap[k]? =some o→w'.heap[k]? =some o)(hF:∀k,F k→k<w.heap.size→F' k):RepT w' F' k cs a:=by
 induction h with
 |test h1 h2=>exact .test (own_kept h1 (fun k o e=>hk k o (h2 k e))) (fun k e=>hF k (h2 k e) (own_there h1 e))
 |not _ h1 h2 ih=>exact .not ih (own_kept h1 (fun k o e=>hk k o (h2 k e))) (fun k e=>hF k (h2 k e) (own_there h1 e))
 |one _ h1 ih=>exact .one ih h1
 |andL _ _ ih1 ih2=>exact .andL ih1 ih2
 |orL _ _ ih1 ih2=>exact .orL ih1 ih2
 |and _ _ h1 h2 ih1 ih2=>exact .and ih1 ih2 (own_kept h1 (fun k o e=>hk k o (h2 k e))) (fun k e=>hF k (h2 k e) (own_there h1 e))
 |or _ _ h1 h2 ih1 ih2=>exact .or ih1 ih2 (own_kept h1 (fun k o e=>hk k o (h2 k e))) (fun k e=>hF k (h2 k e) (own_there h1 e))
def TPost (B rb:Nat)(s:ByteArray)(L:List Doc.Tok)(op fault:Nat)(w:World)(res:Doc.Res Doc.Ast)(r:Ending)(w':World):Prop:=
 match res with
 | .ok a j=>∃cs,r=.returned (.tuple #[.agg cs,.bool true])∧RepT w' (fun k=>w.heap.size≤k) 0 cs.toList a∧PR B w' rb s L j op fault∧PM B rb w w'
 | .err e q=>∃j,r=.returned (.tuple #[.agg #[.int .i64 0,.slice none 0 0,.string ⟨#[]⟩,.int .i64 0,.string ⟨#[]⟩,.int .i64 0,.slice none 0 0],.bool false])∧q=(Doc.tk L j).at_∧PR B w' rb s L j op e∧PM B rb w w'
end Go.Proofs.YtbnelaoeblhndaaGreatDoor
