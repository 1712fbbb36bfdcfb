import Derived.Test.YtbnelaoeblhndaaGreatDoorSynRead6
namespace Go.Proofs.YtbnelaoeblhndaaGreatDoor
open Go.RowKit
set_option maxRecDepth 100000
theorem run_fn_nil (f:FuncId)(xs:Array Value)(w:World):Sem.run Tryz.prog (binOp BinOp.eql 286 (.func (.func f) xs #[]) .nilFunc) w=.ok (.bool false) w:=by rfl
theorem run_nil_nil (w:World):Sem.run Tryz.prog (binOp BinOp.eql 286 .nilFunc .nilFunc) w=.ok (.bool true) w:=by rfl
section
variable {B:Nat}{w:World}{rb:Nat}{s:ByteArray}{L:List Doc.Tok}{p i j op fault:Nat}
theorem taker (h:PR B w rb s L i op fault)(hE:Doc.Ended L)(hs:s.size≤200)(t:Doc.Tok)(ht:t=Doc.tk L i)(hk:t.kind=119∨t.kind=103):
  Calls Tryz.prog 181 #[.pointer (some ⟨rb,0,none⟩)] w fun r w'=>∃k:Int,r=.returned (.agg #[.int .i64 k,.string t.S,.int .i64 t.at_])∧PR B w' rb s L (i+1) op fault∧PM B rb w w':=by
 obtain⟨q,h1,h2⟩:=h.has
 exact take_at h2 h1 hE hs t ht hk
theorem refuser (h:PR B w rb s L i op fault)(e:Nat):
  Calls Tryz.prog 77 #[.pointer (some ⟨rb,0,none⟩),.int .i64 e] w fun r w'=>r=.returned (.tuple #[.agg #[.int .i64 0,.slice none 0 0,.string ⟨#[]⟩,.int .i64 0,.string ⟨#[]⟩,.int .i64 0,.slice none 0 0],.bool false])∧PR B w' rb s L i op e∧PM B rb w w':=by
 obtain⟨q,h1,h2⟩:=h.has
 refine(refuse_st h2 e).mono ?_
 rintro r w' ⟨rfl,h3,h4⟩
 exact⟨rfl,⟨q,h1,h3⟩,h4⟩
theorem PR.hand (h:PR B w rb s L i op fault):∃x:PTok,w.cell? ⟨rb,1,none⟩=some (.int .i64 x.kind)∧w.cell? ⟨rb,2,none⟩=some (.string x.text)∧w.cell? ⟨rb,3,none⟩=some (.int .i64 x.at_)∧pName x=((Doc.tk L i).kind==119 && Doc.nameB (Doc.tk L i).S):=by
 obtain⟨q,h1,h2⟩:=h.has
 exact⟨ptok s q,h2.c1,h2.c2,h2.c3,by rw[ptok_name h1.le,h1.hd]⟩
theorem fv_cells {w:World}{b:Nat}{c0 c1 c2 c3 c4 c5 c6:Value}{T:TypeId}(h:w.heap[b]? =some (.cells #[c0,c1,c2,c3,c4,c5,c6] T (0,0))):
  w.cell? ⟨b,0,none⟩=some c0∧w.cell? ⟨b,1,none⟩=some c1∧w.cell? ⟨b,2,none⟩=some c2∧w.cell? ⟨b,3,none⟩=some c3∧w.cell? ⟨b,4,none⟩=some c4∧w.cell? ⟨b,5,none⟩=some c5∧w.cell? ⟨b,6,none⟩=some c6:=
 ⟨blk_cell h 0 _ rfl,blk_cell h 1 _ rfl,blk_cell h 2 _ rfl,blk_cell h 3 _ rfl,blk_cell h 4 _ rfl,blk_cell h 5 _ rfl,blk_cell h 6 _ rfl⟩
theorem fv_free {w:World}{b:Nat}{cs:Array Value}{T:TypeId}(h:w.heap[b]? =some (.cells cs T (0,0))):
  w.frozen? ⟨b,0,none⟩=false∧w.frozen? ⟨b,1,none⟩=false∧w.frozen? ⟨b,2,none⟩=false∧w.frozen? ⟨b,3,none⟩=false∧w.frozen? ⟨b,4,none⟩=false∧w.frozen? ⟨b,5,none⟩=false∧w.frozen? ⟨b,6,none⟩=false:=
 ⟨blk_free h 0,blk_free h 1,blk_free h 2,blk_free h 3,blk_free h 4,blk_free h 5,blk_free h 6⟩
theorem PR.set (h:PR B w rb s L i op fault){n k:Nat}(u:Value)(h1:n≠rb)(h2:B≤n):PR B (w.setCell ⟨n,k,none⟩ u) rb s L i op fault:=by
 obtain⟨q,a,b⟩:=h.has;exact⟨q,a,b.other u h1 h2⟩
theorem PR.set7 (h:PR B w rb s L i op fault){n:Nat}(c0 c1 c2 c3 c4 c5 c6:Value)(h1:n≠rb)(h2:B≤n):PR B (((((((w.setCell ⟨n,0,none⟩ c0).setCell ⟨n,1,none⟩ c1).setCell ⟨n,2,none⟩ c2).setCell ⟨n,3,none⟩ c3).setCell ⟨n,4,none⟩ c4).setCell ⟨n,5,none⟩ c5).setCell ⟨n,6,none⟩ c6) rb s L i op fault:=
 ((((((h.set c0 h1 h2).set c1 h1 h2).set c2 h1 h2).set c3 h1 h2).set c4 h1 h2).set c5 h1 h2).set c6 h1 h2
theorem PM.set7 {W:World}(h:PM B rb w W){n:Nat}(c0 c1 c2 c3 c4 c5 c6:Value)(h1:w.heap.size≤n)(h2:B≤n):PM B rb w (((((((W.setCell ⟨n,0,none⟩ c0).setCell ⟨n,1,none⟩ c1).setCell ⟨n,2,none⟩ c2).setCell ⟨n,3,none⟩ c3).setCell ⟨n,4,none⟩ c4).setCell ⟨n,5,none⟩ c5).setCell ⟨n,6,none⟩ c6):=
 ((((((h.late c0 h1 h2).late c1 h1 h2).late c2 h1 h2).late c3 h1 h2).late c4 h1 h2).late c5 h1 h2).late c6 h1 h2
set_option maxHeartbeats 2000000 in
theorem test_noname (h:PR B w rb s L i op fault)(hk:((Doc.tk L i).kind==119 && Doc.nameB (Doc.tk L i).S)=false):
  Calls Tryz.prog 185 #[.pointer (some ⟨rb,0,none⟩)] w (TPost B rb s L op fault w (.err 6 (Doc.tk L i).at_)):=by
 obtain⟨x,c1,c2,c3,hn⟩:=h.hand
 have HN:Hid (pName x=false):=hn.trans hk
 have hlt:=h.rlt
 have hne:w.heap.size≠rb:=by omega
 clear hn hk
 go_enter Tryz.func185,Tryz.ntmps185
 go_wp2_with fail
 refine(isName_any x _).mono ?_
 rw[HN.out]
 rintro r w1 ⟨rfl,hb1⟩
 have h1:=(h.alloc _).below hb1
 have q1:=(hb1.block w.heap.size (by simp)).trans (heap_alloc_new w _)
 have k1:=((PM.refl B rb w).alloc h.Ble _).trans (PM.ofBelow hb1 (h.alloc _).Ble)
 go_wp2_with fail
 refine(refuser h1 6).mono ?_
 rintro r w2 ⟨rfl,h2,k2⟩
 have q2:=k2.blk q1 hne
 obtain⟨a0,a1,a2,a3,a4,a5,a6⟩:=fv_cells q2
 obtain⟨x0,x1,x2,x3,x4,x5,x6⟩:=fv_free q2
 have hlt2:=lt_block q2
 go_wp2_with fail
 exact bodyPost_ret (v:=.tuple #[.agg #[.int .i64 0,.slice none 0 0,.string ⟨#[]⟩,.int .i64 0,.string ⟨#[]⟩,.int .i64 0,.slice none 0 0],.bool false]) (by simp[results,Tryz.results185,go_sem,a0,a1,a2,a3,a4,a5,a6]) rfl ⟨i,rfl,rfl,h2.set7 _ _ _ _ _ _ _ hne h.Ble,(k1.trans k2).set7 _ _ _ _ _ _ _ (Nat.le_refl _) h.Ble⟩
theorem set7_block {w:World}{n k:Nat}(c0 c1 c2 c3 c4 c5 c6:Value)(h:k≠n):(((((((w.setCell ⟨n,0,none⟩ c0).setCell ⟨n,1,none⟩ c1).setCell ⟨n,2,none⟩ c2).setCell ⟨n,3,none⟩ c3).setCell ⟨n,4,none⟩ c4).setCell ⟨n,5,none⟩ c5).setCell ⟨n,6,none⟩ c6).heap[k]? =w.heap[k]? :=by
 rw[Below.heap_setCell _ _ _ _ h,Below.heap_setCell _ _ _ _ h,Below.heap_setCell _ _ _ _ h,Below.heap_setCell _ _ _ _ h,Below.heap_setCell _ _ _ _ h,Below.heap_setCell _ _ _ _ h,Below.heap_setCell _ _ _ _ h]
theorem test_end {w6:World}{M:Nat}{v:Value}{t u:Doc.Tok}{lits:List Doc.Tok}(h6:PR B w6 rb s L j op fault)(k8:PM B rb w w6)(HO:w6.ownsRow M 230 4 v lits.length (litsC lits))(hM2:w.heap.size<M)(hne:w.heap.size≠rb)(hB:B≤w.heap.size):
  TPost B rb s L op fault w (.ok (.test t u lits) j) (.returned (.tuple #[.agg #[.int .i64 3,.slice none 0 0,.string t.S,.int .i64 t.at_,.string u.S,.int .i64 u.at_,v],.bool true])) (((((((w6.setCell ⟨w.heap.size,0,none⟩ (.int .i64 3)).setCell ⟨w.heap.size,1,none⟩ (.slice none 0 0)).setCell ⟨w.heap.size,2,none⟩ (.string t.S)).setCell ⟨w.heap.size,3,none⟩ (.int .i64 t.at_)).setCell ⟨w.heap.size,4,none⟩ (.string u.S)).setCell ⟨w.heap.size,5,none⟩ (.int .i64 u.at_)).setCell ⟨w.heap.size,6,none⟩ v):=by
 refine⟨_,rfl,?_,h6.set7 _ _ _ _ _ _ _ hne hB,k8.set7 _ _ _ _ _ _ _ (Nat.le_refl _) hB⟩
 have hblk:∀k,v.ownBlock=some k→M≤k:=fun k hk=>(HO.lt k hk).1
 refine RepT.test (own_mono (own_kept HO (fun k o hk ho=>?_)) (Nat.zero_le _)) (fun k hk=>by have:=hblk k hk;omega)
 have:=hblk k hk
 rw[set7_block _ _ _ _ _ _ _ (by omega)]
 exact ho
set_option maxHeartbeats 2000000 in
theorem test_ok (h:PR B w rb s L i op fault)(hE:Doc.Ended L)(hs:s.size≤200)(t u:Doc.Tok)(ht:t=Doc.tk L i)(hu:u=Doc.tk L (i+1))(hk:(t.kind==119 && Doc.nameB t.S)=true)(hku:u.kind=119∨u.kind=103)(f:FuncId)(hf:∀(xs:Array Value) (w:World),Sem.run Tryz.prog (callFunc f xs) w=.ok (.enter f xs) w)
  (HA:∀w',PR B w' rb s L (i+1) op fault→Calls Tryz.prog 202 #[.pointer (some ⟨rb,0,none⟩)] w' fun r w''=>r=.returned (.func (.func f) #[.pointer (some ⟨rb,0,none⟩)] #[])∧Below w'.heap.size w' w'') (lits:List Doc.Tok)
  (HR:∀w',PR B w' rb s L (i+2) op fault→Calls Tryz.prog f #[.pointer (some ⟨rb,0,none⟩)] w' fun r w''=>∃v,r=.returned (.tuple #[v,.bool true])∧w''.ownsRow w'.heap.size 230 4 v lits.length (litsC lits)∧PR B w'' rb s L j op fault∧PM B rb w' w''):
  Calls Tryz.prog 185 #[.pointer (some ⟨rb,0,none⟩)] w (TPost B rb s L op fault w (.ok (.test t u lits) j)):=by
 obtain⟨x,c1,c2,c3,hn⟩:=h.hand
 have HN:Hid (pName x=true):=by rw[←ht,hk] at hn;exact hn
 have HA':Hid (∀w',PR B w' rb s L (i+1) op fault→Calls Tryz.prog 202 #[.pointer (some ⟨rb,0,none⟩)] w' fun r w''=>r=.returned (.func (.func f) #[.pointer (some ⟨rb,0,none⟩)] #[])∧Below w'.heap.size w' w''):=HA
 have HR':Hid (∀w',PR B w' rb s L (i+2) op fault→Calls Tryz.prog f #[.pointer (some ⟨rb,0,none⟩)] w' fun r w''=>∃v,r=.returned (.tuple #[v,.bool true])∧w''.ownsRow w'.heap.size 230 4 v lits.length (litsC lits)∧PR B w'' rb s L j op fault∧PM B rb w' w''):=HR
 have HT:Hid (t=Doc.tk L i):=ht
 have HU:Hid (u=Doc.tk L (i+1)):=hu
 have HK:Hid (t.kind=119∨t.kind=103):=by
  simp only[Bool.and_eq_true,beq_iff_eq] at hk;exact .inl hk.1
 have HKU:Hid (u.kind=119∨u.kind=103):=hku
 have hlt:=h.rlt
 have hne:w.heap.size≠rb:=by omega
 clear hn HA HR ht hu hk hku
 go_enter Tryz.func185,Tryz.ntmps185
 go_wp2_with fail
 refine(isName_any x _).mono ?_
 rw[HN.out]
 rintro r w1 ⟨rfl,hb1⟩
 have h1:=(h.alloc _).below hb1
 have q1:=(hb1.block w.heap.size (by simp)).trans (heap_alloc_new w _)
 have k1:=((PM.refl B rb w).alloc h.Ble _).trans (PM.ofBelow hb1 (h.alloc _).Ble)
 have hlt1:=lt_block q1
 have hr1:=h1.rlt
 clear c1 c2 c3
 go_wp2_with (first|(go_at_call 181;refine(taker (by first|exact h1|exact h1.alloc _) hE hs t HT.out HK.out).mono ?_;rintro r w2 ⟨kk,rfl,h2,k2⟩)|fail)
 have q2:=k2.blk q1 hne
 have k3:=((k1.trans k2).alloc h2.Ble) (.cells #[.int .i64 kk,.string t.S,.int .i64 t.at_] 116)
 have z2:=k2.below.size
 have z1:=k1.below.size
 refine(HA'.out _ (h2.alloc _)).mono ?_
 rintro r w3 ⟨rfl,hb3⟩
 have h3:=(h2.alloc _).below hb3
 have b3:=(hb3.block w2.heap.size (by simp)).trans (heap_alloc_new w2 _)
 have q3:=(hb3.block w.heap.size (by have:=lt_block q2;simp;omega)).trans ((heap_alloc_old w2 _ (lt_block q2)).trans q2)
 have k4:=k3.trans (PM.ofBelow hb3 (h2.alloc _).Ble)
 obtain⟨nb,hnb⟩:∃nb,nb=w2.heap.size:=⟨_,rfl⟩
 rw[←hnb] at b3 ⊢
 have hnr:nb≠rb:=by have:=h2.rlt;omega
 have hnw:nb≠w.heap.size:=by have:=lt_block q2;omega
 clear hb3 hb1 h2 h1 k1 k2 k3 q1 q2 hnb z1 z2 hr1 hlt1
 have hG:=run_fn_nil
 go_wp2_with (first|(go_at_call 181;refine(taker (by first|exact h3|exact h3.alloc _) hE hs u HU.out HKU.out).mono ?_;rintro r w4 ⟨kk4,rfl,h4,k5⟩)|fail)
 have b4:=k5.blk b3 hnr
 have q4:=k5.blk q3 hne
 have k6:=(k4.trans k5).alloc h4.Ble (.cells #[.int .i64 kk4,.string u.S,.int .i64 u.at_] 116)
 have h5:=h4.alloc (.cells #[.int .i64 kk4,.string u.S,.int .i64 u.at_] 116)
 have o5:=heap_alloc_new w4 (.cells #[.int .i64 kk4,.string u.S,.int .i64 u.at_] 116)
 have b5:=(heap_alloc_old w4 (.cells #[.int .i64 kk4,.string u.S,.int .i64 u.at_] 116) (lt_block b4)).trans b4
 have q5:=(heap_alloc_old w4 (.cells #[.int .i64 kk4,.string u.S,.int .i64 u.at_] 116) (lt_block q4)).trans q4
 obtain⟨ob,hob⟩:∃ob,ob=w4.heap.size:=⟨_,rfl⟩
 have hor:ob≠rb:=by have:=h4.rlt;omega
 have how:ob≠w.heap.size:=by have:=lt_block q4;omega
 rw[←hob] at o5 ⊢
 clear b3 b4 k5 k4 q3 q4 h3 h4 hob
 generalize w4.alloc (.cells #[.int .i64 kk4,.string u.S,.int .i64 u.at_] 116)=w5 at *
 refine(HR'.out _ h5).mono ?_
 rintro r w6 ⟨v,rfl,hown,h6,k7⟩
 have b6:=k7.blk b5 hnr
 have o6:=k7.blk o5 hor
 have q6:=k7.blk q5 hne
 have k8:=k6.trans k7
 have zq:=lt_block q5
 have HO:Hid (w6.ownsRow w5.heap.size 230 4 v lits.length (litsC lits)):=hown
 have hl6:=lt_block b6
 have ho6:=lt_block o6
 have hq6:=lt_block q6
 obtain⟨a0,a1,a2⟩:=th_cells b6
 obtain⟨d0,d1,d2⟩:=th_cells o6
 obtain⟨e0,e1,e2,e3,e4,e5,e6⟩:=fv_cells q6
 obtain⟨x0,x1,x2,x3,x4,x5,x6⟩:=fv_free q6
 have hsh:=own_shape hown
 clear hown hG hf b5 q5 o5 h5 k6 k7
 rcases hsh with rfl|⟨g,cap,rfl⟩
 all_goals (go_wp2_with fail)
 ·exact bodyPost_ret (v:=.tuple #[.agg #[.int .i64 3,.slice none 0 0,.string t.S,.int .i64 t.at_,.string u.S,.int .i64 u.at_,.slice none 0 0],.bool true]) (by simp[results,Tryz.results185,go_sem,e0,e1,e2,e3,e4,e5,e6]) rfl (test_end h6 k8 HO.out (by omega) hne h.Ble)
 ·exact bodyPost_ret (v:=.tuple #[.agg #[.int .i64 3,.slice none 0 0,.string t.S,.int .i64 t.at_,.string u.S,.int .i64 u.at_,.slice (some ⟨g,0,none⟩) lits.length cap],.bool true]) (by simp[results,Tryz.results185,go_sem,e0,e1,e2,e3,e4,e5,e6]) rfl (test_end h6 k8 HO.out (by omega) hne h.Ble)
set_option maxHeartbeats 2000000 in
theorem test_bad (h:PR B w rb s L i op fault)(hE:Doc.Ended L)(hs:s.size≤200)(t u:Doc.Tok)(ht:t=Doc.tk L i)(hu:u=Doc.tk L (i+1))(hk:(t.kind==119 && Doc.nameB t.S)=true)(hku:u.kind=119∨u.kind=103)(f:FuncId)(hf:∀(xs:Array Value) (w:World),Sem.run Tryz.prog (callFunc f xs) w=.ok (.enter f xs) w)
  (HA:∀w',PR B w' rb s L (i+1) op fault→Calls Tryz.prog 202 #[.pointer (some ⟨rb,0,none⟩)] w' fun r w''=>r=.returned (.func (.func f) #[.pointer (some ⟨rb,0,none⟩)] #[])∧Below w'.heap.size w' w'') (e q:Nat)
  (HR:∀w',PR B w' rb s L (i+2) op fault→Calls Tryz.prog f #[.pointer (some ⟨rb,0,none⟩)] w' fun r w''=>∃v j,r=.returned (.tuple #[v,.bool false])∧e=6∧q=(Doc.tk L j).at_∧PR B w'' rb s L j op fault∧PM B rb w' w''):
  Calls Tryz.prog 185 #[.pointer (some ⟨rb,0,none⟩)] w (TPost B rb s L op fault w (.err e q)):=by
 obtain⟨x,c1,c2,c3,hn⟩:=h.hand
 have HN:Hid (pName x=true):=by rw[←ht,hk] at hn;exact hn
 have HA':Hid (∀w',PR B w' rb s L (i+1) op fault→Calls Tryz.prog 202 #[.pointer (some ⟨rb,0,none⟩)] w' fun r w''=>r=.returned (.func (.func f) #[.pointer (some ⟨rb,0,none⟩)] #[])∧Below w'.heap.size w' w''):=HA
 have HR':Hid (∀w',PR B w' rb s L (i+2) op fault→Calls Tryz.prog f #[.pointer (some ⟨rb,0,none⟩)] w' fun r w''=>∃v j,r=.returned (.tuple #[v,.bool false])∧e=6∧q=(Doc.tk L j).at_∧PR B w'' rb s L j op fault∧PM B rb w' w''):=HR
 have HT:Hid (t=Doc.tk L i):=ht
 have HU:Hid (u=Doc.tk L (i+1)):=hu
 have HK:Hid (t.kind=119∨t.kind=103):=by
  simp only[Bool.and_eq_true,beq_iff_eq] at hk;exact .inl hk.1
 have HKU:Hid (u.kind=119∨u.kind=103):=hku
 have hlt:=h.rlt
 have hne:w.heap.size≠rb:=by omega
 clear hn HA HR ht hu hk hku
 go_enter Tryz.func185,Tryz.ntmps185
 go_wp2_with fail
 refine(isName_any x _).mono ?_
 rw[HN.out]
 rintro r w1 ⟨rfl,hb1⟩
 have h1:=(h.alloc _).below hb1
 have q1:=(hb1.block w.heap.size (by simp)).trans (heap_alloc_new w _)
 have k1:=((PM.refl B rb w).alloc h.Ble _).trans (PM.ofBelow hb1 (h.alloc _).Ble)
 have hlt1:=lt_block q1
 have hr1:=h1.rlt
 clear c1 c2 c3
 go_wp2_with (first|(go_at_call 181;refine(taker (by first|exact h1|exact h1.alloc _) hE hs t HT.out HK.out).mono ?_;rintro r w2 ⟨kk,rfl,h2,k2⟩)|fail)
 have q2:=k2.blk q1 hne
 have k3:=((k1.trans k2).alloc h2.Ble) (.cells #[.int .i64 kk,.string t.S,.int .i64 t.at_] 116)
 have z2:=k2.below.size
 have z1:=k1.below.size
 refine(HA'.out _ (h2.alloc _)).mono ?_
 rintro r w3 ⟨rfl,hb3⟩
 have h3:=(h2.alloc _).below hb3
 have b3:=(hb3.block w2.heap.size (by simp)).trans (heap_alloc_new w2 _)
 have q3:=(hb3.block w.heap.size (by have:=lt_block q2;simp;omega)).trans ((heap_alloc_old w2 _ (lt_block q2)).trans q2)
 have k4:=k3.trans (PM.ofBelow hb3 (h2.alloc _).Ble)
 obtain⟨nb,hnb⟩:∃nb,nb=w2.heap.size:=⟨_,rfl⟩
 rw[←hnb] at b3 ⊢
 have hnr:nb≠rb:=by have:=h2.rlt;omega
 have hnw:nb≠w.heap.size:=by have:=lt_block q2;omega
 clear hb3 hb1 h2 h1 k1 k2 k3 q1 q2 hnb z1 z2 hr1 hlt1
 have hG:=run_fn_nil
 go_wp2_with (first|(go_at_call 181;refine(taker (by first|exact h3|exact h3.alloc _) hE hs u HU.out HKU.out).mono ?_;rintro r w4 ⟨kk4,rfl,h4,k5⟩)|fail)
 have b4:=k5.blk b3 hnr
 have q4:=k5.blk q3 hne
 have k6:=(k4.trans k5).alloc h4.Ble (.cells #[.int .i64 kk4,.string u.S,.int .i64 u.at_] 116)
 have h5:=h4.alloc (.cells #[.int .i64 kk4,.string u.S,.int .i64 u.at_] 116)
 have o5:=heap_alloc_new w4 (.cells #[.int .i64 kk4,.string u.S,.int .i64 u.at_] 116)
 have b5:=(heap_alloc_old w4 (.cells #[.int .i64 kk4,.string u.S,.int .i64 u.at_] 116) (lt_block b4)).trans b4
 have q5:=(heap_alloc_old w4 (.cells #[.int .i64 kk4,.string u.S,.int .i64 u.at_] 116) (lt_block q4)).trans q4
 obtain⟨ob,hob⟩:∃ob,ob=w4.heap.size:=⟨_,rfl⟩
 have hor:ob≠rb:=by have:=h4.rlt;omega
 have how:ob≠w.heap.size:=by have:=lt_block q4;omega
 rw[←hob] at o5 ⊢
 clear b3 b4 k5 k4 q3 q4 h3 h4 hob
 generalize w4.alloc (.cells #[.int .i64 kk4,.string u.S,.int .i64 u.at_] 116)=w5 at *
 refine(HR'.out _ h5).mono ?_
 rintro r w6 ⟨v,j,rfl,rfl,hq,h6,k7⟩
 have HQ:Hid (q=(Doc.tk L j).at_):=hq
 clear hq
 have q6:=k7.blk q5 hne
 have k8:=k6.trans k7
 clear hG hf b5 q5 o5 h5 k6 k7
 go_wp2_with fail
 refine(refuser h6 6).mono ?_
 rintro r w7 ⟨rfl,h7,k9⟩
 have q7:=k9.blk q6 hne
 obtain⟨a0,a1,a2,a3,a4,a5,a6⟩:=fv_cells q7
 obtain⟨x0,x1,x2,x3,x4,x5,x6⟩:=fv_free q7
 have hlt7:=lt_block q7
 go_wp2_with fail
 exact bodyPost_ret (v:=.tuple #[.agg #[.int .i64 0,.slice none 0 0,.string ⟨#[]⟩,.int .i64 0,.string ⟨#[]⟩,.int .i64 0,.slice none 0 0],.bool false]) (by simp[results,Tryz.results185,go_sem,a0,a1,a2,a3,a4,a5,a6]) rfl ⟨j,rfl,HQ.out,h7.set7 _ _ _ _ _ _ _ hne h.Ble,(k8.trans k9).set7 _ _ _ _ _ _ _ (Nat.le_refl _) h.Ble⟩
set_option maxHeartbeats 2000000 in
theorem test_nil (h:PR B w rb s L i op fault)(hE:Doc.Ended L)(hs:s.size≤200)(t:Doc.Tok)(ht:t=Doc.tk L i)(hk:(t.kind==119 && Doc.nameB t.S)=true)
  (HA:∀w',PR B w' rb s L (i+1) op fault→Calls Tryz.prog 202 #[.pointer (some ⟨rb,0,none⟩)] w' fun r w''=>r=.returned .nilFunc∧Below w'.heap.size w' w''):
  Calls Tryz.prog 185 #[.pointer (some ⟨rb,0,none⟩)] w (TPost B rb s L op fault w (.err 6 (Doc.tk L (i+1)).at_)):=by
 obtain⟨x,c1,c2,c3,hn⟩:=h.hand
 have HN:Hid (pName x=true):=by rw[←ht,hk] at hn;exact hn
 have HA':Hid (∀w',PR B w' rb s L (i+1) op fault→Calls Tryz.prog 202 #[.pointer (some ⟨rb,0,none⟩)] w' fun r w''=>r=.returned .nilFunc∧Below w'.heap.size w' w''):=HA
 have HT:Hid (t=Doc.tk L i):=ht
 have HK:Hid (t.kind=119∨t.kind=103):=by
  simp only[Bool.and_eq_true,beq_iff_eq] at hk;exact .inl hk.1
 have hlt:=h.rlt
 have hne:w.heap.size≠rb:=by omega
 clear hn HA ht hk
 go_enter Tryz.func185,Tryz.ntmps185
 go_wp2_with fail
 refine(isName_any x _).mono ?_
 rw[HN.out]
 rintro r w1 ⟨rfl,hb1⟩
 have h1:=(h.alloc _).below hb1
 have q1:=(hb1.block w.heap.size (by simp)).trans (heap_alloc_new w _)
 have k1:=((PM.refl B rb w).alloc h.Ble _).trans (PM.ofBelow hb1 (h.alloc _).Ble)
 have hlt1:=lt_block q1
 have hr1:=h1.rlt
 clear c1 c2 c3
 go_wp2_with (first|(go_at_call 181;refine(taker (by first|exact h1|exact h1.alloc _) hE hs t HT.out HK.out).mono ?_;rintro r w2 ⟨kk,rfl,h2,k2⟩)|fail)
 have q2:=k2.blk q1 hne
 have k3:=((k1.trans k2).alloc h2.Ble) (.cells #[.int .i64 kk,.string t.S,.int .i64 t.at_] 116)
 refine(HA'.out _ (h2.alloc _)).mono ?_
 rintro r w3 ⟨rfl,hb3⟩
 have h3:=(h2.alloc _).below hb3
 have q3:=(hb3.block w.heap.size (by have:=lt_block q2;simp;omega)).trans ((heap_alloc_old w2 _ (lt_block q2)).trans q2)
 have k4:=k3.trans (PM.ofBelow hb3 (h2.alloc _).Ble)
 clear hb3 hb1 h2 h1 k1 k2 k3 q1 q2 hr1 hlt1
 have hG:=run_nil_nil
 go_wp2_with fail
 refine(refuser h3 6).mono ?_
 rintro r w7 ⟨rfl,h7,k9⟩
 have q7:=k9.blk q3 hne
 obtain⟨a0,a1,a2,a3,a4,a5,a6⟩:=fv_cells q7
 obtain⟨x0,x1,x2,x3,x4,x5,x6⟩:=fv_free q7
 have hlt7:=lt_block q7
 go_wp2_with fail
 exact bodyPost_ret (v:=.tuple #[.agg #[.int .i64 0,.slice none 0 0,.string ⟨#[]⟩,.int .i64 0,.string ⟨#[]⟩,.int .i64 0,.slice none 0 0],.bool false]) (by simp[results,Tryz.results185,go_sem,a0,a1,a2,a3,a4,a5,a6]) rfl ⟨i+1,rfl,rfl,h7.set7 _ _ _ _ _ _ _ hne h.Ble,(k4.trans k9).set7 _ _ _ _ _ _ _ (Nat.le_refl _) h.Ble⟩
end
section
variable {B:Nat}{w:World}{rb:Nat}{s:ByteArray}{L:List Doc.Tok}{p i j op fault:Nat}
theorem PR.ask (h:PR B w rb s L i op fault):∃x:PTok,PSt B w rb s x op fault∧(x.text.toList==[105,110])=Doc.isWord (Doc.tk L i) Doc.wIn∧(x.text.toList==[108,105,107,101])=Doc.isWord (Doc.tk L i) Doc.wLike∧(x.text.toList==[105,115])=Doc.isWord (Doc.tk L i) Doc.wIs∧pCmp x=Doc.cmpB (Doc.tk L i):=by
 obtain⟨q,h1,h2⟩:=h.has
 refine⟨ptok s q,h2,?_,?_,?_,?_⟩
 ·rw[ptok_is h1.le bare_in,is_word h1.le rfl,h1.hd];rfl
 ·rw[ptok_is h1.le bare_like,is_word h1.le rfl,h1.hd];rfl
 ·rw[ptok_is h1.le bare_is,is_word h1.le rfl,h1.hd];rfl
 ·rw[ptok_cmp h1.le,h1.hd]
theorem cmp_noword {t:Doc.Tok}(h:Doc.cmpB t=true)(l:List UInt8):Doc.isWord t l=false:=by
 have hk:t.kind=103:=by simp only[Doc.cmpB,Bool.and_eq_true,beq_iff_eq] at h;exact h.1
 unfold Doc.isWord;rw[hk];rfl
theorem word_other {t:Doc.Tok}{l m:List UInt8}(h:Doc.isWord t l=true)(hne:(l==m)=false):Doc.isWord t m=false:=by
 simp only[Doc.isWord,Bool.and_eq_true,beq_iff_eq] at h
 unfold Doc.isWord;rw[h.2,hne,Bool.and_false]
theorem own_single {g m:Nat}{t:Doc.Tok}(h:w.heap[g]? =some (.cells (litC t).toArray 230 (0,0)))(hm:m≤g):w.ownsRow m 230 4 (.slice (some ⟨g,0,none⟩) 1 1) [t].length (litsC [t]):=by
 refine⟨rfl,.inr ⟨g,1,_,rfl,hm,h,Nat.le_refl _,by unfold maxLen;omega,rfl,?_⟩⟩
 simp[litsC,litC]
theorem single_row (h:PR B w rb s L i op fault)(hE:Doc.Ended L)(hs:s.size≤200)(t:Doc.Tok)(ht:t=Doc.tk L i)(hk:Doc.lit false t=true):
  Calls Tryz.prog 211 #[.pointer (some ⟨rb,0,none⟩)] w fun r w'=>∃v,r=.returned (.tuple #[v,.bool true])∧w'.ownsRow w.heap.size 230 4 v [t].length (litsC [t])∧PR B w' rb s L (i+1) op fault∧PM B rb w w':=by
 obtain⟨q,h1,h2⟩:=h.has
 refine(single_yes h2 h1 hE hs t ht hk).mono ?_
 rintro r w' ⟨g,rfl,h3,h4,h5,h6⟩
 exact⟨_,rfl,own_single h4 h3,h5,h6⟩
theorem single_none (h:PR B w rb s L i op fault)(hk:Doc.lit false (Doc.tk L i)=false):
  Calls Tryz.prog 211 #[.pointer (some ⟨rb,0,none⟩)] w fun r w'=>∃v j,r=.returned (.tuple #[v,.bool false])∧6=6∧(Doc.tk L i).at_=(Doc.tk L j).at_∧PR B w' rb s L j op fault∧PM B rb w w':=by
 obtain⟨q,h1,h2⟩:=h.has
 refine(single_not h2 h1 hk).mono ?_
 rintro r w' ⟨rfl,h5,h6⟩
 exact⟨_,_,rfl,rfl,rfl,⟨q,h1,h5⟩,h6⟩
theorem prefix_row (h:PR B w rb s L i op fault)(hE:Doc.Ended L)(hs:s.size≤200)(t:Doc.Tok)(ht:t=Doc.tk L i)(hk:Doc.lit true t=true):
  Calls Tryz.prog 208 #[.pointer (some ⟨rb,0,none⟩)] w fun r w'=>∃v,r=.returned (.tuple #[v,.bool true])∧w'.ownsRow w.heap.size 230 4 v [t].length (litsC [t])∧PR B w' rb s L (i+1) op fault∧PM B rb w w':=by
 obtain⟨q,h1,h2⟩:=h.has
 refine(prefix_yes h2 h1 hE hs t ht hk).mono ?_
 rintro r w' ⟨g,rfl,h3,h4,h5,h6⟩
 exact⟨_,rfl,own_single h4 h3,h5,h6⟩
theorem prefix_none (h:PR B w rb s L i op fault)(hk:Doc.lit true (Doc.tk L i)=false):
  Calls Tryz.prog 208 #[.pointer (some ⟨rb,0,none⟩)] w fun r w'=>∃v j,r=.returned (.tuple #[v,.bool false])∧6=6∧(Doc.tk L i).at_=(Doc.tk L j).at_∧PR B w' rb s L j op fault∧PM B rb w w':=by
 obtain⟨q,h1,h2⟩:=h.has
 refine(prefix_not h2 h1 hk).mono ?_
 rintro r w' ⟨rfl,h5,h6⟩
 exact⟨_,_,rfl,rfl,rfl,⟨q,h1,h5⟩,h6⟩
theorem null_row (h:PR B w rb s L i op fault)(hE:Doc.Ended L)(hs:s.size≤200)(hk:Doc.is (Doc.tk L i) [110,117,108,108]=true):
  Calls Tryz.prog 209 #[.pointer (some ⟨rb,0,none⟩)] w fun r w'=>∃v,r=.returned (.tuple #[v,.bool true])∧w'.ownsRow w.heap.size 230 4 v ([]:List Doc.Tok).length (litsC [])∧PR B w' rb s L (i+1) op fault∧PM B rb w w':=by
 obtain⟨q,h1,h2⟩:=h.has
 refine(null_yes h2 h1 hE hs hk).mono ?_
 rintro r w' ⟨rfl,h5,h6⟩
 exact⟨_,rfl,World.ownsRow_nil _ _ _ _,h5,h6⟩
theorem null_none (h:PR B w rb s L i op fault)(hk:Doc.is (Doc.tk L i) [110,117,108,108]=false):
  Calls Tryz.prog 209 #[.pointer (some ⟨rb,0,none⟩)] w fun r w'=>∃v j,r=.returned (.tuple #[v,.bool false])∧6=6∧(Doc.tk L i).at_=(Doc.tk L j).at_∧PR B w' rb s L j op fault∧PM B rb w w':=by
 obtain⟨q,h1,h2⟩:=h.has
 refine(null_not h2 h1 hk).mono ?_
 rintro r w' ⟨rfl,h5,h6⟩
 exact⟨_,_,rfl,rfl,rfl,⟨q,h1,h5⟩,h6⟩
theorem test_all (h:PR B w rb s L i op fault)(hE:Doc.Ended L)(hL:L.length≤300)(hs:s.size≤200):
  Calls Tryz.prog 185 #[.pointer (some ⟨rb,0,none⟩)] w (TPost B rb s L op fault w (Doc.pTest L i)):=by
 unfold Doc.pTest
 by_cases k1:((Doc.tk L i).kind==119 && Doc.nameB (Doc.tk L i).S)=true
 ·rw[if_pos k1]
  by_cases k2:Doc.cmpB (Doc.tk L (i+1))=true
  ·rw[if_pos k2]
   have hku:(Doc.tk L (i+1)).kind=119∨(Doc.tk L (i+1)).kind=103:=by
    simp only[Doc.cmpB,Bool.and_eq_true,beq_iff_eq] at k2;exact .inr k2.1
   have HA:∀w',PR B w' rb s L (i+1) op fault→Calls Tryz.prog 202 #[.pointer (some ⟨rb,0,none⟩)] w' fun r w''=>r=.returned (.func (.func 211) #[.pointer (some ⟨rb,0,none⟩)] #[])∧Below w'.heap.size w' w'':=by
    intro w' h'
    obtain⟨x,hx,e1,e2,e3,e4⟩:=h'.ask
    rw[cmp_noword k2] at e1 e2 e3
    exact after_cmp hx e1 e2 e3 (e4.trans k2)
   by_cases k3:Doc.lit false (Doc.tk L (i+2))=true
   ·rw[if_pos k3]
    exact test_ok h hE hs _ _ rfl rfl k1 hku _ Tryz.call211 HA _ (fun w' h'=>single_row h' hE hs _ rfl k3)
   ·rw[if_neg k3]
    exact test_bad h hE hs _ _ rfl rfl k1 hku _ Tryz.call211 HA _ _ (fun w' h'=>single_none h' (by simpa using k3))
  ·rw[if_neg k2]
   have k2':Doc.cmpB (Doc.tk L (i+1))=false:=by simpa using k2
   by_cases k4:Doc.isWord (Doc.tk L (i+1)) Doc.wLike=true
   ·rw[if_pos k4]
    have hku:(Doc.tk L (i+1)).kind=119∨(Doc.tk L (i+1)).kind=103:=by
     simp only[Doc.isWord,Bool.and_eq_true,beq_iff_eq] at k4;exact .inl k4.1
    have HA:∀w',PR B w' rb s L (i+1) op fault→Calls Tryz.prog 202 #[.pointer (some ⟨rb,0,none⟩)] w' fun r w''=>r=.returned (.func (.func 208) #[.pointer (some ⟨rb,0,none⟩)] #[])∧Below w'.heap.size w' w'':=by
     intro w' h'
     obtain⟨x,hx,e1,e2,e3,e4⟩:=h'.ask
     rw[word_other k4 rfl] at e1
     refine(after_like hx e1 (e2.trans k4)).mono ?_
     rintro r w'' ⟨rfl,rfl⟩
     exact⟨rfl,Below.refl _ _⟩
    by_cases k3:Doc.lit true (Doc.tk L (i+2))=true
    ·rw[if_pos k3]
     exact test_ok h hE hs _ _ rfl rfl k1 hku _ Tryz.call208 HA _ (fun w' h'=>prefix_row h' hE hs _ rfl k3)
    ·rw[if_neg k3]
     exact test_bad h hE hs _ _ rfl rfl k1 hku _ Tryz.call208 HA _ _ (fun w' h'=>prefix_none h' (by simpa using k3))
   ·rw[if_neg k4]
    have k4':Doc.isWord (Doc.tk L (i+1)) Doc.wLike=false:=by simpa using k4
    by_cases k5:Doc.isWord (Doc.tk L (i+1)) Doc.wIs=true
    ·rw[if_pos k5]
     have hku:(Doc.tk L (i+1)).kind=119∨(Doc.tk L (i+1)).kind=103:=by
      simp only[Doc.isWord,Bool.and_eq_true,beq_iff_eq] at k5;exact .inl k5.1
     have HA:∀w',PR B w' rb s L (i+1) op fault→Calls Tryz.prog 202 #[.pointer (some ⟨rb,0,none⟩)] w' fun r w''=>r=.returned (.func (.func 209) #[.pointer (some ⟨rb,0,none⟩)] #[])∧Below w'.heap.size w' w'':=by
      intro w' h'
      obtain⟨x,hx,e1,e2,e3,e4⟩:=h'.ask
      rw[word_other k5 rfl] at e1
      refine(after_is hx e1 (e2.trans k4') (e3.trans k5)).mono ?_
      rintro r w'' ⟨rfl,rfl⟩
      exact⟨rfl,Below.refl _ _⟩
     by_cases k3:Doc.is (Doc.tk L (i+2)) Doc.wNull=true
     ·rw[if_pos k3]
      exact test_ok h hE hs _ _ rfl rfl k1 hku _ Tryz.call209 HA _ (fun w' h'=>null_row h' hE hs k3)
     ·rw[if_neg k3]
      have k3':Doc.is (Doc.tk L (i+2)) Doc.wNull=false:=by simpa using k3
      exact test_bad h hE hs _ _ rfl rfl k1 hku _ Tryz.call209 HA _ _ (fun w' h'=>null_none h' k3')
    ·rw[if_neg k5]
     have k5':Doc.isWord (Doc.tk L (i+1)) Doc.wIs=false:=by simpa using k5
     by_cases k6:Doc.isWord (Doc.tk L (i+1)) Doc.wIn=true
     ·rw[if_pos k6]
      have hku:(Doc.tk L (i+1)).kind=119∨(Doc.tk L (i+1)).kind=103:=by
       simp only[Doc.isWord,Bool.and_eq_true,beq_iff_eq] at k6;exact .inl k6.1
      have HA:∀w',PR B w' rb s L (i+1) op fault→Calls Tryz.prog 202 #[.pointer (some ⟨rb,0,none⟩)] w' fun r w''=>r=.returned (.func (.func 207) #[.pointer (some ⟨rb,0,none⟩)] #[])∧Below w'.heap.size w' w'':=by
       intro w' h'
       obtain⟨x,hx,e1,e2,e3,e4⟩:=h'.ask
       refine(after_in hx (e1.trans k6)).mono ?_
       rintro r w'' ⟨rfl,rfl⟩
       exact⟨rfl,Below.refl _ _⟩
      by_cases k3:Doc.is (Doc.tk L (i+2)) [40]=true
      ·rw[if_pos k3]
       cases hl:Doc.pLits L (L.length+1) [] (i+3) with
       |ok lits j=>
        refine test_ok h hE hs _ _ rfl rfl k1 hku _ Tryz.call207 HA _ (fun w' h'=>?_)
        refine(list_yes h' hE hL hs k3).mono ?_
        intro r w'' hp
        rw[hl] at hp
        exact hp
       |err e q=>
        refine test_bad h hE hs _ _ rfl rfl k1 hku _ Tryz.call207 HA _ _ (fun w' h'=>?_)
        refine(list_yes h' hE hL hs k3).mono ?_
        intro r w'' hp
        rw[hl] at hp
        obtain⟨v,m,e1,_,e0,e2,e3,e4⟩:=hp
        exact⟨v,m,e1,e0,e2,e3,e4⟩
      ·rw[if_neg k3]
       exact test_bad h hE hs _ _ rfl rfl k1 hku _ Tryz.call207 HA _ _ (fun w' h'=>(list_not h' (by simpa using k3)).mono (by rintro r w'' ⟨rfl,rfl⟩;exact⟨_,_,rfl,rfl,rfl,h',PM.refl _ _ _⟩))
     ·rw[if_neg k6]
      refine test_nil h hE hs _ rfl k1 ?_
      intro w' h'
      obtain⟨x,hx,e1,e2,e3,e4⟩:=h'.ask
      exact after_nil hx (e1.trans (by simpa using k6)) (e2.trans k4') (e3.trans k5') (e4.trans k2')
 ·rw[if_neg k1]
  exact test_noname h (by simpa using k1)
end
section
variable {w:World}
set_option maxHeartbeats 1000000 in
theorem join_one (k:Int)(g cap:Nat)(hg:g<w.heap.size)(x:Int)(b1:Option Addr)(n1 m1:Nat)(s1 s2:ByteArray)(na1 na2:Int)(b2:Option Addr)(n2 m2:Nat)(d0:w.cell? ⟨g,0,none⟩=some (.int .i64 x))(d1:w.cell? ⟨g,1,none⟩=some (.slice b1 n1 m1))(d2:w.cell? ⟨g,2,none⟩=some (.string s1))(d3:w.cell? ⟨g,3,none⟩=some (.int .i64 na1))(d4:w.cell? ⟨g,4,none⟩=some (.string s2))(d5:w.cell? ⟨g,5,none⟩=some (.int .i64 na2))(d6:w.cell? ⟨g,6,none⟩=some (.slice b2 n2 m2)):
  Calls Tryz.prog 162 #[.int .i64 k,.slice (some ⟨g,0,none⟩) 1 cap] w fun r w'=>r=.returned (.agg #[.int .i64 x,.slice b1 n1 m1,.string s1,.int .i64 na1,.string s2,.int .i64 na2,.slice b2 n2 m2])∧Below w.heap.size w w':=by
 go_enter Tryz.func162,Tryz.ntmps162
 go_wp2_with fail
 exact bodyPost_ret (v:=.agg #[.int .i64 x,.slice b1 n1 m1,.string s1,.int .i64 na1,.string s2,.int .i64 na2,.slice b2 n2 m2]) (by simp[results,Tryz.results162,go_sem]) rfl ⟨rfl,(Below.refl _ _).alloc (Nat.le_refl _) _⟩
set_option maxHeartbeats 1000000 in
theorem join_many (k:Int)(g n cap:Nat)(hn:((n:Int)==1)=false):
  Calls Tryz.prog 162 #[.int .i64 k,.slice (some ⟨g,0,none⟩) n cap] w fun r w'=>r=.returned (.agg #[.int .i64 k,.slice (some ⟨g,0,none⟩) n cap,.string ⟨#[]⟩,.int .i64 0,.string ⟨#[]⟩,.int .i64 0,.slice none 0 0])∧Below w.heap.size w w':=by
 go_enter Tryz.func162,Tryz.ntmps162
 go_wp2_with fail
 exact bodyPost_ret (v:=.agg #[.int .i64 k,.slice (some ⟨g,0,none⟩) n cap,.string ⟨#[]⟩,.int .i64 0,.string ⟨#[]⟩,.int .i64 0,.slice none 0 0]) (by simp[results,Tryz.results162,go_sem]) rfl ⟨rfl,(Below.refl _ _).alloc (Nat.le_refl _) _⟩
end
def kindOf:Doc.Ast→Int | .or _ _=>0 | .and _ _=>1 | .not _=>2 | .test _ _ _=>3
structure Five (cs:List Value)(x:Int):Prop where
 has:∃(b1:Option Addr) (n1 m1:Nat) (s1 s2:ByteArray) (na1 na2:Int) (b2:Option Addr) (n2 m2:Nat),cs=[.int .i64 x,.slice b1 n1 m1,.string s1,.int .i64 na1,.string s2,.int .i64 na2,.slice b2 n2 m2]
theorem own_sl {w:World}{m e size n:Nat}{v:Value}{xs:List Value}(h:w.ownsRow m e size v n xs):∃b k c,v=.slice b k c:=by
 rcases own_shape h with rfl|⟨g,cap,rfl⟩<;>exact⟨_,_,_,rfl⟩
theorem RepT.five {w:World}{F:Nat→Prop}{k:Nat}{cs:List Value}{a:Doc.Ast}(h:RepT w F k cs a)(hk:k=0):Five cs (kindOf a):=by
 cases h with
 |test h1 _=>obtain⟨b,n,c,rfl⟩:=own_sl h1;exact⟨_,_,_,_,_,_,_,_,_,_,rfl⟩
 |not _ h1 _=>obtain⟨b,n,c,rfl⟩:=own_sl h1;exact⟨_,_,_,_,_,_,_,_,_,_,rfl⟩
 |one _ h1=>omega
 |andL _ _=>omega
 |orL _ _=>omega
 |and _ _ h1 _=>obtain⟨b,n,c,rfl⟩:=own_sl h1;exact⟨_,_,_,_,_,_,_,_,_,_,rfl⟩
 |or _ _ h1 _=>obtain⟨b,n,c,rfl⟩:=own_sl h1;exact⟨_,_,_,_,_,_,_,_,_,_,rfl⟩
theorem Five.one {cs:List Value}{x:Int}(h:Five cs x):(∀u∈cs,u.oneCell'=true)∧cs.length=7:=by
 obtain⟨b1,n1,m1,s1,s2,na1,na2,b2,n2,m2,rfl⟩:=h.has
 refine⟨fun u hu=>?_,rfl⟩
 simp only[List.mem_cons,List.not_mem_nil,or_false] at hu
 rcases hu with rfl|rfl|rfl|rfl|rfl|rfl|rfl<;>rfl
structure Joins (tag:Nat)(kind:Int)(mk:Doc.Ast→Doc.Ast→Doc.Ast):Prop where
 snoc:∀{w:World} {F:Nat→Prop} {l cs:List Value} {a b:Doc.Ast},RepT w F tag l a→RepT w F 0 cs b→RepT w F tag (l++cs) (mk a b)
 whole:∀{w:World} {F:Nat→Prop} {l cs:List Value} {a b:Doc.Ast} {n:Nat} {v:Value},RepT w F tag l a→RepT w F 0 cs b→w.ownsRow 0 69 7 v n (l++cs)→(∀k,v.ownBlock=some k→F k)→RepT w F 0 [.int .i64 kind,v,.string ⟨#[]⟩,.int .i64 0,.string ⟨#[]⟩,.int .i64 0,.slice none 0 0] (mk a b)
 one:tag=1∨tag=2
theorem joins_and:Joins 1 1 .and:=⟨fun h1 h2=>.andL h1 h2,fun h1 h2 h3 h4=>.and h1 h2 h3 h4,.inl rfl⟩
theorem joins_or:Joins 2 0 .or:=⟨fun h1 h2=>.orL h1 h2,fun h1 h2 h3 h4=>.or h1 h2 h3 h4,.inr rfl⟩
namespace Doc
def comb (mk:Ast→Ast→Ast):Option Ast→Ast→Ast
 |none,b=>b
 |some a,b=>mk a b
def contT (L:List Tok)(link:Nat→Res Ast)(wd:List UInt8)(mk:Ast→Ast→Ast)(acc:Option Ast)(n i:Nat):Res Ast:=
 match link i with
 | .ok b j=>cLoop L link wd mk n (comb mk acc b) j
 | .err e p=>.err e p
theorem chain_contT (L:List Tok)(link:Nat→Res Ast)(wd:List UInt8)(mk:Ast→Ast→Ast)(i:Nat):chain L link wd mk i=contT L link wd mk none (L.length+1) i:=by
 unfold chain contT;rfl
theorem cLoop_contT (L:List Tok)(link:Nat→Res Ast)(wd:List UInt8)(mk:Ast→Ast→Ast)(n:Nat)(a:Ast)(j:Nat):cLoop L link wd mk (n+1) a j=if is (tk L j) wd then contT L link wd mk (some a) n (j+1) else .ok a j:=by
 rw[cLoop];rfl
end Doc
theorem Tryz.infoTree:(Tryz.prog.info? 69).map (fun i=>(i.zero,i.size,i.bytes))=some (some (.agg #[.int .i64 0,.slice none 0 0,.string ⟨#[]⟩,.int .i64 0,.string ⟨#[]⟩,.int .i64 0,.slice none 0 0]),7,104):=by kernel_rfl
def AccRep (w:World)(F:Nat→Prop)(tag:Nat)(mk:Doc.Ast→Doc.Ast→Doc.Ast)(m:Nat)(l:List Value):Option Doc.Ast→Prop
 |none=>m=0∧l=[]
 |some a=>(m=1∧RepT w F 0 l a)∨(2≤m∧∃l' cs a' b,l=l'++cs∧a=mk a' b∧RepT w F tag l' a'∧RepT w F 0 cs b)
theorem AccRep.snoc {w:World}{F:Nat→Prop}{tag:Nat}{kind:Int}{mk:Doc.Ast→Doc.Ast→Doc.Ast}(hJ:Joins tag kind mk){m:Nat}{l cs:List Value}{acc:Option Doc.Ast}{b:Doc.Ast}(h:AccRep w F tag mk m l acc)(hb:RepT w F 0 cs b):
  AccRep w F tag mk (m+1) (l++cs) (some (Doc.comb mk acc b)):=by
 cases acc with
 |none=>obtain⟨rfl,rfl⟩:=h;exact .inl ⟨rfl,hb⟩
 |some a=>
  rcases h with⟨rfl,h1⟩|⟨h2,l',cs',a',b',rfl,rfl,h3,h4⟩
  ·exact .inr ⟨Nat.le_refl _,l,cs,a,b,rfl,rfl,.one h1 hJ.one,hb⟩
  ·exact .inr ⟨by omega,l'++cs',cs,mk a' b',b,rfl,rfl,hJ.snoc h3 h4,hb⟩
theorem AccRep.kept {w w':World}{F F':Nat→Prop}{tag:Nat}{mk:Doc.Ast→Doc.Ast→Doc.Ast}{m:Nat}{l:List Value}{acc:Option Doc.Ast}(h:AccRep w F tag mk m l acc)(hk:∀k o,F k→w.heap[k]? =some o→w'.heap[k]? =some o)(hF:∀k,F k→k<w.heap.size→F' k):AccRep w' F' tag mk m l acc:=by
 cases acc with
 |none=>exact h
 |some a=>
  rcases h with⟨h0,h1⟩|⟨h2,l',cs',a',b',e1,e2,h3,h4⟩
  ·exact .inl ⟨h0,h1.kept hk hF⟩
  ·exact .inr ⟨h2,l',cs',a',b',e1,e2,h3.kept hk hF,h4.kept hk hF⟩
end Go.Proofs.YtbnelaoeblhndaaGreatDoor
