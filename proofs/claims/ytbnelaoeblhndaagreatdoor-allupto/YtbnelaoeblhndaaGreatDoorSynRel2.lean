import Derived.Test.YtbnelaoeblhndaaGreatDoorSynRead1
namespace Go.Proofs.YtbnelaoeblhndaaGreatDoor
open Go.RowKit
set_option maxRecDepth 100000
theorem bytesRow_at (D:ByteArray)(cap k:Nat)(h:k<D.size):(bytesRow D cap)[k]? =some (.int .u8 D[k].toNat):=by
 have h':k<D.data.size:=h
 unfold bytesRow
 rw[Array.getElem?_append_left (by simpa using h'),Array.getElem?_map,Array.getElem?_eq_getElem h']
 rfl
theorem cell_new_fr (w:World)(cs:Array Value)(T:TypeId)(fr:Nat×Nat)(j:Nat):(w.alloc (.cells cs T fr)).cell? ⟨w.heap.size,j,none⟩=cs[j]? :=by
 have h:=heap_alloc_new w (.cells cs T fr)
 unfold World.cell?
 dsimp only
 rw[h]
 rfl
set_option maxHeartbeats 1000000 in
theorem atoi_in_plain (x:ByteArray)(w:World)(h0:0<x.size)(h7:x.size≤7)(hd:∀c∈x.data.toList,(48:UInt8)≤c∧c≤57):
  Calls Tryz.prog 225 #[.string x] w fun e w'=>e=.returned (.tuple #[.int .i64 ((Doc.num x.data.toList:Nat):Int),.nilIface])∧Below w.heap.size w w':=by
 have hcv:=fun w=>run_bytes_of_string (P:=Tryz.prog) w 9 124 5 x Tryz.underlying9 Tryz.underlying124 Tryz.underlying5
 obtain⟨q1,q2⟩:=digit_at x hd 0 h0
 have k1:((x[0].toNat:Int)==45)=false:=by rw[beq_eq_false_iff_ne];omega
 have k2:((x[0].toNat:Int)==43)=false:=by rw[beq_eq_false_iff_ne];omega
 have HD:Hid (∀c∈x.data.toList,(48:UInt8)≤c∧c≤57):=hd
 clear hd
 go_enter Tryz.func225,Tryz.ntmps225
 go_wp2_with fail
 clear hcv
 go_loopw [6,8,49] (fun n _ i wx=>∃k:Nat,k≤x.size∧i=.int .i64 k∧n=.int .i64 (Doc.num (x.data.toList.take k):Nat)∧Below w.heap.size w wx∧Hid (∀j (hj:j<x.size),wx.cell? ⟨w.heap.size,j,none⟩=some (.int .u8 x[j].toNat))) (fun _ _ i _=>x.size-(intOf i).toNat)
 case atStart=>
  refine⟨0,Nat.zero_le _,rfl,rfl,((Below.refl _ _).alloc (Nat.le_refl _) _).drew,fun j hj=>?_⟩
  have:=bytesRow_at x (grownCap w x.size 0 5) j hj
  exact(cell_new_fr w _ _ _ j).trans this
 case round=>
  obtain⟨k,hk,rfl,rfl,hbx,HC⟩:=hrel
  by_cases hlt:k<x.size
  ·obtain⟨h1,h2⟩:=digit_at x HD.out k hlt
   have h3:=num_bound x HD.out k (by omega) h7
   have HS:Hid (((Doc.num (x.data.toList.take (k+1)):Nat):Int)=10*(Doc.num (x.data.toList.take k):Int)+((x[k].toNat:Int)-48)):=num_step x k hlt h1
   have hc:=HC.out k hlt
   go_wp2_with fail
   go_roundw
   case rel=>exact⟨k+1,by omega,by go_num,by rw[HS.out];go_num,hbx,HC⟩
   case measure=>simp[intOf];omega
  ·have hks:k=x.size:=by omega
   subst hks
   have HN:Hid (Doc.num (x.data.toList.take x.size)=Doc.num x.data.toList):=by show _=_;rw[List.take_of_length_le (by rw[Array.length_toList];exact Nat.le_refl _)]
   go_wp2_with fail
   go_ret2
   exact⟨by rw[HN.out];rfl,hbx⟩
set_option maxHeartbeats 1000000 in
theorem atoi_in_minus (y x:ByteArray)(w:World)(hy:y.extract 1 y.size=x)(hy0:0<y.size)(hy8:y.size≤8)(hy45:(y[0].toNat:Int)=45)(h0:0<x.size)(h7:x.size≤7)(hd:∀c∈x.data.toList,(48:UInt8)≤c∧c≤57):
  Calls Tryz.prog 225 #[.string y] w fun e w'=>e=.returned (.tuple #[.int .i64 (-((Doc.num x.data.toList:Nat):Int)),.nilIface])∧Below w.heap.size w w':=by
 have hcv:=fun w=>run_bytes_of_string (P:=Tryz.prog) w 9 124 5 x Tryz.underlying9 Tryz.underlying124 Tryz.underlying5
 have HD:Hid (∀c∈x.data.toList,(48:UInt8)≤c∧c≤57):=hd
 clear hd
 go_enter Tryz.func225,Tryz.ntmps225
 go_wp2_with fail
 clear hcv
 go_loopw [6,8,49] (fun n _ i wx=>∃k:Nat,k≤x.size∧i=.int .i64 k∧n=.int .i64 (Doc.num (x.data.toList.take k):Nat)∧Below w.heap.size w wx∧Hid (∀j (hj:j<x.size),wx.cell? ⟨w.heap.size,j,none⟩=some (.int .u8 x[j].toNat))) (fun _ _ i _=>x.size-(intOf i).toNat)
 case atStart=>
  refine⟨0,Nat.zero_le _,rfl,rfl,((Below.refl _ _).alloc (Nat.le_refl _) _).drew,fun j hj=>?_⟩
  have:=bytesRow_at x (grownCap w x.size 0 5) j hj
  exact(cell_new_fr w _ _ _ j).trans this
 case round=>
  obtain⟨k,hk,rfl,rfl,hbx,HC⟩:=hrel
  by_cases hlt:k<x.size
  ·obtain⟨h1,h2⟩:=digit_at x HD.out k hlt
   have h3:=num_bound x HD.out k (by omega) h7
   have HS:Hid (((Doc.num (x.data.toList.take (k+1)):Nat):Int)=10*(Doc.num (x.data.toList.take k):Int)+((x[k].toNat:Int)-48)):=num_step x k hlt h1
   have hc:=HC.out k hlt
   go_wp2_with fail
   go_roundw
   case rel=>exact⟨k+1,by omega,by go_num,by rw[HS.out];go_num,hbx,HC⟩
   case measure=>simp[intOf];omega
  ·have hks:k=x.size:=by omega
   subst hks
   have h3:=num_bound x HD.out x.size (Nat.le_refl _) h7
   have HN:Hid (Doc.num (x.data.toList.take x.size)=Doc.num x.data.toList):=by show _=_;rw[List.take_of_length_le (by rw[Array.length_toList];exact Nat.le_refl _)]
   go_wp2_with fail
   go_ret2
   exact⟨by rw[HN.out];rfl,hbx⟩
set_option maxHeartbeats 400000 in
theorem atoi_of (x:ByteArray)(n:Int)(w:World)(h:∀w,Calls Tryz.prog 225 #[.string x] w fun e w'=>e=.returned (.tuple #[.int .i64 n,.nilIface])∧Below w.heap.size w w'):
  Calls Tryz.prog 224 #[.string x] w fun e w'=>e=.returned (.tuple #[.int .i64 n,.nilIface])∧Below w.heap.size w w':=by
 have HH:Hid (∀w,Calls Tryz.prog 225 #[.string x] w fun e w'=>e=.returned (.tuple #[.int .i64 n,.nilIface])∧Below w.heap.size w w'):=h
 clear h
 go_enter Tryz.func224,Tryz.ntmps224
 go_wp2_with (go_at_call 225;refine(HH.out _).mono ?_;rintro e w1 ⟨rfl,hb⟩)
 go_ret2
 exact⟨rfl,hb⟩
def pName (t:PTok):Bool:=(t.kind==2) && !(t.text.toList==[97,110,100] || t.text.toList==[111,114] || t.text.toList==[110,111,116] || t.text.toList==[105,110] || t.text.toList==[108,105,107,101] || t.text.toList==[105,115] || t.text.toList==[110,117,108,108])
def pCmp (t:PTok):Bool:=t.text.toList==[61] || t.text.toList==[33,61] || t.text.toList==[60] || t.text.toList==[60,61] || t.text.toList==[62] || t.text.toList==[62,61]
theorem pName_of {t:PTok}{b:Bool}(h:((t.kind==2) && !(t.text.toList==[97,110,100] || t.text.toList==[111,114] || t.text.toList==[110,111,116] || t.text.toList==[105,110] || t.text.toList==[108,105,107,101] || t.text.toList==[105,115] || t.text.toList==[110,117,108,108]))=b):b=pName t:=h.symm
theorem pCmp_of {t:PTok}{b:Bool}(h:(t.text.toList==[61] || t.text.toList==[33,61] || t.text.toList==[60] || t.text.toList==[60,61] || t.text.toList==[62] || t.text.toList==[62,61])=b):b=pCmp t:=h.symm
set_option maxHeartbeats 2000000 in
theorem isName_any (t:PTok)(w:World):
  Calls Tryz.prog 142 #[.agg #[.int .i64 t.kind,.string t.text,.int .i64 t.at_]] w fun e w'=>e=.returned (.bool (pName t))∧Below w.heap.size w w':=by
 have HB:Hid (∀b,_→b=pName t):=fun b h=>pName_of (t:=t) (b:=b) h
 generalize pName t=nb at *
 go_enter Tryz.func142,Tryz.ntmps142
 go_wp2_with fail
 all_goals
  go_ret
  refine⟨ret_bool (HB.out _ ?_),(Below.refl _ _).alloc (Nat.le_refl _) _⟩
  clear HB
  first|(simp[*];done)|simp_all
set_option maxHeartbeats 2000000 in
theorem cmps_any (t:PTok)(w:World):
  Calls Tryz.prog 210 #[.agg #[.int .i64 t.kind,.string t.text,.int .i64 t.at_]] w fun e w'=>e=.returned (.bool (pCmp t))∧Below w.heap.size w w':=by
 have HB:Hid (∀b,_→b=pCmp t):=fun b h=>pCmp_of (t:=t) (b:=b) h
 generalize pCmp t=nb at *
 go_enter Tryz.func210,Tryz.ntmps210
 go_wp2_with fail
 all_goals
  go_ret
  refine⟨ret_bool (HB.out _ ?_),(Below.refl _ _).alloc (Nat.le_refl _) _⟩
  clear HB
  first|(simp[*];done)|simp_all
section
variable {B:Nat}{w:World}{rb:Nat}{s:ByteArray}{t:PTok}{op fault:Nat}
theorem PM.kept {o:Obj}{w1:World}(h:PSt B w rb s t op fault)(k:PM B rb (w.alloc o) w1):w1.heap[w.heap.size]? =some o:=
 k.blk (heap_alloc_new w o) (by have:=h.lt;omega)
theorem PM.fromAlloc {o:Obj}{w1:World}(h:PSt B w rb s t op fault)(k:PM B rb (w.alloc o) w1):PM B rb w w1:=((PM.refl B rb w).alloc h.Ble o).trans k
theorem two_new (w:World)(o p:Obj):((w.alloc o).alloc p).heap[w.heap.size+1]? =some p:=by
 have:=heap_alloc_new (w.alloc o) p
 rwa [World.size_alloc] at this
theorem value_num (t:PTok)(hk:t.kind=3)(n:Int)(w:World)(ha:∀w,Calls Tryz.prog 224 #[.string t.text] w fun e w'=>e=.returned (.tuple #[.int .i64 n,.nilIface])∧Below w.heap.size w w'):
  Calls Tryz.prog 222 #[.agg #[.int .i64 t.kind,.string t.text,.int .i64 t.at_]] w fun e w'=>e=.returned (.agg #[.int .i64 1,.int .i64 n,.string ⟨#[]⟩])∧Below w.heap.size w w':=by
 have HA:Hid (∀w,Calls Tryz.prog 224 #[.string t.text] w fun e w'=>e=.returned (.tuple #[.int .i64 n,.nilIface])∧Below w.heap.size w w'):=ha
 clear ha
 rw[hk]
 go_enter Tryz.func222,Tryz.ntmps222
 go_wp2_with fail
 refine(HA.out _).mono ?_
 rintro r w1 ⟨rfl,hb1⟩
 have q1:=(hb1.block (w.heap.size+1) (by simp)).trans (two_new w _ _)
 obtain⟨a0,a1,a2⟩:=th_cells q1
 obtain⟨x0,x1,x2⟩:=th_free q1
 have hl:=lt_block q1
 have hbw:Below w.heap.size w w1:=(((Below.refl _ w).alloc (Nat.le_refl _) _).alloc (by simp) _).trans (hb1.mono (by simp;omega))
 go_wp2_with fail
 exact bodyPost_ret (v:=.agg #[.int .i64 1,.int .i64 n,.string ⟨#[]⟩]) (by simp[results,Tryz.results222,go_sem,a0,a1,a2]) rfl ⟨rfl,((hbw.setCell (p:=⟨w.heap.size+1,0,none⟩) (by show w.heap.size≤w.heap.size+1;omega) _).setCell (p:=⟨w.heap.size+1,1,none⟩) (by show w.heap.size≤w.heap.size+1;omega) _).setCell (p:=⟨w.heap.size+1,2,none⟩) (by show w.heap.size≤w.heap.size+1;omega) _⟩
theorem value_str (t:PTok)(hk:t.kind=4)(h2:2≤t.text.size)(hs:t.text.size≤200)(w:World):
  Calls Tryz.prog 222 #[.agg #[.int .i64 t.kind,.string t.text,.int .i64 t.at_]] w fun e w'=>e=.returned (.agg #[.int .i64 2,.int .i64 0,.string (t.text.extract 1 (t.text.size-1))])∧Below w.heap.size w w':=by
 have hw:IntKind.i64.wrap ((t.text.size:Int)-1)=((t.text.size-1:Nat):Int):=by rw[wrap_small _ (by omega) (by omega)];omega
 rw[hk]
 go_enter Tryz.func222,Tryz.ntmps222
 go_wp2_with fail
 exact bodyPost_ret (v:=.agg #[.int .i64 2,.int .i64 0,.string (t.text.extract 1 (t.text.size-1))]) (by simp[results,Tryz.results222,go_sem]) rfl ⟨rfl,(((Below.refl _ w).alloc (Nat.le_refl _) _).alloc (by simp) _)⟩
theorem fo_cells {w:World}{b:Nat}{c0 c1 c2 c3:Value}{T:TypeId}(h:w.heap[b]? =some (.cells #[c0,c1,c2,c3] T (0,0))):
  w.cell? ⟨b,0,none⟩=some c0∧w.cell? ⟨b,1,none⟩=some c1∧w.cell? ⟨b,2,none⟩=some c2∧w.cell? ⟨b,3,none⟩=some c3:=
 ⟨blk_cell h 0 _ rfl,blk_cell h 1 _ rfl,blk_cell h 2 _ rfl,blk_cell h 3 _ rfl⟩
theorem fo_free {w:World}{b:Nat}{cs:Array Value}{T:TypeId}(h:w.heap[b]? =some (.cells cs T (0,0))):
  w.frozen? ⟨b,0,none⟩=false∧w.frozen? ⟨b,1,none⟩=false∧w.frozen? ⟨b,2,none⟩=false∧w.frozen? ⟨b,3,none⟩=false:=
 ⟨blk_free h 0,blk_free h 1,blk_free h 2,blk_free h 3⟩
set_option maxHeartbeats 2000000 in
theorem literal_ok (h:PSt B w rb s t op fault)(hs:s.size≤200)(hq:t.at_ +t.text.size≤s.size)(hk:t.kind=3∨t.kind=4)(k n:Int)(sx:ByteArray)
  (hv:∀w,Calls Tryz.prog 222 #[.agg #[.int .i64 t.kind,.string t.text,.int .i64 t.at_]] w fun e w'=>e=.returned (.agg #[.int .i64 k,.int .i64 n,.string sx])∧Below w.heap.size w w'):
  Calls Tryz.prog 217 #[.pointer (some ⟨rb,0,none⟩)] w fun r w'=>r=.returned (.tuple #[.agg #[.int .i64 k,.int .i64 n,.string sx,.int .i64 t.at_],.bool true])∧PSt B w' rb s (ptok s (t.at_ +t.text.size)) op fault∧PM B rb w w':=by
 have c1:=h.c1
 have hlt:=h.lt
 have HV:Hid (∀w,Calls Tryz.prog 222 #[.agg #[.int .i64 t.kind,.string t.text,.int .i64 t.at_]] w fun e w'=>e=.returned (.agg #[.int .i64 k,.int .i64 n,.string sx])∧Below w.heap.size w w'):=hv
 have hne:w.heap.size≠rb:=by omega
 clear hv
 rcases hk with hk|hk
 all_goals
  rw[hk] at c1
  clear hk
  go_enter Tryz.func217,Tryz.ntmps217
  go_wp2_with fail
  refine(take_st (h.alloc _) hs hq).mono ?_
  rintro r w1 ⟨rfl,h1,k1⟩
  have q1:=PM.kept h k1
  have k2:=PM.fromAlloc h k1
  have hl1:=lt_block q1
  clear c1
  go_wp2_with fail
  first|go_region_with (go_at_call 222;refine(HV.out _).mono ?_;rintro r w2 ⟨rfl,hb2⟩;have b2:=(hb2.block w1.heap.size (by show w1.heap.size<(w1.heap.push _).size;simp)).trans (heap_alloc_new w1 _);obtain⟨a0,a1,a2⟩:=th_cells b2;have q2:=(hb2.block w.heap.size (by show w.heap.size<(w1.heap.push _).size;simp;omega)).trans ((heap_alloc_old w1 _ hl1).trans q1);obtain⟨e0,e1,e2,e3⟩:=fo_cells q2;obtain⟨x0,x1,x2,x3⟩:=fo_free q2;have hl2:=lt_block q2;have hlb:=lt_block b2)|fail "stands"
 all_goals (go_wp2_with fail)
 all_goals
  have h2:=((h1.alloc (.cells #[.int .i64 t.kind,.string t.text,.int .i64 t.at_] 116)).drew).below hb2
  have k3:=((k2.alloc h1.Ble (.cells #[.int .i64 t.kind,.string t.text,.int .i64 t.at_] 116)).drew).trans (PM.ofBelow hb2 ((h1.alloc (.cells #[.int .i64 t.kind,.string t.text,.int .i64 t.at_] 116)).drew).Ble)
  exact bodyPost_ret (v:=.tuple #[.agg #[.int .i64 k,.int .i64 n,.string sx,.int .i64 t.at_],.bool true]) (by simp[results,Tryz.results217,go_sem,e0,e1,e2,e3]) rfl ⟨rfl,(((h2.other _ hne h.Ble).other _ hne h.Ble).other _ hne h.Ble).other _ hne h.Ble,(((k3.late _ (Nat.le_refl _) h.Ble).late _ (Nat.le_refl _) h.Ble).late _ (Nat.le_refl _) h.Ble).late _ (Nat.le_refl _) h.Ble⟩
set_option maxHeartbeats 1000000 in
theorem literal_no (h:PSt B w rb s t op fault)(k3:(t.kind==3)=false)(k4:(t.kind==4)=false):
  Calls Tryz.prog 217 #[.pointer (some ⟨rb,0,none⟩)] w fun r w'=>r=.returned (.tuple #[.agg #[.int .i64 0,.int .i64 0,.string ⟨#[]⟩,.int .i64 0],.bool false])∧PSt B w' rb s t op fault∧PM B rb w w':=by
 have c1:=h.c1
 have hlt:=h.lt
 have n3:((t.kind:Int) != 3)=true:=by have:=k3;simp only[beq_eq_false_iff_ne] at this;simp;omega
 have n4:((t.kind:Int) != 4)=true:=by have:=k4;simp only[beq_eq_false_iff_ne] at this;simp;omega
 clear k3 k4
 go_enter Tryz.func217,Tryz.ntmps217
 go_wp2_with fail
 have k0:=(PM.refl B rb w).alloc h.Ble (.cells #[.int .i64 0,.int .i64 0,.string ⟨#[]⟩,.int .i64 0] 230 (0,0))
 have h0:=h.alloc (.cells #[.int .i64 0,.int .i64 0,.string ⟨#[]⟩,.int .i64 0] 230 (0,0))
 have hne:w.heap.size≠rb:=by omega
 exact bodyPost_ret (v:=.tuple #[.agg #[.int .i64 0,.int .i64 0,.string ⟨#[]⟩,.int .i64 0],.bool false]) (by simp[results,Tryz.results217,go_sem]) rfl ⟨rfl,by first|exact h0|exact(((h0.other _ hne h.Ble).other _ hne h.Ble).other _ hne h.Ble).other _ hne h.Ble,by first|exact k0|exact(((k0.late _ (Nat.le_refl _) h.Ble).late _ (Nat.le_refl _) h.Ble).late _ (Nat.le_refl _) h.Ble).late _ (Nat.le_refl _) h.Ble⟩
end
section
variable {s:ByteArray}{p:Nat}
theorem ptok_cases (h:p≤s.size):((ptok s p).kind=0∧(ptok s p).text=ByteArray.empty∧(Doc.hd s p).kind=101)∨((ptok s p).kind=1∧(ptok s p).text=ByteArray.empty∧(Doc.hd s p).kind=120)∨
  ∃a k n,a<s.size∧Doc.lex (Doc.rest s a)=(k,n)∧k≠120∧0<n∧a+n≤s.size∧ptok s p=⟨goKind k,s.extract a (a+n),a⟩∧Doc.hd s p=Doc.tok s a:=by
 have hpl:=Doc.past_le h
 by_cases hp:Doc.past s p=s.size
 ·obtain⟨h1,h2⟩:=ptok_end hp;rw[h1,h2];exact .inl ⟨rfl,rfl,rfl⟩
 ·by_cases hk:(Doc.lex (Doc.rest s (Doc.past s p))).1=120
  ·obtain⟨h1,h2⟩:=ptok_wrong hp hk;rw[h1,h2];exact .inr (.inl ⟨rfl,rfl,hk⟩)
  ·obtain⟨h1,h2⟩:=ptok_tok hp hk
   obtain⟨c,r,hcr⟩:=Doc.rest_at s (Doc.past s p) (by omega)
   have hn:=Doc.lex_len c r
   have hl:=Doc.len_rest s (Doc.past s p)
   rw[hcr,List.length_cons] at hl
   rw[←hcr] at hn
   have hb:Doc.past s p+(Doc.lex (Doc.rest s (Doc.past s p))).2≤s.size:=by have:=hn.2.1;omega
   exact .inr (.inr ⟨Doc.past s p,_,_,by omega,rfl,hk,hn.2.2 hk,hb,h1,h2⟩)
theorem goKind_eq {k:UInt8}(_h:k≠120)(h1:k=119∨k=110∨k=115∨k=103):(goKind k==2)=(k==119)∧(goKind k==3)=(k==110)∧(goKind k==4)=(k==115):=by
 rcases h1 with rfl|rfl|rfl|rfl<;>exact⟨rfl,rfl,rfl⟩
theorem run_take (lo hi:UInt8)(l:List UInt8):Doc.run lo hi (l.take (Doc.run lo hi l))=Doc.run lo hi l:=by
 induction l with
 |nil=>rfl
 |cons c l ih=>
  by_cases h:lo≤c∧c≤hi
  ·rw[Doc.run_hit h.1 h.2,List.take_succ_cons,Doc.run_hit h.1 h.2,ih]
  ·rw[Doc.run_miss h];rfl
theorem tok_of {a:Nat}{k:UInt8}{n:Nat}(hx:Doc.lex (Doc.rest s a)=(k,n)):(Doc.tok s a).kind=k∧(Doc.tok s a).at_=a∧((k=119∨k=103)→(Doc.tok s a).S=s.extract a (a+n)∧(Doc.tok s a).N=0)∧(k=115→(Doc.tok s a).S=s.extract (a+1) (a+n-1)∧(Doc.tok s a).N=0)∧(k=110→(Doc.tok s a).S=ByteArray.empty∧(Doc.tok s a).N=Doc.signed ((Doc.rest s a).take n)):=by
 unfold Doc.tok
 rw[hx]
 refine⟨rfl,rfl,fun h=>?_,fun h=>?_,fun h=>?_⟩
 ·rcases h with rfl|rfl<;>exact⟨rfl,rfl⟩
 ·subst h;exact⟨rfl,rfl⟩
 ·subst h;exact⟨rfl,rfl⟩
theorem ptok_name (h:p≤s.size):pName (ptok s p)=((Doc.hd s p).kind==119 && Doc.nameB (Doc.hd s p).S):=by
 rcases ptok_cases h with⟨h1,_,h3⟩|⟨h1,_,h3⟩|⟨a,k,n,ha,hx,hk,hn,hle,h1,h2⟩
 ·unfold pName;rw[h1,h3];rfl
 ·unfold pName;rw[h1,h3];rfl
 ·rw[h1,h2]
  obtain⟨c,r,hcr⟩:=Doc.rest_at s a ha
  have hll:=Doc.lex_len c r
  have hf:=lex_first c r
  rw[←hcr,hx] at hll hf
  obtain⟨t1,t2,t3,t4,t5⟩:=tok_of hx
  have hkk:k=119∨k=110∨k=115∨k=103:=by
   rcases hll.1 with h|h|h|h|h
   ·exact .inl h
   ·exact .inr (.inl h)
   ·exact .inr (.inr (.inl h))
   ·exact .inr (.inr (.inr h))
   ·exact absurd h hk
  rw[t1]
  unfold pName
  simp only
  rw[(goKind_eq hk hkk).1]
  by_cases hw:k=119
  ·obtain⟨_,hr,h8⟩:=hf.1 hw
   simp only at hr h8
   rw[(t3 (.inl hw)).1]
   have hsz:(s.extract a (a+n)).size=n:=by simp;omega
   have hrun:Doc.run 97 122 (Doc.rest (s.extract a (a+n)) 0)=n:=by
    rw[rest0,extract_rest]
    conv=>lhs;rw[hr]
    rw[run_take];exact hr.symm
   unfold Doc.nameB
   rw[hsz,hrun]
   rw[show decide (1≤n)=true from decide_eq_true hn,show decide (n≤8)=true from decide_eq_true h8,beq_self_eq_true n]
   rfl
  ·rw[beq_eq_false_iff_ne.2 hw,Bool.false_and,Bool.false_and]
theorem hd_first (h:p≤s.size):((Doc.hd s p).kind=119→∃c r,(Doc.hd s p).S.toList=c::r∧Doc.isLetter c=true)∧((Doc.hd s p).kind=103→∃c r,(Doc.hd s p).S.toList=c::r∧Doc.isLetter c=false):=by
 rcases ptok_cases h with⟨_,_,h3⟩|⟨_,_,h3⟩|⟨a,k,n,ha,hx,hk,hn,hle,h1,h2⟩
 ·rw[h3];exact⟨fun h=>absurd h (by decide),fun h=>absurd h (by decide)⟩
 ·rw[h3];exact⟨fun h=>absurd h (by decide),fun h=>absurd h (by decide)⟩
 ·rw[h2]
  obtain⟨c,r,hcr⟩:=Doc.rest_at s a ha
  have hf:=lex_first c r
  rw[←hcr,hx] at hf
  obtain⟨t1,t2,t3,_,_⟩:=tok_of hx
  obtain⟨m,rfl⟩:∃m,n=m+1:=⟨n-1,by omega⟩
  rw[t1]
  refine⟨fun e=>?_,fun e=>?_⟩
  ·rw[(t3 (.inl e)).1,ext_list,hcr,List.take_succ_cons]
   exact⟨c,_,rfl,(hf.1 e).1⟩
  ·rw[(t3 (.inr e)).1,ext_list,hcr,List.take_succ_cons]
   exact⟨c,_,rfl,hf.2.2.2 e⟩
theorem is_sign (h:p≤s.size){c:UInt8}{r:List UInt8}(hc:Doc.isLetter c=false):Doc.is (Doc.hd s p) (c::r)=((Doc.hd s p).kind==103 && (Doc.hd s p).S.toList==c::r):=by
 unfold Doc.is
 by_cases hw:(Doc.hd s p).kind=119
 ·obtain⟨c1,r1,e1,e2⟩:=(hd_first h).1 hw
  rw[e1]
  have:(c1::r1==c::r)=false:=by
   rw[beq_eq_false_iff_ne];intro e;rw[List.cons.injEq] at e;rw[←e.1,e2] at hc;cases hc
  rw[this,Bool.and_false,Bool.and_false]
 ·rw[beq_eq_false_iff_ne.2 hw,Bool.false_or]
theorem is_word (h:p≤s.size){c:UInt8}{r:List UInt8}(hc:Doc.isLetter c=true):Doc.is (Doc.hd s p) (c::r)=Doc.isWord (Doc.hd s p) (c::r):=by
 unfold Doc.is Doc.isWord
 by_cases hw:(Doc.hd s p).kind=103
 ·obtain⟨c1,r1,e1,e2⟩:=(hd_first h).2 hw
  rw[e1]
  have:(c1::r1==c::r)=false:=by
   rw[beq_eq_false_iff_ne];intro e;rw[List.cons.injEq] at e;rw[←e.1,e2] at hc;cases hc
  rw[this,Bool.and_false,Bool.and_false]
 ·rw[beq_eq_false_iff_ne.2 hw,Bool.or_false]
theorem bare_cmp {c:UInt8}{r:List UInt8}(h:c=61∨c=33∨c=60∨c=62):Bare (c::r)∧Doc.isLetter c=false:=by
 rcases h with rfl|rfl|rfl|rfl<;>exact⟨⟨_,_,rfl,rfl,rfl,rfl⟩,rfl⟩
theorem ptok_cmp (h:p≤s.size):pCmp (ptok s p)=Doc.cmpB (Doc.hd s p):=by
 unfold pCmp Doc.cmpB
 rw[ptok_is h (bare_cmp (.inl rfl)).1,ptok_is h (bare_cmp (.inr (.inl rfl))).1,ptok_is h (bare_cmp (.inr (.inr (.inl rfl)))).1,ptok_is h (bare_cmp (.inr (.inr (.inl rfl)))).1,ptok_is h (bare_cmp (.inr (.inr (.inr rfl)))).1,ptok_is h (bare_cmp (.inr (.inr (.inr rfl)))).1]
 rw[is_sign h rfl,is_sign h rfl,is_sign h rfl,is_sign h rfl,is_sign h rfl,is_sign h rfl]
 simp only[Bool.and_or_distrib_left]
theorem ptok_kinds (h:p≤s.size):((ptok s p).kind==3)=((Doc.hd s p).kind==110)∧((ptok s p).kind==4)=((Doc.hd s p).kind==115)∧((ptok s p).kind==0)=((Doc.hd s p).kind==101):=by
 rcases ptok_cases h with⟨h1,_,h3⟩|⟨h1,_,h3⟩|⟨a,k,n,ha,hx,hk,hn,hle,h1,h2⟩
 ·rw[h1,h3];exact⟨rfl,rfl,rfl⟩
 ·rw[h1,h3];exact⟨rfl,rfl,rfl⟩
 ·rw[h1,h2,(tok_of hx).1]
  obtain⟨c,r,hcr⟩:=Doc.rest_at s a ha
  have hll:=Doc.lex_len c r
  rw[←hcr,hx] at hll
  rcases hll.1 with h|h|h|h|h<;>simp only at h
  ·subst h;exact⟨rfl,rfl,rfl⟩
  ·subst h;exact⟨rfl,rfl,rfl⟩
  ·subst h;exact⟨rfl,rfl,rfl⟩
  ·subst h;exact⟨rfl,rfl,rfl⟩
  ·exact absurd h hk
theorem lex_number (c:UInt8)(r:List UInt8)(h:(Doc.lex (c::r)).1=110):
  ((c==45)=true∧Doc.run 48 57 r≠0∧Doc.run 48 57 r≤7∧(Doc.lex (c::r)).2=Doc.run 48 57 r+1)∨((c==45)=false∧Doc.run 48 57 (c::r)≤7∧(Doc.lex (c::r)).2=Doc.run 48 57 (c::r)):=by
 unfold Doc.lex at h ⊢
 simp only at h ⊢
 split at h
 ·split at h<;>simp at h
 ·rename_i h1
  rw[if_neg h1]
  split at h
  ·rename_i h2
   rw[if_pos h2]
   split at h
   ·rename_i h3;rw[if_pos h3];exact .inl ⟨h2,h3.1,h3.2,rfl⟩
   ·simp at h
  ·rename_i h2
   rw[if_neg h2]
   split at h
   ·rename_i h3
    rw[if_pos h3]
    split at h
    ·rename_i h4;rw[if_pos h4];exact .inr ⟨by simpa using h2,h4,rfl⟩
    ·simp at h
   ·split at h
    ·split at h<;>simp at h
    ·split at h
     ·simp at h
     ·split at h<;>simp at h
theorem lex_string (c:UInt8)(r:List UInt8)(h:(Doc.lex (c::r)).1=115):2≤(Doc.lex (c::r)).2:=by
 unfold Doc.lex at h ⊢
 simp only at h ⊢
 split at h
 ·split at h<;>simp at h
 ·rename_i h1
  rw[if_neg h1]
  split at h
  ·split at h<;>simp at h
  ·rename_i h2
   rw[if_neg h2]
   split at h
   ·split at h<;>simp at h
   ·rename_i h3
    rw[if_neg h3]
    split at h
    ·rename_i h4
     rw[if_pos h4]
     split at h
     ·rename_i h5;rw[if_pos h5];simp
     ·simp at h
    ·split at h
     ·simp at h
     ·split at h<;>simp at h
theorem ptok_str (h:p≤s.size)(hk:(Doc.hd s p).kind=115):(ptok s p).kind=4∧2≤(ptok s p).text.size∧(ptok s p).text.extract 1 ((ptok s p).text.size-1)=(Doc.hd s p).S∧(Doc.hd s p).N=0:=by
 have hK:=(ptok_kinds h).2.1
 rw[hk] at hK
 refine⟨by simpa using hK,?_⟩
 rcases ptok_cases h with⟨_,_,h3⟩|⟨_,_,h3⟩|⟨a,k,n,ha,hx,hk',hn,hle,h1,h2⟩
 ·rw[h3] at hk;exact absurd hk (by decide)
 ·rw[h3] at hk;exact absurd hk (by decide)
 ·rw[h2,(tok_of hx).1] at hk
  rw[h1,h2]
  obtain⟨e1,e2⟩:=(tok_of hx).2.2.2.1 hk
  obtain⟨c,r,hcr⟩:=Doc.rest_at s a ha
  have h2n:2≤n:=by
   have:=lex_string c r (by rw[←hcr,hx];exact hk)
   rw[←hcr,hx] at this;exact this
  rw[e1]
  have hsz:(s.extract a (a+n)).size=n:=by simp;omega
  refine⟨by show 2≤(s.extract a (a+n)).size;omega,?_,e2⟩
  show(s.extract a (a+n)).extract 1 ((s.extract a (a+n)).size-1)=_
  rw[hsz]
  apply ba_ext
  simp only[extract_list,List.drop_take,List.drop_drop,List.take_take]
  congr 1
  omega
theorem ptok_num (h:p≤s.size)(hk:(Doc.hd s p).kind=110):(ptok s p).kind=3∧(Doc.hd s p).S=ByteArray.empty∧
  ∀w,Calls Tryz.prog 224 #[.string (ptok s p).text] w fun e w'=>e=.returned (.tuple #[.int .i64 (Doc.hd s p).N,.nilIface])∧Below w.heap.size w w':=by
 have hK:=(ptok_kinds h).1
 rw[hk] at hK
 refine⟨by simpa using hK,?_⟩
 rcases ptok_cases h with⟨_,_,h3⟩|⟨_,_,h3⟩|⟨a,k,n,ha,hx,hk',hn,hle,h1,h2⟩
 ·rw[h3] at hk;exact absurd hk (by decide)
 ·rw[h3] at hk;exact absurd hk (by decide)
 ·rw[h2,(tok_of hx).1] at hk
  rw[h1,h2]
  obtain⟨e1,e2⟩:=(tok_of hx).2.2.2.2 hk
  obtain⟨c,r,hcr⟩:=Doc.rest_at s a ha
  have hln:=lex_number c r (by rw[←hcr,hx];exact hk)
  rw[←hcr,hx] at hln
  refine⟨e1,?_⟩
  rw[e2]
  show ∀w,Calls Tryz.prog 224 #[.string (s.extract a (a+n))] w _
  have hsz:(s.extract a (a+n)).size=n:=by simp;omega
  have hl:=extract_rest s a n
  rw[hcr] at hl ⊢
  obtain⟨y,hy⟩:∃y,y=s.extract a (a+n):=⟨_,rfl⟩
  rw[←hy] at hsz hl ⊢
  rcases hln with⟨hc,hr0,hr7,hnr⟩|⟨hc,hr7,hnr⟩
  ·simp only at hnr
   subst hnr
   rw[List.take_succ_cons] at hl ⊢
   rw[Doc.signed_minus hc]
   have hxl:(y.extract 1 y.size).data.toList=r.take (Doc.run 48 57 r):=by
    rw[extract_list,hl,List.drop_succ_cons,List.drop_zero,hsz,Nat.add_sub_cancel,List.take_take,Nat.min_self]
   have hxs:(y.extract 1 y.size).size=Doc.run 48 57 r:=by simp;omega
   intro w
   refine atoi_of y _ w fun w=>?_
   rw[←hxl]
   have hy0:0<y.size:=by omega
   refine atoi_in_minus y (y.extract 1 y.size) w rfl hy0 (by omega) ?_ (by omega) (by omega) ?_
   ·have:y.data.toList[0]? =some c:=by rw[hl];rfl
    have h3:y[0]=c:=by
     rw[List.getElem?_eq_getElem (by rw[Array.length_toList];exact hy0)] at this
     exact Option.some.inj this
    rw[h3,show c=45 by simpa using hc];rfl
   ·rw[hxl];exact Doc.run_all 48 57 r
  ·simp only at hnr
   rw[hcr] at hnr hr7
   rw[hnr] at hl hn hsz ⊢
   obtain⟨m,hm⟩:∃m,Doc.run 48 57 (c::r)=m+1:=⟨Doc.run 48 57 (c::r)-1,by omega⟩
   have hsg:Doc.signed ((c::r).take (Doc.run 48 57 (c::r)))=(Doc.num y.data.toList:Nat):=by
    rw[hl,hm,List.take_succ_cons,Doc.signed_plain hc]
   rw[hsg]
   intro w
   refine atoi_of y _ w fun w=>?_
   exact atoi_in_plain y w (by omega) (by omega) (by rw[hl];exact Doc.run_all 48 57 (c::r))
end
end Go.Proofs.YtbnelaoeblhndaaGreatDoor
