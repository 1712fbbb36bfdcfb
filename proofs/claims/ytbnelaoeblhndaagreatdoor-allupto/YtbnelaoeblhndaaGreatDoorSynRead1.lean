import Derived.Test.YtbnelaoeblhndaaGreatDoorSynRel
import Derived.Test.YtbnelaoeblhndaaGreatDoorRefTest
namespace Go.Proofs.YtbnelaoeblhndaaGreatDoor
open Go.RowKit
set_option maxRecDepth 100000
structure PSt (B:Nat)(w:World)(rb:Nat)(s:ByteArray)(t:PTok)(op fault:Nat):Prop where
 blk:w.heap[rb]? =some (.cells #[.string s,.int .i64 t.kind,.string t.text,.int .i64 t.at_,.int .i64 op,.int .i64 fault] 119 (0,0))
 sg:Signs w
 base:B≤rb
 sB:1<B
structure PM (B rb:Nat)(w w':World):Prop where
 below:Below B w w'
 only:∀k,k<w.heap.size→k≠rb→w'.heap[k]? =w.heap[k]?
theorem PM.refl (B rb:Nat)(w:World):PM B rb w w:=⟨Below.refl _ _,fun _ _ _=>rfl⟩
theorem PM.trans {B rb:Nat}{a b c:World}(h:PM B rb a b)(k:PM B rb b c):PM B rb a c:=
 ⟨h.below.trans k.below,fun i hi hf=>(k.only i (Nat.lt_of_lt_of_le hi h.below.size) hf).trans (h.only i hi hf)⟩
theorem PM.ofBelow {B rb:Nat}{w w':World}(h:Below w.heap.size w w')(hB:B≤w.heap.size):PM B rb w w':=⟨h.mono hB,fun k hk _=>h.block k hk⟩
theorem PM.alloc {B rb:Nat}{a w:World}(h:PM B rb a w)(hB:B≤w.heap.size)(o:Obj):PM B rb a (w.alloc o):=
 h.trans (PM.ofBelow ((Below.refl _ _).alloc (Nat.le_refl _) o) hB)
theorem PM.drew {B rb:Nat}{a w:World}(h:PM B rb a w):PM B rb a w.drew:=⟨h.below.drew,h.only⟩
theorem PM.blk {B rb:Nat}{w w':World}(h:PM B rb w w'){k:Nat}{o:Obj}(hk:w.heap[k]? =some o)(hf:k≠rb):w'.heap[k]? =some o:=(h.only k (lt_block hk) hf).trans hk
section
variable {B:Nat}{w:World}{rb:Nat}{s:ByteArray}{t:PTok}{op fault:Nat}
theorem PSt.lt (h:PSt B w rb s t op fault):rb<w.heap.size:=lt_block h.blk
theorem PSt.Ble (h:PSt B w rb s t op fault):B≤w.heap.size:=by have:=h.base;have:=h.lt;omega
theorem PSt.below {w':World}(h:PSt B w rb s t op fault)(hb:Below w.heap.size w w'):PSt B w' rb s t op fault:=
 ⟨(hb.block rb h.lt).trans h.blk,h.sg.below hb (by have:=h.sB;have:=h.Ble;omega),h.base,h.sB⟩
theorem PSt.alloc (h:PSt B w rb s t op fault)(o:Obj):PSt B (w.alloc o) rb s t op fault:=h.below ((Below.refl _ _).alloc (Nat.le_refl _) o)
theorem PSt.drew (h:PSt B w rb s t op fault):PSt B w.drew rb s t op fault:=⟨h.blk,⟨h.sg.c0,h.sg.c1,h.sg.c2,h.sg.c3,h.sg.c4,h.sg.c5,h.sg.c6,h.sg.c7,h.sg.c8⟩,h.base,h.sB⟩
theorem PSt.c0 (h:PSt B w rb s t op fault):w.cell? ⟨rb,0,none⟩=some (.string s):=blk_cell h.blk 0 _ rfl
theorem PSt.c1 (h:PSt B w rb s t op fault):w.cell? ⟨rb,1,none⟩=some (.int .i64 t.kind):=blk_cell h.blk 1 _ rfl
theorem PSt.c2 (h:PSt B w rb s t op fault):w.cell? ⟨rb,2,none⟩=some (.string t.text):=blk_cell h.blk 2 _ rfl
theorem PSt.c3 (h:PSt B w rb s t op fault):w.cell? ⟨rb,3,none⟩=some (.int .i64 t.at_):=blk_cell h.blk 3 _ rfl
theorem PSt.c4 (h:PSt B w rb s t op fault):w.cell? ⟨rb,4,none⟩=some (.int .i64 op):=blk_cell h.blk 4 _ rfl
theorem PSt.c5 (h:PSt B w rb s t op fault):w.cell? ⟨rb,5,none⟩=some (.int .i64 fault):=blk_cell h.blk 5 _ rfl
theorem PSt.fr (h:PSt B w rb s t op fault)(i:Nat):w.frozen? ⟨rb,i,none⟩=false:=blk_free h.blk i
theorem PSt.stored (h:PSt B w rb s t op fault){i:Nat}{u:Value}{t2:PTok}{op2 fault2:Nat}
  (hc:(#[.string s,.int .i64 t.kind,.string t.text,.int .i64 t.at_,.int .i64 op,.int .i64 fault]:Array Value).setIfInBounds i u= #[.string s,.int .i64 t2.kind,.string t2.text,.int .i64 t2.at_,.int .i64 op2,.int .i64 fault2]):
  PSt B (w.setCell ⟨rb,i,none⟩ u) rb s t2 op2 fault2∧PM B rb w (w.setCell ⟨rb,i,none⟩ u):=by
 have hb:Below B w (w.setCell ⟨rb,i,none⟩ u):=(Below.refl _ _).setCell (p:=⟨rb,i,none⟩) h.base u
 refine⟨⟨?_,h.sg.below hb h.sB,h.base,h.sB⟩,hb,fun k _ hf=>Below.heap_setCell _ _ _ _ hf⟩
 rw[←hc]
 simp[World.setCell,Array.getElem?_modify,h.blk]
theorem PSt.tok (h:PSt B w rb s t op fault)(t2:PTok):
  PSt B (((w.setCell ⟨rb,1,none⟩ (.int .i64 t2.kind)).setCell ⟨rb,2,none⟩ (.string t2.text)).setCell ⟨rb,3,none⟩ (.int .i64 t2.at_)) rb s t2 op fault∧
  PM B rb w (((w.setCell ⟨rb,1,none⟩ (.int .i64 t2.kind)).setCell ⟨rb,2,none⟩ (.string t2.text)).setCell ⟨rb,3,none⟩ (.int .i64 t2.at_)):=by
 obtain⟨h1,k1⟩:=h.stored (i:=1) (u:=.int .i64 t2.kind) (t2:=⟨t2.kind,t.text,t.at_⟩) (op2:=op) (fault2:=fault) rfl
 obtain⟨h2,k2⟩:=h1.stored (i:=2) (u:=.string t2.text) (t2:=⟨t2.kind,t2.text,t.at_⟩) (op2:=op) (fault2:=fault) rfl
 obtain⟨h3,k3⟩:=h2.stored (i:=3) (u:=.int .i64 t2.at_) (t2:=t2) (op2:=op) (fault2:=fault) rfl
 exact⟨h3,(k1.trans k2).trans k3⟩
theorem th_cells {w:World}{b:Nat}{c0 c1 c2:Value}{T:TypeId}(h:w.heap[b]? =some (.cells #[c0,c1,c2] T (0,0))):
  w.cell? ⟨b,0,none⟩=some c0∧w.cell? ⟨b,1,none⟩=some c1∧w.cell? ⟨b,2,none⟩=some c2:=
 ⟨blk_cell h 0 _ rfl,blk_cell h 1 _ rfl,blk_cell h 2 _ rfl⟩
theorem th_free {w:World}{b:Nat}{cs:Array Value}{T:TypeId}(h:w.heap[b]? =some (.cells cs T (0,0))):
  w.frozen? ⟨b,0,none⟩=false∧w.frozen? ⟨b,1,none⟩=false∧w.frozen? ⟨b,2,none⟩=false:=
 ⟨blk_free h 0,blk_free h 1,blk_free h 2⟩
theorem PSt.other (h:PSt B w rb s t op fault){n i:Nat}(u:Value)(h1:n≠rb)(h2:B≤n):PSt B (w.setCell ⟨n,i,none⟩ u) rb s t op fault:=
 ⟨(Below.heap_setCell _ _ _ _ (Ne.symm h1)).trans h.blk,h.sg.below ((Below.refl _ _).setCell (p:=⟨n,i,none⟩) h2 u) h.sB,h.base,h.sB⟩
theorem PM.late {W:World}(h:PM B rb w W){n i:Nat}(u:Value)(h1:w.heap.size≤n)(h2:B≤n):PM B rb w (W.setCell ⟨n,i,none⟩ u):=
 ⟨h.below.setCell (p:=⟨n,i,none⟩) h2 u,fun k hk hf=>(Below.heap_setCell _ _ _ _ (by show k≠n;omega)).trans (h.only k hk hf)⟩
theorem take_end {w1:World}{t2:PTok}{o p:Obj}(h:PSt B w rb s t op fault)(hb:Below ((w.alloc o).alloc p).drew.heap.size ((w.alloc o).alloc p).drew w1)(u0 u1 u2:Value):
  PSt B ((((((w1.setCell ⟨rb,1,none⟩ (.int .i64 t2.kind)).setCell ⟨rb,2,none⟩ (.string t2.text)).setCell ⟨rb,3,none⟩ (.int .i64 t2.at_)).setCell ⟨w.heap.size,0,none⟩ u0).setCell ⟨w.heap.size,1,none⟩ u1).setCell ⟨w.heap.size,2,none⟩ u2) rb s t2 op fault∧
  PM B rb w ((((((w1.setCell ⟨rb,1,none⟩ (.int .i64 t2.kind)).setCell ⟨rb,2,none⟩ (.string t2.text)).setCell ⟨rb,3,none⟩ (.int .i64 t2.at_)).setCell ⟨w.heap.size,0,none⟩ u0).setCell ⟨w.heap.size,1,none⟩ u1).setCell ⟨w.heap.size,2,none⟩ u2):=by
 have hb0:Below w.heap.size w w1:=(((Below.refl _ w).alloc (Nat.le_refl _) o).alloc (by show _≤(w.heap.push o).size;simp) p).drew.trans (hb.mono (by show _≤((w.heap.push o).push p).size;simp;omega))
 have h1:=h.below hb0
 obtain⟨h2,k2⟩:=h1.tok t2
 have hne:w.heap.size≠rb:=by have:=h.lt;omega
 have k3:=(PM.ofBelow (rb:=rb) hb0 h.Ble).trans k2
 exact⟨((h2.other u0 hne h.Ble).other u1 hne h.Ble).other u2 hne h.Ble,((k3.late u0 (Nat.le_refl _) h.Ble).late u1 (Nat.le_refl _) h.Ble).late u2 (Nat.le_refl _) h.Ble⟩
set_option maxHeartbeats 400000 in
theorem refuse_st (h:PSt B w rb s t op fault)(e:Nat):
  Calls Tryz.prog 77 #[.pointer (some ⟨rb,0,none⟩),.int .i64 e] w fun r w'=>r=.returned (.tuple #[.agg #[.int .i64 0,.slice none 0 0,.string ⟨#[]⟩,.int .i64 0,.string ⟨#[]⟩,.int .i64 0,.slice none 0 0],.bool false])∧PSt B w' rb s t op e∧PM B rb w w':=by
 have c5:=h.c5
 have f5:=h.fr 5
 have hlt:=h.lt
 go_enter Tryz.func77,Tryz.ntmps77
 go_wp2_with fail
 obtain⟨h5,hs5⟩:=h.stored (i:=5) (u:=.int .i64 e) (t2:=t) (op2:=op) (fault2:=e) rfl
 exact bodyPost_ret (v:=.tuple #[.agg #[.int .i64 0,.slice none 0 0,.string ⟨#[]⟩,.int .i64 0,.string ⟨#[]⟩,.int .i64 0,.slice none 0 0],.bool false]) (by simp[results,Tryz.results77,go_sem]) rfl ⟨rfl,h5.alloc _,hs5.alloc h5.Ble _⟩
theorem wrap_small (x:Int)(h1:0≤x)(h2:x≤1000):IntKind.i64.wrap x=x:=by
 simp[IntKind.wrap_i64];omega
theorem tokenFrom_at (x:Int)(a:Nat)(hx:x=a)(s:ByteArray)(w:World)(hs:s.size≤200)(ha:a≤s.size)(hsg:Signs w)(h0:1<w.heap.size):
  Calls Tryz.prog 48 #[.string s,.int .i64 x] w fun e w'=>∃t,Hid (t=ptok s a)∧e=.returned (.agg #[.int .i64 t.kind,.string t.text,.int .i64 t.at_])∧Below w.heap.size w w':=by
 subst hx;exact tokenFrom_any s a w (by omega) ha hsg h0
set_option maxHeartbeats 2000000 in
theorem take_st (h:PSt B w rb s t op fault)(hs:s.size≤200)(hq:t.at_ +t.text.size≤s.size):
  Calls Tryz.prog 181 #[.pointer (some ⟨rb,0,none⟩)] w fun r w'=>r=.returned (.agg #[.int .i64 t.kind,.string t.text,.int .i64 t.at_])∧PSt B w' rb s (ptok s (t.at_ +t.text.size)) op fault∧PM B rb w w':=by
 have c0:=h.c0
 have c1:=h.c1
 have c2:=h.c2
 have c3:=h.c3
 have hw:IntKind.i64.wrap ((t.at_:Int)+(t.text.size:Int))=(t.at_:Int)+(t.text.size:Int):=wrap_small _ (by omega) (by omega)
 have f1:=h.fr 1
 have f2:=h.fr 2
 have f3:=h.fr 3
 have hlt:=h.lt
 go_enter Tryz.func181,Tryz.ntmps181
 go_wp2_with fail
 go_region_with (go_at_call 48;go_must (go_fit (tokenFrom_at _ (t.at_ +t.text.size) (by omega) s _ hs hq (((h.alloc _).alloc _).drew).sg (by have:=h.sB;have:=h.Ble;simp<;>omega)));rintro r w1 ⟨t2,HT,rfl,hb⟩;have h1:=(((h.alloc _).alloc _).drew).below hb;have d1:=h1.c1;have d2:=h1.c2;have d3:=h1.c3;have g1:=h1.fr 1;have g2:=h1.fr 2;have g3:=h1.fr 3;obtain⟨q1,q2⟩:=two_kept rfl hb;have z1:=lt_block q1;have z2:=lt_block q2;obtain⟨a0,a1,a2⟩:=th_cells q1;obtain⟨b0,b1,b2⟩:=th_cells q2;obtain⟨x0,x1,x2⟩:=th_free q1;have hne:rb≠w.heap.size:=by omega)
 all_goals (go_wp2_with fail)
 all_goals
  obtain⟨hf1,hf2⟩:=take_end (t2:=t2) h hb (.int .i64 t.kind) (.string t.text) (.int .i64 t.at_)
  exact bodyPost_ret (v:=.agg #[.int .i64 t.kind,.string t.text,.int .i64 t.at_]) (by simp[results,Tryz.results181,go_sem,a0,a1,a2]) rfl ⟨rfl,by rw[←HT.out];exact hf1,hf2⟩
set_option maxHeartbeats 1000000 in
theorem takeIf_yes (h:PSt B w rb s t op fault)(hs:s.size≤200)(hq:t.at_ +t.text.size≤s.size)(x:ByteArray)(hx:(t.text.toList==x.toList)=true):
  Calls Tryz.prog 161 #[.pointer (some ⟨rb,0,none⟩),.string x] w fun r w'=>r=.returned (.bool true)∧PSt B w' rb s (ptok s (t.at_ +t.text.size)) op fault∧PM B rb w w':=by
 have c2:=h.c2
 go_enter Tryz.func161,Tryz.ntmps161
 go_wp2_with fail
 refine(take_st h hs hq).mono ?_
 rintro r w1 ⟨rfl,h1,k1⟩
 go_wp2_with fail
 go_ret
 exact⟨rfl,h1,k1⟩
set_option maxHeartbeats 1000000 in
theorem takeIf_no (h:PSt B w rb s t op fault)(x:ByteArray)(hx:(t.text.toList==x.toList)=false):
  Calls Tryz.prog 161 #[.pointer (some ⟨rb,0,none⟩),.string x] w fun r w'=>r=.returned (.bool false)∧w'=w:=by
 have c2:=h.c2
 go_enter Tryz.func161,Tryz.ntmps161
 go_wp2_with fail
 go_ret
 exact⟨rfl,rfl⟩
end
end Go.Proofs.YtbnelaoeblhndaaGreatDoor
