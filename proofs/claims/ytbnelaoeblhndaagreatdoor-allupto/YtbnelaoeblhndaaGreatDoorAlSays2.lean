import Derived.Test.YtbnelaoeblhndaaGreatDoorAlSays1
import Derived.Test.YtbnelaoeblhndaaGreatDoorRefText
import Derived.BigGuard
namespace Go.Proofs.YtbnelaoeblhndaaGreatDoor
open Go.RowKit
set_option maxRecDepth 100000
namespace Doc
def sayI (p:Bool×Bool):Int:=bif p.1 then 2 else bif p.2 then 0 else 1
theorem eval_two (fs:List Fld)(vals:List Val):∀a:Ast,((eval fs vals a).1 && (eval fs vals a).2)=false
 | .test n o l=>by
   simp only[eval]
   split
   ·rfl
   ·split
    ·rfl
    ·unfold sayV
     cases (o.S.toList==[105,115])<;>simp only[cond_true,cond_false]
     ·rename_i x _
      cases (x.k==0)<;>cases meetV x o l<;>rfl
     ·rename_i x _
      cases (x.k==0)<;>rfl
 | .not a=>by have:=eval_two fs vals a;simp only[eval];rw[Bool.and_comm];exact this
 | .and a b=>by
   have h1:=eval_two fs vals a
   have h2:=eval_two fs vals b
   simp only[eval]
   revert h1 h2
   cases (eval fs vals a).1<;>cases (eval fs vals a).2<;>cases (eval fs vals b).1<;>cases (eval fs vals b).2<;>decide
 | .or a b=>by
   have h1:=eval_two fs vals a
   have h2:=eval_two fs vals b
   simp only[eval]
   revert h1 h2
   cases (eval fs vals a).1<;>cases (eval fs vals a).2<;>cases (eval fs vals b).1<;>cases (eval fs vals b).2<;>decide
theorem say_not {p:Bool×Bool}(h:(p.1 && p.2)=false):sayI (p.2,p.1)=2-sayI p:=by
 obtain⟨a,b⟩:=p
 cases a<;>cases b<;>first|rfl|(cases h;done)
theorem say_and {p q:Bool×Bool}(h:(p.1 && p.2)=false)(k:(q.1 && q.2)=false):sayI (p.1 && q.1,p.2 || q.2)=bif decide (sayI p<sayI q) then sayI p else sayI q:=by
 obtain⟨a,b⟩:=p
 obtain⟨c,d⟩:=q
 cases a<;>cases b<;>cases c<;>cases d<;>first|rfl|(cases h;done)|(cases k;done)
theorem say_or {p q:Bool×Bool}(h:(p.1 && p.2)=false)(k:(q.1 && q.2)=false):sayI (p.1 || q.1,p.2 && q.2)=bif decide (sayI p<sayI q) then sayI q else sayI p:=by
 obtain⟨a,b⟩:=p
 obtain⟨c,d⟩:=q
 cases a<;>cases b<;>cases c<;>cases d<;>first|rfl|(cases h;done)|(cases k;done)
theorem say_rng (p:Bool×Bool):0≤sayI p∧sayI p≤2:=by
 obtain⟨a,b⟩:=p
 cases a<;>cases b<;>decide
def SayOk (fs:List Fld)(vals:List Val)(n o:Tok)(l:List Tok):Prop:=
 TestOk n o l∧∃k x,idxF fs n.S=some k∧vals[k]? =some x∧(-9999999≤x.n∧x.n≤9999999)∧((o.S.toList==[105,115])=false→(x.k==0)=false→refB x o l=meetV x o l)
end Doc
def SaysC (fs:List Doc.Fld)(vals:List Doc.Val)(a:Doc.Ast):Prop:=∀{B:Nat} {w:World} {fb:Nat} {Lv:Value} {L:List Doc.Tok} {at_ op:Nat} {Nv:Value} {nodes:List NodeR} {E p k:Nat},RSt B w fb Lv L at_ op Nv nodes E p→nodes.length≤300→Rep B w nodes k a→∀(fa:Option Addr) (fc:Nat) (id:Int) (sa:Option Addr) (sn sc:Nat) (va:Option Addr) (vc:Nat),Sl w (.slice fa fs.length fc) fs.length (fldsC fs)→Sl w (.slice va vals.length vc) vals.length (valsC vals)→
 Calls Tryz.prog 140 #[.pointer (some ⟨fb,0,none⟩),.int .i64 k,.slice fa fs.length fc,.agg #[.int .i64 id,.slice sa sn sc,.slice va vals.length vc]] w fun e w'=>e=.returned (.int .i64 (Doc.sayI (Doc.eval fs vals a)))∧Below w.heap.size w w'
section
variable {B:Nat}{w:World}{fb:Nat}{Lv:Value}{L:List Doc.Tok}{at_ op:Nat}{Nv:Value}{nodes:List NodeR}{E p k:Nat}{fs:List Doc.Fld}{vals:List Doc.Val}{fa:Option Addr}{fc:Nat}{id:Int}{sa:Option Addr}{sn sc:Nat}{va:Option Addr}{vc:Nat}
set_option maxHeartbeats 4000000 in
theorem rsays_not {a:Doc.Ast}{n:NodeR}{i:Nat}(ia:SaysC fs vals a)(h:RSt B w fb Lv L at_ op Nv nodes E p)(hn:nodes.length≤300)(hk:nodes[k]? =some n)(k1:n.kind=33)(hlits:n.lits=.slice none 0 0)(hA:n.A=(i:Int))(ra:Rep B w nodes i a)(hf:Sl w (.slice fa fs.length fc) fs.length (fldsC fs))(hv:Sl w (.slice va vals.length vc) vals.length (valsC vals)):
  Calls Tryz.prog 140 #[.pointer (some ⟨fb,0,none⟩),.int .i64 k,.slice fa fs.length fc,.agg #[.int .i64 id,.slice sa sn sc,.slice va vals.length vc]] w fun e w'=>e=.returned (.int .i64 (Doc.sayI (Doc.eval fs vals (.not a))))∧Below w.heap.size w w':=by
 have IA:Hid (SaysC fs vals a):=ia
 rw[show Doc.sayI (Doc.eval fs vals (.not a))=2-Doc.sayI (Doc.eval fs vals a) from Doc.say_not (Doc.eval_two fs vals a)]
 obtain⟨r,HR⟩:∃r,Hid (Doc.sayI (Doc.eval fs vals a)=r):=⟨_,rfl⟩
 have hrr:=Doc.say_rng (Doc.eval fs vals a)
 rw[HR.out] at hrr ⊢
 obtain⟨g,cap,rfl,hcap,hkl,hg,c0,d1,d2,d3,d4,d5,d6,d7,d8,d9,d10,d11⟩:=Rep.cells h hk
 rw[k1] at c0
 rw[hlits] at d11
 have c3:=h.c3
 have hlt:=h.lt
 obtain⟨W1,HW1⟩:∃W1,Hid (W1=(w.alloc (.cells #[.int .i64 id,.slice sa sn sc,.slice va vals.length vc] 237)).alloc (.cells #[.int .u8 33,.int .i64 (i:Int),.int .i64 n.B,.int .u8 n.name.kind.toNat,.string n.name.S,.int .i64 n.name.N,.int .i64 n.name.at_,.int .u8 n.ask.kind.toNat,.string n.ask.S,.int .i64 n.ask.N,.int .i64 n.ask.at_,.slice none 0 0] 178)):=⟨_,rfl⟩
 have hb1:Below w.heap.size w W1:=by rw[HW1.out];exact((Below.refl _ _).alloc (Nat.le_refl _) _).alloc (by simp) _
 have hq1:W1.heap[w.heap.size]? =some (.cells #[.int .i64 id,.slice sa sn sc,.slice va vals.length vc] 237 (0,0)):=by rw[HW1.out];exact heap_alloc2_old w _ _
 have hq2:W1.heap[w.heap.size+1]? =some (.cells #[.int .u8 33,.int .i64 (i:Int),.int .i64 n.B,.int .u8 n.name.kind.toNat,.string n.name.S,.int .i64 n.name.N,.int .i64 n.name.at_,.int .u8 n.ask.kind.toNat,.string n.ask.S,.int .i64 n.ask.N,.int .i64 n.ask.at_,.slice none 0 0] 178 (0,0)):=by rw[HW1.out];exact heap_alloc2_new w _ _
 rw[hA] at d1
 have HCA:Hid _:=IA.out (h.below hb1) hn (ra.mono (Step.ofBelow hb1 h.Ble) List.prefix_rfl) fa fc id sa sn sc va vc (hf.below hb1) (hv.below hb1)
 rw[HR.out] at HCA
 have HB1:Hid _:=hb1
 have HQ2:Hid _:=hq2
 clear hA k1 hk hlits ia ra hq1 hq2 hb1
 go_enter Tryz.func140,Tryz.ntmps140
 go_wp2_with fail
 rw[←HW1.out]
 refine Calls.mono HCA.out ?_
 rintro e w2 ⟨rfl,hb2⟩
 have e0:=blk_cell ((hb2.block _ (lt_block HQ2.out)).trans HQ2.out) 0 _ rfl
 have HB2:Hid (Below w.heap.size w w2):=HB1.out.trans (hb2.mono HB1.out.size)
 clear hb2 c0 d1 d2 d3 d4 d5 d6 d7 d8 d9 d10 d11 c3
 go_wp2_with fail
 go_ret
 exact⟨rfl,HB2.out⟩
set_option maxHeartbeats 4000000 in
theorem rsays_and {a b:Doc.Ast}{n:NodeR}{i j:Nat}(ia:SaysC fs vals a)(ib:SaysC fs vals b)(h:RSt B w fb Lv L at_ op Nv nodes E p)(hn:nodes.length≤300)(hk:nodes[k]? =some n)(k1:n.kind=38)(hlits:n.lits=.slice none 0 0)(hA:n.A=(i:Int))(hB:n.B=(j:Int))(ra:Rep B w nodes i a)(rb:Rep B w nodes j b)(hf:Sl w (.slice fa fs.length fc) fs.length (fldsC fs))(hv:Sl w (.slice va vals.length vc) vals.length (valsC vals)):
  Calls Tryz.prog 140 #[.pointer (some ⟨fb,0,none⟩),.int .i64 k,.slice fa fs.length fc,.agg #[.int .i64 id,.slice sa sn sc,.slice va vals.length vc]] w fun e w'=>e=.returned (.int .i64 (Doc.sayI (Doc.eval fs vals (.and a b))))∧Below w.heap.size w w':=by
 have IA:Hid (SaysC fs vals a):=ia
 have IB:Hid (SaysC fs vals b):=ib
 rw[show Doc.sayI (Doc.eval fs vals (.and a b))=_ from Doc.say_and (Doc.eval_two fs vals a) (Doc.eval_two fs vals b)]
 obtain⟨r,HR⟩:∃r,Hid (Doc.sayI (Doc.eval fs vals a)=r):=⟨_,rfl⟩
 obtain⟨q,HQ⟩:∃r,Hid (Doc.sayI (Doc.eval fs vals b)=r):=⟨_,rfl⟩
 rw[HR.out,HQ.out]
 obtain⟨z,HZ⟩:∃z,Hid ((bif decide (r<q) then r else q)=z):=⟨_,rfl⟩
 rw[HZ.out]
 obtain⟨g,cap,rfl,hcap,hkl,hg,c0,d1,d2,d3,d4,d5,d6,d7,d8,d9,d10,d11⟩:=Rep.cells h hk
 rw[k1] at c0
 rw[hlits] at d11
 have c3:=h.c3
 have hlt:=h.lt
 obtain⟨W1,HW1⟩:∃W1,Hid (W1=(w.alloc (.cells #[.int .i64 id,.slice sa sn sc,.slice va vals.length vc] 237)).alloc (.cells #[.int .u8 38,.int .i64 (i:Int),.int .i64 (j:Int),.int .u8 n.name.kind.toNat,.string n.name.S,.int .i64 n.name.N,.int .i64 n.name.at_,.int .u8 n.ask.kind.toNat,.string n.ask.S,.int .i64 n.ask.N,.int .i64 n.ask.at_,.slice none 0 0] 178)):=⟨_,rfl⟩
 have hb1:Below w.heap.size w W1:=by rw[HW1.out];exact((Below.refl _ _).alloc (Nat.le_refl _) _).alloc (by simp) _
 have hq1:W1.heap[w.heap.size]? =some (.cells #[.int .i64 id,.slice sa sn sc,.slice va vals.length vc] 237 (0,0)):=by rw[HW1.out];exact heap_alloc2_old w _ _
 have hq2:W1.heap[w.heap.size+1]? =some (.cells #[.int .u8 38,.int .i64 (i:Int),.int .i64 (j:Int),.int .u8 n.name.kind.toNat,.string n.name.S,.int .i64 n.name.N,.int .i64 n.name.at_,.int .u8 n.ask.kind.toNat,.string n.ask.S,.int .i64 n.ask.N,.int .i64 n.ask.at_,.slice none 0 0] 178 (0,0)):=by rw[HW1.out];exact heap_alloc2_new w _ _
 rw[hA] at d1
 rw[hB] at d2
 have HCA:Hid _:=IA.out (h.below hb1) hn (ra.mono (Step.ofBelow hb1 h.Ble) List.prefix_rfl) fa fc id sa sn sc va vc (hf.below hb1) (hv.below hb1)
 rw[HR.out] at HCA
 have HCB:Hid (∀W:World,Below w.heap.size w W→Calls Tryz.prog 140 #[.pointer (some ⟨fb,0,none⟩),.int .i64 (j:Int),.slice fa fs.length fc,.agg #[.int .i64 id,.slice sa sn sc,.slice va vals.length vc]] W fun e w'=>e=.returned (.int .i64 q)∧Below W.heap.size W w'):=fun W hW=>by
  rw[←HQ.out]
  exact IB.out (h.below hW) hn (rb.mono (Step.ofBelow hW h.Ble) List.prefix_rfl) fa fc id sa sn sc va vc (hf.below hW) (hv.below hW)
 have HB1:Hid _:=hb1
 have HQ1:Hid _:=hq1
 have HQ2:Hid _:=hq2
 clear hA hB k1 hk hlits ia ib ra rb hq1 hq2 hb1
 go_enter Tryz.func140,Tryz.ntmps140
 go_wp2_with fail
 rw[←HW1.out]
 refine Calls.mono HCA.out ?_
 rintro e w2 ⟨rfl,hb2⟩
 have hk1:=(hb2.block _ (lt_block HQ1.out)).trans HQ1.out
 have hk2:=(hb2.block _ (lt_block HQ2.out)).trans HQ2.out
 have e0:=blk_cell hk2 0 _ rfl
 have e2:=blk_cell hk2 2 _ rfl
 have f0:=blk_cell hk1 0 _ rfl
 have f1:=blk_cell hk1 1 _ rfl
 have f2:=blk_cell hk1 2 _ rfl
 have HK2:Hid _:=hk2
 have HB2:Hid (Below w.heap.size w w2):=HB1.out.trans (hb2.mono HB1.out.size)
 clear hb2 hk1 hk2 c0 d1 d2 d3 d4 d5 d6 d7 d8 d9 d10 d11 c3
 go_wp2_with fail
 refine Calls.mono (HCB.out _ HB2.out) ?_
 rintro e w3 ⟨rfl,hb3⟩
 have e0':=blk_cell ((hb3.block _ (lt_block HK2.out)).trans HK2.out) 0 _ rfl
 have HB3:Hid (Below w.heap.size w w3):=HB2.out.trans (hb3.mono HB2.out.size)
 clear hb3 e0 e2 f0 f1 f2
 cases hd:decide (r<q)
 ·obtain rfl:z=q:=by rw[←HZ.out,hd];rfl
  go_wp2_with fail
  go_ret
  exact⟨rfl,HB3.out⟩
 ·obtain rfl:z=r:=by rw[←HZ.out,hd];rfl
  go_wp2_with fail
  go_ret
  exact⟨rfl,HB3.out⟩
set_option maxHeartbeats 4000000 in
theorem rsays_or {a b:Doc.Ast}{n:NodeR}{i j:Nat}(ia:SaysC fs vals a)(ib:SaysC fs vals b)(h:RSt B w fb Lv L at_ op Nv nodes E p)(hn:nodes.length≤300)(hk:nodes[k]? =some n)(k1:n.kind=124)(hlits:n.lits=.slice none 0 0)(hA:n.A=(i:Int))(hB:n.B=(j:Int))(ra:Rep B w nodes i a)(rb:Rep B w nodes j b)(hf:Sl w (.slice fa fs.length fc) fs.length (fldsC fs))(hv:Sl w (.slice va vals.length vc) vals.length (valsC vals)):
  Calls Tryz.prog 140 #[.pointer (some ⟨fb,0,none⟩),.int .i64 k,.slice fa fs.length fc,.agg #[.int .i64 id,.slice sa sn sc,.slice va vals.length vc]] w fun e w'=>e=.returned (.int .i64 (Doc.sayI (Doc.eval fs vals (.or a b))))∧Below w.heap.size w w':=by
 have IA:Hid (SaysC fs vals a):=ia
 have IB:Hid (SaysC fs vals b):=ib
 rw[show Doc.sayI (Doc.eval fs vals (.or a b))=_ from Doc.say_or (Doc.eval_two fs vals a) (Doc.eval_two fs vals b)]
 obtain⟨r,HR⟩:∃r,Hid (Doc.sayI (Doc.eval fs vals a)=r):=⟨_,rfl⟩
 obtain⟨q,HQ⟩:∃r,Hid (Doc.sayI (Doc.eval fs vals b)=r):=⟨_,rfl⟩
 rw[HR.out,HQ.out]
 obtain⟨z,HZ⟩:∃z,Hid ((bif decide (r<q) then q else r)=z):=⟨_,rfl⟩
 rw[HZ.out]
 obtain⟨g,cap,rfl,hcap,hkl,hg,c0,d1,d2,d3,d4,d5,d6,d7,d8,d9,d10,d11⟩:=Rep.cells h hk
 rw[k1] at c0
 rw[hlits] at d11
 have c3:=h.c3
 have hlt:=h.lt
 obtain⟨W1,HW1⟩:∃W1,Hid (W1=(w.alloc (.cells #[.int .i64 id,.slice sa sn sc,.slice va vals.length vc] 237)).alloc (.cells #[.int .u8 124,.int .i64 (i:Int),.int .i64 (j:Int),.int .u8 n.name.kind.toNat,.string n.name.S,.int .i64 n.name.N,.int .i64 n.name.at_,.int .u8 n.ask.kind.toNat,.string n.ask.S,.int .i64 n.ask.N,.int .i64 n.ask.at_,.slice none 0 0] 178)):=⟨_,rfl⟩
 have hb1:Below w.heap.size w W1:=by rw[HW1.out];exact((Below.refl _ _).alloc (Nat.le_refl _) _).alloc (by simp) _
 have hq1:W1.heap[w.heap.size]? =some (.cells #[.int .i64 id,.slice sa sn sc,.slice va vals.length vc] 237 (0,0)):=by rw[HW1.out];exact heap_alloc2_old w _ _
 have hq2:W1.heap[w.heap.size+1]? =some (.cells #[.int .u8 124,.int .i64 (i:Int),.int .i64 (j:Int),.int .u8 n.name.kind.toNat,.string n.name.S,.int .i64 n.name.N,.int .i64 n.name.at_,.int .u8 n.ask.kind.toNat,.string n.ask.S,.int .i64 n.ask.N,.int .i64 n.ask.at_,.slice none 0 0] 178 (0,0)):=by rw[HW1.out];exact heap_alloc2_new w _ _
 rw[hA] at d1
 rw[hB] at d2
 have HCA:Hid _:=IA.out (h.below hb1) hn (ra.mono (Step.ofBelow hb1 h.Ble) List.prefix_rfl) fa fc id sa sn sc va vc (hf.below hb1) (hv.below hb1)
 rw[HR.out] at HCA
 have HCB:Hid (∀W:World,Below w.heap.size w W→Calls Tryz.prog 140 #[.pointer (some ⟨fb,0,none⟩),.int .i64 (j:Int),.slice fa fs.length fc,.agg #[.int .i64 id,.slice sa sn sc,.slice va vals.length vc]] W fun e w'=>e=.returned (.int .i64 q)∧Below W.heap.size W w'):=fun W hW=>by
  rw[←HQ.out]
  exact IB.out (h.below hW) hn (rb.mono (Step.ofBelow hW h.Ble) List.prefix_rfl) fa fc id sa sn sc va vc (hf.below hW) (hv.below hW)
 have HB1:Hid _:=hb1
 have HQ1:Hid _:=hq1
 have HQ2:Hid _:=hq2
 clear hA hB k1 hk hlits ia ib ra rb hq1 hq2 hb1
 go_enter Tryz.func140,Tryz.ntmps140
 go_wp2_with fail
 rw[←HW1.out]
 refine Calls.mono HCA.out ?_
 rintro e w2 ⟨rfl,hb2⟩
 have hk1:=(hb2.block _ (lt_block HQ1.out)).trans HQ1.out
 have hk2:=(hb2.block _ (lt_block HQ2.out)).trans HQ2.out
 have e0:=blk_cell hk2 0 _ rfl
 have e2:=blk_cell hk2 2 _ rfl
 have f0:=blk_cell hk1 0 _ rfl
 have f1:=blk_cell hk1 1 _ rfl
 have f2:=blk_cell hk1 2 _ rfl
 have HK2:Hid _:=hk2
 have HB2:Hid (Below w.heap.size w w2):=HB1.out.trans (hb2.mono HB1.out.size)
 clear hb2 hk1 hk2 c0 d1 d2 d3 d4 d5 d6 d7 d8 d9 d10 d11 c3
 go_wp2_with fail
 refine Calls.mono (HCB.out _ HB2.out) ?_
 rintro e w3 ⟨rfl,hb3⟩
 have e0':=blk_cell ((hb3.block _ (lt_block HK2.out)).trans HK2.out) 0 _ rfl
 have HB3:Hid (Below w.heap.size w w3):=HB2.out.trans (hb3.mono HB2.out.size)
 clear hb3 e0 e2 f0 f1 f2
 cases hd:decide (r<q)
 ·obtain rfl:z=r:=by rw[←HZ.out,hd];rfl
  go_wp2_with fail
  go_ret
  exact⟨rfl,HB3.out⟩
 ·obtain rfl:z=q:=by rw[←HZ.out,hd];rfl
  go_wp2_with fail
  go_ret
  exact⟨rfl,HB3.out⟩
set_option maxHeartbeats 8000000 in
theorem rsays_test {n:NodeR}{lits:List Doc.Tok}(h:RSt B w fb Lv L at_ op Nv nodes E p)(_hn:nodes.length≤300)(hk:nodes[k]? =some n)(k1:n.kind=116)(hrow:w.ownsRow B 175 4 n.lits lits.length (toksC lits))(hok:Doc.SayOk fs vals n.name n.ask lits)(hfl:fs.length≤4)(hf:Sl w (.slice fa fs.length fc) fs.length (fldsC fs))(hv:Sl w (.slice va vals.length vc) vals.length (valsC vals)):
  Calls Tryz.prog 140 #[.pointer (some ⟨fb,0,none⟩),.int .i64 k,.slice fa fs.length fc,.agg #[.int .i64 id,.slice sa sn sc,.slice va vals.length vc]] w fun e w'=>e=.returned (.int .i64 (Doc.sayI (Doc.eval fs vals (.test n.name n.ask lits))))∧Below w.heap.size w w':=by
 obtain⟨htok,kx,x,hidx,hvx,hxb,hmeet⟩:=hok
 have hev:Doc.eval fs vals (.test n.name n.ask lits)=Doc.sayV x n.ask lits:=by simp only[Doc.eval,hidx,hvx]
 rw[hev]
 obtain⟨z,HZ⟩:∃z,Hid (Doc.sayI (Doc.sayV x n.ask lits)=z):=⟨_,rfl⟩
 rw[HZ.out]
 obtain⟨g,cap,rfl,hcap,hkl,hg,c0,d1,d2,d3,d4,d5,d6,d7,d8,d9,d10,d11⟩:=Rep.cells h hk
 obtain⟨lb,lc,hlv⟩:=row_slice hrow
 have hls:=rowSl hrow
 rw[hlv] at d11 hls
 rw[k1] at c0
 have c3:=h.c3
 have hlt:=h.lt
 have hkv:kx<vals.length:=(List.getElem?_eq_some_iff.1 hvx).1
 rcases hv.has with⟨h0',_⟩|⟨_,vb,vo,vc',ev,hvc,hvlt,hvr⟩
 ·omega
 cases ev
 have hl3:lits.length≤300:=htok.len
 have hlb:∀t∈lits, -9999999≤t.N∧t.N≤9999999:=fun t ht=>⟨(htok.lits t ht).lo,(htok.lits t ht).hi⟩
 obtain⟨W1,HW1⟩:∃W1,Hid (W1=(w.alloc (.cells #[.int .i64 id,.slice sa sn sc,.slice (some ⟨vb,vo,none⟩) vals.length vc] 237)).alloc (.cells #[.int .u8 116,.int .i64 n.A,.int .i64 n.B,.int .u8 n.name.kind.toNat,.string n.name.S,.int .i64 n.name.N,.int .i64 n.name.at_,.int .u8 n.ask.kind.toNat,.string n.ask.S,.int .i64 n.ask.N,.int .i64 n.ask.at_,.slice lb lits.length lc] 178)):=⟨_,rfl⟩
 have hb1:Below w.heap.size w W1:=by rw[HW1.out];exact((Below.refl _ _).alloc (Nat.le_refl _) _).alloc (by simp) _
 have hq1:W1.heap[w.heap.size]? =some (.cells #[.int .i64 id,.slice sa sn sc,.slice (some ⟨vb,vo,none⟩) vals.length vc] 237 (0,0)):=by rw[HW1.out];exact heap_alloc2_old w _ _
 have hq2:W1.heap[w.heap.size+1]? =some (.cells #[.int .u8 116,.int .i64 n.A,.int .i64 n.B,.int .u8 n.name.kind.toNat,.string n.name.S,.int .i64 n.name.N,.int .i64 n.name.at_,.int .u8 n.ask.kind.toNat,.string n.ask.S,.int .i64 n.ask.N,.int .i64 n.ask.at_,.slice lb lits.length lc] 178 (0,0)):=by rw[HW1.out];exact heap_alloc2_new w _ _
 have HCE:Hid (∀W:World,Below W1.heap.size W1 W→W.cell? ⟨w.heap.size,2,none⟩=some (.slice (some ⟨vb,vo,none⟩) vals.length vc)∧W.cell? ⟨w.heap.size+1,4,none⟩=some (.string n.name.S)∧W.cell? ⟨vb,vo+kx*3,none⟩=some (.int .i64 x.k)∧W.cell? ⟨vb,vo+kx*3+1,none⟩=some (.int .i64 x.n)∧W.cell? ⟨vb,vo+kx*3+2,none⟩=some (.string x.s)∧W.heap[w.heap.size+1]? =some (.cells #[.int .u8 116,.int .i64 n.A,.int .i64 n.B,.int .u8 n.name.kind.toNat,.string n.name.S,.int .i64 n.name.N,.int .i64 n.name.at_,.int .u8 n.ask.kind.toNat,.string n.ask.S,.int .i64 n.ask.N,.int .i64 n.ask.at_,.slice lb lits.length lc] 178 (0,0))):=fun W hW=>by
  have hWw:Below w.heap.size w W:=hb1.trans (hW.mono hb1.size)
  have rr:∀i (_:i<3),W.cell? ⟨vb,vo+kx*3+i,none⟩=(valC x)[i]? :=fun i hi=>by
   obtain⟨hkk,hxx⟩:=List.getElem?_eq_some_iff.1 hvx
   have hf:=flat_at valC 3 valC_len vals kx hkk i hi
   rw[hxx] at hf
   have hlc:((valC x)[i]?).isSome=true:=by rw[List.getElem?_eq_getElem (by rw[valC_len];exact hi)];rfl
   obtain⟨u,hu⟩:=Option.isSome_iff_exists.1 hlc
   rw[hWw.cell (p:=⟨vb,vo+kx*3+i,none⟩) hvlt,hu,Nat.add_assoc]
   exact hvr (kx*3+i) u (by unfold valsC;rw[hf,hu])
  have e1:=(hW.block _ (lt_block hq1)).trans hq1
  have e2:=(hW.block _ (lt_block hq2)).trans hq2
  exact⟨blk_cell e1 2 _ rfl,blk_cell e2 4 _ rfl,rr 0 (by omega),rr 1 (by omega),rr 2 (by omega),e2⟩
 have HFD:Hid (∀W:World,Below W1.heap.size W1 W→Calls Tryz.prog 136 #[.slice fa fs.length fc,.string n.name.S] W fun e w'=>e=.returned (.int .i64 (kx:Int))∧w'=W):=fun W hW=>by
  have hWw:Below w.heap.size w W:=hb1.trans (hW.mono hb1.size)
  have h1:=field_any (w:=W) fs (by omega) (.slice fa fs.length fc) (hf.below hWw) n.name.S
  rw[hidx] at h1
  exact h1
 have HSY:Hid (∀W:World,Below W1.heap.size W1 W→Calls Tryz.prog 169 #[.agg #[.int .u8 n.kind.toNat,.int .i64 n.A,.int .i64 n.B,.int .u8 n.name.kind.toNat,.string n.name.S,.int .i64 n.name.N,.int .i64 n.name.at_,.int .u8 n.ask.kind.toNat,.string n.ask.S,.int .i64 n.ask.N,.int .i64 n.ask.at_,.slice lb lits.length lc],.agg #[.int .i64 x.k,.int .i64 x.n,.string x.s]] W fun e w'=>e=.returned (.bool (Doc.refB x n.ask lits))∧Below W.heap.size W w'):=fun W hW=>by
  have hWw:Below w.heap.size w W:=hb1.trans (hW.mono hb1.size)
  exact rsays_any n x lits lb lc (hls.below hWw) hl3 hxb hlb (fun hlk=>by
   rcases htok.which with⟨_,_,h3⟩|⟨_,h2,_⟩|⟨_,_,t,h3⟩
   ·exact h3
   ·rw[beq_iff_eq] at hlk h2
    rw[hlk] at h2
    cases h2
   ·rw[h3];simp)
 have HS0:Hid (Below W1.heap.size W1 W1.drew):=Below.drew (Below.refl _ _)
 have HB1:Hid _:=hb1
 have HME:Hid _:=hmeet
 have HK1:Hid (n.kind=116):=k1
 clear hb1 hq1 hq2 hf hv hvr hls hlb hmeet k1 hk hrow hidx hvx htok hev
 go_enter Tryz.func140,Tryz.ntmps140
 go_wp2_with fail
 rw[←HW1.out]
 go_cut [10] (fun v wx=>∃gx,v=.pointer (some ⟨gx,0,none⟩)∧Below W1.heap.size W1 wx∧wx.heap[gx]? =some (.cells #[.int .i64 x.k,.int .i64 x.n,.string x.s] 94 (0,0)))
 case first=>
  refine wp_region_M 10 (fun w'=>Below W1.heap.size W1 w') (by kernel_rfl) ?_
  refine anyM_t (i:=0) (v:=.pointer (some ⟨w.heap.size,2,none⟩)) rfl (by kernel_rfl) (fun _ _ _ h=>h) rfl rfl HS0.out (fun w' hSw=>by go_simp) ?_
  simp only[takes]
  refine anyM_t (i:=1) (v:=.slice (some ⟨vb,vo,none⟩) vals.length vc) rfl (by kernel_rfl) (fun _ _ _ h=>h) rfl rfl HS0.out (fun w' hSw=>by have c:=(HCE.out w' hSw).1;go_simp) ?_
  simp only[takes]
  refine anyM_t (i:=2) (v:=.slice fa fs.length fc) rfl (by kernel_rfl) (fun _ _ _ h=>h) rfl rfl HS0.out (fun w' hSw=>by go_simp) ?_
  simp only[takes]
  refine anyM_t (i:=3) (v:=.pointer (some ⟨w.heap.size+1,3,none⟩)) rfl (by kernel_rfl) (fun _ _ _ h=>h) rfl rfl HS0.out (fun w' hSw=>by go_simp) ?_
  simp only[takes]
  refine anyM_t (i:=4) (v:=.pointer (some ⟨w.heap.size+1,4,none⟩)) rfl (by kernel_rfl) (fun _ _ _ h=>h) rfl rfl HS0.out (fun w' hSw=>by go_simp) ?_
  simp only[takes]
  refine anyM_t (i:=5) (v:=.string n.name.S) rfl (by kernel_rfl) (fun _ _ _ h=>h) rfl rfl HS0.out (fun w' hSw=>by have c:=(HCE.out w' hSw).2.1;go_simp) ?_
  simp only[takes]
  obtain⟨W2,HW2⟩:∃W2,Hid (W2=(W1.alloc (.cells #[.int .i64 0,.int .i64 0,.string ⟨#[]⟩] 94)).drew):=⟨_,rfl⟩
  have HQ2:Hid (Below W1.heap.size W1 W2):=by rw[HW2.out];exact((Below.refl _ _).alloc (Nat.le_refl _) _).drew
  have HG2:Hid (W2.heap[W1.heap.size]? =some (.cells #[.int .i64 0,.int .i64 0,.string ⟨#[]⟩] 94 (0,0))):=by rw[HW2.out];exact heap_alloc_new W1 _
  refine anyM_two (i:=6) (j:=9) (by kernel_rfl) rfl rfl rfl rfl (fun K hK=>?_) (fun K hK=>?_)
  ·go_simp
   refine(HFD.out _ HS0.out).mono ?_
   rintro r w2 ⟨rfl,rfl⟩
   refine hK.out _ _ (fun _=>HS0.out) ?_
   clear hK K
   try simp only[Act.put,takes]
   refine anyM_t (i:=7) (v:=.pointer (some ⟨vb,vo+kx*3,none⟩)) rfl (by kernel_rfl) (fun _ _ _ h=>h) rfl rfl HS0.out (fun w' hSw=>by go_simp) ?_
   simp only[takes]
   refine anyM_t (i:=8) (v:=.agg #[.int .i64 x.k,.int .i64 x.n,.string x.s]) rfl (by kernel_rfl) (fun _ _ _ h=>h) rfl rfl HS0.out (fun w' hSw=>by obtain⟨_,_,y0,y1,y2,_⟩:=HCE.out w' hSw;go_simp) ?_
   simp only[takes]
   refine anyM_one (i:=9) (by kernel_rfl) rfl rfl (fun K hK=>?_)
   go_simp
   rw[←HW2.out]
   refine hK.out _ _ (fun _=>HQ2.out) ?_
   clear hK K
   try simp only[Act.put,takes]
   refine anyM_one (i:=10) (by kernel_rfl) rfl rfl (fun K hK=>?_)
   refine wp_store_off 94 _ _ rfl W1.heap.size 0 rfl #[.int .i64 x.k,.int .i64 x.n,.string x.s] rfl 94 #[.int .i64 0,.int .i64 0,.string ⟨#[]⟩] HG2.out (by kernel_rfl) (Nat.le_refl 3) (by kernel_rfl) rfl rfl ?_
   refine hK.out _ _ (fun h=>absurd rfl h) ?_
   clear hK K
   rw[lay_whole (show(#[.int .i64 0,.int .i64 0,.string ⟨#[]⟩]:Array Value).size=(#[.int .i64 x.k,.int .i64 x.n,.string x.s]:Array Value).size from rfl)]
   refine anyM_done (by kernel_rfl) ?_
   go_wp2_with fail
   go_meet
   exact⟨_,rfl,Below.setRow HQ2.out (Nat.le_refl _) _,setRow_heap _ _ _ _ _ _ HG2.out⟩
  ·go_simp
   rw[←HW2.out]
   refine hK.out _ _ (fun _=>HQ2.out) ?_
   clear hK K
   try simp only[Act.put,takes]
   refine anyM_one (i:=6) (by kernel_rfl) rfl rfl (fun K hK=>?_)
   go_simp
   refine(HFD.out _ HQ2.out).mono ?_
   rintro r w2 ⟨rfl,hw2⟩
   rw[hw2]
   clear hw2 w2
   refine hK.out _ _ (fun _=>HQ2.out) ?_
   clear hK K
   try simp only[Act.put,takes]
   refine anyM_t (i:=7) (v:=.pointer (some ⟨vb,vo+kx*3,none⟩)) rfl (by kernel_rfl) (fun _ _ _ h=>h) rfl rfl HQ2.out (fun w' hSw=>by go_simp) ?_
   simp only[takes]
   refine anyM_t (i:=8) (v:=.agg #[.int .i64 x.k,.int .i64 x.n,.string x.s]) rfl (by kernel_rfl) (fun _ _ _ h=>h) rfl rfl HQ2.out (fun w' hSw=>by obtain⟨_,_,y0,y1,y2,_⟩:=HCE.out w' hSw;go_simp) ?_
   simp only[takes]
   refine anyM_one (i:=10) (by kernel_rfl) rfl rfl (fun K hK=>?_)
   refine wp_store_off 94 _ _ rfl W1.heap.size 0 rfl #[.int .i64 x.k,.int .i64 x.n,.string x.s] rfl 94 #[.int .i64 0,.int .i64 0,.string ⟨#[]⟩] HG2.out (by kernel_rfl) (Nat.le_refl 3) (by kernel_rfl) rfl rfl ?_
   refine hK.out _ _ (fun h=>absurd rfl h) ?_
   clear hK K
   rw[lay_whole (show(#[.int .i64 0,.int .i64 0,.string ⟨#[]⟩]:Array Value).size=(#[.int .i64 x.k,.int .i64 x.n,.string x.s]:Array Value).size from rfl)]
   refine anyM_done (by kernel_rfl) ?_
   go_wp2_with fail
   go_meet
   exact⟨_,rfl,Below.setRow HQ2.out (Nat.le_refl _) _,setRow_heap _ _ _ _ _ _ HG2.out⟩
 case rest=>
  obtain⟨gx,rfl,hbx,hgx⟩:=hcut
  have hq2:=(HCE.out wc hbx).2.2.2.2.2
  have c8:=blk_cell hq2 8 _ rfl
  have x0:=blk_cell hgx 0 _ rfl
  have x1:=blk_cell hgx 1 _ rfl
  have x2:=blk_cell hgx 2 _ rfl
  have HBX:Hid _:=hbx
  cases hi:(n.ask.S.toList==[105,115])
  ·cases hk0:(x.k==0)
   ·have hsv:Doc.sayV x n.ask lits=(Doc.meetV x n.ask lits,!Doc.meetV x n.ask lits):=by unfold Doc.sayV;rw[hi,hk0];rfl
    have HMM:Hid (Doc.refB x n.ask lits=Doc.meetV x n.ask lits):=HME.out hi hk0
    obtain⟨b,HBB⟩:∃b,Hid (Doc.meetV x n.ask lits=b):=⟨_,rfl⟩
    have HSB:Hid _:=HSY.out wc hbx
    rw[HMM.out,HBB.out,HK1.out] at HSB
    have hz:=HZ.out
    rw[hsv,HBB.out] at hz
    have HZB:Hid _:=hz
    have q0:=blk_cell hq2 0 _ rfl
    have q1:=blk_cell hq2 1 _ rfl
    have q2:=blk_cell hq2 2 _ rfl
    have q3:=blk_cell hq2 3 _ rfl
    have q4:=blk_cell hq2 4 _ rfl
    have q5:=blk_cell hq2 5 _ rfl
    have q6:=blk_cell hq2 6 _ rfl
    have q7:=blk_cell hq2 7 _ rfl
    have q9:=blk_cell hq2 9 _ rfl
    have q10:=blk_cell hq2 10 _ rfl
    have q11:=blk_cell hq2 11 _ rfl
    clear hq2 hgx hbx hsv hz
    go_wp2_with fail
    refine Calls.mono HSB.out ?_
    rintro e w5 ⟨rfl,hb5⟩
    have HB5:Hid (Below w.heap.size w w5):=HB1.out.trans ((HBX.out.trans (hb5.mono HBX.out.size)).mono HB1.out.size)
    clear hb5
    cases b
    ·obtain rfl:z=0:=HZB.out.symm
     go_wp2_with fail
     go_ret
     exact⟨rfl,HB5.out⟩
    ·obtain rfl:z=2:=HZB.out.symm
     go_wp2_with fail
     go_ret
     exact⟨rfl,HB5.out⟩
   ·obtain rfl:z=1:=by
     rw[←HZ.out];unfold Doc.sayV;rw[hi,hk0];rfl
    clear hq2 hgx hbx
    go_wp2_with fail
    go_ret
    exact⟨rfl,HB1.out.trans (HBX.out.mono HB1.out.size)⟩
  ·cases hk0:(x.k==0)
   ·obtain rfl:z=0:=by
     rw[←HZ.out];unfold Doc.sayV;rw[hi,hk0];rfl
    clear hq2 hgx hbx
    go_wp2_with fail
    go_ret
    exact⟨rfl,HB1.out.trans (HBX.out.mono HB1.out.size)⟩
   ·obtain rfl:z=2:=by
     rw[←HZ.out];unfold Doc.sayV;rw[hi,hk0];rfl
    clear hq2 hgx hbx
    go_wp2_with fail
    go_ret
    exact⟨rfl,HB1.out.trans (HBX.out.mono HB1.out.size)⟩
theorem rsays_all (hfl:fs.length≤4):∀a:Doc.Ast,Doc.Every (Doc.SayOk fs vals) a→SaysC fs vals a
 | .test m o l,hok=>by
   intro h hn hr fa fc id sa sn sc va vc hf hv
   cases hr with
   |test h1 h2 h3=>exact rsays_test h hn h1 h2 h3 hok hfl hf hv
 | .not a,hok=>by
   intro h hn hr fa fc id sa sn sc va vc hf hv
   cases hr with
   |not h1 h2 h5 h3 h4=>exact rsays_not (rsays_all hfl a hok) h hn h1 h2 h5 h3 h4 hf hv
 | .and a b,hok=>by
   intro h hn hr fa fc id sa sn sc va vc hf hv
   cases hr with
   |and h1 h2 h5 h3 h4 h6 h7=>exact rsays_and (rsays_all hfl a hok.1) (rsays_all hfl b hok.2) h hn h1 h2 h5 h3 h4 h6 h7 hf hv
 | .or a b,hok=>by
   intro h hn hr fa fc id sa sn sc va vc hf hv
   cases hr with
   |or h1 h2 h5 h3 h4 h6 h7=>exact rsays_or (rsays_all hfl a hok.1) (rsays_all hfl b hok.2) h hn h1 h2 h5 h3 h4 h6 h7 hf hv
end
end Go.Proofs.YtbnelaoeblhndaaGreatDoor
