import Derived.Test.YtbnelaoeblhndaaGreatDoorThN1
namespace Go.Proofs.YtbnelaoeblhndaaGreatDoor
open Go.RowKit
set_option maxRecDepth 100000
theorem from_all (s:ByteArray)(w:World)(hs:s.size≤140737488351232):
  Calls Tryz.prog 166 #[.string s,.int .i64 0,.int .u8 97,.int .u8 122] w fun e w'=>e=.returned (.int .i64 (Doc.run 97 122 (Doc.rest s 0):Nat))∧w'=w:=by
 have h:=from_any s 97 122 0 w hs (Nat.zero_le _)
 rw[show(((97:UInt8).toNat:Nat):Int)=97 from rfl,show(((122:UInt8).toNat:Nat):Int)=122 from rfl,Nat.zero_add] at h
 exact h
theorem nameB_of {s:ByteArray}{b:Bool}(h:(decide (1≤s.size) && decide (s.size≤8) && (Doc.run 97 122 (Doc.rest s 0)==s.size) && !(s.toList==[97,110,100] || s.toList==[111,114] || s.toList==[110,111,116] || s.toList==[105,110] || s.toList==[108,105,107,101] || s.toList==[105,115] || s.toList==[110,117,108,108]))=b):b=Doc.nameB s:=h.symm
set_option maxHeartbeats 2000000 in
theorem name_any (s:ByteArray)(w:World)(hs:s.size≤140737488351232):
  Calls Tryz.prog 135 #[.string s] w fun e w'=>e=.returned (.bool (Doc.nameB s))∧w'=w:=by
 have HF:Hid (∀w,Calls Tryz.prog 166 #[.string s,.int .i64 0,.int .u8 97,.int .u8 122] w fun e w'=>e=.returned (.int .i64 (Doc.run 97 122 (Doc.rest s 0):Nat))∧w'=w):=fun w=>from_all s w hs
 have HB:Hid (∀b,_→b=Doc.nameB s):=fun b h=>nameB_of (s:=s) (b:=b) h
 generalize Doc.nameB s=nb at *
 generalize Doc.run 97 122 (Doc.rest s 0)=r at *
 go_enter Tryz.func135,Tryz.ntmps135
 go_wp2_with (go_at_call 166;refine(HF.out _).mono ?_;rintro e w' ⟨rfl,rfl⟩)
 all_goals
  go_ret
  refine⟨ret_bool (HB.out _ ?_),rfl⟩
  clear HB HF
  simp[*]
  try omega
theorem cmpB_of {t:Doc.Tok}{b:Bool}(h:(((t.kind.toNat:Int)==103) && (t.S.toList==[61] || t.S.toList==[33,61] || t.S.toList==[60] || t.S.toList==[60,61] || t.S.toList==[62] || t.S.toList==[62,61]))=b):b=Doc.cmpB t:=by
 rw[←h,show((t.kind.toNat:Int)==103)=(t.kind==103) from(u8_int t.kind 103 (by omega)).symm];rfl
set_option maxHeartbeats 2000000 in
theorem compares_any (t:Doc.Tok)(w:World):
  Calls Tryz.prog 204 #[.agg #[.int .u8 t.kind.toNat,.string t.S,.int .i64 t.N,.int .i64 t.at_]] w fun e w'=>e=.returned (.bool (Doc.cmpB t))∧Below w.heap.size w w':=by
 have HB:Hid (∀b,_→b=Doc.cmpB t):=fun b h=>cmpB_of (t:=t) (b:=b) h
 generalize Doc.cmpB t=nb at *
 go_enter Tryz.func204,Tryz.ntmps204
 go_wp2_with fail
 all_goals
  go_ret
  refine⟨ret_bool (HB.out _ ?_),(Below.refl _ _).alloc (Nat.le_refl _) _⟩
  clear HB
  simp[*]
inductive Rep (B:Nat) (w:World) (nodes:List NodeR):Nat→Doc.Ast→Prop
 |test {k:Nat} {n:NodeR} {lits:List Doc.Tok}:nodes[k]? =some n→n.kind=116→w.ownsRow B 175 4 n.lits lits.length (toksC lits)→Rep B w nodes k (.test n.name n.ask lits)
 |not {k:Nat} {n:NodeR} {j:Nat} {a:Doc.Ast}:nodes[k]? =some n→n.kind=33→n.lits=.slice none 0 0→n.A=(j:Int)→Rep B w nodes j a→Rep B w nodes k (.not a)
 |and {k:Nat} {n:NodeR} {i j:Nat} {a b:Doc.Ast}:nodes[k]? =some n→n.kind=38→n.lits=.slice none 0 0→n.A=(i:Int)→n.B=(j:Int)→Rep B w nodes i a→Rep B w nodes j b→Rep B w nodes k (.and a b)
 |or {k:Nat} {n:NodeR} {i j:Nat} {a b:Doc.Ast}:nodes[k]? =some n→n.kind=124→n.lits=.slice none 0 0→n.A=(i:Int)→n.B=(j:Int)→Rep B w nodes i a→Rep B w nodes j b→Rep B w nodes k (.or a b)
theorem pre_get {l m:List NodeR}(h:l <+:m){k:Nat}{n:NodeR}(hk:l[k]? =some n):m[k]? =some n:=by
 obtain⟨r,rfl⟩:=h
 rw[List.getElem?_append_left (by
  rcases Nat.lt_or_ge k l.length with h|h
  ·exact h
  ·rw[List.getElem?_eq_none h] at hk;exact absurd hk (by simp))]
 exact hk
theorem Rep.mono {B:Nat}{w w':World}{nodes nodes':List NodeR}{k:Nat}{a:Doc.Ast}(h:Rep B w nodes k a)(hs:Step B w w')(hp:nodes <+:nodes'):Rep B w' nodes' k a:=by
 induction h with
 |test h1 h2 h3=>exact .test (pre_get hp h1) h2 (ownsRow_step h3 hs)
 |not h1 h2 h5 h3 _ ih=>exact .not (pre_get hp h1) h2 h5 h3 ih
 |and h1 h2 h5 h3 h4 _ _ ih1 ih2=>exact .and (pre_get hp h1) h2 h5 h3 h4 ih1 ih2
 |or h1 h2 h5 h3 h4 _ _ ih1 ih2=>exact .or (pre_get hp h1) h2 h5 h3 h4 ih1 ih2
namespace Doc
def testsOf:Ast→List (Tok×Tok×List Tok)
 | .test n o l=>[(n,o,l)]
 | .not a=>testsOf a
 | .and a b=>testsOf a++testsOf b
 | .or a b=>testsOf a++testsOf b
end Doc
inductive Made (B:Nat) (w:World):List NodeR→List (Doc.Tok×Doc.Tok×List Doc.Tok)→Prop
 |nil:Made B w [] []
 |test {new:List NodeR} {ts:List (Doc.Tok×Doc.Tok×List Doc.Tok)} {n:NodeR} {lits:List Doc.Tok}:Made B w new ts→n.kind=116→w.ownsRow B 175 4 n.lits lits.length (toksC lits)→Made B w (new++[n]) (ts++[(n.name,n.ask,lits)])
 |other {new:List NodeR} {ts:List (Doc.Tok×Doc.Tok×List Doc.Tok)} {n:NodeR}:Made B w new ts→n.kind≠116→n.lits=.slice none 0 0→Made B w (new++[n]) ts
theorem Made.mono {B:Nat}{w w':World}{new:List NodeR}{ts:List (Doc.Tok×Doc.Tok×List Doc.Tok)}(h:Made B w new ts)(hs:Step B w w'):Made B w' new ts:=by
 induction h with
 |nil=>exact .nil
 |test _ h1 h2 ih=>exact .test ih h1 (ownsRow_step h2 hs)
 |other _ h1 h2 ih=>exact .other ih h1 h2
theorem Made.append {B:Nat}{w:World}{n1 n2:List NodeR}{t1 t2:List (Doc.Tok×Doc.Tok×List Doc.Tok)}(h1:Made B w n1 t1)(h2:Made B w n2 t2):Made B w (n1++n2) (t1++t2):=by
 induction h2 with
 |nil=>rw[List.append_nil,List.append_nil];exact h1
 |test _ k1 k2 ih=>rw[←List.append_assoc,←List.append_assoc];exact .test ih k1 k2
 |other _ k1 k2 ih=>rw[←List.append_assoc];exact .other ih k1 k2
def RepM (B:Nat)(w:World)(nodes nodes':List NodeR)(k:Nat)(a:Doc.Ast):Prop:=Rep B w nodes' k a∧∃new,nodes'=nodes++new∧Made B w new (Doc.testsOf a)
theorem RepM.mono {B:Nat}{w w':World}{nodes nodes':List NodeR}{k:Nat}{a:Doc.Ast}(h:RepM B w nodes nodes' k a)(hs:Step B w w'):RepM B w' nodes nodes' k a:=by
 obtain⟨h1,new,h2,h3⟩:=h
 exact⟨h1.mono hs List.prefix_rfl,new,h2,h3.mono hs⟩
theorem RepM.not {B:Nat}{w:World}{nodes nodes':List NodeR}{k:Nat}{a:Doc.Ast}{n:NodeR}(h:RepM B w nodes nodes' k a)(h1:n.kind=33)(h2:n.lits=.slice none 0 0)(h3:n.A=(k:Int)):RepM B w nodes (nodes'++[n]) nodes'.length (.not a):=by
 obtain⟨r,new,e,m⟩:=h
 exact⟨.not (n:=n) (j:=k) (by simp) h1 h2 h3 (r.mono (Step.refl _ _) ⟨_,rfl⟩),new++[n],by rw[e,List.append_assoc],.other m (by rw[h1];decide) h2⟩
theorem RepM.and {B:Nat}{w:World}{nodes nodes1 nodes2:List NodeR}{i j:Nat}{a b:Doc.Ast}{n:NodeR}(ha:RepM B w nodes nodes1 i a)(hb:RepM B w nodes1 nodes2 j b)(h1:n.kind=38)(h2:n.lits=.slice none 0 0)(h3:n.A=(i:Int))(h4:n.B=(j:Int)):RepM B w nodes (nodes2++[n]) nodes2.length (.and a b):=by
 obtain⟨r,new,e,m⟩:=ha
 obtain⟨r2,new2,e2,m2⟩:=hb
 exact⟨.and (n:=n) (i:=i) (j:=j) (by simp) h1 h2 h3 h4 (r.mono (Step.refl _ _) (by rw[e2,List.append_assoc];exact⟨_,rfl⟩)) (r2.mono (Step.refl _ _) ⟨_,rfl⟩),(new++new2)++[n],by rw[e2,e];simp only[List.append_assoc],.other (m.append m2) (by rw[h1];decide) h2⟩
theorem RepM.or {B:Nat}{w:World}{nodes nodes1 nodes2:List NodeR}{i j:Nat}{a b:Doc.Ast}{n:NodeR}(ha:RepM B w nodes nodes1 i a)(hb:RepM B w nodes1 nodes2 j b)(h1:n.kind=124)(h2:n.lits=.slice none 0 0)(h3:n.A=(i:Int))(h4:n.B=(j:Int)):RepM B w nodes (nodes2++[n]) nodes2.length (.or a b):=by
 obtain⟨r,new,e,m⟩:=ha
 obtain⟨r2,new2,e2,m2⟩:=hb
 exact⟨.or (n:=n) (i:=i) (j:=j) (by simp) h1 h2 h3 h4 (r.mono (Step.refl _ _) (by rw[e2,List.append_assoc];exact⟨_,rfl⟩)) (r2.mono (Step.refl _ _) ⟨_,rfl⟩),(new++new2)++[n],by rw[e2,e];simp only[List.append_assoc],.other (m.append m2) (by rw[h1];decide) h2⟩
def RPost (B fb:Nat)(Lv:Value)(L:List Doc.Tok)(i op:Nat)(nodes:List NodeR)(w:World)(res:Doc.Res Doc.Ast)(e:Ending)(w':World):Prop:=
 match res with
 | .ok a j=>∃(k:Nat) (Nv':Value) (nodes':List NodeR),e=.returned (.int .i64 k)∧RSt B w' fb Lv L j op Nv' nodes' 0 0∧nodes <+:nodes'∧nodes'.length+i≤nodes.length+j∧RepM B w' nodes nodes' k a∧Step B w w'∧i<j∧j<L.length
 | .err er p=>∃(k:Int) (j:Nat) (Nv':Value) (nodes':List NodeR),e=.returned (.int .i64 k)∧RSt B w' fb Lv L j op Nv' nodes' er p∧nodes <+:nodes'∧nodes'.length+i≤nodes.length+j∧Step B w w'∧0<er∧i≤j∧j<L.length
end Go.Proofs.YtbnelaoeblhndaaGreatDoor
