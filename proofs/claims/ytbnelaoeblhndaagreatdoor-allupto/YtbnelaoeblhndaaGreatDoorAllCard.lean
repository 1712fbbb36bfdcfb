/- For every script of bulk at most 1048576 the law All returns true: each step is answered by the store as the document has it, and the script reads behind the call as it read before. Its condition: the package-level variables that the program's text lays hold, when the call begins, what that text lays (the card ties them); it speaks of the pruned copy of the project that the statement was turned from. (The texts stand with few blanks, to keep within a claim's size.) -/
import Derived.Test.YtbnelaoeblhndaaGreatDoorThOpen
import Derived.Test.YtbnelaoeblhndaaGreatDoorCards
import Derived.Test.YtbnelaoeblhndaaGreatDoorTie
import Derived.SliceStrings
import Derived.SevenTiedAt
import Derived.Deep.DeepHandedRow
import Derived.Deep.DeepWitnessRowRef
namespace Go.Proofs.YtbnelaoeblhndaaGreatDoor
open Go.ChangeShapes Go.WideShapes Go.ChangeAt Go.WideMaps Go.WideElems Go.RowKit
open Keep (own laidOut_all)
theorem tens_type:(Tryz.prog.globals[3]?).map (·.type)=some 300:=by kernel_rfl
theorem cells_u64:Tryz.prog.cellsOf 105=1:=by kernel_rfl
theorem cells_tens:Tryz.prog.cellsOf 300=20:=by kernel_rfl
theorem of_laidA {W:World}(h:laidMetH Tryz.prog Rows.plainsRow.laid W):LaidA W:=by
 have hF:=Keep.of_laid (W:=W) h
 rw[MakeChecks.laidMetH_plain _ _ _ (by kernel_rfl)] at h
 obtain⟨ps,⟨g0,t0,cs0,f0,p0,q0,hg0,ht0,hv0,hd0,⟨g1,t1,cs1,f1,p1,q1,hg1,ht1,hv1,hd1,⟨g2,t2,cs2,f2,p2,q2,hg2,ht2,hv2,hd2,_,_⟩,_⟩,_⟩,_,_⟩:=h
 obtain rfl:=Option.some.inj (tens_at.symm.trans hg2)
 obtain rfl:=Option.some.inj (tens_type.symm.trans ht2)
 refine⟨⟨hF.sg,?_,hF.g1,Keep.lt_of_var hg2 hv2⟩,hF.tab,hF.g2⟩
 unfold Tens Lib.TabIs
 rw[hv2,←Lib.cells_of_tab (zs:=Lib.pow10Tab) Tryz.underlying300 Tryz.underlying105 cells_u64 cells_tens hd2]
theorem door_met (os:Os)(args:Array Value):laidMetH Tryz.prog Rows.plainsRow.laid ((World.doorLaid Tryz.prog 400 os).forCall (fun _ _=>0) ⟨#[],args,[]⟩).memory:=Keep.door_met os args
set_option maxRecDepth 100000 in
theorem allLaw_any (ds:List StepD)(hdl:ds.length≤2000000)(sv:Value)(w:World)(hs:Sl w sv ds.length (ds.flatMap stepC))(hds:∀j (h:j<ds.length),StepOk w ds[j])(hL:LaidA w):
  Calls Tryz.prog 5 #[sv] w fun e w'=>e=.returned (.bool true)∧Below w.heap.size w w':=by
 have HP:Hid _:=plays_any ds hdl sv hs hds hL
 clear hs hds hL
 go_enter Tryz.func5,Tryz.ntmps5
 go_wp2_with fail
 refine Calls.mono HP.out ?_
 rintro e w1 ⟨rfl,hb1⟩
 go_wp2_with fail
 go_ret
 exact⟨rfl,hb1⟩
set_option maxRecDepth 100000 in
theorem all_lifted (os:Os)(started:os.Started)(H:Type)(enc:TypeId×Value→H)(F:Stop.Interp):
  ReturnsInHanded {} Tryz.checked os 5 .any ((Rows.OpenSpec.upto Rows.allSpec).preRow enc Tryz.prog Tryz.f5 Rows.allUptoRow.domain false Rows.allUptoRow.laid) (((Rows.OpenSpec.upto Rows.allSpec).at F).post enc Tryz.prog Tryz.f5 false true false false):=by
 obtain⟨places,hx⟩:∃places,DataW.whole enc Tryz.prog ((World.doorLaid Tryz.prog 400 os).forCall (fun _ _=>0) ⟨#[],#[.slice none 0 0],[]⟩).memory Tryz.f5.params.toList Rows.allSpec.vars false #[Value.slice none 0 0].toList 8=some ([.nil],[],places):=⟨[],by kernel_rfl⟩
 refine returnsInHanded_of_row (C:=Tryz.checked) (s:=Rows.OpenSpec.upto Rows.allSpec) own started (by kernel_rfl) Tryz.func5
  (witness_row_atRef (enc:=enc) (C:=Tryz.checked) false (World.doorLaid Tryz.prog 400 os) #[.slice none 0 0] rfl (by kernel_rfl) (by kernel_rfl) (by kernel_rfl)
    (OpenSpec.preRow_of_cond 8 hx (by kernel_rfl) (fun k hk=>by cases hk;kernel_rfl) (by kernel_rfl) (door_met os _))) ?_
 intro W base args ds gs before hval0 hW _ hcond _ hL _ _
 have hval:∀(j:Nat) t v,Tryz.f5.params[j]? =some t→args[j]? =some v→Value.okWide Tryz.prog W .any base t v:=hval0
 have hW':=hW
 obtain⟨p,q,hA0,hV,rfl,hfz,hnd⟩:=hW
 have hA:DataW.TrodAll enc Tryz.prog W 0 (fun _=>true) true Tryz.f5.params.toList args.toList ds p:=hA0
 rw[Tryz.params5] at hA hval
 obtain⟨v0,d0,rfl,rfl,h0⟩:=trodAll_one hA
 obtain⟨rfl,rfl⟩:=trodVars_none hV
 obtain⟨a0,len,cap,rfl⟩:=okWide_slice Tryz.underlying29 (hval 0 29 v0 rfl rfl)
 have h0k:=h0
 obtain⟨fuel,hf⟩:=h0
 have hlaid:=of_laidA (show laidMetH Tryz.prog Rows.plainsRow.laid W from hL)
 have hb:Rows.uptoBulk d0≤1048576:=by
  have h1:Rows.uptoBulkAll ([d0]++[])≤1048576:=of_decide_eq_true (hcond _ rfl)
  simp only[List.append_nil,Rows.uptoBulkAll] at h1
  omega
 clear hA0 hval0
 simp only[List.append_nil] at hW'
 have hlt:∀x∈p,x.block<W.heap.size:=fun x hx=>by simpa using hW'.lt x hx
 have hargs:∀(W':World),Below W.heap.size W W'→DataW.Trod enc Tryz.prog W' 0 (fun b=>decide (b<W.heap.size)) true 29 (.slice a0 len cap) d0 p:=
  fun W' hn=>Below.trod laidOut_all (by kernel_rfl) (of_decide_eq_true (by kernel_rfl)) h0k hn hlt
 obtain⟨l,hl,hs,hok⟩:=open_script (sv:=.slice a0 len cap) (by simpa[Value.cells] using hf) hb
 refine(allLaw_any l hl _ W hs hok hlaid).mono fun e W' ⟨he,hnx⟩=>?_
 subst he
 exact⟨_,rfl,_,_,_,[],p,[],hW',trodAll_mk1 (shut_bool Tryz.underlying4 _),trodAll_mk1 (hargs _ hnx),rfl,hnx.frame _,fun h=>by cases h⟩
theorem all_said:Rows.AllUptoSaid:=
 OpenClaim.holds_of_cond 5 Tryz.f5 rfl rfl rfl rfl rfl rfl rfl ⟨rfl,rfl,rfl,rfl,rfl⟩ rfl rfl rfl rfl rfl (by kernel_rfl) Tryz.func5 (by kernel_rfl)
  (of_decide_eq_true (by kernel_rfl)) (by unfold Func.isWrapper;first|(rw[if_pos (by decide+kernel)];kernel_rfl)|(rw[if_neg (by decide+kernel)];exact⟨rfl,rfl⟩))
  (fun os started H enc _ F=>by rw[OpenClaim.pre_eq_preRow];exact all_lifted os started H enc F)
theorem all_card:Rows.AllUptoCardSaid:=
 Claim7.holds_tied_plain_at .later [] [.data,.data,.data,.sentinel,.sentinel,.data] true Rows.thingsUptoCard.stood.harness true
  all_said (fun _ h=>by cases h) (by kernel_rfl) (fun _ h=>by cases h) thingsUpto_row_tie rfl ⟨rfl,rfl⟩ (by kernel_rfl) rfl
  (fun f fn hf hfn=>by
    obtain rfl:f=5:=Option.some.inj ((show Tryz.prog.funcNamed Rows.allUptoRow.func=some 5 by kernel_rfl).symm.trans hf) |>.symm
    obtain rfl:fn=Tryz.f5:=(Option.some.inj (Tryz.func5.symm.trans hfn)).symm
    exact⟨by kernel_rfl,fun j t ht=>by
     rw[Tryz.params5] at ht
     have hm:t∈[29]:=by simpa using Array.mem_of_getElem? ht
     have hall:([29].all fun u=> !Tryz.prog.wantsStandIn u)=true:=by kernel_rfl
     exact(show Tryz.prog.wantsStandIn t=false by simpa using List.all_eq_true.1 hall t hm)⟩)
  (by kernel_rfl)
end Go.Proofs.YtbnelaoeblhndaaGreatDoor
