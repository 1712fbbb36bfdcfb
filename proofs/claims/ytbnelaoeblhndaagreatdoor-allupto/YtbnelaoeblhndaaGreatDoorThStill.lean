import Derived.Test.YtbnelaoeblhndaaGreatDoorThN5
namespace Go.Proofs.YtbnelaoeblhndaaGreatDoor
open Go.RowKit
set_option maxRecDepth 100000
section
variable {w:World}
set_option maxHeartbeats 2000000 in
theorem still_any (l:List Int)(hl:l.length≤1000000000000)(lv:Value)(hs:Sl w lv l.length (intC l))(g:Nat)(hg:w.heap[g]? =some (.cells (intC l++[Value.int .i64 77,Value.int .i64 78]).toArray 3 (0,0))):
  Calls Tryz.prog 94 #[.slice (some ⟨g,0,none⟩) (l.length+2) (l.length+2),lv] w fun e w'=>e=.returned (.bool true)∧Md (fun k=>k=g) w w':=by
 have hgl:=lt_block hg
 have c1:w.cell? ⟨g,l.length,none⟩=some (.int .i64 77):=blk_cell hg _ _ (by simp[intC])
 have c2:w.cell? ⟨g,l.length+1,none⟩=some (.int .i64 78):=blk_cell hg _ _ (by simp[intC])
 obtain⟨lb,lc,rfl⟩:=hs.slice
 have HS:Hid _:=hs
 have HG:Hid _:=hg
 clear hs hg
 go_enter Tryz.func94,Tryz.ntmps94
 go_wp2_with fail
 go_loopw [5,6] (fun ok i wr=>ok=.bool true∧∃k:Nat,k≤l.length∧i=.int .i64 k∧Below w.heap.size w wr) (fun _ i _=>l.length-(intOf i).toNat)
 case atStart=>exact⟨rfl,0,Nat.zero_le _,rfl,Below.refl _ _⟩
 case round=>
  obtain⟨rfl,k,hk,rfl,hb⟩:=hrel
  by_cases hk2:k<l.length
  ·rcases HS.out.has with⟨h0,_⟩|⟨_,b,off,cap,he,hc,hlt,hr⟩
   ·omega
   simp only[Value.slice.injEq] at he
   obtain⟨rfl,_,rfl⟩:=he
   have r0:=(hb.cell (p:=⟨b,off+k,none⟩) hlt).trans (hr k _ (int_at l k hk2))
   have r1:=(hb.cell (p:=⟨g,k,none⟩) hgl).trans (blk_cell HG.out k (.int .i64 l[k]) (by rw[List.getElem?_toArray,List.getElem?_append_left (by simp[intC];omega)];exact int_at l k hk2))
   obtain⟨x,HX⟩:∃x,Hid (x=l[k]):=⟨l[k],rfl⟩
   rw[←HX.out] at r0 r1
   clear hr
   go_wp2_with fail
   go_region
   all_goals
    go_wp2_with fail
    go_roundw
    case rel=>exact⟨by first|rfl|simp,k+1,by omega,by go_num,hb.drew⟩
    case measure=>simp[intOf];omega
  ·obtain rfl:k=l.length:=by omega
   have hg2:=(hb.block g hgl).trans HG.out
   have hmd:Md (fun k=>k=g) w wr:=Md.ofBelow hb
   clear c1 c2
   go_wp2_with fail
   go_loopw [7] (fun i wx=>∃(k:Nat) (cur:Array Value),k≤l.length+2∧i=.int .i64 k∧wx.heap[g]? =some (.cells cur 3 (0,0))∧cur.size=l.length+2∧Md (fun k=>k=g) w wx) (fun i _=>l.length+2-(intOf i).toNat)
   case atStart=>exact⟨0,_,Nat.zero_le _,rfl,hg2,by simp[intC],hmd⟩
   case round=>
    obtain⟨k,cur,hk',rfl,hcur,hcz,hm⟩:=hrel
    clear hg2 hmd
    by_cases hk3:k<l.length+2
    ·have z0:=blk_cell hcur k cur[k] (by simp[hcz,hk3])
     have z1:=blk_free hcur k
     go_wp2_with fail
     go_roundw
     case rel=>exact⟨k+1,_,by omega,by go_num,set_blk' hcur k _,by simp[hcz],hm.set _ (.inl rfl)⟩
     case measure=>simp[intOf];omega
    ·obtain rfl:k=l.length+2:=by omega
     go_wp2_with fail
     go_ret
     exact⟨rfl,hm⟩
end
end Go.Proofs.YtbnelaoeblhndaaGreatDoor
