import Derived.Test.YtbnelaoeblhndaaGreatDoorRefText
namespace Go.Proofs.YtbnelaoeblhndaaGreatDoor
open Go.RowKit
set_option maxRecDepth 100000
theorem litsText_snoc (l:List Doc.Tok)(t:Doc.Tok)(h:l≠[]):Doc.litsText (l++[t])=Doc.litsText l++[44,32]++Doc.litText t:=by
 induction l with
 |nil=>exact absurd rfl h
 |cons a l ih=>
  cases l with
  |nil=>rfl
  |cons b r=>
   show Doc.litText a++[44,32]++Doc.litsText (b::r++[t])=(Doc.litText a++[44,32]++Doc.litsText (b::r))++[44,32]++Doc.litText t
   rw[ih (by simp)]
   simp
theorem lits_first (l:List Doc.Tok)(h:0<l.length):Doc.litsText (l.take 1)=Doc.litText l[0]:=by
 cases l with
 |nil=>simp at h
 |cons a r=>rfl
theorem lits_next (l:List Doc.Tok)(m:Nat)(h:m<l.length)(h0:0<m):Doc.litsText (l.take (m+1))=Doc.litsText (l.take m)++[44,32]++Doc.litText l[m]:=by
 rw[List.take_succ_eq_append_getElem h,litsText_snoc]
 intro e
 have:=congrArg List.length e
 rw[List.length_take,List.length_nil] at this
 omega
theorem lits_len_le (l:List Doc.Tok)(m:Nat)(h:m≤l.length):(Doc.litsText (l.take m)).length≤(Doc.litsText l).length:=by
 obtain⟨d,hd⟩:∃d,l.length=m+d:=⟨l.length-m,by omega⟩
 induction d generalizing m with
 |zero=>rw[List.take_of_length_le (by omega)];exact Nat.le_refl _
 |succ d ih=>
  have h1:=ih (m+1) (by omega) (by omega)
  by_cases h0:0<m
  ·rw[lits_next l m (by omega) h0] at h1;simp at h1;omega
  ·obtain rfl:m=0:=by omega
   simp[Doc.litsText]
theorem lit_len_le (l:List Doc.Tok)(m:Nat)(h:m<l.length):(Doc.litText l[m]).length+(Doc.litsText (l.take m)).length≤(Doc.litsText l).length:=by
 have h1:=lits_len_le l (m+1) (by omega)
 by_cases h0:0<m
 ·rw[lits_next l m h h0] at h1;simp at h1;omega
 ·obtain rfl:m=0:=by omega
  rw[lits_first l h] at h1
  simpa[Doc.litsText] using h1
section
variable {B:Nat}{w:World}{fb:Nat}{Lv:Value}{L:List Doc.Tok}{at_ op:Nat}{Nv:Value}{nodes:List NodeR}{E p k:Nat}
theorem mk_data (s:ByteArray):(⟨s.data.toList.toArray⟩:ByteArray)=s:=by simp
theorem head_bytes (a b:ByteArray):((a++⟨#[32]⟩)++b)++⟨#[32]⟩=(⟨(a.data.toList++[32]++b.data.toList++[32]).toArray⟩:ByteArray):=by
 conv=>lhs;rw[←mk_data a,←mk_data b]
 show((ByteArray.mk _++ByteArray.mk [32].toArray)++ByteArray.mk _)++ByteArray.mk [32].toArray=_
 rw[ByteArray.mk_append_mk,ByteArray.mk_append_mk,ByteArray.mk_append_mk]
theorem lit_str_bytes {t:Doc.Tok}(k:(t.kind==115)=true)(l:List UInt8):(((ByteArray.mk l.toArray++⟨#[44,32]⟩)++⟨#[34]⟩)++t.S)++⟨#[34]⟩=(⟨(l++[44,32]++Doc.litText t).toArray⟩:ByteArray):=by
 rw[Doc.litText,if_pos k]
 conv=>lhs;rw[←mk_data t.S]
 show(((ByteArray.mk _++ByteArray.mk [44,32].toArray)++ByteArray.mk [34].toArray)++ByteArray.mk _)++ByteArray.mk [34].toArray=_
 rw[ByteArray.mk_append_mk,ByteArray.mk_append_mk,ByteArray.mk_append_mk,ByteArray.mk_append_mk]
 simp
theorem lit_str_bytes0 {t:Doc.Tok}(k:(t.kind==115)=true):((ByteArray.mk (Doc.litsText (List.take 0 ([]:List Doc.Tok))).toArray++⟨#[34]⟩)++t.S)++⟨#[34]⟩=(⟨(Doc.litText t).toArray⟩:ByteArray):=by
 rw[Doc.litText,if_pos k]
 conv=>lhs;rw[←mk_data t.S]
 show((ByteArray.mk [].toArray++ByteArray.mk [34].toArray)++ByteArray.mk _)++ByteArray.mk [34].toArray=_
 rw[ByteArray.mk_append_mk,ByteArray.mk_append_mk,ByteArray.mk_append_mk]
 simp
theorem lit_num_bytes {t:Doc.Tok}(k:(t.kind==115)=false)(l:List UInt8):(ByteArray.mk l.toArray++⟨#[44,32]⟩)++ByteArray.mk (Doc.decimal t.N).toArray=(⟨(l++[44,32]++Doc.litText t).toArray⟩:ByteArray):=by
 rw[Doc.litText,if_neg (by rw[k];simp)]
 show(ByteArray.mk _++ByteArray.mk [44,32].toArray)++ByteArray.mk _=_
 rw[ByteArray.mk_append_mk,ByteArray.mk_append_mk]
theorem lit_num_bytes0 {t:Doc.Tok}(k:(t.kind==115)=false):ByteArray.mk (Doc.litsText (List.take 0 ([]:List Doc.Tok))).toArray++ByteArray.mk (Doc.decimal t.N).toArray=(⟨(Doc.litText t).toArray⟩:ByteArray):=by
 rw[Doc.litText,if_neg (by rw[k];simp)]
 show ByteArray.mk [].toArray++ByteArray.mk _=_
 rw[ByteArray.mk_append_mk];rfl
theorem in_bytes (l m:List UInt8):((ByteArray.mk l.toArray++⟨#[40]⟩)++ByteArray.mk m.toArray)++⟨#[41]⟩=(⟨(l++([40]++m++[41])).toArray⟩:ByteArray):=by
 show((ByteArray.mk _++ByteArray.mk [40].toArray)++ByteArray.mk _)++ByteArray.mk [41].toArray=_
 rw[ByteArray.mk_append_mk,ByteArray.mk_append_mk,ByteArray.mk_append_mk]
 simp
theorem size_lits {lits:List Doc.Tok}{m x y:Nat}(h:(Doc.litsText lits).length+x+y+4≤90000)(hm:m≤lits.length):(⟨(Doc.litsText (lits.take m)).toArray⟩:ByteArray).size≤100000:=by
 have:=lits_len_le lits m hm
 simp[ByteArray.size];omega
set_option maxHeartbeats 4000000 in
theorem text_test {n:NodeR}{lits:List Doc.Tok}(h:RSt B w fb Lv L at_ op Nv nodes E p)(_hn:nodes.length≤300)(hk:nodes[k]? =some n)(k1:n.kind=116)(ho:w.ownsRow B 175 4 n.lits lits.length (toksC lits))(hll:lits.length≤300)
  (hnum:∀t∈lits, -9999999≤t.N∧t.N≤9999999) (hlen9:(Doc.plain (.test n.name n.ask lits)).length≤80000):
  Calls Tryz.prog 53 #[.pointer (some ⟨fb,0,none⟩),.int .i64 k] w fun e w'=>∃D,Hid (D=(⟨(Doc.plain (.test n.name n.ask lits)).toArray⟩:ByteArray))∧D.size≤100000∧e=.returned (.string D)∧Below w.heap.size w w':=by
 have HLEN:Hid ((Doc.plain (.test n.name n.ask lits)).length≤80000):=hlen9
 have hNS:n.name.S.size+n.ask.S.size+2≤90000:=by
  simp[Doc.plain] at hlen9;omega
 have hlt9:(n.ask.S.toList==[105,115])=false→(Doc.litsText lits).length+n.name.S.size+n.ask.S.size+4≤90000:=by
  intro k2
  rw[Doc.plain,if_neg (by rw[show(n.ask.S.toList==Doc.wIs)=false from k2];simp)] at hlen9
  split at hlen9<;>simp at hlen9<;>omega
 obtain⟨g,cap,rfl,hcap,hkl,hg,c0,d1,d2,d3,d4,d5,d6,d7,d8,d9,d10,d11⟩:=Rep.cells h hk
 rw[k1] at c0
 have c3:=h.c3
 have hlt:=h.lt
 clear k1 hk hlen9
 by_cases k2:(n.ask.S.toList==[105,115])=true
 ·have HF0:Hid (Doc.plain (.test n.name n.ask lits)=n.name.S.data.toList++[32]++n.ask.S.data.toList++[32]++[110,117,108,108]):=by
   show _=_;rw[Doc.plain,if_pos (show(n.ask.S.toList==Doc.wIs)=true from k2)];rfl
  obtain hl|⟨g2,cap2,hl⟩:=own_shape ho
  all_goals
   rw[hl] at d11
   clear hl ho
   go_enter Tryz.func53,Tryz.ntmps53
   go_wp2_with fail
   go_ret
   have HF:(((n.name.S++⟨#[32]⟩)++n.ask.S)++⟨#[32]⟩)++⟨#[110,117,108,108]⟩=(⟨(Doc.plain (.test n.name n.ask lits)).toArray⟩:ByteArray):=by
    rw[head_bytes,HF0.out]
    exact ByteArray.mk_append_mk _ [110,117,108,108]
   exact⟨_,HF,size_of_eq HF HLEN.out,rfl,(Below.refl _ _).alloc (Nat.le_refl _) _⟩
 ·have k2:(n.ask.S.toList==[105,115])=false:=by simpa using k2
  have hLT:(Doc.litsText lits).length+n.name.S.size+n.ask.S.size+4≤90000:=hlt9 k2
  clear hlt9
  obtain hl|⟨g2,cap2,hl⟩:=own_shape ho
  ·have hl0:lits=[]:=by
    have:=ho.2
    rcases this with⟨_,h0⟩|⟨g,cap,cur,e,_⟩
    ·exact List.eq_nil_of_length_eq_zero h0
    ·rw[hl] at e;cases e
   have H0:Hid (lits=[]):=hl0
   rw[hl] at d11
   clear hl ho hl0
   go_enter Tryz.func53,Tryz.ntmps53
   go_wp2_with fail
   go_loopw [13,14] (fun l i wx=>∃(D:ByteArray),i=.int .i64 0∧l=.string D∧Hid (D=(⟨(Doc.litsText lits).toArray⟩:ByteArray))∧D.size≤100000∧wx=w.alloc (.cells #[.int .u8 116,.int .i64 n.A,.int .i64 n.B,.int .u8 n.name.kind.toNat,.string n.name.S,.int .i64 n.name.N,.int .i64 n.name.at_,.int .u8 n.ask.kind.toNat,.string n.ask.S,.int .i64 n.ask.N,.int .i64 n.ask.at_,.slice none 0 0] 178)) (fun _ _ _=>0)
   case atStart=>exact⟨_,rfl,rfl,by show _=_;rw[H0.out];rfl,by simp[ByteArray.size],rfl⟩
   case round=>
    obtain⟨D,rfl,rfl,HD,hD,rfl⟩:=hrel
    have hDl:D.size≤10:=by rw[HD.out,H0.out];simp[ByteArray.size,Doc.litsText]
    by_cases k6:(n.ask.S.toList==[105,110])=true
    ·have HF0:Hid (Doc.plain (.test n.name n.ask lits)=n.name.S.data.toList++[32]++n.ask.S.data.toList++[32]++([40]++Doc.litsText lits++[41])):=by
      show _=_;rw[Doc.plain,if_neg (by rw[show(n.ask.S.toList==Doc.wIs)=false from k2];simp),if_pos (show(n.ask.S.toList==Doc.wIn)=true from k6)];rfl
     go_wp2_with fail
     go_ret
     have HF:(((((n.name.S++⟨#[32]⟩)++n.ask.S)++⟨#[32]⟩)++⟨#[40]⟩)++D)++⟨#[41]⟩=(⟨(Doc.plain (.test n.name n.ask lits)).toArray⟩:ByteArray):=by
      rw[head_bytes,HD.out,HF0.out]
      exact in_bytes _ _
     exact⟨_,HF,size_of_eq HF HLEN.out,rfl,(Below.refl _ _).alloc (Nat.le_refl _) _⟩
    ·have k6:(n.ask.S.toList==[105,110])=false:=by simpa using k6
     have HF0:Hid (Doc.plain (.test n.name n.ask lits)=n.name.S.data.toList++[32]++n.ask.S.data.toList++[32]++Doc.litsText lits):=by
      show _=_;rw[Doc.plain,if_neg (by rw[show(n.ask.S.toList==Doc.wIs)=false from k2];simp),if_neg (by rw[show(n.ask.S.toList==Doc.wIn)=false from k6];simp)]
     go_wp2_with fail
     go_ret
     have HF:((((n.name.S++⟨#[32]⟩)++n.ask.S)++⟨#[32]⟩))++D=(⟨(Doc.plain (.test n.name n.ask lits)).toArray⟩:ByteArray):=by
      rw[head_bytes,HD.out,HF0.out]
      exact ByteArray.mk_append_mk _ _
     exact⟨_,HF,size_of_eq HF HLEN.out,rfl,(Below.refl _ _).alloc (Nat.le_refl _) _⟩
  ·rw[hl] at d11 ho
   clear hl
   go_enter Tryz.func53,Tryz.ntmps53
   go_wp2_with fail
   go_loopw [13,14] (fun l i wx=>∃(m:Nat) (D:ByteArray),m≤lits.length∧i=.int .i64 m∧l=.string D∧Hid (D=(⟨(Doc.litsText (lits.take m)).toArray⟩:ByteArray))∧D.size≤100000∧wx=w.alloc (.cells #[.int .u8 116,.int .i64 n.A,.int .i64 n.B,.int .u8 n.name.kind.toNat,.string n.name.S,.int .i64 n.name.N,.int .i64 n.name.at_,.int .u8 n.ask.kind.toNat,.string n.ask.S,.int .i64 n.ask.N,.int .i64 n.ask.at_,.slice (some ⟨g2,0,none⟩) lits.length cap2] 178)) (fun _ i _=>lits.length-(intOf i).toNat)
   case atStart=>exact⟨0,_,Nat.zero_le _,rfl,rfl,by show _=_;rfl,by simp[ByteArray.size],rfl⟩
   case round=>
    obtain⟨m,D,hm,rfl,rfl,HD,hD,rfl⟩:=hrel
    by_cases hm2:m<lits.length
    ·have hnm:=hnum lits[m] (List.getElem_mem hm2)
     have hls:=lit_len_le lits m hm2
     obtain⟨t,HT⟩:∃t,Hid (t=lits[m]):=⟨lits[m],rfl⟩
     obtain⟨g3,cap3,hv3,hcap3,hg3,_,hc3⟩:=tok_cells ho m hm2
     simp only[Value.slice.injEq,Option.some.injEq,Addr.mk.injEq] at hv3
     obtain⟨⟨rfl,_⟩,_,rfl⟩:=hv3
     rw[←HT.out] at hc3 hnm hls
     have r0:w.cell? ⟨g2,m*4,none⟩=some (.int .u8 t.kind.toNat):=hc3 0 (by omega)
     have r1:w.cell? ⟨g2,m*4+1,none⟩=some (.string t.S):=hc3 1 (by omega)
     have r2:w.cell? ⟨g2,m*4+2,none⟩=some (.int .i64 t.N):=hc3 2 (by omega)
     have hDm:D.size=(Doc.litsText (lits.take m)).length:=by rw[HD.out];simp[ByteArray.size]
     have hDl:D.size≤90000:=by omega
     clear hc3 hDm
     by_cases k4:(t.kind==115)=true
     ·have k5:((t.kind.toNat:Int)==115)=true:=kind_int t.kind 115 (by omega) _ k4
      have hts:t.S.size≤100000:=by
       rw[Doc.litText,if_pos k4] at hls;simp at hls;omega
      by_cases h0:0<m
      ·have HN:Hid ((((D++⟨#[44,32]⟩)++⟨#[34]⟩)++t.S)++⟨#[34]⟩=(⟨(Doc.litsText (lits.take (m+1))).toArray⟩:ByteArray)):=by
        show _=_
        rw[HD.out,lits_next lits m hm2 h0,←HT.out];exact lit_str_bytes k4 _
       clear k4 hls
       go_wp2_with fail
       go_roundw
       case rel=>exact⟨m+1,_,by omega,by go_num,rfl,HN,by rw[HN.out];exact size_lits hLT (by omega),by first|rfl|trivial⟩
       case measure=>simp[intOf];omega
      ·obtain rfl:m=0:=by omega
       have HN:Hid ((((D)++⟨#[34]⟩)++t.S)++⟨#[34]⟩=(⟨(Doc.litsText (lits.take (0+1))).toArray⟩:ByteArray)):=by
        show _=_
        rw[HD.out,lits_first lits hm2,←HT.out];exact lit_str_bytes0 k4
       clear k4 hls
       go_wp2_with fail
       go_roundw
       case rel=>exact⟨0+1,_,by omega,by go_num,rfl,HN,by rw[HN.out];exact size_lits hLT (by omega),by first|rfl|trivial⟩
       case measure=>simp[intOf];omega
     ·have k4:(t.kind==115)=false:=by simpa using k4
      have k5:((t.kind.toNat:Int)==115)=false:=kind_int t.kind 115 (by omega) _ k4
      obtain⟨X,HX⟩:∃X,Hid (X=(⟨(Doc.decimal t.N).toArray⟩:ByteArray)):=⟨_,rfl⟩
      have hX:X.size≤100000:=by
       rw[Doc.litText,if_neg (by rw[k4];simp)] at hls;rw[HX.out];simp[ByteArray.size];omega
      by_cases h0:0<m
      ·have HN:Hid ((D++⟨#[44,32]⟩)++X=(⟨(Doc.litsText (lits.take (m+1))).toArray⟩:ByteArray)):=by
        show _=_
        rw[HD.out,HX.out,lits_next lits m hm2 h0,←HT.out];exact lit_num_bytes k4 _
       clear k4 hls
       go_wp2_with fail
       refine(dec_any t.N _ hnm.1 hnm.2).mono ?_
       rw[←HX.out]
       rintro e w2 ⟨rfl,rfl⟩
       go_wp2_with fail
       go_roundw
       case rel=>exact⟨m+1,_,by omega,by go_num,rfl,HN,by rw[HN.out];exact size_lits hLT (by omega),by first|rfl|trivial⟩
       case measure=>simp[intOf];omega
      ·obtain rfl:m=0:=by omega
       have HN:Hid (D++X=(⟨(Doc.litsText (lits.take (0+1))).toArray⟩:ByteArray)):=by
        show _=_
        rw[HD.out,HX.out,lits_first lits hm2,←HT.out];exact lit_num_bytes0 k4
       clear k4 hls
       go_wp2_with fail
       refine(dec_any t.N _ hnm.1 hnm.2).mono ?_
       rw[←HX.out]
       rintro e w2 ⟨rfl,rfl⟩
       go_wp2_with fail
       go_roundw
       case rel=>exact⟨0+1,_,by omega,by go_num,rfl,HN,by rw[HN.out];exact size_lits hLT (by omega),by first|rfl|trivial⟩
       case measure=>simp[intOf];omega
    ·have HD':Hid (D=(⟨(Doc.litsText lits).toArray⟩:ByteArray)):=by have:=HD.out;rw[List.take_of_length_le (by omega)] at this;exact this
     clear HD
     have HD:=HD'
     clear HD'
     have hDl:D.size≤90000:=by rw[HD.out];simp[ByteArray.size];omega
     by_cases k6:(n.ask.S.toList==[105,110])=true
     ·have HF0:Hid (Doc.plain (.test n.name n.ask lits)=n.name.S.data.toList++[32]++n.ask.S.data.toList++[32]++([40]++Doc.litsText lits++[41])):=by
       show _=_;rw[Doc.plain,if_neg (by rw[show(n.ask.S.toList==Doc.wIs)=false from k2];simp),if_pos (show(n.ask.S.toList==Doc.wIn)=true from k6)];rfl
      go_wp2_with fail
      go_ret
      have HF:(((((n.name.S++⟨#[32]⟩)++n.ask.S)++⟨#[32]⟩)++⟨#[40]⟩)++D)++⟨#[41]⟩=(⟨(Doc.plain (.test n.name n.ask lits)).toArray⟩:ByteArray):=by
       rw[head_bytes,HD.out,HF0.out]
       exact in_bytes _ _
      exact⟨_,HF,size_of_eq HF HLEN.out,rfl,(Below.refl _ _).alloc (Nat.le_refl _) _⟩
     ·have k6:(n.ask.S.toList==[105,110])=false:=by simpa using k6
      have HF0:Hid (Doc.plain (.test n.name n.ask lits)=n.name.S.data.toList++[32]++n.ask.S.data.toList++[32]++Doc.litsText lits):=by
       show _=_;rw[Doc.plain,if_neg (by rw[show(n.ask.S.toList==Doc.wIs)=false from k2];simp),if_neg (by rw[show(n.ask.S.toList==Doc.wIn)=false from k6];simp)]
      go_wp2_with fail
      go_ret
      have HF:((((n.name.S++⟨#[32]⟩)++n.ask.S)++⟨#[32]⟩))++D=(⟨(Doc.plain (.test n.name n.ask lits)).toArray⟩:ByteArray):=by
       rw[head_bytes,HD.out,HF0.out]
       exact ByteArray.mk_append_mk _ _
      exact⟨_,HF,size_of_eq HF HLEN.out,rfl,(Below.refl _ _).alloc (Nat.le_refl _) _⟩
end
end Go.Proofs.YtbnelaoeblhndaaGreatDoor
