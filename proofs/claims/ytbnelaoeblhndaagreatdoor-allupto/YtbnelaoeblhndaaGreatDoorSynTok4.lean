import Derived.Test.YtbnelaoeblhndaaGreatDoorRefState
import Derived.Lib.Bytealg
import Derived.LoopN
namespace Go.Proofs.YtbnelaoeblhndaaGreatDoor
open Go.RowKit
set_option maxRecDepth 100000
theorem ret_bool' {a b:Bool}(h:a=b):Ending.returned (.bool a)=.returned (.bool b):=by rw[h]
set_option maxHeartbeats 400000 in
theorem isLetter_any (c:UInt8)(w:World):Calls Tryz.prog 119 #[.int .u8 c.toNat] w fun e w'=>e=.returned (.bool (Doc.isLetter c))∧w'=w:=by
 have HB:Hid (∀b:Bool,(decide ((97:Int)≤(c.toNat:Int)) && decide ((c.toNat:Int)≤122))=b→b=Doc.isLetter c):=by
  intro b hb;rw[←hb];unfold Doc.isLetter;rw[Bool.eq_iff_iff];simp[UInt8.le_iff_toNat_le];omega
 generalize Doc.isLetter c=x at *
 go_enter Tryz.func119,Tryz.ntmps119
 go_wp2_with fail
 all_goals
  go_ret
  refine⟨ret_bool' (HB.out _ ?_),rfl⟩
  clear HB
  simp[*]
  try omega
set_option maxHeartbeats 400000 in
theorem isDigit_any (c:UInt8)(w:World):Calls Tryz.prog 121 #[.int .u8 c.toNat] w fun e w'=>e=.returned (.bool (Doc.isDigit c))∧w'=w:=by
 have HB:Hid (∀b:Bool,(decide ((48:Int)≤(c.toNat:Int)) && decide ((c.toNat:Int)≤57))=b→b=Doc.isDigit c):=by
  intro b hb;rw[←hb];unfold Doc.isDigit;rw[Bool.eq_iff_iff];simp[UInt8.le_iff_toNat_le];omega
 generalize Doc.isDigit c=x at *
 go_enter Tryz.func121,Tryz.ntmps121
 go_wp2_with fail
 all_goals
  go_ret
  refine⟨ret_bool' (HB.out _ ?_),rfl⟩
  clear HB
  simp[*]
  try omega
theorem count_hit {p:UInt8→Bool}{s:ByteArray}{k:Nat}(h:k<s.size)(hp:p s[k]=true):((s.data.toList.drop k).takeWhile p).length=((s.data.toList.drop (k+1)).takeWhile p).length+1:=by
 rw[drop_at s k h,List.takeWhile_cons_of_pos hp];rfl
theorem count_miss {p:UInt8→Bool}{s:ByteArray}{k:Nat}(h:k<s.size)(hp:p s[k]=false):((s.data.toList.drop k).takeWhile p).length=0:=by
 rw[drop_at s k h,List.takeWhile_cons_of_neg (by rw[hp];simp)];rfl
theorem count_end {p:UInt8→Bool}{s:ByteArray}{k:Nat}(h:s.size≤k):((s.data.toList.drop k).takeWhile p).length=0:=by
 rw[List.drop_of_length_le (by simpa using h)];rfl
set_option maxHeartbeats 400000 in
theorem countLetters (s:ByteArray)(w:World)(hs:s.size≤140737488351232):
  Calls Tryz.prog 158 #[.string s,.func (.func 119) #[] #[]] w fun e w'=>e=.returned (.int .i64 (((s.data.toList.drop 0).takeWhile Doc.isLetter).length:Nat))∧w'=w:=by
 go_enter Tryz.func158,Tryz.ntmps158
 go_wp2_with fail
 go_loopw [5] (fun i wx=>∃k:Nat,k≤s.size∧i=.int .i64 k∧Hid (k+((s.data.toList.drop k).takeWhile Doc.isLetter).length=((s.data.toList.drop 0).takeWhile Doc.isLetter).length)∧wx=w) (fun i _=>s.size-(intOf i).toNat)
 case atStart=>exact⟨0,Nat.zero_le _,rfl,by show _=_;omega,rfl⟩
 case round=>
  obtain⟨k,hk,rfl,H,rfl⟩:=hrel
  by_cases hlt:k<s.size
  ·by_cases hp:Doc.isLetter s[k]=true
   ·have HP:Hid (Doc.isLetter s[k]=true):=hp
    have H2:Hid (k+1+((s.data.toList.drop (k+1)).takeWhile Doc.isLetter).length=((s.data.toList.drop 0).takeWhile Doc.isLetter).length):=by
     have:=H.out;rw[count_hit hlt hp] at this;show _=_;omega
    clear hp H
    go_wp2_with (go_at_call 119;refine(isLetter_any s[k] _).mono ?_;rw[HP.out];rintro e w' ⟨rfl,rfl⟩)
    go_roundw
    case rel=>exact⟨k+1,by omega,by go_num,H2,by first|rfl|trivial⟩
    case measure=>simp[intOf];omega
   ·have hp:Doc.isLetter s[k]=false:=by simpa using hp
    have HP:Hid (Doc.isLetter s[k]=false):=hp
    have H2:Hid (k=((s.data.toList.drop 0).takeWhile Doc.isLetter).length):=by
     have:=H.out;rw[count_miss hlt hp] at this;show _=_;omega
    clear hp H
    go_wp2_with (go_at_call 119;refine(isLetter_any s[k] _).mono ?_;rw[HP.out];rintro e w' ⟨rfl,rfl⟩)
    go_ret
    exact⟨ret_int (by rw[←H2.out]),rfl⟩
  ·have H2:Hid (k=((s.data.toList.drop 0).takeWhile Doc.isLetter).length):=by
    have:=H.out;rw[count_end (by omega)] at this;show _=_;omega
   clear H
   go_wp2_with fail
   go_ret
   exact⟨ret_int (by rw[←H2.out]),rfl⟩
set_option maxHeartbeats 400000 in
theorem countDigits (s:ByteArray)(w:World)(hs:s.size≤140737488351232):
  Calls Tryz.prog 158 #[.string s,.func (.func 121) #[] #[]] w fun e w'=>e=.returned (.int .i64 (((s.data.toList.drop 0).takeWhile Doc.isDigit).length:Nat))∧w'=w:=by
 go_enter Tryz.func158,Tryz.ntmps158
 go_wp2_with fail
 go_loopw [5] (fun i wx=>∃k:Nat,k≤s.size∧i=.int .i64 k∧Hid (k+((s.data.toList.drop k).takeWhile Doc.isDigit).length=((s.data.toList.drop 0).takeWhile Doc.isDigit).length)∧wx=w) (fun i _=>s.size-(intOf i).toNat)
 case atStart=>exact⟨0,Nat.zero_le _,rfl,by show _=_;omega,rfl⟩
 case round=>
  obtain⟨k,hk,rfl,H,rfl⟩:=hrel
  by_cases hlt:k<s.size
  ·by_cases hp:Doc.isDigit s[k]=true
   ·have HP:Hid (Doc.isDigit s[k]=true):=hp
    have H2:Hid (k+1+((s.data.toList.drop (k+1)).takeWhile Doc.isDigit).length=((s.data.toList.drop 0).takeWhile Doc.isDigit).length):=by
     have:=H.out;rw[count_hit hlt hp] at this;show _=_;omega
    clear hp H
    go_wp2_with (go_at_call 121;refine(isDigit_any s[k] _).mono ?_;rw[HP.out];rintro e w' ⟨rfl,rfl⟩)
    go_roundw
    case rel=>exact⟨k+1,by omega,by go_num,H2,by first|rfl|trivial⟩
    case measure=>simp[intOf];omega
   ·have hp:Doc.isDigit s[k]=false:=by simpa using hp
    have HP:Hid (Doc.isDigit s[k]=false):=hp
    have H2:Hid (k=((s.data.toList.drop 0).takeWhile Doc.isDigit).length):=by
     have:=H.out;rw[count_miss hlt hp] at this;show _=_;omega
    clear hp H
    go_wp2_with (go_at_call 121;refine(isDigit_any s[k] _).mono ?_;rw[HP.out];rintro e w' ⟨rfl,rfl⟩)
    go_ret
    exact⟨ret_int (by rw[←H2.out]),rfl⟩
  ·have H2:Hid (k=((s.data.toList.drop 0).takeWhile Doc.isDigit).length):=by
    have:=H.out;rw[count_end (by omega)] at this;show _=_;omega
   clear H
   go_wp2_with fail
   go_ret
   exact⟨ret_int (by rw[←H2.out]),rfl⟩
theorem rest0 (s:ByteArray):Doc.rest s 0=s.data.toList:=rfl
theorem run_letters (l:List UInt8):(l.takeWhile Doc.isLetter).length=Doc.run 97 122 l:=rfl
theorem run_digits (l:List UInt8):(l.takeWhile Doc.isDigit).length=Doc.run 48 57 l:=rfl
set_option maxHeartbeats 400000 in
theorem mWord (s:ByteArray)(r:Nat)(w:World)(hs:s.size≤140737488351232)(hr:Doc.run 97 122 s.data.toList=r)(h8:r≤8):
  Calls Tryz.prog 120 #[.string s] w fun e w'=>e=.returned (.tuple #[.int .i64 2,.int .i64 r])∧w'=w:=by
 have HC:Hid (∀w,Calls Tryz.prog 158 #[.string s,.func (.func 119) #[] #[]] w fun e w'=>e=.returned (.int .i64 r)∧w'=w):=fun w=>by
  have:=countLetters s w hs
  rw[run_letters,List.drop_zero,hr] at this;exact this
 clear hr
 go_enter Tryz.func120,Tryz.ntmps120
 go_wp2_with (go_at_call 158;refine(HC.out _).mono ?_;rintro e w' ⟨rfl,rfl⟩)
 go_ret2
 exact⟨rfl,rfl⟩
set_option maxHeartbeats 400000 in
theorem mWord_bad (s:ByteArray)(r:Nat)(w:World)(hs:s.size≤140737488351232)(hr:Doc.run 97 122 s.data.toList=r)(h8:8<r):
  Calls Tryz.prog 120 #[.string s] w fun e w'=>e=.returned (.tuple #[.int .i64 1,.int .i64 0])∧w'=w:=by
 have HC:Hid (∀w,Calls Tryz.prog 158 #[.string s,.func (.func 119) #[] #[]] w fun e w'=>e=.returned (.int .i64 r)∧w'=w):=fun w=>by
  have:=countLetters s w hs
  rw[run_letters,List.drop_zero,hr] at this;exact this
 clear hr
 go_enter Tryz.func120,Tryz.ntmps120
 go_wp2_with (go_at_call 158;refine(HC.out _).mono ?_;rintro e w' ⟨rfl,rfl⟩)
 go_ret2
 exact⟨rfl,rfl⟩
set_option maxHeartbeats 400000 in
theorem mMinus (s:ByteArray)(r:Nat)(w:World)(hs:s.size≤140737488351232)(h0:0<s.size)(hc:(s[0].toNat:Int)=45)(hr:Doc.run 48 57 (Doc.rest s 1)=r)(h1:0<r)(h7:r≤7):
  Calls Tryz.prog 122 #[.string s] w fun e w'=>e=.returned (.tuple #[.int .i64 3,.int .i64 (1+(r:Int))])∧w'=w:=by
 have HC:Hid (∀w,Calls Tryz.prog 158 #[.string (s.extract 1 s.size),.func (.func 121) #[] #[]] w fun e w'=>e=.returned (.int .i64 r)∧w'=w):=fun w=>by
  have:=countDigits (s.extract 1 s.size) w (by simp;omega)
  rw[run_digits,List.drop_zero,show(s.extract 1 s.size).data.toList=Doc.rest s 1 from by simp[Doc.rest];rw[List.take_of_length_le (by simp)],hr] at this;exact this
 clear hr
 have hz:((r:Int)==0)=false:=by rw[beq_eq_false_iff_ne];omega
 go_enter Tryz.func122,Tryz.ntmps122
 go_wp2_with (go_at_call 158;refine(HC.out _).mono ?_;rintro e w' ⟨rfl,rfl⟩)
 go_ret2
 exact⟨rfl,rfl⟩
set_option maxHeartbeats 400000 in
theorem mMinus_long (s:ByteArray)(r:Nat)(w:World)(hs:s.size≤140737488351232)(h0:0<s.size)(hc:(s[0].toNat:Int)=45)(hr:Doc.run 48 57 (Doc.rest s 1)=r)(h7:7<r):
  Calls Tryz.prog 122 #[.string s] w fun e w'=>e=.returned (.tuple #[.int .i64 1,.int .i64 0])∧w'=w:=by
 have HC:Hid (∀w,Calls Tryz.prog 158 #[.string (s.extract 1 s.size),.func (.func 121) #[] #[]] w fun e w'=>e=.returned (.int .i64 r)∧w'=w):=fun w=>by
  have:=countDigits (s.extract 1 s.size) w (by simp;omega)
  rw[run_digits,List.drop_zero,show(s.extract 1 s.size).data.toList=Doc.rest s 1 from by simp[Doc.rest];rw[List.take_of_length_le (by simp)],hr] at this;exact this
 clear hr
 have hz:((r:Int)==0)=false:=by rw[beq_eq_false_iff_ne];omega
 go_enter Tryz.func122,Tryz.ntmps122
 go_wp2_with (go_at_call 158;refine(HC.out _).mono ?_;rintro e w' ⟨rfl,rfl⟩)
 go_ret2
 exact⟨rfl,rfl⟩
set_option maxHeartbeats 400000 in
theorem mMinus_none (s:ByteArray)(w:World)(hs:s.size≤140737488351232)(h0:0<s.size)(hc:(s[0].toNat:Int)=45)(hr:Doc.run 48 57 (Doc.rest s 1)=0):
  Calls Tryz.prog 122 #[.string s] w fun e w'=>e=.returned (.tuple #[.int .i64 1,.int .i64 0])∧w'=w:=by
 have HC:Hid (∀w,Calls Tryz.prog 158 #[.string (s.extract 1 s.size),.func (.func 121) #[] #[]] w fun e w'=>e=.returned (.int .i64 0)∧w'=w):=fun w=>by
  have:=countDigits (s.extract 1 s.size) w (by simp;omega)
  rw[run_digits,List.drop_zero,show(s.extract 1 s.size).data.toList=Doc.rest s 1 from by simp[Doc.rest];rw[List.take_of_length_le (by simp)],hr] at this;exact this
 clear hr
 go_enter Tryz.func122,Tryz.ntmps122
 go_wp2_with (go_at_call 158;refine(HC.out _).mono ?_;rintro e w' ⟨rfl,rfl⟩)
 go_ret2
 exact⟨rfl,rfl⟩
set_option maxHeartbeats 400000 in
theorem mPlain (s:ByteArray)(r:Nat)(w:World)(hs:s.size≤140737488351232)(h0:0<s.size)(hc:((s[0].toNat:Int)==45)=false)(hr:Doc.run 48 57 s.data.toList=r)(h1:0<r)(h7:r≤7):
  Calls Tryz.prog 122 #[.string s] w fun e w'=>e=.returned (.tuple #[.int .i64 3,.int .i64 r])∧w'=w:=by
 have HC:Hid (∀w,Calls Tryz.prog 158 #[.string s,.func (.func 121) #[] #[]] w fun e w'=>e=.returned (.int .i64 r)∧w'=w):=fun w=>by
  have:=countDigits s w hs
  rw[run_digits,List.drop_zero,hr] at this;exact this
 clear hr
 have hz:((r:Int)==0)=false:=by rw[beq_eq_false_iff_ne];omega
 go_enter Tryz.func122,Tryz.ntmps122
 go_wp2_with (go_at_call 158;refine(HC.out _).mono ?_;rintro e w' ⟨rfl,rfl⟩)
 go_ret2
 exact⟨rfl,rfl⟩
set_option maxHeartbeats 400000 in
theorem mPlain_long (s:ByteArray)(r:Nat)(w:World)(hs:s.size≤140737488351232)(h0:0<s.size)(hc:((s[0].toNat:Int)==45)=false)(hr:Doc.run 48 57 s.data.toList=r)(h7:7<r):
  Calls Tryz.prog 122 #[.string s] w fun e w'=>e=.returned (.tuple #[.int .i64 1,.int .i64 0])∧w'=w:=by
 have HC:Hid (∀w,Calls Tryz.prog 158 #[.string s,.func (.func 121) #[] #[]] w fun e w'=>e=.returned (.int .i64 r)∧w'=w):=fun w=>by
  have:=countDigits s w hs
  rw[run_digits,List.drop_zero,hr] at this;exact this
 clear hr
 have hz:((r:Int)==0)=false:=by rw[beq_eq_false_iff_ne];omega
 go_enter Tryz.func122,Tryz.ntmps122
 go_wp2_with (go_at_call 158;refine(HC.out _).mono ?_;rintro e w' ⟨rfl,rfl⟩)
 go_ret2
 exact⟨rfl,rfl⟩
set_option maxHeartbeats 400000 in
theorem slite_IndexByte (s:ByteArray)(c:Int)(w:World):
  Calls Tryz.prog 179 #[.string s,.int .u8 c] w fun e w'=>e=.returned (.int .i64 (Lib.indexByte s.data.toList c.toNat.toUInt8))∧w'=w:=by
 have hx:∀w,(callFunc 200 #[.string s,.int .u8 c]).run Tryz.prog w=.ok (.value (.int .i64 (Lib.indexByte s.data.toList c.toNat.toUInt8))) w:=fun w=>by
  rw[run_callFunc_extern Tryz.func200 (by kernel_rfl) (by kernel_rfl) (by kernel_rfl) (e:=Extern.BytealgIndexByte.indexByte) (by kernel_rfl),Lib.run_indexByteString]
  rfl
 go_enter Tryz.func179,Tryz.ntmps179
 go_wp2
 go_ret
 exact⟨rfl,rfl⟩
set_option maxHeartbeats 400000 in
theorem IndexByte_any (s:ByteArray)(c:Int)(w:World):
  Calls Tryz.prog 159 #[.string s,.int .u8 c] w fun e w'=>e=.returned (.int .i64 (Lib.indexByte s.data.toList c.toNat.toUInt8))∧w'=w:=by
 go_enter Tryz.func159,Tryz.ntmps159
 go_wp2_with (go_at_call 179;refine(slite_IndexByte s c _).mono ?_;rintro e w' ⟨rfl,rfl⟩)
 go_ret
 exact⟨rfl,rfl⟩
theorem index_inside (l:List UInt8):(Doc.inside l<l.length→Lib.indexByte l 34=(Doc.inside l:Int))∧(¬Doc.inside l<l.length→Lib.indexByte l 34= -1):=by
 induction l with
 |nil=>simp[Lib.indexByte,Doc.inside]
 |cons b l ih=>
  by_cases h:b=34
  ·subst h;rw[Doc.inside_hit];simp[Lib.indexByte]
  ·have hb:(b==34)=false:=by simpa using h
   rw[Doc.inside_go h,Lib.indexByte,hb]
   by_cases h2:Doc.inside l<l.length
   ·have h3:=ih.1 h2
    have h4:(Lib.indexByte l 34== -1)=false:=by rw[h3,beq_eq_false_iff_ne];omega
    refine⟨fun _=>?_,fun h=>absurd (by simp;omega) h⟩
    rw[h4,h3];simp
   ·have h3:=ih.2 h2
    refine⟨fun h=>absurd h (by simp;omega),fun _=>?_⟩
    rw[h3];simp
set_option maxHeartbeats 400000 in
theorem mQuote (s:ByteArray)(r:Nat)(w:World)(hs:s.size≤140737488351232)(h0:0<s.size)(hr:Doc.inside (Doc.rest s 1)=r)(h1:r+1<s.size)(h12:r≤12):
  Calls Tryz.prog 123 #[.string s] w fun e w'=>e=.returned (.tuple #[.int .i64 4,.int .i64 ((r:Int)+2)])∧w'=w:=by
 have HC:Hid (∀w,Calls Tryz.prog 159 #[.string (s.extract 1 s.size),.int .u8 34] w fun e w'=>e=.returned (.int .i64 ((r:Int)))∧w'=w):=fun w=>by
  have h1:=IndexByte_any (s.extract 1 s.size) 34 w
  have h2:(s.extract 1 s.size).data.toList=Doc.rest s 1:=by simp[Doc.rest];rw[List.take_of_length_le (by simp)]
  have h3:(Doc.rest s 1).length=s.size-1:=by simp[Doc.rest]
  rw[h2,show(34:Int).toNat.toUInt8=34 from rfl,(index_inside (Doc.rest s 1)).1 (by omega),hr] at h1;exact h1
 clear hr
 go_enter Tryz.func123,Tryz.ntmps123
 go_wp2_with (go_at_call 159;refine(HC.out _).mono ?_;rintro e w' ⟨rfl,rfl⟩)
 go_ret2
 exact⟨rfl,rfl⟩
set_option maxHeartbeats 400000 in
theorem mQuote_long (s:ByteArray)(r:Nat)(w:World)(hs:s.size≤140737488351232)(h0:0<s.size)(hr:Doc.inside (Doc.rest s 1)=r)(h1:r+1<s.size)(h12:12<r):
  Calls Tryz.prog 123 #[.string s] w fun e w'=>e=.returned (.tuple #[.int .i64 1,.int .i64 0])∧w'=w:=by
 have HC:Hid (∀w,Calls Tryz.prog 159 #[.string (s.extract 1 s.size),.int .u8 34] w fun e w'=>e=.returned (.int .i64 ((r:Int)))∧w'=w):=fun w=>by
  have h1:=IndexByte_any (s.extract 1 s.size) 34 w
  have h2:(s.extract 1 s.size).data.toList=Doc.rest s 1:=by simp[Doc.rest];rw[List.take_of_length_le (by simp)]
  have h3:(Doc.rest s 1).length=s.size-1:=by simp[Doc.rest]
  rw[h2,show(34:Int).toNat.toUInt8=34 from rfl,(index_inside (Doc.rest s 1)).1 (by omega),hr] at h1;exact h1
 clear hr
 go_enter Tryz.func123,Tryz.ntmps123
 go_wp2_with (go_at_call 159;refine(HC.out _).mono ?_;rintro e w' ⟨rfl,rfl⟩)
 go_ret2
 exact⟨rfl,rfl⟩
set_option maxHeartbeats 400000 in
theorem mQuote_open (s:ByteArray)(r:Nat)(w:World)(hs:s.size≤140737488351232)(h0:0<s.size)(hr:Doc.inside (Doc.rest s 1)=r)(h1:¬r+1<s.size):
  Calls Tryz.prog 123 #[.string s] w fun e w'=>e=.returned (.tuple #[.int .i64 1,.int .i64 0])∧w'=w:=by
 have HC:Hid (∀w,Calls Tryz.prog 159 #[.string (s.extract 1 s.size),.int .u8 34] w fun e w'=>e=.returned (.int .i64 (-1))∧w'=w):=fun w=>by
  have h1:=IndexByte_any (s.extract 1 s.size) 34 w
  have h2:(s.extract 1 s.size).data.toList=Doc.rest s 1:=by simp[Doc.rest];rw[List.take_of_length_le (by simp)]
  have h3:(Doc.rest s 1).length=s.size-1:=by simp[Doc.rest]
  rw[h2,show(34:Int).toNat.toUInt8=34 from rfl,(index_inside (Doc.rest s 1)).2 (by omega)] at h1;exact h1
 clear hr
 go_enter Tryz.func123,Tryz.ntmps123
 go_wp2_with (go_at_call 159;refine(HC.out _).mono ?_;rintro e w' ⟨rfl,rfl⟩)
 go_ret2
 exact⟨rfl,rfl⟩
def hasP (s p:ByteArray):Bool:=decide (p.size≤s.size) && ((s.extract 0 p.size).toList==p.toList)
set_option maxHeartbeats 400000 in
theorem slite_HasPrefix (s p:ByteArray)(w:World)(_hs:s.size≤140737488351232)(_hp:p.size≤200):
  Calls Tryz.prog 180 #[.string s,.string p] w fun e w'=>e=.returned (.bool (hasP s p))∧w'=w:=by
 by_cases h:p.size≤s.size
 ·have HB:Hid (((s.extract 0 p.size).toList==p.toList)=hasP s p):=by show _=_;unfold hasP;simp[h]
  go_enter Tryz.func180,Tryz.ntmps180
  go_wp2_with fail
  go_ret
  exact⟨ret_bool' HB.out,rfl⟩
 ·have HB:Hid (false=hasP s p):=by show _=_;unfold hasP;simp[h]
  go_enter Tryz.func180,Tryz.ntmps180
  go_wp2_with fail
  go_ret
  exact⟨ret_bool' HB.out,rfl⟩
set_option maxHeartbeats 400000 in
theorem HasPrefix_any (s p:ByteArray)(w:World)(hs:s.size≤140737488351232)(hp:p.size≤200):
  Calls Tryz.prog 160 #[.string s,.string p] w fun e w'=>e=.returned (.bool (hasP s p))∧w'=w:=by
 go_enter Tryz.func160,Tryz.ntmps160
 go_wp2_with (go_at_call 180;refine(slite_HasPrefix s p _ hs hp).mono ?_;rintro e w' ⟨rfl,rfl⟩)
 go_ret
 exact⟨rfl,rfl⟩
theorem hasP_two (s:ByteArray)(a b:UInt8):hasP s ⟨#[a,b]⟩=((Doc.rest s 0).take 2==[a,b]):=by
 unfold hasP
 have e1:(⟨#[a,b]⟩:ByteArray).size=2:=rfl
 have e2:(s.extract 0 2).toList=(Doc.rest s 0).take 2:=by rw[ByteArray.toList_eq];simp[Doc.rest]
 have e3:(⟨#[a,b]⟩:ByteArray).toList=[a,b]:=by rw[ByteArray.toList_eq]
 rw[e1,e2,e3]
 by_cases h:2≤s.size
 ·simp[h]
 ·have:((Doc.rest s 0).take 2==[a,b])=false:=by
   rw[beq_eq_false_iff_ne];intro e
   have:=congrArg List.length e
   rw[List.length_take] at this
   simp[Doc.rest] at this;omega
  simp[h,this]
theorem hasP_one (s:ByteArray)(a:UInt8)(h0:0<s.size):hasP s ⟨#[a]⟩=(s[0]==a):=by
 unfold hasP
 have e1:(⟨#[a]⟩:ByteArray).size=1:=rfl
 have e2:(s.extract 0 1).toList=[s[0]]:=by
  rw[ByteArray.toList_eq]
  have h2:(s.extract 0 1).data.toList=s.data.toList.take 1:=by simp
  have h3:s.data.toList=s[0]::s.data.toList.drop (0+1):=drop_at s 0 h0
  rw[h2]
  conv=>lhs;rw[h3]
  rfl
 have e3:(⟨#[a]⟩:ByteArray).toList=[a]:=by rw[ByteArray.toList_eq]
 rw[e1,e2,e3]
 simp[show 1≤s.size by omega]
structure Signs (w:World):Prop where
 c0:w.cell? ⟨1,0,none⟩=some (.string ⟨#[33,61]⟩)
 c1:w.cell? ⟨1,1,none⟩=some (.string ⟨#[60,61]⟩)
 c2:w.cell? ⟨1,2,none⟩=some (.string ⟨#[62,61]⟩)
 c3:w.cell? ⟨1,3,none⟩=some (.string ⟨#[61]⟩)
 c4:w.cell? ⟨1,4,none⟩=some (.string ⟨#[60]⟩)
 c5:w.cell? ⟨1,5,none⟩=some (.string ⟨#[62]⟩)
 c6:w.cell? ⟨1,6,none⟩=some (.string ⟨#[40]⟩)
 c7:w.cell? ⟨1,7,none⟩=some (.string ⟨#[41]⟩)
 c8:w.cell? ⟨1,8,none⟩=some (.string ⟨#[44]⟩)
theorem Signs.below {B:Nat}{w w':World}(h:Signs w)(hb:Below B w w')(hB:1<B):Signs w':=
 ⟨(hb.cell (p:=⟨1,0,none⟩) hB).trans h.c0,(hb.cell (p:=⟨1,1,none⟩) hB).trans h.c1,(hb.cell (p:=⟨1,2,none⟩) hB).trans h.c2,(hb.cell (p:=⟨1,3,none⟩) hB).trans h.c3,(hb.cell (p:=⟨1,4,none⟩) hB).trans h.c4,(hb.cell (p:=⟨1,5,none⟩) hB).trans h.c5,(hb.cell (p:=⟨1,6,none⟩) hB).trans h.c6,(hb.cell (p:=⟨1,7,none⟩) hB).trans h.c7,(hb.cell (p:=⟨1,8,none⟩) hB).trans h.c8⟩
def SignPost (s:ByteArray)(w:World)(e:Ending)(w':World):Prop:=∃k n:Int,e=.returned (.tuple #[.int .i64 k,.int .i64 n])∧w'=w∧
 ((Doc.twoSign (Doc.rest s 0)=true∧k=5∧n=2)∨(Doc.twoSign (Doc.rest s 0)=false∧(∃h:0<s.size,Doc.oneSign s[0]=true)∧k=5∧n=1)∨(Doc.twoSign (Doc.rest s 0)=false∧(∃h:0<s.size,Doc.oneSign s[0]=false)∧k=1∧n=0))
theorem two_no (s:ByteArray)(b0:((Doc.rest s 0).take 2==[33,61])=false)(b1:((Doc.rest s 0).take 2==[60,61])=false)(b2:((Doc.rest s 0).take 2==[62,61])=false):Doc.twoSign (Doc.rest s 0)=false:=by
 rw[Doc.twoSign,b0,b1,b2];rfl
set_option maxHeartbeats 2000000 in
theorem measureSign_any (s:ByteArray)(w:World)(hs:s.size≤140737488351232)(h0:0<s.size)(hsg:Signs w):
  Calls Tryz.prog 124 #[.string s] w (SignPost s w):=by
 obtain⟨c0,c1,c2,c3,c4,c5,c6,c7,c8⟩:=hsg
 have i0:∀w,(Instr.index 255 (.agg #[.string ⟨#[33,61]⟩,.string ⟨#[60,61]⟩,.string ⟨#[62,61]⟩,.string ⟨#[61]⟩,.string ⟨#[60]⟩,.string ⟨#[62]⟩,.string ⟨#[40]⟩,.string ⟨#[41]⟩,.string ⟨#[44]⟩]) (.int .i64 0)).run Tryz.prog w=.ok (.string ⟨#[33,61]⟩) w:=fun _=>by kernel_rfl
 have i1:∀w,(Instr.index 255 (.agg #[.string ⟨#[33,61]⟩,.string ⟨#[60,61]⟩,.string ⟨#[62,61]⟩,.string ⟨#[61]⟩,.string ⟨#[60]⟩,.string ⟨#[62]⟩,.string ⟨#[40]⟩,.string ⟨#[41]⟩,.string ⟨#[44]⟩]) (.int .i64 1)).run Tryz.prog w=.ok (.string ⟨#[60,61]⟩) w:=fun _=>by kernel_rfl
 have i2:∀w,(Instr.index 255 (.agg #[.string ⟨#[33,61]⟩,.string ⟨#[60,61]⟩,.string ⟨#[62,61]⟩,.string ⟨#[61]⟩,.string ⟨#[60]⟩,.string ⟨#[62]⟩,.string ⟨#[40]⟩,.string ⟨#[41]⟩,.string ⟨#[44]⟩]) (.int .i64 2)).run Tryz.prog w=.ok (.string ⟨#[62,61]⟩) w:=fun _=>by kernel_rfl
 have i3:∀w,(Instr.index 255 (.agg #[.string ⟨#[33,61]⟩,.string ⟨#[60,61]⟩,.string ⟨#[62,61]⟩,.string ⟨#[61]⟩,.string ⟨#[60]⟩,.string ⟨#[62]⟩,.string ⟨#[40]⟩,.string ⟨#[41]⟩,.string ⟨#[44]⟩]) (.int .i64 3)).run Tryz.prog w=.ok (.string ⟨#[61]⟩) w:=fun _=>by kernel_rfl
 have i4:∀w,(Instr.index 255 (.agg #[.string ⟨#[33,61]⟩,.string ⟨#[60,61]⟩,.string ⟨#[62,61]⟩,.string ⟨#[61]⟩,.string ⟨#[60]⟩,.string ⟨#[62]⟩,.string ⟨#[40]⟩,.string ⟨#[41]⟩,.string ⟨#[44]⟩]) (.int .i64 4)).run Tryz.prog w=.ok (.string ⟨#[60]⟩) w:=fun _=>by kernel_rfl
 have i5:∀w,(Instr.index 255 (.agg #[.string ⟨#[33,61]⟩,.string ⟨#[60,61]⟩,.string ⟨#[62,61]⟩,.string ⟨#[61]⟩,.string ⟨#[60]⟩,.string ⟨#[62]⟩,.string ⟨#[40]⟩,.string ⟨#[41]⟩,.string ⟨#[44]⟩]) (.int .i64 5)).run Tryz.prog w=.ok (.string ⟨#[62]⟩) w:=fun _=>by kernel_rfl
 have i6:∀w,(Instr.index 255 (.agg #[.string ⟨#[33,61]⟩,.string ⟨#[60,61]⟩,.string ⟨#[62,61]⟩,.string ⟨#[61]⟩,.string ⟨#[60]⟩,.string ⟨#[62]⟩,.string ⟨#[40]⟩,.string ⟨#[41]⟩,.string ⟨#[44]⟩]) (.int .i64 6)).run Tryz.prog w=.ok (.string ⟨#[40]⟩) w:=fun _=>by kernel_rfl
 have i7:∀w,(Instr.index 255 (.agg #[.string ⟨#[33,61]⟩,.string ⟨#[60,61]⟩,.string ⟨#[62,61]⟩,.string ⟨#[61]⟩,.string ⟨#[60]⟩,.string ⟨#[62]⟩,.string ⟨#[40]⟩,.string ⟨#[41]⟩,.string ⟨#[44]⟩]) (.int .i64 7)).run Tryz.prog w=.ok (.string ⟨#[41]⟩) w:=fun _=>by kernel_rfl
 have i8:∀w,(Instr.index 255 (.agg #[.string ⟨#[33,61]⟩,.string ⟨#[60,61]⟩,.string ⟨#[62,61]⟩,.string ⟨#[61]⟩,.string ⟨#[60]⟩,.string ⟨#[62]⟩,.string ⟨#[40]⟩,.string ⟨#[41]⟩,.string ⟨#[44]⟩]) (.int .i64 8)).run Tryz.prog w=.ok (.string ⟨#[44]⟩) w:=fun _=>by kernel_rfl
 go_enter Tryz.func124,Tryz.ntmps124
 go_wp2_with fail
 clear c0 c1 c2 c3 c4 c5 c6 c7 c8
 refine wp_loop_rounds 10 ?_
 rw[rounds_succ]
 go_wp2_with fail
 refine(HasPrefix_any s ⟨#[33,61]⟩ _ hs (by decide)).mono ?_
 rw[hasP_two s 33 61]
 by_cases b0:((Doc.rest s 0).take 2==[33,61])=true
 ·rw[b0]
  rintro e w' ⟨rfl,rfl⟩
  go_wp2_with fail
  go_ret2
  exact⟨5,2,rfl,rfl,.inl ⟨by rw[Doc.twoSign,b0];simp,rfl,rfl⟩⟩
 have b0:((Doc.rest s 0).take 2==[33,61])=false:=by simpa using b0
 rw[b0]
 rintro e w' ⟨rfl,rfl⟩
 go_wp2_with fail
 rw[rounds_succ]
 go_wp2_with fail
 refine(HasPrefix_any s ⟨#[60,61]⟩ _ hs (by decide)).mono ?_
 rw[hasP_two s 60 61]
 by_cases b1:((Doc.rest s 0).take 2==[60,61])=true
 ·rw[b1]
  rintro e w' ⟨rfl,rfl⟩
  go_wp2_with fail
  go_ret2
  exact⟨5,2,rfl,rfl,.inl ⟨by rw[Doc.twoSign,b1];simp,rfl,rfl⟩⟩
 have b1:((Doc.rest s 0).take 2==[60,61])=false:=by simpa using b1
 rw[b1]
 rintro e w' ⟨rfl,rfl⟩
 go_wp2_with fail
 rw[rounds_succ]
 go_wp2_with fail
 refine(HasPrefix_any s ⟨#[62,61]⟩ _ hs (by decide)).mono ?_
 rw[hasP_two s 62 61]
 by_cases b2:((Doc.rest s 0).take 2==[62,61])=true
 ·rw[b2]
  rintro e w' ⟨rfl,rfl⟩
  go_wp2_with fail
  go_ret2
  exact⟨5,2,rfl,rfl,.inl ⟨by rw[Doc.twoSign,b2];simp,rfl,rfl⟩⟩
 have b2:((Doc.rest s 0).take 2==[62,61])=false:=by simpa using b2
 rw[b2]
 rintro e w' ⟨rfl,rfl⟩
 go_wp2_with fail
 rw[rounds_succ]
 go_wp2_with fail
 refine(HasPrefix_any s ⟨#[61]⟩ _ hs (by decide)).mono ?_
 rw[hasP_one s 61 h0]
 by_cases b3:(s[0]==61)=true
 ·rw[b3]
  rintro e w' ⟨rfl,rfl⟩
  go_wp2_with fail
  go_ret2
  exact⟨5,1,rfl,rfl,.inr (.inl ⟨two_no s b0 b1 b2,⟨h0,by rw[Doc.oneSign,b3];simp⟩,rfl,rfl⟩)⟩
 have b3:(s[0]==61)=false:=by simpa using b3
 rw[b3]
 rintro e w' ⟨rfl,rfl⟩
 go_wp2_with fail
 rw[rounds_succ]
 go_wp2_with fail
 refine(HasPrefix_any s ⟨#[60]⟩ _ hs (by decide)).mono ?_
 rw[hasP_one s 60 h0]
 by_cases b4:(s[0]==60)=true
 ·rw[b4]
  rintro e w' ⟨rfl,rfl⟩
  go_wp2_with fail
  go_ret2
  exact⟨5,1,rfl,rfl,.inr (.inl ⟨two_no s b0 b1 b2,⟨h0,by rw[Doc.oneSign,b4];simp⟩,rfl,rfl⟩)⟩
 have b4:(s[0]==60)=false:=by simpa using b4
 rw[b4]
 rintro e w' ⟨rfl,rfl⟩
 go_wp2_with fail
 rw[rounds_succ]
 go_wp2_with fail
 refine(HasPrefix_any s ⟨#[62]⟩ _ hs (by decide)).mono ?_
 rw[hasP_one s 62 h0]
 by_cases b5:(s[0]==62)=true
 ·rw[b5]
  rintro e w' ⟨rfl,rfl⟩
  go_wp2_with fail
  go_ret2
  exact⟨5,1,rfl,rfl,.inr (.inl ⟨two_no s b0 b1 b2,⟨h0,by rw[Doc.oneSign,b5];simp⟩,rfl,rfl⟩)⟩
 have b5:(s[0]==62)=false:=by simpa using b5
 rw[b5]
 rintro e w' ⟨rfl,rfl⟩
 go_wp2_with fail
 rw[rounds_succ]
 go_wp2_with fail
 refine(HasPrefix_any s ⟨#[40]⟩ _ hs (by decide)).mono ?_
 rw[hasP_one s 40 h0]
 by_cases b6:(s[0]==40)=true
 ·rw[b6]
  rintro e w' ⟨rfl,rfl⟩
  go_wp2_with fail
  go_ret2
  exact⟨5,1,rfl,rfl,.inr (.inl ⟨two_no s b0 b1 b2,⟨h0,by rw[Doc.oneSign,b6];simp⟩,rfl,rfl⟩)⟩
 have b6:(s[0]==40)=false:=by simpa using b6
 rw[b6]
 rintro e w' ⟨rfl,rfl⟩
 go_wp2_with fail
 rw[rounds_succ]
 go_wp2_with fail
 refine(HasPrefix_any s ⟨#[41]⟩ _ hs (by decide)).mono ?_
 rw[hasP_one s 41 h0]
 by_cases b7:(s[0]==41)=true
 ·rw[b7]
  rintro e w' ⟨rfl,rfl⟩
  go_wp2_with fail
  go_ret2
  exact⟨5,1,rfl,rfl,.inr (.inl ⟨two_no s b0 b1 b2,⟨h0,by rw[Doc.oneSign,b7];simp⟩,rfl,rfl⟩)⟩
 have b7:(s[0]==41)=false:=by simpa using b7
 rw[b7]
 rintro e w' ⟨rfl,rfl⟩
 go_wp2_with fail
 rw[rounds_succ]
 go_wp2_with fail
 refine(HasPrefix_any s ⟨#[44]⟩ _ hs (by decide)).mono ?_
 rw[hasP_one s 44 h0]
 by_cases b8:(s[0]==44)=true
 ·rw[b8]
  rintro e w' ⟨rfl,rfl⟩
  go_wp2_with fail
  go_ret2
  exact⟨5,1,rfl,rfl,.inr (.inl ⟨two_no s b0 b1 b2,⟨h0,by rw[Doc.oneSign,b8];simp⟩,rfl,rfl⟩)⟩
 have b8:(s[0]==44)=false:=by simpa using b8
 rw[b8]
 rintro e w' ⟨rfl,rfl⟩
 go_wp2_with fail
 rw[rounds_succ]
 go_wp2_with fail
 go_ret2
 exact⟨1,0,rfl,rfl,.inr (.inr ⟨two_no s b0 b1 b2,⟨h0,by rw[Doc.oneSign,b3,b4,b5,b6,b7,b8];rfl⟩,rfl,rfl⟩)⟩
def goKind (k:UInt8):Int:=if k=119 then 2 else if k=110 then 3 else if k=115 then 4 else if k=103 then 5 else if k=120 then 1 else 0
set_option maxHeartbeats 400000 in
theorem measure_word {x y:Int}(s:ByteArray)(w:World)(h0:0<s.size)(k1:Doc.isLetter s[0]=true)(hc:∀w,Calls Tryz.prog 120 #[.string s] w fun e w'=>e=.returned (.tuple #[.int .i64 x,.int .i64 y])∧w'=w):
  Calls Tryz.prog 75 #[.string s] w fun e w'=>e=.returned (.tuple #[.int .i64 x,.int .i64 y])∧w'=w:=by
 have HC:Hid (∀w,Calls Tryz.prog 120 #[.string s] w fun e w'=>e=.returned (.tuple #[.int .i64 x,.int .i64 y])∧w'=w):=hc
 have K1:Hid (Doc.isLetter s[0]=true):=k1
 clear hc k1
 go_enter Tryz.func75,Tryz.ntmps75
 go_wp2_with (first|(go_at_call 119;refine(isLetter_any s[0] _).mono ?_;rw[K1.out];rintro e w' ⟨rfl,rfl⟩)|(go_at_call 120;refine(HC.out _).mono ?_;rintro e w' ⟨rfl,rfl⟩))
 go_ret2
 exact⟨rfl,rfl⟩
set_option maxHeartbeats 400000 in
theorem measure_minus {x y:Int}(s:ByteArray)(w:World)(h0:0<s.size)(k1:Doc.isLetter s[0]=false)(k2:(s[0].toNat:Int)=45)(hc:∀w,Calls Tryz.prog 122 #[.string s] w fun e w'=>e=.returned (.tuple #[.int .i64 x,.int .i64 y])∧w'=w):
  Calls Tryz.prog 75 #[.string s] w fun e w'=>e=.returned (.tuple #[.int .i64 x,.int .i64 y])∧w'=w:=by
 have HC:Hid (∀w,Calls Tryz.prog 122 #[.string s] w fun e w'=>e=.returned (.tuple #[.int .i64 x,.int .i64 y])∧w'=w):=hc
 have K1:Hid (Doc.isLetter s[0]=false):=k1
 have HL:Hid (∀w,Calls Tryz.prog 119 #[.int .u8 45] w fun e w'=>e=.returned (.bool false)∧w'=w):=fun w=>by
  have:=isLetter_any s[0] w;rw[K1.out,k2] at this;exact this
 clear hc k1
 go_enter Tryz.func75,Tryz.ntmps75
 go_wp2_with (first|(go_at_call 119;refine(HL.out _).mono ?_;rintro e w' ⟨rfl,rfl⟩)|(go_at_call 122;refine(HC.out _).mono ?_;rintro e w' ⟨rfl,rfl⟩))
 go_ret2
 exact⟨rfl,rfl⟩
set_option maxHeartbeats 400000 in
theorem measure_digit {x y:Int}(s:ByteArray)(w:World)(h0:0<s.size)(k1:Doc.isLetter s[0]=false)(k2:((s[0].toNat:Int)==45)=false)(k3:Doc.isDigit s[0]=true)(hc:∀w,Calls Tryz.prog 122 #[.string s] w fun e w'=>e=.returned (.tuple #[.int .i64 x,.int .i64 y])∧w'=w):
  Calls Tryz.prog 75 #[.string s] w fun e w'=>e=.returned (.tuple #[.int .i64 x,.int .i64 y])∧w'=w:=by
 have HC:Hid (∀w,Calls Tryz.prog 122 #[.string s] w fun e w'=>e=.returned (.tuple #[.int .i64 x,.int .i64 y])∧w'=w):=hc
 have K1:Hid (Doc.isLetter s[0]=false):=k1
 have K3:Hid (Doc.isDigit s[0]=true):=k3
 clear hc k1 k3
 go_enter Tryz.func75,Tryz.ntmps75
 go_wp2_with (first|(go_at_call 119;refine(isLetter_any s[0] _).mono ?_;rw[K1.out];rintro e w' ⟨rfl,rfl⟩)|(go_at_call 121;refine(isDigit_any s[0] _).mono ?_;rw[K3.out];rintro e w' ⟨rfl,rfl⟩)|(go_at_call 122;refine(HC.out _).mono ?_;rintro e w' ⟨rfl,rfl⟩))
 go_ret2
 exact⟨rfl,rfl⟩
set_option maxHeartbeats 400000 in
theorem measure_quote {x y:Int}(s:ByteArray)(w:World)(h0:0<s.size)(k1:Doc.isLetter s[0]=false)(k3:Doc.isDigit s[0]=false)(k2:(s[0].toNat:Int)=34)(hc:∀w,Calls Tryz.prog 123 #[.string s] w fun e w'=>e=.returned (.tuple #[.int .i64 x,.int .i64 y])∧w'=w):
  Calls Tryz.prog 75 #[.string s] w fun e w'=>e=.returned (.tuple #[.int .i64 x,.int .i64 y])∧w'=w:=by
 have HC:Hid (∀w,Calls Tryz.prog 123 #[.string s] w fun e w'=>e=.returned (.tuple #[.int .i64 x,.int .i64 y])∧w'=w):=hc
 have HL:Hid (∀w,Calls Tryz.prog 119 #[.int .u8 34] w fun e w'=>e=.returned (.bool false)∧w'=w):=fun w=>by
  have:=isLetter_any s[0] w;rw[k1,k2] at this;exact this
 have HD:Hid (∀w,Calls Tryz.prog 121 #[.int .u8 34] w fun e w'=>e=.returned (.bool false)∧w'=w):=fun w=>by
  have:=isDigit_any s[0] w;rw[k3,k2] at this;exact this
 clear hc k1 k3
 go_enter Tryz.func75,Tryz.ntmps75
 go_wp2_with (first|(go_at_call 119;refine(HL.out _).mono ?_;rintro e w' ⟨rfl,rfl⟩)|(go_at_call 121;refine(HD.out _).mono ?_;rintro e w' ⟨rfl,rfl⟩)|(go_at_call 123;refine(HC.out _).mono ?_;rintro e w' ⟨rfl,rfl⟩))
 go_ret2
 exact⟨rfl,rfl⟩
set_option maxHeartbeats 400000 in
theorem measure_sign (s:ByteArray)(w:World)(hs:s.size≤140737488351232)(h0:0<s.size)(hsg:Signs w)(k1:Doc.isLetter s[0]=false)(k3:Doc.isDigit s[0]=false)(k2:((s[0].toNat:Int)==45)=false)(k4:((s[0].toNat:Int)==34)=false):
  Calls Tryz.prog 75 #[.string s] w (SignPost s w):=by
 have K1:Hid (Doc.isLetter s[0]=false):=k1
 have K3:Hid (Doc.isDigit s[0]=false):=k3
 have HS:Hid (Signs w):=hsg
 clear k1 k3 hsg
 go_enter Tryz.func75,Tryz.ntmps75
 go_wp2_with (first|(go_at_call 119;refine(isLetter_any s[0] _).mono ?_;rw[K1.out];rintro e w' ⟨rfl,rfl⟩)|(go_at_call 121;refine(isDigit_any s[0] _).mono ?_;rw[K3.out];rintro e w' ⟨rfl,rfl⟩)|(go_at_call 124;refine(measureSign_any s _ hs h0 HS.out).mono ?_;rintro e w' ⟨k,n,rfl,rfl,hcase⟩;have HH:Hid _:=hcase;clear hcase))
 go_ret2
 exact⟨k,n,rfl,rfl,HH.out⟩
theorem measure_any (s:ByteArray)(w:World)(hs:s.size≤140737488351232)(h0:0<s.size)(hsg:Signs w):
  Calls Tryz.prog 75 #[.string s] w fun e w'=>e=.returned (.tuple #[.int .i64 (goKind (Doc.lex (Doc.rest s 0)).1),.int .i64 ((Doc.lex (Doc.rest s 0)).2:Int)])∧w'=w:=by
 have hl:Doc.rest s 0=s[0]::Doc.rest s 1:=drop_at s 0 h0
 have hlen1:(Doc.rest s 1).length=s.size-1:=by simp[Doc.rest]
 have f45:(s[0]==45)=((s[0].toNat:Int)==45):=u8_int s[0] 45 (by omega)
 have f34:(s[0]==34)=((s[0].toNat:Int)==34):=u8_int s[0] 34 (by omega)
 by_cases hL:Doc.isLetter s[0]=true
 ·by_cases h8:Doc.run 97 122 (Doc.rest s 0)≤8
  ·have hx:Doc.lex (Doc.rest s 0)=(119,Doc.run 97 122 (Doc.rest s 0)):=by
    rw[hl] at h8 ⊢;simp only[Doc.lex,hL,if_true];rw[if_pos h8]
   rw[hx]
   exact measure_word s w h0 hL (fun w=>mWord s _ w hs rfl h8)
  ·have hx:Doc.lex (Doc.rest s 0)=(120,0):=by
    rw[hl] at h8 ⊢;simp only[Doc.lex,hL,if_true];rw[if_neg h8]
   rw[hx]
   exact measure_word s w h0 hL (fun w=>mWord_bad s _ w hs rfl (by show 8<Doc.run 97 122 (Doc.rest s 0);omega))
 have hL:Doc.isLetter s[0]=false:=by simpa using hL
 by_cases h2:(s[0].toNat:Int)=45
 ·have g45:(s[0]==45)=true:=by rw[f45];simpa using h2
  by_cases h7:Doc.run 48 57 (Doc.rest s 1)≠0∧Doc.run 48 57 (Doc.rest s 1)≤7
  ·have hx:Doc.lex (Doc.rest s 0)=(110,Doc.run 48 57 (Doc.rest s 1)+1):=by
    rw[hl];simp only[Doc.lex,hL,g45,if_true];rw[if_pos h7];simp
   rw[hx]
   have:=measure_minus s w h0 hL h2 (fun w=>mMinus s _ w hs h0 h2 rfl (by omega) h7.2)
   rw[show((Doc.run 48 57 (Doc.rest s 1)+1:Nat):Int)=1+(Doc.run 48 57 (Doc.rest s 1):Int) by omega]
   exact this
  ·have hx:Doc.lex (Doc.rest s 0)=(120,0):=by
    rw[hl];simp only[Doc.lex,hL,g45,if_true];rw[if_neg h7];simp
   rw[hx]
   by_cases h1:Doc.run 48 57 (Doc.rest s 1)=0
   ·exact measure_minus s w h0 hL h2 (fun w=>mMinus_none s w hs h0 h2 h1)
   ·exact measure_minus s w h0 hL h2 (fun w=>mMinus_long s _ w hs h0 h2 rfl (by omega))
 have g45:(s[0]==45)=false:=by rw[f45];simpa using h2
 have g45':((s[0].toNat:Int)==45)=false:=by rw[←f45];exact g45
 by_cases hD:Doc.isDigit s[0]=true
 ·have hd:Doc.run 48 57 (Doc.rest s 0)≠0:=by
   simp only[Doc.isDigit,Bool.and_eq_true,decide_eq_true_eq] at hD
   rw[hl,Doc.run_hit hD.1 hD.2];omega
  by_cases h7:Doc.run 48 57 (Doc.rest s 0)≤7
  ·have hx:Doc.lex (Doc.rest s 0)=(110,Doc.run 48 57 (Doc.rest s 0)):=by
    rw[hl] at h7 ⊢;simp only[Doc.lex,hL,g45,hD,if_true];rw[if_pos h7];simp
   rw[hx]
   exact measure_digit s w h0 hL g45' hD (fun w=>mPlain s _ w hs h0 g45' rfl (by show 0<Doc.run 48 57 (Doc.rest s 0);omega) h7)
  ·have hx:Doc.lex (Doc.rest s 0)=(120,0):=by
    rw[hl] at h7 ⊢;simp only[Doc.lex,hL,g45,hD,if_true];rw[if_neg h7];simp
   rw[hx]
   exact measure_digit s w h0 hL g45' hD (fun w=>mPlain_long s _ w hs h0 g45' rfl (by show 7<Doc.run 48 57 (Doc.rest s 0);omega))
 have hD:Doc.isDigit s[0]=false:=by simpa using hD
 by_cases h4:(s[0].toNat:Int)=34
 ·have g34:(s[0]==34)=true:=by rw[f34];simpa using h4
  by_cases h12:Doc.inside (Doc.rest s 1)<(Doc.rest s 1).length∧Doc.inside (Doc.rest s 1)≤12
  ·have hx:Doc.lex (Doc.rest s 0)=(115,Doc.inside (Doc.rest s 1)+2):=by
    rw[hl];simp only[Doc.lex,hL,g45,hD,g34,if_true];rw[if_pos h12];simp
   rw[hx]
   exact measure_quote s w h0 hL hD h4 (fun w=>mQuote s _ w hs h0 rfl (by omega) h12.2)
  ·have hx:Doc.lex (Doc.rest s 0)=(120,0):=by
    rw[hl];simp only[Doc.lex,hL,g45,hD,g34,if_true];rw[if_neg h12];simp
   rw[hx]
   by_cases he:Doc.inside (Doc.rest s 1)+1<s.size
   ·exact measure_quote s w h0 hL hD h4 (fun w=>mQuote_long s _ w hs h0 rfl he (by omega))
   ·exact measure_quote s w h0 hL hD h4 (fun w=>mQuote_open s _ w hs h0 rfl he)
 have g34:(s[0]==34)=false:=by rw[f34];simpa using h4
 refine(measure_sign s w hs h0 hsg hL hD g45' (by rw[←f34];exact g34)).mono ?_
 rintro e w' ⟨k,n,rfl,rfl,hcase⟩
 refine⟨?_,rfl⟩
 rcases hcase with⟨h1,rfl,rfl⟩|⟨h1,⟨_,h5⟩,rfl,rfl⟩|⟨h1,⟨_,h5⟩,rfl,rfl⟩
 ·have hx:Doc.lex (Doc.rest s 0)=(103,2):=by
   rw[hl] at h1 ⊢;simp[Doc.lex,hL,g45,hD,g34,h1]
  rw[hx];rfl
 ·have hx:Doc.lex (Doc.rest s 0)=(103,1):=by
   rw[hl] at h1 ⊢;simp[Doc.lex,hL,g45,hD,g34,h1,h5]
  rw[hx];rfl
 ·have hx:Doc.lex (Doc.rest s 0)=(120,0):=by
   rw[hl] at h1 ⊢;simp[Doc.lex,hL,g45,hD,g34,h1,h5]
  rw[hx];rfl
structure PTok where
 kind:Int
 text:ByteArray
 at_:Nat
def ptok (s:ByteArray)(a:Nat):PTok:=
 if Doc.past s a=s.size then ⟨0,ByteArray.empty,s.size⟩
 else if (Doc.lex (Doc.rest s (Doc.past s a))).1=120 then ⟨1,ByteArray.empty,Doc.past s a⟩
 else ⟨goKind (Doc.lex (Doc.rest s (Doc.past s a))).1,s.extract (Doc.past s a) (Doc.past s a+(Doc.lex (Doc.rest s (Doc.past s a))).2),Doc.past s a⟩
theorem goKind_wrong {k:UInt8}:(goKind k==1)=(k==120):=by
 unfold goKind
 by_cases h1:k=119
 ·subst h1;rfl
 by_cases h2:k=110
 ·subst h2;rfl
 by_cases h3:k=115
 ·subst h3;rfl
 by_cases h4:k=103
 ·subst h4;rfl
 by_cases h5:k=120
 ·subst h5;rfl
 ·rw[if_neg h1,if_neg h2,if_neg h3,if_neg h4,if_neg h5]
  symm;rw[beq_eq_false_iff_ne.2 h5];rfl
set_option maxHeartbeats 1000000 in
theorem tokenFrom_any (s:ByteArray)(a:Nat)(w:World)(hs:s.size≤140737488351232)(ha:a≤s.size)(hsg:Signs w)(h0:1<w.heap.size):
  Calls Tryz.prog 48 #[.string s,.int .i64 a] w fun e w'=>∃t,Hid (t=ptok s a)∧e=.returned (.agg #[.int .i64 t.kind,.string t.text,.int .i64 t.at_])∧Below w.heap.size w w':=by
 have HS:Hid (∀o,Signs (w.alloc o)):=fun o=>hsg.below ((Below.refl _ _).alloc (Nat.le_refl _) o) h0
 clear hsg
 go_enter Tryz.func48,Tryz.ntmps48
 go_wp2_with fail
 go_loop [5] (fun i=>∃j:Nat,a≤j∧j≤s.size∧i=.int .i64 j∧Hid (Doc.past s j=Doc.past s a)) (fun i=>s.size-(intOf i).toNat)
 case atStart=>exact⟨a,Nat.le_refl _,ha,rfl,by show _=_;rfl⟩
 case round=>
  obtain⟨j,hkj,hj,rfl,HJ⟩:=hrel
  by_cases hlt:j<s.size
  ·by_cases he:((s[j].toNat:Int)==32)=true
   ·have HJ2:Hid (Doc.past s (j+1)=Doc.past s a):=(past_on s j hlt he).symm.trans HJ.out
    clear HJ
    go_wp2_with fail
    go_round
    case rel=>exact⟨j+1,by omega,by omega,by go_num,HJ2⟩
    case measure=>simp[intOf];omega
   ·have he:((s[j].toNat:Int)==32)=false:=by simpa using he
    have HP:Hid (Doc.past s a=j):=HJ.out.symm.trans (past_here s j hlt he)
    have hne:((j:Int)==(s.size:Int))=false:=by rw[beq_eq_false_iff_ne];omega
    have HR:Hid (Doc.rest (s.extract j s.size) 0=Doc.rest s j):=by
     show _=_;simp[Doc.rest];rw[List.take_of_length_le (by simp)]
    have hz:(s.extract j s.size).size≤140737488351232:=by simp;omega
    have hz0:0<(s.extract j s.size).size:=by simp;omega
    obtain⟨c,r,hcr⟩:=Doc.rest_at s j hlt
    have hll:=Doc.lex_len c r
    have hrl:=Doc.len_rest s j
    rw[hcr,List.length_cons] at hrl
    obtain⟨q,HQ⟩:∃q:UInt8×Nat,Hid (q=Doc.lex (Doc.rest s j)):=⟨_,rfl⟩
    have hq:j+q.2≤s.size:=by rw[HQ.out,hcr];have:=hll.2.1;omega
    clear HJ hcr hll hrl
    by_cases hk:q.1=120
    ·have hk1:(goKind q.1==1)=true:=by rw[goKind_wrong,hk];rfl
     have HT:Hid ((⟨1,ByteArray.empty,j⟩:PTok)=ptok s a):=by
      show _=_;unfold ptok;rw[HP.out,if_neg (by omega),←HQ.out,if_pos hk]
     clear hk
     go_wp2_with (go_at_call 75;refine(measure_any (s.extract j s.size) _ hz hz0 (HS.out _)).mono ?_;rw[HR.out,←HQ.out];rintro e w' ⟨rfl,rfl⟩)
     exact bodyPost_ret (v:=.agg #[.int .i64 1,.string ByteArray.empty,.int .i64 j]) (by simp[results,Tryz.results48,go_sem];try rfl) rfl ⟨_,HT,rfl,(Below.refl _ _).alloc (Nat.le_refl _) _⟩
    ·have hk1:(goKind q.1==1)=false:=by rw[goKind_wrong];simpa using hk
     have HT:Hid ((⟨goKind q.1,s.extract j (j+q.2),j⟩:PTok)=ptok s a):=by
      show _=_;unfold ptok;rw[HP.out,if_neg (by omega),←HQ.out,if_neg hk]
     clear hk
     go_wp2_with (go_at_call 75;refine(measure_any (s.extract j s.size) _ hz hz0 (HS.out _)).mono ?_;rw[HR.out,←HQ.out];rintro e w' ⟨rfl,rfl⟩)
     exact bodyPost_ret (v:=.agg #[.int .i64 (goKind q.1),.string (s.extract j (j+q.2)),.int .i64 j]) (by simp[results,Tryz.results48,go_sem];try rfl) rfl ⟨_,HT,rfl,(Below.refl _ _).alloc (Nat.le_refl _) _⟩
  ·have hjs:j=s.size:=by omega
   subst hjs
   have HP:Hid (Doc.past s a=s.size):=HJ.out.symm.trans (past_stop s _ (Nat.le_refl _))
   have HT:Hid ((⟨0,ByteArray.empty,s.size⟩:PTok)=ptok s a):=by
    show _=_;unfold ptok;rw[if_pos HP.out]
   clear HJ
   go_wp2_with fail
   exact bodyPost_ret (v:=.agg #[.int .i64 0,.string ByteArray.empty,.int .i64 (s.size:Int)]) (by simp[results,Tryz.results48,go_sem];try rfl) rfl ⟨_,HT,rfl,(Below.refl _ _).alloc (Nat.le_refl _) _⟩
end Go.Proofs.YtbnelaoeblhndaaGreatDoor
