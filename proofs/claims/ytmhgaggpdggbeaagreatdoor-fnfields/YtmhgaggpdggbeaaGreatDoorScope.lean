import Derived.Test.YtmhgaggpdggbeaaGreatDoorOpF
import Derived.Test.YtmhgaggpdggbeaaGreatDoorSplit
import Derived.Test.YtmhgaggpdggbeaaGreatDoorRows
import Derived.WalkKit
import Derived.WalkMore
namespace Go.Proofs.YtmhgaggpdggbeaaGreatDoor
open Go.RowKit
set_option maxRecDepth 20000

theorem at_mem (s:ByteArray) (i:Nat) (hi:i<s.size):s[i] ∈ s.data.toList :=
 List.mem_iff_getElem.2 ⟨i,by simpa using hi,rfl⟩

theorem below_iter (w:World) (s:ByteArray) (pos:Nat):Below w.heap.size w (w.iter s pos) :=
 (Below.refl _ _).alloc (Nat.le_refl _) _

end Go.Proofs.YtmhgaggpdggbeaaGreatDoor

namespace Go.Proofs.YtmhgaggpdggbeaaGreatDoor
open Go.RowKit

def ltrI (n:Int):Bool:=decide ((97≤n∧n≤122) ∨ (65≤n∧n≤90) ∨ n=36)
def digI (n:Int):Bool:=decide (48≤n∧n≤57)

def nbI (n:Int) (first:Bool):Bool:=ltrI n || (!first && digI n)

set_option maxHeartbeats 1000000 in
theorem implDigit (n:Int) (w:World) (h:0≤n∧n≤255) :
  Calls Tryz.prog 145 #[.int .u8 n] w fun e w'=>e = .returned (.bool (digI n))∧w'=w:=by
 by_cases h1:48≤n
 ·have d1:decide (48≤n)=true:=by simpa using h1
  by_cases h2:n≤57
  ·have d2:decide (n≤57)=true:=by simpa using h2
   have HF:Hid (digI n=true):=by show digI n=true;unfold digI;simp;omega
   clear h h1 h2
   go_enter Tryz.func145,Tryz.ntmps145
   go_wp2
   go_ret
   exact⟨by rw [HF.out];rfl,rfl⟩
  ·have d2:decide (n≤57)=false:=by simp;omega
   have HF:Hid (digI n=false):=by show digI n=false;unfold digI;simp;omega
   clear h h1 h2
   go_enter Tryz.func145,Tryz.ntmps145
   go_wp2
   go_ret
   exact⟨by rw [HF.out];rfl,rfl⟩
 ·have d1:decide (48≤n)=false:=by simp;omega
  have HF:Hid (digI n=false):=by show digI n=false;unfold digI;simp;omega
  clear h h1
  go_enter Tryz.func145,Tryz.ntmps145
  go_wp2
  go_ret
  exact⟨by rw [HF.out];rfl,rfl⟩

theorem byte_facts (n:Int) (h:0≤n∧n≤255) :
  (∃ b c:Bool,digI n=b∧(n == 36)=c∧(ltrI n || digI n)=true∧ltrI n = !b∧((97≤n∧n≤122) ∨ (65≤n∧n≤90) ∨ (48≤n∧n≤57) ∨ n=36)) ∨
  (digI n=false∧(n == 36)=false∧ltrI n=false∧((0≤n∧n≤35) ∨ (37≤n∧n≤47) ∨ (58≤n∧n≤64) ∨ (91≤n∧n≤96) ∨ (123≤n∧n≤255))):=by
 by_cases hl:(97≤n∧n≤122) ∨ (65≤n∧n≤90) ∨ n=36
 ·left
  refine ⟨false,(n == 36),?_,rfl,?_,?_,by omega⟩
  ·unfold digI;simp;omega
  ·unfold ltrI;simp [hl]
  ·unfold ltrI;simp [hl]
 ·by_cases hd:48≤n∧n≤57
  ·left
   refine ⟨true,(n == 36),?_,rfl,?_,?_,by omega⟩
   ·unfold digI;simp [hd]
   ·unfold digI;simp [hd]
   ·unfold ltrI;simp [hl]
  ·right
   refine ⟨?_,?_,?_,by omega⟩
   ·unfold digI;simp;omega
   ·rw [beq_eq_false_iff_ne];omega
   ·unfold ltrI;simp [hl]

set_option maxHeartbeats 1000000 in
theorem implNameByte (n:Int) (w:World) (h:0≤n∧n≤255) :
  Calls Tryz.prog 146 #[.int .u8 n] w fun e w'=>e = .returned (.bool (ltrI n || digI n))∧w'=w:=by
 rcases byte_facts n h with ⟨b,c,hd,hc,ht,hq,hr⟩ | ⟨hd,hc,hl,hr⟩
 ·have HT:Hid (true=(ltrI n || digI n)):=ht.symm
  rcases hr with ⟨h1,h2⟩ | ⟨h1,h2⟩ | ⟨h1,h2⟩ | rfl
  ·clear ht hd hc hq
   go_enter Tryz.func146,Tryz.ntmps146
   go_wp2
   go_ret
   exact⟨congrArg (fun b=>Ending.returned (Value.bool b)) HT.out,rfl⟩
  ·clear ht hd hc hq
   go_enter Tryz.func146,Tryz.ntmps146
   go_wp2
   go_ret
   exact⟨congrArg (fun b=>Ending.returned (Value.bool b)) HT.out,rfl⟩
  ·have hd2:digI n=true:=by unfold digI;simp;omega
   clear ht hd hc hq
   go_enter Tryz.func146,Tryz.ntmps146
   go_wp2_with (go_at_call 145;refine (implDigit _ _ (by omega)).mono ?_;rintro e w1 ⟨rfl,rfl⟩)
   go_ret
   exact⟨congrArg (fun b=>Ending.returned (Value.bool b)) HT.out,rfl⟩
  ·have hd2:digI 36=false:=by decide
   clear ht hd hc hq
   go_enter Tryz.func146,Tryz.ntmps146
   go_wp2_with (go_at_call 145;refine (implDigit _ _ (by omega)).mono ?_;rintro e w1 ⟨rfl,rfl⟩)
   go_ret
   exact⟨congrArg (fun b=>Ending.returned (Value.bool b)) HT.out,rfl⟩
 ·have HT:Hid (false=(ltrI n || digI n)):=by show false=_;rw [hd,hl];rfl
  rcases hr with ⟨h1,h2⟩ | ⟨h1,h2⟩ | ⟨h1,h2⟩ | ⟨h1,h2⟩ | ⟨h1,h2⟩
  ·clear hl
   go_enter Tryz.func146,Tryz.ntmps146
   go_wp2_with (go_at_call 145;refine (implDigit _ _ (by omega)).mono ?_;rintro e w1 ⟨rfl,rfl⟩)
   go_ret
   exact⟨congrArg (fun b=>Ending.returned (Value.bool b)) HT.out,rfl⟩
  ·clear hl
   go_enter Tryz.func146,Tryz.ntmps146
   go_wp2_with (go_at_call 145;refine (implDigit _ _ (by omega)).mono ?_;rintro e w1 ⟨rfl,rfl⟩)
   go_ret
   exact⟨congrArg (fun b=>Ending.returned (Value.bool b)) HT.out,rfl⟩
  ·clear hl
   go_enter Tryz.func146,Tryz.ntmps146
   go_wp2_with (go_at_call 145;refine (implDigit _ _ (by omega)).mono ?_;rintro e w1 ⟨rfl,rfl⟩)
   go_ret
   exact⟨congrArg (fun b=>Ending.returned (Value.bool b)) HT.out,rfl⟩
  ·have d90:decide (n≤90)=false:=by simp;omega
   clear hl
   go_enter Tryz.func146,Tryz.ntmps146
   go_wp2_with (go_at_call 145;refine (implDigit _ _ (by omega)).mono ?_;rintro e w1 ⟨rfl,rfl⟩)
   go_ret
   exact⟨congrArg (fun b=>Ending.returned (Value.bool b)) HT.out,rfl⟩
  ·have d90:decide (n≤90)=false:=by simp;omega
   have d122:decide (n≤122)=false:=by simp;omega
   clear hl
   go_enter Tryz.func146,Tryz.ntmps146
   go_wp2_with (go_at_call 145;refine (implDigit _ _ (by omega)).mono ?_;rintro e w1 ⟨rfl,rfl⟩)
   go_ret
   exact⟨congrArg (fun b=>Ending.returned (Value.bool b)) HT.out,rfl⟩

set_option maxHeartbeats 1000000 in
theorem specNameByte (n:Int) (first:Bool) (w:World) (h:0≤n∧n≤255) :
  Calls Tryz.prog 116 #[.int .u8 n,.bool first] w fun e w'=>e = .returned (.bool (nbI n first))∧w'=w:=by
 by_cases hl:(97≤n∧n≤122) ∨ (65≤n∧n≤90) ∨ n=36
 ·have HT:Hid (true=nbI n first):=by show true=_;unfold nbI ltrI;simp [hl]
  rcases hl with ⟨h1,h2⟩ | ⟨h1,h2⟩ | rfl
  all_goals
   go_enter Tryz.func116,Tryz.ntmps116
   go_wp2
   go_ret
   exact⟨congrArg (fun b=>Ending.returned (Value.bool b)) HT.out,rfl⟩
 ·have hc:(n == 36)=false:=by rw [beq_eq_false_iff_ne];omega
  have hl2:ltrI n=false:=by unfold ltrI;simp [hl]
  by_cases hd:48≤n∧n≤57
  ·have hd2:digI n=true:=by unfold digI;simp [hd]
   obtain ⟨h1,h2⟩:=hd
   cases first
   ·have HT:Hid (true=nbI n false):=by show true=_;unfold nbI;rw [hl2,hd2];rfl
    clear hl hl2 hd2
    go_enter Tryz.func116,Tryz.ntmps116
    go_wp2
    go_ret
    exact⟨congrArg (fun b=>Ending.returned (Value.bool b)) HT.out,rfl⟩
   ·have HT:Hid (false=nbI n true):=by show false=_;unfold nbI;rw [hl2];rfl
    clear hl hl2 hd2
    go_enter Tryz.func116,Tryz.ntmps116
    go_wp2
    go_ret
    exact⟨congrArg (fun b=>Ending.returned (Value.bool b)) HT.out,rfl⟩
  ·have hd2:digI n=false:=by unfold digI;simp;omega
   have HT:Hid (false=nbI n first):=by show false=_;unfold nbI;rw [hl2,hd2];cases first<;>rfl
   have hr:(0≤n∧n≤35) ∨ (37≤n∧n≤47) ∨ (58≤n∧n≤64) ∨ (91≤n∧n≤96) ∨ (123≤n∧n≤255):=by omega
   clear hl hl2 hd hd2
   rcases hr with ⟨h1,h2⟩ | ⟨h1,h2⟩ | ⟨h1,h2⟩ | ⟨h1,h2⟩ | ⟨h1,h2⟩
   ·have e1:decide (48≤n)=false:=by simp;omega
    cases first
    all_goals
     go_enter Tryz.func116,Tryz.ntmps116
     go_wp2
     go_ret
     exact⟨congrArg (fun b=>Ending.returned (Value.bool b)) HT.out,rfl⟩
   ·have e1:decide (48≤n)=false:=by simp;omega
    cases first
    all_goals
     go_enter Tryz.func116,Tryz.ntmps116
     go_wp2
     go_ret
     exact⟨congrArg (fun b=>Ending.returned (Value.bool b)) HT.out,rfl⟩
   ·have e2:decide (n≤57)=false:=by simp;omega
    cases first
    all_goals
     go_enter Tryz.func116,Tryz.ntmps116
     go_wp2
     go_ret
     exact⟨congrArg (fun b=>Ending.returned (Value.bool b)) HT.out,rfl⟩
   ·have e2:decide (n≤57)=false:=by simp;omega
    have e3:decide (n≤90)=false:=by simp;omega
    cases first
    all_goals
     go_enter Tryz.func116,Tryz.ntmps116
     go_wp2
     go_ret
     exact⟨congrArg (fun b=>Ending.returned (Value.bool b)) HT.out,rfl⟩
   ·have e2:decide (n≤57)=false:=by simp;omega
    have e3:decide (n≤90)=false:=by simp;omega
    have e4:decide (n≤122)=false:=by simp;omega
    cases first
    all_goals
     go_enter Tryz.func116,Tryz.ntmps116
     go_wp2
     go_ret
     exact⟨congrArg (fun b=>Ending.returned (Value.bool b)) HT.out,rfl⟩
def nameB (s:ByteArray):Bool:=decide (1≤s.size∧s.size≤20∧∀ i,i<s.size→nbI (byt s i) (decide (i=0))=true)

theorem nameB_size (s:ByteArray) (h:¬ (1≤s.size∧s.size≤20)):nameB s=false:=by
 unfold nameB;rw [decide_eq_false_iff_not];intro hh;exact h ⟨hh.1,hh.2.1⟩
theorem nameB_at (s:ByteArray) (i:Nat) (hi:i<s.size) (h:nbI (byt s i) (decide (i=0))=false):nameB s=false:=by
 unfold nameB;rw [decide_eq_false_iff_not];intro hh;rw [hh.2.2 i hi] at h;cases h
theorem nameB_true (s:ByteArray) (h1:1≤s.size) (h2:s.size≤20) (h:∀ i,i<s.size→nbI (byt s i) (decide (i=0))=true):nameB s=true:=by
 unfold nameB;rw [decide_eq_true_eq];exact⟨h1,h2,h⟩

set_option maxHeartbeats 1000000 in
theorem specNameRight (s:ByteArray) (w:World) (hs:s.size≤maxLen) :
  Calls Tryz.prog 93 #[.string s] w fun e w'=>e = .returned (.bool (nameB s))∧w'=w:=by
 unfold maxLen at hs
 by_cases h1:s.size<1
 ·have HT:Hid (false=nameB s):=(nameB_size s (by omega)).symm
  have d1:decide ((s.size:Int)<1)=true:=by simp;omega
  clear h1
  go_enter Tryz.func93,Tryz.ntmps93
  go_wp2
  go_ret
  exact⟨congrArg (fun b=>Ending.returned (Value.bool b)) HT.out,rfl⟩
 ·have d1:decide ((s.size:Int)<1)=false:=by simp;omega
  by_cases h2:20<s.size
  ·have HT:Hid (false=nameB s):=(nameB_size s (by omega)).symm
   have d2:decide ((20:Int)<(s.size:Int))=true:=by simp;omega
   clear h1 h2
   go_enter Tryz.func93,Tryz.ntmps93
   go_wp2
   go_ret
   exact⟨congrArg (fun b=>Ending.returned (Value.bool b)) HT.out,rfl⟩
  ·have d2:decide ((20:Int)<(s.size:Int))=false:=by simp;omega
   have h1':1≤s.size:=by omega
   have h2':s.size≤20:=by omega
   clear h1 h2
   go_enter Tryz.func93,Tryz.ntmps93
   go_wp2_with fail
   go_loop [3] (fun j=>∃ m:Nat,m≤s.size∧j = .int .i64 (m:Int)∧∀ i,i<m→nbI (byt s i) (decide (i=0))=true) (fun j=>s.size - (intOf j).toNat)
   case atStart=>exact⟨0,Nat.zero_le _,rfl,fun i h=>by omega⟩
   case round =>
    obtain ⟨m,hm,rfl,hall⟩:=hrel
    have HA:Hid (∀ i,i<m→nbI (byt s i) (decide (i=0))=true):=hall
    clear hall
    by_cases hlt:m<s.size
    ·have hbd:=byt_bd s m
     have hby:=byt_eq s m hlt
     have hbq:(s[m].toNat:Int)≤255:=by omega
     have hb0:0≤(s[m].toNat:Int):=by omega
     have HE:Hid (nbI (s[m].toNat:Int) ((m:Int) == 0)=nbI (byt s m) (decide (m=0))):=by
      show _=_
      rw [hby]
      congr 1
      by_cases e:m=0
      ·simp [e]
      ·simp [e]
     clear hby hbd
     cases hn:nbI (byt s m) (decide (m=0))
     ·have HN:=HE.out.trans hn
      have HT:Hid (false=nameB s):=(nameB_at s m hlt hn).symm
      have HM:Hid (nbI (s[m].toNat:Int) ((m:Int) == 0)=false):=HN
      clear HN hn HE
      go_wp2_with fail
      refine (specNameByte _ _ _ (by omega)).mono ?_
      rintro e w1 ⟨rfl,rfl⟩
      rw [HM.out]
      go_wp2
      go_ret
      exact⟨congrArg (fun b=>Ending.returned (Value.bool b)) HT.out,rfl⟩
     ·have HM:Hid (nbI (s[m].toNat:Int) ((m:Int) == 0)=true):=HE.out.trans hn
      have HX:Hid (nbI (byt s m) (decide (m=0))=true):=hn
      clear hn HE
      go_wp2_with fail
      refine (specNameByte _ _ _ (by omega)).mono ?_
      rintro e w1 ⟨rfl,rfl⟩
      rw [HM.out]
      go_wp2
      exact⟨⟨m+1,by omega,by go_num,fun i hl=>by
       by_cases e:i=m
       ·rw [e];exact HX.out
       ·exact HA.out i (by omega)⟩,by simp [intOf];omega⟩
    ·have HT:Hid (true=nameB s):=(nameB_true s h1' h2' (fun i hi=>HA.out i (by omega))).symm
     go_wp2
     go_ret
     exact⟨congrArg (fun b=>Ending.returned (Value.bool b)) HT.out,rfl⟩
theorem ltr_ascii (n:Int) (h:(ltrI n || digI n)=true):n<128:=by
 unfold ltrI digI at h;simp at h;omega

theorem nb_same (s:ByteArray) (i:Nat) (h0:digI (byt s 0)=false):(ltrI (byt s i) || digI (byt s i))=nbI (byt s i) (decide (i=0)):=by
 unfold nbI
 by_cases e:i=0
 ·subst e;simp [h0]
 ·simp [e]

set_option maxHeartbeats 1000000 in
theorem implNameRight (s:ByteArray) (w:World) (hs:s.size≤maxLen) :
  Calls Tryz.prog 127 #[.string s] w fun e w'=>e = .returned (.bool (nameB s))∧Below w.heap.size w w':=by
 unfold maxLen at hs
 by_cases h1:s.size=0
 ·have HT:Hid (false=nameB s):=(nameB_size s (by omega)).symm
  have d1:((s.size:Int) == 0)=true:=by simp [h1]
  clear h1
  go_enter Tryz.func127,Tryz.ntmps127
  go_wp2
  go_ret
  exact⟨congrArg (fun b=>Ending.returned (Value.bool b)) HT.out,Below.refl _ _⟩
 ·have d1:((s.size:Int) == 0)=false:=by simp [h1]
  by_cases h2:20<s.size
  ·have HT:Hid (false=nameB s):=(nameB_size s (by omega)).symm
   have d2:decide ((20:Int)<(s.size:Int))=true:=by simp;omega
   clear h1 h2
   go_enter Tryz.func127,Tryz.ntmps127
   go_wp2
   go_ret
   exact⟨congrArg (fun b=>Ending.returned (Value.bool b)) HT.out,Below.refl _ _⟩
  ·have d2:decide ((20:Int)<(s.size:Int))=false:=by simp;omega
   have h1':0<s.size:=by omega
   have h1'':(0:Int)<(s.size:Int):=by omega
   have h2':s.size≤20:=by omega
   have hby0:=byt_eq s 0 h1'
   have hbd0:=byt_bd s 0
   have hq0:(s[0].toNat:Int)≤255:=by omega
   have hq1:0≤(s[0].toNat:Int):=by omega
   cases hd0:digI (byt s 0)
   ·have HD:Hid (digI (s[0].toNat:Int)=false):=by show _=_;rw [hby0,hd0]
    have HD0:Hid (digI (byt s 0)=false):=hd0
    clear h1 h2 hby0 hbd0 hd0
    go_enter Tryz.func127,Tryz.ntmps127
    go_wp2_with fail
    refine (implDigit _ _ (by omega)).mono ?_
    rintro e w1 ⟨rfl,rfl⟩
    rw [HD.out]
    go_wp2_with fail
    go_loopw [3] (fun _ w'=>∃ m:Nat,m≤s.size∧w'=w1.iter s m∧∀ i,i<m→nbI (byt s i) (decide (i=0))=true) (fun _ w'=>s.size - w'.iterPos w1.heap.size)
    case atStart=>exact⟨0,Nat.zero_le _,rfl,fun i h=>by omega⟩
    case round =>
     obtain ⟨m,hm,rfl,hall⟩:=hrel
     have HA:Hid (∀ i,i<m→nbI (byt s i) (decide (i=0))=true):=hall
     clear hall
     by_cases hlt:m<s.size
     ·have hbd:=byt_bd s m
      have hby:=byt_eq s m hlt
      have hbq:(s[m].toNat:Int)≤255:=by omega
      have hb0:0≤(s[m].toNat:Int):=by omega
      have HE:Hid ((ltrI (s[m].toNat:Int) || digI (s[m].toNat:Int))=nbI (byt s m) (decide (m=0))):=by
       show _=_
       rw [hby]
       exact nb_same s m HD0.out
      clear hby hbd
      cases hn:nbI (byt s m) (decide (m=0))
      ·have HT:Hid (false=nameB s):=(nameB_at s m hlt hn).symm
       have HM:Hid ((ltrI (s[m].toNat:Int) || digI (s[m].toNat:Int))=false):=HE.out.trans hn
       have hnx:∀ ty,(Instr.next (.pointer (some ⟨w1.heap.size,0,none⟩)) true ty).run Tryz.prog (w1.iter s m)=_:=fun ty=>run_next_any w1 s m ty hlt
       clear hn HE
       go_wp2_with fail
       refine (implNameByte _ _ (by omega)).mono ?_
       rintro e w2 ⟨rfl,rfl⟩
       rw [HM.out]
       go_wp2
       go_ret
       exact⟨congrArg (fun b=>Ending.returned (Value.bool b)) HT.out,below_iter _ _ _⟩
      ·have HM:Hid ((ltrI (s[m].toNat:Int) || digI (s[m].toNat:Int))=true):=HE.out.trans hn
       have HX:Hid (nbI (byt s m) (decide (m=0))=true):=hn
       have hasc:=ltr_ascii _ HM.out
       have hnx:∀ ty,(Instr.next (.pointer (some ⟨w1.heap.size,0,none⟩)) true ty).run Tryz.prog (w1.iter s m)=_:=fun ty=>run_next_ascii w1 s m ty hlt (by omega)
       clear hn HE hasc
       go_wp2_with fail
       refine (implNameByte _ _ (by omega)).mono ?_
       rintro e w2 ⟨rfl,rfl⟩
       rw [HM.out]
       go_wp2
       go_roundw
       case rel =>
        exact⟨m+1,by omega,rfl,fun i hl=>by
         by_cases e:i=m
         ·rw [e];exact HX.out
         ·exact HA.out i (by omega)⟩
       case measure=>simp;omega
     ·have HT:Hid (true=nameB s):=(nameB_true s (by omega) h2' (fun i hi=>HA.out i (by omega))).symm
      have hnx:∀ ty,(Instr.next (.pointer (some ⟨w1.heap.size,0,none⟩)) true ty).run Tryz.prog (w1.iter s m)=_:=fun ty=>run_next_end w1 s m ty hlt
      go_wp2
      go_ret
      exact⟨congrArg (fun b=>Ending.returned (Value.bool b)) HT.out,below_iter _ _ _⟩
   ·have HT:Hid (false=nameB s):=by
     show false=nameB s
     refine (nameB_at s 0 h1' ?_).symm
     have:ltrI (byt s 0)=false:=by
      have h:=hd0
      unfold digI at h;unfold ltrI;simp at h ⊢;omega
     unfold nbI;simp [this]
    have HD:Hid (digI (s[0].toNat:Int)=true):=by show _=_;rw [hby0,hd0]
    clear h1 h2 hby0 hbd0 hd0
    go_enter Tryz.func127,Tryz.ntmps127
    go_wp2_with fail
    refine (implDigit _ _ (by omega)).mono ?_
    rintro e w1 ⟨rfl,rfl⟩
    rw [HD.out]
    go_wp2
    go_ret
    exact⟨congrArg (fun b=>Ending.returned (Value.bool b)) HT.out,Below.refl _ _⟩
end Go.Proofs.YtmhgaggpdggbeaaGreatDoor

namespace Go.Proofs.YtmhgaggpdggbeaaGreatDoor
open Go.RowKit

def jumps (J:Nat→Act→World→Prop) (Q:Exit→Act→World→Prop):Exit→Act→World→Prop
 | .goto l,a,w=>J l a w
 | e,a,w=>Q e a w

theorem wp_scope_labels {P:Program} {Q:Exit→Act→World→Prop} {a:Act} {w:World} {c:Code}
  (J:Nat→Act→World→Prop) (μ:Nat→Act→World→Nat)
  (first:c.wp P (jumps J Q) a w)
  (pass:∀ l a w,J l a w→∃ rest,findLabel c l=some rest∧rest.wp P (jumps (fun l' a' w'=>J l' a' w'∧μ l' a' w'<μ l a w) Q) a w) :
  (Code.scope c).wp P Q a w:=by
 intro b k cs
 have at_:∀ n l a w,μ l a w=n→J l a w→∃ rest,findLabel c l=some rest ∧
   ∃ e a' w',Q e a' w'∧Arrives P (lone (b.at a (.code rest :: .inScope c :: k)) cs w) b k cs e a' w':=by
  intro n
  induction n using Nat.strongRecOn with
  | _ n ih =>
   intro l a w hn hJ
   obtain ⟨rest,hf,hp⟩:=pass l a w hJ
   refine ⟨rest,hf,?_⟩
   obtain ⟨e,a₁,w₁,hq,harr⟩:=hp b (.inScope c :: k) cs
   cases e with
   | normal=>exact⟨.normal,a₁,w₁,hq,Steps.trans harr (.one step_inScope)⟩
   | exit id=>exact⟨.exit id,a₁,w₁,hq,fun k' hk=>harr k' (by simp [exitTo,hk])⟩
   | goto l' =>
    obtain ⟨hJ',hlt⟩:=hq
    obtain ⟨rest',hf',e₂,a₂,w₂,hq₂,harr₂⟩:=ih _ (by omega) l' a₁ w₁ rfl hJ'
    exact⟨e₂,a₂,w₂,hq₂,.of_steps (harr _ (by simp [gotoIn,hf'])) harr₂⟩
   | ret=>exact⟨_,a₁,w₁,hq,harr⟩
   | panic ch=>exact⟨_,a₁,w₁,hq,harr⟩
   | outgrown=>exact⟨_,a₁,w₁,hq,harr⟩
 obtain ⟨e,a₁,w₁,hq,harr⟩:=first b (.inScope c :: k) cs
 cases e with
 | normal=>exact⟨.normal,a₁,w₁,hq,.head step_scope (Steps.trans harr (.one step_inScope))⟩
 | exit id=>exact⟨.exit id,a₁,w₁,hq,fun k' hk=>.head step_scope (harr k' (by simp [exitTo,hk]))⟩
 | goto l' =>
  obtain ⟨rest',hf',e₂,a₂,w₂,hq₂,harr₂⟩:=at_ _ l' a₁ w₁ rfl hq
  exact⟨e₂,a₂,w₂,hq₂,.of_steps (.head step_scope (harr _ (by simp [gotoIn,hf']))) harr₂⟩
 | ret=>exact⟨_,a₁,w₁,hq,.of_steps (.one step_scope) harr⟩
 | panic ch=>exact⟨_,a₁,w₁,hq,.of_steps (.one step_scope) harr⟩
 | outgrown=>exact⟨_,a₁,w₁,hq,.of_steps (.one step_scope) harr⟩

theorem jumps_ret {J:Nat→Act→World→Prop} {Q:Exit→Act→World→Prop} {a:Act} {w:World}:jumps J Q .ret a w=Q .ret a w:=rfl

theorem wp_scope_labels2 {P:Program} {Q:Exit→Act→World→Prop} {a:Act} {w:World} {c:Code}
  (J:Nat→Act→World→Prop) (μ:Nat→Act→World→Nat)
  (pass:∀ l a w,J l a w→∃ rest,findLabel c l=some (Code.skip.seq rest)∧rest.wp P (jumps (fun l' a' w'=>J l' a' w'∧μ l' a' w'<μ l a w) Q) a w)
  (first:(∀ l a w rest,findLabel c l=some (Code.skip.seq rest)→J l a w→rest.wp P (jumps J Q) a w)→c.wp P (jumps J Q) a w) :
  (Code.scope c).wp P Q a w:=by
 refine wp_scope_labels J μ (first fun l a w rest hf hJ=>?_) (fun l a w hJ=>?_)
 ·obtain ⟨rest',hf',hp⟩:=pass l a w hJ
  have e:=Option.some.inj (hf'.symm.trans hf)
  injection e with e1 e2
  subst e2
  refine Code.wp_mono (fun e a' w' h=>?_) hp
  cases e<;>first | exact h | exact h.1
 ·obtain ⟨rest',hf',hp⟩:=pass l a w hJ
  exact⟨_,hf',wp_seq (wp_skip hp)⟩

theorem peel {us:List Value} {n:Nat} (h:us.length=n+1):∃ x t,us=x :: t∧t.length=n:=by
 cases us with
 | nil=>cases h
 | cons x t=>exact⟨x,t,rfl,by simpa using h⟩

end Go.Proofs.YtmhgaggpdggbeaaGreatDoor
