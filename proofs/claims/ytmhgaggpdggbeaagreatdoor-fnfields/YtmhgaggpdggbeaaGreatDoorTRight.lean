import Derived.Test.YtmhgaggpdggbeaaGreatDoorScope
namespace Go.Proofs.YtmhgaggpdggbeaaGreatDoor
open Go.RowKit
set_option maxRecDepth 20000
set_option linter.unusedVariables false

theorem byt_out (s:ByteArray) (i:Nat) (h:s.size≤i):byt s i=0:=by
 unfold byt
 have:s.data.toList[i]?=none:=List.getElem?_eq_none (by simpa using h)
 simp [List.getD,this]

def nmRun (s:ByteArray) (frm:Nat):Nat→Nat→Nat
 | 0,i=>i
 | k+1,i=>if nbI (byt s i) (decide (i=frm))=true then nmRun s frm k (i+1) else i

def tyR (s:ByteArray) (frm k i:Nat):Bool × Nat:=if byt s (nmRun s frm k i)=59 then (true,nmRun s frm k i+1) else (false,nmRun s frm k i)
def tyL (s:ByteArray) (frm:Nat):Bool × Nat:=if nbI (byt s frm) true=true then tyR s frm 19 (frm+1) else (false,frm)
def tyO (s:ByteArray) (i:Nat):Bool × Nat:=if byt s i=73 then (true,i+1) else if byt s i=76 then tyL s (i+1) else (false,i)
def tyE (s:ByteArray) (i:Nat):Bool × Nat:=if byt s i=91 then tyO s (i+1) else tyO s i

theorem byt_in (s:ByteArray) (i:Nat) (h:byt s i ≠ 0):i<s.size:=by
 rcases Nat.lt_or_ge i s.size with h1 | h1
 ·exact h1
 ·exact absurd (byt_out s i h1) h

theorem nb_in (s:ByteArray) (i:Nat) (f:Bool) (h:nbI (byt s i) f=true):i<s.size:=by
 refine byt_in s i fun h0=>?_
 rw [h0] at h
 cases f<;>revert h<;>decide

theorem nmRun_le (s:ByteArray) (frm k i:Nat) (h:i≤s.size):nmRun s frm k i≤s.size:=by
 induction k generalizing i with
 | zero=>exact h
 | succ k ih =>
  unfold nmRun
  split
  ·rename_i hb;exact ih _ (nb_in s i _ hb)
  ·exact h

theorem nmRun_ge (s:ByteArray) (frm k i:Nat):i≤nmRun s frm k i:=by
 induction k generalizing i with
 | zero=>exact Nat.le_refl _
 | succ k ih =>
  unfold nmRun
  split
  ·exact Nat.le_trans (Nat.le_succ i) (ih _)
  ·exact Nat.le_refl _

set_option maxHeartbeats 1000000 in
theorem implByteAt (s:ByteArray) (i:Nat) (w:World) (hs:s.size≤maxLen) (hi:i≤s.size) :
  Calls Tryz.prog 164 #[.string s,.int .i64 (i:Int)] w fun e w'=>e = .returned (.int .u8 (byt s i))∧w'=w:=by
 unfold maxLen at hs
 by_cases h:i<s.size
 ·have d:decide ((s.size:Int)≤(i:Int))=false:=by simp;omega
  have HT:Hid ((s[i].toNat:Int)=byt s i):=byt_eq s i h
  go_enter Tryz.func164,Tryz.ntmps164
  go_wp2
  go_ret
  exact⟨congrArg (fun b=>Ending.returned (Value.int .u8 b)) HT.out,rfl⟩
 ·have d:decide ((s.size:Int)≤(i:Int))=true:=by simp;omega
  have HT:Hid (0=byt s i):=(byt_out s i (by omega)).symm
  go_enter Tryz.func164,Tryz.ntmps164
  go_wp2
  go_ret
  exact⟨congrArg (fun b=>Ending.returned (Value.int .u8 b)) HT.out,rfl⟩
theorem tyL_alt (s:ByteArray) (f m:Nat) (hm:nmRun s f 20 f=m):tyL s f=if byt s m=59∧m ≠ f then (true,m+1) else (false,m):=by
 subst hm
 unfold tyL tyR
 have e:nmRun s f 20 f=if nbI (byt s f) (decide (f=f))=true then nmRun s f 19 (f+1) else f:=by rw [nmRun]
 rw [e]
 simp only [decide_true]
 by_cases h:nbI (byt s f) true=true
 ·have hg:=nmRun_ge s f 19 (f+1)
  simp only [if_pos h]
  have hne:nmRun s f 19 (f+1) ≠ f:=by omega
  simp [hne]
 ·simp [h]

theorem nmRun_on (s:ByteArray) (f k m:Nat) (h:nbI (byt s m) (decide (m=f))=true):nmRun s f (k+1) m=nmRun s f k (m+1):=by
 rw [nmRun,if_pos h]
theorem nmRun_off (s:ByteArray) (f k m:Nat) (h:nbI (byt s m) (decide (m=f))=false):nmRun s f k m=m:=by
 cases k with
 | zero=>rfl
 | succ k=>rw [nmRun,if_neg (by simp [h])]

def tyV (r:Bool × Nat):Value:=.tuple #[.int .i64 (r.2:Int),.bool r.1]

set_option maxHeartbeats 1000000 in
theorem specTypeO (s:ByteArray) (i:Nat) (list:Bool) (w:World) (hs:s.size≤maxLen) (hi:i≤s.size) (hl:byt s i=91→list=true) :
  Calls Tryz.prog 117 #[.string s,.int .i64 (i:Int),.bool list] w fun e w'=>e = .returned (tyV (tyO s i))∧w'=w:=by
 unfold maxLen at hs
 by_cases hlt:i<s.size
 ·have d0:decide ((s.size:Int)≤(i:Int))=false:=by simp;omega
  have hb:=byt_eq s i hlt
  by_cases h1:byt s i=73
  ·have d1:((s[i].toNat:Int) == 73)=true:=by rw [hb,h1];rfl
   have HT:Hid (tyO s i=(true,i+1)):=by show _=_;unfold tyO;rw [if_pos h1]
   clear hb h1 hl
   go_enter Tryz.func117,Tryz.ntmps117
   go_wp2
   go_ret2
   exact⟨congrArg Ending.returned (by rw [HT.out];rfl),rfl⟩
  ·have d1:((s[i].toNat:Int) == 73)=false:=by rw [hb,beq_eq_false_iff_ne];exact h1
   by_cases h2:byt s i=76
   ·have d2:((s[i].toNat:Int) == 76)=true:=by rw [hb,h2];rfl
    have d3:((s[i].toNat:Int) == 91)=false:=by rw [hb,h2];rfl
    have HT:Hid (tyO s i=tyL s (i+1)):=by show _=_;unfold tyO;rw [if_neg h1,if_pos h2]
    have hd0:decide (s.size≤i)=false:=by simp;omega
    clear hb h1 h2 hl
    go_enter Tryz.func117,Tryz.ntmps117
    go_wp2_with fail
    go_loop [9] (fun j=>∃ m:Nat,i+1≤m∧m≤s.size∧m≤i+21∧j = .int .i64 (m:Int)∧nmRun s (i+1) (i+21 - m) m=nmRun s (i+1) 20 (i+1)) (fun j=>s.size - (intOf j).toNat)
    case atStart=>exact⟨i+1,by omega,by omega,by omega,by go_num,by rw [show i+21 - (i+1)=20 by omega]⟩
    case round =>
     obtain ⟨m,hm1,hm2,hm3,rfl,hrun⟩:=hrel
     have HR:Hid (nmRun s (i+1) (i+21 - m) m=nmRun s (i+1) 20 (i+1)):=hrun
     clear hrun
     by_cases hms:m<s.size
     ·have hby:=byt_eq s m hms
      have hbd:=byt_bd s m
      have hbq:(s[m].toNat:Int)≤255:=by omega
      have hb0:0≤(s[m].toNat:Int):=by omega
      by_cases hm20:m<i+21
      ·have dd:decide ((m:Int) - ((i:Int)+1)<20)=true:=by simp;omega
       have HE:Hid (nbI (s[m].toNat:Int) ((m:Int) == (i:Int)+1)=nbI (byt s m) (decide (m=i+1))):=by
        show _=_
        rw [hby]
        congr 1
        by_cases e:m=i+1
        ·subst e;simp
        ·have:¬ ((m:Int)=(i:Int)+1):=by omega
         simp [e,this]
       cases hn:nbI (byt s m) (decide (m=i+1))
       ·have HM:Hid (nbI (s[m].toNat:Int) ((m:Int) == (i:Int)+1)=false):=HE.out.trans hn
        have HX:Hid (nmRun s (i+1) 20 (i+1)=m):=by show _=_;rw [← HR.out];exact nmRun_off _ _ _ _ hn
        have dA:((m:Int) == (s.size:Int))=false:=by rw [beq_eq_false_iff_ne];omega
        by_cases h59:byt s m=59
        ·have dB:((s[m].toNat:Int) == 59)=true:=by rw [hby,h59];rfl
         have dB':((s[m].toNat:Int) != 59)=false:=by rw [hby,h59];rfl
         by_cases hf:m=i+1
         ·have dC:((m:Int) == (i:Int)+1)=true:=by rw [beq_iff_eq];omega
          have HM2:Hid (nbI (s[m].toNat:Int) true=false):=by show _=_;rw [← dC];exact HM.out
          have HF:Hid (tyV (tyO s i) = .tuple #[.int .i64 (m:Int),.bool false]):=by
           show _=_
           rw [HT.out,tyL_alt s (i+1) m HX.out,if_neg (fun h=>h.2 hf)];rfl
          clear hn HE hby hbd h59 hf
          go_wp2_with fail
          refine (specNameByte _ _ _ (by omega)).mono ?_
          rintro e w1 ⟨rfl,rfl⟩
          rw [HM2.out]
          go_wp2
          go_ret2
          exact⟨congrArg Ending.returned HF.out.symm,rfl⟩
         ·have dC:((m:Int) == (i:Int)+1)=false:=by rw [beq_eq_false_iff_ne];omega
          have HM2:Hid (nbI (s[m].toNat:Int) false=false):=by show _=_;have h:=HM.out;rw [dC] at h;exact h
          have HF:Hid (tyV (tyO s i) = .tuple #[.int .i64 ((m:Int)+1),.bool true]):=by
           show _=_
           rw [HT.out,tyL_alt s (i+1) m HX.out,if_pos ⟨h59,hf⟩];rfl
          clear hn HE hby hbd h59 hf
          go_wp2_with fail
          refine (specNameByte _ _ _ (by omega)).mono ?_
          rintro e w1 ⟨rfl,rfl⟩
          rw [HM2.out]
          go_wp2
          go_ret2
          exact⟨congrArg Ending.returned HF.out.symm,rfl⟩
        ·have dB:((s[m].toNat:Int) == 59)=false:=by rw [hby,beq_eq_false_iff_ne];exact h59
         have dB':((s[m].toNat:Int) != 59)=true:=by simp [dB,bne]
         have HF:Hid (tyV (tyO s i) = .tuple #[.int .i64 (m:Int),.bool false]):=by
          show _=_
          rw [HT.out,tyL_alt s (i+1) m HX.out,if_neg (fun h=>h59 h.1)];rfl
         clear hn HE hby hbd h59
         go_wp2_with fail
         refine (specNameByte _ _ _ (by omega)).mono ?_
         rintro e w1 ⟨rfl,rfl⟩
         rw [HM.out]
         go_wp2
         go_ret2
         exact⟨congrArg Ending.returned HF.out.symm,rfl⟩
       ·have HM:Hid (nbI (s[m].toNat:Int) ((m:Int) == (i:Int)+1)=true):=HE.out.trans hn
        have HX:Hid (nmRun s (i+1) (i+21 - (m+1)) (m+1)=nmRun s (i+1) 20 (i+1)):=by
         show _=_
         rw [← HR.out,show i+21 - m=(i+21 - (m+1))+1 by omega]
         exact (nmRun_on _ _ _ _ hn).symm
        clear hn HE hby hbd
        go_wp2_with fail
        refine (specNameByte _ _ _ (by omega)).mono ?_
        rintro e w1 ⟨rfl,rfl⟩
        rw [HM.out]
        go_wp2
        go_round
        case rel=>exact⟨m+1,by omega,by omega,by omega,by go_num,HX.out⟩
        case measure=>simp [intOf];omega
      ·have dd:decide ((m:Int) - ((i:Int)+1)<20)=false:=by simp;omega
       have HX:Hid (nmRun s (i+1) 20 (i+1)=m):=by
        show _=_
        rw [← HR.out,show i+21 - m=0 by omega];rfl
       have dA:((m:Int) == (s.size:Int))=false:=by rw [beq_eq_false_iff_ne];omega
       by_cases h59:byt s m=59
       ·have dB:((s[m].toNat:Int) == 59)=true:=by rw [hby,h59];rfl
        have dB':((s[m].toNat:Int) != 59)=false:=by rw [hby,h59];rfl
        by_cases hf:m=i+1
        ·have dC:((m:Int) == (i:Int)+1)=true:=by rw [beq_iff_eq];omega
         have HF:Hid (tyV (tyO s i) = .tuple #[.int .i64 (m:Int),.bool false]):=by
          show _=_
          rw [HT.out,tyL_alt s (i+1) m HX.out,if_neg (fun h=>h.2 hf)];rfl
         clear hby hbd h59 hf
         go_wp2
         go_ret2
         exact⟨congrArg Ending.returned HF.out.symm,rfl⟩
        ·have dC:((m:Int) == (i:Int)+1)=false:=by rw [beq_eq_false_iff_ne];omega
         have HF:Hid (tyV (tyO s i) = .tuple #[.int .i64 ((m:Int)+1),.bool true]):=by
          show _=_
          rw [HT.out,tyL_alt s (i+1) m HX.out,if_pos ⟨h59,hf⟩];rfl
         clear hby hbd h59 hf
         go_wp2
         go_ret2
         exact⟨congrArg Ending.returned HF.out.symm,rfl⟩
       ·have dB:((s[m].toNat:Int) == 59)=false:=by rw [hby,beq_eq_false_iff_ne];exact h59
        have dB':((s[m].toNat:Int) != 59)=true:=by simp [dB,bne]
        have HF:Hid (tyV (tyO s i) = .tuple #[.int .i64 (m:Int),.bool false]):=by
         show _=_
         rw [HT.out,tyL_alt s (i+1) m HX.out,if_neg (fun h=>h59 h.1)];rfl
        clear hby hbd h59
        go_wp2
        go_ret2
        exact⟨congrArg Ending.returned HF.out.symm,rfl⟩
     ·have dA:((m:Int) == (s.size:Int))=true:=by rw [beq_iff_eq];omega
      have HX:Hid (nmRun s (i+1) 20 (i+1)=m):=by
       show _=_
       rw [← HR.out]
       refine nmRun_off _ _ _ _ ?_
       cases hq:nbI (byt s m) (decide (m=i+1))
       ·rfl
       ·exact absurd (nb_in s m _ hq) hms
      have HF:Hid (tyV (tyO s i) = .tuple #[.int .i64 (m:Int),.bool false]):=by
       show _=_
       have h0:=byt_out s m (by omega)
       rw [HT.out,tyL_alt s (i+1) m HX.out,if_neg (fun h=>by rw [h0] at h;exact absurd h.1 (by decide))];rfl
      go_wp2
      go_ret2
      exact⟨congrArg Ending.returned HF.out.symm,rfl⟩
   ·have d2:((s[i].toNat:Int) == 76)=false:=by rw [hb,beq_eq_false_iff_ne];exact h2
    have HT:Hid (tyO s i=(false,i)):=by show _=_;unfold tyO;rw [if_neg h1,if_neg h2]
    by_cases h3:byt s i=91
    ·have d3:((s[i].toNat:Int) == 91)=true:=by rw [hb,h3];rfl
     obtain rfl:=hl h3
     clear hb h1 h2 h3 hl
     go_enter Tryz.func117,Tryz.ntmps117
     go_wp2
     go_ret2
     exact⟨congrArg Ending.returned (by rw [HT.out];rfl),rfl⟩
    ·have d3:((s[i].toNat:Int) == 91)=false:=by rw [hb,beq_eq_false_iff_ne];exact h3
     clear hb h1 h2 h3 hl
     go_enter Tryz.func117,Tryz.ntmps117
     go_wp2
     go_ret2
     exact⟨congrArg Ending.returned (by rw [HT.out];rfl),rfl⟩
 ·have d0:decide ((s.size:Int)≤(i:Int))=true:=by simp;omega
  have HT:Hid (tyO s i=(false,i)):=by
   show _=_
   have h0:=byt_out s i (by omega)
   unfold tyO;rw [h0];rfl
  clear hl
  go_enter Tryz.func117,Tryz.ntmps117
  go_wp2
  go_ret2
  exact⟨congrArg Ending.returned (by rw [HT.out];rfl),rfl⟩
end Go.Proofs.YtmhgaggpdggbeaaGreatDoor

namespace Go.Proofs.YtmhgaggpdggbeaaGreatDoor
open Go.RowKit
set_option linter.unusedVariables false

set_option maxHeartbeats 1000000 in
theorem specTypeE (s:ByteArray) (i:Nat) (w:World) (hs:s.size≤maxLen) (hi:i≤s.size) :
  Calls Tryz.prog 117 #[.string s,.int .i64 (i:Int),.bool false] w fun e w'=>e = .returned (tyV (tyE s i))∧w'=w:=by
 by_cases h1:byt s i=91
 ·have hlt:i<s.size:=byt_in s i (by rw [h1];decide)
  have hm:=hs
  unfold maxLen at hs
  have d0:decide ((s.size:Int)≤(i:Int))=false:=by simp;omega
  have hb:=byt_eq s i hlt
  have d1:((s[i].toNat:Int) == 73)=false:=by rw [hb,h1];rfl
  have d2:((s[i].toNat:Int) == 91)=true:=by rw [hb,h1];rfl
  have HT:Hid (tyE s i=tyO s (i+1)):=by show _=_;unfold tyE;rw [if_pos h1]
  clear hb h1
  go_enter Tryz.func117,Tryz.ntmps117
  go_wp2_with fail
  refine (specTypeO s (i+1) true _ hm (by omega) (fun _=>rfl)).mono ?_
  rintro e w1 ⟨rfl,rfl⟩
  unfold tyV
  go_wp2
  go_ret2
  exact⟨congrArg Ending.returned (by rw [HT.out];rfl),rfl⟩
 ·have e:tyE s i=tyO s i:=by unfold tyE;rw [if_neg h1]
  rw [e]
  exact specTypeO s i false w hs hi (fun h=>absurd h h1)
def teFr (s:ByteArray) (i f:Nat) (a:Act):Prop :=
 a.defers=[]∧a.tmps.size=57∧a.tmps.getD 0 undef = .string s∧a.tmps.getD 1 undef = .int .i64 (i:Int)∧a.tmps.getD 6 undef = .int .i64 (f:Int)

theorem teFr_open {s:ByteArray} {i f:Nat} {a:Act} (h:teFr s i f a):∃ u2 u3 u4 u5 u7 u8 u9 u10 u11 u12 u13 u14 u15 u16 u17 u18 u19 u20 u21 u22 u23 u24 u25 u26 u27 u28 u29 u30 u31 u32 u33 u34 u35 u36 u37 u38 u39 u40 u41 u42 u43 u44 u45 u46 u47 u48 u49 u50 u51 u52 u53 u54 u55 u56:Value,a = { tmps:=#[(.string s),(.int .i64 (i:Int)),u2,u3,u4,u5,(.int .i64 (f:Int)),u7,u8,u9,u10,u11,u12,u13,u14,u15,u16,u17,u18,u19,u20,u21,u22,u23,u24,u25,u26,u27,u28,u29,u30,u31,u32,u33,u34,u35,u36,u37,u38,u39,u40,u41,u42,u43,u44,u45,u46,u47,u48,u49,u50,u51,u52,u53,u54,u55,u56],defers:=[] }:=by
 obtain ⟨⟨us⟩,ds⟩:=a
 obtain ⟨h1,h2,g0,g1,g6⟩:=h
 have k0:us.length=57:=h2
 clear h2
 cases h1
 obtain ⟨x0,us0,rfl,k1⟩:=peel k0
 obtain ⟨x1,us1,rfl,k2⟩:=peel k1
 obtain ⟨u2,us2,rfl,k3⟩:=peel k2
 obtain ⟨u3,us3,rfl,k4⟩:=peel k3
 obtain ⟨u4,us4,rfl,k5⟩:=peel k4
 obtain ⟨u5,us5,rfl,k6⟩:=peel k5
 obtain ⟨x6,us6,rfl,k7⟩:=peel k6
 obtain ⟨u7,us7,rfl,k8⟩:=peel k7
 obtain ⟨u8,us8,rfl,k9⟩:=peel k8
 obtain ⟨u9,us9,rfl,k10⟩:=peel k9
 obtain ⟨u10,us10,rfl,k11⟩:=peel k10
 obtain ⟨u11,us11,rfl,k12⟩:=peel k11
 obtain ⟨u12,us12,rfl,k13⟩:=peel k12
 obtain ⟨u13,us13,rfl,k14⟩:=peel k13
 obtain ⟨u14,us14,rfl,k15⟩:=peel k14
 obtain ⟨u15,us15,rfl,k16⟩:=peel k15
 obtain ⟨u16,us16,rfl,k17⟩:=peel k16
 obtain ⟨u17,us17,rfl,k18⟩:=peel k17
 obtain ⟨u18,us18,rfl,k19⟩:=peel k18
 obtain ⟨u19,us19,rfl,k20⟩:=peel k19
 obtain ⟨u20,us20,rfl,k21⟩:=peel k20
 obtain ⟨u21,us21,rfl,k22⟩:=peel k21
 obtain ⟨u22,us22,rfl,k23⟩:=peel k22
 obtain ⟨u23,us23,rfl,k24⟩:=peel k23
 obtain ⟨u24,us24,rfl,k25⟩:=peel k24
 obtain ⟨u25,us25,rfl,k26⟩:=peel k25
 obtain ⟨u26,us26,rfl,k27⟩:=peel k26
 obtain ⟨u27,us27,rfl,k28⟩:=peel k27
 obtain ⟨u28,us28,rfl,k29⟩:=peel k28
 obtain ⟨u29,us29,rfl,k30⟩:=peel k29
 obtain ⟨u30,us30,rfl,k31⟩:=peel k30
 obtain ⟨u31,us31,rfl,k32⟩:=peel k31
 obtain ⟨u32,us32,rfl,k33⟩:=peel k32
 obtain ⟨u33,us33,rfl,k34⟩:=peel k33
 obtain ⟨u34,us34,rfl,k35⟩:=peel k34
 obtain ⟨u35,us35,rfl,k36⟩:=peel k35
 obtain ⟨u36,us36,rfl,k37⟩:=peel k36
 obtain ⟨u37,us37,rfl,k38⟩:=peel k37
 obtain ⟨u38,us38,rfl,k39⟩:=peel k38
 obtain ⟨u39,us39,rfl,k40⟩:=peel k39
 obtain ⟨u40,us40,rfl,k41⟩:=peel k40
 obtain ⟨u41,us41,rfl,k42⟩:=peel k41
 obtain ⟨u42,us42,rfl,k43⟩:=peel k42
 obtain ⟨u43,us43,rfl,k44⟩:=peel k43
 obtain ⟨u44,us44,rfl,k45⟩:=peel k44
 obtain ⟨u45,us45,rfl,k46⟩:=peel k45
 obtain ⟨u46,us46,rfl,k47⟩:=peel k46
 obtain ⟨u47,us47,rfl,k48⟩:=peel k47
 obtain ⟨u48,us48,rfl,k49⟩:=peel k48
 obtain ⟨u49,us49,rfl,k50⟩:=peel k49
 obtain ⟨u50,us50,rfl,k51⟩:=peel k50
 obtain ⟨u51,us51,rfl,k52⟩:=peel k51
 obtain ⟨u52,us52,rfl,k53⟩:=peel k52
 obtain ⟨u53,us53,rfl,k54⟩:=peel k53
 obtain ⟨u54,us54,rfl,k55⟩:=peel k54
 obtain ⟨u55,us55,rfl,k56⟩:=peel k55
 obtain ⟨u56,us56,rfl,k57⟩:=peel k56
 obtain rfl:=List.length_eq_zero_iff.1 k57
 obtain rfl:x0 = .string s:=g0
 obtain rfl:x1 = .int .i64 (i:Int):=g1
 obtain rfl:x6 = .int .i64 (f:Int):=g6
 exact⟨u2,u3,u4,u5,u7,u8,u9,u10,u11,u12,u13,u14,u15,u16,u17,u18,u19,u20,u21,u22,u23,u24,u25,u26,u27,u28,u29,u30,u31,u32,u33,u34,u35,u36,u37,u38,u39,u40,u41,u42,u43,u44,u45,u46,u47,u48,u49,u50,u51,u52,u53,u54,u55,u56,rfl⟩

def teJ (s:ByteArray) (r:Bool × Nat) (l:Nat) (a:Act):Prop :=
 (l=0∧∃ i f,teFr s i f a∧i<s.size∧r=(true,i+1)) ∨
 (l=1∧∃ i,teFr s i i a∧i≤s.size∧r=tyL s i) ∨
 (l=2∧∃ i f,teFr s i f a∧i≤s.size∧r=(false,i)) ∨
 (l=3∧∃ i f,teFr s i f a∧f<i∧i≤f+20∧i≤s.size∧r=tyR s f (f+20 - i) i)

def teM (l:Nat) (a:Act):Nat :=
 if l=1 then 100 else if l=3 then 1+((intOf (a.tmps.getD 6 undef)).toNat+20 - (intOf (a.tmps.getD 1 undef)).toNat) else 0

def teV (r:Bool × Nat):Value:=.tuple #[.int .i64 (if r.1=true then (r.2:Int) else 0),if r.1=true then .nilIface else .iface 189 (.agg #[.int .i64 (r.2:Int)])]

theorem tyR_semi (s:ByteArray) (f k i:Nat) (h:byt s i=59):tyR s f k i=(true,i+1):=by
 have hn:nbI (byt s i) (decide (i=f))=false:=by rw [h];cases decide (i=f)<;>decide
 unfold tyR;rw [nmRun_off s f k i hn,if_pos h]
theorem nb_behind (s:ByteArray) (f i:Nat) (h:f<i):nbI (byt s i) (decide (i=f))=(ltrI (byt s i) || digI (byt s i)):=by
 unfold nbI;simp [show ¬ i=f by omega]
theorem tyR_on (s:ByteArray) (f k i:Nat) (hf:f<i) (h:(ltrI (byt s i) || digI (byt s i))=true):tyR s f (k+1) i=tyR s f k (i+1):=by
 unfold tyR;rw [nmRun_on s f k i (by rw [nb_behind s f i hf];exact h)]
theorem tyR_off (s:ByteArray) (f k i:Nat) (hf:f<i) (h:(ltrI (byt s i) || digI (byt s i))=false) (h2:byt s i ≠ 59):tyR s f k i=(false,i):=by
 unfold tyR;rw [nmRun_off s f k i (by rw [nb_behind s f i hf];exact h),if_neg h2]
theorem tyR_none (s:ByteArray) (f i:Nat) (h2:byt s i ≠ 59):tyR s f 0 i=(false,i):=by
 unfold tyR nmRun;rw [if_neg h2]
theorem tyL_no (s:ByteArray) (f:Nat) (h:ltrI (byt s f)=false):tyL s f=(false,f):=by
 unfold tyL nbI;simp [h]
theorem tyL_on (s:ByteArray) (f:Nat) (h:ltrI (byt s f)=true):tyL s f=tyR s f 19 (f+1):=by
 unfold tyL nbI;simp [h]
theorem dig_ltr (n:Int) (h:digI n=true):ltrI n=false:=by
 unfold digI at h;unfold ltrI;simp at h ⊢;omega
theorem teM_01 (a b:Act):teM 0 a<teM 1 b:=by simp [teM]
theorem teM_21 (a b:Act):teM 2 a<teM 1 b:=by simp [teM]
theorem teM_03 (a b:Act):teM 0 a<teM 3 b:=by simp [teM];omega
theorem teV_ok (k:Nat):teV (true,k+1) = .tuple #[.int .i64 ((k:Int)+1),.nilIface]:=rfl
theorem teV_yes (k:Nat):teV (true,k) = .tuple #[.int .i64 (k:Int),.nilIface]:=rfl
theorem teV_no (k:Nat):teV (false,k) = .tuple #[.int .i64 0,.iface 189 (.agg #[.int .i64 (k:Int)])]:=rfl

set_option maxHeartbeats 4000000 in
theorem implTypeEnd (s:ByteArray) (i:Nat) (w:World) (hs:s.size≤maxLen) (hi:i≤s.size) :
  Calls Tryz.prog 154 #[.string s,.int .i64 (i:Int)] w fun e w'=>e = .returned (teV (tyE s i))∧w'=w:=by
 have hm:=hs
 unfold maxLen at hs
 go_enter Tryz.func154,Tryz.ntmps154
 go_wp2_with fail
 refine wp_scope_labels (fun l a' w'=>w'=w∧teJ s (tyE s i) l a') (fun l a' _=>teM l a') ?_ ?_
 ·by_cases h91:byt s i=91
  ·have d0:(byt s i == 91)=true:=by rw [h91];rfl
   have hlt0:i<s.size:=byt_in s _ (by rw [h91];decide)
   have HE:Hid (tyE s i=tyO s (i+1)):=by show _=_;unfold tyE;rw [if_pos h91]
   clear h91
   have hbA:=byt_bd s (i+1)
   by_cases h73:byt s (i+1)=73
   ·have d1:(byt s (i+1) == 73)=true:=by rw [h73];rfl
    have hlt:i+1<s.size:=byt_in s _ (by rw [h73];decide)
    have HF:Hid (tyE s i=(true,i+1+1)):=HE.out.trans (by unfold tyO;rw [if_pos h73])
    clear h73 HE
    go_wp2_with fail
    refine (implByteAt s (i) _ hm (by omega)).mono ?_
    rintro e w1 ⟨rfl,hw1⟩;subst hw1
    go_wp2_with fail
    refine (implByteAt s (i+1) _ hm (by omega)).mono ?_
    rintro e w1 ⟨rfl,hw1⟩;subst hw1
    go_wp2_with fail
    go_step3
    show _=_∧teJ _ _ _ _
    exact⟨rfl,.inl ⟨rfl,i+1,0,⟨rfl,rfl,rfl,by go_num,by go_num⟩,hlt,HF.out⟩⟩
   ·have d1:(byt s (i+1) == 73)=false:=by rw [beq_eq_false_iff_ne];exact h73
    by_cases h76:byt s (i+1)=76
    ·have d2:(byt s (i+1) == 76)=true:=by rw [h76];rfl
     have hlt:i+1<s.size:=byt_in s _ (by rw [h76];decide)
     have HF:Hid (tyE s i=tyL s (i+1+1)):=HE.out.trans (by unfold tyO;rw [if_neg h73,if_pos h76])
     clear h73 h76 HE
     go_wp2_with fail
     refine (implByteAt s (i) _ hm (by omega)).mono ?_
     rintro e w1 ⟨rfl,hw1⟩;subst hw1
     go_wp2_with fail
     refine (implByteAt s (i+1) _ hm (by omega)).mono ?_
     rintro e w1 ⟨rfl,hw1⟩;subst hw1
     go_wp2_with fail
     go_step3
     show _=_∧teJ _ _ _ _
     exact⟨rfl,.inr (.inl ⟨rfl,i+1+1,⟨rfl,rfl,rfl,by go_num,by go_num⟩,by omega,HF.out⟩)⟩
    ·have d2:(byt s (i+1) == 76)=false:=by rw [beq_eq_false_iff_ne];exact h76
     have HF:Hid (tyE s i=(false,i+1)):=HE.out.trans (by unfold tyO;rw [if_neg h73,if_neg h76])
     clear h73 h76 HE
     go_wp2_with fail
     refine (implByteAt s (i) _ hm (by omega)).mono ?_
     rintro e w1 ⟨rfl,hw1⟩;subst hw1
     go_wp2_with fail
     refine (implByteAt s (i+1) _ hm (by omega)).mono ?_
     rintro e w1 ⟨rfl,hw1⟩;subst hw1
     go_wp2_with fail
     go_step3
     show _=_∧teJ _ _ _ _
     exact⟨rfl,.inr (.inr (.inl ⟨rfl,i+1,0,⟨rfl,rfl,rfl,by go_num,by go_num⟩,by omega,HF.out⟩))⟩
  ·have d0:(byt s i == 91)=false:=by rw [beq_eq_false_iff_ne];exact h91
   have HE:Hid (tyE s i=tyO s i):=by show _=_;unfold tyE;rw [if_neg h91]
   clear h91
   have hbA:=byt_bd s (i)
   by_cases h73:byt s (i)=73
   ·have d1:(byt s (i) == 73)=true:=by rw [h73];rfl
    have hlt:i<s.size:=byt_in s _ (by rw [h73];decide)
    have HF:Hid (tyE s i=(true,i+1)):=HE.out.trans (by unfold tyO;rw [if_pos h73])
    clear h73 HE
    go_wp2_with fail
    refine (implByteAt s (i) _ hm (by omega)).mono ?_
    rintro e w1 ⟨rfl,hw1⟩;subst hw1
    go_wp2_with fail
    refine (implByteAt s (i) _ hm (by omega)).mono ?_
    rintro e w1 ⟨rfl,hw1⟩;subst hw1
    go_wp2_with fail
    go_step3
    show _=_∧teJ _ _ _ _
    exact⟨rfl,.inl ⟨rfl,i,0,⟨rfl,rfl,rfl,by go_num,by go_num⟩,hlt,HF.out⟩⟩
   ·have d1:(byt s (i) == 73)=false:=by rw [beq_eq_false_iff_ne];exact h73
    by_cases h76:byt s (i)=76
    ·have d2:(byt s (i) == 76)=true:=by rw [h76];rfl
     have hlt:i<s.size:=byt_in s _ (by rw [h76];decide)
     have HF:Hid (tyE s i=tyL s (i+1)):=HE.out.trans (by unfold tyO;rw [if_neg h73,if_pos h76])
     clear h73 h76 HE
     go_wp2_with fail
     refine (implByteAt s (i) _ hm (by omega)).mono ?_
     rintro e w1 ⟨rfl,hw1⟩;subst hw1
     go_wp2_with fail
     refine (implByteAt s (i) _ hm (by omega)).mono ?_
     rintro e w1 ⟨rfl,hw1⟩;subst hw1
     go_wp2_with fail
     go_step3
     show _=_∧teJ _ _ _ _
     exact⟨rfl,.inr (.inl ⟨rfl,i+1,⟨rfl,rfl,rfl,by go_num,by go_num⟩,by omega,HF.out⟩)⟩
    ·have d2:(byt s (i) == 76)=false:=by rw [beq_eq_false_iff_ne];exact h76
     have HF:Hid (tyE s i=(false,i)):=HE.out.trans (by unfold tyO;rw [if_neg h73,if_neg h76])
     clear h73 h76 HE
     go_wp2_with fail
     refine (implByteAt s (i) _ hm (by omega)).mono ?_
     rintro e w1 ⟨rfl,hw1⟩;subst hw1
     go_wp2_with fail
     refine (implByteAt s (i) _ hm (by omega)).mono ?_
     rintro e w1 ⟨rfl,hw1⟩;subst hw1
     go_wp2_with fail
     go_step3
     show _=_∧teJ _ _ _ _
     exact⟨rfl,.inr (.inr (.inl ⟨rfl,i,0,⟨rfl,rfl,rfl,by go_num,by go_num⟩,by omega,HF.out⟩))⟩
 ·rintro l a' w' ⟨hww,hJ⟩
  subst hww
  rcases hJ with ⟨rfl,k,f,hf,hk,hr⟩ | ⟨rfl,k,hf,hk,hr⟩ | ⟨rfl,k,f,hf,hk,hr⟩ | ⟨rfl,k,f,hf,h1,h2,h3,hr⟩
  ·obtain ⟨_,_,_,_,_,_,_,_,_,_,_,_,_,_,_,_,_,_,_,_,_,_,_,_,_,_,_,_,_,_,_,_,_,_,_,_,_,_,_,_,_,_,_,_,_,_,_,_,_,_,_,_,_,_,rfl⟩:=teFr_open hf
   refine ⟨_,rfl,?_⟩
   have HF:Hid (teV (tyE s i)=teV (true,k+1)):=congrArg teV hr
   clear hr
   go_wp2
   rw [jumps_ret]
   go_ret2
   exact⟨congrArg Ending.returned (HF.out.trans (teV_ok _)).symm,rfl⟩
  ·obtain ⟨_,_,_,_,_,_,_,_,_,_,_,_,_,_,_,_,_,_,_,_,_,_,_,_,_,_,_,_,_,_,_,_,_,_,_,_,_,_,_,_,_,_,_,_,_,_,_,_,_,_,_,_,_,_,rfl⟩:=teFr_open hf
   refine ⟨_,rfl,?_⟩
   have hbd:=byt_bd s k
   cases hd:digI (byt s k)
   ·cases hl:ltrI (byt s k)
    ·have HF:Hid (tyE s i=(false,k)):=hr.trans (tyL_no s k hl)
     have HD:Hid (digI (byt s k)=false):=hd
     have HN:Hid ((ltrI (byt s k) || digI (byt s k))=false):=by show _=_;rw [hd,hl];rfl
     clear hd hl hr
     go_wp2_with fail
     refine (implByteAt s (k) _ hm (by omega)).mono ?_
     rintro e w1 ⟨rfl,hw1⟩;subst hw1
     go_wp2_with fail
     refine (implDigit _ _ (by omega)).mono ?_
     rintro e w1 ⟨rfl,hw1⟩;subst hw1
     rw [HD.out]
     go_wp2_with fail
     refine (implByteAt s (k) _ hm (by omega)).mono ?_
     rintro e w1 ⟨rfl,hw1⟩;subst hw1
     go_wp2_with fail
     refine (implNameByte _ _ (by omega)).mono ?_
     rintro e w1 ⟨rfl,hw1⟩;subst hw1
     rw [HN.out]
     go_wp2_with fail
     go_step3
     show (_=_∧teJ _ _ _ _)∧_<_
     exact⟨⟨rfl,.inr (.inr (.inl ⟨rfl,k,k,⟨rfl,rfl,rfl,by go_num,by go_num⟩,by omega,HF.out⟩))⟩,teM_21 _ _⟩
    ·have hlt:k<s.size:=nb_in s _ true (by unfold nbI;simp [hl])
     have HR:Hid (tyE s i=tyR s k 19 (k+1)):=hr.trans (tyL_on s k hl)
     have HD:Hid (digI (byt s k)=false):=hd
     have HN:Hid ((ltrI (byt s k) || digI (byt s k))=true):=by show _=_;rw [hl];rfl
     clear hd hl hr
     have hbI:=byt_bd s (k+1)
     by_cases h59:byt s (k+1)=59
     ·have dd:(byt s (k+1) == 59)=true:=by rw [h59];rfl
      have hlt:k+1<s.size:=byt_in s _ (by rw [h59];decide)
      have HF:Hid (tyE s i=(true,k+1+1)):=HR.out.trans (tyR_semi s _ _ _ h59)
      clear h59 HR
      go_wp2_with fail
      refine (implByteAt s (k) _ hm (by omega)).mono ?_
      rintro e w1 ⟨rfl,hw1⟩;subst hw1
      go_wp2_with fail
      refine (implDigit _ _ (by omega)).mono ?_
      rintro e w1 ⟨rfl,hw1⟩;subst hw1
      rw [HD.out]
      go_wp2_with fail
      refine (implByteAt s (k) _ hm (by omega)).mono ?_
      rintro e w1 ⟨rfl,hw1⟩;subst hw1
      go_wp2_with fail
      refine (implNameByte _ _ (by omega)).mono ?_
      rintro e w1 ⟨rfl,hw1⟩;subst hw1
      rw [HN.out]
      go_wp2_with fail
      go_step3
      go_wp2_with fail
      refine (implByteAt s (k+1) _ hm (by omega)).mono ?_
      rintro e w1 ⟨rfl,hw1⟩;subst hw1
      go_wp2_with fail
      go_step3
      show (_=_∧teJ _ _ _ _)∧_<_
      exact⟨⟨rfl,.inl ⟨rfl,k+1,k,⟨rfl,rfl,rfl,by go_num,by go_num⟩,hlt,HF.out⟩⟩,teM_01 _ _⟩
     ·have dd:(byt s (k+1) == 59)=false:=by rw [beq_eq_false_iff_ne];exact h59
      by_cases hlim:k+1<k+20
      ·have dl:decide (((k+1:Nat):Int) - (k:Int)<20)=true:=by simp;omega
       have dl2:((k+1:Nat):Int) - (k:Int)<20:=by omega
       cases hn:(ltrI (byt s (k+1)) || digI (byt s (k+1)))
       ·have HF:Hid (teV (tyE s i)=teV (false,k+1)):=congrArg teV (HR.out.trans (tyR_off s _ _ _ (by omega) hn h59))
        have HM:Hid ((ltrI (byt s (k+1)) || digI (byt s (k+1)))=false):=hn
        clear h59 HR hn
        go_wp2_with fail
        refine (implByteAt s (k) _ hm (by omega)).mono ?_
        rintro e w1 ⟨rfl,hw1⟩;subst hw1
        go_wp2_with fail
        refine (implDigit _ _ (by omega)).mono ?_
        rintro e w1 ⟨rfl,hw1⟩;subst hw1
        rw [HD.out]
        go_wp2_with fail
        refine (implByteAt s (k) _ hm (by omega)).mono ?_
        rintro e w1 ⟨rfl,hw1⟩;subst hw1
        go_wp2_with fail
        refine (implNameByte _ _ (by omega)).mono ?_
        rintro e w1 ⟨rfl,hw1⟩;subst hw1
        rw [HN.out]
        go_wp2_with fail
        go_step3
        go_wp2_with fail
        refine (implByteAt s (k+1) _ hm (by omega)).mono ?_
        rintro e w1 ⟨rfl,hw1⟩;subst hw1
        go_wp2_with fail
        refine (implByteAt s (k+1) _ hm (by omega)).mono ?_
        rintro e w1 ⟨rfl,hw1⟩;subst hw1
        go_wp2_with fail
        refine (implNameByte _ _ (by omega)).mono ?_
        rintro e w1 ⟨rfl,hw1⟩;subst hw1
        rw [HM.out]
        go_wp2_with fail
        go_step3
        go_wp2
        rw [jumps_ret]
        go_ret2
        exact⟨congrArg Ending.returned (HF.out.trans (teV_no _)).symm,rfl⟩
       ·have hlt:k+1<s.size:=nb_in s _ false (by unfold nbI;simpa using hn)
        have HF:Hid (tyE s i=tyR s (k) (k+20 - (k+1+1)) (k+1+1)):=by
         show _=_
         rw [HR.out,show 19=(k+20 - (k+1+1))+1 by omega]
         exact tyR_on s _ _ _ (by omega) hn
        have HM:Hid ((ltrI (byt s (k+1)) || digI (byt s (k+1)))=true):=hn
        clear h59 HR hn
        go_wp2_with fail
        refine (implByteAt s (k) _ hm (by omega)).mono ?_
        rintro e w1 ⟨rfl,hw1⟩;subst hw1
        go_wp2_with fail
        refine (implDigit _ _ (by omega)).mono ?_
        rintro e w1 ⟨rfl,hw1⟩;subst hw1
        rw [HD.out]
        go_wp2_with fail
        refine (implByteAt s (k) _ hm (by omega)).mono ?_
        rintro e w1 ⟨rfl,hw1⟩;subst hw1
        go_wp2_with fail
        refine (implNameByte _ _ (by omega)).mono ?_
        rintro e w1 ⟨rfl,hw1⟩;subst hw1
        rw [HN.out]
        go_wp2_with fail
        go_step3
        go_wp2_with fail
        refine (implByteAt s (k+1) _ hm (by omega)).mono ?_
        rintro e w1 ⟨rfl,hw1⟩;subst hw1
        go_wp2_with fail
        refine (implByteAt s (k+1) _ hm (by omega)).mono ?_
        rintro e w1 ⟨rfl,hw1⟩;subst hw1
        go_wp2_with fail
        refine (implNameByte _ _ (by omega)).mono ?_
        rintro e w1 ⟨rfl,hw1⟩;subst hw1
        rw [HM.out]
        go_wp2_with fail
        go_step3
        show (_=_∧teJ _ _ _ _)∧_<_
        exact⟨⟨rfl,.inr (.inr (.inr ⟨rfl,k+1+1,k,⟨rfl,rfl,rfl,by go_num,by go_num⟩,by omega,by omega,by omega,HF.out⟩))⟩,by simp [teM,intOf];omega⟩
      ·exact absurd (by omega) hlim
   ·have HF:Hid (tyE s i=(false,k)):=hr.trans (tyL_no s k (dig_ltr _ hd))
    have HD:Hid (digI (byt s k)=true):=hd
    clear hd hr
    go_wp2_with fail
    refine (implByteAt s (k) _ hm (by omega)).mono ?_
    rintro e w1 ⟨rfl,hw1⟩;subst hw1
    go_wp2_with fail
    refine (implDigit _ _ (by omega)).mono ?_
    rintro e w1 ⟨rfl,hw1⟩;subst hw1
    rw [HD.out]
    go_wp2_with fail
    go_step3
    show (_=_∧teJ _ _ _ _)∧_<_
    exact⟨⟨rfl,.inr (.inr (.inl ⟨rfl,k,k,⟨rfl,rfl,rfl,by go_num,by go_num⟩,by omega,HF.out⟩))⟩,teM_21 _ _⟩
  ·obtain ⟨_,_,_,_,_,_,_,_,_,_,_,_,_,_,_,_,_,_,_,_,_,_,_,_,_,_,_,_,_,_,_,_,_,_,_,_,_,_,_,_,_,_,_,_,_,_,_,_,_,_,_,_,_,_,rfl⟩:=teFr_open hf
   refine ⟨_,rfl,?_⟩
   have HF:Hid (teV (tyE s i)=teV (false,k)):=congrArg teV hr
   clear hr
   go_wp2
   rw [jumps_ret]
   go_ret2
   exact⟨congrArg Ending.returned (HF.out.trans (teV_no _)).symm,rfl⟩
  ·obtain ⟨_,_,_,_,_,_,_,_,_,_,_,_,_,_,_,_,_,_,_,_,_,_,_,_,_,_,_,_,_,_,_,_,_,_,_,_,_,_,_,_,_,_,_,_,_,_,_,_,_,_,_,_,_,_,rfl⟩:=teFr_open hf
   refine ⟨_,rfl,?_⟩
   have HR:Hid (tyE s i=tyR s f (f+20 - k) k):=hr
   clear hr
   have hbI:=byt_bd s (k)
   by_cases h59:byt s (k)=59
   ·have dd:(byt s (k) == 59)=true:=by rw [h59];rfl
    have hlt:k<s.size:=byt_in s _ (by rw [h59];decide)
    have HF:Hid (tyE s i=(true,k+1)):=HR.out.trans (tyR_semi s _ _ _ h59)
    clear h59 HR
    go_wp2_with fail
    refine (implByteAt s (k) _ hm (by omega)).mono ?_
    rintro e w1 ⟨rfl,hw1⟩;subst hw1
    go_wp2_with fail
    go_step3
    show (_=_∧teJ _ _ _ _)∧_<_
    exact⟨⟨rfl,.inl ⟨rfl,k,f,⟨rfl,rfl,rfl,by go_num,by go_num⟩,hlt,HF.out⟩⟩,teM_03 _ _⟩
   ·have dd:(byt s (k) == 59)=false:=by rw [beq_eq_false_iff_ne];exact h59
    by_cases hlim:k<f+20
    ·have dl:decide (((k:Nat):Int) - (f:Int)<20)=true:=by simp;omega
     have dl2:((k:Nat):Int) - (f:Int)<20:=by omega
     cases hn:(ltrI (byt s (k)) || digI (byt s (k)))
     ·have HF:Hid (teV (tyE s i)=teV (false,k)):=congrArg teV (HR.out.trans (tyR_off s _ _ _ (by omega) hn h59))
      have HM:Hid ((ltrI (byt s (k)) || digI (byt s (k)))=false):=hn
      clear h59 HR hn
      go_wp2_with fail
      refine (implByteAt s (k) _ hm (by omega)).mono ?_
      rintro e w1 ⟨rfl,hw1⟩;subst hw1
      go_wp2_with fail
      refine (implByteAt s (k) _ hm (by omega)).mono ?_
      rintro e w1 ⟨rfl,hw1⟩;subst hw1
      go_wp2_with fail
      refine (implNameByte _ _ (by omega)).mono ?_
      rintro e w1 ⟨rfl,hw1⟩;subst hw1
      rw [HM.out]
      go_wp2_with fail
      go_step3
      go_wp2
      rw [jumps_ret]
      go_ret2
      exact⟨congrArg Ending.returned (HF.out.trans (teV_no _)).symm,rfl⟩
     ·have hlt:k<s.size:=nb_in s _ false (by unfold nbI;simpa using hn)
      have HF:Hid (tyE s i=tyR s (f) (f+20 - (k+1)) (k+1)):=by
       show _=_
       rw [HR.out,show f+20 - k=(f+20 - (k+1))+1 by omega]
       exact tyR_on s _ _ _ (by omega) hn
      have HM:Hid ((ltrI (byt s (k)) || digI (byt s (k)))=true):=hn
      clear h59 HR hn
      go_wp2_with fail
      refine (implByteAt s (k) _ hm (by omega)).mono ?_
      rintro e w1 ⟨rfl,hw1⟩;subst hw1
      go_wp2_with fail
      refine (implByteAt s (k) _ hm (by omega)).mono ?_
      rintro e w1 ⟨rfl,hw1⟩;subst hw1
      go_wp2_with fail
      refine (implNameByte _ _ (by omega)).mono ?_
      rintro e w1 ⟨rfl,hw1⟩;subst hw1
      rw [HM.out]
      go_wp2_with fail
      go_step3
      show (_=_∧teJ _ _ _ _)∧_<_
      exact⟨⟨rfl,.inr (.inr (.inr ⟨rfl,k+1,f,⟨rfl,rfl,rfl,by go_num,by go_num⟩,by omega,by omega,by omega,HF.out⟩))⟩,by simp [teM,intOf];omega⟩
    ·have dl:decide (((k:Nat):Int) - (f:Int)<20)=false:=by simp;omega
     have dl2:¬ ((k:Nat):Int) - (f:Int)<20:=by omega
     have HF:Hid (teV (tyE s i)=teV (false,k)):=by
      show _=_
      rw [HR.out,show f+20 - k=0 by omega,tyR_none s _ _ h59]
     clear h59 HR
     go_wp2_with fail
     refine (implByteAt s (k) _ hm (by omega)).mono ?_
     rintro e w1 ⟨rfl,hw1⟩;subst hw1
     go_wp2_with fail
     go_step3
     go_wp2
     rw [jumps_ret]
     go_ret2
     exact⟨congrArg Ending.returned (HF.out.trans (teV_no _)).symm,rfl⟩
end Go.Proofs.YtmhgaggpdggbeaaGreatDoor

namespace Go.Proofs.YtmhgaggpdggbeaaGreatDoor
open Go.RowKit
set_option linter.unusedVariables false

def tyB (s:ByteArray):Bool:=(tyE s 0).1 && decide ((tyE s 0).2=s.size)

theorem nmRun_far (s:ByteArray) (f k i:Nat):nmRun s f k i≤i+k:=by
 induction k generalizing i with
 | zero=>exact Nat.le_refl _
 | succ k ih =>
  unfold nmRun
  split
  ·have:=ih (i+1);omega
  ·omega
theorem tyL_far (s:ByteArray) (f:Nat):(tyL s f).2≤f+21:=by
 unfold tyL tyR
 have:=nmRun_far s f 19 (f+1)
 split
 ·split<;>simp<;>omega
 ·simp
theorem tyO_far (s:ByteArray) (i:Nat):(tyO s i).2≤i+22:=by
 unfold tyO
 have:=tyL_far s (i+1)
 split
 ·simp
 ·split
  ·omega
  ·simp
theorem tyE_far (s:ByteArray) (i:Nat):(tyE s i).2≤i+23:=by
 unfold tyE
 have h1:=tyO_far s i
 have h2:=tyO_far s (i+1)
 split<;>omega

theorem tyB_size (s:ByteArray) (h:tyB s=true):s.size≤23:=by
 unfold tyB at h
 simp at h
 have:=tyE_far s 0
 omega

set_option maxHeartbeats 1000000 in
theorem specTypeRight (s:ByteArray) (w:World) (hs:s.size≤maxLen) :
  Calls Tryz.prog 94 #[.string s] w fun e w'=>e = .returned (.bool (tyB s))∧w'=w:=by
 have hm:=hs
 unfold maxLen at hs
 by_cases hbig:20000<s.size
 ·have d0:decide ((20000:Int)<(s.size:Int))=true:=by simp;omega
  have HT:Hid (false=tyB s):=by
   show false=tyB s
   cases h:tyB s
   ·rfl
   ·have:=tyB_size s h;omega
  go_enter Tryz.func94,Tryz.ntmps94
  go_wp2
  go_ret
  exact⟨congrArg (fun b=>Ending.returned (Value.bool b)) HT.out,rfl⟩
 ·have d0:decide ((20000:Int)<(s.size:Int))=false:=by simp;omega
  have hc:=specTypeE s 0
  have HC:Hid (∀ (w:World),s.size≤maxLen→0≤s.size→Calls Tryz.prog 117 #[.string s,.int .i64 0,.bool false] w fun e w'=>e = .returned (tyV (tyE s 0))∧w'=w):=hc
  clear hc
  unfold tyB
  generalize tyE s 0=r at *
  obtain ⟨b,n⟩:=r
  cases b
  ·go_enter Tryz.func94,Tryz.ntmps94
   go_wp2_with fail
   refine (HC.out _ hm (Nat.zero_le _)).mono ?_
   rintro e w1 ⟨rfl,rfl⟩
   unfold tyV
   go_wp2
   go_ret
   exact⟨rfl,rfl⟩
  ·by_cases hn:n=s.size
   ·have d1:((n:Int) == (s.size:Int))=true:=by rw [beq_iff_eq];omega
    have HT:Hid (true=(true && decide (n=s.size))):=by show true=_;simp [hn]
    go_enter Tryz.func94,Tryz.ntmps94
    go_wp2_with fail
    refine (HC.out _ hm (Nat.zero_le _)).mono ?_
    rintro e w1 ⟨rfl,rfl⟩
    unfold tyV
    go_wp2
    go_ret
    exact⟨congrArg (fun b=>Ending.returned (Value.bool b)) HT.out,rfl⟩
   ·have d1:((n:Int) == (s.size:Int))=false:=by rw [beq_eq_false_iff_ne];omega
    have HT:Hid (false=(true && decide (n=s.size))):=by show false=_;simp [hn]
    clear hn
    go_enter Tryz.func94,Tryz.ntmps94
    go_wp2_with fail
    refine (HC.out _ hm (Nat.zero_le _)).mono ?_
    rintro e w1 ⟨rfl,rfl⟩
    unfold tyV
    go_wp2
    go_ret
    exact⟨congrArg (fun b=>Ending.returned (Value.bool b)) HT.out,rfl⟩
set_option maxHeartbeats 1000000 in
theorem implTypeRight (s:ByteArray) (w:World) (hs:s.size≤maxLen) :
  Calls Tryz.prog 132 #[.string s] w fun e w'=>e = .returned (.bool (tyB s))∧w'=w:=by
 have hm:=hs
 unfold maxLen at hs
 have hc:=implTypeEnd s 0
 have HC:Hid (∀ (w:World),s.size≤maxLen→0≤s.size→Calls Tryz.prog 154 #[.string s,.int .i64 0] w fun e w'=>e = .returned (teV (tyE s 0))∧w'=w):=hc
 clear hc
 unfold tyB
 generalize tyE s 0=r at *
 obtain ⟨b,n⟩:=r
 cases b
 ·go_enter Tryz.func132,Tryz.ntmps132
  go_wp2_with fail
  refine (HC.out _ hm (Nat.zero_le _)).mono ?_
  rintro e w1 ⟨rfl,rfl⟩
  rw [teV_no]
  go_wp2
  go_ret
  exact⟨rfl,rfl⟩
 ·by_cases hn:n=s.size
  ·have d1:((n:Int) == (s.size:Int))=true:=by rw [beq_iff_eq];omega
   have HT:Hid (true=(true && decide (n=s.size))):=by show true=_;simp [hn]
   go_enter Tryz.func132,Tryz.ntmps132
   go_wp2_with fail
   refine (HC.out _ hm (Nat.zero_le _)).mono ?_
   rintro e w1 ⟨rfl,rfl⟩
   rw [teV_yes]
   go_wp2
   go_ret
   exact⟨congrArg (fun b=>Ending.returned (Value.bool b)) HT.out,rfl⟩
  ·have d1:((n:Int) == (s.size:Int))=false:=by rw [beq_eq_false_iff_ne];omega
   have HT:Hid (false=(true && decide (n=s.size))):=by show false=_;simp [hn]
   clear hn
   go_enter Tryz.func132,Tryz.ntmps132
   go_wp2_with fail
   refine (HC.out _ hm (Nat.zero_le _)).mono ?_
   rintro e w1 ⟨rfl,rfl⟩
   rw [teV_yes]
   go_wp2
   go_ret
   exact⟨congrArg (fun b=>Ending.returned (Value.bool b)) HT.out,rfl⟩
end Go.Proofs.YtmhgaggpdggbeaaGreatDoor
