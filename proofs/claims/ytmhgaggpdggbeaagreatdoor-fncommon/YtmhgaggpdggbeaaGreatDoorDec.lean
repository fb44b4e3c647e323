import Derived.Test.YtmhgaggpdggbeaaGreatDoorSplit
import Derived.Test.YtmhgaggpdggbeaaGreatDoorOpF
import Derived.Lib.ItoaNum
import Derived.Deep.RegionWith
namespace Go.Proofs.YtmhgaggpdggbeaaGreatDoor
open Go.RowKit
set_option maxRecDepth 20000
set_option linter.unusedVariables false

theorem dec_small {u:Nat} (h:u<10):Lib.decDigits u=[UInt8.ofNat (48+u)]:=by rw [Lib.decDigits,dif_pos h]
theorem dec_big {u:Nat} (h:¬ u<10):Lib.decDigits u=Lib.decDigits (u / 10) ++ [UInt8.ofNat (48+u % 10)]:=by rw [Lib.decDigits,dif_neg h]
def dcS (M m:Nat) (l:List UInt8):Prop:=if m=0 then l=Lib.decDigits M else Lib.decDigits m ++ l=Lib.decDigits M
theorem dcS_step {M m:Nat} {l:List UInt8} (h:dcS M m l) (hm:m ≠ 0):dcS M (m / 10) (UInt8.ofNat (48+m % 10) :: l):=by
 unfold dcS at h ⊢
 rw [if_neg hm] at h
 by_cases hs:m<10
 ·rw [if_pos (by omega),← h,dec_small hs,Nat.mod_eq_of_lt hs]
  rfl
 ·rw [if_neg (by omega),← h,dec_big hs]
  simp
theorem dcS_start (M:Nat) (hM:M ≠ 0):dcS M M []:=by
 unfold dcS
 rw [if_neg hM]
 simp
theorem dcS_end {M:Nat} {l:List UInt8} (h:dcS M 0 l):l=Lib.decDigits M:=by
 unfold dcS at h
 rw [if_pos rfl] at h
 exact h
theorem dec_len (k:Nat):∀ u,u<10 ^ (k+1)→(Lib.decDigits u).length≤k+1:=by
 induction k with
 | zero=>intro u h;rw [dec_small (by simpa using h)];simp
 | succ k ih =>
  intro u h
  by_cases hs:u<10
  ·rw [dec_small hs];simp
  ·rw [dec_big hs,List.length_append]
   have:=ih (u / 10) (by rw [Nat.pow_succ] at h;omega)
   simp
   omega
theorem dcS_len {M m:Nat} {l:List UInt8} (h:dcS M m l) (hM:M≤9223372036854775808):l.length≤20:=by
 have h2:=dec_len 19 M (by omega)
 unfold dcS at h
 split at h
 ·rw [h];omega
 ·have:=congrArg List.length h
  rw [List.length_append] at this
  omega
theorem itoa_neg {n:Int} (h:n<0):Lib.itoa n=45 :: Lib.decDigits n.natAbs:=by unfold Lib.itoa;rw [if_pos h]
theorem itoa_pos {n:Int} (h:¬ n<0):Lib.itoa n=Lib.decDigits n.natAbs:=by unfold Lib.itoa;rw [if_neg h];congr 1;omega
set_option maxHeartbeats 1000000 in
theorem specDec (n:Int) (w:World) (h0:-9223372036854775808≤n) (h1:n≤9223372036854775807) :
  Calls Tryz.prog 91 #[.int .i64 n] w fun e w'=>e = .returned (.string ⟨(Lib.itoa n).toArray⟩)∧Below w.heap.size w w':=by
 by_cases hz:n=0
 ·subst hz
  have HZ:Hid ((⟨#[48]⟩:ByteArray)=⟨(Lib.itoa 0).toArray⟩):=by
   show _=_
   rw [itoa_pos (by omega),dec_small (by decide)]
   rfl
  go_enter Tryz.func91,Tryz.ntmps91
  go_wp2
  go_ret
  exact⟨rS HZ.out,Below.refl _ _⟩
 ·have dz:(n == 0)=false:=by simpa using hz
  by_cases hn:n<0
  ·have HR:Hid (∀ l,dcS n.natAbs 0 l→(⟨(45 :: l).toArray⟩:ByteArray)=⟨(Lib.itoa n).toArray⟩):=fun l hl=>by
    rw [itoa_neg hn,dcS_end hl]
   have HS:Hid (dcS n.natAbs n.natAbs []):=dcS_start _ (by omega)
   have hM:n = -(n.natAbs:Int):=by omega
   have hML:n.natAbs≤9223372036854775808:=by omega
   have dn:decide (n<0)=true:=by simpa using hn
   generalize Lib.itoa n=res at *
   have hM0:0<n.natAbs:=by omega
   have dM:decide (0<n.natAbs)=true:=by simpa using hM0
   generalize n.natAbs=M at *
   go_enter Tryz.func91,Tryz.ntmps91
   go_wp2_with fail
   go_loopw [0,4] (fun j0 j4 wr=>∃ (m:Nat) (l:List UInt8),j0 = .int .i64 (-(m:Int))∧j4 = .string ⟨l.toArray⟩∧m≤M∧dcS M m l∧Below w.heap.size w wr) (fun j0 _ _=>(intOf j0).natAbs)
   case atStart=>exact⟨M,[],by rw [← hM],rfl,Nat.le_refl _,HS.out,Below.refl _ _⟩
   case round =>
    obtain ⟨m,l,rfl,rfl,hm,hl,hb⟩:=hrel
    have HL:Hid (dcS M m l):=hl
    have HB:Hid (Below w.heap.size w wr):=hb
    clear hl hb
    have hl20:l.length≤20:=dcS_len HL.out (by omega)
    have hl21:(l.length:Int)≤20:=by omega
    by_cases hm0:m=0
    ·subst hm0
     have HZ:=(show Hid _ from HR.out l HL.out)
     go_wp2
     go_ret
     exact⟨by rw [← HZ.out];exact rS (by apply ByteArray.ext;simp),HB.out⟩
    ·have hq:m / 10<m:=by omega
     obtain ⟨b,hb⟩:∃ b,b=UInt8.ofNat (48+m % 10):=⟨_,rfl⟩
     have HL2:Hid (dcS M (m / 10) (b :: l)):=by rw [hb];exact dcS_step HL.out hm0
     have HBa:Hid (∀ o,Below w.heap.size w (wr.alloc o)):=fun o=>HB.out.alloc HB.out.size o
     have HA:Hid ((⟨#[b]⟩:ByteArray) ++ ⟨l.toArray⟩=⟨(b :: l).toArray⟩):=by
      show _=_
      apply ByteArray.ext
      simp
     have EQ:Hid (((m:Int) / 10)=((m / 10:Nat):Int)):=by show _=_;omega
     by_cases hr:(m:Int) % 10=0
     ·have hc:=convLit wr [48]
      simp only [List.length_cons,List.length_nil,List.map_cons,List.map_nil] at hc
      have es:strOfNums [48]=⟨#[b]⟩:=by
       rw [hb]
       exact congrArg (fun k=>(⟨#[UInt8.ofNat k]⟩:ByteArray)) (by omega:(48:Int).toNat=48+m % 10)
      rw [es] at hc
      clear hb es
      go_wp2
      rw [HA.out]
      go_roundw
      case rel=>exact⟨m / 10,b :: l,by rw [← EQ.out],rfl,by omega,HL2.out,HBa.out _⟩
      case measure=>simp [intOf];omega
     ·have hr2:0<(m:Int) % 10:=by omega
      have hr3:¬ ((m:Int) % 10<0):=by omega
      have hc:=convLit wr [48+(m:Int) % 10]
      simp only [List.length_cons,List.length_nil,List.map_cons,List.map_nil] at hc
      have es:strOfNums [48+(m:Int) % 10]=⟨#[b]⟩:=by
       rw [hb]
       exact congrArg (fun k=>(⟨#[UInt8.ofNat k]⟩:ByteArray)) (by omega:(48+(m:Int) % 10).toNat=48+m % 10)
      rw [es] at hc
      clear hb es
      go_wp2
      rw [HA.out]
      go_roundw
      case rel=>exact⟨m / 10,b :: l,by rw [← EQ.out],rfl,by omega,HL2.out,HBa.out _⟩
      case measure=>simp [intOf];omega
  ·have hnn:0≤n:=by omega
   have HR:Hid (∀ l,dcS n.natAbs 0 l→(⟨l.toArray⟩:ByteArray)=⟨(Lib.itoa n).toArray⟩):=fun l hl=>by
    rw [itoa_pos hn,dcS_end hl]
   have HS:Hid (dcS n.natAbs n.natAbs []):=dcS_start _ (by omega)
   have hM:n=(n.natAbs:Int):=by omega
   have hML:n.natAbs≤9223372036854775807:=by omega
   have dn:decide (n<0)=false:=by simpa using hn
   generalize Lib.itoa n=res at *
   generalize n.natAbs=M at *
   go_enter Tryz.func91,Tryz.ntmps91
   go_wp2_with fail
   go_loopw [0,4] (fun j0 j4 wr=>∃ (m:Nat) (l:List UInt8),j0 = .int .i64 (m:Int)∧j4 = .string ⟨l.toArray⟩∧m≤M∧dcS M m l∧Below w.heap.size w wr) (fun j0 _ _=>(intOf j0).natAbs)
   case atStart=>exact⟨M,[],by rw [← hM],rfl,Nat.le_refl _,HS.out,Below.refl _ _⟩
   case round =>
    obtain ⟨m,l,rfl,rfl,hm,hl,hb⟩:=hrel
    have HL:Hid (dcS M m l):=hl
    have HB:Hid (Below w.heap.size w wr):=hb
    clear hl hb
    have hl20:l.length≤20:=dcS_len HL.out (by omega)
    have hl21:(l.length:Int)≤20:=by omega
    by_cases hm0:m=0
    ·subst hm0
     have HZ:=(show Hid _ from HR.out l HL.out)
     go_wp2
     go_ret
     exact⟨rS HZ.out,HB.out⟩
    ·have hq:m / 10<m:=by omega
     obtain ⟨b,hb⟩:∃ b,b=UInt8.ofNat (48+m % 10):=⟨_,rfl⟩
     have HL2:Hid (dcS M (m / 10) (b :: l)):=by rw [hb];exact dcS_step HL.out hm0
     have HBa:Hid (∀ o,Below w.heap.size w (wr.alloc o)):=fun o=>HB.out.alloc HB.out.size o
     have HA:Hid ((⟨#[b]⟩:ByteArray) ++ ⟨l.toArray⟩=⟨(b :: l).toArray⟩):=by
      show _=_
      apply ByteArray.ext
      simp
     have EQ:Hid (((m:Int) / 10)=((m / 10:Nat):Int)):=by show _=_;omega
     by_cases hr:(m:Int) % 10=0
     ·have hc:=convLit wr [48]
      simp only [List.length_cons,List.length_nil,List.map_cons,List.map_nil] at hc
      have es:strOfNums [48]=⟨#[b]⟩:=by
       rw [hb]
       exact congrArg (fun k=>(⟨#[UInt8.ofNat k]⟩:ByteArray)) (by omega:(48:Int).toNat=48+m % 10)
      rw [es] at hc
      clear hb es
      go_wp2
      rw [HA.out]
      go_roundw
      case rel=>exact⟨m / 10,b :: l,by rw [← EQ.out],rfl,by omega,HL2.out,HBa.out _⟩
      case measure=>simp [intOf];omega
     ·have hr2:0<(m:Int) % 10:=by omega
      have hr3:¬ ((m:Int) % 10<0):=by omega
      have hc:=convLit wr [48+(m:Int) % 10]
      simp only [List.length_cons,List.length_nil,List.map_cons,List.map_nil] at hc
      have es:strOfNums [48+(m:Int) % 10]=⟨#[b]⟩:=by
       rw [hb]
       exact congrArg (fun k=>(⟨#[UInt8.ofNat k]⟩:ByteArray)) (by omega:(48+(m:Int) % 10).toNat=48+m % 10)
      rw [es] at hc
      clear hb es
      go_wp2
      rw [HA.out]
      go_roundw
      case rel=>exact⟨m / 10,b :: l,by rw [← EQ.out],rfl,by omega,HL2.out,HBa.out _⟩
      case measure=>simp [intOf];omega
end Go.Proofs.YtmhgaggpdggbeaaGreatDoor
