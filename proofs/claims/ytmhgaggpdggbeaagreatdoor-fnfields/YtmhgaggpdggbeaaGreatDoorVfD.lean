import Derived.Test.YtmhgaggpdggbeaaGreatDoorSplit
import Derived.Test.YtmhgaggpdggbeaaGreatDoorOpF
import Derived.Lib.ItoaNum
import Derived.Deep.RegionWith
import Derived.Test.YtmhgaggpdggbeaaGreatDoorDrI
import Derived.Test.YtmhgaggpdggbeaaGreatDoorDrd
namespace Go.Proofs.YtmhgaggpdggbeaaGreatDoor
section
open Go.RowKit
set_option maxRecDepth 20000
set_option linter.unusedVariables false

theorem dec_small {u:Nat} (h:u<10):Lib.decDigits u=[UInt8.ofNat (48+u)]:=by rw [Lib.decDigits,dif_pos h]
theorem dec_big {u:Nat} (h:¬ u<10):Lib.decDigits u=Lib.decDigits (u / 10) ++ [UInt8.ofNat (48+u % 10)]:=by rw [Lib.decDigits,dif_neg h]
def dcS (M m:Nat) (l:List UInt8):Prop:=if m=0 then l=Lib.decDigits M else Lib.decDigits m ++ l=Lib.decDigits M
theorem dcS_step {M m:Nat} {l:List UInt8} (h:dcS M m l) (hm:m ≠ 0):dcS M (m / 10) (UInt8.ofNat (48+m % 10) :: l):=by
 unfold dcS at h ⊢
 rw [if_neg hm] at h
 by_cases hs:m<10
 ·rw [if_pos (by omega),← h,dec_small hs,Nat.mod_eq_of_lt hs]
  rfl
 ·rw [if_neg (by omega),← h,dec_big hs]
  simp
theorem dcS_start (M:Nat) (hM:M ≠ 0):dcS M M []:=by
 unfold dcS
 rw [if_neg hM]
 simp
theorem dcS_end {M:Nat} {l:List UInt8} (h:dcS M 0 l):l=Lib.decDigits M:=by
 unfold dcS at h
 rw [if_pos rfl] at h
 exact h
theorem dec_len (k:Nat):∀ u,u<10 ^ (k+1)→(Lib.decDigits u).length≤k+1:=by
 induction k with
 | zero=>intro u h;rw [dec_small (by simpa using h)];simp
 | succ k ih =>
  intro u h
  by_cases hs:u<10
  ·rw [dec_small hs];simp
  ·rw [dec_big hs,List.length_append]
   have:=ih (u / 10) (by rw [Nat.pow_succ] at h;omega)
   simp
   omega
theorem dcS_len {M m:Nat} {l:List UInt8} (h:dcS M m l) (hM:M≤9223372036854775808):l.length≤20:=by
 have h2:=dec_len 19 M (by omega)
 unfold dcS at h
 split at h
 ·rw [h];omega
 ·have:=congrArg List.length h
  rw [List.length_append] at this
  omega
theorem itoa_neg {n:Int} (h:n<0):Lib.itoa n=45 :: Lib.decDigits n.natAbs:=by unfold Lib.itoa;rw [if_pos h]
theorem itoa_pos {n:Int} (h:¬ n<0):Lib.itoa n=Lib.decDigits n.natAbs:=by unfold Lib.itoa;rw [if_neg h];congr 1;omega
set_option maxHeartbeats 1000000 in
theorem specDec (n:Int) (w:World) (h0:-9223372036854775808≤n) (h1:n≤9223372036854775807) :
  Calls Tryz.prog 91 #[.int .i64 n] w fun e w'=>e = .returned (.string ⟨(Lib.itoa n).toArray⟩)∧Below w.heap.size w w':=by
 by_cases hz:n=0
 ·subst hz
  have HZ:Hid ((⟨#[48]⟩:ByteArray)=⟨(Lib.itoa 0).toArray⟩):=by
   show _=_
   rw [itoa_pos (by omega),dec_small (by decide)]
   rfl
  go_enter Tryz.func91,Tryz.ntmps91
  go_wp2
  go_ret
  exact⟨rS HZ.out,Below.refl _ _⟩
 ·have dz:(n == 0)=false:=by simpa using hz
  by_cases hn:n<0
  ·have HR:Hid (∀ l,dcS n.natAbs 0 l→(⟨(45 :: l).toArray⟩:ByteArray)=⟨(Lib.itoa n).toArray⟩):=fun l hl=>by
    rw [itoa_neg hn,dcS_end hl]
   have HS:Hid (dcS n.natAbs n.natAbs []):=dcS_start _ (by omega)
   have hM:n = -(n.natAbs:Int):=by omega
   have hML:n.natAbs≤9223372036854775808:=by omega
   have dn:decide (n<0)=true:=by simpa using hn
   generalize Lib.itoa n=res at *
   have hM0:0<n.natAbs:=by omega
   have dM:decide (0<n.natAbs)=true:=by simpa using hM0
   generalize n.natAbs=M at *
   go_enter Tryz.func91,Tryz.ntmps91
   go_wp2_with fail
   go_loopw [0,4] (fun j0 j4 wr=>∃ (m:Nat) (l:List UInt8),j0 = .int .i64 (-(m:Int))∧j4 = .string ⟨l.toArray⟩∧m≤M∧dcS M m l∧Below w.heap.size w wr) (fun j0 _ _=>(intOf j0).natAbs)
   case atStart=>exact⟨M,[],by rw [← hM],rfl,Nat.le_refl _,HS.out,Below.refl _ _⟩
   case round =>
    obtain ⟨m,l,rfl,rfl,hm,hl,hb⟩:=hrel
    have HL:Hid (dcS M m l):=hl
    have HB:Hid (Below w.heap.size w wr):=hb
    clear hl hb
    have hl20:l.length≤20:=dcS_len HL.out (by omega)
    have hl21:(l.length:Int)≤20:=by omega
    by_cases hm0:m=0
    ·subst hm0
     have HZ:=(show Hid _ from HR.out l HL.out)
     go_wp2
     go_ret
     exact⟨by rw [← HZ.out];exact rS (by apply ByteArray.ext;simp),HB.out⟩
    ·have hq:m / 10<m:=by omega
     obtain ⟨b,hb⟩:∃ b,b=UInt8.ofNat (48+m % 10):=⟨_,rfl⟩
     have HL2:Hid (dcS M (m / 10) (b :: l)):=by rw [hb];exact dcS_step HL.out hm0
     have HBa:Hid (∀ o,Below w.heap.size w (wr.alloc o)):=fun o=>HB.out.alloc HB.out.size o
     have HA:Hid ((⟨#[b]⟩:ByteArray) ++ ⟨l.toArray⟩=⟨(b :: l).toArray⟩):=by
      show _=_
      apply ByteArray.ext
      simp
     have EQ:Hid (((m:Int) / 10)=((m / 10:Nat):Int)):=by show _=_;omega
     by_cases hr:(m:Int) % 10=0
     ·have hc:=convLit wr [48]
      simp only [List.length_cons,List.length_nil,List.map_cons,List.map_nil] at hc
      have es:strOfNums [48]=⟨#[b]⟩:=by
       rw [hb]
       exact congrArg (fun k=>(⟨#[UInt8.ofNat k]⟩:ByteArray)) (by omega:(48:Int).toNat=48+m % 10)
      rw [es] at hc
      clear hb es
      go_wp2
      rw [HA.out]
      go_roundw
      case rel=>exact⟨m / 10,b :: l,by rw [← EQ.out],rfl,by omega,HL2.out,HBa.out _⟩
      case measure=>simp [intOf];omega
     ·have hr2:0<(m:Int) % 10:=by omega
      have hr3:¬ ((m:Int) % 10<0):=by omega
      have hc:=convLit wr [48+(m:Int) % 10]
      simp only [List.length_cons,List.length_nil,List.map_cons,List.map_nil] at hc
      have es:strOfNums [48+(m:Int) % 10]=⟨#[b]⟩:=by
       rw [hb]
       exact congrArg (fun k=>(⟨#[UInt8.ofNat k]⟩:ByteArray)) (by omega:(48+(m:Int) % 10).toNat=48+m % 10)
      rw [es] at hc
      clear hb es
      go_wp2
      rw [HA.out]
      go_roundw
      case rel=>exact⟨m / 10,b :: l,by rw [← EQ.out],rfl,by omega,HL2.out,HBa.out _⟩
      case measure=>simp [intOf];omega
  ·have hnn:0≤n:=by omega
   have HR:Hid (∀ l,dcS n.natAbs 0 l→(⟨l.toArray⟩:ByteArray)=⟨(Lib.itoa n).toArray⟩):=fun l hl=>by
    rw [itoa_pos hn,dcS_end hl]
   have HS:Hid (dcS n.natAbs n.natAbs []):=dcS_start _ (by omega)
   have hM:n=(n.natAbs:Int):=by omega
   have hML:n.natAbs≤9223372036854775807:=by omega
   have dn:decide (n<0)=false:=by simpa using hn
   generalize Lib.itoa n=res at *
   generalize n.natAbs=M at *
   go_enter Tryz.func91,Tryz.ntmps91
   go_wp2_with fail
   go_loopw [0,4] (fun j0 j4 wr=>∃ (m:Nat) (l:List UInt8),j0 = .int .i64 (m:Int)∧j4 = .string ⟨l.toArray⟩∧m≤M∧dcS M m l∧Below w.heap.size w wr) (fun j0 _ _=>(intOf j0).natAbs)
   case atStart=>exact⟨M,[],by rw [← hM],rfl,Nat.le_refl _,HS.out,Below.refl _ _⟩
   case round =>
    obtain ⟨m,l,rfl,rfl,hm,hl,hb⟩:=hrel
    have HL:Hid (dcS M m l):=hl
    have HB:Hid (Below w.heap.size w wr):=hb
    clear hl hb
    have hl20:l.length≤20:=dcS_len HL.out (by omega)
    have hl21:(l.length:Int)≤20:=by omega
    by_cases hm0:m=0
    ·subst hm0
     have HZ:=(show Hid _ from HR.out l HL.out)
     go_wp2
     go_ret
     exact⟨rS HZ.out,HB.out⟩
    ·have hq:m / 10<m:=by omega
     obtain ⟨b,hb⟩:∃ b,b=UInt8.ofNat (48+m % 10):=⟨_,rfl⟩
     have HL2:Hid (dcS M (m / 10) (b :: l)):=by rw [hb];exact dcS_step HL.out hm0
     have HBa:Hid (∀ o,Below w.heap.size w (wr.alloc o)):=fun o=>HB.out.alloc HB.out.size o
     have HA:Hid ((⟨#[b]⟩:ByteArray) ++ ⟨l.toArray⟩=⟨(b :: l).toArray⟩):=by
      show _=_
      apply ByteArray.ext
      simp
     have EQ:Hid (((m:Int) / 10)=((m / 10:Nat):Int)):=by show _=_;omega
     by_cases hr:(m:Int) % 10=0
     ·have hc:=convLit wr [48]
      simp only [List.length_cons,List.length_nil,List.map_cons,List.map_nil] at hc
      have es:strOfNums [48]=⟨#[b]⟩:=by
       rw [hb]
       exact congrArg (fun k=>(⟨#[UInt8.ofNat k]⟩:ByteArray)) (by omega:(48:Int).toNat=48+m % 10)
      rw [es] at hc
      clear hb es
      go_wp2
      rw [HA.out]
      go_roundw
      case rel=>exact⟨m / 10,b :: l,by rw [← EQ.out],rfl,by omega,HL2.out,HBa.out _⟩
      case measure=>simp [intOf];omega
     ·have hr2:0<(m:Int) % 10:=by omega
      have hr3:¬ ((m:Int) % 10<0):=by omega
      have hc:=convLit wr [48+(m:Int) % 10]
      simp only [List.length_cons,List.length_nil,List.map_cons,List.map_nil] at hc
      have es:strOfNums [48+(m:Int) % 10]=⟨#[b]⟩:=by
       rw [hb]
       exact congrArg (fun k=>(⟨#[UInt8.ofNat k]⟩:ByteArray)) (by omega:(48+(m:Int) % 10).toNat=48+m % 10)
      rw [es] at hc
      clear hb es
      go_wp2
      rw [HA.out]
      go_roundw
      case rel=>exact⟨m / 10,b :: l,by rw [← EQ.out],rfl,by omega,HL2.out,HBa.out _⟩
      case measure=>simp [intOf];omega
end
section
open Go.RowKit
set_option maxRecDepth 20000
set_option linter.unusedVariables false
abbrev ClT:=CT × Value × Value
def cCl (x:ClT):List Value:=[.string (CT.nm x.1),.string x.1.su,.bool x.1.fi,.bool x.1.ab,x.2.1,x.2.2]
structure okK (c:CT):Prop where
 nm:c.nm.size≤1000
 su:c.su.size≤1000
 fs:∀ d ∈ c.fs,d.1.size≤1000∧d.2.1.size≤1000
 ms:∀ x ∈ c.ms,okM x.1
 nq:c.ms.length≤10
theorem U_1000 {t:ByteArray} (h:t ∈ U):t.size≤1000:=Nat.le_trans (U_small t h) (by omega)
theorem okC.k {n0 s0:ByteArray} {c:CT} (h:okC n0 s0 c) (h0:n0.size≤1000) (h1:s0.size≤1000):okK c:=by
 have go:∀ t,t ∈ n0 :: s0 :: U→t.size≤1000:=fun t ht=>by
  rcases List.mem_cons.1 ht with rfl | ht
  ·exact h0
  ·rcases List.mem_cons.1 ht with rfl | ht
   ·exact h1
   ·exact U_1000 ht
 exact⟨go _ h.nm,go _ h.su,fun d hd=>⟨U_1000 (h.fs d hd).1,U_1000 (h.fs d hd).2⟩,h.ms,Nat.le_trans h.nm' (by omega)⟩
theorem small_max {n:Nat} (h:n≤1000):n≤maxLen:=by unfold maxLen;omega
def kOf (x:ClT):CTup:=(CT.nm x.1,x.1.su,x.1.fi,x.1.ab,x.1.fs,x.1.ms.map fun y=>mOf y.1)
theorem clsIn {w:World} {B:Nat} {x:ClT} (ho:okK x.1) (h:RwC w B x.1 x.2.1 x.2.2):classR.In w (cCl x) (kOf x):=by
 have hf:fieldR.slice.In w [x.2.1] x.1.fs:=by
  have:=owns_in (R:=fieldR) (f:=fun d:FieldD=>d) h.f fun d hd=>⟨rfl,(⟨[.string d.1],_,rfl,⟨rfl,small_max (ho.fs d hd).1⟩,[.string d.2.1],_,rfl,⟨rfl,small_max (ho.fs d hd).2⟩,rfl⟩:fieldR.In w (cFd d) d)⟩
  simpa using this
 have hm:methR.slice.In w [x.2.2] (x.1.ms.map fun y=>mOf y.1):=owns_in (R:=methR) (f:=fun y:MetT=>mOf y.1) h.m fun y hy=>⟨rfl,metIn (ho.ms y hy) (h.r y hy)⟩
 exact⟨[_],_,rfl,⟨rfl,small_max ho.nm⟩,[_],_,rfl,⟨rfl,small_max ho.su⟩,[_],_,rfl,rfl,[_],_,rfl,rfl,[_],[_],rfl,hf,hm⟩
structure RwL (w:World) (B:Nat) (v:Value) (L:List ClT):Prop where
 o:w.ownsRow B 51 6 v L.length (L.flatMap cCl)
 r:∀ x ∈ L,RwC w B x.1 x.2.1 x.2.2
 k:∀ x ∈ L,okK x.1
theorem RwL.lies {w:World} {B:Nat} {v:Value} {L:List ClT} (h:RwL w B v L):classR.slice.In w [v] (L.map kOf) :=
 owns_in (R:=classR) (f:=kOf) h.o fun x hx=>⟨rfl,clsIn (h.k x hx) (h.r x hx)⟩
theorem RwL.blocks {w w':World} {B:Nat} {v:Value} {L:List ClT} (h:RwL w B v L) (hb:∀ k,B≤k→k<w.heap.size→w'.heap[k]?=w.heap[k]?):RwL w' B v L :=
 ⟨own_blocks h.o hb,fun x hx=>(h.r x hx).blocks hb,h.k⟩
theorem RwL.kpt {w w':World} {B b:Nat} {v:Value} {L:List ClT} (h:RwL w B v L) (k:Kpt b w w') (hb:b<B):RwL w' B v L:=h.blocks fun j hj hl=>k.block j hl (by omega)
theorem RwC.grownC {w w1:World} {B B' n:Nat} {c:CT} {vf vm v:Value} {xs:List Value} (h:RwC w B c vf vm) (ho:w.ownsRow B' 51 6 v n xs) (hg:w.grownBy w1 v.ownBlock):RwC w1 B c vf vm :=
 ⟨h.f.kept hg (own_apart h.f ho (by decide)),h.m.kept hg (own_apart h.m ho (by decide)),fun x hx=>⟨(h.r x hx).c.kept hg (own_apart (h.r x hx).c ho (by decide)),(h.r x hx).h.kept hg (own_apart (h.r x hx).h ho (by decide))⟩⟩
theorem RwL.push {w w1:World} {B:Nat} {v v':Value} {L:List ClT} (h:RwL w B v L) {x:ClT} (hx:RwC w B x.1 x.2.1 x.2.2) (hk:okK x.1) (hown:w1.ownsRow B 51 6 v' (L.length+1) (L.flatMap cCl ++ cCl x)) (hg:w.grownBy w1 v.ownBlock):RwL w1 B v' (L ++ [x]) :=
 ⟨by simpa using hown,fun y hy=>by
  rcases List.mem_append.1 hy with hy | hy
  ·exact (h.r y hy).grownC h.o hg
  ·rw [List.mem_singleton.1 hy]
   exact hx.grownC h.o hg,fun y hy=>by
  rcases List.mem_append.1 hy with hy | hy
  ·exact h.k y hy
  ·rw [List.mem_singleton.1 hy]
   exact hk⟩
theorem own_set {w:World} {B e s n cap g:Nat} {xs:List Value} (h:w.ownsRow B e s (.slice (some ⟨g,0,none⟩) n cap) n xs) (i:Nat) (u:Value):(w.setCell ⟨g,i,none⟩ u).ownsRow B e s (.slice (some ⟨g,0,none⟩) n cap) n (xs.set i u):=by
 refine ⟨by rw [List.length_set];exact h.1,?_⟩
 rcases h.2 with ⟨h1,_⟩ | ⟨g',cap',cur,h1,hB,hg,hn,hc,hs,ht⟩
 ·cases h1
 ·cases h1
  refine .inr ⟨g,cap,cur.setIfInBounds i u,rfl,hB,?_,hn,hc,by simpa using hs,?_⟩
  ·simp [World.setCell,Array.getElem?_modify,hg]
  ·rw [Array.toList_setIfInBounds,List.take_set,ht]
theorem own_off {w:World} {B e s n g j:Nat} {v u:Value} {xs:List Value} (h:w.ownsRow B e s v n xs) (hne:v.ownBlock=none ∨ v.ownBlock ≠ some g):(w.setCell ⟨g,j,none⟩ u).ownsRow B e s v n xs:=by
 refine ⟨h.1,?_⟩
 rcases h.2 with hn | ⟨g',cap,cur,rfl,hB,hg,rest⟩
 ·exact .inl hn
 ·refine .inr ⟨g',cap,cur,rfl,hB,?_,rest⟩
  rw [Below.heap_setCell _ _ _ _ (by show g' ≠ g;simp [Value.ownBlock] at hne;exact hne)]
  exact hg
theorem RwC.offC {w:World} {B B' n cap g j:Nat} {c:CT} {vf vm u:Value} {xs:List Value} (h:RwC w B c vf vm) (ho:w.ownsRow B' 51 6 (.slice (some ⟨g,0,none⟩) n cap) n xs):RwC (w.setCell ⟨g,j,none⟩ u) B c vf vm :=
 ⟨own_off h.f (own_apart h.f ho (by decide)),own_off h.m (own_apart h.m ho (by decide)),fun x hx=>⟨own_off (h.r x hx).c (own_apart (h.r x hx).c ho (by decide)),own_off (h.r x hx).h (own_apart (h.r x hx).h ho (by decide))⟩⟩
theorem flat_set6 {x':ClT} {u:Value} {j:Nat} (hj:j<6):∀ (L:List ClT) (k:Nat) (hk:k<L.length),(cCl L[k]).set j u=cCl x'→(L.flatMap cCl).set (k * 6+j) u=(L.set k x').flatMap cCl
 | [],k,hk,_=>by simp at hk
 | x :: L,0,hk,e=>by
  simp only [List.getElem_cons_zero] at e
  rw [List.flatMap_cons,Nat.zero_mul,Nat.zero_add,List.set_append,if_pos (by show j<6;omega),e]
  rfl
 | x :: L,k+1,hk,e=>by
  have e6:(cCl x).length=6:=rfl
  rw [List.flatMap_cons,List.set_append,if_neg (by rw [e6];omega),e6,show (k+1) * 6+j - 6=k * 6+j by omega,flat_set6 hj L k (by simpa using hk) (by simpa using e)]
  rfl
theorem RwL.set {w:World} {B g cap k j:Nat} {u:Value} {L:List ClT} {x':ClT} (h:RwL w B (.slice (some ⟨g,0,none⟩) L.length cap) L) (hk:k<L.length) (hj:j<6) (e:(cCl L[k]).set j u=cCl x') (hx:RwC w B x'.1 x'.2.1 x'.2.2) (ho:okK x'.1):RwL (w.setCell ⟨g,k * 6+j,none⟩ u) B (.slice (some ⟨g,0,none⟩) L.length cap) (L.set k x') :=
 ⟨by
  rw [List.length_set,← flat_set6 hj L k hk e]
  exact own_set h.o _ _,fun y hy=>by
  rcases List.mem_or_eq_of_mem_set hy with hy | rfl
  ·exact (h.r y hy).offC h.o
  ·exact hx.offC h.o,fun y hy=>by
  rcases List.mem_or_eq_of_mem_set hy with hy | rfl
  ·exact h.k y hy
  ·exact ho⟩
theorem RwL.cells {w:World} {B g cap k:Nat} {L:List ClT} (h:RwL w B (.slice (some ⟨g,0,none⟩) L.length cap) L) (hk:k<L.length):∀ j,j<6→w.cell? ⟨g,k * 6+j,none⟩=(cCl L[k])[j]?:=fun j hj=>by
 rw [h.o.cellAt (k * 6+j) (by omega)]
 exact flat_get (c:=cCl) (k:=6) L (fun _ _=>rfl) k hk j hj
def namesW:List ByteArray:=[⟨#[65]⟩,⟨#[66]⟩,⟨#[67]⟩,⟨#[68]⟩]
structure FW (ρ:SRow) (b:Nat) (w0 w:World) (v:Value) (L:List ClT):Prop where
 src:Src ρ w b
 kpt:Kpt b w0 w
 row:RwL w w0.heap.size v L
 hb:b<w0.heap.size
theorem FW.call {ρ:SRow} {b:Nat} {w0 w w':World} {v:Value} {L:List ClT} (h:FW ρ b w0 w v L) (hs:Src ρ w' b) (hk:Kpt b w w'):FW ρ b w0 w' v L :=
 ⟨hs,h.kpt.trans hk,h.row.kpt hk h.hb,h.hb⟩
structure DW (ρ:SRow) (b:Nat) (w0 w:World) (v:Value) (L:List ClT) (g:Nat):Prop extends FW ρ b w0 w v L where
 nms:w.ownsRow w0.heap.size 9 1 (.slice (some ⟨g,0,none⟩) 4 4) 4 (namesW.map .string)
 hr:RB ρ w0.heap.size
 s:L.Pairwise fun x y=>x.2.1.ownBlock=none ∨ x.2.1.ownBlock ≠ y.2.1.ownBlock
 nf:∀ x ∈ L,x.1.fs.length≤4
theorem DW.call {ρ:SRow} {b g:Nat} {w0 w w':World} {v:Value} {L:List ClT} (h:DW ρ b w0 w v L g) (hs:Src ρ w' b) (hk:Kpt b w w'):DW ρ b w0 w' v L g :=
 ⟨h.toFW.call hs hk,own_blocks h.nms fun j hj hl=>hk.block j hl (by have:=h.hb;omega),h.hr,h.s,h.nf⟩
theorem DW.lit {ρ:SRow} {b g:Nat} {w0 w:World} {v:Value} {L:List ClT} (h:DW ρ b w0 w v L g) (o:Obj):DW ρ b w0 (w.alloc o) v L g:=h.call (h.src.keep lit_below) (kpt_alloc b w o)
theorem DW.name {ρ:SRow} {b g:Nat} {w0 w:World} {v:Value} {L:List ClT} (h:DW ρ b w0 w v L g) {i:Nat} (hi:i<4):∃ t,w.cell? ⟨g,i,none⟩=some (.string t)∧t.size≤1000:=by
 refine ⟨namesW.getD i ⟨#[]⟩,?_,?_⟩
 ·rw [h.nms.cellAt i (by omega)]
  match i,hi with
  | 0,_ | 1,_ | 2,_ | 3,_=>rfl
 ·match i,hi with
  | 0,_ | 1,_ | 2,_ | 3,_=>decide
theorem DW.apart {ρ:SRow} {b g:Nat} {w0 w w':World} {v:Value} {L:List ClT} (h:DW ρ b w0 w v L g) {c:CT} {vf vm:Value} (hx:RwC w' w.heap.size c vf vm):∀ y ∈ L,y.2.1.ownBlock=none ∨ y.2.1.ownBlock ≠ vf.ownBlock:=fun y hy=>by
 cases e:y.2.1.ownBlock with
 | none=>exact .inl rfl
 | some p =>
  refine .inr fun e2=>?_
  have h1:=((h.row.r y hy).f.lt p e).2
  have h2:=(hx.f.lt p e2.symm).1
  omega
theorem DW.push {ρ:SRow} {b g:Nat} {w0 w w1:World} {v v':Value} {L:List ClT} (h:DW ρ b w0 w v L g) {x:ClT} (hx:RwC w w0.heap.size x.1 x.2.1 x.2.2) (hk:okK x.1) (hf:x.1.fs.length≤4) (ha:∀ y ∈ L,y.2.1.ownBlock=none ∨ y.2.1.ownBlock ≠ x.2.1.ownBlock) (hown:w1.ownsRow w0.heap.size 51 6 v' (L.length+1) (L.flatMap cCl ++ cCl x)) (hg:w.grownBy w1 v.ownBlock):DW ρ b w0 w1 v' (L ++ [x]) g:=by
 have hB:∀ k,v.ownBlock=some k→w0.heap.size≤k:=fun k e=>(h.row.o.lt k e).1
 exact⟨⟨h.src.grown h.hr hg hB (fun e=>by have:=hB b e;have:=h.hb;omega),h.kpt.grown hg hB,h.row.push hx hk hown hg,h.hb⟩,h.nms.kept hg (own_apart h.nms h.row.o (by decide)),h.hr,by
  rw [List.pairwise_append]
  exact⟨h.s,List.pairwise_singleton _ _,fun y hy z hz=>by rw [List.mem_singleton.1 hz];exact ha y hy⟩,fun y hy=>by
  rcases List.mem_append.1 hy with hy | hy
  ·exact h.nf y hy
  ·rw [List.mem_singleton.1 hy]
   exact hf⟩
theorem DW.set {ρ:SRow} {b g q cap k j:Nat} {w0 w:World} {u:Value} {L:List ClT} {x':ClT} (h:DW ρ b w0 w (.slice (some ⟨q,0,none⟩) L.length cap) L g) (hk:k<L.length) (hj:j<6) (e:(cCl L[k]).set j u=cCl x') (hx:RwC w w0.heap.size x'.1 x'.2.1 x'.2.2) (ho:okK x'.1):FW ρ b w0 (w.setCell ⟨q,k * 6+j,none⟩ u) (.slice (some ⟨q,0,none⟩) L.length cap) (L.set k x'):=by
 have hq:=(h.row.o.lt q rfl).1
 have hb:=h.hb
 exact⟨h.src.off h.hr hq (by omega),h.kpt.set hq,h.row.set hk hj e hx ho,h.hb⟩
theorem DW.setName {ρ:SRow} {b g q cap k:Nat} {w0 w:World} {L:List ClT} (h:DW ρ b w0 w (.slice (some ⟨q,0,none⟩) L.length cap) L g) (hk:k<L.length) (t:ByteArray) (ht:t.size≤1000):FW ρ b w0 (w.setCell ⟨q,k * 6,none⟩ (.string t)) (.slice (some ⟨q,0,none⟩) L.length cap) (L.set k ({ L[k].1 with nm:=t },L[k].2)):=by
 have hm:=List.getElem_mem hk
 exact h.set (j:=0) (x':=({ L[k].1 with nm:=t },L[k].2)) hk (by omega) rfl ⟨(h.row.r _ hm).f,(h.row.r _ hm).m,(h.row.r _ hm).r⟩ ⟨ht,(h.row.k _ hm).su,(h.row.k _ hm).fs,(h.row.k _ hm).ms,(h.row.k _ hm).nq⟩
theorem DW.setSuper {ρ:SRow} {b g q cap k:Nat} {w0 w:World} {L:List ClT} (h:DW ρ b w0 w (.slice (some ⟨q,0,none⟩) L.length cap) L g) (hk:k<L.length) (t:ByteArray) (ht:t.size≤1000):FW ρ b w0 (w.setCell ⟨q,k * 6+1,none⟩ (.string t)) (.slice (some ⟨q,0,none⟩) L.length cap) (L.set k ({ L[k].1 with su:=t },L[k].2)):=by
 have hm:=List.getElem_mem hk
 exact h.set (j:=1) (x':=({ L[k].1 with su:=t },L[k].2)) hk (by omega) rfl ⟨(h.row.r _ hm).f,(h.row.r _ hm).m,(h.row.r _ hm).r⟩ ⟨(h.row.k _ hm).nm,ht,(h.row.k _ hm).fs,(h.row.k _ hm).ms,(h.row.k _ hm).nq⟩
theorem DW.pushF {ρ:SRow} {b g q cap k:Nat} {w0 w w1:World} {v':Value} {L:List ClT} {d:FldT} (h:DW ρ b w0 w (.slice (some ⟨q,0,none⟩) L.length cap) L g) (hk:k<L.length) (hd:d.1.size≤1000∧d.2.1.size≤1000)
  (hown:w1.ownsRow w0.heap.size 61 3 v' (L[k].1.fs.length+1) (L[k].1.fs.flatMap cFd ++ cFd d)) (hg:w.grownBy w1 (L[k].2.1).ownBlock) :
  FW ρ b w0 (w1.setCell ⟨q,k * 6+4,none⟩ v') (.slice (some ⟨q,0,none⟩) L.length cap) (L.set k ({ L[k].1 with fs:=L[k].1.fs ++ [d] },v',L[k].2.2)):=by
 have hm:=List.getElem_mem hk
 have hf:=(h.row.r _ hm).f
 have hB:∀ j,(L[k].2.1).ownBlock=some j→w0.heap.size≤j:=fun j e=>(hf.lt j e).1
 have hs1:Src ρ w1 b:=h.src.grown h.hr hg hB (fun e=>by have:=hB b e;have:=h.hb;omega)
 have hk1:Kpt b w0 w1:=h.kpt.grown hg hB
 have ho1:=h.row.o.kept hg (own_apart h.row.o hf (by decide))
 have hq:=(h.row.o.lt q rfl).1
 have hb:=h.hb
 have keepM:∀ x ∈ L,(w1.ownsRow w0.heap.size 55 9 x.2.2 x.1.ms.length (x.1.ms.flatMap cMt)∧∀ y ∈ x.1.ms,Rw w1 w0.heap.size y.1 y.2.1 y.2.2):=fun x hx =>
  have hr:=h.row.r x hx
  ⟨hr.m.kept hg (own_apart hr.m hf (by decide)),fun y hy=>⟨(hr.r y hy).c.kept hg (own_apart (hr.r y hy).c hf (by decide)),(hr.r y hy).h.kept hg (own_apart (hr.r y hy).h hf (by decide))⟩⟩
 have hpw:∀ i (hi:i<L.length),i ≠ k→(L[i].2.1).ownBlock=none ∨ (L[i].2.1).ownBlock ≠ (L[k].2.1).ownBlock:=fun i hi hne=>by
  rcases Nat.lt_or_gt_of_ne hne with hlt | hlt
  ·exact List.pairwise_iff_getElem.1 h.s i k hi hk hlt
  ·rcases List.pairwise_iff_getElem.1 h.s k i hk hi hlt with e | e
   ·by_cases e2:(L[i].2.1).ownBlock=none
    ·exact .inl e2
    ·exact .inr fun e3=>e2 (e3.trans e)
   ·exact .inr fun e3=>e e3.symm
 refine ⟨hs1.off h.hr hq (by omega),hk1.set hq,⟨?_,fun y hy=>?_,fun y hy=>?_⟩,h.hb⟩
 ·rw [List.length_set,← flat_set6 (j:=4) (u:=v') (x':=({ L[k].1 with fs:=L[k].1.fs ++ [d] },v',L[k].2.2)) (by omega) L k hk rfl]
  exact own_set ho1 _ _
 ·obtain ⟨i,hi,rfl⟩:=List.mem_iff_getElem.1 hy
  have hiL:i<L.length:=by simpa using hi
  rw [List.getElem_set]
  split
  ·have hM:=keepM _ hm
   exact RwC.offC ⟨by simpa using hown,hM.1,hM.2⟩ ho1
  ·next hne =>
   have hM:=keepM _ (List.getElem_mem hiL)
   exact RwC.offC ⟨(h.row.r _ (List.getElem_mem hiL)).f.kept hg (hpw i hiL (fun e=>hne e.symm)),hM.1,hM.2⟩ ho1
 ·rcases List.mem_or_eq_of_mem_set hy with hy | rfl
  ·exact h.row.k y hy
  ·exact⟨(h.row.k _ hm).nm,(h.row.k _ hm).su,fun e he=>by
    rcases List.mem_append.1 he with he | he
    ·exact (h.row.k _ hm).fs e he
    ·rw [List.mem_singleton.1 he];exact hd,(h.row.k _ hm).ms,(h.row.k _ hm).nq⟩
end
section
open Go.RowKit
set_option maxRecDepth 20000
set_option linter.unusedVariables false
theorem itoa_l (a:Int) (h0:0≤a) (h1:a≤1000):(Lib.itoa a).length≤21:=by
 have h:=dec_len 19 a.natAbs (by omega)
 rw [itoa_pos (by omega)]
 omega
def zCl:Value:=.agg #[.string ⟨#[]⟩,.string ⟨#[]⟩,.bool false,.bool false,.slice none 0 0,.slice none 0 0]
theorem infoClT:(Tryz.prog.info? 51).map (fun i=>(i.zero,i.size,i.bytes))=some (some zCl,6,88):=by kernel_rfl
theorem srcN1 {ρ:SRow} (b:Nat) (w:World) (most:Int) (h1:1≤most) (h2:most≤1000000) (hS:Src ρ w b) :
  Calls Tryz.prog 58 #[.pointer (some ⟨b,0,none⟩),.int .i64 most] w fun e w'=>∃ r:Int,e = .returned (.int .i64 r)∧(0≤r∧r<most)∧Src ρ w' b∧Onl b w w':=by
 by_cases h:1<most
 ·exact srcN b w most h h2 hS
 ·obtain rfl:most=1:=by omega
  go_enter Tryz.func58,Tryz.ntmps58
  go_wp2
  go_ret
  exact⟨0,rfl,by omega,hS,Onl.refl _ _⟩
theorem DW.start {ρ:SRow} {b:Nat} {w:World} (hS:Src ρ w b) (hr:RB ρ w.heap.size):DW ρ b w ((w.alloc (.cells #[] 51)).alloc (.cells #[.string ⟨#[65]⟩,.string ⟨#[66]⟩,.string ⟨#[67]⟩,.string ⟨#[68]⟩] 9)) (.slice (some ⟨w.heap.size,0,none⟩) 0 0) [] (w.heap.size+1):=by
 have h1:=World.ownsRow_lit (base:=w.heap.size) (e:=9) (size:=1) (w.alloc (.cells #[] 51)) #[.string ⟨#[65]⟩,.string ⟨#[66]⟩,.string ⟨#[67]⟩,.string ⟨#[68]⟩] 4 (by simp) (by unfold maxLen;omega) rfl
 rw [World.size_alloc] at h1
 exact⟨⟨(hS.keep lit_below).keep lit_below,(kpt_alloc b w _).trans (kpt_alloc b _ _),⟨(World.ownsRow_made w #[] 0 (Nat.le_refl _) (by unfold maxLen;omega) rfl).alloc _,by simp,by simp⟩,hS.lt⟩,h1,hr,List.Pairwise.nil,by simp⟩
theorem RwC.lit {w:World} {B:Nat} {c:CT} {vf vm:Value} (h:RwC w B c vf vm) (o:Obj):RwC (w.alloc o) B c vf vm:=h.blocks fun k _ hk=>Below.heap_alloc _ _ _ hk
theorem DW.some {ρ:SRow} {b g:Nat} {w0 w:World} {v:Value} {L:List ClT} (h:DW ρ b w0 w v L g) (hl:0<L.length):∃ q cap,v = .slice (some ⟨q,0,none⟩) L.length cap:=by
 rcases h.row.o.2 with ⟨_,h0⟩ | ⟨q,cap,cur,e,_⟩
 ·omega
 ·exact⟨q,cap,e⟩
theorem own_froz {w:World} {B e s g n cap:Nat} {xs:List Value} (h:w.ownsRow B e s (.slice (some ⟨g,0,none⟩) n cap) n xs):∀ j,w.frozen? ⟨g,j,none⟩=false:=fun j=>by
 rcases h.2 with ⟨h1,_⟩ | ⟨g',cap,cur,h1,hB,hgg,_⟩
 ·cases h1
 ·cases h1
  simp [World.frozen?,hgg]
set_option maxRecDepth 20000 in
set_option maxHeartbeats 16000000 in
theorem srcWorld {ρ:SRow} (b:Nat) (w:World) (hS:Src ρ w b) (hr:RB ρ w.heap.size) :
  Calls Tryz.prog 57 #[.pointer (some ⟨b,0,none⟩)] w fun e w'=>∃ v L,e = .returned v∧1≤L.length∧L.length≤20∧FW ρ b w w' v L:=by
 obtain ⟨ic,hi,hz0,hz1,hz2⟩:=info_parts infoClT
 have HC:Hid (Tryz.prog.info? 51 = some ic∧ic.zero=some zCl∧ic.size=6∧ic.bytes=88):=⟨hi,hz0,hz1,hz2⟩
 obtain ⟨i0,hi0,hz0',hz1',hz2'⟩:=info_parts infoFldT
 have HF:Hid (Tryz.prog.info? 61 = some i0∧i0.zero=some zF∧i0.size=3∧i0.bytes=40):=⟨hi0,hz0',hz1',hz2'⟩
 clear hi hz0 hz1 hz2 hi0 hz0' hz1' hz2'
 have HST:=(show Hid _ from DW.start hS hr)
 have hbw:=hS.lt
 have HRB:=(show Hid (RB ρ w.heap.size) from hr)
 clear hS hr
 go_enter Tryz.func57,Tryz.ntmps57
 go_wp2_with fail
 refine (srcN b _ 3 (by decide) (by decide) HST.out.src).mono ?_
 rintro e w1 ⟨n0,rfl,⟨n00,n01⟩,hs,ho⟩
 have X1:=(show Hid _ from HST.out.call hs ho.kept)
 clear hs ho HST
 obtain ⟨n0,rfl⟩:=Int.eq_ofNat_of_zero_le n00
 go_wp2_with fail
 go_loopw [3,6] (fun j3 j6 wr=>∃ (L:List ClT) (v:Value),L.length≤n0+1∧j3=v∧j6 = .int .i64 (L.length:Int)∧DW ρ b w wr v L (w.heap.size+1)) (fun _ j6 _=>n0+1 - (intOf j6).toNat)
 case atStart=>exact⟨[],_,by simp,rfl,rfl,X1.out⟩
 case round =>
  obtain ⟨L,v,hL,hv,rfl,hx⟩:=hrel
  obtain ⟨vp,vc,rfl⟩:=own_sn hx.row.o
  subst hv
  obtain ⟨ln,hln⟩:∃ ln,L.length=ln:=⟨_,rfl⟩
  rw [hln] at hL hx ⊢
  have HLN:Hid (L.length=ln):=hln
  have X2:=(show Hid (DW ρ b w wr (.slice vp ln vc) L (w.heap.size+1)) from hx)
  clear hx X1 hln
  by_cases hlt:ln<n0+1
  ·have dl:decide ((ln:Int)<1+(n0:Int))=true:=decide_eq_true (by omega)
   have hwr:w.heap.size≤wr.heap.size:=X2.out.kpt.size
   go_wp2_with fail
   refine Calls.mono (srcPick b wr.heap.size 2 [⟨#[79,98,106,101,99,116]⟩,⟨#[69,114,114,111,114]⟩] _ rfl (by decide) (by decide) (X2.out.lit _).src (by omega) ?_) ?_
   ·intro j hj
    rw [World.cell?_alloc_mark]
    match j,hj with
    | 0,_ | 1,_=>rfl
   rintro e w2 ⟨t,rfl,ht,hs,ho⟩
   have htz:t.size≤1000:=by
    simp only [List.mem_cons,List.not_mem_nil,or_false] at ht
    rcases ht with rfl | rfl<;>decide
   have X3:Hid (DW ρ b w w2 (.slice vp ln vc) L (w.heap.size+1)):=(X2.out.lit _).call hs ho.kept
   clear hs ho ht X2
   by_cases h0:¬ 0<ln
   ·skip
    obtain ⟨nm,cnm,hnm⟩:=X3.out.name (i:=ln) (by omega)
    have hw5:w.heap.size≤w2.heap.size:=X3.out.kpt.size
    go_wp2_with fail
    refine (srcClass b nm t w2 X3.out.src (HRB.out.mono hw5)).mono ?_
    rintro e w6 ⟨c,vf,vm,rfl,hok,hrw,hs,hk⟩
    obtain ⟨fp,fc,rfl⟩:=own_sn hrw.f
    obtain ⟨mp,mc,rfl⟩:=own_sn hrw.m
    have X6:Hid (DW ρ b w w6 (.slice vp ln vc) L (w.heap.size+1)):=X3.out.call hs hk
    have HA:=(show Hid _ from X3.out.apart hrw)
    have HOK:Hid (okK c):=hok.k hnm htz
    have HNF:Hid (c.fs.length≤4):=hok.nf
    have HRW:=(show Hid (RwC w6 w.heap.size c (.slice fp c.fs.length fc) (.slice mp c.ms.length mc)) from hrw.low hw5)
    clear hs hk hok hrw X3 cnm
    go_wp2_with (at_builtin;refine wpList_append_own _ rfl _ _ 26 rfl w.heap.size 51 ic zCl 6 88 Tryz.underlying26 HC.out.1 HC.out.2.1 HC.out.2.2.1 HC.out.2.2.2 rfl (by decide) _ _ _ rfl (X6.out.lit _).row.o ⟨w6.heap.size,0,none⟩ 1 1 (cCl (c,.slice fp c.fs.length fc,.slice mp c.ms.length mc)) rfl rfl ?qa0 ?qb0 ?qc0 ?qd0 ?qe0 ?_)
    case qa0 =>
     intro j u hj
     rw [lit_add (by simp)]
     simpa [cCl] using hj
    case qb0 =>
     intro u hu
     simp only [cCl,List.mem_cons,List.not_mem_nil,or_false] at hu
     rcases hu with rfl | rfl | rfl | rfl | rfl | rfl<;>rfl
    case qc0=>have:=maxLen_ge;have:=HLN.out;omega
    case qd0=>have:=HLN.out;omega
    case qe0 =>
     have:=X6.out.kpt.size
     simp
     omega
    intro v' w9 hown hgrow _
    obtain ⟨tp,tl,tc,rfl⟩:=own_sl hown
    have X9:Hid (DW ρ b w w9 (.slice tp tl tc) (L ++ [(c,.slice fp c.fs.length fc,.slice mp c.ms.length mc)]) (w.heap.size+1)):=(X6.out.lit _).push (x:=(c,.slice fp c.fs.length fc,.slice mp c.ms.length mc)) (HRW.out.lit _) HOK.out HNF.out HA.out hown hgrow
    clear hown hgrow HA HOK HNF HRW X6
    go_wp2
    go_roundw
    case rel=>exact⟨L ++ [(c,.slice fp c.fs.length fc,.slice mp c.ms.length mc)],_,by rw [List.length_append,HLN.out];simp;omega,rfl,by rw [List.length_append,HLN.out];simp,X9.out⟩
    case measure=>simp [intOf];omega
   ·have h0:0<ln:=by omega
    go_wp2_with fail
    refine (srcOne b _ 2 (by decide) (by decide) X3.out.src).mono ?_
    rintro e w3 ⟨r,rfl,hs,ho⟩
    have X4:Hid (DW ρ b w w3 (.slice vp ln vc) L (w.heap.size+1)):=X3.out.call hs ho.kept
    clear hs ho X3
    cases r with
    | false =>
     obtain ⟨nm,cnm,hnm⟩:=X4.out.name (i:=ln) (by omega)
     have hw5:w.heap.size≤w3.heap.size:=X4.out.kpt.size
     go_wp2_with fail
     refine (srcClass b nm t w3 X4.out.src (HRB.out.mono hw5)).mono ?_
     rintro e w6 ⟨c,vf,vm,rfl,hok,hrw,hs,hk⟩
     obtain ⟨fp,fc,rfl⟩:=own_sn hrw.f
     obtain ⟨mp,mc,rfl⟩:=own_sn hrw.m
     have X6:Hid (DW ρ b w w6 (.slice vp ln vc) L (w.heap.size+1)):=X4.out.call hs hk
     have HA:=(show Hid _ from X4.out.apart hrw)
     have HOK:Hid (okK c):=hok.k hnm htz
     have HNF:Hid (c.fs.length≤4):=hok.nf
     have HRW:=(show Hid (RwC w6 w.heap.size c (.slice fp c.fs.length fc) (.slice mp c.ms.length mc)) from hrw.low hw5)
     clear hs hk hok hrw X4 cnm
     go_wp2_with (at_builtin;refine wpList_append_own _ rfl _ _ 26 rfl w.heap.size 51 ic zCl 6 88 Tryz.underlying26 HC.out.1 HC.out.2.1 HC.out.2.2.1 HC.out.2.2.2 rfl (by decide) _ _ _ rfl (X6.out.lit _).row.o ⟨w6.heap.size,0,none⟩ 1 1 (cCl (c,.slice fp c.fs.length fc,.slice mp c.ms.length mc)) rfl rfl ?qa1 ?qb1 ?qc1 ?qd1 ?qe1 ?_)
     case qa1 =>
      intro j u hj
      rw [lit_add (by simp)]
      simpa [cCl] using hj
     case qb1 =>
      intro u hu
      simp only [cCl,List.mem_cons,List.not_mem_nil,or_false] at hu
      rcases hu with rfl | rfl | rfl | rfl | rfl | rfl<;>rfl
     case qc1=>have:=maxLen_ge;have:=HLN.out;omega
     case qd1=>have:=HLN.out;omega
     case qe1 =>
      have:=X6.out.kpt.size
      simp
      omega
     intro v' w9 hown hgrow _
     obtain ⟨tp,tl,tc,rfl⟩:=own_sl hown
     have X9:Hid (DW ρ b w w9 (.slice tp tl tc) (L ++ [(c,.slice fp c.fs.length fc,.slice mp c.ms.length mc)]) (w.heap.size+1)):=(X6.out.lit _).push (x:=(c,.slice fp c.fs.length fc,.slice mp c.ms.length mc)) (HRW.out.lit _) HOK.out HNF.out HA.out hown hgrow
     clear hown hgrow HA HOK HNF HRW X6
     go_wp2
     go_roundw
     case rel=>exact⟨L ++ [(c,.slice fp c.fs.length fc,.slice mp c.ms.length mc)],_,by rw [List.length_append,HLN.out];simp;omega,rfl,by rw [List.length_append,HLN.out];simp,X9.out⟩
     case measure=>simp [intOf];omega
    | true =>
     go_wp2_with fail
     refine (srcN1 b _ (ln:Int) (by omega) (by omega) X4.out.src).mono ?_
     rintro e w4 ⟨r,rfl,⟨r0,r1⟩,hs,ho⟩
     have X5:Hid (DW ρ b w w4 (.slice vp ln vc) L (w.heap.size+1)):=X4.out.call hs ho.kept
     clear hs ho X4
     obtain ⟨r,rfl⟩:=Int.eq_ofNat_of_zero_le r0
     obtain ⟨t2,ct2,ht2⟩:=X5.out.name (i:=r) (by omega)
     obtain ⟨nm,cnm,hnm⟩:=X5.out.name (i:=ln) (by omega)
     have hw5:w.heap.size≤w4.heap.size:=X5.out.kpt.size
     go_wp2_with fail
     refine (srcClass b nm t2 w4 X5.out.src (HRB.out.mono hw5)).mono ?_
     rintro e w6 ⟨c,vf,vm,rfl,hok,hrw,hs,hk⟩
     obtain ⟨fp,fc,rfl⟩:=own_sn hrw.f
     obtain ⟨mp,mc,rfl⟩:=own_sn hrw.m
     have X6:Hid (DW ρ b w w6 (.slice vp ln vc) L (w.heap.size+1)):=X5.out.call hs hk
     have HA:=(show Hid _ from X5.out.apart hrw)
     have HOK:Hid (okK c):=hok.k hnm ht2
     have HNF:Hid (c.fs.length≤4):=hok.nf
     have HRW:=(show Hid (RwC w6 w.heap.size c (.slice fp c.fs.length fc) (.slice mp c.ms.length mc)) from hrw.low hw5)
     clear hs hk hok hrw X5 cnm
     go_wp2_with (at_builtin;refine wpList_append_own _ rfl _ _ 26 rfl w.heap.size 51 ic zCl 6 88 Tryz.underlying26 HC.out.1 HC.out.2.1 HC.out.2.2.1 HC.out.2.2.2 rfl (by decide) _ _ _ rfl (X6.out.lit _).row.o ⟨w6.heap.size,0,none⟩ 1 1 (cCl (c,.slice fp c.fs.length fc,.slice mp c.ms.length mc)) rfl rfl ?qa2 ?qb2 ?qc2 ?qd2 ?qe2 ?_)
     case qa2 =>
      intro j u hj
      rw [lit_add (by simp)]
      simpa [cCl] using hj
     case qb2 =>
      intro u hu
      simp only [cCl,List.mem_cons,List.not_mem_nil,or_false] at hu
      rcases hu with rfl | rfl | rfl | rfl | rfl | rfl<;>rfl
     case qc2=>have:=maxLen_ge;have:=HLN.out;omega
     case qd2=>have:=HLN.out;omega
     case qe2 =>
      have:=X6.out.kpt.size
      simp
      omega
     intro v' w9 hown hgrow _
     obtain ⟨tp,tl,tc,rfl⟩:=own_sl hown
     have X9:Hid (DW ρ b w w9 (.slice tp tl tc) (L ++ [(c,.slice fp c.fs.length fc,.slice mp c.ms.length mc)]) (w.heap.size+1)):=(X6.out.lit _).push (x:=(c,.slice fp c.fs.length fc,.slice mp c.ms.length mc)) (HRW.out.lit _) HOK.out HNF.out HA.out hown hgrow
     clear hown hgrow HA HOK HNF HRW X6
     go_wp2
     go_roundw
     case rel=>exact⟨L ++ [(c,.slice fp c.fs.length fc,.slice mp c.ms.length mc)],_,by rw [List.length_append,HLN.out];simp;omega,rfl,by rw [List.length_append,HLN.out];simp,X9.out⟩
     case measure=>simp [intOf];omega
  ·have HLe:Hid (ln=n0+1):=by show _=_;omega
   have hl13:1≤ln∧ln≤3:=by omega
   have dl:decide ((ln:Int)<1+(n0:Int))=false:=decide_eq_false (by omega)
   have hwr:w.heap.size≤wr.heap.size:=X2.out.kpt.size
   clear hlt hL
   go_wp2_with fail
   refine (srcOne b _ 12 (by decide) (by decide) X2.out.src).mono ?_
   rintro e w2 ⟨r,rfl,hs,ho⟩
   have X3:Hid (DW ρ b w w2 (.slice vp ln vc) L (w.heap.size+1)):=X2.out.call hs ho.kept
   clear hs ho X2
   cases r with
   | false =>
    go_wp2
    go_ret
    exact⟨_,L,rfl,by rw [HLN.out];omega,by rw [HLN.out];omega,X3.out.toFW⟩
   | true =>
    go_wp2_with fail
    refine (srcN1 b _ (1+(n0:Int)) (by omega) (by omega) X3.out.src).mono ?_
    rintro e w3 ⟨k,rfl,⟨k0,k1⟩,hs,ho⟩
    have X4:Hid (DW ρ b w w3 (.slice vp ln vc) L (w.heap.size+1)):=X3.out.call hs ho.kept
    clear hs ho X3
    obtain ⟨k,rfl⟩:=Int.eq_ofNat_of_zero_le k0
    have hkl:k<ln:=by have:=HLe.out;omega
    have hk:k<L.length:=by rw [HLN.out];exact hkl
    have hkI:(k:Int)<(ln:Int):=by omega
    go_wp2_with fail
    refine (srcN b _ 5 (by decide) (by decide) X4.out.src).mono ?_
    rintro e w4 ⟨sw,rfl,⟨s0,s1⟩,hs,ho⟩
    have X5:Hid (DW ρ b w w4 (.slice vp ln vc) L (w.heap.size+1)):=X4.out.call hs ho.kept
    clear hs ho X4
    obtain ⟨q,cap,hv⟩:=X5.out.some (by rw [HLN.out];omega)
    rw [HLN.out] at hv
    cases hv
    have hw4:w.heap.size≤w4.heap.size:=X5.out.kpt.size
    have X5L:Hid (DW ρ b w w4 (.slice (some ⟨q,0,none⟩) L.length vc) L (w.heap.size+1)):=by rw [HLN.out];exact X5
    have hsw:sw=0 ∨ sw=1 ∨ sw=2 ∨ sw=3 ∨ sw=4:=by omega
    clear s0 s1
    rcases hsw with rfl | rfl | rfl | rfl | rfl
    ·skip
     go_wp2_with fail
     refine Calls.mono (srcPick b w4.heap.size 3 [⟨#[65]⟩,⟨#[79,98,106,101,99,116]⟩,⟨#[69,114,114,111,114]⟩] _ rfl (by decide) (by decide) (X5.out.lit _).src (by omega) ?_) ?_
     ·intro j hj
      rw [World.cell?_alloc_mark]
      match j,hj with
      | 0,_ | 1,_ | 2,_=>rfl
     rintro e w5 ⟨t,rfl,ht,hs,ho⟩
     have htz:t.size≤1000:=by
      simp only [List.mem_cons,List.not_mem_nil,or_false] at ht
      rcases ht with rfl | rfl | rfl<;>decide
     have X6:Hid (DW ρ b w w5 (.slice (some ⟨q,0,none⟩) ln vc) L (w.heap.size+1)):=(X5.out.lit _).call hs ho.kept
     have X6L:Hid (DW ρ b w w5 (.slice (some ⟨q,0,none⟩) L.length vc) L (w.heap.size+1)):=by rw [HLN.out];exact X6
     have c0:w5.cell? ⟨q,k * 6,none⟩=some (.string L[k].1.nm):=X6L.out.row.cells hk 0 (by omega)
     have hfz:∀ j,w5.frozen? ⟨q,j,none⟩=false:=own_froz X6L.out.row.o
     have F:Hid (FW ρ b w (w5.setCell ⟨q,k * 6,none⟩ (.string t)) (.slice (some ⟨q,0,none⟩) ln vc) (L.set k ({ L[k].1 with nm:=t },L[k].2))):=by
      have h:=X6L.out.setName hk t htz
      rw [HLN.out] at h
      exact h
     obtain ⟨x0,hx0⟩:∃ x0,L[k].1.nm=x0:=⟨_,rfl⟩
     rw [hx0] at c0
     clear hs ho ht X5 X5L X6 X6L hx0
     go_wp2
     go_ret
     exact⟨_,_,rfl,by rw [List.length_set,HLN.out];omega,by rw [List.length_set,HLN.out];omega,F.out⟩
    ·skip
     go_wp2_with fail
     refine Calls.mono (srcPick b w4.heap.size 4 [⟨#[77,97,116,104,69,114,114,111,114]⟩,⟨#[90]⟩,⟨#[67]⟩,⟨#[66]⟩] _ rfl (by decide) (by decide) (X5.out.lit _).src (by omega) ?_) ?_
     ·intro j hj
      rw [World.cell?_alloc_mark]
      match j,hj with
      | 0,_ | 1,_ | 2,_ | 3,_=>rfl
     rintro e w5 ⟨t,rfl,ht,hs,ho⟩
     have htz:t.size≤1000:=by
      simp only [List.mem_cons,List.not_mem_nil,or_false] at ht
      rcases ht with rfl | rfl | rfl | rfl<;>decide
     have X6:Hid (DW ρ b w w5 (.slice (some ⟨q,0,none⟩) ln vc) L (w.heap.size+1)):=(X5.out.lit _).call hs ho.kept
     have X6L:Hid (DW ρ b w w5 (.slice (some ⟨q,0,none⟩) L.length vc) L (w.heap.size+1)):=by rw [HLN.out];exact X6
     have c0:w5.cell? ⟨q,k * 6+1,none⟩=some (.string L[k].1.su):=X6L.out.row.cells hk 1 (by omega)
     have hfz:∀ j,w5.frozen? ⟨q,j,none⟩=false:=own_froz X6L.out.row.o
     have F:Hid (FW ρ b w (w5.setCell ⟨q,k * 6+1,none⟩ (.string t)) (.slice (some ⟨q,0,none⟩) ln vc) (L.set k ({ L[k].1 with su:=t },L[k].2))):=by
      have h:=X6L.out.setSuper hk t htz
      rw [HLN.out] at h
      exact h
     obtain ⟨x0,hx0⟩:∃ x0,L[k].1.su=x0:=⟨_,rfl⟩
     rw [hx0] at c0
     clear hs ho ht X5 X5L X6 X6L hx0
     go_wp2
     go_ret
     exact⟨_,_,rfl,by rw [List.length_set,HLN.out];omega,by rw [List.length_set,HLN.out];omega,F.out⟩
    ·have e1:1+(n0:Int) - 1=(n0:Int):=by omega
     obtain ⟨t,ct,htz⟩:=X5.out.name (i:=n0) (by omega)
     have hk0:0<L.length:=by rw [HLN.out];omega
     have hk0I:(0:Int)<(ln:Int):=by omega
     have hn4:(n0:Int)<4:=by omega
     have c0:w4.cell? ⟨q,1,none⟩=some (.string L[0].1.su):=X5L.out.row.cells hk0 1 (by omega)
     have hfz:∀ j,w4.frozen? ⟨q,j,none⟩=false:=own_froz X5L.out.row.o
     have F:Hid (FW ρ b w (w4.setCell ⟨q,1,none⟩ (.string t)) (.slice (some ⟨q,0,none⟩) ln vc) (L.set 0 ({ L[0].1 with su:=t },L[0].2))):=by
      have h:=X5L.out.setSuper hk0 t htz
      rw [HLN.out] at h
      exact h
     obtain ⟨x0,hx0⟩:∃ x0,L[0].1.su=x0:=⟨_,rfl⟩
     rw [hx0] at c0
     clear X5 X5L hx0
     go_wp2
     go_ret
     exact⟨_,_,rfl,by rw [List.length_set,HLN.out];omega,by rw [List.length_set,HLN.out];omega,F.out⟩
    ·clear X5L hw4 dl HLe hk hkI hkl k0 k1
     go_wp2_with fail
     go_loopw [3] (fun j3 wr=>∃ (L:List ClT) (v:Value),j3=v∧1≤L.length∧L.length≤12∧DW ρ b w wr v L (w.heap.size+1)) (fun j3 _=>match j3 with | .slice _ n _=>20 - n | _=>0)
     case atStart=>exact⟨L,_,rfl,by rw [HLN.out];omega,by rw [HLN.out];omega,X5.out⟩
     case round =>
      obtain ⟨L',v,hv,hl1,hl2,hx⟩:=hrel
      obtain ⟨vp',vc',rfl⟩:=own_sn hx.row.o
      subst hv
      obtain ⟨lm,hlm⟩:∃ lm,L'.length=lm:=⟨_,rfl⟩
      rw [hlm] at hl1 hl2 hx ⊢
      have HLM:Hid (L'.length=lm):=hlm
      have X6:=(show Hid (DW ρ b w wr (.slice vp' lm vc') L' (w.heap.size+1)) from hx)
      clear hx hlm X5
      go_wp2_with fail
      refine (srcN b _ 2 (by decide) (by decide) X6.out.src).mono ?_
      rintro e w6 ⟨r,rfl,⟨r0,r1⟩,hs,ho⟩
      have X7:Hid (DW ρ b w w6 (.slice vp' lm vc') L' (w.heap.size+1)):=X6.out.call hs ho.kept
      clear hs ho X6
      by_cases hlt:(lm:Int)<10+r
      ·have dl:decide ((lm:Int)<10+r)=true:=decide_eq_true hlt
       have hdl:=itoa_l (lm:Int) (by omega) (by omega)
       have HD:=(show Hid _ from fun w'=>specDec (lm:Int) w' (by omega) (by omega))
       obtain ⟨d,hd⟩:∃ d:ByteArray,⟨(Lib.itoa (lm:Int)).toArray⟩=d:=⟨_,rfl⟩
       have hdz:d.size≤21:=by rw [← hd];simpa [ByteArray.size] using hdl
       rw [hd] at HD
       clear hd hdl
       go_wp2_with fail
       refine (HD.out _).mono ?_
       rintro e w7 ⟨rfl,hb7⟩
       have X8:Hid (DW ρ b w w7 (.slice vp' lm vc') L' (w.heap.size+1)):=X7.out.call (X7.out.src.keep hb7) (kpt_below hb7)
       have hw7:w.heap.size≤w7.heap.size:=X8.out.kpt.size
       clear hb7 X7 HD
       have hcat:((⟨#[75]⟩:ByteArray) ++ d).size≤1000:=by rw [ByteArray.size_append];show 1+d.size≤1000;omega
       go_wp2_with (at_builtin;refine wpList_append_own _ rfl _ _ 26 rfl w.heap.size 51 ic zCl 6 88 Tryz.underlying26 HC.out.1 HC.out.2.1 HC.out.2.2.1 HC.out.2.2.2 rfl (by decide) _ _ _ rfl (X8.out.lit _).row.o ⟨w7.heap.size,0,none⟩ 1 1 (cCl (⟨(⟨#[75]⟩:ByteArray) ++ d,⟨#[79,98,106,101,99,116]⟩,false,false,[],[]⟩,.slice none 0 0,.slice none 0 0)) rfl rfl ?qa8 ?qb8 ?qc8 ?qd8 ?qe8 ?_)
       case qa8 =>
        intro j u hj
        rw [lit_add (by simp)]
        simpa [cCl] using hj
       case qb8 =>
        intro u hu
        simp only [cCl,List.mem_cons,List.not_mem_nil,or_false] at hu
        rcases hu with rfl | rfl | rfl | rfl | rfl | rfl<;>rfl
       case qc8=>have:=maxLen_ge;have:=HLM.out;omega
       case qd8=>have:=HLM.out;omega
       case qe8 =>
        simp
        omega
       intro v' w9 hown hgrow _
       obtain ⟨tp,tl,tc,rfl⟩:=own_sl hown
       have X9:Hid (DW ρ b w w9 (.slice tp tl tc) (L' ++ [(⟨(⟨#[75]⟩:ByteArray) ++ d,⟨#[79,98,106,101,99,116]⟩,false,false,[],[]⟩,.slice none 0 0,.slice none 0 0)]) (w.heap.size+1)):=(X8.out.lit _).push (x:=(⟨(⟨#[75]⟩:ByteArray) ++ d,⟨#[79,98,106,101,99,116]⟩,false,false,[],[]⟩,.slice none 0 0,.slice none 0 0)) ⟨World.ownsRow_nil _ _ _ _,World.ownsRow_nil _ _ _ _,(fun x hx=>by cases hx)⟩ ⟨hcat,(by show (⟨#[79,98,106,101,99,116]⟩:ByteArray).size≤1000;decide),(fun d hd=>by cases hd),(fun x hx=>by cases hx),by simp⟩ (by simp) (fun y hy=>by
        cases y.2.1.ownBlock with
        | none=>exact .inl rfl
        | some p=>exact .inr (by simp [Value.ownBlock])) hown hgrow
       have htl:tl=lm+1:=by
        rcases hown.2 with ⟨h1,h2⟩ | ⟨g',cap',cur',h1,_⟩
        ·rw [HLM.out] at h2;omega
        ·rw [HLM.out] at h1;cases h1;rfl
       clear hown hgrow X8
       go_wp2
       go_roundw
       case rel=>exact⟨L' ++ [(⟨(⟨#[75]⟩:ByteArray) ++ d,⟨#[79,98,106,101,99,116]⟩,false,false,[],[]⟩,.slice none 0 0,.slice none 0 0)],_,rfl,by rw [List.length_append];simp,by rw [List.length_append,HLM.out];simp;omega,X9.out⟩
       case measure=>simp only [];omega
      ·have dl:decide ((lm:Int)<10+r)=false:=decide_eq_false hlt
       go_wp2
       go_ret
       exact⟨_,L',rfl,by rw [HLM.out];omega,by rw [HLM.out];omega,X7.out.toFW⟩
    ·have c0:w4.cell? ⟨q,k * 6+4,none⟩=some L[k].2.1:=X5L.out.row.cells hk 4 (by omega)
     have hfz:∀ j,w4.frozen? ⟨q,j,none⟩=false:=own_froz X5L.out.row.o
     have hFo:=(X5.out.row.r _ (List.getElem_mem hk)).f
     have hnf:=X5.out.nf _ (List.getElem_mem hk)
     obtain ⟨fp,fc,hfs⟩:=own_sn hFo
     have HPU:=(show Hid _ from fun (w1:World) (v':Value) h1 h2=>(X5L.out.lit (.cells #[.string ⟨#[113]⟩,.string ⟨#[76,90,59]⟩,.bool false] 61)).pushF (w1:=w1) (v':=v') (d:=(⟨#[113]⟩,⟨#[76,90,59]⟩,false)) hk (by decide) h1 h2)
     rw [hfs] at c0 hFo HPU
     have HFo:=(show Hid (w4.ownsRow w.heap.size 61 3 (.slice fp L[k].1.fs.length fc) L[k].1.fs.length (L[k].1.fs.flatMap cFd)) from hFo)
     have HCA:Hid (∀ o,(w4.alloc o).cell? ⟨q,k * 6+4,none⟩=some (.slice fp L[k].1.fs.length fc)):=fun o=>(World.cell?_of_block (Below.heap_alloc _ _ _ (World.block_lt_of_cell? _ _ c0))).trans c0
     clear hFo hfs
     obtain ⟨nf,hnf2⟩:∃ nf,L[k].1.fs.length=nf:=⟨_,rfl⟩
     have HNF2:Hid (L[k].1.fs.length=nf):=hnf2
     rw [hnf2] at c0 hnf HCA
     have HFo2:Hid (w4.ownsRow w.heap.size 61 3 (.slice fp nf fc) nf (L[k].1.fs.flatMap cFd)):=by rw [← HNF2.out];exact HFo
     clear hnf2
     go_wp2_with (at_builtin;refine wpList_append_own _ rfl _ _ 24 rfl w.heap.size 61 i0 zF 3 40 Tryz.underlying24 HF.out.1 HF.out.2.1 HF.out.2.2.1 HF.out.2.2.2 rfl (by decide) _ _ _ rfl (HFo2.out.alloc _) ⟨w4.heap.size,0,none⟩ 1 1 (cFd (⟨#[113]⟩,⟨#[76,90,59]⟩,false)) rfl rfl ?qa9 ?qb9 ?qc9 ?qd9 ?qe9 ?_)
     case qa9 =>
      intro j u hj
      rw [lit_add (by simp)]
      simpa [cFd] using hj
     case qb9 =>
      intro u hu
      simp only [cFd,List.mem_cons,List.not_mem_nil,or_false] at hu
      rcases hu with rfl | rfl | rfl<;>rfl
     case qc9=>have:=maxLen_ge;omega
     case qd9=>omega
     case qe9 =>
      simp
      omega
     intro v' w9 hown hgrow _
     obtain ⟨tp,tl,tc,rfl⟩:=own_sl hown
     have hb9:(w9.cell? ⟨q,k * 6+4,none⟩=some (.slice fp nf fc))∧∀ j,w9.frozen? ⟨q,j,none⟩=false:=by
      have hne:some q ≠ (Value.slice fp nf fc).ownBlock:=fun e=>by
       rcases own_apart HFo2.out X5L.out.row.o (by decide) with h | h
       ·rw [h] at e;cases e
       ·exact h e.symm
      have hq4:q<w4.heap.size:=(X5L.out.row.o.lt q rfl).2
      have h9:=(hgrow.block q (by simp;omega) hne).trans (Below.heap_alloc _ _ _ hq4)
      exact⟨(World.cell?_of_block h9).trans c0,fun j=>(World.frozen?_of_block h9).trans (hfz j)⟩
     have F:Hid (FW ρ b w (w9.setCell ⟨q,k * 6+4,none⟩ (.slice tp tl tc)) (.slice (some ⟨q,0,none⟩) ln vc) (L.set k ({ L[k].1 with fs:=L[k].1.fs ++ [(⟨#[113]⟩,⟨#[76,90,59]⟩,false)] },.slice tp tl tc,L[k].2.2))):=by
      have h:=HPU.out w9 (.slice tp tl tc) (by rw [HNF2.out];exact hown) (by rw [HNF2.out];exact hgrow)
      rw [HLN.out] at h
      exact h
     obtain ⟨z9,zf9⟩:=hb9
     clear X5 X5L HPU HFo HFo2 HCA hown hgrow c0 hfz
     go_wp2
     go_ret
     exact⟨_,rfl,_,by rw [List.length_set,HLN.out];omega,by rw [List.length_set,HLN.out];omega,F.out⟩
end
section
open Go.RowKit
set_option maxRecDepth 20000
set_option linter.unusedVariables false
set_option maxHeartbeats 1000000 in
theorem srcName {ρ:SRow} (b:Nat) (w:World) (hS:Src ρ w b) :
  Calls Tryz.prog 61 #[.pointer (some ⟨b,0,none⟩)] w fun e w'=>∃ t,e = .returned (.string t)∧t.size≤1000∧Src ρ w' b∧Kpt b w w':=by
 have hlt:=hS.lt
 go_enter Tryz.func61,Tryz.ntmps61
 go_wp2_with fail
 refine Calls.mono (srcPick b w.heap.size 7 [⟨#[65]⟩,⟨#[66]⟩,⟨#[67]⟩,⟨#[79,98,106,101,99,116]⟩,⟨#[69,114,114,111,114]⟩,⟨#[77,97,116,104,69,114,114,111,114]⟩,⟨#[90]⟩] _ rfl (by decide) (by decide) (hS.keep lit_below) (by omega) ?_) ?_
 ·intro j hj
  rw [World.cell?_alloc_mark]
  match j,hj with
  | 0,_ | 1,_ | 2,_ | 3,_ | 4,_ | 5,_ | 6,_=>rfl
 rintro e w1 ⟨t,rfl,ht,hs,ho⟩
 have htz:t.size≤1000:=by
  simp only [List.mem_cons,List.not_mem_nil,or_false] at ht
  rcases ht with rfl | rfl | rfl | rfl | rfl | rfl | rfl<;>decide
 have HX:Hid (Src ρ w1 b∧Kpt b w w1):=⟨hs,(kpt_alloc b w _).trans ho.kept⟩
 clear hS hs ho ht
 go_wp2
 go_ret
 exact⟨_,rfl,htz,HX.out⟩
theorem row_RB {w:World} {a:Option Addr} {len cap:Nat} {zs:List Int} (hr:IsRow .u8 w a len cap zs):RB ⟨a,len,cap,zs⟩ w.heap.size:=fun x hx hz=>by
 rcases hr with ⟨h,_⟩ | ⟨y,hy,h1,h2,h3,h4,h5⟩
 ·simp_all
 ·have e:x=y:=by simpa [hy] using hx.symm
  subst e
  have hl:=World.block_lt_of_cell? w _ (h4 0 hz)
  rwa [add_block] at hl
end
end Go.Proofs.YtmhgaggpdggbeaaGreatDoor
