import Derived.Test.YtmhgaggpdggbeaaGreatDoorWd2
import Derived.Test.YtmhgaggpdggbeaaGreatDoorCR0
namespace Go.Proofs.YtmhgaggpdggbeaaGreatDoor
open Go.RowKit
set_option maxRecDepth 20000
set_option linter.unusedVariables false

def nearM (W:List CTup) (n d:ByteArray):Option (CTup × Nat):=W.findSome? fun u=>(mFixL (msC u) n d).map fun k=>(u,k)
def wrongM (c:CTup) (m:MTup):Prop:=∃ k,∃ h:k<(msC c).length,mFixL (msC c) (mD m).name (mD m).desc=some k∧((mD m).fin=true ∨ (mD m).static ≠ (mD (msC c)[k]).static)
def openM (L:List CTup) (c:CTup) (m:MTup):Prop:=(mD m).abs=true∧abC c=false∧∃ u k,∃ h:k<(msC u).length,nearM (CH nmC suC L (nmC c)) (mD m).name (mD m).desc=some (u,k)∧(mD (msC u)[k]).abs=true
def accP (L:List CTup) (c:CTup):Prop:=∀ u ∈ CH nmC suC L (suC c),∀ m ∈ msC u,(mD m).name ≠ initN→¬ wrongM c m∧¬ openM L c m

noncomputable def accB (L:List CTup) (c:CTup):Bool:=@decide (accP L c) (Classical.propDecidable _)
theorem accB_no {L:List CTup} {c:CTup} (h:¬ accP L c):false=accB L c:=by unfold accB;exact (@decide_eq_false _ (Classical.propDecidable _) h).symm
theorem accB_yes {L:List CTup} {c:CTup} (h:accP L c):true=accB L c:=by unfold accB;exact (@decide_eq_true _ (Classical.propDecidable _) h).symm

noncomputable def cd0 (L:List CTup) (i:Nat) (c:CTup):Int:=if clsOk (cD c) then (if knB (L.take i) (nmC c) then 7 else 0) else 1
def cd1 (L:List CTup) (c:CTup):Int:=match lkG nmC (allC L) (suC c) with
 | none=>8
 | some u=>if fiC u then 14 else 0
def cd2 (L:List CTup) (c:CTup):Int:=if tsK L c then 0 else 6
noncomputable def cd3 (L:List CTup) (c:CTup):Int:=@ite _ (CycG nmC suC L c) (Classical.propDecidable _) 9 0
noncomputable def cd4 (L:List CTup) (c:CTup):Int:=@ite _ (accP L c) (Classical.propDecidable _) 0 14
noncomputable def cdP (L:List CTup) (p i:Nat):Int:=match L[i]? with
 | none=>0
 | some c=>match p with
  | 0=>cd0 L i c
  | 1=>cd1 L c
  | 2=>cd2 L c
  | 3=>cd3 L c
  | _=>cd4 L c

theorem cdP0 {L:List CTup} {i:Nat} (h:i<L.length):cdP L 0 i=cd0 L i L[i]:=by unfold cdP;rw [List.getElem?_eq_getElem h];rfl
theorem cdP1 {L:List CTup} {i:Nat} (h:i<L.length):cdP L 1 i=cd1 L L[i]:=by unfold cdP;rw [List.getElem?_eq_getElem h];rfl
theorem cdP2 {L:List CTup} {i:Nat} (h:i<L.length):cdP L 2 i=cd2 L L[i]:=by unfold cdP;rw [List.getElem?_eq_getElem h];rfl
theorem cdP3 {L:List CTup} {i:Nat} (h:i<L.length):cdP L 3 i=cd3 L L[i]:=by unfold cdP;rw [List.getElem?_eq_getElem h];rfl
theorem cdP4 {L:List CTup} {i:Nat} (h:i<L.length):cdP L 4 i=cd4 L L[i]:=by unfold cdP;rw [List.getElem?_eq_getElem h];rfl

def fstF (f:Nat→Int):Nat→Option (Nat × Int)
 | 0=>none
 | n+1=>match fstF f n with
  | some x=>some x
  | none=>if f n=0 then none else some (n,f n)
theorem fstF_none (f:Nat→Int) (n:Nat) (h:∀ i,i<n→f i=0):fstF f n=none:=by
 induction n with
 | zero=>rfl
 | succ n ih=>rw [fstF,ih (fun i hi=>h i (by omega)),h n (by omega)];rfl
theorem fstF_at (f:Nat→Int) (n i:Nat) (hi:i<n) (h:∀ j,j<i→f j=0) (h1:f i ≠ 0):fstF f n=some (i,f i):=by
 induction n with
 | zero=>omega
 | succ n ih =>
  rw [fstF]
  by_cases e:i<n
  ·rw [ih e]
  ·obtain rfl:i=n:=by omega
   rw [fstF_none f i h]
   simp [h1]

noncomputable def wScan (L:List CTup):Nat→Option (Nat × Int)
 | 0=>none
 | p+1=>match wScan L p with
  | some x=>some x
  | none=>fstF (cdP L p) L.length
noncomputable def wOut (L:List CTup):Int × Int :=
 if 400<L.length then (0,2) else if 10<L.length then (10,1) else match wScan L 5 with
  | some (i,c)=>((i:Int),c)
  | none=>(0,0)
def Past (L:List CTup) (p:Nat):Prop:=∀ q,q<p→∀ j,j<L.length→cdP L q j=0
theorem wScan_none {L:List CTup} {p:Nat} (h:Past L p):wScan L p=none:=by
 induction p with
 | zero=>rfl
 | succ p ih=>rw [wScan,ih (fun q hq=>h q (by omega)),fstF_none _ _ (h p (by omega))]
theorem wScan_at {L:List CTup} {p i:Nat} (h:Past L p) (hi:i<L.length) (h1:∀ j,j<i→cdP L p j=0) (h2:cdP L p i ≠ 0):∀ r,p<r→wScan L r=some (i,cdP L p i):=by
 intro r hr
 induction r with
 | zero=>omega
 | succ r ih =>
  rw [wScan]
  by_cases e:p<r
  ·rw [ih e]
  ·obtain rfl:p=r:=by omega
   rw [wScan_none h,fstF_at _ _ i hi h1 h2]
theorem wOut_big {L:List CTup} (h:400<L.length):wOut L=(0,2):=by unfold wOut;rw [if_pos h]
theorem wOut_many {L:List CTup} (h:¬ 400<L.length) (h2:10<L.length):wOut L=(10,1):=by unfold wOut;rw [if_neg h,if_pos h2]
theorem wOut_at {L:List CTup} {p i:Nat} (hl:L.length≤10) (hp:p<5) (h:Past L p) (hi:i<L.length) (h1:∀ j,j<i→cdP L p j=0) (h2:cdP L p i ≠ 0):wOut L=((i:Int),cdP L p i):=by
 unfold wOut;rw [if_neg (by omega),if_neg (by omega),wScan_at h hi h1 h2 5 hp]
theorem wOut_ok {L:List CTup} (hl:L.length≤10) (h:Past L 5):wOut L=(0,0):=by
 unfold wOut;rw [if_neg (by omega),if_neg (by omega),wScan_none h]
theorem Past.next {L:List CTup} {p:Nat} (h:Past L p) (h1:∀ j,j<L.length→cdP L p j=0):Past L (p+1):=fun q hq j hj=>by
 by_cases e:q=p
 ·subst e;exact h1 j hj
 ·exact h q (by omega) j hj

def Right (L:List CTup):Prop:=L.length≤10∧Past L 5
theorem right_code (L:List CTup):(Right L∧(wOut L).2=0∧wOut L=(0,0)) ∨ (¬ Right L∧(wOut L).2 ≠ 0):=by
 by_cases h400:400<L.length
 ·exact .inr ⟨fun h=>by have:=h.1;omega,by rw [wOut_big h400];decide⟩
 by_cases h10:10<L.length
 ·exact .inr ⟨fun h=>by have:=h.1;omega,by rw [wOut_many h400 h10];decide⟩
 have hl:L.length≤10:=by omega
 have step:∀ p,p≤5→Past L p ∨ ∃ q i,q<5∧Past L q∧i<L.length∧(∀ j,j<i→cdP L q j=0)∧cdP L q i ≠ 0:=by
  intro p hp
  induction p with
  | zero=>exact .inl fun q hq=>by omega
  | succ p ih =>
   rcases ih (by omega) with h | h
   ·by_cases hz:∀ j,j<L.length→cdP L p j=0
    ·exact .inl (h.next hz)
    ·right
     have:∀ n,n≤L.length→(∀ j,j<n→cdP L p j=0) ∨ ∃ i,i<L.length∧(∀ j,j<i→cdP L p j=0)∧cdP L p i ≠ 0:=by
      intro n hn
      induction n with
      | zero=>exact .inl fun j hj=>by omega
      | succ n ihn =>
       rcases ihn (by omega) with k | k
       ·by_cases e:cdP L p n=0
        ·left
         intro j hj
         by_cases e2:j=n
         ·subst e2;exact e
         ·exact k j (by omega)
        ·exact .inr ⟨n,by omega,k,e⟩
       ·exact .inr k
     rcases this L.length (Nat.le_refl _) with k | ⟨i,k1,k2,k3⟩
     ·exact absurd k hz
     ·exact⟨p,i,by omega,h,k1,k2,k3⟩
   ·exact .inr h
 rcases step 5 (Nat.le_refl _) with h | ⟨q,i,h1,h2,h3,h4,h5⟩
 ·exact .inl ⟨⟨hl,h⟩,by rw [wOut_ok hl h],wOut_ok hl h⟩
 ·refine .inr ⟨fun h=>h5 (h.2 q h1 i h3),?_⟩
  rw [wOut_at hl h1 h2 h3 h4 h5]
  exact h5

theorem cd0_zero {L:List CTup} {i:Nat} {c:CTup} (h:cd0 L i c=0):ClsP (cD c)∧knB (L.take i) (nmC c)=false:=by
 unfold cd0 at h
 rcases clsOk_cases (cD c) with ⟨h1,h2⟩ | ⟨h1,h2⟩
 ·rw [h1] at h
  refine ⟨h2,?_⟩
  cases e:knB (L.take i) (nmC c)
  ·rfl
  ·rw [e] at h;simp at h
 ·rw [h1] at h;simp at h
theorem knB_false {L:List CTup} {n:ByteArray}:knB L n=false ↔ (∀ b ∈ biC,nmC b ≠ n)∧∀ c ∈ L,nmC c ≠ n:=by
 unfold knB
 rw [Option.isSome_eq_false_iff,Option.isNone_iff_eq_none,lkG_none]
 unfold allC
 simp only [List.mem_append]
 exact⟨fun h=>⟨fun b hb=>h b (.inl hb),fun c hc=>h c (.inr hc)⟩,fun h c hc=>hc.elim (h.1 c) (h.2 c)⟩
theorem nameB_ne {n:ByteArray} (h:nameB n=true):n ≠ tE:=by
 rintro rfl
 revert h
 decide

structure Part (L:List CTup) (k:Nat):Prop where
 ok:∀ i (h:i<L.length),i<k→ClsP (cD L[i])
 ap:∀ i (h:i<L.length),i<k→∀ b ∈ biC,nmC L[i] ≠ nmC b
 nd:((L.take k).map nmC).Nodup
theorem part_of {L:List CTup} {k:Nat} (h:∀ j,j<k→cdP L 0 j=0):Part L k:=by
 refine ⟨fun i hi hk=>?_,fun i hi hk b hb e=>?_,?_⟩
 ·have:=h i hk;rw [cdP0 hi] at this;exact (cd0_zero this).1
 ·have:=h i hk;rw [cdP0 hi] at this;exact (knB_false.1 (cd0_zero this).2).1 b hb e.symm
 ·rw [List.nodup_iff_pairwise_ne,List.pairwise_iff_getElem]
  intro i j hi hj hij e
  simp at hi hj
  have:=h j (by omega)
  rw [cdP0 (by omega)] at this
  have h2:=(knB_false.1 (cd0_zero this).2).2 L[i] (List.mem_take_iff_getElem.2 ⟨i,by omega,rfl⟩)
  simp at e
  exact h2 e
theorem Part.two {L:List CTup} (h:Part L L.length):Two nmC suC tE biC L:=by
 refine ⟨?_,?_,fun c hc=>?_,fun c hc b hb=>?_⟩
 ·decide
 ·decide
 ·obtain ⟨i,hi,rfl⟩:=List.mem_iff_getElem.1 hc
  exact nameB_ne (h.ok i hi hi).n
 ·obtain ⟨i,hi,rfl⟩:=List.mem_iff_getElem.1 hc
  exact h.ap i hi hi b hb
theorem Part.nodup {L:List CTup} (h:Part L L.length):(L.map nmC).Nodup:=by have:=h.nd;rwa [List.take_length] at this
theorem Part.all {L:List CTup} (h:Part L L.length):((allC L).map nmC).Nodup:=by
 unfold allC
 rw [List.map_append,List.nodup_append]
 refine ⟨by rw [biC_nm];decide,h.nodup,fun a ha b hb e=>?_⟩
 obtain ⟨x,hx,rfl⟩:=List.mem_map.1 ha
 obtain ⟨y,hy,rfl⟩:=List.mem_map.1 hb
 exact h.two.ap y hy x hx e.symm
theorem biC_any:∀ b ∈ biC,(chG nmC suC biC (biC.length+1) (suC b)).any (fun d=>decide (nmC d=nmC b))=false:=by decide
theorem biC_acy:∀ b ∈ biC,¬ CycG nmC suC biC b:=by
 intro b hb h
 rw [cyc_bound (by rw [biC_nm];decide) hb] at h
 have:=any_nm.2 h
 rw [biC_any b hb] at this
 cases this
theorem past_acy {L:List CTup} (h:Past L 4):∀ c ∈ L,¬ CycG nmC suC L c:=by
 intro c hc
 obtain ⟨i,hi,rfl⟩:=List.mem_iff_getElem.1 hc
 have:=h 3 (by omega) i hi
 rw [cdP3 hi] at this
 unfold cd3 at this
 intro hcy
 rw [@if_pos _ (Classical.propDecidable _) hcy] at this
 omega
theorem Past.part {L:List CTup} {p:Nat} (h:Past L p) (hp:0<p):Part L L.length:=part_of fun j hj=>h 0 hp j hj
theorem Past.acyL {L:List CTup} (h:Past L 4):AcyG nmC suC L:=acy_of (h.part (by omega)).nodup (past_acy h)
theorem Past.acy {L:List CTup} (h:Past L 4):AcyG nmC suC (allC L):=(h.part (by omega)).two.acy biC_acy (past_acy h)
end Go.Proofs.YtmhgaggpdggbeaaGreatDoor
