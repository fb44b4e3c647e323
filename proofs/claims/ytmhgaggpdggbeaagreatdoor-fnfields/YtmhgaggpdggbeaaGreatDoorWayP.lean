import Derived.Test.YtmhgaggpdggbeaaGreatDoorRows
namespace Go.Proofs.YtmhgaggpdggbeaaGreatDoor
set_option linter.unusedVariables false

section
variable {α:Type} (nm su:α→ByteArray)

def lkG (A:List α) (n:ByteArray):Option α:=A.find? fun c=>decide (nm c=n)

def wayG (A:List α):Nat→List α→ByteArray→List α
 | 0,vis,_=>vis
 | f+1,vis,n =>
  match lkG nm A n with
  | none=>vis
  | some c=>if vis.any (fun d=>decide (nm d=n)) then vis else wayG A f (vis ++ [c]) (su c)

def chG (A:List α):Nat→ByteArray→List α
 | 0,_=>[]
 | f+1,n =>
  match lkG nm A n with
  | none=>[]
  | some c=>c :: chG A f (su c)

variable {nm su}

theorem lkG_some {A:List α} {n:ByteArray} {c:α} (h:lkG nm A n=some c):c ∈ A∧nm c=n:=by
 unfold lkG at h
 exact⟨List.mem_of_find?_eq_some h,by have:=List.find?_some h;simpa using this⟩
theorem lkG_none {A:List α} {n:ByteArray}:lkG nm A n=none ↔ ∀ c ∈ A,nm c ≠ n:=by
 unfold lkG
 rw [List.find?_eq_none]
 simp
theorem lkG_mem {A:List α} (hn:(A.map nm).Nodup) {c:α} (h:c ∈ A):lkG nm A (nm c)=some c:=by
 cases e:lkG nm A (nm c) with
 | none=>exact absurd rfl (lkG_none.1 e c h)
 | some d =>
  obtain ⟨h1,h2⟩:=lkG_some e
  have:d=c:=by
   obtain ⟨i,hi,rfl⟩:=List.mem_iff_getElem.1 h
   obtain ⟨j,hj,rfl⟩:=List.mem_iff_getElem.1 h1
   have hp:=List.pairwise_iff_getElem.1 hn
   by_cases e1:i<j
   ·exact absurd (by rw [List.getElem_map,List.getElem_map];exact h2.symm) (hp i j (by simpa using hi) (by simpa using hj) e1)
   ·by_cases e2:j<i
    ·exact absurd (by rw [List.getElem_map,List.getElem_map];exact h2) (hp j i (by simpa using hj) (by simpa using hi) e2)
    ·obtain rfl:i=j:=by omega
     rfl
  rw [this]
theorem any_nm {vis:List α} {n:ByteArray}:vis.any (fun d=>decide (nm d=n))=true ↔ n ∈ vis.map nm:=by
 rw [List.any_eq_true,List.mem_map]
 simp
theorem lkG_app (A B:List α) (n:ByteArray):lkG nm (A ++ B) n=(lkG nm A n).or (lkG nm B n):=by
 unfold lkG
 rw [List.find?_append]

theorem chG_zero (A:List α) (n:ByteArray):chG nm su A 0 n=[]:=rfl
theorem chG_none {A:List α} {n:ByteArray} (h:lkG nm A n=none) (f:Nat):chG nm su A f n=[]:=by
 cases f with
 | zero=>rfl
 | succ f=>unfold chG;rw [h]
theorem chG_some {A:List α} {n:ByteArray} {c:α} (h:lkG nm A n=some c) (f:Nat):chG nm su A (f+1) n=c :: chG nm su A f (su c):=by
 conv=>lhs;unfold chG
 rw [h]
theorem chG_sub (A:List α) (f:Nat):∀ n,∀ c ∈ chG nm su A f n,c ∈ A:=by
 induction f with
 | zero=>intro n c h;cases h
 | succ f ih =>
  intro n c h
  cases e:lkG nm A n with
  | none=>rw [chG_none e] at h;cases h
  | some d =>
   rw [chG_some e] at h
   rcases List.mem_cons.1 h with rfl | h
   ·exact (lkG_some e).1
   ·exact ih _ c h
theorem chG_mono (A:List α) (f:Nat):∀ n,∀ c ∈ chG nm su A f n,c ∈ chG nm su A (f+1) n:=by
 induction f with
 | zero=>intro n c h;cases h
 | succ f ih =>
  intro n c h
  cases e:lkG nm A n with
  | none=>rw [chG_none e] at h;cases h
  | some d =>
   rw [chG_some e] at h ⊢
   rcases List.mem_cons.1 h with rfl | h
   ·exact List.mem_cons_self
   ·exact List.mem_cons_of_mem _ (ih _ c h)
theorem chG_monoN (A:List α) {f g:Nat} (h:f≤g) (n:ByteArray):∀ c ∈ chG nm su A f n,c ∈ chG nm su A g n:=by
 induction g with
 | zero => obtain rfl : f = 0 := by omega
           exact fun c h=>h
 | succ g ih =>
  by_cases e:f=g+1
  ·subst e;exact fun c h=>h
  ·exact fun c hc=>chG_mono A g n c (ih (by omega) c hc)
theorem chG_stable (A:List α) (f:Nat):∀ n,(chG nm su A f n).length<f→chG nm su A (f+1) n=chG nm su A f n:=by
 induction f with
 | zero=>intro n h;omega
 | succ f ih =>
  intro n h
  cases e:lkG nm A n with
  | none=>rw [chG_none e,chG_none e]
  | some d =>
   rw [chG_some e] at h
   rw [chG_some e,chG_some e,ih _ (by simp at h;omega)]
theorem chG_stableN (A:List α) {f g:Nat} (n:ByteArray) (h:(chG nm su A f n).length<f) (hg:f≤g):chG nm su A g n=chG nm su A f n:=by
 induction g with
 | zero=>omega
 | succ g ih =>
  by_cases e:f=g+1
  ·subst e;rfl
  ·have:=ih (by omega)
   rw [chG_stable A g n (by rw [this];omega),this]

def AcyG (nm su:α→ByteArray) (A:List α):Prop:=∀ c ∈ A,nm c ∉ (chG nm su A (A.length+1) (su c)).map nm

theorem AcyG.nodup {A:List α} (h:AcyG nm su A) (f:Nat):f≤A.length+2→∀ n,((chG nm su A f n).map nm).Nodup:=by
 induction f with
 | zero=>intro _ n;exact List.nodup_nil
 | succ f ih =>
  intro hf n
  cases e:lkG nm A n with
  | none=>rw [chG_none e];exact List.nodup_nil
  | some d =>
   rw [chG_some e,List.map_cons,List.nodup_cons]
   refine ⟨fun hm=>?_,ih (by omega) _⟩
   obtain ⟨c,hc,hn⟩:=List.mem_map.1 hm
   exact h d (lkG_some e).1 (List.mem_map.2 ⟨c,chG_monoN A (by omega) _ c hc,hn⟩)
theorem AcyG.len {A:List α} (h:AcyG nm su A) (n:ByteArray):(chG nm su A (A.length+2) n).length≤A.length:=by
 have h1:=h.nodup (A.length+2) (by omega) n
 have h2:=List.Nodup.length_le_of_subset h1 (l₂:=A.map nm) (by
  intro x hx
  obtain ⟨c,hc,rfl⟩:=List.mem_map.1 hx
  exact List.mem_map.2 ⟨c,chG_sub A _ _ c hc,rfl⟩)
 simpa using h2
theorem AcyG.len1 {A:List α} (h:AcyG nm su A) (n:ByteArray):(chG nm su A (A.length+1) n).length≤A.length:=by
 have h1:=h.nodup (A.length+1) (by omega) n
 have h2:=List.Nodup.length_le_of_subset h1 (l₂:=A.map nm) (by
  intro x hx
  obtain ⟨c,hc,rfl⟩:=List.mem_map.1 hx
  exact List.mem_map.2 ⟨c,chG_sub A _ _ c hc,rfl⟩)
 simpa using h2
def CH (nm su:α→ByteArray) (A:List α) (n:ByteArray):List α:=chG nm su A (A.length+1) n
theorem AcyG.fuel {A:List α} (h:AcyG nm su A) (n:ByteArray) {g:Nat} (hg:A.length+1≤g):chG nm su A g n=CH nm su A n :=
 chG_stableN A n (by have:=h.len1 n;omega) hg
theorem CH_none {A:List α} {n:ByteArray} (e:lkG nm A n=none):CH nm su A n=[]:=chG_none e _
theorem AcyG.CH_some {A:List α} (h:AcyG nm su A) {n:ByteArray} {c:α} (e:lkG nm A n=some c):CH nm su A n=c :: CH nm su A (su c):=by
 rw [← h.fuel n (g:=A.length+2) (by omega),chG_some e]
 rfl
theorem AcyG.CH_nodup {A:List α} (h:AcyG nm su A) (n:ByteArray):((CH nm su A n).map nm).Nodup:=h.nodup _ (by omega) n
theorem CH_sub {A:List α} {n:ByteArray}:∀ c ∈ CH nm su A n,c ∈ A:=chG_sub A _ n

theorem wayG_chain (A:List α) (f:Nat):∀ vis n,(vis.map nm ++ (chG nm su A f n).map nm).Nodup→wayG nm su A f vis n=vis ++ chG nm su A f n:=by
 induction f with
 | zero=>intro vis n _;simp [wayG,chG]
 | succ f ih =>
  intro vis n h
  cases e:lkG nm A n with
  | none=>rw [chG_none e];unfold wayG;rw [e];simp
  | some d =>
   rw [chG_some e] at h ⊢
   have hd:=(lkG_some e).2
   unfold wayG
   rw [e]
   have hnot:n ∉ vis.map nm:=fun hm=>by
    rw [List.nodup_append] at h
    exact h.2.2 n hm n (by rw [List.map_cons,hd];exact List.mem_cons_self) rfl
   simp only [if_neg (mt any_nm.1 hnot)]
   rw [ih (vis ++ [d]) (su d) (by simpa using h)]
   simp
theorem AcyG.way {A:List α} (h:AcyG nm su A) (n:ByteArray):wayG nm su A (A.length+1) [] n=CH nm su A n:=by
 rw [wayG_chain A _ [] n (by simpa [CH] using h.CH_nodup n)]
 rfl

theorem wayG_inv (A:List α) (f:Nat):∀ vis n,(vis.map nm).Nodup→(∀ c ∈ vis,c ∈ A)→((wayG nm su A f vis n).map nm).Nodup∧(∀ c ∈ wayG nm su A f vis n,c ∈ A)∧vis <+: wayG nm su A f vis n:=by
 induction f with
 | zero=>intro vis n h1 h2;exact⟨h1,h2,List.prefix_refl _⟩
 | succ f ih =>
  intro vis n h1 h2
  unfold wayG
  cases e:lkG nm A n with
  | none=>exact⟨h1,h2,List.prefix_refl _⟩
  | some d =>
   simp only
   split
   ·exact⟨h1,h2,List.prefix_refl _⟩
   ·next hn =>
    obtain ⟨k1,k2,k3⟩:=ih (vis ++ [d]) (su d) (by
     rw [List.map_append,List.nodup_append]
     refine ⟨h1,by simp,fun a ha b hb hab=>?_⟩
     simp at hb
     subst hb
     subst hab
     rw [(lkG_some e).2] at ha
     exact hn (any_nm.2 ha)) (by
     intro c hc
     rcases List.mem_append.1 hc with hc | hc
     ·exact h2 c hc
     ·simp at hc;subst hc;exact (lkG_some e).1)
    exact⟨k1,k2,List.IsPrefix.trans (List.prefix_append _ _) k3⟩
theorem nodup_sub_len {A vis:List α} (h1:(vis.map nm).Nodup) (h2:∀ c ∈ vis,c ∈ A):vis.length≤A.length:=by
 have:=List.Nodup.length_le_of_subset h1 (l₂:=A.map nm) (by
  intro x hx
  obtain ⟨c,hc,rfl⟩:=List.mem_map.1 hx
  exact List.mem_map.2 ⟨c,h2 c hc,rfl⟩)
 simpa using this

theorem wayG_round (A:List α) (hAu:∀ x ∈ A,∀ y ∈ A,nm x=nm y→x=y) (v0:α) (f:Nat):∀ rest n,((v0 :: rest).map nm).Nodup→(∀ c ∈ v0 :: rest,c ∈ A)→rest.length+1+f=A.length+1 →
  (∃ init last,v0 :: rest=init ++ [last]∧su last=n)→(∀ d ∈ v0 :: rest,su d=n ∨ ∃ d' ∈ rest,lkG nm A (su d)=some d')→(∀ g,chG nm su A (rest.length+g) (su v0)=rest ++ chG nm su A g n) →
  (∃ init last,wayG nm su A f (v0 :: rest) n=init ++ [last]∧((su last=nm v0∧∃ k,k≤A.length∧nm v0 ∈ (chG nm su A k (su v0)).map nm) ∨ (su last ≠ nm v0∧∀ g,nm v0 ∉ (chG nm su A g (su v0)).map nm))):=by
 induction f with
 | zero =>
  intro rest n h1 h2 hf
  have:=nodup_sub_len h1 h2
  simp at this
  omega
 | succ f ih =>
  intro rest n h1 h2 hf h3 h4 h5
  obtain ⟨init,last,e1,e2⟩:=h3
  have closed:(∀ d ∈ v0 :: rest,∀ d',lkG nm A (su d)=some d'→d' ∈ rest)→∀ g,∀ d ∈ v0 :: rest,∀ c ∈ chG nm su A g (su d),c ∈ rest:=by
   intro hcl g
   induction g with
   | zero=>intro d _ c hc;cases hc
   | succ g ihg =>
    intro d hd c hc
    cases e:lkG nm A (su d) with
    | none=>rw [chG_none e] at hc;cases hc
    | some d' =>
     rw [chG_some e] at hc
     have:=hcl d hd d' e
     rcases List.mem_cons.1 hc with rfl | hc
     ·exact this
     ·exact ihg d' (List.mem_cons_of_mem _ this) c hc
  have out:(∀ d ∈ v0 :: rest,∀ d',lkG nm A (su d)=some d'→d' ∈ rest)→∀ g,nm v0 ∉ (chG nm su A g (su v0)).map nm:=by
   intro hcl g hm
   obtain ⟨c,hc,hn⟩:=List.mem_map.1 hm
   have:=closed hcl g v0 List.mem_cons_self c hc
   rw [List.map_cons,List.nodup_cons] at h1
   exact h1.1 (hn ▸ List.mem_map.2 ⟨c,this,rfl⟩)
  unfold wayG
  cases e:lkG nm A n with
  | none =>
   refine ⟨init,last,e1,.inr ⟨fun hl=>?_,out fun d hd d' hd'=>?_⟩⟩
   ·have:lkG nm A (nm v0) ≠ none:=fun hn=>lkG_none.1 hn v0 (h2 v0 List.mem_cons_self) rfl
    exact this (by rw [← hl,e2,e])
   ·rcases h4 d hd with k | ⟨x,hx,k⟩
    ·rw [k,e] at hd';cases hd'
    ·rw [k] at hd';cases hd';exact hx
  | some c =>
   simp only
   split
   ·next hv =>
    rw [any_nm] at hv
    refine ⟨init,last,e1,?_⟩
    by_cases hn0:n=nm v0
    ·refine .inl ⟨by rw [e2,hn0],rest.length+1,by have:=nodup_sub_len h1 h2;simpa using this,?_⟩
     rw [h5 1,chG_some e,List.map_append]
     refine List.mem_append.2 (.inr ?_)
     simp [(lkG_some e).2,hn0]
    ·refine .inr ⟨by rw [e2];exact hn0,out fun d hd d' hd'=>?_⟩
     have hcr:c ∈ rest:=by
      obtain ⟨x,hx,hxn⟩:=List.mem_map.1 hv
      have hc:=lkG_some e
      rcases List.mem_cons.1 hx with rfl | hx
      ·exact absurd hxn.symm hn0
      ·have hxc:x=c:=hAu x (h2 _ (List.mem_cons_of_mem _ hx)) c hc.1 (by rw [hxn,hc.2])
       exact hxc ▸ hx
     rcases h4 d hd with k | ⟨x,hx,k⟩
     ·rw [k,e] at hd';cases hd';exact hcr
     ·rw [k] at hd';cases hd';exact hx
   ·next hv =>
    have hv':n ∉ (v0 :: rest).map nm:=fun hm=>hv (any_nm.2 hm)
    have hc:=lkG_some e
    have:=ih (rest ++ [c]) (su c) (by
     have:v0 :: (rest ++ [c])=(v0 :: rest) ++ [c]:=rfl
     rw [this,List.map_append,List.nodup_append]
     refine ⟨h1,by simp,fun a ha b hb hab=>?_⟩
     simp at hb
     subst hb
     subst hab
     rw [hc.2] at ha
     exact hv' ha) (by
     intro d hd
     rcases List.mem_cons.1 hd with rfl | hd
     ·exact h2 _ List.mem_cons_self
     ·rcases List.mem_append.1 hd with hd | hd
      ·exact h2 _ (List.mem_cons_of_mem _ hd)
      ·simp at hd;subst hd;exact hc.1) (by simp;omega) ⟨v0 :: rest,c,rfl,rfl⟩ (by
     intro d hd
     rcases List.mem_append.1 (show d ∈ (v0 :: rest) ++ [c] from hd) with hd | hd
     ·rcases h4 d hd with k | ⟨x,hx,k⟩
      ·exact .inr ⟨c,by simp,by rw [k];exact e⟩
      ·exact .inr ⟨x,List.mem_append.2 (.inl hx),k⟩
     ·simp at hd;subst hd;exact .inl rfl) (by
     intro g
     rw [List.length_append,List.length_singleton,Nat.add_assoc,h5 (1+g),Nat.add_comm 1 g,chG_some e]
     simp)
    exact this

theorem uniq_of_nodup {A:List α} (hn:(A.map nm).Nodup):∀ x ∈ A,∀ y ∈ A,nm x=nm y→x=y:=fun x hx y hy e=>by
 have h1:=lkG_mem hn hx
 rw [e,lkG_mem hn hy] at h1
 exact (Option.some.inj h1).symm

def CycG (nm su:α→ByteArray) (A:List α) (c:α):Prop:=∃ g,nm c ∈ (chG nm su A g (su c)).map nm

theorem way_round {A:List α} (hn:(A.map nm).Nodup) {c:α} (hc:c ∈ A) :
  ∃ init last,wayG nm su A (A.length+1) [] (nm c)=init ++ [last]∧((su last=nm c∧CycG nm su A c) ∨ (su last ≠ nm c∧¬ CycG nm su A c)):=by
 have e:=lkG_mem hn hc
 have h:=wayG_round A (uniq_of_nodup hn) c A.length [] (su c) (by simp) (by simpa using hc) (by simp;omega) ⟨[],c,rfl,rfl⟩ (by simp) (by intro g;simp)
 have e2:wayG nm su A (A.length+1) [] (nm c)=wayG nm su A A.length [c] (su c):=by
  conv=>lhs;unfold wayG
  rw [e]
  simp
 rw [e2]
 obtain ⟨init,last,h1,h2⟩:=h
 refine ⟨init,last,h1,?_⟩
 rcases h2 with ⟨h2,k,_,h3⟩ | ⟨h2,h3⟩
 ·exact .inl ⟨h2,k,h3⟩
 ·exact .inr ⟨h2,fun ⟨g,hg⟩=>h3 g hg⟩
theorem cyc_bound {A:List α} (hn:(A.map nm).Nodup) {c:α} (hc:c ∈ A):CycG nm su A c ↔ nm c ∈ (chG nm su A (A.length+1) (su c)).map nm:=by
 have h:=wayG_round A (uniq_of_nodup hn) c A.length [] (su c) (by simp) (by simpa using hc) (by simp;omega) ⟨[],c,rfl,rfl⟩ (by simp) (by intro g;simp)
 obtain ⟨init,last,h1,h2⟩:=h
 constructor
 ·rintro ⟨g,hg⟩
  rcases h2 with ⟨h2,k,hk,h3⟩ | ⟨h2,h3⟩
  ·obtain ⟨d,hd,e⟩:=List.mem_map.1 h3
   exact List.mem_map.2 ⟨d,chG_monoN A (by omega) _ d hd,e⟩
  ·exact absurd hg (h3 g)
 ·exact fun h=>⟨_,h⟩
theorem acy_of {A:List α} (hn:(A.map nm).Nodup) (h:∀ c ∈ A,¬ CycG nm su A c):AcyG nm su A:=fun c hc hm=>h c hc ⟨_,hm⟩

structure Two (nm su:α→ByteArray) (e0:ByteArray) (B L:List α):Prop where
 up:∀ b ∈ B,su b=e0 ∨ ∃ b' ∈ B,nm b'=su b
 be:∀ b ∈ B,nm b ≠ e0
 le:∀ c ∈ L,nm c ≠ e0
 ap:∀ c ∈ L,∀ b ∈ B,nm c ≠ nm b

theorem Two.lkL {e0:ByteArray} {B L:List α} (h:Two nm su e0 B L) {b:α} (hb:b ∈ B):lkG nm L (su b)=none:=by
 rw [lkG_none]
 intro c hc e
 rcases h.up b hb with k | ⟨b',hb',k⟩
 ·exact h.le c hc (e.trans k)
 ·exact h.ap c hc b' hb' (e.trans k.symm)
theorem Two.lkB {e0:ByteArray} {B L:List α} (h:Two nm su e0 B L) {b:α} {n:ByteArray} (hb:lkG nm B n=some b):lkG nm (B ++ L) n=some b:=by rw [lkG_app,hb];rfl
theorem Two.lkU {e0:ByteArray} {B L:List α} (h:Two nm su e0 B L) {c:α} {n:ByteArray} (hc:lkG nm L n=some c):lkG nm (B ++ L) n=some c:=by
 have:lkG nm B n=none:=by
  rw [lkG_none]
  intro b hb e
  exact h.ap c (lkG_some hc).1 b hb ((lkG_some hc).2.trans e.symm)
 rw [lkG_app,this,hc]
 rfl
theorem Two.e0 {e0:ByteArray} {B L:List α} (h:Two nm su e0 B L):lkG nm (B ++ L) e0=none:=by
 rw [lkG_none]
 intro c hc
 rcases List.mem_append.1 hc with k | k
 ·exact h.be c k
 ·exact h.le c k
theorem Two.mem {e0:ByteArray} {B L:List α} (h:Two nm su e0 B L) {c:α} (hc:∀ b ∈ B,nm c ≠ nm b) (g:Nat):∀ n,nm c ∈ (chG nm su (B ++ L) g n).map nm ↔ nm c ∈ (chG nm su L g n).map nm:=by
 induction g with
 | zero=>intro n;simp [chG]
 | succ g ih =>
  intro n
  cases eB:lkG nm B n with
  | some b =>
   have hb:=lkG_some eB
   have eL:lkG nm L n=none:=by
    rw [lkG_none]
    intro x hx e
    exact h.ap x hx b hb.1 (e.trans hb.2.symm)
   rw [chG_some (h.lkB eB),chG_none eL,List.map_cons,List.mem_cons,ih,chG_none (h.lkL hb.1)]
   constructor
   ·rintro (k | k)
    ·exact absurd k (hc b hb.1)
    ·exact k
   ·intro k;cases k
  | none =>
   have eA:lkG nm (B ++ L) n=lkG nm L n:=by rw [lkG_app,eB];rfl
   cases eL:lkG nm L n with
   | none=>rw [chG_none (by rw [eA,eL]),chG_none eL]
   | some d=>rw [chG_some (by rw [eA,eL]),chG_some eL,List.map_cons,List.map_cons,List.mem_cons,List.mem_cons,ih]
theorem Two.cyc {e0:ByteArray} {B L:List α} (h:Two nm su e0 B L) {c:α} (hc:c ∈ L):CycG nm su (B ++ L) c ↔ CycG nm su L c :=
 ⟨fun ⟨g,hg⟩=>⟨g,(h.mem (h.ap c hc) g _).1 hg⟩,fun ⟨g,hg⟩=>⟨g,(h.mem (h.ap c hc) g _).2 hg⟩⟩
theorem Two.chB {e0:ByteArray} {B L:List α} (h:Two nm su e0 B L) (g:Nat):∀ n,(n=e0 ∨ ∃ b ∈ B,nm b=n)→chG nm su (B ++ L) g n=chG nm su B g n:=by
 induction g with
 | zero=>intro n _;rfl
 | succ g ih =>
  intro n hn
  cases eB:lkG nm B n with
  | none =>
   rw [chG_none eB]
   rcases hn with rfl | ⟨b,hb,e⟩
   ·exact chG_none h.e0 _
   ·exact absurd e (lkG_none.1 eB b hb)
  | some b =>
   rw [chG_some (h.lkB eB),chG_some eB,ih]
   exact h.up b (lkG_some eB).1
theorem Two.acy {e0:ByteArray} {B L:List α} (h:Two nm su e0 B L) (hB:∀ b ∈ B,¬ CycG nm su B b) (hL:∀ c ∈ L,¬ CycG nm su L c):AcyG nm su (B ++ L):=by
 intro c hc hm
 rcases List.mem_append.1 hc with k | k
 ·refine hB c k ⟨(B ++ L).length+1,?_⟩
  rw [h.chB _ _ (h.up c k)] at hm
  exact hm
 ·exact hL c k ((h.cyc k).1 ⟨_,hm⟩)
theorem Two.chain {e0:ByteArray} {B L:List α} (h:Two nm su e0 B L) (hA:AcyG nm su (B ++ L)) (hL:AcyG nm su L) (m:Nat):∀ n,(CH nm su (B ++ L) n).length≤m→∃ tl,CH nm su (B ++ L) n=CH nm su L n ++ tl∧∀ b ∈ tl,b ∈ B:=by
 induction m with
 | zero =>
  intro n hm
  cases e:lkG nm L n with
  | none=>exact⟨[],by rw [List.length_eq_zero_iff.1 (Nat.le_zero.1 hm),CH_none e];rfl,by simp⟩
  | some c=>rw [hA.CH_some (h.lkU e)] at hm;simp at hm
 | succ m ih =>
  intro n hm
  cases e:lkG nm L n with
  | some c =>
   rw [hA.CH_some (h.lkU e)] at hm ⊢
   obtain ⟨tl,h1,h2⟩:=ih (su c) (by simpa using hm)
   exact⟨tl,by rw [h1,hL.CH_some e];rfl,h2⟩
  | none =>
   refine ⟨CH nm su (B ++ L) n,by rw [CH_none e];rfl,?_⟩
   cases eB:lkG nm B n with
   | none=>rw [CH_none (by rw [lkG_app,eB,e];rfl:lkG nm (B ++ L) n=none)];simp
   | some b =>
    rw [show CH nm su (B ++ L) n=chG nm su B ((B ++ L).length+1) n from h.chB _ _ (.inr ⟨b,(lkG_some eB).1,(lkG_some eB).2⟩)]
    exact chG_sub B _ n
end
end Go.Proofs.YtmhgaggpdggbeaaGreatDoor
