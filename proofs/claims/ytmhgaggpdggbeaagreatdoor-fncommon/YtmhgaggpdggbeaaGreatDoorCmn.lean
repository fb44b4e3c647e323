import Derived.Test.YtmhgaggpdggbeaaGreatDoorWi14
namespace Go.Proofs.YtmhgaggpdggbeaaGreatDoor
open Go.RowKit
set_option maxRecDepth 20000
set_option linter.unusedVariables false
theorem sb_iff {L:List CTup} {a b:ByteArray}:sbC L a b=true ↔ b ∈ (CH nmC suC (allC L) a).map nmC:=by
 unfold sbC
 simp only [List.any_eq_true,decide_eq_true_eq,List.mem_map]
theorem suf_at {L:List CTup} (hA:AcyG nmC suC (allC L)) {c:CTup} {post:List CTup}:∀ (pre:List CTup) (a:ByteArray),CH nmC suC (allC L) a=pre ++ c :: post→CH nmC suC (allC L) (nmC c)=c :: post:=by
 intro pre
 induction pre with
 | nil =>
  intro a h
  cases e:lkG nmC (allC L) a with
  | none=>rw [CH_none e] at h;cases h
  | some x =>
   have h2:=hA.CH_some e
   rw [h] at h2
   have hx:c=x:=by simpa using (List.cons.inj h2).1
   subst hx
   rw [(lkG_some e).2,h]
   rfl
 | cons p pre ih =>
  intro a h
  cases e:lkG nmC (allC L) a with
  | none=>rw [CH_none e] at h;cases h
  | some x =>
   have h2:=hA.CH_some e
   rw [h] at h2
   exact ih _ (List.cons.inj h2).2.symm
theorem sb_anti {L:List CTup} (hA:AcyG nmC suC (allC L)) {x y:ByteArray} (h1:sbC L x y=true) (h2:sbC L y x=true):x=y:=by
 rw [sb_iff,List.mem_map] at h1 h2
 obtain ⟨c,hc,rfl⟩:=h1
 obtain ⟨d,hd,rfl⟩:=h2
 obtain ⟨p1,q1,e1⟩:=List.append_of_mem hc
 obtain ⟨p2,q2,e2⟩:=List.append_of_mem hd
 have f1:=suf_at hA p1 _ e1
 have f2:=suf_at hA p2 _ e2
 have l1:=congrArg List.length e1
 have l2:=congrArg List.length e2
 rw [f2] at l1
 rw [f1] at l2
 simp only [List.length_cons,List.length_append] at l1 l2
 have hp:p1=[]:=List.eq_nil_of_length_eq_zero (by omega)
 subst hp
 rw [List.nil_append,f2] at e1
 rw [(List.cons.inj e1).1]
theorem com_spec (L:List CTup) (b:ByteArray):∀ W,(comL L b W=tE∧∀ c ∈ W,sbC L b (nmC c)=false) ∨ ∃ pre c post,W=pre ++ c :: post∧comL L b W=nmC c∧sbC L b (nmC c)=true∧∀ d ∈ pre,sbC L b (nmC d)=false:=by
 intro W
 induction W with
 | nil=>exact .inl ⟨rfl,fun c hc=>by cases hc⟩
 | cons c t ih =>
  unfold comL
  cases hs:sbC L b (nmC c) with
  | true=>exact .inr ⟨[],c,t,rfl,rfl,hs,fun d hd=>by cases hd⟩
  | false =>
   rcases ih with ⟨h1,h2⟩ | ⟨pre,d,post,h1,h2,h3,h4⟩
   ·refine .inl ⟨h1,fun d hd=>?_⟩
    rcases List.mem_cons.1 hd with rfl | hd
    ·exact hs
    ·exact h2 d hd
   ·refine .inr ⟨c :: pre,d,post,by rw [h1];rfl,h2,h3,fun e he=>?_⟩
    rcases List.mem_cons.1 he with rfl | he
    ·exact hs
    ·exact h4 e he
theorem com_up {L:List CTup} (hA:AcyG nmC suC (allC L)) {a b:ByteArray} {pre post:List CTup} {c:CTup} (h1:CH nmC suC (allC L) a=pre ++ c :: post) (h4:∀ d ∈ pre,sbC L b (nmC d)=false) {y:ByteArray} (ya:sbC L a y=true) (yb:sbC L b y=true):sbC L (nmC c) y=true:=by
 rw [sb_iff,suf_at hA pre _ h1]
 rw [sb_iff,h1,List.map_append,List.mem_append] at ya
 rcases ya with ya | ya
 ·obtain ⟨d,hd,rfl⟩:=List.mem_map.1 ya
  rw [h4 d hd] at yb
  cases yb
 ·exact ya
theorem com_sym {L:List CTup} (hA:AcyG nmC suC (allC L)) (a b:ByteArray):comL L b (CH nmC suC (allC L) a)=comL L a (CH nmC suC (allC L) b):=by
 have mem:∀ {n:ByteArray} {c:CTup},c ∈ CH nmC suC (allC L) n→sbC L n (nmC c)=true:=fun h=>sb_iff.2 (List.mem_map_of_mem h)
 have cross:∀ {a b:ByteArray} {pre post:List CTup} {c:CTup},CH nmC suC (allC L) a=pre ++ c :: post→sbC L b (nmC c)=true→(∀ d ∈ CH nmC suC (allC L) b,sbC L a (nmC d)=false)→False:=fun {a b pre post c} h1 h3 h=>by
  obtain ⟨d,hd,e⟩:=List.mem_map.1 (sb_iff.1 h3)
  have:=h d hd
  rw [e,mem (by rw [h1];simp)] at this
  cases this
 rcases com_spec L b (CH nmC suC (allC L) a) with ⟨h1,h2⟩ | ⟨pre,c,post,h1,h2,h3,h4⟩
 ·rcases com_spec L a (CH nmC suC (allC L) b) with ⟨k1,k2⟩ | ⟨pre',d,post',k1,k2,k3,k4⟩
  ·rw [h1,k1]
  ·exact (cross k1 k3 h2).elim
 ·rcases com_spec L a (CH nmC suC (allC L) b) with ⟨k1,k2⟩ | ⟨pre',d,post',k1,k2,k3,k4⟩
  ·exact (cross h1 h3 k2).elim
  ·rw [h2,k2]
   exact sb_anti hA (com_up hA h1 h4 k3 (mem (by rw [k1];simp))) (com_up hA k1 k4 h3 (mem (by rw [h1];simp)))
theorem cm_sym (L:List CTup) (a b:ByteArray):cmV L b a=cmV L a b:=by
 unfold cmV
 by_cases h:rtB L=true
 ·rw [if_pos h,if_pos h]
  exact com_sym (rt_right h).acy b a
 ·rw [if_neg h,if_neg h]
theorem cm_above {L:List CTup} {a b:ByteArray} (h:cmV L a b ≠ tE):isV L a (cmV L a b)=true∧isV L b (cmV L a b)=true∧∀ c,isV L a c=true→isV L b c=true→isV L (cmV L a b) c=true:=by
 by_cases hr:rtB L=true
 ·have hA:=(rt_right hr).acy
  have e:cmV L a b=comL L b (CH nmC suC (allC L) a):=by unfold cmV;rw [if_pos hr]
  rw [e] at h ⊢
  rcases com_spec L b (CH nmC suC (allC L) a) with ⟨h1,_⟩ | ⟨pre,c,post,h1,h2,h3,h4⟩
  ·exact absurd h1 h
  ·rw [h2]
   unfold isV
   rw [hr,h3]
   simp only [Bool.true_and]
   exact⟨sb_iff.2 (List.mem_map_of_mem (by rw [h1];simp)),trivial,fun y ya yb=>com_up hA h1 h4 ya yb⟩
 ·exact absurd (by unfold cmV;rw [if_neg hr]) h
theorem cm_small {L:List CTup} {a b:ByteArray} (h:cmV L a b ≠ tE):(cmV L a b).size≤maxLen:=by
 by_cases hr:rtB L=true
 ·have e:cmV L a b=comL L b (CH nmC suC (allC L) a):=by unfold cmV;rw [if_pos hr]
  rw [e] at h ⊢
  rcases com_spec L b (CH nmC suC (allC L) a) with ⟨h1,_⟩ | ⟨pre,c,post,h1,h2,_⟩
  ·exact absurd h1 h
  ·rw [h2]
   exact Nat.le_trans (all_size (rt_right hr).part c (CH_sub c (by rw [h1];simp))) (by decide)
 ·exact absurd (by unfold cmV;rw [if_neg hr]) h
end Go.Proofs.YtmhgaggpdggbeaaGreatDoor
