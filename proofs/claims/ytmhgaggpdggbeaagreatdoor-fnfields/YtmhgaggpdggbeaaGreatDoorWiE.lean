import Derived.Test.YtmhgaggpdggbeaaGreatDoorWi10
import Derived.Test.YtmhgaggpdggbeaaGreatDoorWd3
namespace Go.Proofs.YtmhgaggpdggbeaaGreatDoor
open Go.RowKit
set_option maxRecDepth 20000
set_option linter.unusedVariables false

theorem lkE (E:List WE) (n:ByteArray):(lkG nmE E n).map WE.c=lkG nmC (E.map WE.c) n:=by
 unfold lkG
 rw [List.find?_map]
 rfl
theorem chE (E:List WE) (f:Nat):∀ n,(chG nmE suE E f n).map WE.c=chG nmC suC (E.map WE.c) f n:=by
 induction f with
 | zero=>intro n;rfl
 | succ f ih =>
  intro n
  have h:=lkE E n
  cases e:lkG nmE E n with
  | none=>rw [e] at h;rw [chG_none e,chG_none h.symm];rfl
  | some x=>rw [e] at h;rw [chG_some e,chG_some (c:=x.c) h.symm,List.map_cons,ih]
theorem cycE (E:List WE) (x:WE):CycG nmE suE E x ↔ CycG nmC suC (E.map WE.c) x.c:=by
 have h:∀ g,(chG nmE suE E g (suE x)).map nmE=(chG nmC suC (E.map WE.c) g (suC x.c)).map nmC:=fun g=>by
  rw [← chE,List.map_map];rfl
 exact⟨fun ⟨g,hg⟩=>⟨g,by rw [← h g];exact hg⟩,fun ⟨g,hg⟩=>⟨g,by rw [h g];exact hg⟩⟩
theorem isSomeE (E:List WE) (n:ByteArray):(lkG nmE E n).isSome=(lkG nmC (E.map WE.c) n).isSome:=by rw [← lkE];simp
theorem wyE {E:List WE} {L:List CTup} (hA:AcyG nmC suC (allC L)) (h:E.map WE.c=allC L) (n:ByteArray):(wyG E n).map WE.c=CH nmC suC (allC L) n:=by
 have hE:AcyG nmE suE E:=fun x hx hm=>by
  have e:(chG nmE suE E (E.length+1) (suE x)).map nmE=(chG nmC suC (allC L) ((allC L).length+1) (suC x.c)).map nmC:=by
   rw [← h,← chE,List.map_map,List.length_map];rfl
  rw [e] at hm
  exact hA x.c (by rw [← h];exact List.mem_map.2 ⟨x,hx,rfl⟩) hm
 unfold wyG
 rw [hE.way n]
 unfold CH
 rw [chE,h,← h,List.length_map]
theorem isBi_user {L:List CTup} (hp:Part L L.length) {c:CTup} (hc:c ∈ L):isBi (nmC c)=false:=by
 unfold isBi
 rw [List.any_eq_false]
 intro b hb
 simp only [decide_eq_true_eq]
 intro e
 rw [← biC_nm] at hb
 obtain ⟨d,hd,e2⟩:=List.mem_map.1 hb
 obtain ⟨i,hi,rfl⟩:=List.mem_iff_getElem.1 hc
 exact hp.ap i hi hi d hd (by rw [e2,e])
theorem isBi_bi {c:CTup} (hc:c ∈ biC):isBi (nmC c)=true:=by
 unfold isBi
 rw [List.any_eq_true]
 exact⟨nmC c,by rw [← biC_nm];exact List.mem_map.2 ⟨c,hc,rfl⟩,by simp⟩
theorem mKeys_len {c:CTup} (hb:isBi (nmC c)=false):(mKeys c).length=(msC c).length:=by unfold mKeys;rw [hb];simp
theorem mKeys_get {c:CTup} (hb:isBi (nmC c)=false) (k:Nat) (hk:k<(msC c).length) (hk2:k<(mKeys c).length):(mKeys c)[k]=((mD (msC c)[k]).name,(mD (msC c)[k]).desc,(k:Int)):=by
 have e:mKeys c=(List.range (msC c).length).map (mKey1 (msC c)):=by unfold mKeys;rw [hb];rfl
 have:(mKeys c)[k]?=some ((mD (msC c)[k]).name,(mD (msC c)[k]).desc,(k:Int)):=by
  rw [e,List.getElem?_map,List.getElem?_range hk]
  simp only [Option.map_some,mKey1,List.getElem?_eq_getElem hk]
 rw [List.getElem?_eq_getElem hk2] at this
 exact Option.some.inj this
theorem mFx_some {ms:List MTup} {n d:ByteArray} {k:Nat} (h:mFixL ms n d=some k):∃ hk:k<ms.length,(mD ms[k]).name=n∧(mD ms[k]).desc=d:=by
 unfold mFixL at h
 rw [List.findIdx?_eq_some_iff_getElem] at h
 obtain ⟨hk,h1,_⟩:=h
 simp only [Bool.and_eq_true,decide_eq_true_eq] at h1
 exact⟨hk,h1.1,h1.2⟩
theorem mFx_none {ms:List MTup} {n d:ByteArray} (h:mFixL ms n d=none):∀ j (hj:j<ms.length),¬ ((mD ms[j]).name=n∧(mD ms[j]).desc=d):=by
 unfold mFixL at h
 rw [List.findIdx?_eq_none_iff] at h
 intro j hj e
 have:=h ms[j] (List.getElem_mem hj)
 simp only [Bool.and_eq_false_iff,decide_eq_false_iff_not] at this
 rcases this with k | k
 ·exact k e.1
 ·exact k e.2
theorem kLk_user {c:CTup} {n d:ByteArray} (hb:isBi (nmC c)=false) (nd:∀ i j (hi:i<(mKeys c).length) (hj:j<(mKeys c).length),i<j→¬ ((mKeys c)[i].1=(mKeys c)[j].1∧(mKeys c)[i].2.1=(mKeys c)[j].2.1)):kLk c n d=(mFixL (msC c) n d).map fun k=>(k:Int):=by
 have hlen:=mKeys_len hb
 cases h:mFixL (msC c) n d with
 | none =>
  refine kLk_no fun j hj e=>?_
  rw [mKeys_get hb j (by omega) hj] at e
  exact mFx_none h j (by omega) e
 | some k =>
  obtain ⟨hk,h1,h2⟩:=mFx_some h
  have hk2:k<(mKeys c).length:=by omega
  have e:=mKeys_get hb k hk hk2
  have:=kLk_at hk2 (n:=n) (d:=d) (by rw [e];exact h1) (by rw [e];exact h2) nd
  rw [this,e]
  rfl
theorem kLk_bi {c:CTup} {n d:ByteArray} (hb:isBi (nmC c)=true) (hn:n ≠ initN):kLk c n d=none:=by
 unfold kLk mKeys
 rw [hb]
 simp [kIs]
 intro e
 exact absurd e.symm hn
theorem fm_near {n d:ByteArray} (hn:n ≠ initN):∀ (T:List WE) (A tl:List CTup),T.map WE.c=A ++ tl→(∀ c ∈ A,isBi (nmC c)=false)→(∀ c ∈ tl,isBi (nmC c)=true)→(∀ x ∈ T,∀ i j (hi:i<(mKeys x.c).length) (hj:j<(mKeys x.c).length),i<j→¬ ((mKeys x.c)[i].1=(mKeys x.c)[j].1∧(mKeys x.c)[i].2.1=(mKeys x.c)[j].2.1)) →
  ∀ u k,nearM A n d=some (u,k)→∃ y ∈ T,y.c=u∧(∃ hk:k<(msC u).length,True)∧fmF n d T=(nmC u,(k:Int),0):=by
 intro T
 induction T with
 | nil =>
  intro A tl h _ _ _ u k hnear
  have:A=[]:=by
   have:=congrArg List.length h
   simp at this
   exact List.eq_nil_of_length_eq_zero (by omega)
  subst this
  cases hnear
 | cons x t ih =>
  intro A tl h hA htl hnd u k hnear
  cases A with
  | nil=>cases hnear
  | cons c A =>
   simp only [List.map_cons,List.cons_append,List.cons.injEq] at h
   obtain ⟨h1,h2⟩:=h
   have hk:=kLk_user (n:=n) (d:=d) (by rw [h1];exact hA c List.mem_cons_self) (hnd x List.mem_cons_self)
   unfold nearM at hnear
   rw [List.findSome?_cons] at hnear
   unfold fmF
   cases hm:mFixL (msC c) n d with
   | some k' =>
    rw [hm] at hnear
    simp only [Option.map_some,Option.some.injEq,Prod.mk.injEq] at hnear
    obtain ⟨rfl,rfl⟩:=hnear
    rw [h1,hm] at hk
    rw [h1,hk]
    exact⟨x,List.mem_cons_self,h1,⟨(mFx_some hm).1,trivial⟩,rfl⟩
   | none =>
    rw [hm] at hnear
    simp only [Option.map_none] at hnear
    rw [h1,hm] at hk
    rw [h1,hk]
    simp only [if_neg hn]
    obtain ⟨y,hy,e1,e2,e3⟩:=ih A tl h2 (fun c hc=>hA c (List.mem_cons_of_mem _ hc)) htl (fun x hx=>hnd x (List.mem_cons_of_mem _ hx)) u k hnear
    exact⟨y,List.mem_cons_of_mem _ hy,e1,e2,e3⟩
end Go.Proofs.YtmhgaggpdggbeaaGreatDoor
