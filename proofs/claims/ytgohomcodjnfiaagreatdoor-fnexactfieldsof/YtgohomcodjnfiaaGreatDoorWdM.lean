import Derived.Test.YtgohomcodjnfiaaGreatDoorWdT
import Derived.Test.YtgohomcodjnfiaaGreatDoorWiE
namespace Go.Proofs.YtgohomcodjnfiaaGreatDoor
open Go.RowKit
set_option maxRecDepth 20000
set_option linter.unusedVariables false

def fmU (n d:ByteArray):List CTup→ByteArray × Int × Int
 | []=>(tE,0,8)
 | c :: t=>match mFixL (msC c) n d with
  | some k=>(nmC c,(k:Int),0)
  | none=>if n=initN then (tE,0,8) else fmU n d t
def fmL (L:List CTup) (cl n d:ByteArray):ByteArray × Int × Int:=if isBi cl=true∧n=initN∧d=initD then (cl,-1,0) else fmU n d (CH nmC suC L cl)
noncomputable def fmV (L:List CTup) (cl n d:ByteArray):ByteArray × Int × Int:=if 400<L.length ∨ 20000<cl.size ∨ 20000<n.size ∨ 20000<d.size then (tE,0,2) else if rtB L then fmL L cl n d else (tE,0,0)
theorem kLk_one {c:CTup} {n d:ByteArray} (hb:isBi (nmC c)=true):kLk c n d=if n=initN∧d=initD then some (-1) else none:=by
 unfold kLk mKeys
 rw [hb]
 simp only [if_true,List.find?_cons,List.find?_nil,kIs]
 by_cases h:n=initN∧d=initD
 ·rw [if_pos h,h.1,h.2];simp
 ·rw [if_neg h]
  have:(decide (initN=n) && decide (initD=d))=false:=by
   simp only [Bool.and_eq_false_iff,decide_eq_false_iff_not]
   by_cases e:initN=n
   ·exact .inr fun k=>h ⟨e.symm,k.symm⟩
   ·exact .inl e
  rw [this]
  rfl
theorem fm_bi {n d:ByteArray} (hn:n ≠ initN):∀ (T:List WE),(∀ x ∈ T,isBi (nmC x.c)=true)→fmF n d T=(tE,0,8):=by
 intro T
 induction T with
 | nil=>intro _;rfl
 | cons x t ih =>
  intro h
  unfold fmF
  rw [kLk_bi (h x List.mem_cons_self) hn]
  simp only [if_neg hn]
  exact ih fun y hy=>h y (List.mem_cons_of_mem _ hy)
theorem fm_user {n d:ByteArray}:∀ (T:List WE) (A tl:List CTup),T.map WE.c=A ++ tl→(∀ c ∈ A,isBi (nmC c)=false)→(∀ c ∈ tl,isBi (nmC c)=true)→(∀ x ∈ T,∀ i j (hi:i<(mKeys x.c).length) (hj:j<(mKeys x.c).length),i<j→¬ ((mKeys x.c)[i].1=(mKeys x.c)[j].1∧(mKeys x.c)[i].2.1=(mKeys x.c)[j].2.1))→(n ≠ initN ∨ A ≠ [])→fmF n d T=fmU n d A:=by
 intro T
 induction T with
 | nil =>
  intro A tl h _ _ _ _
  have:A=[]:=by
   have:=congrArg List.length h
   simp at this
   exact List.eq_nil_of_length_eq_zero (by omega)
  subst this
  rfl
 | cons x t ih =>
  intro A tl h hA htl hnd hne
  cases A with
  | nil =>
   have hn:n ≠ initN:=hne.resolve_right (by simp)
   rw [fm_bi hn]
   ·rfl
   ·intro y hy
    exact htl y.c (by rw [← List.nil_append tl,← h];exact List.mem_map.2 ⟨y,hy,rfl⟩)
  | cons c A =>
   simp only [List.map_cons,List.cons_append,List.cons.injEq] at h
   obtain ⟨h1,h2⟩:=h
   have hk:=kLk_user (n:=n) (d:=d) (by rw [h1];exact hA c List.mem_cons_self) (hnd x List.mem_cons_self)
   unfold fmF fmU
   rw [h1] at hk ⊢
   rw [hk]
   cases hm:mFixL (msC c) n d with
   | some k'=>rfl
   | none =>
    simp only
    by_cases hn:n=initN
    ·rw [if_pos hn]
     simp [hn]
    ·rw [if_neg hn]
     simp only [if_neg hn]
     exact ih A tl h2 (fun c hc=>hA c (List.mem_cons_of_mem _ hc)) htl (fun x hx=>hnd x (List.mem_cons_of_mem _ hx)) (.inl hn)
theorem wyS {E:List WE} {L:List CTup} (hR:Right L) (h:E.map WE.c=allC L) (n:ByteArray):∃ tl,(wyG E n).map WE.c=CH nmC suC L n ++ tl∧∀ b ∈ tl,b ∈ biC:=by
 have hp:Past L 4:=fun q hq=>hR.2 q (by omega)
 rw [wyE hp.acy h n]
 exact hR.part.two.chain hp.acy hp.acyL _ n (Nat.le_refl _)
theorem fm_tie {E:List WE} {L:List CTup} (hR:Right L) (h:E.map WE.c=allC L) (hnd:∀ y ∈ E,∀ i j (hi:i<(mKeys y.c).length) (hj:j<(mKeys y.c).length),i<j→¬ ((mKeys y.c)[i].1=(mKeys y.c)[j].1∧(mKeys y.c)[i].2.1=(mKeys y.c)[j].2.1)) (cl n d:ByteArray):fmF n d (wyG E cl)=fmL L cl n d:=by
 obtain ⟨tl,h1,h2⟩:=wyS hR h cl
 have hacL:AcyG nmC suC L:=Past.acyL fun q hq=>hR.2 q (by omega)
 have hall:=wyE hR.acy h cl
 have hA:∀ c ∈ CH nmC suC L cl,isBi (nmC c)=false:=fun c hc=>isBi_user hR.part (CH_sub c hc)
 have hT:∀ c ∈ tl,isBi (nmC c)=true:=fun c hc=>isBi_bi (h2 c hc)
 have hN:∀ x ∈ wyG E cl,_:=fun x hx=>hnd x (wy_sub E _ x hx)
 unfold fmL
 rcases kn_alt L cl with ⟨_,k1,_,k3⟩ | ⟨c,_,hc,rfl,k1,_⟩
 ·-- unknown
  rw [hall,k3] at h1
  have hnil:CH nmC suC L cl=[]:=(List.append_eq_nil_iff.1 h1.symm).1
  have hb:isBi cl=false:=by
   cases e:isBi cl with
   | false=>rfl
   | true =>
    unfold isBi at e
    obtain ⟨b,hb,e2⟩:=List.any_eq_true.1 e
    simp only [decide_eq_true_eq] at e2
    subst e2
    rw [← biC_nm] at hb
    obtain ⟨x,hx,e3⟩:=List.mem_map.1 hb
    exact absurd e3 (lkG_none.1 k1 x (List.mem_append.2 (.inl hx)))
  rw [if_neg (by rw [hb];simp),hnil]
  have:wyG E cl=[]:=by
   have:=congrArg List.length (hall.trans k3)
   simp at this
   exact this
  rw [this]
  rfl
 ·have hch:=hR.acy.CH_some k1
  rcases List.mem_append.1 hc with hb | hu
  ·have hbi:=isBi_bi hb
   have hnil:CH nmC suC L (nmC c)=[]:=by
    refine CH_none (lkG_none.2 fun x hx e=>?_)
    exact hR.part.two.ap x hx c hb e
   rw [hnil] at h1 ⊢
   rw [hall,hch] at h1
   obtain ⟨x,t,hx,hxc,ht⟩:∃ x t,wyG E (nmC c)=x :: t∧x.c=c∧t.map WE.c=CH nmC suC (allC L) (suC c):=by
    rw [hch] at hall
    cases hw:wyG E (nmC c) with
    | nil=>rw [hw] at hall;cases hall
    | cons x t =>
     rw [hw] at hall
     simp only [List.map_cons,List.cons.injEq] at hall
     exact⟨x,t,rfl,hall.1,hall.2⟩
   by_cases hi:n=initN∧d=initD
   ·rw [if_pos ⟨hbi,hi.1,hi.2⟩,hx]
    unfold fmF
    rw [hxc,kLk_one hbi,if_pos hi]
   ·rw [if_neg (fun k=>hi k.2)]
    by_cases hn:n=initN
    ·rw [hx]
     unfold fmF
     rw [hxc,kLk_one hbi,if_neg hi]
     simp only [if_pos hn]
     rfl
    ·rw [fm_bi hn]
     ·rfl
     ·intro y hy
      have:y.c ∈ (wyG E (nmC c)).map WE.c:=List.mem_map.2 ⟨y,hy,rfl⟩
      rw [hall,hch,h1] at this
      exact hT y.c (by simpa using this)
  ·have hub:=isBi_user hR.part hu
   rw [if_neg (by rw [hub];simp)]
   have hlk:lkG nmC L (nmC c)=some c:=lkG_mem hR.part.nodup hu
   exact fm_user _ _ tl h1 hA hT hN (.inr (by rw [hacL.CH_some hlk];simp))
theorem bi_ix (cl:ByteArray):(isBi cl=true∧∃ i:Nat,ixI (fixG id biN cl)=(i:Int)) ∨ (isBi cl=false∧ixI (fixG id biN cl) = -1):=by
 rcases fix_cases (id:ByteArray→ByteArray) biN cl with ⟨h1,h2⟩ | ⟨i,hi,h1,h2,h3⟩
 ·refine .inr ⟨?_,by rw [h1];rfl⟩
  unfold isBi
  rw [List.any_eq_false]
  intro b hb
  simp only [decide_eq_true_eq]
  exact lkG_none.1 h2 b hb
 ·refine .inl ⟨?_,i,by rw [h1];rfl⟩
  unfold isBi
  rw [List.any_eq_true]
  exact⟨biN[i],List.getElem_mem hi,by simpa using h2⟩
theorem initD_eq {d:ByteArray} (h:d=initD):(d.toList == [40,41,86])=true:=by rw [h,ByteArray.toList_eq];rfl
theorem initD_ne {d:ByteArray} (h:d ≠ initD):(d.toList == [40,41,86])=false:=by
 rw [beq_eq_false_iff_ne]
 intro e
 rw [ByteArray.toList_eq] at e
 exact h (WideShapes.bytes_inj (by rw [e];rfl))
theorem found3 {w:World} {R:Nat} {u0 u1 u2:Value} (r0:w.cell? ⟨R,0,none⟩=some u0) (r1:w.cell? ⟨R,1,none⟩=some u1) (r2:w.cell? ⟨R,2,none⟩=some u2) (v0 v1 v2:Value) :
  (((w.setCell ⟨R,0,none⟩ v0).setCell ⟨R,1,none⟩ v1).setCell ⟨R,2,none⟩ v2).cell? ⟨R,0,none⟩=some v0∧(((w.setCell ⟨R,0,none⟩ v0).setCell ⟨R,1,none⟩ v1).setCell ⟨R,2,none⟩ v2).cell? ⟨R,1,none⟩=some v1∧(((w.setCell ⟨R,0,none⟩ v0).setCell ⟨R,1,none⟩ v1).setCell ⟨R,2,none⟩ v2).cell? ⟨R,2,none⟩=some v2 :=
 ⟨by simp [go_sem,r0],by simp [go_sem,r1],by simp [go_sem,r2]⟩
end Go.Proofs.YtgohomcodjnfiaaGreatDoor
