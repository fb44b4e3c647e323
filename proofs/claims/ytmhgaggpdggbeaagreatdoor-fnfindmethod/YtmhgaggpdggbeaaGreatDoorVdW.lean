/-
  Texts laid together.
-/
import Derived.Test.YtmhgaggpdggbeaaGreatDoorWd4
import Derived.Test.YtmhgaggpdggbeaaGreatDoorWd5
import Derived.Test.YtmhgaggpdggbeaaGreatDoorWiE
import Derived.Test.YtmhgaggpdggbeaaGreatDoorWi9
import Derived.Test.YtmhgaggpdggbeaaGreatDoorWi12
import Derived.Test.YtmhgaggpdggbeaaGreatDoorWi10
import Derived.Test.YtmhgaggpdggbeaaGreatDoorSplit
namespace Go.Proofs.YtmhgaggpdggbeaaGreatDoor
section
open Go.RowKit
set_option maxRecDepth 20000
set_option linter.unusedVariables false
theorem specWorldCheck (L:List CTup) (v:Value) (w:World) (h:classR.slice.In w [v] L) :
  Calls Tryz.prog 28 #[v] w fun e w'=>e = .returned (.agg #[.int .i64 (wOut L).1,.int .i64 (wOut L).2])∧Below w.heap.size w w' :=
 specWorldCheckIf L v w h fun hp c vc vh w' hc hb h3 h4=>specAccess L v c vc vh w' hp hc (classR.slice.mono _ _ _ _ hb h) h3 h4

open Go.RowKit
set_option linter.unusedVariables false

noncomputable def rtB (L:List CTup):Bool:=decide ((wOut L).2=0)
theorem rt_right {L:List CTup} (h:rtB L=true):Right L:=by
 unfold rtB at h
 simp only [decide_eq_true_eq] at h
 rcases right_code L with ⟨k,_⟩ | ⟨_,k⟩
 ·exact k
 ·exact absurd h k
theorem Right.part {L:List CTup} (h:Right L):Part L L.length:=h.2.part (by omega)
theorem Right.acy {L:List CTup} (h:Right L):AcyG nmC suC (allC L):=Past.acy fun q hq=>h.2 q (by omega)
def sbC (L:List CTup) (a b:ByteArray):Bool:=(CH nmC suC (allC L) a).any fun c=>decide (nmC c=b)
theorem kn_alt (L:List CTup) (n:ByteArray):(knB L n=false∧lkG nmC (allC L) n=none∧spS L n=tE∧CH nmC suC (allC L) n=[]) ∨ ∃ c,knB L n=true∧c ∈ allC L∧nmC c=n∧lkG nmC (allC L) n=some c∧spS L n=suC c:=by
 unfold knB spS
 cases e:lkG nmC (allC L) n with
 | none=>exact .inl ⟨rfl,rfl,rfl,CH_none e⟩
 | some c=>exact .inr ⟨c,rfl,(lkG_some e).1,(lkG_some e).2,rfl,rfl⟩
noncomputable def isV (L:List CTup) (a b:ByteArray):Bool:=rtB L && sbC L a b
theorem fieldWO1 (a b:Value) (w:World):(Instr.field 47 (.agg #[a,b]) 1).run Tryz.prog w = .ok b w:=by kernel_rfl
set_option maxRecDepth 100000 in
set_option maxHeartbeats 1000000 in
theorem specRight (L:List CTup) (v:Value) (w:World) (h:classR.slice.In w [v] L) :
  Calls Tryz.prog 38 #[v] w fun e w'=>e = .returned (.bool (rtB L))∧Below w.heap.size w w':=by
 have HC:Hid (Calls Tryz.prog 28 #[v] w fun e w'=>e = .returned (.agg #[.int .i64 (wOut L).1,.int .i64 (wOut L).2])∧Below w.heap.size w w'):=specWorldCheck L v w h
 obtain ⟨a,cap,rfl,_⟩:=slice_open (by decide) h
 unfold rtB
 have f1:=fieldWO1
 generalize (wOut L).1=o1 at *
 generalize (wOut L).2=o2 at *
 clear h
 by_cases e:o2=0
 ·subst e
  go_enter Tryz.func38,Tryz.ntmps38
  go_wp2_with fail
  refine Calls.mono HC.out ?_
  rintro e w1 ⟨rfl,hb1⟩
  go_wp2
  go_ret
  exact⟨rfl,hb1⟩
 ·have d:(o2 == 0)=false:=by simpa using e
  have d2:decide (o2=0)=false:=by simpa using e
  rw [d2]
  go_enter Tryz.func38,Tryz.ntmps38
  go_wp2_with fail
  refine Calls.mono HC.out ?_
  rintro e w1 ⟨rfl,hb1⟩
  go_wp2
  go_ret
  exact⟨rfl,hb1⟩

open Go.RowKit
set_option linter.unusedVariables false
end
section
open Go.RowKit
set_option maxRecDepth 20000
set_option linter.unusedVariables false

def fmU (n d:ByteArray):List CTup→ByteArray × Int × Int
 | []=>(tE,0,8)
 | c :: t=>match mFixL (msC c) n d with
  | some k=>(nmC c,(k:Int),0)
  | none=>if n=initN then (tE,0,8) else fmU n d t
def fmL (L:List CTup) (cl n d:ByteArray):ByteArray × Int × Int:=if isBi cl=true∧n=initN∧d=initD then (cl,-1,0) else fmU n d (CH nmC suC L cl)
noncomputable def fmV (L:List CTup) (cl n d:ByteArray):ByteArray × Int × Int:=if 400<L.length ∨ 20000<cl.size ∨ 20000<n.size ∨ 20000<d.size then (tE,0,2) else if rtB L then fmL L cl n d else (tE,0,0)
theorem kLk_one {c:CTup} {n d:ByteArray} (hb:isBi (nmC c)=true):kLk c n d=if n=initN∧d=initD then some (-1) else none:=by
 unfold kLk mKeys
 rw [hb]
 simp only [if_true,List.find?_cons,List.find?_nil,kIs]
 by_cases h:n=initN∧d=initD
 ·rw [if_pos h,h.1,h.2];simp
 ·rw [if_neg h]
  have:(decide (initN=n) && decide (initD=d))=false:=by
   simp only [Bool.and_eq_false_iff,decide_eq_false_iff_not]
   by_cases e:initN=n
   ·exact .inr fun k=>h ⟨e.symm,k.symm⟩
   ·exact .inl e
  rw [this]
  rfl
theorem fm_bi {n d:ByteArray} (hn:n ≠ initN):∀ (T:List WE),(∀ x ∈ T,isBi (nmC x.c)=true)→fmF n d T=(tE,0,8):=by
 intro T
 induction T with
 | nil=>intro _;rfl
 | cons x t ih =>
  intro h
  unfold fmF
  rw [kLk_bi (h x List.mem_cons_self) hn]
  simp only [if_neg hn]
  exact ih fun y hy=>h y (List.mem_cons_of_mem _ hy)
theorem fm_user {n d:ByteArray}:∀ (T:List WE) (A tl:List CTup),T.map WE.c=A ++ tl→(∀ c ∈ A,isBi (nmC c)=false)→(∀ c ∈ tl,isBi (nmC c)=true)→(∀ x ∈ T,∀ i j (hi:i<(mKeys x.c).length) (hj:j<(mKeys x.c).length),i<j→¬ ((mKeys x.c)[i].1=(mKeys x.c)[j].1∧(mKeys x.c)[i].2.1=(mKeys x.c)[j].2.1))→(n ≠ initN ∨ A ≠ [])→fmF n d T=fmU n d A:=by
 intro T
 induction T with
 | nil =>
  intro A tl h _ _ _ _
  have:A=[]:=by
   have:=congrArg List.length h
   simp at this
   exact List.eq_nil_of_length_eq_zero (by omega)
  subst this
  rfl
 | cons x t ih =>
  intro A tl h hA htl hnd hne
  cases A with
  | nil =>
   have hn:n ≠ initN:=hne.resolve_right (by simp)
   rw [fm_bi hn]
   ·rfl
   ·intro y hy
    exact htl y.c (by rw [← List.nil_append tl,← h];exact List.mem_map.2 ⟨y,hy,rfl⟩)
  | cons c A =>
   simp only [List.map_cons,List.cons_append,List.cons.injEq] at h
   obtain ⟨h1,h2⟩:=h
   have hk:=kLk_user (n:=n) (d:=d) (by rw [h1];exact hA c List.mem_cons_self) (hnd x List.mem_cons_self)
   unfold fmF fmU
   rw [h1] at hk ⊢
   rw [hk]
   cases hm:mFixL (msC c) n d with
   | some k'=>rfl
   | none =>
    simp only
    by_cases hn:n=initN
    ·rw [if_pos hn]
     simp [hn]
    ·rw [if_neg hn]
     simp only [if_neg hn]
     exact ih A tl h2 (fun c hc=>hA c (List.mem_cons_of_mem _ hc)) htl (fun x hx=>hnd x (List.mem_cons_of_mem _ hx)) (.inl hn)
theorem wyS {E:List WE} {L:List CTup} (hR:Right L) (h:E.map WE.c=allC L) (n:ByteArray):∃ tl,(wyG E n).map WE.c=CH nmC suC L n ++ tl∧∀ b ∈ tl,b ∈ biC:=by
 have hp:Past L 4:=fun q hq=>hR.2 q (by omega)
 rw [wyE hp.acy h n]
 exact hR.part.two.chain hp.acy hp.acyL _ n (Nat.le_refl _)
theorem fm_tie {E:List WE} {L:List CTup} (hR:Right L) (h:E.map WE.c=allC L) (hnd:∀ y ∈ E,∀ i j (hi:i<(mKeys y.c).length) (hj:j<(mKeys y.c).length),i<j→¬ ((mKeys y.c)[i].1=(mKeys y.c)[j].1∧(mKeys y.c)[i].2.1=(mKeys y.c)[j].2.1)) (cl n d:ByteArray):fmF n d (wyG E cl)=fmL L cl n d:=by
 obtain ⟨tl,h1,h2⟩:=wyS hR h cl
 have hacL:AcyG nmC suC L:=Past.acyL fun q hq=>hR.2 q (by omega)
 have hall:=wyE hR.acy h cl
 have hA:∀ c ∈ CH nmC suC L cl,isBi (nmC c)=false:=fun c hc=>isBi_user hR.part (CH_sub c hc)
 have hT:∀ c ∈ tl,isBi (nmC c)=true:=fun c hc=>isBi_bi (h2 c hc)
 have hN:∀ x ∈ wyG E cl,_:=fun x hx=>hnd x (wy_sub E _ x hx)
 unfold fmL
 rcases kn_alt L cl with ⟨_,k1,_,k3⟩ | ⟨c,_,hc,rfl,k1,_⟩
 ·-- unknown
  rw [hall,k3] at h1
  have hnil:CH nmC suC L cl=[]:=(List.append_eq_nil_iff.1 h1.symm).1
  have hb:isBi cl=false:=by
   cases e:isBi cl with
   | false=>rfl
   | true =>
    unfold isBi at e
    obtain ⟨b,hb,e2⟩:=List.any_eq_true.1 e
    simp only [decide_eq_true_eq] at e2
    subst e2
    rw [← biC_nm] at hb
    obtain ⟨x,hx,e3⟩:=List.mem_map.1 hb
    exact absurd e3 (lkG_none.1 k1 x (List.mem_append.2 (.inl hx)))
  rw [if_neg (by rw [hb];simp),hnil]
  have:wyG E cl=[]:=by
   have:=congrArg List.length (hall.trans k3)
   simp at this
   exact this
  rw [this]
  rfl
 ·have hch:=hR.acy.CH_some k1
  rcases List.mem_append.1 hc with hb | hu
  ·have hbi:=isBi_bi hb
   have hnil:CH nmC suC L (nmC c)=[]:=by
    refine CH_none (lkG_none.2 fun x hx e=>?_)
    exact hR.part.two.ap x hx c hb e
   rw [hnil] at h1 ⊢
   rw [hall,hch] at h1
   obtain ⟨x,t,hx,hxc,ht⟩:∃ x t,wyG E (nmC c)=x :: t∧x.c=c∧t.map WE.c=CH nmC suC (allC L) (suC c):=by
    rw [hch] at hall
    cases hw:wyG E (nmC c) with
    | nil=>rw [hw] at hall;cases hall
    | cons x t =>
     rw [hw] at hall
     simp only [List.map_cons,List.cons.injEq] at hall
     exact⟨x,t,rfl,hall.1,hall.2⟩
   by_cases hi:n=initN∧d=initD
   ·rw [if_pos ⟨hbi,hi.1,hi.2⟩,hx]
    unfold fmF
    rw [hxc,kLk_one hbi,if_pos hi]
   ·rw [if_neg (fun k=>hi k.2)]
    by_cases hn:n=initN
    ·rw [hx]
     unfold fmF
     rw [hxc,kLk_one hbi,if_neg hi]
     simp only [if_pos hn]
     rfl
    ·rw [fm_bi hn]
     ·rfl
     ·intro y hy
      have:y.c ∈ (wyG E (nmC c)).map WE.c:=List.mem_map.2 ⟨y,hy,rfl⟩
      rw [hall,hch,h1] at this
      exact hT y.c (by simpa using this)
  ·have hub:=isBi_user hR.part hu
   rw [if_neg (by rw [hub];simp)]
   have hlk:lkG nmC L (nmC c)=some c:=lkG_mem hR.part.nodup hu
   exact fm_user _ _ tl h1 hA hT hN (.inr (by rw [hacL.CH_some hlk];simp))
theorem bi_ix (cl:ByteArray):(isBi cl=true∧∃ i:Nat,ixI (fixG id biN cl)=(i:Int)) ∨ (isBi cl=false∧ixI (fixG id biN cl) = -1):=by
 rcases fix_cases (id:ByteArray→ByteArray) biN cl with ⟨h1,h2⟩ | ⟨i,hi,h1,h2,h3⟩
 ·refine .inr ⟨?_,by rw [h1];rfl⟩
  unfold isBi
  rw [List.any_eq_false]
  intro b hb
  simp only [decide_eq_true_eq]
  exact lkG_none.1 h2 b hb
 ·refine .inl ⟨?_,i,by rw [h1];rfl⟩
  unfold isBi
  rw [List.any_eq_true]
  exact⟨biN[i],List.getElem_mem hi,by simpa using h2⟩
theorem initD_eq {d:ByteArray} (h:d=initD):(d.toList == [40,41,86])=true:=by rw [h,ByteArray.toList_eq];rfl
theorem initD_ne {d:ByteArray} (h:d ≠ initD):(d.toList == [40,41,86])=false:=by
 rw [beq_eq_false_iff_ne]
 intro e
 rw [ByteArray.toList_eq] at e
 exact h (WideShapes.bytes_inj (by rw [e];rfl))
theorem found3 {w:World} {R:Nat} {u0 u1 u2:Value} (r0:w.cell? ⟨R,0,none⟩=some u0) (r1:w.cell? ⟨R,1,none⟩=some u1) (r2:w.cell? ⟨R,2,none⟩=some u2) (v0 v1 v2:Value) :
  (((w.setCell ⟨R,0,none⟩ v0).setCell ⟨R,1,none⟩ v1).setCell ⟨R,2,none⟩ v2).cell? ⟨R,0,none⟩=some v0∧(((w.setCell ⟨R,0,none⟩ v0).setCell ⟨R,1,none⟩ v1).setCell ⟨R,2,none⟩ v2).cell? ⟨R,1,none⟩=some v1∧(((w.setCell ⟨R,0,none⟩ v0).setCell ⟨R,1,none⟩ v1).setCell ⟨R,2,none⟩ v2).cell? ⟨R,2,none⟩=some v2 :=
 ⟨by simp [go_sem,r0],by simp [go_sem,r1],by simp [go_sem,r2]⟩
set_option maxHeartbeats 4000000 in
theorem specFindML (L:List CTup) (v:Value) (cl n d:ByteArray) (w:World) (h:classR.slice.In w [v] L) (hA:AcyG nmC suC L) :
  Calls Tryz.prog 63 #[v,.string cl,.string n,.string d] w fun e w'=>e = .returned (fdV (fmL L cl n d))∧Below w.heap.size w w':=by
 have HBu:Hid (∀ w',Calls Tryz.prog 65 #[.string cl] w' fun e w2=>e = .returned (.int .i64 (ixI (fixG id biN cl)))∧Below w'.heap.size w' w2):=fun w'=>specBuilt cl w'
 have HFi:Hid (∀ w' n,Below w.heap.size w w'→Calls Tryz.prog 66 #[v,.string n] w' fun e w2=>e = .returned (.int .i64 (ixI (fixG nmC L n)))∧w2=w'):=fun w' n hb=>specFind L v n w' (classR.slice.mono _ _ _ _ hb h)
 have HMe:Hid (∀ (x:CTup) xc xh w',fieldR.slice.In w' [xc] (fsC x)→methR.slice.In w' [xh] (msC x)→Calls Tryz.prog 92 #[.agg #[.string (nmC x),.string (suC x),.bool (fiC x),.bool (abC x),xc,xh],.string n,.string d] w' fun e w2=>e = .returned (.int .i64 (ixI (mFixL (msC x) n d)))∧Below w'.heap.size w' w2):=fun x xc xh w1 h1 h2=>specMethod (cD x) xc xh n d w1 h1 h2
 have HIn:=(show Hid (∀ n,(fixG nmC L n=none∧CH nmC suC L n=[]) ∨ ∃ k,∃ hk:k<L.length,fixG nmC L n=some k∧nmC L[k]=n∧CH nmC suC L n=L[k] :: CH nmC suC L (suC L[k])) from CH_fix hA)
 have HLn:Hid (∀ n,lenAt L (ixI (fixG nmC L n))=(CH nmC suC L n).length):=lenAt_fix L
 obtain ⟨a,cap,rfl,hn0,hcap,hat⟩:=slice_open (by decide) h
 unfold maxLen at hcap
 have HA:Hid (∀ i (h:i<L.length),∃ b o,a=some ⟨b,o,none⟩∧classR.At w ⟨b,o,none⟩ i L[i]):=hat
 clear hat h hA
 have HU:Hid (¬ (isBi cl=true∧n=initN∧d=initD)→fmL L cl n d=fmU n d (CH nmC suC L cl)):=fun k=>by unfold fmL;rw [if_neg k]
 have HU1:Hid ((isBi cl=true∧n=initN∧d=initD)→fmL L cl n d=(cl,-1,0)):=fun k=>by unfold fmL;rw [if_pos k]
 generalize fmL L cl n d=res at *
 rcases bi_ix cl with ⟨hb,i,hi⟩ | ⟨hb,hi⟩
 ·have HK:Hid (ixI (fixG id biN cl)=(i:Int)):=hi
  by_cases hni:n=initN
  ·have dn:=init_eq hni
   by_cases hdi:d=initD
   ·have dd:=initD_eq hdi
    have HZ:Hid (res=(cl,-1,0)):=HU1.out ⟨hb,hni,hdi⟩
    clear HU HU1 hni hdi hb hi
    go_enter Tryz.func63,Tryz.ntmps63
    go_wp2_with fail
    refine Calls.mono (HBu.out _) ?_
    rintro e w1 ⟨rfl,hb1⟩
    rw [HK.out]
    have r0:=cC hb1 (w.heap.size) 0 (.string ⟨#[]⟩) (by simp) (by simp [go_sem])
    have r1:=cC hb1 (w.heap.size) 1 (.int .i64 0) (by simp) (by simp [go_sem])
    have r2:=cC hb1 (w.heap.size) 2 (.int .i64 0) (by simp) (by simp [go_sem])
    have fr:∀ j,w1.frozen? ⟨w.heap.size,j,none⟩=false:=fun j=>carryF hb1 (by simp) (by simp [go_sem])
    have hz:w.heap.size<w1.heap.size:=by have:=hb1.size;simp at this;omega
    have HB1:Hid (Below w.heap.size w w1):=(below_al _ _).trans (hb1.mono (by simp))
    clear hb1
    have q:=found3 r0 r1 r2 (.string cl) (.int .i64 (-1)) (.int .i64 0)
    go_wp2
    exact bodyPost_ret (v:=.agg #[.string cl,.int .i64 (-1),.int .i64 0]) (by simp [results,Tryz.results63,go_sem,q.1,q.2.1,q.2.2]) rfl ⟨by rw [HZ.out];rfl,((HB1.out.setCell (by simp) _).setCell (by simp) _).setCell (by simp) _⟩
   ·have dd:=initD_ne hdi
    have HR0:Hid (res=fmU n d (CH nmC suC L cl)):=HU.out fun k=>hdi k.2.2
    clear HU HU1 hb hi
    have HNI:Hid (n=initN):=hni
    clear hni hdi
    go_enter Tryz.func63,Tryz.ntmps63
    go_wp2_with fail
    refine Calls.mono (HBu.out _) ?_
    rintro e w1 ⟨rfl,hb1⟩
    rw [HK.out]
    have r0:=cC hb1 (w.heap.size) 0 (.string ⟨#[]⟩) (by simp) (by simp [go_sem])
    have r1:=cC hb1 (w.heap.size) 1 (.int .i64 0) (by simp) (by simp [go_sem])
    have r2:=cC hb1 (w.heap.size) 2 (.int .i64 0) (by simp) (by simp [go_sem])
    have fr:∀ j,w1.frozen? ⟨w.heap.size,j,none⟩=false:=fun j=>carryF hb1 (by simp) (by simp [go_sem])
    have hz:w.heap.size<w1.heap.size:=by have:=hb1.size;simp at this;omega
    have HB1:Hid (Below w.heap.size w w1):=(below_al _ _).trans (hb1.mono (by simp))
    clear hb1
    go_wp2_with fail
    refine Calls.mono (HFi.out _ cl HB1.out) ?_
    rintro e w2 ⟨rfl,hw2⟩
    subst w2
    go_wp2_with fail
    go_loopw [9] (fun jU wr=>∃ m:ByteArray,jU = .int .i64 (ixI (fixG nmC L m))∧Below w1.heap.size w1 wr∧res=fmU n d (CH nmC suC L m)) (fun jU _=>lenAt L (intOf jU))
    case atStart=>exact⟨cl,rfl,Below.refl _ _,HR0.out⟩
    case round =>
     obtain ⟨m,rfl,hb,hr⟩:=hrel
     have HR:=(show Hid (res=fmU n d (CH nmC suC L m)) from hr)
     have HBr:Hid (Below w.heap.size w wr):=HB1.out.trans (hb.mono HB1.out.size)
     have HBo:Hid (Below w1.heap.size w1 wr):=hb
     replace r0:=carry hb hz r0
     replace r1:=carry hb hz r1
     replace r2:=carry hb hz r2
     replace fr:∀ j,wr.frozen? ⟨w.heap.size,j,none⟩=false:=fun j=>carryF hb hz (fr j)
     have hz1:w.heap.size<wr.heap.size:=Nat.lt_of_lt_of_le hz hb.size
     have hln:=HLn.out m
     clear hb hr
     rcases HIn.out m with ⟨k1,k2⟩ | ⟨k,hk,k1,k2,k3⟩
     ·have HZ:Hid (res=(tE,0,8)):=by show _=_;rw [HR.out,k2];rfl
      rw [k1,show ixI (none:Option Nat) = -1 from rfl]
      clear HR hln k1 k2
      have q:=found3 r0 r1 r2 (.string ⟨#[]⟩) (.int .i64 0) (.int .i64 8)
      go_wp2
      exact bodyPost_ret (v:=.agg #[.string ⟨#[]⟩,.int .i64 0,.int .i64 8]) (by simp [results,Tryz.results63,go_sem,q.1,q.2.1,q.2.2]) rfl ⟨by rw [HZ.out];rfl,((HBr.out.setCell (by simp) _).setCell (by simp) _).setCell (by simp) _⟩
     ·have hfu:res=match mFixL (msC L[k]) n d with
       | some j=>(nmC L[k],(j:Int),0)
       | none=>if n=initN then (tE,0,8) else fmU n d (CH nmC suC L (suC L[k])):=by rw [HR.out,k3];rfl
      have hlk:lenAt L (ixI (fixG nmC L (suC L[k])))<lenAt L (ixI (fixG nmC L m)):=by rw [HLn.out,hln,k3];simp
      rw [k1,show ixI (some k)=(k:Int) from rfl] at hlk ⊢
      obtain ⟨b,o,rfl,hx⟩:=HA.out k hk
      obtain ⟨vc,vh,g0,g1,g2,g3,g4,g5,s0,s1,h4,h5⟩:=classAt (hx.mono HBr.out)
      have HM1:=(show Hid _ from HMe.out L[k] vc vh wr h4 h5)
      obtain ⟨fa,fc,rfl⟩:=slice_form h4
      obtain ⟨ma,mc,rfl⟩:=slice_form h5
      have HFu:=(show Hid _ from hfu)
      have HLk:=(show Hid _ from hlk)
      have hkI:(k:Int)<(L.length:Int):=by omega
      have HFS:=(show Hid _ from fun w' hb=>HFi.out w' (suC L[k]) hb)
      clear HR hln k1 k2 k3 hfu hlk hx h4 h5
      generalize hmf:mFixL (msC L[k]) n d=mf at *
      clear hmf
      generalize L[k]=x at *
      go_wp2_with fail
      refine Calls.mono HM1.out ?_
      rintro e w3 ⟨rfl,hb3⟩
      have HB3:Hid (Below w.heap.size w w3):=HBr.out.trans (hb3.mono HBr.out.size)
      have HB3o:Hid (Below w1.heap.size w1 w3):=HBo.out.trans (hb3.mono HBo.out.size)
      replace r0:=carry hb3 hz1 r0
      replace r1:=carry hb3 hz1 r1
      replace r2:=carry hb3 hz1 r2
      replace fr:∀ j,w3.frozen? ⟨w.heap.size,j,none⟩=false:=fun j=>carryF hb3 hz1 (fr j)
      have hbb:b<wr.heap.size:=World.block_lt_of_cell? _ _ g0
      replace g0:=carry hb3 hbb g0
      replace g1:=carry hb3 hbb g1
      clear hb3 g2 g3 g4 g5 HM1
      cases mf with
      | some j =>
       have HZ:Hid (res=(nmC x,(j:Int),0)):=HFu.out
       clear HFu
       rw [show ixI (some j)=(j:Int) from rfl]
       have q:=found3 r0 r1 r2 (.string (nmC x)) (.int .i64 (j:Int)) (.int .i64 0)
       go_wp2
       exact bodyPost_ret (v:=.agg #[.string (nmC x),.int .i64 (j:Int),.int .i64 0]) (by simp [results,Tryz.results63,go_sem,q.1,q.2.1,q.2.2]) rfl ⟨by rw [HZ.out];rfl,((HB3.out.setCell (by simp) _).setCell (by simp) _).setCell (by simp) _⟩
      | none =>
       rw [show ixI (none:Option Nat) = -1 from rfl]
       have HZ:Hid (res=(tE,0,8)):=by show _=_;rw [HFu.out];simp [HNI.out]
       clear HFu
       have q:=found3 r0 r1 r2 (.string ⟨#[]⟩) (.int .i64 0) (.int .i64 8)
       go_wp2
       exact bodyPost_ret (v:=.agg #[.string ⟨#[]⟩,.int .i64 0,.int .i64 8]) (by simp [results,Tryz.results63,go_sem,q.1,q.2.1,q.2.2]) rfl ⟨by rw [HZ.out];rfl,((HB3.out.setCell (by simp) _).setCell (by simp) _).setCell (by simp) _⟩
  ·have dn:=init_ne hni
   have HR0:Hid (res=fmU n d (CH nmC suC L cl)):=HU.out fun k=>hni k.2.1
   clear HU HU1 hb hi
   have HNI:Hid (n ≠ initN):=hni
   clear hni
   go_enter Tryz.func63,Tryz.ntmps63
   go_wp2_with fail
   refine Calls.mono (HBu.out _) ?_
   rintro e w1 ⟨rfl,hb1⟩
   rw [HK.out]
   have r0:=cC hb1 (w.heap.size) 0 (.string ⟨#[]⟩) (by simp) (by simp [go_sem])
   have r1:=cC hb1 (w.heap.size) 1 (.int .i64 0) (by simp) (by simp [go_sem])
   have r2:=cC hb1 (w.heap.size) 2 (.int .i64 0) (by simp) (by simp [go_sem])
   have fr:∀ j,w1.frozen? ⟨w.heap.size,j,none⟩=false:=fun j=>carryF hb1 (by simp) (by simp [go_sem])
   have hz:w.heap.size<w1.heap.size:=by have:=hb1.size;simp at this;omega
   have HB1:Hid (Below w.heap.size w w1):=(below_al _ _).trans (hb1.mono (by simp))
   clear hb1
   go_wp2_with fail
   refine Calls.mono (HFi.out _ cl HB1.out) ?_
   rintro e w2 ⟨rfl,hw2⟩
   subst w2
   go_wp2_with fail
   go_loopw [9] (fun jU wr=>∃ m:ByteArray,jU = .int .i64 (ixI (fixG nmC L m))∧Below w1.heap.size w1 wr∧res=fmU n d (CH nmC suC L m)) (fun jU _=>lenAt L (intOf jU))
   case atStart=>exact⟨cl,rfl,Below.refl _ _,HR0.out⟩
   case round =>
    obtain ⟨m,rfl,hb,hr⟩:=hrel
    have HR:=(show Hid (res=fmU n d (CH nmC suC L m)) from hr)
    have HBr:Hid (Below w.heap.size w wr):=HB1.out.trans (hb.mono HB1.out.size)
    have HBo:Hid (Below w1.heap.size w1 wr):=hb
    replace r0:=carry hb hz r0
    replace r1:=carry hb hz r1
    replace r2:=carry hb hz r2
    replace fr:∀ j,wr.frozen? ⟨w.heap.size,j,none⟩=false:=fun j=>carryF hb hz (fr j)
    have hz1:w.heap.size<wr.heap.size:=Nat.lt_of_lt_of_le hz hb.size
    have hln:=HLn.out m
    clear hb hr
    rcases HIn.out m with ⟨k1,k2⟩ | ⟨k,hk,k1,k2,k3⟩
    ·have HZ:Hid (res=(tE,0,8)):=by show _=_;rw [HR.out,k2];rfl
     rw [k1,show ixI (none:Option Nat) = -1 from rfl]
     clear HR hln k1 k2
     have q:=found3 r0 r1 r2 (.string ⟨#[]⟩) (.int .i64 0) (.int .i64 8)
     go_wp2
     exact bodyPost_ret (v:=.agg #[.string ⟨#[]⟩,.int .i64 0,.int .i64 8]) (by simp [results,Tryz.results63,go_sem,q.1,q.2.1,q.2.2]) rfl ⟨by rw [HZ.out];rfl,((HBr.out.setCell (by simp) _).setCell (by simp) _).setCell (by simp) _⟩
    ·have hfu:res=match mFixL (msC L[k]) n d with
      | some j=>(nmC L[k],(j:Int),0)
      | none=>if n=initN then (tE,0,8) else fmU n d (CH nmC suC L (suC L[k])):=by rw [HR.out,k3];rfl
     have hlk:lenAt L (ixI (fixG nmC L (suC L[k])))<lenAt L (ixI (fixG nmC L m)):=by rw [HLn.out,hln,k3];simp
     rw [k1,show ixI (some k)=(k:Int) from rfl] at hlk ⊢
     obtain ⟨b,o,rfl,hx⟩:=HA.out k hk
     obtain ⟨vc,vh,g0,g1,g2,g3,g4,g5,s0,s1,h4,h5⟩:=classAt (hx.mono HBr.out)
     have HM1:=(show Hid _ from HMe.out L[k] vc vh wr h4 h5)
     obtain ⟨fa,fc,rfl⟩:=slice_form h4
     obtain ⟨ma,mc,rfl⟩:=slice_form h5
     have HFu:=(show Hid _ from hfu)
     have HLk:=(show Hid _ from hlk)
     have hkI:(k:Int)<(L.length:Int):=by omega
     have HFS:=(show Hid _ from fun w' hb=>HFi.out w' (suC L[k]) hb)
     clear HR hln k1 k2 k3 hfu hlk hx h4 h5
     generalize hmf:mFixL (msC L[k]) n d=mf at *
     clear hmf
     generalize L[k]=x at *
     go_wp2_with fail
     refine Calls.mono HM1.out ?_
     rintro e w3 ⟨rfl,hb3⟩
     have HB3:Hid (Below w.heap.size w w3):=HBr.out.trans (hb3.mono HBr.out.size)
     have HB3o:Hid (Below w1.heap.size w1 w3):=HBo.out.trans (hb3.mono HBo.out.size)
     replace r0:=carry hb3 hz1 r0
     replace r1:=carry hb3 hz1 r1
     replace r2:=carry hb3 hz1 r2
     replace fr:∀ j,w3.frozen? ⟨w.heap.size,j,none⟩=false:=fun j=>carryF hb3 hz1 (fr j)
     have hbb:b<wr.heap.size:=World.block_lt_of_cell? _ _ g0
     replace g0:=carry hb3 hbb g0
     replace g1:=carry hb3 hbb g1
     clear hb3 g2 g3 g4 g5 HM1
     cases mf with
     | some j =>
      have HZ:Hid (res=(nmC x,(j:Int),0)):=HFu.out
      clear HFu
      rw [show ixI (some j)=(j:Int) from rfl]
      have q:=found3 r0 r1 r2 (.string (nmC x)) (.int .i64 (j:Int)) (.int .i64 0)
      go_wp2
      exact bodyPost_ret (v:=.agg #[.string (nmC x),.int .i64 (j:Int),.int .i64 0]) (by simp [results,Tryz.results63,go_sem,q.1,q.2.1,q.2.2]) rfl ⟨by rw [HZ.out];rfl,((HB3.out.setCell (by simp) _).setCell (by simp) _).setCell (by simp) _⟩
     | none =>
      rw [show ixI (none:Option Nat) = -1 from rfl]
      have HZ:Hid (res=fmU n d (CH nmC suC L (suC x))):=by show _=_;rw [HFu.out];simp [HNI.out]
      clear HFu
      go_wp2_with fail
      refine Calls.mono (HFS.out _ HB3.out) ?_
      rintro e w4 ⟨rfl,hw4⟩
      subst w4
      go_wp2
      go_roundw
      case rel=>exact⟨suC x,rfl,HB3o.out,HZ.out⟩
      case measure=>exact HLk.out
 ·have HK:Hid (ixI (fixG id biN cl) = -1):=hi
  have HR0:Hid (res=fmU n d (CH nmC suC L cl)):=HU.out fun k=>by rw [hb] at k;cases k.1
  clear HU HU1 hb hi
  by_cases hni:n=initN
  ·have dn:=init_eq hni
   have HNI:Hid (n=initN):=hni
   clear hni
   go_enter Tryz.func63,Tryz.ntmps63
   go_wp2_with fail
   refine Calls.mono (HBu.out _) ?_
   rintro e w1 ⟨rfl,hb1⟩
   rw [HK.out]
   have r0:=cC hb1 (w.heap.size) 0 (.string ⟨#[]⟩) (by simp) (by simp [go_sem])
   have r1:=cC hb1 (w.heap.size) 1 (.int .i64 0) (by simp) (by simp [go_sem])
   have r2:=cC hb1 (w.heap.size) 2 (.int .i64 0) (by simp) (by simp [go_sem])
   have fr:∀ j,w1.frozen? ⟨w.heap.size,j,none⟩=false:=fun j=>carryF hb1 (by simp) (by simp [go_sem])
   have hz:w.heap.size<w1.heap.size:=by have:=hb1.size;simp at this;omega
   have HB1:Hid (Below w.heap.size w w1):=(below_al _ _).trans (hb1.mono (by simp))
   clear hb1
   go_wp2_with fail
   refine Calls.mono (HFi.out _ cl HB1.out) ?_
   rintro e w2 ⟨rfl,hw2⟩
   subst w2
   go_wp2_with fail
   go_loopw [9] (fun jU wr=>∃ m:ByteArray,jU = .int .i64 (ixI (fixG nmC L m))∧Below w1.heap.size w1 wr∧res=fmU n d (CH nmC suC L m)) (fun jU _=>lenAt L (intOf jU))
   case atStart=>exact⟨cl,rfl,Below.refl _ _,HR0.out⟩
   case round =>
    obtain ⟨m,rfl,hb,hr⟩:=hrel
    have HR:=(show Hid (res=fmU n d (CH nmC suC L m)) from hr)
    have HBr:Hid (Below w.heap.size w wr):=HB1.out.trans (hb.mono HB1.out.size)
    have HBo:Hid (Below w1.heap.size w1 wr):=hb
    replace r0:=carry hb hz r0
    replace r1:=carry hb hz r1
    replace r2:=carry hb hz r2
    replace fr:∀ j,wr.frozen? ⟨w.heap.size,j,none⟩=false:=fun j=>carryF hb hz (fr j)
    have hz1:w.heap.size<wr.heap.size:=Nat.lt_of_lt_of_le hz hb.size
    have hln:=HLn.out m
    clear hb hr
    rcases HIn.out m with ⟨k1,k2⟩ | ⟨k,hk,k1,k2,k3⟩
    ·have HZ:Hid (res=(tE,0,8)):=by show _=_;rw [HR.out,k2];rfl
     rw [k1,show ixI (none:Option Nat) = -1 from rfl]
     clear HR hln k1 k2
     have q:=found3 r0 r1 r2 (.string ⟨#[]⟩) (.int .i64 0) (.int .i64 8)
     go_wp2
     exact bodyPost_ret (v:=.agg #[.string ⟨#[]⟩,.int .i64 0,.int .i64 8]) (by simp [results,Tryz.results63,go_sem,q.1,q.2.1,q.2.2]) rfl ⟨by rw [HZ.out];rfl,((HBr.out.setCell (by simp) _).setCell (by simp) _).setCell (by simp) _⟩
    ·have hfu:res=match mFixL (msC L[k]) n d with
      | some j=>(nmC L[k],(j:Int),0)
      | none=>if n=initN then (tE,0,8) else fmU n d (CH nmC suC L (suC L[k])):=by rw [HR.out,k3];rfl
     have hlk:lenAt L (ixI (fixG nmC L (suC L[k])))<lenAt L (ixI (fixG nmC L m)):=by rw [HLn.out,hln,k3];simp
     rw [k1,show ixI (some k)=(k:Int) from rfl] at hlk ⊢
     obtain ⟨b,o,rfl,hx⟩:=HA.out k hk
     obtain ⟨vc,vh,g0,g1,g2,g3,g4,g5,s0,s1,h4,h5⟩:=classAt (hx.mono HBr.out)
     have HM1:=(show Hid _ from HMe.out L[k] vc vh wr h4 h5)
     obtain ⟨fa,fc,rfl⟩:=slice_form h4
     obtain ⟨ma,mc,rfl⟩:=slice_form h5
     have HFu:=(show Hid _ from hfu)
     have HLk:=(show Hid _ from hlk)
     have hkI:(k:Int)<(L.length:Int):=by omega
     have HFS:=(show Hid _ from fun w' hb=>HFi.out w' (suC L[k]) hb)
     clear HR hln k1 k2 k3 hfu hlk hx h4 h5
     generalize hmf:mFixL (msC L[k]) n d=mf at *
     clear hmf
     generalize L[k]=x at *
     go_wp2_with fail
     refine Calls.mono HM1.out ?_
     rintro e w3 ⟨rfl,hb3⟩
     have HB3:Hid (Below w.heap.size w w3):=HBr.out.trans (hb3.mono HBr.out.size)
     have HB3o:Hid (Below w1.heap.size w1 w3):=HBo.out.trans (hb3.mono HBo.out.size)
     replace r0:=carry hb3 hz1 r0
     replace r1:=carry hb3 hz1 r1
     replace r2:=carry hb3 hz1 r2
     replace fr:∀ j,w3.frozen? ⟨w.heap.size,j,none⟩=false:=fun j=>carryF hb3 hz1 (fr j)
     have hbb:b<wr.heap.size:=World.block_lt_of_cell? _ _ g0
     replace g0:=carry hb3 hbb g0
     replace g1:=carry hb3 hbb g1
     clear hb3 g2 g3 g4 g5 HM1
     cases mf with
     | some j =>
      have HZ:Hid (res=(nmC x,(j:Int),0)):=HFu.out
      clear HFu
      rw [show ixI (some j)=(j:Int) from rfl]
      have q:=found3 r0 r1 r2 (.string (nmC x)) (.int .i64 (j:Int)) (.int .i64 0)
      go_wp2
      exact bodyPost_ret (v:=.agg #[.string (nmC x),.int .i64 (j:Int),.int .i64 0]) (by simp [results,Tryz.results63,go_sem,q.1,q.2.1,q.2.2]) rfl ⟨by rw [HZ.out];rfl,((HB3.out.setCell (by simp) _).setCell (by simp) _).setCell (by simp) _⟩
     | none =>
      rw [show ixI (none:Option Nat) = -1 from rfl]
      have HZ:Hid (res=(tE,0,8)):=by show _=_;rw [HFu.out];simp [HNI.out]
      clear HFu
      have q:=found3 r0 r1 r2 (.string ⟨#[]⟩) (.int .i64 0) (.int .i64 8)
      go_wp2
      exact bodyPost_ret (v:=.agg #[.string ⟨#[]⟩,.int .i64 0,.int .i64 8]) (by simp [results,Tryz.results63,go_sem,q.1,q.2.1,q.2.2]) rfl ⟨by rw [HZ.out];rfl,((HB3.out.setCell (by simp) _).setCell (by simp) _).setCell (by simp) _⟩
  ·have dn:=init_ne hni
   have HNI:Hid (n ≠ initN):=hni
   clear hni
   go_enter Tryz.func63,Tryz.ntmps63
   go_wp2_with fail
   refine Calls.mono (HBu.out _) ?_
   rintro e w1 ⟨rfl,hb1⟩
   rw [HK.out]
   have r0:=cC hb1 (w.heap.size) 0 (.string ⟨#[]⟩) (by simp) (by simp [go_sem])
   have r1:=cC hb1 (w.heap.size) 1 (.int .i64 0) (by simp) (by simp [go_sem])
   have r2:=cC hb1 (w.heap.size) 2 (.int .i64 0) (by simp) (by simp [go_sem])
   have fr:∀ j,w1.frozen? ⟨w.heap.size,j,none⟩=false:=fun j=>carryF hb1 (by simp) (by simp [go_sem])
   have hz:w.heap.size<w1.heap.size:=by have:=hb1.size;simp at this;omega
   have HB1:Hid (Below w.heap.size w w1):=(below_al _ _).trans (hb1.mono (by simp))
   clear hb1
   go_wp2_with fail
   refine Calls.mono (HFi.out _ cl HB1.out) ?_
   rintro e w2 ⟨rfl,hw2⟩
   subst w2
   go_wp2_with fail
   go_loopw [9] (fun jU wr=>∃ m:ByteArray,jU = .int .i64 (ixI (fixG nmC L m))∧Below w1.heap.size w1 wr∧res=fmU n d (CH nmC suC L m)) (fun jU _=>lenAt L (intOf jU))
   case atStart=>exact⟨cl,rfl,Below.refl _ _,HR0.out⟩
   case round =>
    obtain ⟨m,rfl,hb,hr⟩:=hrel
    have HR:=(show Hid (res=fmU n d (CH nmC suC L m)) from hr)
    have HBr:Hid (Below w.heap.size w wr):=HB1.out.trans (hb.mono HB1.out.size)
    have HBo:Hid (Below w1.heap.size w1 wr):=hb
    replace r0:=carry hb hz r0
    replace r1:=carry hb hz r1
    replace r2:=carry hb hz r2
    replace fr:∀ j,wr.frozen? ⟨w.heap.size,j,none⟩=false:=fun j=>carryF hb hz (fr j)
    have hz1:w.heap.size<wr.heap.size:=Nat.lt_of_lt_of_le hz hb.size
    have hln:=HLn.out m
    clear hb hr
    rcases HIn.out m with ⟨k1,k2⟩ | ⟨k,hk,k1,k2,k3⟩
    ·have HZ:Hid (res=(tE,0,8)):=by show _=_;rw [HR.out,k2];rfl
     rw [k1,show ixI (none:Option Nat) = -1 from rfl]
     clear HR hln k1 k2
     have q:=found3 r0 r1 r2 (.string ⟨#[]⟩) (.int .i64 0) (.int .i64 8)
     go_wp2
     exact bodyPost_ret (v:=.agg #[.string ⟨#[]⟩,.int .i64 0,.int .i64 8]) (by simp [results,Tryz.results63,go_sem,q.1,q.2.1,q.2.2]) rfl ⟨by rw [HZ.out];rfl,((HBr.out.setCell (by simp) _).setCell (by simp) _).setCell (by simp) _⟩
    ·have hfu:res=match mFixL (msC L[k]) n d with
      | some j=>(nmC L[k],(j:Int),0)
      | none=>if n=initN then (tE,0,8) else fmU n d (CH nmC suC L (suC L[k])):=by rw [HR.out,k3];rfl
     have hlk:lenAt L (ixI (fixG nmC L (suC L[k])))<lenAt L (ixI (fixG nmC L m)):=by rw [HLn.out,hln,k3];simp
     rw [k1,show ixI (some k)=(k:Int) from rfl] at hlk ⊢
     obtain ⟨b,o,rfl,hx⟩:=HA.out k hk
     obtain ⟨vc,vh,g0,g1,g2,g3,g4,g5,s0,s1,h4,h5⟩:=classAt (hx.mono HBr.out)
     have HM1:=(show Hid _ from HMe.out L[k] vc vh wr h4 h5)
     obtain ⟨fa,fc,rfl⟩:=slice_form h4
     obtain ⟨ma,mc,rfl⟩:=slice_form h5
     have HFu:=(show Hid _ from hfu)
     have HLk:=(show Hid _ from hlk)
     have hkI:(k:Int)<(L.length:Int):=by omega
     have HFS:=(show Hid _ from fun w' hb=>HFi.out w' (suC L[k]) hb)
     clear HR hln k1 k2 k3 hfu hlk hx h4 h5
     generalize hmf:mFixL (msC L[k]) n d=mf at *
     clear hmf
     generalize L[k]=x at *
     go_wp2_with fail
     refine Calls.mono HM1.out ?_
     rintro e w3 ⟨rfl,hb3⟩
     have HB3:Hid (Below w.heap.size w w3):=HBr.out.trans (hb3.mono HBr.out.size)
     have HB3o:Hid (Below w1.heap.size w1 w3):=HBo.out.trans (hb3.mono HBo.out.size)
     replace r0:=carry hb3 hz1 r0
     replace r1:=carry hb3 hz1 r1
     replace r2:=carry hb3 hz1 r2
     replace fr:∀ j,w3.frozen? ⟨w.heap.size,j,none⟩=false:=fun j=>carryF hb3 hz1 (fr j)
     have hbb:b<wr.heap.size:=World.block_lt_of_cell? _ _ g0
     replace g0:=carry hb3 hbb g0
     replace g1:=carry hb3 hbb g1
     clear hb3 g2 g3 g4 g5 HM1
     cases mf with
     | some j =>
      have HZ:Hid (res=(nmC x,(j:Int),0)):=HFu.out
      clear HFu
      rw [show ixI (some j)=(j:Int) from rfl]
      have q:=found3 r0 r1 r2 (.string (nmC x)) (.int .i64 (j:Int)) (.int .i64 0)
      go_wp2
      exact bodyPost_ret (v:=.agg #[.string (nmC x),.int .i64 (j:Int),.int .i64 0]) (by simp [results,Tryz.results63,go_sem,q.1,q.2.1,q.2.2]) rfl ⟨by rw [HZ.out];rfl,((HB3.out.setCell (by simp) _).setCell (by simp) _).setCell (by simp) _⟩
     | none =>
      rw [show ixI (none:Option Nat) = -1 from rfl]
      have HZ:Hid (res=fmU n d (CH nmC suC L (suC x))):=by show _=_;rw [HFu.out];simp [HNI.out]
      clear HFu
      go_wp2_with fail
      refine Calls.mono (HFS.out _ HB3.out) ?_
      rintro e w4 ⟨rfl,hw4⟩
      subst w4
      go_wp2
      go_roundw
      case rel=>exact⟨suC x,rfl,HB3o.out,HZ.out⟩
      case measure=>exact HLk.out
set_option maxHeartbeats 2000000 in
theorem specFindMethodOf (L:List CTup) (v:Value) (cl n d:ByteArray) (w:World) (h:classR.slice.In w [v] L) (h1:cl.size≤maxLen) (h2:n.size≤maxLen) (h3:d.size≤maxLen) :
  Calls Tryz.prog 27 #[v,.string cl,.string n,.string d] w fun e w'=>e = .returned (fdV (fmV L cl n d))∧Below w.heap.size w w':=by
 have HRt:Hid (∀ w',Below w.heap.size w w'→Calls Tryz.prog 38 #[v] w' fun e w2=>e = .returned (.bool (rtB L))∧Below w'.heap.size w' w2):=fun w' hb=>specRight L v w' (classR.slice.mono _ _ _ _ hb h)
 have HFm:Hid (rtB L=true→∀ w',Below w.heap.size w w'→Calls Tryz.prog 63 #[v,.string cl,.string n,.string d] w' fun e w2=>e = .returned (fdV (fmL L cl n d))∧Below w'.heap.size w' w2):=fun hr w' hb=>specFindML L v cl n d w' (classR.slice.mono _ _ _ _ hb h) (Past.acyL fun q hq=>(rt_right hr).2 q (by omega))
 have HLg:Hid ((400<L.length ∨ 20000<cl.size ∨ 20000<n.size ∨ 20000<d.size)→fmV L cl n d=(tE,0,2)):=fun k=>by unfold fmV;rw [if_pos k]
 have HSh:Hid (¬ (400<L.length ∨ 20000<cl.size ∨ 20000<n.size ∨ 20000<d.size)→fmV L cl n d=if rtB L then fmL L cl n d else (tE,0,0)):=fun k=>by unfold fmV;rw [if_neg k]
 obtain ⟨va,vcap,rfl,hvn,hvc,_⟩:=slice_open (by decide) h
 unfold maxLen at h1 h2 h3 hvc
 clear h
 generalize fmV L cl n d=res at *
 by_cases k0:400<L.length
 ·have HZ:Hid (res=(tE,0,2)):=HLg.out (.inl k0)
  have c0:decide ((400:Int)<(L.length:Int))=true:=by simp;omega
  clear HLg HSh
  go_enter Tryz.func27,Tryz.ntmps27
  go_wp2
  exact bodyPost_ret (v:=.agg #[.string ⟨#[]⟩,.int .i64 0,.int .i64 2]) (by simp [results,Tryz.results27,go_sem]) rfl ⟨by rw [HZ.out];rfl,by first | exact below_al _ _ | exact (((below_al _ _).setCell (by simp) _).setCell (by simp) _).setCell (by simp) _⟩
 have c0:decide ((400:Int)<(L.length:Int))=false:=by simp;omega
 by_cases k1:20000<cl.size
 ·have HZ:Hid (res=(tE,0,2)):=HLg.out (.inr (.inl k1))
  have c1:decide ((20000:Int)<(cl.size:Int))=true:=by simp;omega
  clear HLg HSh
  go_enter Tryz.func27,Tryz.ntmps27
  go_wp2
  exact bodyPost_ret (v:=.agg #[.string ⟨#[]⟩,.int .i64 0,.int .i64 2]) (by simp [results,Tryz.results27,go_sem]) rfl ⟨by rw [HZ.out];rfl,by first | exact below_al _ _ | exact (((below_al _ _).setCell (by simp) _).setCell (by simp) _).setCell (by simp) _⟩
 have c1:decide ((20000:Int)<(cl.size:Int))=false:=by simp;omega
 by_cases k2:20000<n.size
 ·have HZ:Hid (res=(tE,0,2)):=HLg.out (.inr (.inr (.inl k2)))
  have c2:decide ((20000:Int)<(n.size:Int))=true:=by simp;omega
  clear HLg HSh
  go_enter Tryz.func27,Tryz.ntmps27
  go_wp2
  exact bodyPost_ret (v:=.agg #[.string ⟨#[]⟩,.int .i64 0,.int .i64 2]) (by simp [results,Tryz.results27,go_sem]) rfl ⟨by rw [HZ.out];rfl,by first | exact below_al _ _ | exact (((below_al _ _).setCell (by simp) _).setCell (by simp) _).setCell (by simp) _⟩
 have c2:decide ((20000:Int)<(n.size:Int))=false:=by simp;omega
 by_cases k3:20000<d.size
 ·have HZ:Hid (res=(tE,0,2)):=HLg.out (.inr (.inr (.inr k3)))
  have c3:decide ((20000:Int)<(d.size:Int))=true:=by simp;omega
  clear HLg HSh
  go_enter Tryz.func27,Tryz.ntmps27
  go_wp2
  exact bodyPost_ret (v:=.agg #[.string ⟨#[]⟩,.int .i64 0,.int .i64 2]) (by simp [results,Tryz.results27,go_sem]) rfl ⟨by rw [HZ.out];rfl,by first | exact below_al _ _ | exact (((below_al _ _).setCell (by simp) _).setCell (by simp) _).setCell (by simp) _⟩
 have c3:decide ((20000:Int)<(d.size:Int))=false:=by simp;omega
 have HS:=(show Hid _ from HSh.out (by omega))
 clear HLg HSh
 cases hr:rtB L with
 | false =>
  have HZ:Hid (res=(tE,0,0)):=by show _=_;rw [HS.out,hr];rfl
  rw [hr] at HRt
  clear HS
  go_enter Tryz.func27,Tryz.ntmps27
  go_wp2_with fail
  refine Calls.mono (HRt.out _ (below_al _ _)) ?_
  rintro e w1 ⟨rfl,hb1⟩
  have HB1:Hid (Below w.heap.size w w1):=(below_al _ _).trans (hb1.mono (by simp))
  have r0:=cC hb1 (w.heap.size) 0 (.string ⟨#[]⟩) (by first | (simp;done) | (simp;omega)) (by simp [go_sem])
  have r1:=cC hb1 (w.heap.size) 1 (.int .i64 0) (by first | (simp;done) | (simp;omega)) (by simp [go_sem])
  have r2:=cC hb1 (w.heap.size) 2 (.int .i64 0) (by first | (simp;done) | (simp;omega)) (by simp [go_sem])
  have fr:∀ j,w1.frozen? ⟨w.heap.size,j,none⟩=false:=fun j=>carryF hb1 (by first | (simp;done) | (simp;omega)) (by simp [go_sem])
  have hz:w.heap.size<w1.heap.size:=by have:=hb1.size;simp at this;omega
  clear hb1
  have q:=found3 r0 r1 r2 (.string ⟨#[]⟩) (.int .i64 0) (.int .i64 0)
  go_wp2
  exact bodyPost_ret (v:=.agg #[.string ⟨#[]⟩,.int .i64 0,.int .i64 0]) (by simp [results,Tryz.results27,go_sem,q.1,q.2.1,q.2.2]) rfl ⟨by rw [HZ.out];rfl,((HB1.out.setCell (by simp) _).setCell (by simp) _).setCell (by simp) _⟩
 | true =>
  have HF1:=(show Hid _ from HFm.out hr)
  have HZ:Hid (res=fmL L cl n d):=by show _=_;rw [HS.out,hr];rfl
  rw [hr] at HRt
  clear HS
  generalize fmL L cl n d=fd at *
  obtain ⟨f0,f1,f2⟩:=fd
  unfold fdV at HF1
  simp only at HF1
  go_enter Tryz.func27,Tryz.ntmps27
  go_wp2_with fail
  refine Calls.mono (HRt.out _ (below_al _ _)) ?_
  rintro e w1 ⟨rfl,hb1⟩
  have HB1:Hid (Below w.heap.size w w1):=(below_al _ _).trans (hb1.mono (by simp))
  have r0:=cC hb1 (w.heap.size) 0 (.string ⟨#[]⟩) (by first | (simp;done) | (simp;omega)) (by simp [go_sem])
  have r1:=cC hb1 (w.heap.size) 1 (.int .i64 0) (by first | (simp;done) | (simp;omega)) (by simp [go_sem])
  have r2:=cC hb1 (w.heap.size) 2 (.int .i64 0) (by first | (simp;done) | (simp;omega)) (by simp [go_sem])
  have fr:∀ j,w1.frozen? ⟨w.heap.size,j,none⟩=false:=fun j=>carryF hb1 (by first | (simp;done) | (simp;omega)) (by simp [go_sem])
  have hz:w.heap.size<w1.heap.size:=by have:=hb1.size;simp at this;omega
  clear hb1
  go_wp2_with fail
  refine Calls.mono (HF1.out _ HB1.out) ?_
  rintro e w2 ⟨rfl,hb2⟩
  have HB2:Hid (Below w.heap.size w w2):=HB1.out.trans (hb2.mono HB1.out.size)
  replace r0:=carry hb2 hz r0
  replace r1:=carry hb2 hz r1
  replace r2:=carry hb2 hz r2
  replace fr:∀ j,w2.frozen? ⟨w.heap.size,j,none⟩=false:=fun j=>carryF hb2 hz (fr j)
  clear hb2
  have q:=found3 r0 r1 r2 (.string f0) (.int .i64 f1) (.int .i64 f2)
  go_wp2
  exact bodyPost_ret (v:=.agg #[.string f0,.int .i64 f1,.int .i64 f2]) (by simp [results,Tryz.results27,go_sem,q.1,q.2.1,q.2.2]) rfl ⟨by rw [HZ.out];rfl,((HB2.out.setCell (by simp) _).setCell (by simp) _).setCell (by simp) _⟩
end
section
open Go.RowKit
set_option maxRecDepth 20000
set_option linter.unusedVariables false

theorem nameB_le {n:ByteArray} (h:nameB n=true):n.size≤20:=by
 unfold nameB at h
 simp only [decide_eq_true_eq] at h
 omega
theorem bi_size:∀ b ∈ biC,(nmC b).size≤20:=by decide
theorem all_size {L:List CTup} (hp:Part L L.length):∀ c ∈ allC L,(nmC c).size≤20:=fun c hc=>by
 rcases List.mem_append.1 hc with k | k
 ·exact bi_size c k
 ·obtain ⟨i,hi,rfl⟩:=List.mem_iff_getElem.1 k
  exact nameB_le (hp.ok i hi hi).n
theorem all_len {E:List WE} {L:List CTup} (h:E.map WE.c=allC L) (hl:L.length≤10):E.length≤100:=by
 have:=congrArg List.length h
 have h8:biC.length=8:=rfl
 simp [allC,h8] at this
 omega
theorem implMakeWorld0 (L:List CTup) (v:Value) (w0 w:World) (hb0:Below w0.heap.size w0 w) (h:classR.slice.In w0 [v] L) (ht:Tab w) (hg:Glob w) :
  Calls Tryz.prog 41 #[v] w fun e w'=>Below w.heap.size w w'∧∃ wv,e = .returned (.tuple #[wv,.agg #[.int .i64 (wOut L).1,.int .i64 (wOut L).2]])∧((wOut L).2 ≠ 0→wv = .agg #[.slice none 0 0,.map none])∧((wOut L).2=0→∃ r E es ck,wv=wdV v r∧WmIs w' r E es ck∧E.map WE.c=allC L∧∀ y ∈ E,fieldR.slice.In w0 [y.vc] (fsC y.c)∧methR.slice.In w0 [y.vh] (msC y.c)):=by
 have hv:∃ a k c,v = .slice a k c:=by obtain ⟨a,cap,rfl,_⟩:=slice_open (by decide) h;exact⟨_,_,_,rfl⟩
 refine implMakeWorldIf L v w0 w hb0 h ht hg fun hl10 hp r E es ck c fa fc ma mc w' hc hwm hEm hf hm=>?_
 have:c ∈ E.map WE.c:=by rw [hEm];exact List.mem_append.2 (.inr hc)
 obtain ⟨x,hx,rfl⟩:=List.mem_map.1 this
 exact implMethodsFault L v r E es ck x fa fc ma mc w' hp hEm hc hwm hx hv (all_len hEm hl10) (fun y hy=>Nat.le_trans (all_size (hp.part (by omega)) y.c (by rw [← hEm];exact List.mem_map.2 ⟨y,hy,rfl⟩)) (by decide)) hm
theorem implMakeWorld (L:List CTup) (v:Value) (w:World) (h:classR.slice.In w [v] L) (ht:Tab w) (hg:Glob w) :
  Calls Tryz.prog 41 #[v] w fun e w'=>Below w.heap.size w w'∧∃ wv,e = .returned (.tuple #[wv,.agg #[.int .i64 (wOut L).1,.int .i64 (wOut L).2]])∧((wOut L).2 ≠ 0→wv = .agg #[.slice none 0 0,.map none])∧((wOut L).2=0→∃ r E es ck,wv=wdV v r∧WmIs w' r E es ck∧E.map WE.c=allC L∧∀ y ∈ E,fieldR.slice.In w [y.vc] (fsC y.c)∧methR.slice.In w [y.vh] (msC y.c)):=implMakeWorld0 L v w w (Below.refl _ _) h ht hg

open Go.RowKit
set_option linter.unusedVariables false
theorem look0 (n:ByteArray) (hn:n.size≤maxLen) (w:World):(Instr.lookup 70 (.map none) (.string n) true).run Tryz.prog w = .ok (.tuple #[zWE,.bool false]) w∧(Instr.lookup 70 (.map none) (.string n) false).run Tryz.prog w = .ok zWE w:=by
 have hx:keyOf Tryz.prog 9 (.string n)=some (.string n.data.toList):=WideMaps.keyOf_string_mk Tryz.underlying9 hn
 have hz:=zeroWE w
 rcases (strLaw).find w hx [] (by simp) with ⟨h1,_⟩ | ⟨j,e,_,h2,_⟩
 ·constructor<;>simp [Instr.lookup,run_underlying Tryz.underlying70,hz,Result.andThen,(strLaw).check w _ hx,h1]
 ·simp at h2
theorem implKnown0 (n:ByteArray) (hn:n.size≤maxLen) (w:World) :
  Calls Tryz.prog 71 #[.agg #[.slice none 0 0,.map none],.string n] w fun e w'=>e = .returned (.bool false)∧Below w.heap.size w w':=by
 have h2:=fun w=>(look0 n hn w).1
 unfold zWE at h2
 go_enter Tryz.func71,Tryz.ntmps71
 go_wp2
 go_ret
 exact⟨rfl,below_al2 _ _ _⟩
set_option maxRecDepth 100000 in
set_option maxHeartbeats 1000000 in
theorem implWayUp0 (n:ByteArray) (hn:n.size≤maxLen) (w:World) :
  Calls Tryz.prog 83 #[.agg #[.slice none 0 0,.map none],.string n] w fun e w'=>e = .returned (.slice none 0 0)∧Below w.heap.size w w':=by
 have HK:Hid (∀ w,Calls Tryz.prog 71 #[.agg #[.slice none 0 0,.map none],.string n] w fun e w'=>e = .returned (.bool false)∧Below w.heap.size w w'):=fun w=>implKnown0 n hn w
 go_enter Tryz.func83,Tryz.ntmps83
 go_wp2_with fail
 go_step3
 go_wp2_with fail
 go_step3
 go_wp2_with fail
 have x0:(w.alloc (.cells #[.slice none 0 0,.map none] 72)).cell? ⟨w.heap.size,0,none⟩=some (.slice none 0 0):=by simp [go_sem]
 have x1:(w.alloc (.cells #[.slice none 0 0,.map none] 72)).cell? ⟨w.heap.size,1,none⟩=some (.map none):=by simp [go_sem]
 have HBW:Hid (Below w.heap.size w (w.alloc (.cells #[.slice none 0 0,.map none] 72))):=below_al _ _
 generalize w.alloc (.cells #[.slice none 0 0,.map none] 72)=W at *
 go_loopw [1,5] (fun j1 j5 wr=>j1 = .string n∧j5 = .slice none 0 0∧wr=W) (fun _ _ _=>0)
 case atStart=>exact⟨rfl,rfl,rfl⟩
 case round =>
  obtain ⟨rfl,rfl,rfl⟩:=hrel
  go_wp2_with fail
  refine Calls.mono (HK.out _) ?_
  rintro e w1 ⟨rfl,hb1⟩
  have HB1:Hid (Below w.heap.size w w1):=HBW.out.trans (hb1.mono HBW.out.size)
  clear hb1
  go_wp2
  try rw [Exit.noGoto_ret]
  go_ret
  exact⟨rfl,HB1.out⟩
theorem implIsSub0 (a b:ByteArray) (ha:a.size≤maxLen) (w:World) :
  Calls Tryz.prog 55 #[.agg #[.slice none 0 0,.map none],.string a,.string b] w fun e w'=>e = .returned (.bool false)∧Below w.heap.size w w':=by
 have HW:Hid (∀ w,Calls Tryz.prog 83 #[.agg #[.slice none 0 0,.map none],.string a] w fun e w'=>e = .returned (.slice none 0 0)∧Below w.heap.size w w'):=fun w=>implWayUp0 a ha w
 go_enter Tryz.func55,Tryz.ntmps55
 go_wp2_with fail
 refine Calls.mono (HW.out _) ?_
 rintro e w1 ⟨rfl,hb1⟩
 have HB1:Hid (Below w.heap.size w w1):=(below_al _ _).trans (hb1.mono (by simp))
 clear hb1
 go_wp2_with fail
 go_loopw [13] (fun j13 wr=>j13 = .int .i64 0∧wr=w1) (fun _ _=>0)
 case atStart=>exact⟨rfl,rfl⟩
 case round =>
  obtain ⟨rfl,rfl⟩:=hrel
  go_wp2
  go_ret
  exact⟨rfl,HB1.out⟩
theorem implMake2 (L:List CTup) (v:Value) (w:World) (h:classR.slice.In w [v] L) (ht:Tab w) (hg:Glob w) :
  (rtB L=false∧Calls Tryz.prog 41 #[v] w fun e w'=>Below w.heap.size w w'∧e = .returned (.tuple #[.agg #[.slice none 0 0,.map none],.agg #[.int .i64 (wOut L).1,.int .i64 (wOut L).2]])) ∨
  (rtB L=true∧Right L∧Calls Tryz.prog 41 #[v] w fun e w'=>Below w.heap.size w w'∧∃ r E es ck,e = .returned (.tuple #[wdV v r,.agg #[.int .i64 (wOut L).1,.int .i64 (wOut L).2]])∧WmIs w' r E es ck∧E.map WE.c=allC L):=by
 cases hr:rtB L with
 | false =>
  refine .inl ⟨rfl,Calls.mono (implMakeWorld L v w h ht hg) ?_⟩
  rintro e w' ⟨h1,wv,rfl,h2,_⟩
  have:(wOut L).2 ≠ 0:=by unfold rtB at hr;simpa using hr
  rw [h2 this]
  exact⟨h1,rfl⟩
 | true =>
  refine .inr ⟨rfl,rt_right hr,Calls.mono (implMakeWorld L v w h ht hg) ?_⟩
  rintro e w' ⟨h1,wv,rfl,_,h3⟩
  have:(wOut L).2=0:=by unfold rtB at hr;simpa using hr
  obtain ⟨r,E,es,ck,rfl,h4,h5,_⟩:=h3 this
  exact⟨h1,r,E,es,ck,rfl,h4,h5⟩
theorem sub_eq {L:List CTup} {E:List WE} (hR:Right L) (h:E.map WE.c=allC L) (a b:ByteArray):subB E a b=sbC L a b:=by
 unfold subB sbC
 rw [← wyE hR.acy h a,List.any_map]
 rfl
theorem all_len' {E:List WE} {L:List CTup} (h:E.map WE.c=allC L) (hR:Right L):E.length≤100:=all_len h hR.1
set_option maxRecDepth 100000 in
set_option maxHeartbeats 1000000 in
theorem implIsSubOf (L:List CTup) (v:Value) (a b:ByteArray) (w:World) (h:classR.slice.In w [v] L) (ht:Tab w) (hg:Glob w) (ha:a.size≤maxLen) :
  Calls Tryz.prog 24 #[v,.string a,.string b] w fun e w'=>e = .returned (.bool (isV L a b))∧Below w.heap.size w w':=by
 obtain ⟨va,vcap,rfl,_⟩:=slice_open (by decide) h
 unfold isV
 rcases implMake2 L _ w h ht hg with ⟨hr,hm⟩ | ⟨hr,hR,hm⟩
 ·rw [hr]
  have HM:=(show Hid _ from hm)
  clear hm hr h ht hg
  generalize (wOut L).1=o1 at *
  generalize (wOut L).2=o2 at *
  go_enter Tryz.func24,Tryz.ntmps24
  go_wp2_with fail
  refine Calls.mono HM.out ?_
  rintro e w1 ⟨hb1,rfl⟩
  have HB1:Hid (Below w.heap.size w w1):=hb1
  clear hb1
  go_wp2_with fail
  refine Calls.mono (implIsSub0 a b ha _) ?_
  rintro e w2 ⟨rfl,hb2⟩
  have HB2:Hid (Below w.heap.size w w2):=((HB1.out.alloc HB1.out.size _).alloc (by have:=HB1.out.size;simp;omega) _).trans (hb2.mono (by have:=HB1.out.size;simp;omega))
  clear hb2
  go_wp2
  go_ret
  exact⟨rfl,HB2.out⟩
 ·rw [hr]
  have HM:=(show Hid _ from hm)
  clear hm hr h ht hg
  generalize (wOut L).1=o1 at *
  generalize (wOut L).2=o2 at *
  go_enter Tryz.func24,Tryz.ntmps24
  go_wp2_with fail
  refine Calls.mono HM.out ?_
  rintro e w1 ⟨hb1,r,E,es,ck,rfl,hwm,hE⟩
  have HB1:Hid (Below w.heap.size w w1):=hb1
  have HK:Hid (∀ w',Below w1.heap.size w1 w'→Calls Tryz.prog 55 #[.agg #[.slice va L.length vcap,.map (some r)],.string a,.string b] w' fun e w2=>e = .returned (.bool (sbC L a b))∧Below w'.heap.size w' w2):=fun w' hb=>by
   have:=implIsSubW (.slice va L.length vcap) r E es ck a b w' (hwm.below hb) ⟨_,_,_,rfl⟩ (all_len' hE hR) ha
   rw [sub_eq hR hE] at this
   exact this
  clear hb1 hwm hE
  obtain ⟨q,hq⟩:∃ q,sbC L a b=q:=⟨_,rfl⟩
  have HQ:Hid (sbC L a b=q):=hq
  rw [hq] at HK
  clear hq
  unfold wdV
  go_wp2_with fail
  refine Calls.mono (HK.out _ (below_al2 _ _ _)) ?_
  rintro e w2 ⟨rfl,hb2⟩
  have HB2:Hid (Below w.heap.size w w2):=((HB1.out.alloc HB1.out.size _).alloc (by have:=HB1.out.size;simp;omega) _).trans (hb2.mono (by have:=HB1.out.size;simp;omega))
  clear hb2
  go_wp2
  go_ret
  exact⟨rB (show q=(true && sbC L a b) from by rw [HQ.out];rfl),HB2.out⟩
end
section
open Go.RowKit
set_option maxRecDepth 20000
set_option linter.unusedVariables false
set_option maxHeartbeats 1000000 in
theorem implTooLong (xs:List ByteArray) (g:Nat) (w:World) (hl:xs.length=3) (hs:∀ x ∈ xs,x.size≤maxLen) (hc:∀ i (h:i<xs.length),w.cell? ⟨g,i,none⟩=some (.string xs[i])) :
  Calls Tryz.prog 49 #[.slice (some ⟨g,0,none⟩) 3 3] w fun e w'=>e = .returned (.bool (xs.any fun x=>decide (20000<x.size)))∧w'=w:=by
 have HC:=(show Hid (∀ i (h:i<xs.length),w.cell? ⟨g,i,none⟩=some (.string xs[i])) from hc)
 have HS:=(show Hid (∀ x ∈ xs,x.size≤maxLen) from hs)
 have HY:Hid (∀ i (h:i<xs.length),20000<xs[i].size→true=xs.any fun x=>decide (20000<x.size)):=fun i h k=>(List.any_eq_true.2 ⟨_,List.getElem_mem h,by simpa using k⟩).symm
 have HN:Hid ((∀ i (h:i<xs.length),¬ 20000<xs[i].size)→false=xs.any fun x=>decide (20000<x.size)):=fun k=>by
  refine (List.any_eq_false.2 fun x hx=>?_).symm
  obtain ⟨i,hi,rfl⟩:=List.mem_iff_getElem.1 hx
  simpa using k i hi
 generalize (xs.any fun x=>decide (20000<x.size))=res at *
 clear hc hs
 go_enter Tryz.func49,Tryz.ntmps49
 go_wp2_with fail
 go_loopw [7] (fun j7 wr=>∃ i:Nat,i≤3∧j7 = .int .i64 (i:Int)∧wr=w∧∀ j (h:j<xs.length),j<i→¬ 20000<xs[j].size) (fun j7 _=>3 - (intOf j7).toNat)
 case atStart=>exact⟨0,by omega,rfl,rfl,fun j _ h=>by omega⟩
 case round =>
  obtain ⟨i,hi,rfl,rfl,hno⟩:=hrel
  have HNo:=(show Hid (∀ j (h:j<xs.length),j<i→¬ 20000<xs[j].size) from hno)
  clear hno
  by_cases hlt:i<3
  ·have c0:=HC.out i (by omega)
   have hz:=HS.out xs[i] (List.getElem_mem (by omega))
   unfold maxLen at hz
   by_cases hb:20000<xs[i].size
   ·have HZ:Hid (true=res):=HY.out i (by omega) hb
    have d:decide ((20000:Int)<(xs[i].size:Int))=true:=by simp;omega
    clear HNo
    generalize xs[i]=x at *
    go_wp2
    go_ret
    exact⟨rB HZ.out,rfl⟩
   ·have HZ:Hid (∀ j (h:j<xs.length),j<i+1→¬ 20000<xs[j].size):=fun j hj hji=>by
     by_cases e2:j=i
     ·subst e2;exact hb
     ·exact HNo.out j hj (by omega)
    have d:decide ((20000:Int)<(xs[i].size:Int))=false:=by simp;omega
    clear HNo
    generalize xs[i]=x at *
    go_wp2
    go_roundw
    case rel=>exact⟨i+1,by omega,by go_num,by first | rfl | trivial,HZ.out⟩
    case measure=>simp [intOf];omega
  ·obtain rfl:i=3:=by omega
   have HZ:Hid (false=res):=HN.out fun j hj=>HNo.out j hj (by omega)
   clear HNo
   go_wp2
   go_ret
   exact⟨rB HZ.out,rfl⟩
end
section
open Go.RowKit
set_option maxRecDepth 20000
set_option linter.unusedVariables false
theorem found3_al2 {w:World} {R:Nat} {u0 u1 u2:Value} (hR:R<w.heap.size) (r0:w.cell? ⟨R,0,none⟩=some u0) (r1:w.cell? ⟨R,1,none⟩=some u1) (r2:w.cell? ⟨R,2,none⟩=some u2) (v0 v1 v2:Value) (o1 o2:Obj) :
  (((((w.setCell ⟨R,0,none⟩ v0).setCell ⟨R,1,none⟩ v1).setCell ⟨R,2,none⟩ v2).alloc o1).alloc o2).cell? ⟨R,0,none⟩=some v0∧(((((w.setCell ⟨R,0,none⟩ v0).setCell ⟨R,1,none⟩ v1).setCell ⟨R,2,none⟩ v2).alloc o1).alloc o2).cell? ⟨R,1,none⟩=some v1∧(((((w.setCell ⟨R,0,none⟩ v0).setCell ⟨R,1,none⟩ v1).setCell ⟨R,2,none⟩ v2).alloc o1).alloc o2).cell? ⟨R,2,none⟩=some v2 :=
 ⟨carry (below_al2 _ o1 o2) (by simpa using hR) (found3 r0 r1 r2 v0 v1 v2).1,carry (below_al2 _ o1 o2) (by simpa using hR) (found3 r0 r1 r2 v0 v1 v2).2.1,carry (below_al2 _ o1 o2) (by simpa using hR) (found3 r0 r1 r2 v0 v1 v2).2.2⟩
theorem any3 (a b c:ByteArray):(([a,b,c]:List ByteArray).any fun x=>decide (20000<x.size))=(decide (20000<a.size) || (decide (20000<b.size) || decide (20000<c.size))):=by simp
set_option maxHeartbeats 2000000 in
theorem implFindMethodOf (L:List CTup) (v:Value) (cl n d:ByteArray) (w:World) (h:classR.slice.In w [v] L) (ht:Tab w) (hg:Glob w) (h1:cl.size≤maxLen) (h2:n.size≤maxLen) (h3:d.size≤maxLen) :
  Calls Tryz.prog 26 #[v,.string cl,.string n,.string d] w fun e w'=>e = .returned (fdV (fmV L cl n d))∧Below w.heap.size w w':=by
 have HLg:Hid ((400<L.length ∨ 20000<cl.size ∨ 20000<n.size ∨ 20000<d.size)→fmV L cl n d=(tE,0,2)):=fun k=>by unfold fmV;rw [if_pos k]
 have HSh:Hid (¬ (400<L.length ∨ 20000<cl.size ∨ 20000<n.size ∨ 20000<d.size)→fmV L cl n d=if rtB L then fmL L cl n d else (tE,0,0)):=fun k=>by unfold fmV;rw [if_neg k]
 have HT:Hid (∀ g w',(w'.cell? ⟨g,0,none⟩=some (.string cl)∧w'.cell? ⟨g,1,none⟩=some (.string n)∧w'.cell? ⟨g,2,none⟩=some (.string d))→Calls Tryz.prog 49 #[.slice (some ⟨g,0,none⟩) 3 3] w' fun e w2=>e = .returned (.bool (decide (20000<cl.size) || (decide (20000<n.size) || decide (20000<d.size))))∧w2=w'):=fun g w' hc=>by
  have:=implTooLong [cl,n,d] g w' rfl (by simp;exact⟨h1,h2,h3⟩) (fun i hi=>by
   match i,hi with
   | 0,_=>exact hc.1
   | 1,_=>exact hc.2.1
   | 2,_=>exact hc.2.2)
  rw [any3] at this
  exact this
 have HMk:Hid (∀ w',Below w.heap.size w w'→(rtB L=false∧Calls Tryz.prog 41 #[v] w' fun e w2=>Below w'.heap.size w' w2∧e = .returned (.tuple #[.agg #[.slice none 0 0,.map none],.agg #[.int .i64 (wOut L).1,.int .i64 (wOut L).2]])) ∨
  (rtB L=true∧Right L∧Calls Tryz.prog 41 #[v] w' fun e w2=>Below w'.heap.size w' w2∧∃ r E es ck,e = .returned (.tuple #[wdV v r,.agg #[.int .i64 (wOut L).1,.int .i64 (wOut L).2]])∧WmIs w2 r E es ck∧E.map WE.c=allC L)):=fun w' hb=>implMake2 L v w' (classR.slice.mono _ _ _ _ hb h) (ht.mono hb) (hg.mono hb)
 have HO:Hid ((rtB L=false→(wOut L).2 ≠ 0)∧(rtB L=true→(wOut L).2=0)):=by
  unfold rtB
  exact⟨fun k=>by simpa using k,fun k=>by simpa using k⟩
 obtain ⟨va,vcap,rfl,hvn,hvc,_⟩:=slice_open (by decide) h
 have H123:=(show Hid (cl.size≤maxLen∧n.size≤maxLen∧d.size≤maxLen) from ⟨h1,h2,h3⟩)
 unfold maxLen at h1 h2 h3 hvc
 clear h ht hg
 generalize fmV L cl n d=res at *
 by_cases k0:400<L.length
 ·have HZ:Hid (res=(tE,0,2)):=HLg.out (.inl k0)
  have c0:decide ((400:Int)<(L.length:Int))=true:=by simp;omega
  clear HLg HSh
  go_enter Tryz.func26,Tryz.ntmps26
  go_wp2
  exact bodyPost_ret (v:=.agg #[.string ⟨#[]⟩,.int .i64 0,.int .i64 2]) (by simp [results,Tryz.results26,go_sem]) rfl ⟨by rw [HZ.out];rfl,by first | exact below_al _ _ | exact (((below_al _ _).setCell (by simp) _).setCell (by simp) _).setCell (by simp) _⟩
 have c0:decide ((400:Int)<(L.length:Int))=false:=by simp;omega
 by_cases kk:20000<cl.size ∨ 20000<n.size ∨ 20000<d.size
 ·have HZ:Hid (res=(tE,0,2)):=HLg.out (.inr kk)
  have HT1:Hid (∀ g w',(w'.cell? ⟨g,0,none⟩=some (.string cl)∧w'.cell? ⟨g,1,none⟩=some (.string n)∧w'.cell? ⟨g,2,none⟩=some (.string d))→Calls Tryz.prog 49 #[.slice (some ⟨g,0,none⟩) 3 3] w' fun e w2=>e = .returned (.bool true)∧w2=w'):=fun g w' hc=>by
   have:=HT.out g w' hc
   rw [show (decide (20000<cl.size) || (decide (20000<n.size) || decide (20000<d.size)))=true by simpa using kk] at this
   exact this
  clear HLg HSh HT kk
  go_enter Tryz.func26,Tryz.ntmps26
  go_wp2_with fail
  have HBW:Hid (Below w.heap.size w ((w.alloc (.cells #[.string ⟨#[]⟩,.int .i64 0,.int .i64 0] 34)).alloc (.cells #[.string cl,.string n,.string d] 9))):=below_al2 _ _ _
  have r0:((w.alloc (.cells #[.string ⟨#[]⟩,.int .i64 0,.int .i64 0] 34)).alloc (.cells #[.string cl,.string n,.string d] 9)).cell? ⟨w.heap.size,0,none⟩=some (.string ⟨#[]⟩):=by simp [go_sem]
  have r1:((w.alloc (.cells #[.string ⟨#[]⟩,.int .i64 0,.int .i64 0] 34)).alloc (.cells #[.string cl,.string n,.string d] 9)).cell? ⟨w.heap.size,1,none⟩=some (.int .i64 0):=by simp [go_sem]
  have r2:((w.alloc (.cells #[.string ⟨#[]⟩,.int .i64 0,.int .i64 0] 34)).alloc (.cells #[.string cl,.string n,.string d] 9)).cell? ⟨w.heap.size,2,none⟩=some (.int .i64 0):=by simp [go_sem]
  have fr:∀ j,((w.alloc (.cells #[.string ⟨#[]⟩,.int .i64 0,.int .i64 0] 34)).alloc (.cells #[.string cl,.string n,.string d] 9)).frozen? ⟨w.heap.size,j,none⟩=false:=fun j=>by simp [go_sem]
  have s0:((w.alloc (.cells #[.string ⟨#[]⟩,.int .i64 0,.int .i64 0] 34)).alloc (.cells #[.string cl,.string n,.string d] 9)).cell? ⟨w.heap.size+1,0,none⟩=some (.string cl):=by simp [go_sem]
  have s1:((w.alloc (.cells #[.string ⟨#[]⟩,.int .i64 0,.int .i64 0] 34)).alloc (.cells #[.string cl,.string n,.string d] 9)).cell? ⟨w.heap.size+1,1,none⟩=some (.string n):=by simp [go_sem]
  have s2:((w.alloc (.cells #[.string ⟨#[]⟩,.int .i64 0,.int .i64 0] 34)).alloc (.cells #[.string cl,.string n,.string d] 9)).cell? ⟨w.heap.size+1,2,none⟩=some (.string d):=by simp [go_sem]
  have hz:w.heap.size<((w.alloc (.cells #[.string ⟨#[]⟩,.int .i64 0,.int .i64 0] 34)).alloc (.cells #[.string cl,.string n,.string d] 9)).heap.size:=by simp;omega
  generalize ((w.alloc (.cells #[.string ⟨#[]⟩,.int .i64 0,.int .i64 0] 34)).alloc (.cells #[.string cl,.string n,.string d] 9))=W at *
  refine Calls.mono (HT1.out _ _ ⟨s0,s1,s2⟩) ?_
  rintro e w1 ⟨rfl,hw1⟩
  subst w1
  clear s0 s1 s2
  have q:=found3 r0 r1 r2 (.string ⟨#[]⟩) (.int .i64 0) (.int .i64 2)
  go_wp2
  exact bodyPost_ret (v:=.agg #[.string ⟨#[]⟩,.int .i64 0,.int .i64 2]) (by simp [results,Tryz.results26,go_sem,q.1,q.2.1,q.2.2]) rfl ⟨by rw [HZ.out];rfl,((HBW.out.setCell (by simp) _).setCell (by simp) _).setCell (by simp) _⟩
 have HT1:Hid (∀ g w',(w'.cell? ⟨g,0,none⟩=some (.string cl)∧w'.cell? ⟨g,1,none⟩=some (.string n)∧w'.cell? ⟨g,2,none⟩=some (.string d))→Calls Tryz.prog 49 #[.slice (some ⟨g,0,none⟩) 3 3] w' fun e w2=>e = .returned (.bool false)∧w2=w'):=fun g w' hc=>by
  have:=HT.out g w' hc
  rw [show (decide (20000<cl.size) || (decide (20000<n.size) || decide (20000<d.size)))=false by simp;omega] at this
  exact this
 have HS:=(show Hid _ from HSh.out (by omega))
 clear HLg HSh HT
 go_enter Tryz.func26,Tryz.ntmps26
 go_wp2_with fail
 have HBW:Hid (Below w.heap.size w ((w.alloc (.cells #[.string ⟨#[]⟩,.int .i64 0,.int .i64 0] 34)).alloc (.cells #[.string cl,.string n,.string d] 9))):=below_al2 _ _ _
 have r0:((w.alloc (.cells #[.string ⟨#[]⟩,.int .i64 0,.int .i64 0] 34)).alloc (.cells #[.string cl,.string n,.string d] 9)).cell? ⟨w.heap.size,0,none⟩=some (.string ⟨#[]⟩):=by simp [go_sem]
 have r1:((w.alloc (.cells #[.string ⟨#[]⟩,.int .i64 0,.int .i64 0] 34)).alloc (.cells #[.string cl,.string n,.string d] 9)).cell? ⟨w.heap.size,1,none⟩=some (.int .i64 0):=by simp [go_sem]
 have r2:((w.alloc (.cells #[.string ⟨#[]⟩,.int .i64 0,.int .i64 0] 34)).alloc (.cells #[.string cl,.string n,.string d] 9)).cell? ⟨w.heap.size,2,none⟩=some (.int .i64 0):=by simp [go_sem]
 have fr:∀ j,((w.alloc (.cells #[.string ⟨#[]⟩,.int .i64 0,.int .i64 0] 34)).alloc (.cells #[.string cl,.string n,.string d] 9)).frozen? ⟨w.heap.size,j,none⟩=false:=fun j=>by simp [go_sem]
 have s0:((w.alloc (.cells #[.string ⟨#[]⟩,.int .i64 0,.int .i64 0] 34)).alloc (.cells #[.string cl,.string n,.string d] 9)).cell? ⟨w.heap.size+1,0,none⟩=some (.string cl):=by simp [go_sem]
 have s1:((w.alloc (.cells #[.string ⟨#[]⟩,.int .i64 0,.int .i64 0] 34)).alloc (.cells #[.string cl,.string n,.string d] 9)).cell? ⟨w.heap.size+1,1,none⟩=some (.string n):=by simp [go_sem]
 have s2:((w.alloc (.cells #[.string ⟨#[]⟩,.int .i64 0,.int .i64 0] 34)).alloc (.cells #[.string cl,.string n,.string d] 9)).cell? ⟨w.heap.size+1,2,none⟩=some (.string d):=by simp [go_sem]
 have hz:w.heap.size<((w.alloc (.cells #[.string ⟨#[]⟩,.int .i64 0,.int .i64 0] 34)).alloc (.cells #[.string cl,.string n,.string d] 9)).heap.size:=by simp;omega
 generalize ((w.alloc (.cells #[.string ⟨#[]⟩,.int .i64 0,.int .i64 0] 34)).alloc (.cells #[.string cl,.string n,.string d] 9))=W at *
 refine Calls.mono (HT1.out _ _ ⟨s0,s1,s2⟩) ?_
 rintro e w1 ⟨rfl,hw1⟩
 subst w1
 clear s0 s1 s2
 go_wp2_with fail
 rcases HMk.out _ HBW.out with ⟨hr,hm⟩ | ⟨hr,hR,hm⟩
 ·have HZ:Hid (res=(tE,0,0)):=by show _=_;rw [HS.out,hr];rfl
  have ho:=HO.out.1 hr
  clear HS HMk HO hr
  generalize (wOut L).1=o1 at *
  generalize (wOut L).2=o2 at *
  have d1:(o2 != 0)=true:=by simpa using ho
  have d2:(o2 == 0)=false:=by simpa using ho
  refine Calls.mono hm ?_
  rintro e w2 ⟨hb2,rfl⟩
  have HB2:Hid (Below w.heap.size w w2):=HBW.out.trans (hb2.mono HBW.out.size)
  replace r0:=carry hb2 hz r0
  replace r1:=carry hb2 hz r1
  replace r2:=carry hb2 hz r2
  replace fr:∀ j,w2.frozen? ⟨w.heap.size,j,none⟩=false:=fun j=>carryF hb2 hz (fr j)
  have hz2:w.heap.size<w2.heap.size:=Nat.lt_of_lt_of_le hz hb2.size
  clear hb2 hm ho
  go_wp2
  have q:=found3_al2 hz2 r0 r1 r2 (.string ⟨#[]⟩) (.int .i64 0) (.int .i64 0) (.cells #[.slice none 0 0,.map none] 72) (.cells #[.int .i64 o1,.int .i64 o2] 47)
  exact bodyPost_ret (v:=.agg #[.string ⟨#[]⟩,.int .i64 0,.int .i64 0]) (by simp [results,Tryz.results26,go_sem,q.1,q.2.1,q.2.2]) rfl ⟨by rw [HZ.out];rfl,((((HB2.out.setCell (by simp) _).setCell (by simp) _).setCell (by simp) _).alloc (by simp;omega) _).alloc (by simp;omega) _⟩
 ·have HZ:Hid (res=fmL L cl n d):=by show _=_;rw [HS.out,hr];rfl
  have ho:=HO.out.2 hr
  rw [ho] at hm
  clear HS HMk HO hr ho
  generalize (wOut L).1=o1 at *
  refine Calls.mono hm ?_
  rintro e w2 ⟨hb2,r,E,es,ck,rfl,hwm,hE⟩
  have HB2:Hid (Below w.heap.size w w2):=HBW.out.trans (hb2.mono HBW.out.size)
  replace r0:=carry hb2 hz r0
  replace r1:=carry hb2 hz r1
  replace r2:=carry hb2 hz r2
  replace fr:∀ j,w2.frozen? ⟨w.heap.size,j,none⟩=false:=fun j=>carryF hb2 hz (fr j)
  have hz2:w.heap.size<w2.heap.size:=Nat.lt_of_lt_of_le hz hb2.size
  have HF:Hid (∀ w',Below w2.heap.size w2 w'→Calls Tryz.prog 62 #[.agg #[.slice va L.length vcap,.map (some r)],.string cl,.agg #[.string n,.string d]] w' fun e w3=>e = .returned (fdV (fmL L cl n d))∧Below w'.heap.size w' w3):=fun w' hb=>by
   have:=implFindMethod (.slice va L.length vcap) r E es ck cl n d w' (hwm.below hb) ⟨_,_,_,rfl⟩ (all_len' hE hR) H123.out.1 H123.out.2.1 H123.out.2.2 (fun x hx=>Nat.le_trans (all_size hR.part x.c (by rw [← hE];exact List.mem_map.2 ⟨x,hx,rfl⟩)) (by decide))
   rw [fm_tie hR hE (fun y hy=>(hwm.lies y hy).k.nd)] at this
   exact this
  clear hb2 hm hwm hE hR
  generalize fmL L cl n d=fd at *
  obtain ⟨f0,f1,f2⟩:=fd
  unfold fdV at HF
  simp only at HF
  unfold wdV
  have hza:∀ o1 o2,((w2.alloc o1).alloc o2).heap.size=w2.heap.size+2:=fun o1 o2=>by simp
  have ra0:∀ o1 o2,((w2.alloc o1).alloc o2).cell? ⟨w.heap.size,0,none⟩=some (.string ⟨#[]⟩):=fun o1 o2=>carry (below_al2 w2 o1 o2) hz2 r0
  have ra1:∀ o1 o2,((w2.alloc o1).alloc o2).cell? ⟨w.heap.size,1,none⟩=some (.int .i64 0):=fun o1 o2=>carry (below_al2 w2 o1 o2) hz2 r1
  have ra2:∀ o1 o2,((w2.alloc o1).alloc o2).cell? ⟨w.heap.size,2,none⟩=some (.int .i64 0):=fun o1 o2=>carry (below_al2 w2 o1 o2) hz2 r2
  have fra:∀ o1 o2 j,((w2.alloc o1).alloc o2).frozen? ⟨w.heap.size,j,none⟩=false:=fun o1 o2 j=>carryF (below_al2 w2 o1 o2) hz2 (fr j)
  go_wp2_with fail
  refine Calls.mono (HF.out _ (below_al2 _ _ _)) ?_
  rintro e w3 ⟨rfl,hb3⟩
  have HB3:Hid (Below w.heap.size w w3):=(HB2.out.trans ((below_al2 _ _ _).mono HB2.out.size)).trans (hb3.mono (by have:=HB2.out.size;simp;omega))
  replace r0:=carry hb3 (by simp;omega) (ra0 _ _)
  replace r1:=carry hb3 (by simp;omega) (ra1 _ _)
  replace r2:=carry hb3 (by simp;omega) (ra2 _ _)
  replace fr:∀ j,w3.frozen? ⟨w.heap.size,j,none⟩=false:=fun j=>carryF hb3 (by simp;omega) (fra _ _ j)
  clear hb3 ra0 ra1 ra2 fra hza
  have q:=found3 r0 r1 r2 (.string f0) (.int .i64 f1) (.int .i64 f2)
  go_wp2
  exact bodyPost_ret (v:=.agg #[.string f0,.int .i64 f1,.int .i64 f2]) (by simp [results,Tryz.results26,go_sem,q.1,q.2.1,q.2.2]) rfl ⟨by rw [HZ.out];rfl,((HB3.out.setCell (by simp) _).setCell (by simp) _).setCell (by simp) _⟩
end
section
open Go.RowKit
set_option maxRecDepth 20000
set_option linter.unusedVariables false
theorem sb_iff {L:List CTup} {a b:ByteArray}:sbC L a b=true ↔ b ∈ (CH nmC suC (allC L) a).map nmC:=by
 unfold sbC
 simp only [List.any_eq_true,decide_eq_true_eq,List.mem_map]
theorem suf_at {L:List CTup} (hA:AcyG nmC suC (allC L)) {c:CTup} {post:List CTup}:∀ (pre:List CTup) (a:ByteArray),CH nmC suC (allC L) a=pre ++ c :: post→CH nmC suC (allC L) (nmC c)=c :: post:=by
 intro pre
 induction pre with
 | nil =>
  intro a h
  cases e:lkG nmC (allC L) a with
  | none=>rw [CH_none e] at h;cases h
  | some x =>
   have h2:=hA.CH_some e
   rw [h] at h2
   have hx:c=x:=by simpa using (List.cons.inj h2).1
   subst hx
   rw [(lkG_some e).2,h]
   rfl
 | cons p pre ih =>
  intro a h
  cases e:lkG nmC (allC L) a with
  | none=>rw [CH_none e] at h;cases h
  | some x =>
   have h2:=hA.CH_some e
   rw [h] at h2
   exact ih _ (List.cons.inj h2).2.symm
theorem sb_anti {L:List CTup} (hA:AcyG nmC suC (allC L)) {x y:ByteArray} (h1:sbC L x y=true) (h2:sbC L y x=true):x=y:=by
 rw [sb_iff,List.mem_map] at h1 h2
 obtain ⟨c,hc,rfl⟩:=h1
 obtain ⟨d,hd,rfl⟩:=h2
 obtain ⟨p1,q1,e1⟩:=List.append_of_mem hc
 obtain ⟨p2,q2,e2⟩:=List.append_of_mem hd
 have f1:=suf_at hA p1 _ e1
 have f2:=suf_at hA p2 _ e2
 have l1:=congrArg List.length e1
 have l2:=congrArg List.length e2
 rw [f2] at l1
 rw [f1] at l2
 simp only [List.length_cons,List.length_append] at l1 l2
 have hp:p1=[]:=List.eq_nil_of_length_eq_zero (by omega)
 subst hp
 rw [List.nil_append,f2] at e1
 rw [(List.cons.inj e1).1]
end
section
open Go.RowKit
set_option maxRecDepth 20000
set_option linter.unusedVariables false
theorem fmU_spec (n d:ByteArray):∀ W,fmU n d W=(tE,0,8) ∨ ∃ pre c post k,W=pre ++ c :: post∧mFixL (msC c) n d=some k∧fmU n d W=(nmC c,(k:Int),0)∧∀ e ∈ pre,mFixL (msC e) n d=none:=by
 intro W
 induction W with
 | nil=>exact .inl rfl
 | cons c t ih =>
  unfold fmU
  cases hm:mFixL (msC c) n d with
  | some k=>exact .inr ⟨[],c,t,k,rfl,hm,rfl,fun e he=>by cases he⟩
  | none =>
   simp only
   by_cases hn:n=initN
   ·rw [if_pos hn]
    exact .inl rfl
   ·rw [if_neg hn]
    rcases ih with h | ⟨pre,e,post,k,h1,h2,h3,h4⟩
    ·exact .inl h
    ·refine .inr ⟨c :: pre,e,post,k,by rw [h1];rfl,h2,h3,fun x hx=>?_⟩
     rcases List.mem_cons.1 hx with rfl | hx
     ·exact hm
     ·exact h4 x hx
theorem mFix_of {ms:List MTup} {n d:ByteArray} {k:Nat} (h:mFixL ms n d=some k):∃ hk:k<ms.length,(mD ms[k]).name=n∧(mD ms[k]).desc=d:=by
 unfold mFixL at h
 obtain ⟨hk,h1,_⟩:=List.findIdx?_eq_some_iff_getElem.1 h
 exact⟨hk,by simpa using h1⟩
theorem mFix_has {ms:List MTup} {n d:ByteArray} {j:Nat} (hj:j<ms.length) (h1:(mD ms[j]).name=n) (h2:(mD ms[j]).desc=d):mFixL ms n d ≠ none:=fun h=>by
 unfold mFixL at h
 rw [List.findIdx?_eq_none_iff] at h
 have:=h _ (List.getElem_mem hj)
 simp [h1,h2] at this
theorem found_ok {L:List CTup} (hR:Right L) {cl n d:ByteArray} (h2:(fmL L cl n d).2.2=0) (h1:0≤(fmL L cl n d).2.1) :
  sbC L cl (fmL L cl n d).1=true∧∀ i (hi:i<L.length) j (hj:j<(msC L[i]).length),(mD (msC L[i])[j]).name=n→(mD (msC L[i])[j]).desc=d →
   (nmC L[i]=(fmL L cl n d).1→(j:Int)=(fmL L cl n d).2.1)∧(nmC L[i] ≠ (fmL L cl n d).1→sbC L cl (nmC L[i])=true→sbC L (nmC L[i]) (fmL L cl n d).1=false):=by
 have hA:=hR.acy
 have hAL:AcyG nmC suC L:=Past.acyL fun q hq=>hR.2 q (by omega)
 obtain ⟨tl,ht,htl⟩:=hR.part.two.chain hA hAL _ cl (Nat.le_refl _)
 by_cases hb:isBi cl=true∧n=initN∧d=initD
 ·have e:fmL L cl n d=(cl,-1,0):=by unfold fmL;rw [if_pos hb]
  rw [e] at h1
  simp at h1
 ·have e:fmL L cl n d=fmU n d (CH nmC suC L cl):=by unfold fmL;rw [if_neg hb]
  rcases fmU_spec n d (CH nmC suC L cl) with h | ⟨pre,c,post,k,g1,g2,g3,g4⟩
  ·rw [e,h] at h2
   simp at h2
  ·rw [e,g3]
   have hcL:c ∈ L:=CH_sub c (by rw [g1];simp)
   have hall:CH nmC suC (allC L) cl=pre ++ c :: (post ++ tl):=by
    show CH nmC suC (biC ++ L) cl=_
    rw [ht,g1]
    simp
   have same:∀ i (hi:i<L.length) x,x ∈ L→nmC L[i]=nmC x→L[i]=x:=fun i hi x hx he=>by
    have a1:=lkG_mem hR.part.nodup (List.getElem_mem hi)
    have a2:=lkG_mem hR.part.nodup hx
    rw [he,a2] at a1
    exact (Option.some.inj a1).symm
   refine ⟨by rw [sb_iff,hall];simp,fun i hi j hj m1 m2=>⟨fun he=>?_,fun hne ha=>?_⟩⟩
   ·have hx:=same i hi c hcL he
    obtain ⟨hk,k1,k2⟩:=mFix_of g2
    obtain ⟨i',hi',rfl⟩:=List.mem_iff_getElem.1 hcL
    have hmd:=(hR.part.ok i' hi' hi').md
    have hj':j<(msC L[i']).length:=by rw [← hx];exact hj
    have n1:(mD (msC L[i'])[j]).name=n:=by simpa [hx] using m1
    have n2:(mD (msC L[i'])[j]).desc=d:=by simpa [hx] using m2
    rcases Nat.lt_trichotomy j k with hlt | heq | hgt
    ·exact absurd ⟨n1.trans k1.symm,n2.trans k2.symm⟩ (hmd j k hj' hk hlt)
    ·rw [heq]
    ·exact absurd ⟨k1.trans n1.symm,k2.trans n2.symm⟩ (hmd k j hk hj' hgt)
   ·cases hs:sbC L (nmC L[i]) (nmC c) with
    | false=>rfl
    | true =>
     rw [sb_iff,hall,List.map_append,List.mem_append] at ha
     rcases ha with ha | ha
     ·obtain ⟨x,hx,he⟩:=List.mem_map.1 ha
      have hxe:=same i hi x (CH_sub x (by rw [g1];simp [hx])) he.symm
      have:=g4 x hx
      rw [← hxe] at this
      exact absurd this (mFix_has hj m1 m2)
     ·have hup:sbC L (nmC c) (nmC L[i])=true:=by rw [sb_iff,suf_at hA pre _ hall];exact ha
      exact absurd (sb_anti hA hs hup) hne
end
end Go.Proofs.YtmhgaggpdggbeaaGreatDoor
