import Derived.Test.YtmhgaggpdggbeaaGreatDoorWdT
import Derived.Test.YtmhgaggpdggbeaaGreatDoorWiE
namespace Go.Proofs.YtmhgaggpdggbeaaGreatDoor
open Go.RowKit
set_option maxRecDepth 20000
set_option linter.unusedVariables false

def fmU (n d:ByteArray):List CTup→ByteArray × Int × Int
 | []=>(tE,0,8)
 | c :: t=>match mFixL (msC c) n d with
  | some k=>(nmC c,(k:Int),0)
  | none=>if n=initN then (tE,0,8) else fmU n d t
def fmL (L:List CTup) (cl n d:ByteArray):ByteArray × Int × Int:=if isBi cl=true∧n=initN∧d=initD then (cl,-1,0) else fmU n d (CH nmC suC L cl)
noncomputable def fmV (L:List CTup) (cl n d:ByteArray):ByteArray × Int × Int:=if 400<L.length ∨ 20000<cl.size ∨ 20000<n.size ∨ 20000<d.size then (tE,0,2) else if rtB L then fmL L cl n d else (tE,0,0)
theorem kLk_one {c:CTup} {n d:ByteArray} (hb:isBi (nmC c)=true):kLk c n d=if n=initN∧d=initD then some (-1) else none:=by
 unfold kLk mKeys
 rw [hb]
 simp only [if_true,List.find?_cons,List.find?_nil,kIs]
 by_cases h:n=initN∧d=initD
 ·rw [if_pos h,h.1,h.2];simp
 ·rw [if_neg h]
  have:(decide (initN=n) && decide (initD=d))=false:=by
   simp only [Bool.and_eq_false_iff,decide_eq_false_iff_not]
   by_cases e:initN=n
   ·exact .inr fun k=>h ⟨e.symm,k.symm⟩
   ·exact .inl e
  rw [this]
  rfl
theorem fm_bi {n d:ByteArray} (hn:n ≠ initN):∀ (T:List WE),(∀ x ∈ T,isBi (nmC x.c)=true)→fmF n d T=(tE,0,8):=by
 intro T
 induction T with
 | nil=>intro _;rfl
 | cons x t ih =>
  intro h
  unfold fmF
  rw [kLk_bi (h x List.mem_cons_self) hn]
  simp only [if_neg hn]
  exact ih fun y hy=>h y (List.mem_cons_of_mem _ hy)
theorem fm_user {n d:ByteArray}:∀ (T:List WE) (A tl:List CTup),T.map WE.c=A ++ tl→(∀ c ∈ A,isBi (nmC c)=false)→(∀ c ∈ tl,isBi (nmC c)=true)→(∀ x ∈ T,∀ i j (hi:i<(mKeys x.c).length) (hj:j<(mKeys x.c).length),i<j→¬ ((mKeys x.c)[i].1=(mKeys x.c)[j].1∧(mKeys x.c)[i].2.1=(mKeys x.c)[j].2.1))→(n ≠ initN ∨ A ≠ [])→fmF n d T=fmU n d A:=by
 intro T
 induction T with
 | nil =>
  intro A tl h _ _ _ _
  have:A=[]:=by
   have:=congrArg List.length h
   simp at this
   exact List.eq_nil_of_length_eq_zero (by omega)
  subst this
  rfl
 | cons x t ih =>
  intro A tl h hA htl hnd hne
  cases A with
  | nil =>
   have hn:n ≠ initN:=hne.resolve_right (by simp)
   rw [fm_bi hn]
   ·rfl
   ·intro y hy
    exact htl y.c (by rw [← List.nil_append tl,← h];exact List.mem_map.2 ⟨y,hy,rfl⟩)
  | cons c A =>
   simp only [List.map_cons,List.cons_append,List.cons.injEq] at h
   obtain ⟨h1,h2⟩:=h
   have hk:=kLk_user (n:=n) (d:=d) (by rw [h1];exact hA c List.mem_cons_self) (hnd x List.mem_cons_self)
   unfold fmF fmU
   rw [h1] at hk ⊢
   rw [hk]
   cases hm:mFixL (msC c) n d with
   | some k'=>rfl
   | none =>
    simp only
    by_cases hn:n=initN
    ·rw [if_pos hn]
     simp [hn]
    ·rw [if_neg hn]
     simp only [if_neg hn]
     exact ih A tl h2 (fun c hc=>hA c (List.mem_cons_of_mem _ hc)) htl (fun x hx=>hnd x (List.mem_cons_of_mem _ hx)) (.inl hn)
theorem wyS {E:List WE} {L:List CTup} (hR:Right L) (h:E.map WE.c=allC L) (n:ByteArray):∃ tl,(wyG E n).map WE.c=CH nmC suC L n ++ tl∧∀ b ∈ tl,b ∈ biC:=by
 have hp:Past L 4:=fun q hq=>hR.2 q (by omega)
 rw [wyE hp.acy h n]
 exact hR.part.two.chain hp.acy hp.acyL _ n (Nat.le_refl _)
theorem fm_tie {E:List WE} {L:List CTup} (hR:Right L) (h:E.map WE.c=allC L) (hnd:∀ y ∈ E,∀ i j (hi:i<(mKeys y.c).length) (hj:j<(mKeys y.c).length),i<j→¬ ((mKeys y.c)[i].1=(mKeys y.c)[j].1∧(mKeys y.c)[i].2.1=(mKeys y.c)[j].2.1)) (cl n d:ByteArray):fmF n d (wyG E cl)=fmL L cl n d:=by
 obtain ⟨tl,h1,h2⟩:=wyS hR h cl
 have hacL:AcyG nmC suC L:=Past.acyL fun q hq=>hR.2 q (by omega)
 have hall:=wyE hR.acy h cl
 have hA:∀ c ∈ CH nmC suC L cl,isBi (nmC c)=false:=fun c hc=>isBi_user hR.part (CH_sub c hc)
 have hT:∀ c ∈ tl,isBi (nmC c)=true:=fun c hc=>isBi_bi (h2 c hc)
 have hN:∀ x ∈ wyG E cl,_:=fun x hx=>hnd x (wy_sub E _ x hx)
 unfold fmL
 rcases kn_alt L cl with ⟨_,k1,_,k3⟩ | ⟨c,_,hc,rfl,k1,_⟩
 ·-- unknown
  rw [hall,k3] at h1
  have hnil:CH nmC suC L cl=[]:=(List.append_eq_nil_iff.1 h1.symm).1
  have hb:isBi cl=false:=by
   cases e:isBi cl with
   | false=>rfl
   | true =>
    unfold isBi at e
    obtain ⟨b,hb,e2⟩:=List.any_eq_true.1 e
    simp only [decide_eq_true_eq] at e2
    subst e2
    rw [← biC_nm] at hb
    obtain ⟨x,hx,e3⟩:=List.mem_map.1 hb
    exact absurd e3 (lkG_none.1 k1 x (List.mem_append.2 (.inl hx)))
  rw [if_neg (by rw [hb];simp),hnil]
  have:wyG E cl=[]:=by
   have:=congrArg List.length (hall.trans k3)
   simp at this
   exact this
  rw [this]
  rfl
 ·have hch:=hR.acy.CH_some k1
  rcases List.mem_append.1 hc with hb | hu
  ·have hbi:=isBi_bi hb
   have hnil:CH nmC suC L (nmC c)=[]:=by
    refine CH_none (lkG_none.2 fun x hx e=>?_)
    exact hR.part.two.ap x hx c hb e
   rw [hnil] at h1 ⊢
   rw [hall,hch] at h1
   obtain ⟨x,t,hx,hxc,ht⟩:∃ x t,wyG E (nmC c)=x :: t∧x.c=c∧t.map WE.c=CH nmC suC (allC L) (suC c):=by
    rw [hch] at hall
    cases hw:wyG E (nmC c) with
    | nil=>rw [hw] at hall;cases hall
    | cons x t =>
     rw [hw] at hall
     simp only [List.map_cons,List.cons.injEq] at hall
     exact⟨x,t,rfl,hall.1,hall.2⟩
   by_cases hi:n=initN∧d=initD
   ·rw [if_pos ⟨hbi,hi.1,hi.2⟩,hx]
    unfold fmF
    rw [hxc,kLk_one hbi,if_pos hi]
   ·rw [if_neg (fun k=>hi k.2)]
    by_cases hn:n=initN
    ·rw [hx]
     unfold fmF
     rw [hxc,kLk_one hbi,if_neg hi]
     simp only [if_pos hn]
     rfl
    ·rw [fm_bi hn]
     ·rfl
     ·intro y hy
      have:y.c ∈ (wyG E (nmC c)).map WE.c:=List.mem_map.2 ⟨y,hy,rfl⟩
      rw [hall,hch,h1] at this
      exact hT y.c (by simpa using this)
  ·have hub:=isBi_user hR.part hu
   rw [if_neg (by rw [hub];simp)]
   have hlk:lkG nmC L (nmC c)=some c:=lkG_mem hR.part.nodup hu
   exact fm_user _ _ tl h1 hA hT hN (.inr (by rw [hacL.CH_some hlk];simp))
theorem bi_ix (cl:ByteArray):(isBi cl=true∧∃ i:Nat,ixI (fixG id biN cl)=(i:Int)) ∨ (isBi cl=false∧ixI (fixG id biN cl) = -1):=by
 rcases fix_cases (id:ByteArray→ByteArray) biN cl with ⟨h1,h2⟩ | ⟨i,hi,h1,h2,h3⟩
 ·refine .inr ⟨?_,by rw [h1];rfl⟩
  unfold isBi
  rw [List.any_eq_false]
  intro b hb
  simp only [decide_eq_true_eq]
  exact lkG_none.1 h2 b hb
 ·refine .inl ⟨?_,i,by rw [h1];rfl⟩
  unfold isBi
  rw [List.any_eq_true]
  exact⟨biN[i],List.getElem_mem hi,by simpa using h2⟩
theorem initD_eq {d:ByteArray} (h:d=initD):(d.toList == [40,41,86])=true:=by rw [h,ByteArray.toList_eq];rfl
theorem initD_ne {d:ByteArray} (h:d ≠ initD):(d.toList == [40,41,86])=false:=by
 rw [beq_eq_false_iff_ne]
 intro e
 rw [ByteArray.toList_eq] at e
 exact h (WideShapes.bytes_inj (by rw [e];rfl))
theorem found3 {w:World} {R:Nat} {u0 u1 u2:Value} (r0:w.cell? ⟨R,0,none⟩=some u0) (r1:w.cell? ⟨R,1,none⟩=some u1) (r2:w.cell? ⟨R,2,none⟩=some u2) (v0 v1 v2:Value) :
  (((w.setCell ⟨R,0,none⟩ v0).setCell ⟨R,1,none⟩ v1).setCell ⟨R,2,none⟩ v2).cell? ⟨R,0,none⟩=some v0∧(((w.setCell ⟨R,0,none⟩ v0).setCell ⟨R,1,none⟩ v1).setCell ⟨R,2,none⟩ v2).cell? ⟨R,1,none⟩=some v1∧(((w.setCell ⟨R,0,none⟩ v0).setCell ⟨R,1,none⟩ v1).setCell ⟨R,2,none⟩ v2).cell? ⟨R,2,none⟩=some v2 :=
 ⟨by simp [go_sem,r0],by simp [go_sem,r1],by simp [go_sem,r2]⟩
set_option maxHeartbeats 4000000 in
theorem specFindML (L:List CTup) (v:Value) (cl n d:ByteArray) (w:World) (h:classR.slice.In w [v] L) (hA:AcyG nmC suC L) :
  Calls Tryz.prog 63 #[v,.string cl,.string n,.string d] w fun e w'=>e = .returned (fdV (fmL L cl n d))∧Below w.heap.size w w':=by
 have HBu:Hid (∀ w',Calls Tryz.prog 65 #[.string cl] w' fun e w2=>e = .returned (.int .i64 (ixI (fixG id biN cl)))∧Below w'.heap.size w' w2):=fun w'=>specBuilt cl w'
 have HFi:Hid (∀ w' n,Below w.heap.size w w'→Calls Tryz.prog 66 #[v,.string n] w' fun e w2=>e = .returned (.int .i64 (ixI (fixG nmC L n)))∧w2=w'):=fun w' n hb=>specFind L v n w' (classR.slice.mono _ _ _ _ hb h)
 have HMe:Hid (∀ (x:CTup) xc xh w',fieldR.slice.In w' [xc] (fsC x)→methR.slice.In w' [xh] (msC x)→Calls Tryz.prog 92 #[.agg #[.string (nmC x),.string (suC x),.bool (fiC x),.bool (abC x),xc,xh],.string n,.string d] w' fun e w2=>e = .returned (.int .i64 (ixI (mFixL (msC x) n d)))∧Below w'.heap.size w' w2):=fun x xc xh w1 h1 h2=>specMethod (cD x) xc xh n d w1 h1 h2
 have HIn:=(show Hid (∀ n,(fixG nmC L n=none∧CH nmC suC L n=[]) ∨ ∃ k,∃ hk:k<L.length,fixG nmC L n=some k∧nmC L[k]=n∧CH nmC suC L n=L[k] :: CH nmC suC L (suC L[k])) from CH_fix hA)
 have HLn:Hid (∀ n,lenAt L (ixI (fixG nmC L n))=(CH nmC suC L n).length):=lenAt_fix L
 obtain ⟨a,cap,rfl,hn0,hcap,hat⟩:=slice_open (by decide) h
 unfold maxLen at hcap
 have HA:Hid (∀ i (h:i<L.length),∃ b o,a=some ⟨b,o,none⟩∧classR.At w ⟨b,o,none⟩ i L[i]):=hat
 clear hat h hA
 have HU:Hid (¬ (isBi cl=true∧n=initN∧d=initD)→fmL L cl n d=fmU n d (CH nmC suC L cl)):=fun k=>by unfold fmL;rw [if_neg k]
 have HU1:Hid ((isBi cl=true∧n=initN∧d=initD)→fmL L cl n d=(cl,-1,0)):=fun k=>by unfold fmL;rw [if_pos k]
 generalize fmL L cl n d=res at *
 rcases bi_ix cl with ⟨hb,i,hi⟩ | ⟨hb,hi⟩
 ·have HK:Hid (ixI (fixG id biN cl)=(i:Int)):=hi
  by_cases hni:n=initN
  ·have dn:=init_eq hni
   by_cases hdi:d=initD
   ·have dd:=initD_eq hdi
    have HZ:Hid (res=(cl,-1,0)):=HU1.out ⟨hb,hni,hdi⟩
    clear HU HU1 hni hdi hb hi
    go_enter Tryz.func63,Tryz.ntmps63
    go_wp2_with fail
    refine Calls.mono (HBu.out _) ?_
    rintro e w1 ⟨rfl,hb1⟩
    rw [HK.out]
    have r0:=cC hb1 (w.heap.size) 0 (.string ⟨#[]⟩) (by simp) (by simp [go_sem])
    have r1:=cC hb1 (w.heap.size) 1 (.int .i64 0) (by simp) (by simp [go_sem])
    have r2:=cC hb1 (w.heap.size) 2 (.int .i64 0) (by simp) (by simp [go_sem])
    have fr:∀ j,w1.frozen? ⟨w.heap.size,j,none⟩=false:=fun j=>carryF hb1 (by simp) (by simp [go_sem])
    have hz:w.heap.size<w1.heap.size:=by have:=hb1.size;simp at this;omega
    have HB1:Hid (Below w.heap.size w w1):=(below_al _ _).trans (hb1.mono (by simp))
    clear hb1
    have q:=found3 r0 r1 r2 (.string cl) (.int .i64 (-1)) (.int .i64 0)
    go_wp2
    exact bodyPost_ret (v:=.agg #[.string cl,.int .i64 (-1),.int .i64 0]) (by simp [results,Tryz.results63,go_sem,q.1,q.2.1,q.2.2]) rfl ⟨by rw [HZ.out];rfl,((HB1.out.setCell (by simp) _).setCell (by simp) _).setCell (by simp) _⟩
   ·have dd:=initD_ne hdi
    have HR0:Hid (res=fmU n d (CH nmC suC L cl)):=HU.out fun k=>hdi k.2.2
    clear HU HU1 hb hi
    have HNI:Hid (n=initN):=hni
    clear hni hdi
    go_enter Tryz.func63,Tryz.ntmps63
    go_wp2_with fail
    refine Calls.mono (HBu.out _) ?_
    rintro e w1 ⟨rfl,hb1⟩
    rw [HK.out]
    have r0:=cC hb1 (w.heap.size) 0 (.string ⟨#[]⟩) (by simp) (by simp [go_sem])
    have r1:=cC hb1 (w.heap.size) 1 (.int .i64 0) (by simp) (by simp [go_sem])
    have r2:=cC hb1 (w.heap.size) 2 (.int .i64 0) (by simp) (by simp [go_sem])
    have fr:∀ j,w1.frozen? ⟨w.heap.size,j,none⟩=false:=fun j=>carryF hb1 (by simp) (by simp [go_sem])
    have hz:w.heap.size<w1.heap.size:=by have:=hb1.size;simp at this;omega
    have HB1:Hid (Below w.heap.size w w1):=(below_al _ _).trans (hb1.mono (by simp))
    clear hb1
    go_wp2_with fail
    refine Calls.mono (HFi.out _ cl HB1.out) ?_
    rintro e w2 ⟨rfl,hw2⟩
    subst w2
    go_wp2_with fail
    go_loopw [9] (fun jU wr=>∃ m:ByteArray,jU = .int .i64 (ixI (fixG nmC L m))∧Below w1.heap.size w1 wr∧res=fmU n d (CH nmC suC L m)) (fun jU _=>lenAt L (intOf jU))
    case atStart=>exact⟨cl,rfl,Below.refl _ _,HR0.out⟩
    case round =>
     obtain ⟨m,rfl,hb,hr⟩:=hrel
     have HR:=(show Hid (res=fmU n d (CH nmC suC L m)) from hr)
     have HBr:Hid (Below w.heap.size w wr):=HB1.out.trans (hb.mono HB1.out.size)
     have HBo:Hid (Below w1.heap.size w1 wr):=hb
     replace r0:=carry hb hz r0
     replace r1:=carry hb hz r1
     replace r2:=carry hb hz r2
     replace fr:∀ j,wr.frozen? ⟨w.heap.size,j,none⟩=false:=fun j=>carryF hb hz (fr j)
     have hz1:w.heap.size<wr.heap.size:=Nat.lt_of_lt_of_le hz hb.size
     have hln:=HLn.out m
     clear hb hr
     rcases HIn.out m with ⟨k1,k2⟩ | ⟨k,hk,k1,k2,k3⟩
     ·have HZ:Hid (res=(tE,0,8)):=by show _=_;rw [HR.out,k2];rfl
      rw [k1,show ixI (none:Option Nat) = -1 from rfl]
      clear HR hln k1 k2
      have q:=found3 r0 r1 r2 (.string ⟨#[]⟩) (.int .i64 0) (.int .i64 8)
      go_wp2
      exact bodyPost_ret (v:=.agg #[.string ⟨#[]⟩,.int .i64 0,.int .i64 8]) (by simp [results,Tryz.results63,go_sem,q.1,q.2.1,q.2.2]) rfl ⟨by rw [HZ.out];rfl,((HBr.out.setCell (by simp) _).setCell (by simp) _).setCell (by simp) _⟩
     ·have hfu:res=match mFixL (msC L[k]) n d with
       | some j=>(nmC L[k],(j:Int),0)
       | none=>if n=initN then (tE,0,8) else fmU n d (CH nmC suC L (suC L[k])):=by rw [HR.out,k3];rfl
      have hlk:lenAt L (ixI (fixG nmC L (suC L[k])))<lenAt L (ixI (fixG nmC L m)):=by rw [HLn.out,hln,k3];simp
      rw [k1,show ixI (some k)=(k:Int) from rfl] at hlk ⊢
      obtain ⟨b,o,rfl,hx⟩:=HA.out k hk
      obtain ⟨vc,vh,g0,g1,g2,g3,g4,g5,s0,s1,h4,h5⟩:=classAt (hx.mono HBr.out)
      have HM1:=(show Hid _ from HMe.out L[k] vc vh wr h4 h5)
      obtain ⟨fa,fc,rfl⟩:=slice_form h4
      obtain ⟨ma,mc,rfl⟩:=slice_form h5
      have HFu:=(show Hid _ from hfu)
      have HLk:=(show Hid _ from hlk)
      have hkI:(k:Int)<(L.length:Int):=by omega
      have HFS:=(show Hid _ from fun w' hb=>HFi.out w' (suC L[k]) hb)
      clear HR hln k1 k2 k3 hfu hlk hx h4 h5
      generalize hmf:mFixL (msC L[k]) n d=mf at *
      clear hmf
      generalize L[k]=x at *
      go_wp2_with fail
      refine Calls.mono HM1.out ?_
      rintro e w3 ⟨rfl,hb3⟩
      have HB3:Hid (Below w.heap.size w w3):=HBr.out.trans (hb3.mono HBr.out.size)
      have HB3o:Hid (Below w1.heap.size w1 w3):=HBo.out.trans (hb3.mono HBo.out.size)
      replace r0:=carry hb3 hz1 r0
      replace r1:=carry hb3 hz1 r1
      replace r2:=carry hb3 hz1 r2
      replace fr:∀ j,w3.frozen? ⟨w.heap.size,j,none⟩=false:=fun j=>carryF hb3 hz1 (fr j)
      have hbb:b<wr.heap.size:=World.block_lt_of_cell? _ _ g0
      replace g0:=carry hb3 hbb g0
      replace g1:=carry hb3 hbb g1
      clear hb3 g2 g3 g4 g5 HM1
      cases mf with
      | some j =>
       have HZ:Hid (res=(nmC x,(j:Int),0)):=HFu.out
       clear HFu
       rw [show ixI (some j)=(j:Int) from rfl]
       have q:=found3 r0 r1 r2 (.string (nmC x)) (.int .i64 (j:Int)) (.int .i64 0)
       go_wp2
       exact bodyPost_ret (v:=.agg #[.string (nmC x),.int .i64 (j:Int),.int .i64 0]) (by simp [results,Tryz.results63,go_sem,q.1,q.2.1,q.2.2]) rfl ⟨by rw [HZ.out];rfl,((HB3.out.setCell (by simp) _).setCell (by simp) _).setCell (by simp) _⟩
      | none =>
       rw [show ixI (none:Option Nat) = -1 from rfl]
       have HZ:Hid (res=(tE,0,8)):=by show _=_;rw [HFu.out];simp [HNI.out]
       clear HFu
       have q:=found3 r0 r1 r2 (.string ⟨#[]⟩) (.int .i64 0) (.int .i64 8)
       go_wp2
       exact bodyPost_ret (v:=.agg #[.string ⟨#[]⟩,.int .i64 0,.int .i64 8]) (by simp [results,Tryz.results63,go_sem,q.1,q.2.1,q.2.2]) rfl ⟨by rw [HZ.out];rfl,((HB3.out.setCell (by simp) _).setCell (by simp) _).setCell (by simp) _⟩
  ·have dn:=init_ne hni
   have HR0:Hid (res=fmU n d (CH nmC suC L cl)):=HU.out fun k=>hni k.2.1
   clear HU HU1 hb hi
   have HNI:Hid (n ≠ initN):=hni
   clear hni
   go_enter Tryz.func63,Tryz.ntmps63
   go_wp2_with fail
   refine Calls.mono (HBu.out _) ?_
   rintro e w1 ⟨rfl,hb1⟩
   rw [HK.out]
   have r0:=cC hb1 (w.heap.size) 0 (.string ⟨#[]⟩) (by simp) (by simp [go_sem])
   have r1:=cC hb1 (w.heap.size) 1 (.int .i64 0) (by simp) (by simp [go_sem])
   have r2:=cC hb1 (w.heap.size) 2 (.int .i64 0) (by simp) (by simp [go_sem])
   have fr:∀ j,w1.frozen? ⟨w.heap.size,j,none⟩=false:=fun j=>carryF hb1 (by simp) (by simp [go_sem])
   have hz:w.heap.size<w1.heap.size:=by have:=hb1.size;simp at this;omega
   have HB1:Hid (Below w.heap.size w w1):=(below_al _ _).trans (hb1.mono (by simp))
   clear hb1
   go_wp2_with fail
   refine Calls.mono (HFi.out _ cl HB1.out) ?_
   rintro e w2 ⟨rfl,hw2⟩
   subst w2
   go_wp2_with fail
   go_loopw [9] (fun jU wr=>∃ m:ByteArray,jU = .int .i64 (ixI (fixG nmC L m))∧Below w1.heap.size w1 wr∧res=fmU n d (CH nmC suC L m)) (fun jU _=>lenAt L (intOf jU))
   case atStart=>exact⟨cl,rfl,Below.refl _ _,HR0.out⟩
   case round =>
    obtain ⟨m,rfl,hb,hr⟩:=hrel
    have HR:=(show Hid (res=fmU n d (CH nmC suC L m)) from hr)
    have HBr:Hid (Below w.heap.size w wr):=HB1.out.trans (hb.mono HB1.out.size)
    have HBo:Hid (Below w1.heap.size w1 wr):=hb
    replace r0:=carry hb hz r0
    replace r1:=carry hb hz r1
    replace r2:=carry hb hz r2
    replace fr:∀ j,wr.frozen? ⟨w.heap.size,j,none⟩=false:=fun j=>carryF hb hz (fr j)
    have hz1:w.heap.size<wr.heap.size:=Nat.lt_of_lt_of_le hz hb.size
    have hln:=HLn.out m
    clear hb hr
    rcases HIn.out m with ⟨k1,k2⟩ | ⟨k,hk,k1,k2,k3⟩
    ·have HZ:Hid (res=(tE,0,8)):=by show _=_;rw [HR.out,k2];rfl
     rw [k1,show ixI (none:Option Nat) = -1 from rfl]
     clear HR hln k1 k2
     have q:=found3 r0 r1 r2 (.string ⟨#[]⟩) (.int .i64 0) (.int .i64 8)
     go_wp2
     exact bodyPost_ret (v:=.agg #[.string ⟨#[]⟩,.int .i64 0,.int .i64 8]) (by simp [results,Tryz.results63,go_sem,q.1,q.2.1,q.2.2]) rfl ⟨by rw [HZ.out];rfl,((HBr.out.setCell (by simp) _).setCell (by simp) _).setCell (by simp) _⟩
    ·have hfu:res=match mFixL (msC L[k]) n d with
      | some j=>(nmC L[k],(j:Int),0)
      | none=>if n=initN then (tE,0,8) else fmU n d (CH nmC suC L (suC L[k])):=by rw [HR.out,k3];rfl
     have hlk:lenAt L (ixI (fixG nmC L (suC L[k])))<lenAt L (ixI (fixG nmC L m)):=by rw [HLn.out,hln,k3];simp
     rw [k1,show ixI (some k)=(k:Int) from rfl] at hlk ⊢
     obtain ⟨b,o,rfl,hx⟩:=HA.out k hk
     obtain ⟨vc,vh,g0,g1,g2,g3,g4,g5,s0,s1,h4,h5⟩:=classAt (hx.mono HBr.out)
     have HM1:=(show Hid _ from HMe.out L[k] vc vh wr h4 h5)
     obtain ⟨fa,fc,rfl⟩:=slice_form h4
     obtain ⟨ma,mc,rfl⟩:=slice_form h5
     have HFu:=(show Hid _ from hfu)
     have HLk:=(show Hid _ from hlk)
     have hkI:(k:Int)<(L.length:Int):=by omega
     have HFS:=(show Hid _ from fun w' hb=>HFi.out w' (suC L[k]) hb)
     clear HR hln k1 k2 k3 hfu hlk hx h4 h5
     generalize hmf:mFixL (msC L[k]) n d=mf at *
     clear hmf
     generalize L[k]=x at *
     go_wp2_with fail
     refine Calls.mono HM1.out ?_
     rintro e w3 ⟨rfl,hb3⟩
     have HB3:Hid (Below w.heap.size w w3):=HBr.out.trans (hb3.mono HBr.out.size)
     have HB3o:Hid (Below w1.heap.size w1 w3):=HBo.out.trans (hb3.mono HBo.out.size)
     replace r0:=carry hb3 hz1 r0
     replace r1:=carry hb3 hz1 r1
     replace r2:=carry hb3 hz1 r2
     replace fr:∀ j,w3.frozen? ⟨w.heap.size,j,none⟩=false:=fun j=>carryF hb3 hz1 (fr j)
     have hbb:b<wr.heap.size:=World.block_lt_of_cell? _ _ g0
     replace g0:=carry hb3 hbb g0
     replace g1:=carry hb3 hbb g1
     clear hb3 g2 g3 g4 g5 HM1
     cases mf with
     | some j =>
      have HZ:Hid (res=(nmC x,(j:Int),0)):=HFu.out
      clear HFu
      rw [show ixI (some j)=(j:Int) from rfl]
      have q:=found3 r0 r1 r2 (.string (nmC x)) (.int .i64 (j:Int)) (.int .i64 0)
      go_wp2
      exact bodyPost_ret (v:=.agg #[.string (nmC x),.int .i64 (j:Int),.int .i64 0]) (by simp [results,Tryz.results63,go_sem,q.1,q.2.1,q.2.2]) rfl ⟨by rw [HZ.out];rfl,((HB3.out.setCell (by simp) _).setCell (by simp) _).setCell (by simp) _⟩
     | none =>
      rw [show ixI (none:Option Nat) = -1 from rfl]
      have HZ:Hid (res=fmU n d (CH nmC suC L (suC x))):=by show _=_;rw [HFu.out];simp [HNI.out]
      clear HFu
      go_wp2_with fail
      refine Calls.mono (HFS.out _ HB3.out) ?_
      rintro e w4 ⟨rfl,hw4⟩
      subst w4
      go_wp2
      go_roundw
      case rel=>exact⟨suC x,rfl,HB3o.out,HZ.out⟩
      case measure=>exact HLk.out
 ·have HK:Hid (ixI (fixG id biN cl) = -1):=hi
  have HR0:Hid (res=fmU n d (CH nmC suC L cl)):=HU.out fun k=>by rw [hb] at k;cases k.1
  clear HU HU1 hb hi
  by_cases hni:n=initN
  ·have dn:=init_eq hni
   have HNI:Hid (n=initN):=hni
   clear hni
   go_enter Tryz.func63,Tryz.ntmps63
   go_wp2_with fail
   refine Calls.mono (HBu.out _) ?_
   rintro e w1 ⟨rfl,hb1⟩
   rw [HK.out]
   have r0:=cC hb1 (w.heap.size) 0 (.string ⟨#[]⟩) (by simp) (by simp [go_sem])
   have r1:=cC hb1 (w.heap.size) 1 (.int .i64 0) (by simp) (by simp [go_sem])
   have r2:=cC hb1 (w.heap.size) 2 (.int .i64 0) (by simp) (by simp [go_sem])
   have fr:∀ j,w1.frozen? ⟨w.heap.size,j,none⟩=false:=fun j=>carryF hb1 (by simp) (by simp [go_sem])
   have hz:w.heap.size<w1.heap.size:=by have:=hb1.size;simp at this;omega
   have HB1:Hid (Below w.heap.size w w1):=(below_al _ _).trans (hb1.mono (by simp))
   clear hb1
   go_wp2_with fail
   refine Calls.mono (HFi.out _ cl HB1.out) ?_
   rintro e w2 ⟨rfl,hw2⟩
   subst w2
   go_wp2_with fail
   go_loopw [9] (fun jU wr=>∃ m:ByteArray,jU = .int .i64 (ixI (fixG nmC L m))∧Below w1.heap.size w1 wr∧res=fmU n d (CH nmC suC L m)) (fun jU _=>lenAt L (intOf jU))
   case atStart=>exact⟨cl,rfl,Below.refl _ _,HR0.out⟩
   case round =>
    obtain ⟨m,rfl,hb,hr⟩:=hrel
    have HR:=(show Hid (res=fmU n d (CH nmC suC L m)) from hr)
    have HBr:Hid (Below w.heap.size w wr):=HB1.out.trans (hb.mono HB1.out.size)
    have HBo:Hid (Below w1.heap.size w1 wr):=hb
    replace r0:=carry hb hz r0
    replace r1:=carry hb hz r1
    replace r2:=carry hb hz r2
    replace fr:∀ j,wr.frozen? ⟨w.heap.size,j,none⟩=false:=fun j=>carryF hb hz (fr j)
    have hz1:w.heap.size<wr.heap.size:=Nat.lt_of_lt_of_le hz hb.size
    have hln:=HLn.out m
    clear hb hr
    rcases HIn.out m with ⟨k1,k2⟩ | ⟨k,hk,k1,k2,k3⟩
    ·have HZ:Hid (res=(tE,0,8)):=by show _=_;rw [HR.out,k2];rfl
     rw [k1,show ixI (none:Option Nat) = -1 from rfl]
     clear HR hln k1 k2
     have q:=found3 r0 r1 r2 (.string ⟨#[]⟩) (.int .i64 0) (.int .i64 8)
     go_wp2
     exact bodyPost_ret (v:=.agg #[.string ⟨#[]⟩,.int .i64 0,.int .i64 8]) (by simp [results,Tryz.results63,go_sem,q.1,q.2.1,q.2.2]) rfl ⟨by rw [HZ.out];rfl,((HBr.out.setCell (by simp) _).setCell (by simp) _).setCell (by simp) _⟩
    ·have hfu:res=match mFixL (msC L[k]) n d with
      | some j=>(nmC L[k],(j:Int),0)
      | none=>if n=initN then (tE,0,8) else fmU n d (CH nmC suC L (suC L[k])):=by rw [HR.out,k3];rfl
     have hlk:lenAt L (ixI (fixG nmC L (suC L[k])))<lenAt L (ixI (fixG nmC L m)):=by rw [HLn.out,hln,k3];simp
     rw [k1,show ixI (some k)=(k:Int) from rfl] at hlk ⊢
     obtain ⟨b,o,rfl,hx⟩:=HA.out k hk
     obtain ⟨vc,vh,g0,g1,g2,g3,g4,g5,s0,s1,h4,h5⟩:=classAt (hx.mono HBr.out)
     have HM1:=(show Hid _ from HMe.out L[k] vc vh wr h4 h5)
     obtain ⟨fa,fc,rfl⟩:=slice_form h4
     obtain ⟨ma,mc,rfl⟩:=slice_form h5
     have HFu:=(show Hid _ from hfu)
     have HLk:=(show Hid _ from hlk)
     have hkI:(k:Int)<(L.length:Int):=by omega
     have HFS:=(show Hid _ from fun w' hb=>HFi.out w' (suC L[k]) hb)
     clear HR hln k1 k2 k3 hfu hlk hx h4 h5
     generalize hmf:mFixL (msC L[k]) n d=mf at *
     clear hmf
     generalize L[k]=x at *
     go_wp2_with fail
     refine Calls.mono HM1.out ?_
     rintro e w3 ⟨rfl,hb3⟩
     have HB3:Hid (Below w.heap.size w w3):=HBr.out.trans (hb3.mono HBr.out.size)
     have HB3o:Hid (Below w1.heap.size w1 w3):=HBo.out.trans (hb3.mono HBo.out.size)
     replace r0:=carry hb3 hz1 r0
     replace r1:=carry hb3 hz1 r1
     replace r2:=carry hb3 hz1 r2
     replace fr:∀ j,w3.frozen? ⟨w.heap.size,j,none⟩=false:=fun j=>carryF hb3 hz1 (fr j)
     have hbb:b<wr.heap.size:=World.block_lt_of_cell? _ _ g0
     replace g0:=carry hb3 hbb g0
     replace g1:=carry hb3 hbb g1
     clear hb3 g2 g3 g4 g5 HM1
     cases mf with
     | some j =>
      have HZ:Hid (res=(nmC x,(j:Int),0)):=HFu.out
      clear HFu
      rw [show ixI (some j)=(j:Int) from rfl]
      have q:=found3 r0 r1 r2 (.string (nmC x)) (.int .i64 (j:Int)) (.int .i64 0)
      go_wp2
      exact bodyPost_ret (v:=.agg #[.string (nmC x),.int .i64 (j:Int),.int .i64 0]) (by simp [results,Tryz.results63,go_sem,q.1,q.2.1,q.2.2]) rfl ⟨by rw [HZ.out];rfl,((HB3.out.setCell (by simp) _).setCell (by simp) _).setCell (by simp) _⟩
     | none =>
      rw [show ixI (none:Option Nat) = -1 from rfl]
      have HZ:Hid (res=(tE,0,8)):=by show _=_;rw [HFu.out];simp [HNI.out]
      clear HFu
      have q:=found3 r0 r1 r2 (.string ⟨#[]⟩) (.int .i64 0) (.int .i64 8)
      go_wp2
      exact bodyPost_ret (v:=.agg #[.string ⟨#[]⟩,.int .i64 0,.int .i64 8]) (by simp [results,Tryz.results63,go_sem,q.1,q.2.1,q.2.2]) rfl ⟨by rw [HZ.out];rfl,((HB3.out.setCell (by simp) _).setCell (by simp) _).setCell (by simp) _⟩
  ·have dn:=init_ne hni
   have HNI:Hid (n ≠ initN):=hni
   clear hni
   go_enter Tryz.func63,Tryz.ntmps63
   go_wp2_with fail
   refine Calls.mono (HBu.out _) ?_
   rintro e w1 ⟨rfl,hb1⟩
   rw [HK.out]
   have r0:=cC hb1 (w.heap.size) 0 (.string ⟨#[]⟩) (by simp) (by simp [go_sem])
   have r1:=cC hb1 (w.heap.size) 1 (.int .i64 0) (by simp) (by simp [go_sem])
   have r2:=cC hb1 (w.heap.size) 2 (.int .i64 0) (by simp) (by simp [go_sem])
   have fr:∀ j,w1.frozen? ⟨w.heap.size,j,none⟩=false:=fun j=>carryF hb1 (by simp) (by simp [go_sem])
   have hz:w.heap.size<w1.heap.size:=by have:=hb1.size;simp at this;omega
   have HB1:Hid (Below w.heap.size w w1):=(below_al _ _).trans (hb1.mono (by simp))
   clear hb1
   go_wp2_with fail
   refine Calls.mono (HFi.out _ cl HB1.out) ?_
   rintro e w2 ⟨rfl,hw2⟩
   subst w2
   go_wp2_with fail
   go_loopw [9] (fun jU wr=>∃ m:ByteArray,jU = .int .i64 (ixI (fixG nmC L m))∧Below w1.heap.size w1 wr∧res=fmU n d (CH nmC suC L m)) (fun jU _=>lenAt L (intOf jU))
   case atStart=>exact⟨cl,rfl,Below.refl _ _,HR0.out⟩
   case round =>
    obtain ⟨m,rfl,hb,hr⟩:=hrel
    have HR:=(show Hid (res=fmU n d (CH nmC suC L m)) from hr)
    have HBr:Hid (Below w.heap.size w wr):=HB1.out.trans (hb.mono HB1.out.size)
    have HBo:Hid (Below w1.heap.size w1 wr):=hb
    replace r0:=carry hb hz r0
    replace r1:=carry hb hz r1
    replace r2:=carry hb hz r2
    replace fr:∀ j,wr.frozen? ⟨w.heap.size,j,none⟩=false:=fun j=>carryF hb hz (fr j)
    have hz1:w.heap.size<wr.heap.size:=Nat.lt_of_lt_of_le hz hb.size
    have hln:=HLn.out m
    clear hb hr
    rcases HIn.out m with ⟨k1,k2⟩ | ⟨k,hk,k1,k2,k3⟩
    ·have HZ:Hid (res=(tE,0,8)):=by show _=_;rw [HR.out,k2];rfl
     rw [k1,show ixI (none:Option Nat) = -1 from rfl]
     clear HR hln k1 k2
     have q:=found3 r0 r1 r2 (.string ⟨#[]⟩) (.int .i64 0) (.int .i64 8)
     go_wp2
     exact bodyPost_ret (v:=.agg #[.string ⟨#[]⟩,.int .i64 0,.int .i64 8]) (by simp [results,Tryz.results63,go_sem,q.1,q.2.1,q.2.2]) rfl ⟨by rw [HZ.out];rfl,((HBr.out.setCell (by simp) _).setCell (by simp) _).setCell (by simp) _⟩
    ·have hfu:res=match mFixL (msC L[k]) n d with
      | some j=>(nmC L[k],(j:Int),0)
      | none=>if n=initN then (tE,0,8) else fmU n d (CH nmC suC L (suC L[k])):=by rw [HR.out,k3];rfl
     have hlk:lenAt L (ixI (fixG nmC L (suC L[k])))<lenAt L (ixI (fixG nmC L m)):=by rw [HLn.out,hln,k3];simp
     rw [k1,show ixI (some k)=(k:Int) from rfl] at hlk ⊢
     obtain ⟨b,o,rfl,hx⟩:=HA.out k hk
     obtain ⟨vc,vh,g0,g1,g2,g3,g4,g5,s0,s1,h4,h5⟩:=classAt (hx.mono HBr.out)
     have HM1:=(show Hid _ from HMe.out L[k] vc vh wr h4 h5)
     obtain ⟨fa,fc,rfl⟩:=slice_form h4
     obtain ⟨ma,mc,rfl⟩:=slice_form h5
     have HFu:=(show Hid _ from hfu)
     have HLk:=(show Hid _ from hlk)
     have hkI:(k:Int)<(L.length:Int):=by omega
     have HFS:=(show Hid _ from fun w' hb=>HFi.out w' (suC L[k]) hb)
     clear HR hln k1 k2 k3 hfu hlk hx h4 h5
     generalize hmf:mFixL (msC L[k]) n d=mf at *
     clear hmf
     generalize L[k]=x at *
     go_wp2_with fail
     refine Calls.mono HM1.out ?_
     rintro e w3 ⟨rfl,hb3⟩
     have HB3:Hid (Below w.heap.size w w3):=HBr.out.trans (hb3.mono HBr.out.size)
     have HB3o:Hid (Below w1.heap.size w1 w3):=HBo.out.trans (hb3.mono HBo.out.size)
     replace r0:=carry hb3 hz1 r0
     replace r1:=carry hb3 hz1 r1
     replace r2:=carry hb3 hz1 r2
     replace fr:∀ j,w3.frozen? ⟨w.heap.size,j,none⟩=false:=fun j=>carryF hb3 hz1 (fr j)
     have hbb:b<wr.heap.size:=World.block_lt_of_cell? _ _ g0
     replace g0:=carry hb3 hbb g0
     replace g1:=carry hb3 hbb g1
     clear hb3 g2 g3 g4 g5 HM1
     cases mf with
     | some j =>
      have HZ:Hid (res=(nmC x,(j:Int),0)):=HFu.out
      clear HFu
      rw [show ixI (some j)=(j:Int) from rfl]
      have q:=found3 r0 r1 r2 (.string (nmC x)) (.int .i64 (j:Int)) (.int .i64 0)
      go_wp2
      exact bodyPost_ret (v:=.agg #[.string (nmC x),.int .i64 (j:Int),.int .i64 0]) (by simp [results,Tryz.results63,go_sem,q.1,q.2.1,q.2.2]) rfl ⟨by rw [HZ.out];rfl,((HB3.out.setCell (by simp) _).setCell (by simp) _).setCell (by simp) _⟩
     | none =>
      rw [show ixI (none:Option Nat) = -1 from rfl]
      have HZ:Hid (res=fmU n d (CH nmC suC L (suC x))):=by show _=_;rw [HFu.out];simp [HNI.out]
      clear HFu
      go_wp2_with fail
      refine Calls.mono (HFS.out _ HB3.out) ?_
      rintro e w4 ⟨rfl,hw4⟩
      subst w4
      go_wp2
      go_roundw
      case rel=>exact⟨suC x,rfl,HB3o.out,HZ.out⟩
      case measure=>exact HLk.out
set_option maxHeartbeats 2000000 in
theorem specFindMethodOf (L:List CTup) (v:Value) (cl n d:ByteArray) (w:World) (h:classR.slice.In w [v] L) (h1:cl.size≤maxLen) (h2:n.size≤maxLen) (h3:d.size≤maxLen) :
  Calls Tryz.prog 27 #[v,.string cl,.string n,.string d] w fun e w'=>e = .returned (fdV (fmV L cl n d))∧Below w.heap.size w w':=by
 have HRt:Hid (∀ w',Below w.heap.size w w'→Calls Tryz.prog 38 #[v] w' fun e w2=>e = .returned (.bool (rtB L))∧Below w'.heap.size w' w2):=fun w' hb=>specRight L v w' (classR.slice.mono _ _ _ _ hb h)
 have HFm:Hid (rtB L=true→∀ w',Below w.heap.size w w'→Calls Tryz.prog 63 #[v,.string cl,.string n,.string d] w' fun e w2=>e = .returned (fdV (fmL L cl n d))∧Below w'.heap.size w' w2):=fun hr w' hb=>specFindML L v cl n d w' (classR.slice.mono _ _ _ _ hb h) (Past.acyL fun q hq=>(rt_right hr).2 q (by omega))
 have HLg:Hid ((400<L.length ∨ 20000<cl.size ∨ 20000<n.size ∨ 20000<d.size)→fmV L cl n d=(tE,0,2)):=fun k=>by unfold fmV;rw [if_pos k]
 have HSh:Hid (¬ (400<L.length ∨ 20000<cl.size ∨ 20000<n.size ∨ 20000<d.size)→fmV L cl n d=if rtB L then fmL L cl n d else (tE,0,0)):=fun k=>by unfold fmV;rw [if_neg k]
 obtain ⟨va,vcap,rfl,hvn,hvc,_⟩:=slice_open (by decide) h
 unfold maxLen at h1 h2 h3 hvc
 clear h
 generalize fmV L cl n d=res at *
 by_cases k0:400<L.length
 ·have HZ:Hid (res=(tE,0,2)):=HLg.out (.inl k0)
  have c0:decide ((400:Int)<(L.length:Int))=true:=by simp;omega
  clear HLg HSh
  go_enter Tryz.func27,Tryz.ntmps27
  go_wp2
  exact bodyPost_ret (v:=.agg #[.string ⟨#[]⟩,.int .i64 0,.int .i64 2]) (by simp [results,Tryz.results27,go_sem]) rfl ⟨by rw [HZ.out];rfl,by first | exact below_al _ _ | exact (((below_al _ _).setCell (by simp) _).setCell (by simp) _).setCell (by simp) _⟩
 have c0:decide ((400:Int)<(L.length:Int))=false:=by simp;omega
 by_cases k1:20000<cl.size
 ·have HZ:Hid (res=(tE,0,2)):=HLg.out (.inr (.inl k1))
  have c1:decide ((20000:Int)<(cl.size:Int))=true:=by simp;omega
  clear HLg HSh
  go_enter Tryz.func27,Tryz.ntmps27
  go_wp2
  exact bodyPost_ret (v:=.agg #[.string ⟨#[]⟩,.int .i64 0,.int .i64 2]) (by simp [results,Tryz.results27,go_sem]) rfl ⟨by rw [HZ.out];rfl,by first | exact below_al _ _ | exact (((below_al _ _).setCell (by simp) _).setCell (by simp) _).setCell (by simp) _⟩
 have c1:decide ((20000:Int)<(cl.size:Int))=false:=by simp;omega
 by_cases k2:20000<n.size
 ·have HZ:Hid (res=(tE,0,2)):=HLg.out (.inr (.inr (.inl k2)))
  have c2:decide ((20000:Int)<(n.size:Int))=true:=by simp;omega
  clear HLg HSh
  go_enter Tryz.func27,Tryz.ntmps27
  go_wp2
  exact bodyPost_ret (v:=.agg #[.string ⟨#[]⟩,.int .i64 0,.int .i64 2]) (by simp [results,Tryz.results27,go_sem]) rfl ⟨by rw [HZ.out];rfl,by first | exact below_al _ _ | exact (((below_al _ _).setCell (by simp) _).setCell (by simp) _).setCell (by simp) _⟩
 have c2:decide ((20000:Int)<(n.size:Int))=false:=by simp;omega
 by_cases k3:20000<d.size
 ·have HZ:Hid (res=(tE,0,2)):=HLg.out (.inr (.inr (.inr k3)))
  have c3:decide ((20000:Int)<(d.size:Int))=true:=by simp;omega
  clear HLg HSh
  go_enter Tryz.func27,Tryz.ntmps27
  go_wp2
  exact bodyPost_ret (v:=.agg #[.string ⟨#[]⟩,.int .i64 0,.int .i64 2]) (by simp [results,Tryz.results27,go_sem]) rfl ⟨by rw [HZ.out];rfl,by first | exact below_al _ _ | exact (((below_al _ _).setCell (by simp) _).setCell (by simp) _).setCell (by simp) _⟩
 have c3:decide ((20000:Int)<(d.size:Int))=false:=by simp;omega
 have HS:=(show Hid _ from HSh.out (by omega))
 clear HLg HSh
 cases hr:rtB L with
 | false =>
  have HZ:Hid (res=(tE,0,0)):=by show _=_;rw [HS.out,hr];rfl
  rw [hr] at HRt
  clear HS
  go_enter Tryz.func27,Tryz.ntmps27
  go_wp2_with fail
  refine Calls.mono (HRt.out _ (below_al _ _)) ?_
  rintro e w1 ⟨rfl,hb1⟩
  have HB1:Hid (Below w.heap.size w w1):=(below_al _ _).trans (hb1.mono (by simp))
  have r0:=cC hb1 (w.heap.size) 0 (.string ⟨#[]⟩) (by first | (simp;done) | (simp;omega)) (by simp [go_sem])
  have r1:=cC hb1 (w.heap.size) 1 (.int .i64 0) (by first | (simp;done) | (simp;omega)) (by simp [go_sem])
  have r2:=cC hb1 (w.heap.size) 2 (.int .i64 0) (by first | (simp;done) | (simp;omega)) (by simp [go_sem])
  have fr:∀ j,w1.frozen? ⟨w.heap.size,j,none⟩=false:=fun j=>carryF hb1 (by first | (simp;done) | (simp;omega)) (by simp [go_sem])
  have hz:w.heap.size<w1.heap.size:=by have:=hb1.size;simp at this;omega
  clear hb1
  have q:=found3 r0 r1 r2 (.string ⟨#[]⟩) (.int .i64 0) (.int .i64 0)
  go_wp2
  exact bodyPost_ret (v:=.agg #[.string ⟨#[]⟩,.int .i64 0,.int .i64 0]) (by simp [results,Tryz.results27,go_sem,q.1,q.2.1,q.2.2]) rfl ⟨by rw [HZ.out];rfl,((HB1.out.setCell (by simp) _).setCell (by simp) _).setCell (by simp) _⟩
 | true =>
  have HF1:=(show Hid _ from HFm.out hr)
  have HZ:Hid (res=fmL L cl n d):=by show _=_;rw [HS.out,hr];rfl
  rw [hr] at HRt
  clear HS
  generalize fmL L cl n d=fd at *
  obtain ⟨f0,f1,f2⟩:=fd
  unfold fdV at HF1
  simp only at HF1
  go_enter Tryz.func27,Tryz.ntmps27
  go_wp2_with fail
  refine Calls.mono (HRt.out _ (below_al _ _)) ?_
  rintro e w1 ⟨rfl,hb1⟩
  have HB1:Hid (Below w.heap.size w w1):=(below_al _ _).trans (hb1.mono (by simp))
  have r0:=cC hb1 (w.heap.size) 0 (.string ⟨#[]⟩) (by first | (simp;done) | (simp;omega)) (by simp [go_sem])
  have r1:=cC hb1 (w.heap.size) 1 (.int .i64 0) (by first | (simp;done) | (simp;omega)) (by simp [go_sem])
  have r2:=cC hb1 (w.heap.size) 2 (.int .i64 0) (by first | (simp;done) | (simp;omega)) (by simp [go_sem])
  have fr:∀ j,w1.frozen? ⟨w.heap.size,j,none⟩=false:=fun j=>carryF hb1 (by first | (simp;done) | (simp;omega)) (by simp [go_sem])
  have hz:w.heap.size<w1.heap.size:=by have:=hb1.size;simp at this;omega
  clear hb1
  go_wp2_with fail
  refine Calls.mono (HF1.out _ HB1.out) ?_
  rintro e w2 ⟨rfl,hb2⟩
  have HB2:Hid (Below w.heap.size w w2):=HB1.out.trans (hb2.mono HB1.out.size)
  replace r0:=carry hb2 hz r0
  replace r1:=carry hb2 hz r1
  replace r2:=carry hb2 hz r2
  replace fr:∀ j,w2.frozen? ⟨w.heap.size,j,none⟩=false:=fun j=>carryF hb2 hz (fr j)
  clear hb2
  have q:=found3 r0 r1 r2 (.string f0) (.int .i64 f1) (.int .i64 f2)
  go_wp2
  exact bodyPost_ret (v:=.agg #[.string f0,.int .i64 f1,.int .i64 f2]) (by simp [results,Tryz.results27,go_sem,q.1,q.2.1,q.2.2]) rfl ⟨by rw [HZ.out];rfl,((HB2.out.setCell (by simp) _).setCell (by simp) _).setCell (by simp) _⟩
end Go.Proofs.YtmhgaggpdggbeaaGreatDoor
