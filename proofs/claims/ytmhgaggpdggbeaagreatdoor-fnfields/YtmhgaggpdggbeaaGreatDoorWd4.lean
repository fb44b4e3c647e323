import Derived.Test.YtmhgaggpdggbeaaGreatDoorWd3
import Derived.Deep.RegionHeld3
namespace Go.Proofs.YtmhgaggpdggbeaaGreatDoor
open Go.RowKit
set_option maxRecDepth 20000
set_option linter.unusedVariables false

def lenAt (L:List CTup) (k:Int):Nat:=if k<0 then 0 else match L[k.toNat]? with
 | some c=>(CH nmC suC L (nmC c)).length
 | none=>0
theorem lenAt_fix (L:List CTup) (n:ByteArray):lenAt L (ixI (fixG nmC L n))=(CH nmC suC L n).length:=by
 rcases fix_cases nmC L n with ⟨k1,k2⟩ | ⟨k,hk,k1,k2,k3⟩
 ·rw [k1,CH_none k2];rfl
 ·rw [k1]
  show lenAt L (k:Int)=_
  unfold lenAt
  rw [if_neg (by omega)]
  simp only [Int.toNat_natCast,List.getElem?_eq_getElem hk]
  rw [k2]
theorem CH_fix {L:List CTup} (h:AcyG nmC suC L) (n:ByteArray):(fixG nmC L n=none∧CH nmC suC L n=[]) ∨ ∃ k,∃ hk:k<L.length,fixG nmC L n=some k∧nmC L[k]=n∧CH nmC suC L n=L[k] :: CH nmC suC L (suC L[k]):=by
 rcases fix_cases nmC L n with ⟨k1,k2⟩ | ⟨k,hk,k1,k2,k3⟩
 ·exact .inl ⟨k1,CH_none k2⟩
 ·exact .inr ⟨k,hk,k1,k2,h.CH_some k3⟩
theorem init_eq {n:ByteArray} (h:n=initN):(n.toList == [60,105,110,105,116,62])=true:=by rw [h,ByteArray.toList_eq];rfl
theorem init_ne {n:ByteArray} (h:n ≠ initN):(n.toList == [60,105,110,105,116,62])=false:=by
 rw [beq_eq_false_iff_ne]
 intro e
 rw [ByteArray.toList_eq] at e
 exact h (WideShapes.bytes_inj (by rw [e];rfl))
def goodM (L:List CTup) (c:CTup) (m:MTup):Prop:=(mD m).name ≠ initN→¬ wrongM c m∧¬ openM L c m
theorem near_at (pre:List CTup) (x:CTup) (tl:List CTup) (n d:ByteArray) (k:Nat) (h1:∀ y ∈ pre,mFixL (msC y) n d=none) (h2:mFixL (msC x) n d=some k):nearM (pre ++ x :: tl) n d=some (x,k):=by
 unfold nearM
 induction pre with
 | nil=>simp [h2]
 | cons a p ih =>
  rw [List.cons_append,List.findSome?_cons,h1 a List.mem_cons_self]
  exact ih fun y hy=>h1 y (List.mem_cons_of_mem _ hy)

set_option maxHeartbeats 8000000 in
theorem specAccess (L:List CTup) (v:Value) (c:CTup) (vc vh:Value) (w:World) (hp:Past L 4) (hcL:c ∈ L) (h:classR.slice.In w [v] L) (h3:fieldR.slice.In w [vc] (fsC c)) (h4:methR.slice.In w [vh] (msC c)) :
  Calls Tryz.prog 68 #[v,.agg #[.string (nmC c),.string (suC c),.bool (fiC c),.bool (abC c),vc,vh]] w fun e w'=>e = .returned (.bool (accB L c))∧Below w.heap.size w w':=by
 have hac:=hp.acyL
 have HFi:Hid (∀ w' n,Below w.heap.size w w'→Calls Tryz.prog 66 #[v,.string n] w' fun e w2=>e = .returned (.int .i64 (ixI (fixG nmC L n)))∧w2=w'):=fun w' n hb=>specFind L v n w' (classR.slice.mono _ _ _ _ hb h)
 have HMe:Hid (∀ (x:CTup) xc xh n d w',fieldR.slice.In w' [xc] (fsC x)→methR.slice.In w' [xh] (msC x)→Calls Tryz.prog 92 #[.agg #[.string (nmC x),.string (suC x),.bool (fiC x),.bool (abC x),xc,xh],.string n,.string d] w' fun e w2=>e = .returned (.int .i64 (ixI (mFixL (msC x) n d)))∧Below w'.heap.size w' w2):=fun x xc xh n d w' k1 k2=>specMethod (cD x) xc xh n d w' k1 k2
 have HIn:=(show Hid (∀ n,(fixG nmC L n=none∧CH nmC suC L n=[]) ∨ ∃ k,∃ hk:k<L.length,fixG nmC L n=some k∧nmC L[k]=n∧CH nmC suC L n=L[k] :: CH nmC suC L (suC L[k])) from CH_fix hac)
 have HCc:Hid (CH nmC suC L (nmC c)=c :: CH nmC suC L (suC c)):=hac.CH_some (lkG_mem (hp.part (by omega)).nodup hcL)
 have HLn:Hid (∀ n,lenAt L (ixI (fixG nmC L n))=(CH nmC suC L n).length):=lenAt_fix L
 have HNo:Hid (∀ u ∈ CH nmC suC L (suC c),∀ m ∈ msC u,¬ goodM L c m→false=accB L c):=fun u hu m hm hg=>accB_no fun k=>hg (k u hu m hm)
 have HYs:Hid ((∀ u ∈ CH nmC suC L (suC c),∀ m ∈ msC u,goodM L c m)→true=accB L c):=fun k=>accB_yes k
 have HGd:Hid (∀ m,goodM L c m ↔ ((mD m).name ≠ initN→¬ (∃ k,∃ h:k<(msC c).length,mFixL (msC c) (mD m).name (mD m).desc=some k∧((mD m).fin=true ∨ (mD m).static ≠ (mD (msC c)[k]).static))∧¬ ((mD m).abs=true∧abC c=false∧∃ u k,∃ h:k<(msC u).length,nearM (CH nmC suC L (nmC c)) (mD m).name (mD m).desc=some (u,k)∧(mD (msC u)[k]).abs=true))):=fun m=>Iff.rfl
 generalize accB L c=P at *
 obtain ⟨a,cap,rfl,hn,hcap,hat⟩:=slice_open (by decide) h
 unfold maxLen at hcap
 have HA:Hid (∀ i (h:i<L.length),∃ b o,a=some ⟨b,o,none⟩∧classR.At w ⟨b,o,none⟩ i L[i]):=hat
 have H34:=(show Hid (fieldR.slice.In w [vc] (fsC c)∧methR.slice.In w [vh] (msC c)) from ⟨h3,h4⟩)
 obtain ⟨fa,fcp,rfl⟩:=slice_form h3
 obtain ⟨ma,mcp,rfl,mn0,mcap,mat⟩:=slice_open (by decide) h4
 unfold maxLen at mcap
 have HM:Hid (∀ i (h:i<(msC c).length),∃ b o,ma=some ⟨b,o,none⟩∧methR.At w ⟨b,o,none⟩ i (msC c)[i]):=mat
 clear hat h h3 h4 mat hac hp hcL
 obtain ⟨fl,hfl⟩:∃ n,(fsC c).length=n:=⟨_,rfl⟩
 obtain ⟨ml,hml⟩:∃ n,(msC c).length=n:=⟨_,rfl⟩
 rw [hfl] at H34 ⊢
 rw [hml] at H34 mn0 ⊢
 have HML:Hid ((msC c).length=ml):=hml
 clear hfl hml
 obtain ⟨cn,hcn⟩:∃ n,nmC c=n:=⟨_,rfl⟩
 obtain ⟨cs,hcs⟩:∃ n,suC c=n:=⟨_,rfl⟩
 obtain ⟨cab,hcab⟩:∃ n,abC c=n:=⟨_,rfl⟩
 obtain ⟨cfi,hcfi⟩:∃ n,fiC c=n:=⟨_,rfl⟩
 have HMc:Hid (∀ n d w',Below w.heap.size w w'→Calls Tryz.prog 92 #[.agg #[.string cn,.string cs,.bool cfi,.bool cab,.slice fa fl fcp,.slice ma ml mcp],.string n,.string d] w' fun e w2=>e = .returned (.int .i64 (ixI (mFixL (msC c) n d)))∧Below w'.heap.size w' w2):=fun n d w' hb=>by
  have:=HMe.out c _ _ n d w' (fieldR.slice.mono _ _ _ _ hb H34.out.1) (methR.slice.mono _ _ _ _ hb H34.out.2)
  rw [hcn,hcs,hcab,hcfi] at this
  exact this
 rw [hcn] at HCc HGd ⊢
 rw [hcs] at HCc HNo HYs ⊢
 rw [hcab] at HGd ⊢
 rw [hcfi]
 clear H34 hcn hcs hcab hcfi
 go_enter Tryz.func68,Tryz.ntmps68
 go_wp2_with fail
 have x0:(w.alloc (.cells #[.string cn,.string cs,.bool cfi,.bool cab,.slice fa fl fcp,.slice ma ml mcp] 51)).cell? ⟨w.heap.size,0,none⟩=some (.string cn):=by simp [go_sem]
 have x1:(w.alloc (.cells #[.string cn,.string cs,.bool cfi,.bool cab,.slice fa fl fcp,.slice ma ml mcp] 51)).cell? ⟨w.heap.size,1,none⟩=some (.string cs):=by simp [go_sem]
 have x2:(w.alloc (.cells #[.string cn,.string cs,.bool cfi,.bool cab,.slice fa fl fcp,.slice ma ml mcp] 51)).cell? ⟨w.heap.size,2,none⟩=some (.bool cfi):=by simp [go_sem]
 have x3:(w.alloc (.cells #[.string cn,.string cs,.bool cfi,.bool cab,.slice fa fl fcp,.slice ma ml mcp] 51)).cell? ⟨w.heap.size,3,none⟩=some (.bool cab):=by simp [go_sem]
 have x4:(w.alloc (.cells #[.string cn,.string cs,.bool cfi,.bool cab,.slice fa fl fcp,.slice ma ml mcp] 51)).cell? ⟨w.heap.size,4,none⟩=some (.slice fa fl fcp):=by simp [go_sem]
 have x5:(w.alloc (.cells #[.string cn,.string cs,.bool cfi,.bool cab,.slice fa fl fcp,.slice ma ml mcp] 51)).cell? ⟨w.heap.size,5,none⟩=some (.slice ma ml mcp):=by simp [go_sem]
 have hz:w.heap.size<(w.alloc (.cells #[.string cn,.string cs,.bool cfi,.bool cab,.slice fa fl fcp,.slice ma ml mcp] 51)).heap.size:=by simp
 have HBW:Hid (Below w.heap.size w (w.alloc (.cells #[.string cn,.string cs,.bool cfi,.bool cab,.slice fa fl fcp,.slice ma ml mcp] 51))):=below_al _ _
 generalize w.alloc (.cells #[.string cn,.string cs,.bool cfi,.bool cab,.slice fa fl fcp,.slice ma ml mcp] 51)=W at *
 refine Calls.mono (HFi.out _ _ HBW.out) ?_
 rintro e w2 ⟨rfl,hw2⟩
 subst w2
 go_wp2_with fail
 go_loopw [5] (fun j5 wr=>∃ (n:ByteArray) (pre:List CTup),j5 = .int .i64 (ixI (fixG nmC L n))∧Below W.heap.size W wr∧CH nmC suC L cs=pre ++ CH nmC suC L n∧∀ u ∈ pre,∀ m ∈ msC u,goodM L c m) (fun j5 _=>lenAt L (intOf j5))
 case atStart=>exact⟨cs,[],rfl,Below.refl _ _,rfl,by simp⟩
 case round =>
  obtain ⟨n,pre,rfl,hb,hch,hpre⟩:=hrel
  have HBr:Hid (Below w.heap.size w wr):=HBW.out.trans (hb.mono HBW.out.size)
  have HBo:Hid (Below W.heap.size W wr):=hb
  replace x0:=carry hb hz x0
  replace x1:=carry hb hz x1
  replace x2:=carry hb hz x2
  replace x3:=carry hb hz x3
  replace x4:=carry hb hz x4
  replace x5:=carry hb hz x5
  have hz1:w.heap.size<wr.heap.size:=Nat.lt_of_lt_of_le hz hb.size
  clear hb
  rcases HIn.out n with ⟨k1,k2⟩ | ⟨k,hk,k1,k2,k3⟩
  ·have HZ:Hid (true=P):=HYs.out (by rw [hch,k2,List.append_nil];exact hpre)
   have ex:ixI (fixG nmC L n) = -1:=by rw [k1];rfl
   rw [ex]
   clear hch hpre k1 k2 ex
   go_wp2
   go_ret
   exact⟨rB HZ.out,HBr.out⟩
  ·have ex:ixI (fixG nmC L n)=(k:Int):=by rw [k1];rfl
   have HDn:Hid (lenAt L (k:Int)=(CH nmC suC L (suC L[k])).length+1):=by
    show _=_
    rw [← ex,HLn.out,k3];rfl
   rw [ex]
   have d0:decide ((0:Int)≤(k:Int))=true:=by simp
   have HCh:Hid (CH nmC suC L cs=pre ++ (L[k] :: CH nmC suC L (suC L[k]))):=by show _=_;rw [hch,k3]
   have HPre:=(show Hid (∀ u ∈ pre,∀ m ∈ msC u,goodM L c m) from hpre)
   obtain ⟨b,o,rfl,hx⟩:=HA.out k hk
   obtain ⟨vc,vh,g0,g1,g2,g3,g4,g5,s0,s1,h4,h5⟩:=classAt (hx.mono HBr.out)
   have hbz:b<wr.heap.size:=World.block_lt_of_cell? _ _ g0
   obtain ⟨ua,ucp,rfl,un0,ucap,uat⟩:=slice_open (by decide) h5
   unfold maxLen at ucap
   have HU:Hid (∀ i (h:i<(msC L[k]).length),∃ b o,ua=some ⟨b,o,none⟩∧methR.At wr ⟨b,o,none⟩ i (msC L[k])[i]):=uat
   have HUin:Hid (L[k] ∈ CH nmC suC L cs):=by show _ ∈ _;rw [HCh.out];exact List.mem_append.2 (.inr List.mem_cons_self)
   clear hch hpre k1 k2 k3 ex hx h4 h5 uat s0 s1 g0 g2 g3 g4
   obtain ⟨ums,hums⟩:∃ x,msC L[k]=x:=⟨_,rfl⟩
   rw [hums] at g5 un0 HU
   have HUm:Hid (msC L[k]=ums):=hums
   clear hums
   have HNg:Hid (∀ i (hi:i<ums.length),¬ goodM L c ums[i]→(false=P)):=fun i hi e=>HNo.out L[k] HUin.out ums[i] (by rw [HUm.out];exact List.getElem_mem hi) e
   generalize suC L[k]=us at *
   go_wp2_with fail
   generalize wr=wo at *
   go_loopw [6] (fun j6 wr=>∃ i:Nat,i≤ums.length∧j6 = .int .i64 (i:Int)∧Below wo.heap.size wo wr∧∀ j (hj:j<ums.length),j<i→goodM L c ums[j]) (fun j6 _=>ums.length - (intOf j6).toNat)
   case atStart=>exact⟨0,Nat.zero_le _,rfl,Below.refl _ _,fun j _ h=>absurd h (by omega)⟩
   case round =>
    obtain ⟨i,hi,rfl,hb,hgood⟩:=hrel
    have HG:=(show Hid (∀ j (hj:j<ums.length),j<i→goodM L c ums[j]) from hgood)
    have HBq:Hid (Below w.heap.size w wr):=HBr.out.trans (hb.mono HBr.out.size)
    have HBp:Hid (Below wo.heap.size wo wr):=hb
    have HBqo:Hid (Below W.heap.size W wr):=HBo.out.trans (hb.mono HBo.out.size)
    replace x0:=carry hb hz1 x0
    replace x1:=carry hb hz1 x1
    replace x2:=carry hb hz1 x2
    replace x3:=carry hb hz1 x3
    replace x4:=carry hb hz1 x4
    replace x5:=carry hb hz1 x5
    replace g1:=carry hb hbz g1
    replace g5:=carry hb hbz g5
    have hz2:w.heap.size<wr.heap.size:=Nat.lt_of_lt_of_le hz1 hb.size
    have hbz2:b<wr.heap.size:=Nat.lt_of_lt_of_le hbz hb.size
    clear hb hgood
    by_cases hlt:i<ums.length
    case neg =>
     obtain rfl:i=ums.length:=by omega
     have HAll:Hid (∀ u ∈ pre ++ [L[k]],∀ m ∈ msC u,goodM L c m):=fun u hu m hm=>by
      rcases List.mem_append.1 hu with hu | hu
      ·exact HPre.out u hu m hm
      ·simp at hu
       subst hu
       rw [HUm.out] at hm
       obtain ⟨j,hj,rfl⟩:=List.mem_iff_getElem.1 hm
       exact HG.out j hj hj
     have HCh2:Hid (CH nmC suC L cs=(pre ++ [L[k]]) ++ CH nmC suC L us):=by show _=_;rw [HCh.out];simp
     clear HG
     go_wp2_with fail
     refine Calls.mono (HFi.out _ _ HBq.out) ?_
     rintro e w2 ⟨rfl,hw2⟩
     subst w2
     go_wp2
     go_roundw
     case rel=>exact⟨us,pre ++ [L[k]],rfl,HBqo.out,HCh2.out,HAll.out⟩
     case measure=>simp only [intOf];rw [HDn.out,HLn.out];omega
    obtain ⟨bu,ou,rfl,hx⟩:=HU.out i hlt
    obtain ⟨wc,wh,m0,m1,m2,m3,m4,m5,m6,m7,m8,sm0,sm1,_,_,hm7,hm8⟩:=methAt (hx.mono HBp.out)
    obtain ⟨wca,wcc,rfl⟩:=slice_form hm7
    obtain ⟨wha,whc,rfl⟩:=slice_form hm8
    have HNg1:Hid (¬ goodM L c ums[i]→(false=P)):=HNg.out i hlt
    have HYg1:Hid (goodM L c ums[i]→∀ j (hj:j<ums.length),j<i+1→goodM L c ums[j]):=fun e j hj hji=>by
     by_cases e2:j=i
     ·subst e2;exact e
     ·exact HG.out j hj (by omega)
    have HUx:Hid (∃ kk,mFixL ums (mD ums[i]).name (mD ums[i]).desc=some kk):=by
     show ∃ kk,_
     cases e:mFixL ums (mD ums[i]).name (mD ums[i]).desc with
     | none=>exact absurd ⟨rfl,rfl⟩ (mFix_none e i hlt)
     | some kk=>exact⟨kk,rfl⟩
    rw [HGd.out] at HNg1 HYg1
    clear HG hx hm7 hm8
    generalize (mD ums[i]).name=mn at *
    generalize (mD ums[i]).desc=md at *
    generalize (mD ums[i]).static=mst at *
    generalize (mD ums[i]).abs=mab at *
    generalize (mD ums[i]).fin=mfi at *
    generalize (mD ums[i]).stack=msk at *
    generalize (mD ums[i]).locals=mlo at *
    generalize (mD ums[i]).code.length=mcl at *
    generalize (mD ums[i]).hands.length=mhl at *
    have HBa:Hid (∀ o,Below w.heap.size w (wr.alloc o)):=fun o=>HBq.out.alloc (by omega) o
    by_cases hin:mn=initN
    ·have HZ:Hid (∀ j (hj:j<ums.length),j<i+1→goodM L c ums[j]):=HYg1.out fun k=>absurd hin k
     have din:=init_eq hin
     clear hin
     have HBn:Hid (∀ o,Below wo.heap.size wo (wr.alloc o)):=fun o=>HBp.out.alloc HBp.out.size o
     clear HNg1 HYg1
     go_wp2
     go_roundw
     case rel=>exact⟨i+1,by omega,by go_num,HBn.out _,HZ.out⟩
     case measure=>simp [intOf];omega
    have din:=init_ne hin
    have HNg2:Hid (((∃ k,∃ h:k<(msC c).length,mFixL (msC c) mn md=some k∧(mfi=true ∨ mst ≠ (mD (msC c)[k]).static)) ∨ (mab=true∧cab=false∧∃ u k,∃ h:k<(msC u).length,nearM (CH nmC suC L cn) mn md=some (u,k)∧(mD (msC u)[k]).abs=true))→(false=P)):=fun k=>HNg1.out fun g=>k.elim (g hin).1 (g hin).2
    have HYg2:Hid (¬ (∃ k,∃ h:k<(msC c).length,mFixL (msC c) mn md=some k∧(mfi=true ∨ mst ≠ (mD (msC c)[k]).static))→¬ (mab=true∧cab=false∧∃ u k,∃ h:k<(msC u).length,nearM (CH nmC suC L cn) mn md=some (u,k)∧(mD (msC u)[k]).abs=true)→∀ j (hj:j<ums.length),j<i+1→goodM L c ums[j]):=fun k1 k2=>HYg1.out fun _=>⟨k1,k2⟩
    clear HNg1 HYg1 HNg HGd
    have HMc1:=(show Hid (∀ w',Below w.heap.size w w'→Calls Tryz.prog 92 #[.agg #[.string cn,.string cs,.bool cfi,.bool cab,.slice fa fl fcp,.slice ma ml mcp],.string mn,.string md] w' fun e w2=>e = .returned (.int .i64 (ixI (mFixL (msC c) mn md)))∧Below w'.heap.size w' w2) from HMc.out mn md)
    have hBv:=HBq.out.size
    rcases hmf:mFixL (msC c) mn md with _ | kk
    ·rw [hmf] at HMc1
     have HYg3:Hid (¬ (mab=true∧cab=false∧∃ u k,∃ h:k<(msC u).length,nearM (CH nmC suC L cn) mn md=some (u,k)∧(mD (msC u)[k]).abs=true)→∀ j (hj:j<ums.length),j<i+1→goodM L c ums[j]):=HYg2.out fun ⟨k,_,e,_⟩=>by rw [hmf] at e;cases e
     replace HMc1:=(show Hid (∀ w',Below w.heap.size w w'→Calls Tryz.prog 92 #[.agg #[.string cn,.string cs,.bool cfi,.bool cab,.slice fa fl fcp,.slice ma ml mcp],.string mn,.string md] w' fun e w2=>e = .returned (.int .i64 (-1))∧Below w'.heap.size w' w2) from HMc1.out)
     clear hmf
     go_wp2_with fail
     refine Calls.mono (HMc1.out _ (HBa.out _)) ?_
     rintro e w3 ⟨rfl,hb3⟩
     have HB3:Hid (Below w.heap.size w w3):=(HBa.out _).trans (hb3.mono (HBa.out _).size)
     have HB3p:Hid (Below wo.heap.size wo w3):=(HBp.out.alloc HBp.out.size _).trans (hb3.mono (by simp;exact Nat.le_succ_of_le HBp.out.size))
     have y0:=cC hb3 (wr.heap.size) 0 (.string mn) (by simp) (by simp [go_sem])
     have y1:=cC hb3 (wr.heap.size) 1 (.string md) (by simp) (by simp [go_sem])
     have y2:=cC hb3 (wr.heap.size) 2 (.bool mst) (by simp) (by simp [go_sem])
     have y3:=cC hb3 (wr.heap.size) 3 (.bool mab) (by simp) (by simp [go_sem])
     have y4:=cC hb3 (wr.heap.size) 4 (.bool mfi) (by simp) (by simp [go_sem])
     have hba:=(below_al wr (.cells #[.string mn,.string md,.bool mst,.bool mab,.bool mfi,.int .i64 msk,.int .i64 mlo,.slice wca mcl wcc,.slice wha mhl whc] 55)).trans (hb3.mono (by simp))
     replace x0:=carry hba hz2 x0
     replace x1:=carry hba hz2 x1
     replace x2:=carry hba hz2 x2
     replace x3:=carry hba hz2 x3
     replace x4:=carry hba hz2 x4
     replace x5:=carry hba hz2 x5
     replace g1:=carry hba hbz2 g1
     replace g5:=carry hba hbz2 g5
     have hz3:w.heap.size<w3.heap.size:=Nat.lt_of_lt_of_le hz2 hba.size
     have hbz3:b<w3.heap.size:=Nat.lt_of_lt_of_le hbz2 hba.size
     have hr3:wr.heap.size<w3.heap.size:=by have:=hb3.size;simp at this;omega
     clear hb3 hba m0 m1 m2 m3 m4 m5 m6 m7 m8
     go_wp2_with fail
     go_quiet (fail)
     replace HB3:=(show Hid (Below w.heap.size w (w3.drewN nq)) from below_drewN HB3.out _)
     replace HB3p:=(show Hid (Below wo.heap.size wo (w3.drewN nq)) from below_drewN HB3p.out _)
     replace x0:(w3.drewN nq).cell? ⟨w.heap.size,0,none⟩=some (.string cn):=x0
     replace x1:(w3.drewN nq).cell? ⟨w.heap.size,1,none⟩=some (.string cs):=x1
     replace x3:(w3.drewN nq).cell? ⟨w.heap.size,3,none⟩=some (.bool cab):=x3
     replace x5:(w3.drewN nq).cell? ⟨w.heap.size,5,none⟩=some (.slice ma ml mcp):=x5
     replace g1:(w3.drewN nq).cell? ⟨b,o+k * 6+1,none⟩=some (.string us):=g1
     replace g5:(w3.drewN nq).cell? ⟨b,o+k * 6+5,none⟩=some (.slice (some ⟨bu,ou,none⟩) ums.length ucp):=g5
     replace y0:(w3.drewN nq).cell? ⟨wr.heap.size,0,none⟩=some (.string mn):=y0
     replace y1:(w3.drewN nq).cell? ⟨wr.heap.size,1,none⟩=some (.string md):=y1
     replace y3:(w3.drewN nq).cell? ⟨wr.heap.size,3,none⟩=some (.bool mab):=y3
     replace hz3:w.heap.size<(w3.drewN nq).heap.size:=hz3
     replace hbz3:b<(w3.drewN nq).heap.size:=hbz3
     replace hr3:wr.heap.size<(w3.drewN nq).heap.size:=hr3
     clear x2 x4 y2 y4
     generalize w3.drewN nq=w4 at *
     cases mab
     ·have HZ:Hid (∀ j (hj:j<ums.length),j<i+1→goodM L c ums[j]):=HYg3.out fun k=>by cases k.1
      go_wp2
      go_roundw
      case rel=>exact⟨i+1,by omega,by go_num,HB3p.out,HZ.out⟩
      case measure=>simp [intOf];omega
     ·cases cab
      case true =>
       have HZ:Hid (∀ j (hj:j<ums.length),j<i+1→goodM L c ums[j]):=HYg3.out fun k=>by cases k.2.1
       go_wp2
       go_roundw
       case rel=>exact⟨i+1,by omega,by go_num,HB3p.out,HZ.out⟩
       case measure=>simp [intOf];omega
      case false =>
       have HNg4:Hid ((∃ u k,∃ h:k<(msC u).length,nearM (CH nmC suC L cn) mn md=some (u,k)∧(mD (msC u)[k]).abs=true)→(false=P)):=fun k=>HNg2.out (.inr ⟨rfl,rfl,k⟩)
       have HYg4:Hid (¬ (∃ u k,∃ h:k<(msC u).length,nearM (CH nmC suC L cn) mn md=some (u,k)∧(mD (msC u)[k]).abs=true)→∀ j (hj:j<ums.length),j<i+1→goodM L c ums[j]):=fun k=>HYg3.out fun q=>k q.2.2
       clear HNg2 HYg3 HYg2
       go_wp2_with fail
       refine Calls.mono (HFi.out _ _ HB3.out) ?_
       rintro e w9 ⟨rfl,hw9⟩
       subst w9
       go_wp2_with fail
       generalize wr.heap.size=bm at *
       clear x0 x1 x3 x5 g1 g5 y3 HMc HMc1 HNo HYs HPre HCh HM HBqo HBp HBq
       go_loopw [9] (fun j9 wr=>∃ (n2:ByteArray) (pre2:List CTup),j9 = .int .i64 (ixI (fixG nmC L n2))∧Below w4.heap.size w4 wr∧CH nmC suC L cn=pre2 ++ CH nmC suC L n2∧∀ y ∈ pre2,mFixL (msC y) mn md=none) (fun j9 _=>lenAt L (intOf j9))
       case atStart=>exact⟨cn,[],rfl,Below.refl _ _,rfl,by simp⟩
       case round =>
        obtain ⟨n2,pre2,rfl,hb,hch2,hpre2⟩:=hrel
        have HB5:Hid (Below w.heap.size w wr):=HB3.out.trans (hb.mono HB3.out.size)
        have HB5p:Hid (Below wo.heap.size wo wr):=HB3p.out.trans (hb.mono HB3p.out.size)
        have HB5o:Hid (Below w4.heap.size w4 wr):=hb
        replace y0:=carry hb hr3 y0
        replace y1:=carry hb hr3 y1
        have hbz5:b<wr.heap.size:=Nat.lt_of_lt_of_le hbz3 hb.size
        have hr5:bm<wr.heap.size:=Nat.lt_of_lt_of_le hr3 hb.size
        clear hb
        rcases HIn.out n2 with ⟨q1,q2⟩ | ⟨k2,hk2,q1,q2,q3⟩
        ·exfalso
         obtain ⟨kk2,hkk2⟩:=HUx.out
         rw [q2,List.append_nil] at hch2
         have hm:L[k] ∈ pre2:=by rw [← hch2,HCc.out];exact List.mem_cons_of_mem _ HUin.out
         have:=hpre2 _ hm
         rw [HUm.out,hkk2] at this
         cases this
        ·have ex:ixI (fixG nmC L n2)=(k2:Int):=by rw [q1];rfl
         have HDn2:Hid (lenAt L (k2:Int)=(CH nmC suC L (suC L[k2])).length+1):=by
          show _=_
          rw [← ex,HLn.out,q3];rfl
         rw [ex]
         obtain ⟨b',o',eb,hx⟩:=HA.out k2 hk2
         cases eb
         obtain ⟨vc2,vh2,p0,p1,p2,p3,p4,p5,_,_,h4,h5⟩:=classAt (hx.mono HB5.out)
         have HMx:Hid (∀ w',Below wr.heap.size wr w'→Calls Tryz.prog 92 #[.agg #[.string (nmC L[k2]),.string (suC L[k2]),.bool (fiC L[k2]),.bool (abC L[k2]),vc2,vh2],.string mn,.string md] w' fun e w2=>e = .returned (.int .i64 (ixI (mFixL (msC L[k2]) mn md)))∧Below w'.heap.size w' w2):=fun w' hb=>HMe.out L[k2] vc2 vh2 mn md w' (fieldR.slice.mono _ _ _ _ hb h4) (methR.slice.mono _ _ _ _ hb h5)
         obtain ⟨f2,fc2,rfl⟩:=slice_form h4
         obtain ⟨ma2,mc2,rfl,_,mcap2,mat2⟩:=slice_open (by decide) h5
         unfold maxLen at mcap2
         rcases hmx:mFixL (msC L[k2]) mn md with _ | kx
         ·have HRel:Hid (CH nmC suC L cn=(pre2 ++ [L[k2]]) ++ CH nmC suC L (suC L[k2])∧∀ y ∈ pre2 ++ [L[k2]],mFixL (msC y) mn md=none):=⟨by rw [hch2,q3];simp,fun y hy=>by
           rcases List.mem_append.1 hy with hy | hy
           ·exact hpre2 y hy
           ·simp at hy;subst hy;exact hmx⟩
          rw [hmx] at HMx
          have HMx1:Hid (∀ w',Below wr.heap.size wr w'→Calls Tryz.prog 92 #[.agg #[.string (nmC L[k2]),.string (suC L[k2]),.bool (fiC L[k2]),.bool (abC L[k2]),.slice f2 (fsC L[k2]).length fc2,.slice ma2 (msC L[k2]).length mc2],.string mn,.string md] w' fun e w2=>e = .returned (.int .i64 (-1))∧Below w'.heap.size w' w2):=HMx.out
          clear hch2 hpre2 q1 q2 q3 ex hx h4 h5 mat2 hmx HMx
          generalize hL2:L[k2]=x at *
          go_wp2_with fail
          have kI0:(0:Int)≤(k2:Int):=Int.natCast_nonneg _
          have kI1:(k2:Int)<(L.length:Int):=by omega
          have HS:Hid (∀ w',Below wr.heap.size wr w'→w'.cell? ⟨b,o+k2 * 6,none⟩=some (.string (nmC x))∧w'.cell? ⟨b,o+k2 * 6+1,none⟩=some (.string (suC x))∧w'.cell? ⟨b,o+k2 * 6+2,none⟩=some (.bool (fiC x))∧w'.cell? ⟨b,o+k2 * 6+3,none⟩=some (.bool (abC x))∧w'.cell? ⟨b,o+k2 * 6+4,none⟩=some (.slice f2 (fsC x).length fc2)∧w'.cell? ⟨b,o+k2 * 6+5,none⟩=some (.slice ma2 (msC x).length mc2)∧w'.cell? ⟨bm,0,none⟩=some (.string mn)∧w'.cell? ⟨bm,1,none⟩=some (.string md)∧Below wr.heap.size wr w'):=fun w' hb=>⟨carry hb hbz5 p0,carry hb hbz5 p1,carry hb hbz5 p2,carry hb hbz5 p3,carry hb hbz5 p4,carry hb hbz5 p5,carry hb hr5 y0,carry hb hr5 y1,hb⟩
          go_region_held3 (fun w'=>w'.cell? ⟨b,o+k2 * 6,none⟩=some (.string (nmC x))∧w'.cell? ⟨b,o+k2 * 6+1,none⟩=some (.string (suC x))∧w'.cell? ⟨b,o+k2 * 6+2,none⟩=some (.bool (fiC x))∧w'.cell? ⟨b,o+k2 * 6+3,none⟩=some (.bool (abC x))∧w'.cell? ⟨b,o+k2 * 6+4,none⟩=some (.slice f2 (fsC x).length fc2)∧w'.cell? ⟨b,o+k2 * 6+5,none⟩=some (.slice ma2 (msC x).length mc2)∧w'.cell? ⟨bm,0,none⟩=some (.string mn)∧w'.cell? ⟨bm,1,none⟩=some (.string md)∧Below wr.heap.size wr w')
           (first | exact HS.out _ (Below.refl _ _) | exact HS.out _ (Below.refl _ _).drew | (go_split_ands;exact HS.out _ hb6x))
           (first | (go_at_call 92;refine Calls.mono (HMx1.out _ (Below.refl _ _).drew) ?_;rintro e w6 ⟨rfl,hb6⟩;have hb6x:Below wr.heap.size wr w6:=(Below.refl _ _).drew.trans hb6))
          all_goals
           have HB6:Hid (Below w.heap.size w w6):=HB5.out.trans (hb6x.mono HB5.out.size)
           have HB6o:Hid (Below w4.heap.size w4 w6):=HB5o.out.trans (hb6x.mono HB5o.out.size)
           replace p1:=carry hb6x hbz5 p1
           clear hb6 hb6x HS
           go_wp2_with fail
           refine Calls.mono (HFi.out _ _ HB6.out) ?_
           rintro e w7 ⟨rfl,hw7⟩
           subst w7
           go_wp2
           go_roundw
           case rel=>exact⟨suC x,pre2 ++ [x],rfl,HB6o.out,HRel.out⟩
           case measure=>simp only [intOf];rw [HDn2.out,HLn.out];omega
         ·obtain ⟨hkx,hkx1,hkx2⟩:=mFix_some hmx
          clear hkx1 hkx2
          obtain ⟨bb2,oo2,rfl,hmat⟩:=mat2 kx hkx
          obtain ⟨_,_,q0,q1,q2,r3,qr⟩:=methAt hmat
          clear q0 q1 q2 qr
          have hbb2:bb2<wr.heap.size:=World.block_lt_of_cell? _ _ r3
          have hnear:nearM (CH nmC suC L cn) mn md=some (L[k2],kx):=by rw [hch2,q3];exact near_at pre2 _ _ mn md kx hpre2 hmx
          have HZn:Hid ((mD (msC L[k2])[kx]).abs=true→(false=P)):=fun e=>HNg4.out ⟨L[k2],kx,hkx,hnear,e⟩
          have HZy:Hid ((mD (msC L[k2])[kx]).abs=false→∀ j (hj:j<ums.length),j<i+1→goodM L c ums[j]):=fun e=>HYg4.out fun ⟨u,k,hk,e1,e2⟩=>by
           rw [hnear] at e1
           cases e1
           rw [e] at e2
           cases e2
          rw [hmx] at HMx
          have HMx1:Hid (∀ w',Below wr.heap.size wr w'→Calls Tryz.prog 92 #[.agg #[.string (nmC L[k2]),.string (suC L[k2]),.bool (fiC L[k2]),.bool (abC L[k2]),.slice f2 (fsC L[k2]).length fc2,.slice (some ⟨bb2,oo2,none⟩) (msC L[k2]).length mc2],.string mn,.string md] w' fun e w2=>e = .returned (.int .i64 (kx:Int))∧Below w'.heap.size w' w2):=HMx.out
          have dkx:decide ((kx:Int)<0)=false:=by simp
          clear hch2 hpre2 q1 q2 q3 ex hx h4 h5 mat2 hmx HMx hmat hnear HNg4 HYg4
          generalize (mD (msC L[k2])[kx]).abs=xab at *
          have hkb:kx<(msC L[k2]).length:=hkx
          clear hkx
          generalize hml2:(msC L[k2]).length=xml at *
          generalize hfl2:(fsC L[k2]).length=xfl at *
          generalize nmC L[k2]=xnm at *
          generalize suC L[k2]=xsu at *
          generalize fiC L[k2]=xfi at *
          generalize abC L[k2]=xa2 at *
          go_wp2_with fail
          have kI0:(0:Int)≤(k2:Int):=Int.natCast_nonneg _
          have kI1:(k2:Int)<(L.length:Int):=by omega
          have xI0:(0:Int)≤(kx:Int):=Int.natCast_nonneg _
          have xI1:(kx:Int)<(xml:Int):=by omega
          have HS:Hid (∀ w',Below wr.heap.size wr w'→w'.cell? ⟨b,o+k2 * 6,none⟩=some (.string xnm)∧w'.cell? ⟨b,o+k2 * 6+1,none⟩=some (.string xsu)∧w'.cell? ⟨b,o+k2 * 6+2,none⟩=some (.bool xfi)∧w'.cell? ⟨b,o+k2 * 6+3,none⟩=some (.bool xa2)∧w'.cell? ⟨b,o+k2 * 6+4,none⟩=some (.slice f2 xfl fc2)∧w'.cell? ⟨b,o+k2 * 6+5,none⟩=some (.slice (some ⟨bb2,oo2,none⟩) xml mc2)∧w'.cell? ⟨bm,0,none⟩=some (.string mn)∧w'.cell? ⟨bm,1,none⟩=some (.string md)∧Below wr.heap.size wr w'):=fun w' hb=>⟨carry hb hbz5 p0,carry hb hbz5 p1,carry hb hbz5 p2,carry hb hbz5 p3,carry hb hbz5 p4,carry hb hbz5 p5,carry hb hr5 y0,carry hb hr5 y1,hb⟩
          go_region_held3 (fun w'=>w'.cell? ⟨b,o+k2 * 6,none⟩=some (.string xnm)∧w'.cell? ⟨b,o+k2 * 6+1,none⟩=some (.string xsu)∧w'.cell? ⟨b,o+k2 * 6+2,none⟩=some (.bool xfi)∧w'.cell? ⟨b,o+k2 * 6+3,none⟩=some (.bool xa2)∧w'.cell? ⟨b,o+k2 * 6+4,none⟩=some (.slice f2 xfl fc2)∧w'.cell? ⟨b,o+k2 * 6+5,none⟩=some (.slice (some ⟨bb2,oo2,none⟩) xml mc2)∧w'.cell? ⟨bm,0,none⟩=some (.string mn)∧w'.cell? ⟨bm,1,none⟩=some (.string md)∧Below wr.heap.size wr w')
           (first | exact HS.out _ (Below.refl _ _) | exact HS.out _ (Below.refl _ _).drew | (go_split_ands;exact HS.out _ hb6x))
           (first | (go_at_call 92;refine Calls.mono (HMx1.out _ (Below.refl _ _).drew) ?_;rintro e w6 ⟨rfl,hb6⟩;have hb6x:Below wr.heap.size wr w6:=(Below.refl _ _).drew.trans hb6))
          all_goals
           have HB6:Hid (Below w.heap.size w w6):=HB5.out.trans (hb6x.mono HB5.out.size)
           have HB6p:Hid (Below wo.heap.size wo w6):=HB5p.out.trans (hb6x.mono HB5p.out.size)
           have HB6o:Hid (Below wr.heap.size wr w6):=hb6x
           replace p0:=carry hb6x hbz5 p0
           replace p1:=carry hb6x hbz5 p1
           replace p2:=carry hb6x hbz5 p2
           replace p3:=carry hb6x hbz5 p3
           replace p4:=carry hb6x hbz5 p4
           replace p5:=carry hb6x hbz5 p5
           replace r3:=carry hb6x hbb2 r3
           replace y0:=carry hb6x hr5 y0
           replace y1:=carry hb6x hr5 y1
           have hbb6:bb2<w6.heap.size:=Nat.lt_of_lt_of_le hbb2 hb6x.size
           have hbz6:b<w6.heap.size:=Nat.lt_of_lt_of_le hbz5 hb6x.size
           have hr6:bm<w6.heap.size:=Nat.lt_of_lt_of_le hr5 hb6x.size
           clear hb6 hb6x HS
           go_wp2_with fail
           have HS:Hid (∀ w',Below w6.heap.size w6 w'→w'.cell? ⟨b,o+k2 * 6,none⟩=some (.string xnm)∧w'.cell? ⟨b,o+k2 * 6+1,none⟩=some (.string xsu)∧w'.cell? ⟨b,o+k2 * 6+2,none⟩=some (.bool xfi)∧w'.cell? ⟨b,o+k2 * 6+3,none⟩=some (.bool xa2)∧w'.cell? ⟨b,o+k2 * 6+4,none⟩=some (.slice f2 xfl fc2)∧w'.cell? ⟨b,o+k2 * 6+5,none⟩=some (.slice (some ⟨bb2,oo2,none⟩) xml mc2)∧w'.cell? ⟨bm,0,none⟩=some (.string mn)∧w'.cell? ⟨bm,1,none⟩=some (.string md)∧w'.cell? ⟨bb2,oo2+kx * 9+3,none⟩=some (.bool xab)∧Below w6.heap.size w6 w'):=fun w' hb=>⟨carry hb hbz6 p0,carry hb hbz6 p1,carry hb hbz6 p2,carry hb hbz6 p3,carry hb hbz6 p4,carry hb hbz6 p5,carry hb hr6 y0,carry hb hr6 y1,carry hb hbb6 r3,hb⟩
           go_region_held3 (fun w'=>w'.cell? ⟨b,o+k2 * 6,none⟩=some (.string xnm)∧w'.cell? ⟨b,o+k2 * 6+1,none⟩=some (.string xsu)∧w'.cell? ⟨b,o+k2 * 6+2,none⟩=some (.bool xfi)∧w'.cell? ⟨b,o+k2 * 6+3,none⟩=some (.bool xa2)∧w'.cell? ⟨b,o+k2 * 6+4,none⟩=some (.slice f2 xfl fc2)∧w'.cell? ⟨b,o+k2 * 6+5,none⟩=some (.slice (some ⟨bb2,oo2,none⟩) xml mc2)∧w'.cell? ⟨bm,0,none⟩=some (.string mn)∧w'.cell? ⟨bm,1,none⟩=some (.string md)∧w'.cell? ⟨bb2,oo2+kx * 9+3,none⟩=some (.bool xab)∧Below w6.heap.size w6 w')
            (first | exact HS.out _ (Below.refl _ _) | exact HS.out _ (Below.refl _ _).drew | (go_split_ands;exact HS.out _ hb7x))
            (first | (go_at_call 92;refine Calls.mono (HMx1.out _ HB6o.out.drew) ?_;rintro e w7 ⟨rfl,hb7⟩;have hb7x:Below w6.heap.size w6 w7:=(Below.refl _ _).drew.trans hb7))
           all_goals
            replace r3:=carry hb7x hbb6 r3
            have HB7:Hid (Below w.heap.size w w7):=HB6.out.trans (hb7x.mono HB6.out.size)
            have HB7p:Hid (Below wo.heap.size wo w7):=HB6p.out.trans (hb7x.mono HB6p.out.size)
            clear hb7 hb7x HS
            cases xab
            ·go_wp2
             go_roundw
             case rel=>exact⟨i+1,by omega,by go_num,HB7p.out,HZy.out (by first | rfl | trivial)⟩
             case measure=>simp [intOf];omega
            ·go_wp2
             go_ret
             exact⟨rB (HZn.out (by first | rfl | trivial)),HB7.out⟩
    ·rw [hmf] at HMc1
     obtain ⟨hkk,_,_⟩:=mFix_some hmf
     have hkk':kk<ml:=by rw [← HML.out];exact hkk
     obtain ⟨bc,oc,rfl,hxc⟩:=HM.out kk hkk
     obtain ⟨_,_,_,_,c2,_⟩:=methAt (hxc.mono HBq.out)
     have hbc:bc<wr.heap.size:=World.block_lt_of_cell? _ _ c2
     have HNg3:Hid ((mfi=true ∨ mst ≠ (mD (msC c)[kk]).static)→(false=P)):=fun k=>HNg2.out (.inl ⟨kk,hkk,hmf,k⟩)
     have HYg3':Hid (¬ (mfi=true ∨ mst ≠ (mD (msC c)[kk]).static)→¬ (mab=true∧cab=false∧∃ u k,∃ h:k<(msC u).length,nearM (CH nmC suC L cn) mn md=some (u,k)∧(mD (msC u)[k]).abs=true)→∀ j (hj:j<ums.length),j<i+1→goodM L c ums[j]):=fun q=>HYg2.out fun ⟨k,_,e,e2⟩=>by rw [hmf] at e;cases e;exact q e2
     replace HMc1:=(show Hid (∀ w',Below w.heap.size w w'→Calls Tryz.prog 92 #[.agg #[.string cn,.string cs,.bool cfi,.bool cab,.slice fa fl fcp,.slice (some ⟨bc,oc,none⟩) ml mcp],.string mn,.string md] w' fun e w2=>e = .returned (.int .i64 (kk:Int))∧Below w'.heap.size w' w2) from HMc1.out)
     have dkk:decide ((0:Int)≤(kk:Int))=true:=by simp
     clear hmf hxc
     generalize (mD (msC c)[kk]).static=cst at *
     go_wp2_with fail
     refine Calls.mono (HMc1.out _ (HBa.out _)) ?_
     rintro e w3 ⟨rfl,hb3⟩
     have HB3:Hid (Below w.heap.size w w3):=(HBa.out _).trans (hb3.mono (HBa.out _).size)
     have HB3p:Hid (Below wo.heap.size wo w3):=(HBp.out.alloc HBp.out.size _).trans (hb3.mono (by simp;exact Nat.le_succ_of_le HBp.out.size))
     have y0:=cC hb3 (wr.heap.size) 0 (.string mn) (by simp) (by simp [go_sem])
     have y1:=cC hb3 (wr.heap.size) 1 (.string md) (by simp) (by simp [go_sem])
     have y2:=cC hb3 (wr.heap.size) 2 (.bool mst) (by simp) (by simp [go_sem])
     have y3:=cC hb3 (wr.heap.size) 3 (.bool mab) (by simp) (by simp [go_sem])
     have y4:=cC hb3 (wr.heap.size) 4 (.bool mfi) (by simp) (by simp [go_sem])
     have hba:=(below_al wr (.cells #[.string mn,.string md,.bool mst,.bool mab,.bool mfi,.int .i64 msk,.int .i64 mlo,.slice wca mcl wcc,.slice wha mhl whc] 55)).trans (hb3.mono (by simp))
     replace x0:=carry hba hz2 x0
     replace x1:=carry hba hz2 x1
     replace x2:=carry hba hz2 x2
     replace x3:=carry hba hz2 x3
     replace x4:=carry hba hz2 x4
     replace x5:=carry hba hz2 x5
     replace g1:=carry hba hbz2 g1
     replace g5:=carry hba hbz2 g5
     replace c2:=carry hba hbc c2
     have hz3:w.heap.size<w3.heap.size:=Nat.lt_of_lt_of_le hz2 hba.size
     have hbz3:b<w3.heap.size:=Nat.lt_of_lt_of_le hbz2 hba.size
     have hr3:wr.heap.size<w3.heap.size:=by have:=hb3.size;simp at this;omega
     clear hb3 hba m0 m1 m2 m3 m4 m5 m6 m7 m8
     cases mfi
     case true =>
      go_wp2_with fail
      go_quiet (fail)
      go_wp2
      go_ret
      exact⟨rB (HNg3.out (.inl (by first | rfl | trivial))),below_drewN HB3.out _⟩
     case false =>
      by_cases hst:mst=cst
      case neg =>
       have HZ:Hid (false=P):=HNg3.out (.inr hst)
       clear HYg3'
       cases mst<;>cases cst
       ·exact absurd rfl hst
       ·go_wp2_with fail
        go_quiet (fail)
        go_wp2
        go_ret
        exact⟨rB HZ.out,below_drewN HB3.out _⟩
       ·go_wp2_with fail
        go_quiet (fail)
        go_wp2
        go_ret
        exact⟨rB HZ.out,below_drewN HB3.out _⟩
       ·exact absurd rfl hst
      subst hst
      have dst:(mst == mst)=true:=by simp
      have dst2:(mst != mst)=false:=by simp
      have HYg3:=(show Hid _ from HYg3'.out (fun k=>k.elim (fun h=>by cases h) (fun h=>h rfl)))
      clear HYg3' HNg3
      go_wp2_with fail
      go_quiet (fail)
      replace HB3:=(show Hid (Below w.heap.size w (w3.drewN nq)) from below_drewN HB3.out _)
      replace HB3p:=(show Hid (Below wo.heap.size wo (w3.drewN nq)) from below_drewN HB3p.out _)
      replace x0:(w3.drewN nq).cell? ⟨w.heap.size,0,none⟩=some (.string cn):=x0
      replace x1:(w3.drewN nq).cell? ⟨w.heap.size,1,none⟩=some (.string cs):=x1
      replace x3:(w3.drewN nq).cell? ⟨w.heap.size,3,none⟩=some (.bool cab):=x3
      replace x5:(w3.drewN nq).cell? ⟨w.heap.size,5,none⟩=some (.slice (some ⟨bc,oc,none⟩) ml mcp):=x5
      replace g1:(w3.drewN nq).cell? ⟨b,o+k * 6+1,none⟩=some (.string us):=g1
      replace g5:(w3.drewN nq).cell? ⟨b,o+k * 6+5,none⟩=some (.slice (some ⟨bu,ou,none⟩) ums.length ucp):=g5
      replace y0:(w3.drewN nq).cell? ⟨wr.heap.size,0,none⟩=some (.string mn):=y0
      replace y1:(w3.drewN nq).cell? ⟨wr.heap.size,1,none⟩=some (.string md):=y1
      replace y3:(w3.drewN nq).cell? ⟨wr.heap.size,3,none⟩=some (.bool mab):=y3
      replace hz3:w.heap.size<(w3.drewN nq).heap.size:=hz3
      replace hbz3:b<(w3.drewN nq).heap.size:=hbz3
      replace hr3:wr.heap.size<(w3.drewN nq).heap.size:=hr3
      clear x2 x4 y2 y4
      generalize w3.drewN nq=w4 at *
      cases mab
      ·have HZ:Hid (∀ j (hj:j<ums.length),j<i+1→goodM L c ums[j]):=HYg3.out fun k=>by cases k.1
       go_wp2
       go_roundw
       case rel=>exact⟨i+1,by omega,by go_num,HB3p.out,HZ.out⟩
       case measure=>simp [intOf];omega
      ·cases cab
       case true =>
        have HZ:Hid (∀ j (hj:j<ums.length),j<i+1→goodM L c ums[j]):=HYg3.out fun k=>by cases k.2.1
        go_wp2
        go_roundw
        case rel=>exact⟨i+1,by omega,by go_num,HB3p.out,HZ.out⟩
        case measure=>simp [intOf];omega
       case false =>
        have HNg4:Hid ((∃ u k,∃ h:k<(msC u).length,nearM (CH nmC suC L cn) mn md=some (u,k)∧(mD (msC u)[k]).abs=true)→(false=P)):=fun k=>HNg2.out (.inr ⟨rfl,rfl,k⟩)
        have HYg4:Hid (¬ (∃ u k,∃ h:k<(msC u).length,nearM (CH nmC suC L cn) mn md=some (u,k)∧(mD (msC u)[k]).abs=true)→∀ j (hj:j<ums.length),j<i+1→goodM L c ums[j]):=fun k=>HYg3.out fun q=>k q.2.2
        clear HNg2 HYg3 HYg2
        go_wp2_with fail
        refine Calls.mono (HFi.out _ _ HB3.out) ?_
        rintro e w9 ⟨rfl,hw9⟩
        subst w9
        go_wp2_with fail
        generalize wr.heap.size=bm at *
        clear x0 x1 x3 x5 g1 g5 y3 HMc HMc1 HNo HYs HPre HCh HM HBqo HBp HBq
        go_loopw [9] (fun j9 wr=>∃ (n2:ByteArray) (pre2:List CTup),j9 = .int .i64 (ixI (fixG nmC L n2))∧Below w4.heap.size w4 wr∧CH nmC suC L cn=pre2 ++ CH nmC suC L n2∧∀ y ∈ pre2,mFixL (msC y) mn md=none) (fun j9 _=>lenAt L (intOf j9))
        case atStart=>exact⟨cn,[],rfl,Below.refl _ _,rfl,by simp⟩
        case round =>
         obtain ⟨n2,pre2,rfl,hb,hch2,hpre2⟩:=hrel
         have HB5:Hid (Below w.heap.size w wr):=HB3.out.trans (hb.mono HB3.out.size)
         have HB5p:Hid (Below wo.heap.size wo wr):=HB3p.out.trans (hb.mono HB3p.out.size)
         have HB5o:Hid (Below w4.heap.size w4 wr):=hb
         replace y0:=carry hb hr3 y0
         replace y1:=carry hb hr3 y1
         have hbz5:b<wr.heap.size:=Nat.lt_of_lt_of_le hbz3 hb.size
         have hr5:bm<wr.heap.size:=Nat.lt_of_lt_of_le hr3 hb.size
         clear hb
         rcases HIn.out n2 with ⟨q1,q2⟩ | ⟨k2,hk2,q1,q2,q3⟩
         ·exfalso
          obtain ⟨kk2,hkk2⟩:=HUx.out
          rw [q2,List.append_nil] at hch2
          have hm:L[k] ∈ pre2:=by rw [← hch2,HCc.out];exact List.mem_cons_of_mem _ HUin.out
          have:=hpre2 _ hm
          rw [HUm.out,hkk2] at this
          cases this
         ·have ex:ixI (fixG nmC L n2)=(k2:Int):=by rw [q1];rfl
          have HDn2:Hid (lenAt L (k2:Int)=(CH nmC suC L (suC L[k2])).length+1):=by
           show _=_
           rw [← ex,HLn.out,q3];rfl
          rw [ex]
          obtain ⟨b',o',eb,hx⟩:=HA.out k2 hk2
          cases eb
          obtain ⟨vc2,vh2,p0,p1,p2,p3,p4,p5,_,_,h4,h5⟩:=classAt (hx.mono HB5.out)
          have HMx:Hid (∀ w',Below wr.heap.size wr w'→Calls Tryz.prog 92 #[.agg #[.string (nmC L[k2]),.string (suC L[k2]),.bool (fiC L[k2]),.bool (abC L[k2]),vc2,vh2],.string mn,.string md] w' fun e w2=>e = .returned (.int .i64 (ixI (mFixL (msC L[k2]) mn md)))∧Below w'.heap.size w' w2):=fun w' hb=>HMe.out L[k2] vc2 vh2 mn md w' (fieldR.slice.mono _ _ _ _ hb h4) (methR.slice.mono _ _ _ _ hb h5)
          obtain ⟨f2,fc2,rfl⟩:=slice_form h4
          obtain ⟨ma2,mc2,rfl,_,mcap2,mat2⟩:=slice_open (by decide) h5
          unfold maxLen at mcap2
          rcases hmx:mFixL (msC L[k2]) mn md with _ | kx
          ·have HRel:Hid (CH nmC suC L cn=(pre2 ++ [L[k2]]) ++ CH nmC suC L (suC L[k2])∧∀ y ∈ pre2 ++ [L[k2]],mFixL (msC y) mn md=none):=⟨by rw [hch2,q3];simp,fun y hy=>by
            rcases List.mem_append.1 hy with hy | hy
            ·exact hpre2 y hy
            ·simp at hy;subst hy;exact hmx⟩
           rw [hmx] at HMx
           have HMx1:Hid (∀ w',Below wr.heap.size wr w'→Calls Tryz.prog 92 #[.agg #[.string (nmC L[k2]),.string (suC L[k2]),.bool (fiC L[k2]),.bool (abC L[k2]),.slice f2 (fsC L[k2]).length fc2,.slice ma2 (msC L[k2]).length mc2],.string mn,.string md] w' fun e w2=>e = .returned (.int .i64 (-1))∧Below w'.heap.size w' w2):=HMx.out
           clear hch2 hpre2 q1 q2 q3 ex hx h4 h5 mat2 hmx HMx
           generalize hL2:L[k2]=x at *
           go_wp2_with fail
           have kI0:(0:Int)≤(k2:Int):=Int.natCast_nonneg _
           have kI1:(k2:Int)<(L.length:Int):=by omega
           have HS:Hid (∀ w',Below wr.heap.size wr w'→w'.cell? ⟨b,o+k2 * 6,none⟩=some (.string (nmC x))∧w'.cell? ⟨b,o+k2 * 6+1,none⟩=some (.string (suC x))∧w'.cell? ⟨b,o+k2 * 6+2,none⟩=some (.bool (fiC x))∧w'.cell? ⟨b,o+k2 * 6+3,none⟩=some (.bool (abC x))∧w'.cell? ⟨b,o+k2 * 6+4,none⟩=some (.slice f2 (fsC x).length fc2)∧w'.cell? ⟨b,o+k2 * 6+5,none⟩=some (.slice ma2 (msC x).length mc2)∧w'.cell? ⟨bm,0,none⟩=some (.string mn)∧w'.cell? ⟨bm,1,none⟩=some (.string md)∧Below wr.heap.size wr w'):=fun w' hb=>⟨carry hb hbz5 p0,carry hb hbz5 p1,carry hb hbz5 p2,carry hb hbz5 p3,carry hb hbz5 p4,carry hb hbz5 p5,carry hb hr5 y0,carry hb hr5 y1,hb⟩
           go_region_held3 (fun w'=>w'.cell? ⟨b,o+k2 * 6,none⟩=some (.string (nmC x))∧w'.cell? ⟨b,o+k2 * 6+1,none⟩=some (.string (suC x))∧w'.cell? ⟨b,o+k2 * 6+2,none⟩=some (.bool (fiC x))∧w'.cell? ⟨b,o+k2 * 6+3,none⟩=some (.bool (abC x))∧w'.cell? ⟨b,o+k2 * 6+4,none⟩=some (.slice f2 (fsC x).length fc2)∧w'.cell? ⟨b,o+k2 * 6+5,none⟩=some (.slice ma2 (msC x).length mc2)∧w'.cell? ⟨bm,0,none⟩=some (.string mn)∧w'.cell? ⟨bm,1,none⟩=some (.string md)∧Below wr.heap.size wr w')
            (first | exact HS.out _ (Below.refl _ _) | exact HS.out _ (Below.refl _ _).drew | (go_split_ands;exact HS.out _ hb6x))
            (first | (go_at_call 92;refine Calls.mono (HMx1.out _ (Below.refl _ _).drew) ?_;rintro e w6 ⟨rfl,hb6⟩;have hb6x:Below wr.heap.size wr w6:=(Below.refl _ _).drew.trans hb6))
           all_goals
            have HB6:Hid (Below w.heap.size w w6):=HB5.out.trans (hb6x.mono HB5.out.size)
            have HB6o:Hid (Below w4.heap.size w4 w6):=HB5o.out.trans (hb6x.mono HB5o.out.size)
            replace p1:=carry hb6x hbz5 p1
            clear hb6 hb6x HS
            go_wp2_with fail
            refine Calls.mono (HFi.out _ _ HB6.out) ?_
            rintro e w7 ⟨rfl,hw7⟩
            subst w7
            go_wp2
            go_roundw
            case rel=>exact⟨suC x,pre2 ++ [x],rfl,HB6o.out,HRel.out⟩
            case measure=>simp only [intOf];rw [HDn2.out,HLn.out];omega
          ·obtain ⟨hkx,hkx1,hkx2⟩:=mFix_some hmx
           clear hkx1 hkx2
           obtain ⟨bb2,oo2,rfl,hmat⟩:=mat2 kx hkx
           obtain ⟨_,_,q0,q1,q2,r3,qr⟩:=methAt hmat
           clear q0 q1 q2 qr
           have hbb2:bb2<wr.heap.size:=World.block_lt_of_cell? _ _ r3
           have hnear:nearM (CH nmC suC L cn) mn md=some (L[k2],kx):=by rw [hch2,q3];exact near_at pre2 _ _ mn md kx hpre2 hmx
           have HZn:Hid ((mD (msC L[k2])[kx]).abs=true→(false=P)):=fun e=>HNg4.out ⟨L[k2],kx,hkx,hnear,e⟩
           have HZy:Hid ((mD (msC L[k2])[kx]).abs=false→∀ j (hj:j<ums.length),j<i+1→goodM L c ums[j]):=fun e=>HYg4.out fun ⟨u,k,hk,e1,e2⟩=>by
            rw [hnear] at e1
            cases e1
            rw [e] at e2
            cases e2
           rw [hmx] at HMx
           have HMx1:Hid (∀ w',Below wr.heap.size wr w'→Calls Tryz.prog 92 #[.agg #[.string (nmC L[k2]),.string (suC L[k2]),.bool (fiC L[k2]),.bool (abC L[k2]),.slice f2 (fsC L[k2]).length fc2,.slice (some ⟨bb2,oo2,none⟩) (msC L[k2]).length mc2],.string mn,.string md] w' fun e w2=>e = .returned (.int .i64 (kx:Int))∧Below w'.heap.size w' w2):=HMx.out
           have dkx:decide ((kx:Int)<0)=false:=by simp
           clear hch2 hpre2 q1 q2 q3 ex hx h4 h5 mat2 hmx HMx hmat hnear HNg4 HYg4
           generalize (mD (msC L[k2])[kx]).abs=xab at *
           have hkb:kx<(msC L[k2]).length:=hkx
           clear hkx
           generalize hml2:(msC L[k2]).length=xml at *
           generalize hfl2:(fsC L[k2]).length=xfl at *
           generalize nmC L[k2]=xnm at *
           generalize suC L[k2]=xsu at *
           generalize fiC L[k2]=xfi at *
           generalize abC L[k2]=xa2 at *
           go_wp2_with fail
           have kI0:(0:Int)≤(k2:Int):=Int.natCast_nonneg _
           have kI1:(k2:Int)<(L.length:Int):=by omega
           have xI0:(0:Int)≤(kx:Int):=Int.natCast_nonneg _
           have xI1:(kx:Int)<(xml:Int):=by omega
           have HS:Hid (∀ w',Below wr.heap.size wr w'→w'.cell? ⟨b,o+k2 * 6,none⟩=some (.string xnm)∧w'.cell? ⟨b,o+k2 * 6+1,none⟩=some (.string xsu)∧w'.cell? ⟨b,o+k2 * 6+2,none⟩=some (.bool xfi)∧w'.cell? ⟨b,o+k2 * 6+3,none⟩=some (.bool xa2)∧w'.cell? ⟨b,o+k2 * 6+4,none⟩=some (.slice f2 xfl fc2)∧w'.cell? ⟨b,o+k2 * 6+5,none⟩=some (.slice (some ⟨bb2,oo2,none⟩) xml mc2)∧w'.cell? ⟨bm,0,none⟩=some (.string mn)∧w'.cell? ⟨bm,1,none⟩=some (.string md)∧Below wr.heap.size wr w'):=fun w' hb=>⟨carry hb hbz5 p0,carry hb hbz5 p1,carry hb hbz5 p2,carry hb hbz5 p3,carry hb hbz5 p4,carry hb hbz5 p5,carry hb hr5 y0,carry hb hr5 y1,hb⟩
           go_region_held3 (fun w'=>w'.cell? ⟨b,o+k2 * 6,none⟩=some (.string xnm)∧w'.cell? ⟨b,o+k2 * 6+1,none⟩=some (.string xsu)∧w'.cell? ⟨b,o+k2 * 6+2,none⟩=some (.bool xfi)∧w'.cell? ⟨b,o+k2 * 6+3,none⟩=some (.bool xa2)∧w'.cell? ⟨b,o+k2 * 6+4,none⟩=some (.slice f2 xfl fc2)∧w'.cell? ⟨b,o+k2 * 6+5,none⟩=some (.slice (some ⟨bb2,oo2,none⟩) xml mc2)∧w'.cell? ⟨bm,0,none⟩=some (.string mn)∧w'.cell? ⟨bm,1,none⟩=some (.string md)∧Below wr.heap.size wr w')
            (first | exact HS.out _ (Below.refl _ _) | exact HS.out _ (Below.refl _ _).drew | (go_split_ands;exact HS.out _ hb6x))
            (first | (go_at_call 92;refine Calls.mono (HMx1.out _ (Below.refl _ _).drew) ?_;rintro e w6 ⟨rfl,hb6⟩;have hb6x:Below wr.heap.size wr w6:=(Below.refl _ _).drew.trans hb6))
           all_goals
            have HB6:Hid (Below w.heap.size w w6):=HB5.out.trans (hb6x.mono HB5.out.size)
            have HB6p:Hid (Below wo.heap.size wo w6):=HB5p.out.trans (hb6x.mono HB5p.out.size)
            have HB6o:Hid (Below wr.heap.size wr w6):=hb6x
            replace p0:=carry hb6x hbz5 p0
            replace p1:=carry hb6x hbz5 p1
            replace p2:=carry hb6x hbz5 p2
            replace p3:=carry hb6x hbz5 p3
            replace p4:=carry hb6x hbz5 p4
            replace p5:=carry hb6x hbz5 p5
            replace r3:=carry hb6x hbb2 r3
            replace y0:=carry hb6x hr5 y0
            replace y1:=carry hb6x hr5 y1
            have hbb6:bb2<w6.heap.size:=Nat.lt_of_lt_of_le hbb2 hb6x.size
            have hbz6:b<w6.heap.size:=Nat.lt_of_lt_of_le hbz5 hb6x.size
            have hr6:bm<w6.heap.size:=Nat.lt_of_lt_of_le hr5 hb6x.size
            clear hb6 hb6x HS
            go_wp2_with fail
            have HS:Hid (∀ w',Below w6.heap.size w6 w'→w'.cell? ⟨b,o+k2 * 6,none⟩=some (.string xnm)∧w'.cell? ⟨b,o+k2 * 6+1,none⟩=some (.string xsu)∧w'.cell? ⟨b,o+k2 * 6+2,none⟩=some (.bool xfi)∧w'.cell? ⟨b,o+k2 * 6+3,none⟩=some (.bool xa2)∧w'.cell? ⟨b,o+k2 * 6+4,none⟩=some (.slice f2 xfl fc2)∧w'.cell? ⟨b,o+k2 * 6+5,none⟩=some (.slice (some ⟨bb2,oo2,none⟩) xml mc2)∧w'.cell? ⟨bm,0,none⟩=some (.string mn)∧w'.cell? ⟨bm,1,none⟩=some (.string md)∧w'.cell? ⟨bb2,oo2+kx * 9+3,none⟩=some (.bool xab)∧Below w6.heap.size w6 w'):=fun w' hb=>⟨carry hb hbz6 p0,carry hb hbz6 p1,carry hb hbz6 p2,carry hb hbz6 p3,carry hb hbz6 p4,carry hb hbz6 p5,carry hb hr6 y0,carry hb hr6 y1,carry hb hbb6 r3,hb⟩
            go_region_held3 (fun w'=>w'.cell? ⟨b,o+k2 * 6,none⟩=some (.string xnm)∧w'.cell? ⟨b,o+k2 * 6+1,none⟩=some (.string xsu)∧w'.cell? ⟨b,o+k2 * 6+2,none⟩=some (.bool xfi)∧w'.cell? ⟨b,o+k2 * 6+3,none⟩=some (.bool xa2)∧w'.cell? ⟨b,o+k2 * 6+4,none⟩=some (.slice f2 xfl fc2)∧w'.cell? ⟨b,o+k2 * 6+5,none⟩=some (.slice (some ⟨bb2,oo2,none⟩) xml mc2)∧w'.cell? ⟨bm,0,none⟩=some (.string mn)∧w'.cell? ⟨bm,1,none⟩=some (.string md)∧w'.cell? ⟨bb2,oo2+kx * 9+3,none⟩=some (.bool xab)∧Below w6.heap.size w6 w')
             (first | exact HS.out _ (Below.refl _ _) | exact HS.out _ (Below.refl _ _).drew | (go_split_ands;exact HS.out _ hb7x))
             (first | (go_at_call 92;refine Calls.mono (HMx1.out _ HB6o.out.drew) ?_;rintro e w7 ⟨rfl,hb7⟩;have hb7x:Below w6.heap.size w6 w7:=(Below.refl _ _).drew.trans hb7))
            all_goals
             replace r3:=carry hb7x hbb6 r3
             have HB7:Hid (Below w.heap.size w w7):=HB6.out.trans (hb7x.mono HB6.out.size)
             have HB7p:Hid (Below wo.heap.size wo w7):=HB6p.out.trans (hb7x.mono HB6p.out.size)
             clear hb7 hb7x HS
             cases xab
             ·go_wp2
              go_roundw
              case rel=>exact⟨i+1,by omega,by go_num,HB7p.out,HZy.out (by first | rfl | trivial)⟩
              case measure=>simp [intOf];omega
             ·go_wp2
              go_ret
              exact⟨rB (HZn.out (by first | rfl | trivial)),HB7.out⟩
end Go.Proofs.YtmhgaggpdggbeaaGreatDoor
