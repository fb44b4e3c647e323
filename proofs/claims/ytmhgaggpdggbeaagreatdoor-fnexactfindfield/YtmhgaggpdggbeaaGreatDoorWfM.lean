import Derived.Test.YtmhgaggpdggbeaaGreatDoorWdT
import Derived.Test.YtmhgaggpdggbeaaGreatDoorMOpn
import Derived.Laws.AppendOwnNone
namespace Go.Proofs.YtmhgaggpdggbeaaGreatDoor
open Go.RowKit
set_option maxRecDepth 20000
set_option linter.unusedVariables false
def ownF (c:CTup):List FieldD:=(fsC c).filter fun f=>!f.2.2
def fldL (L:List CTup) (n:ByteArray):List FieldD:=(CH nmC suC L n).reverse.flatMap ownF
def cFd (d:FieldD):List Value:=[.string d.1,.string d.2.1,.bool d.2.2]
theorem fix_lk {L:List CTup} {n:ByteArray}:(fixG nmC L n=none∧lkG nmC L n=none) ∨ ∃ i,∃ h:i<L.length,fixG nmC L n=some i∧lkG nmC L n=some L[i]∧nmC L[i]=n:=by
 unfold fixG lkG
 cases e:L.findIdx? (fun c=>decide (nmC c=n)) with
 | none =>
  refine .inl ⟨rfl,?_⟩
  rw [List.find?_eq_none]
  rw [List.findIdx?_eq_none_iff] at e
  intro x hx
  simp [e x hx]
 | some i =>
  obtain ⟨h,h1,h2⟩:=List.findIdx?_eq_some_iff_getElem.1 e
  refine .inr ⟨i,h,rfl,?_,by simpa using h1⟩
  rw [List.find?_eq_some_iff_getElem]
  exact⟨h1,i,h,rfl,fun j hj=>by simpa using h2 j hj⟩
theorem fldL_some {L:List CTup} (hA:AcyG nmC suC L) {n:ByteArray} {c:CTup} (e:lkG nmC L n=some c):fldL L n=fldL L (suC c) ++ ownF c:=by
 unfold fldL
 rw [hA.CH_some e]
 simp
theorem fldL_none {L:List CTup} {n:ByteArray} (e:lkG nmC L n=none):fldL L n=[]:=by
 unfold fldL
 rw [CH_none e]
 rfl
theorem infoFld:(Tryz.prog.info? 61).map (fun i=>(i.zero,i.size,i.bytes))=some (some (.agg #[.string ⟨#[]⟩,.string ⟨#[]⟩,.bool false]),3,40):=by kernel_rfl
theorem own_sl3 {w:World} {B e s n:Nat} {v:Value} {xs:List Value} (h:w.ownsRow B e s v n xs):∃ p c,v = .slice p n c:=by
 rcases h.2 with ⟨rfl,h0⟩ | ⟨g,cap,cur,rfl,_⟩
 ·exact⟨_,_,by rw [h0]⟩
 ·exact⟨_,_,rfl⟩
theorem fld_news (w:World) (d:FieldD) (t:TypeId):∀ j u,(cFd d)[j]?=some u→(w.alloc (.cells #[.string d.1,.string d.2.1,.bool d.2.2] t)).cell? ((⟨w.heap.size,0,none⟩:Addr).add j)=some u:=by
 intro j u hj
 rw [show ((⟨w.heap.size,0,none⟩:Addr).add j)=⟨w.heap.size,j,none⟩ by unfold Addr.add;split<;>simp_all]
 rw [World.cell?_alloc_mark w _ t (0,0) j]
 simpa [cFd] using hj
theorem fld_one (d:FieldD):∀ u ∈ cFd d,u.oneCell'=true:=by
 intro u hu
 simp only [cFd,List.mem_cons,List.not_mem_nil,or_false] at hu
 rcases hu with rfl | rfl | rfl<;>rfl
def ownK (fs:List FieldD) (k:Nat):List FieldD:=(fs.take k).filter fun f=>!f.2.2
theorem ownK_all (c:CTup):ownK (fsC c) (fsC c).length=ownF c:=by unfold ownK ownF;rw [List.take_length]
theorem ownK_yes {fs:List FieldD} {k:Nat} (h:k<fs.length) (hs:fs[k].2.2=false):ownK fs (k+1)=ownK fs k ++ [fs[k]]:=by
 unfold ownK
 rw [List.take_succ_eq_append_getElem h,List.filter_append]
 simp [hs]
theorem ownK_no {fs:List FieldD} {k:Nat} (h:k<fs.length) (hs:fs[k].2.2=true):ownK fs (k+1)=ownK fs k:=by
 unfold ownK
 rw [List.take_succ_eq_append_getElem h,List.filter_append]
 simp [hs]
theorem ownK_len (fs:List FieldD) (k:Nat):(ownK fs k).length≤fs.length:=Nat.le_trans (List.length_filter_le _ _) (by rw [List.length_take];omega)
theorem fldL_len {L:List CTup} (hA:AcyG nmC suC L) (hsm:∀ c ∈ L,(fsC c).length≤8) (n:ByteArray):(fldL L n).length≤8 * L.length:=by
 have h1:∀ (M:List CTup),(∀ c ∈ M,(fsC c).length≤8)→(M.flatMap ownF).length≤8 * M.length:=by
  intro M
  induction M with
  | nil=>intro _;simp
  | cons c M ih =>
   intro h
   have a1:=ih fun x hx=>h x (by simp [hx])
   have a2:(ownF c).length≤8:=Nat.le_trans (List.length_filter_le _ _) (h c (by simp))
   simp only [List.flatMap_cons,List.length_append,List.length_cons]
   omega
 unfold fldL
 refine Nat.le_trans (h1 _ fun c hc=>hsm c (CH_sub c (List.mem_reverse.1 hc))) ?_
 have:=hA.CH_len n
 rw [List.length_reverse]
 omega
set_option maxHeartbeats 4000000 in
theorem specFieldsL (L:List CTup) (v:Value) (hA:AcyG nmC suC L) (hL:L.length≤400) (hsm:∀ c ∈ L,(fsC c).length≤8):∀ (m:Nat) (n:ByteArray) (w:World),classR.slice.In w [v] L→(CH nmC suC L n).length<m →
  Calls Tryz.prog 39 #[v,.string n] w fun e w'=>Below w.heap.size w w'∧∃ u,e = .returned u∧w'.ownsRow w.heap.size 61 3 u (fldL L n).length ((fldL L n).flatMap cFd):=by
 intro m
 induction m with
 | zero=>intro n w _ hm;omega
 | succ m ih =>
 intro n w h hm
 obtain ⟨a,cap,rfl,hn,hcap,hat⟩:=slice_open (by decide) h
 have HF:Hid (∀ w',classR.slice.In w' [.slice a L.length cap] L→Calls Tryz.prog 66 #[.slice a L.length cap,.string n] w' fun e w2=>e = .returned (.int .i64 (ixI (fixG nmC L n)))∧w2=w'):=fun w' h'=>specFind L _ n w' h'
 have HI:=(show Hid (classR.slice.In w [.slice a L.length cap] L) from h)
 clear h
 rcases fix_lk (L:=L) (n:=n) with ⟨e1,e2⟩ | ⟨i,hi,e1,e2,e3⟩
 ·rw [e1] at HF
  have HE:=(show Hid (fldL L n=[]) from fldL_none e2)
  clear e1 e2 ih hm hat
  go_enter Tryz.func39,Tryz.ntmps39
  go_wp2_with fail
  refine Calls.mono (HF.out _ HI.out) ?_
  rintro e w1 ⟨rfl,rfl⟩
  simp only [ixI]
  have HO:Hid (Below w1.heap.size w1 (w1.alloc (.cells #[] 61))∧(w1.alloc (.cells #[] 61)).ownsRow w1.heap.size 61 3 (.slice (some ⟨w1.heap.size,0,none⟩) 0 0) 0 []):=⟨(Below.refl _ _).alloc (Nat.le_refl _) _,World.ownsRow_lit w1 #[] 0 (Nat.le_refl _) (by unfold maxLen;omega) rfl⟩
  go_wp2
  go_ret
  rw [HE.out]
  exact⟨HO.out.1,_,rfl,HO.out.2⟩
 ·rw [e1] at HF
  obtain ⟨i0,hi0,hz0,hz1,hz2⟩:=info_parts infoFld
  have HIF:Hid (Tryz.prog.info? 61 = some i0∧i0.zero=some (.agg #[.string ⟨#[]⟩,.string ⟨#[]⟩,.bool false])∧i0.size=3∧i0.bytes=40):=⟨hi0,hz0,hz1,hz2⟩
  clear hi0 hz0 hz1 hz2
  have HE:=(show Hid (fldL L n=fldL L (suC L[i]) ++ ownF L[i]) from fldL_some hA e2)
  have hlen:(CH nmC suC L (suC L[i])).length<m:=by rw [hA.CH_some e2] at hm;simpa using hm
  have HP:=(show Hid (∀ w',classR.slice.In w' [.slice a L.length cap] L→_) from fun w' h'=>ih (suC L[i]) w' h' hlen)
  have hp8:=fldL_len hA hsm (suC L[i])
  have h8:=hsm L[i] (List.getElem_mem _)
  obtain ⟨bq,oq,rfl,hAt⟩:=hat i hi
  obtain ⟨vc,vh,c0,c1,c2,c3,c4,c5,s0,s1,hf,hme⟩:=classAt hAt
  obtain ⟨fa,fcap,rfl,hfn,hfc,hfat⟩:=slice_open (by decide) hf
  have HFA:=(show Hid (∀ k (h:k<(fsC L[i]).length),∃ b o,fa=some ⟨b,o,none⟩∧fieldR.At w ⟨b,o,none⟩ k (fsC L[i])[k]) from hfat)
  have hii:(i:Int)<L.length:=by omega
  have hib:=(show Hid (bq<w.heap.size) from World.block_lt_of_cell? _ _ c4)
  clear e1 e2 e3 ih hm hat c0 c2 c3 c5 s0 hf hme hlen hfat hAt
  unfold maxLen at hcap
  go_enter Tryz.func39,Tryz.ntmps39
  go_wp2_with fail
  refine Calls.mono (HF.out _ HI.out) ?_
  rintro e w1 ⟨rfl,rfl⟩
  simp only [ixI]
  go_wp2_with fail
  refine Calls.mono (HP.out _ HI.out) ?_
  rintro e w2 ⟨hb2,u,rfl,hown⟩
  obtain ⟨up,uc,rfl⟩:=own_sl3 hown
  have HB2:=(show Hid (Below w1.heap.size w1 w2) from hb2)
  have HO2:=(show Hid (w2.ownsRow w1.heap.size 61 3 (.slice up (fldL L (suC L[i])).length uc) (fldL L (suC L[i])).length ((fldL L (suC L[i])).flatMap cFd)) from hown)
  have HC4:=(show Hid (w1.cell? ⟨bq,oq+i * 6+4,none⟩=some (.slice fa (fsC L[i]).length fcap)) from c4)
  obtain ⟨fs,hfs⟩:∃ l,fsC L[i]=l:=⟨_,rfl⟩
  have HOF:Hid (ownF L[i]=ownK fs fs.length):=by rw [← hfs];exact (ownK_all _).symm
  rw [hfs] at HFA HC4 h8 hfn
  obtain ⟨ps,hps⟩:∃ l,fldL L (suC L[i])=l:=⟨_,rfl⟩
  rw [hps] at HO2 HE hp8
  rw [HOF.out] at HE
  clear hb2 hown c1 c4 hfs HOF HF HP
  rw [hps]
  clear hps
  go_wp2_with fail
  go_loopw [6,7] (fun u j wr=>∃ k:Nat,k≤fs.length∧j = .int .i64 (k:Int)∧wr.ownsRow w1.heap.size 61 3 u (ps ++ ownK fs k).length ((ps ++ ownK fs k).flatMap cFd)∧Below w1.heap.size w1 wr) (fun _ j _=>10 - (intOf j).toNat)
  case atStart=>exact⟨0,by omega,rfl,by simpa [ownK] using HO2.out,HB2.out⟩
  case round =>
   obtain ⟨k,hk,rfl,hown,hb⟩:=hrel
   obtain ⟨vp,vc,rfl⟩:=own_sl3 hown
   have HO:=(show Hid (wr.ownsRow w1.heap.size 61 3 (.slice vp (ps ++ ownK fs k).length vc) (ps ++ ownK fs k).length ((ps ++ ownK fs k).flatMap cFd)) from hown)
   have HB:=(show Hid (Below w1.heap.size w1 wr) from hb)
   have c4:=carry hb hib.out HC4.out
   clear hown hb HO2 HB2
   by_cases hlt:k<fs.length
   ·obtain ⟨fb,fo,rfl,hfA⟩:=HFA.out k hlt
    obtain ⟨f0,f1,f2,t0,t1⟩:=fieldAt hfA
    have hfb:fb<w1.heap.size:=World.block_lt_of_cell? _ _ f0
    replace f0:=carry HB.out hfb f0
    replace f1:=carry HB.out hfb f1
    replace f2:=carry HB.out hfb f2
    have hki:(k:Int)<fs.length:=by omega
    have hok:=ownK_len fs k
    cases hst:fs[k].2.2
    ·have HY:=(show Hid (ownK fs (k+1)=ownK fs k ++ [fs[k]]) from ownK_yes hlt hst)
     obtain ⟨d,hd⟩:∃ d,fs[k]=d:=⟨_,rfl⟩
     rw [hd] at f0 f1 f2 HY hst t0 t1
     rw [hst] at f2
     have HN:Hid (∀ j u,(cFd d)[j]?=some u→(wr.alloc (.cells #[.string d.1,.string d.2.1,.bool false] 61)).cell? ((⟨wr.heap.size,0,none⟩:Addr).add j)=some u):=by rw [← hst];exact fld_news wr d _
     clear hd hst hfA
     go_wp2_with (at_builtin;refine wpList_append_own _ rfl _ _ 24 rfl w1.heap.size 61 i0 (.agg #[.string ⟨#[]⟩,.string ⟨#[]⟩,.bool false]) 3 40 Tryz.underlying24 HIF.out.1 HIF.out.2.1 HIF.out.2.2.1 HIF.out.2.2.2 rfl (by decide) _ _ _ rfl (HO.out.alloc _) ⟨wr.heap.size,0,none⟩ 1 1 (cFd d) rfl rfl HN.out (fld_one d) (by rw [List.length_append];unfold maxLen;omega) (by rw [List.length_append];omega) (by have:=HB.out.size;simp;omega) ?_;intro v' w9 hown hgrow _)
     obtain ⟨tp,tc,rfl⟩:=own_sl3 hown
     have HX:Hid (w9.ownsRow w1.heap.size 61 3 (.slice tp ((ps ++ ownK fs k).length+1) tc) (ps ++ ownK fs (k+1)).length ((ps ++ ownK fs (k+1)).flatMap cFd)∧Below w1.heap.size w1 w9):=by
      refine ⟨?_,(HB.out.trans (((Below.refl _ _).alloc (Nat.le_refl _) _).mono HB.out.size)).grown hgrow (by have:=HB.out.size;simp;omega) (fun j e=>(HO.out.lt _ e).1)⟩
      rw [HY.out]
      have e:(ps ++ (ownK fs k ++ [d])).length=(ps ++ ownK fs k).length+1:=by simp;omega
      rw [e]
      simpa [List.flatMap_append] using hown
     clear hown hgrow HN
     go_wp2
     go_roundw
     case rel=>exact⟨k+1,by omega,by congr 1,HX.out.1,HX.out.2⟩
     case measure=>simp [intOf];omega
    ·have HY:=(show Hid (ownK fs (k+1)=ownK fs k) from ownK_no hlt hst)
     rw [hst] at f2
     clear hst hfA f0 f1
     go_wp2
     go_roundw
     case rel=>exact⟨k+1,by omega,by congr 1,by rw [HY.out];exact HO.out,HB.out⟩
     case measure=>simp [intOf];omega
   ·obtain rfl:k=fs.length:=by omega
    go_wp2
    go_ret
    rw [HE.out]
    exact⟨HB.out,_,rfl,HO.out⟩
end Go.Proofs.YtmhgaggpdggbeaaGreatDoor
