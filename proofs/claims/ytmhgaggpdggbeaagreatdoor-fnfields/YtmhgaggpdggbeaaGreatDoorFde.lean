import Derived.Test.YtmhgaggpdggbeaaGreatDoorVeW
import Derived.Test.YtmhgaggpdggbeaaGreatDoorVfD
namespace Go.Proofs.YtmhgaggpdggbeaaGreatDoor
open Go.RowKit
set_option maxRecDepth 20000
set_option linter.unusedVariables false
set_option maxHeartbeats 4000000 in
theorem drawFieldsOf (a : Option Addr) (len cap : Nat) (zs : List Int) (w : World) (hr : IsRow .u8 w a len cap zs) (hl : len ≤ 1048576) :
    Calls Tryz.prog 29 #[.slice a len cap] w fun e w'=>∃ p L k c t1,e = .returned (.tuple #[.slice p k c,.string t1])∧t1.size≤1000∧classR.slice.In w' [.slice p k c] L∧Below w.heap.size w w':=by
  have HR:=(show Hid (RB ⟨a,len,cap,zs⟩ w.heap.size) from row_RB hr)
  have HM:=(show Hid _ from srcMake a len cap zs w hr hl)
  clear hr hl
  go_enter Tryz.func29,Tryz.ntmps29
  go_wp2_with fail
  refine Calls.mono HM.out ?_
  rintro e w1 ⟨rfl,hS1,hb1⟩
  have HB1:Hid (Below w.heap.size w w1):=hb1
  have HW:=(show Hid _ from srcWorld w.heap.size w1 hS1 (HR.out.mono hb1.size))
  clear hS1 hb1 HM
  go_wp2_with fail
  refine Calls.mono HW.out ?_
  rintro e w2 ⟨v,L,rfl,hl1,hl2,hf⟩
  have F2:=(show Hid (FW ⟨a,len,cap,zs⟩ w.heap.size w1 w2 v L) from hf)
  clear hf HW
  obtain ⟨vp,vc,rfl⟩:=own_sn F2.out.row.o
  go_wp2_with fail
  refine Calls.mono (srcName w.heap.size w2 F2.out.src) ?_
  rintro e w3 ⟨t1,rfl,hz1,hs,hk⟩
  have F3:Hid (FW ⟨a,len,cap,zs⟩ w.heap.size w1 w3 (.slice vp L.length vc) L):=F2.out.call hs hk
  clear hs hk F2
  have HX:Hid (classR.slice.In w3 [.slice vp L.length vc] (L.map kOf)∧Below w.heap.size w w3):=⟨F3.out.row.lies,F3.out.kpt.below HB1.out HB1.out.size⟩
  go_wp2
  exact bodyPost_ret (v:=.tuple #[.slice vp L.length vc,.string t1]) (by simp [results,Tryz.results29,go_sem]) rfl ⟨_,_,_,_,_,rfl,hz1,HX.out.1,HX.out.2⟩
theorem filt_at:∀ (fs:List FieldD) (k:Nat) (hk:k<(fs.filter fun f=>!f.2.2).length),∃ j,∃ hj:j<fs.length,fs[j]=(fs.filter fun f=>!f.2.2)[k]∧cntF (fs.take j) false=k
  | [],k,hk=>by simp at hk
  | f :: fs,k,hk=>by
    cases hf:f.2.2 with
    | true =>
      have e:(f :: fs).filter (fun f=>!f.2.2)=fs.filter fun f=>!f.2.2:=by simp [hf]
      have hk':k<(fs.filter fun f=>!f.2.2).length:=by rw [← e];exact hk
      obtain ⟨j,hj,h1,h2⟩:=filt_at fs k hk'
      refine ⟨j+1,by simpa using hj,?_,?_⟩
      · simp only [List.getElem_cons_succ,e]
        exact h1
      · unfold cntF at h2 ⊢
        rw [List.take_succ_cons,List.filter_cons_of_neg (by simp [hf])]
        exact h2
    | false =>
      have e:(f :: fs).filter (fun f=>!f.2.2)=f :: fs.filter fun f=>!f.2.2:=by simp [hf]
      cases k with
      | zero=>exact⟨0,by simp,by simp [e],by simp [cntF]⟩
      | succ k =>
        have hk':k<(fs.filter fun f=>!f.2.2).length:=by rw [e] at hk;simpa using hk
        obtain ⟨j,hj,h1,h2⟩:=filt_at fs k hk'
        refine ⟨j+1,by simpa using hj,?_,?_⟩
        · simp only [List.getElem_cons_succ,e]
          exact h1
        · unfold cntF at h2 ⊢
          rw [List.take_succ_cons,List.filter_cons_of_pos (by simp [hf]),List.length_cons,h2]
theorem not_in {L:List CTup} {n:ByteArray} (h:∀ c ∈ L,nmC c ≠ n):fldL L n=[]:=fldL_none (lkG_none.2 h)
theorem flds_split {L:List CTup} (hR:Right L) (n:ByteArray):(fldL L n=[]∧fldL L (spS L n)=[]) ∨ ∃ c ∈ L,nmC c=n∧spS L n=suC c∧fldL L n=fldL L (suC c) ++ ownF c:=by
  have hAL:AcyG nmC suC L:=Past.acyL fun q hq=>hR.2 q (by omega)
  have hne:∀ c ∈ L,nmC c ≠ tE:=fun c hc e=>by
    obtain ⟨i,hi,rfl⟩:=List.mem_iff_getElem.1 hc
    exact nameB_ne (hR.part.ok i hi hi).n e
  have hbi:∀ b ∈ biC,∀ c ∈ L,nmC c ≠ nmC b:=fun b hb c hc=>by
    obtain ⟨i,hi,rfl⟩:=List.mem_iff_getElem.1 hc
    exact hR.part.ap i hi hi b hb
  rcases kn_alt L n with ⟨_,k1,k2,_⟩ | ⟨c,_,hc,rfl,k1,k2⟩
  · left
    rw [k2]
    exact⟨not_in fun c hc e=>lkG_none.1 k1 c (List.mem_append_right _ hc) e,not_in hne⟩
  · rcases List.mem_append.1 hc with hb | hu
    · left
      rw [k2]
      refine ⟨not_in (hbi c hb),?_⟩
      have:∀ b ∈ biC,suC b=tE ∨ ∃ d ∈ biC,suC b=nmC d:=by decide
      rcases this c hb with e | ⟨d,hd,e⟩
      · rw [e];exact not_in hne
      · rw [e];exact not_in (hbi d hd)
    · right
      exact⟨c,hu,rfl,k2,fldL_some hAL (lkG_mem hR.part.nodup hu)⟩
theorem flds_ok {L:List CTup} (hr:rtB L=true) {n:ByteArray} (hn:n.size≤1000):∃ P,foV L n=foV L (spV L n) ++ P∧(spV L n).size≤1000∧∀ k (hk:k<P.length),ffV L n P[k].1 P[k].2.1=(n,(((foV L (spV L n)).length+k:Nat):Int),0):=by
  have hR:=rt_right hr
  have es:spV L n=spS L n:=by unfold spV;rw [if_pos hr]
  have hfo:∀ m:ByteArray,m.size≤20000→foV L m=fldL L m:=fun m hm=>by unfold foV;rw [if_pos ⟨hm,hr⟩]
  have hss:(spS L n).size≤1000:=by
    rcases kn_alt L n with ⟨_,_,k2,_⟩ | ⟨c,_,hc,_,_,k2⟩
    · rw [k2];decide
    · rw [k2]
      rcases su_known hR hc with e | e
      · rw [e];decide
      · have:=(kn_size hR e).1;omega
  rw [es,hfo n (by omega),hfo _ (by omega)]
  rcases flds_split hR n with ⟨h1,h2⟩ | ⟨c,hc,rfl,h2,h3⟩
  · exact⟨[],by rw [h1,h2];rfl,hss,fun k hk=>by simp at hk⟩
  · refine ⟨ownF c,by rw [h3,h2],hss,fun k hk=>?_⟩
    obtain ⟨j,hj,hd,hct⟩:=filt_at (fsC c) k hk
    obtain ⟨i,hi,rfl⟩:=List.mem_iff_getElem.1 hc
    have hfd:=(hR.part.ok i hi hi).fd
    have hmem:(ownF L[i])[k] ∈ fldL L (nmC L[i]):=by rw [h3];exact List.mem_append_right _ (List.getElem_mem hk)
    have hsm:=fld_small hR _ hmem
    have hst:(fsC L[i])[j].2.2=false:=by rw [hd];exact hsm.2.2
    have e2:(ownF L[i])[k]=(fsC L[i])[j]:=hd.symm
    have hns:=hR.1
    unfold ffV
    rw [if_neg (by rw [e2];rw [e2] at hsm;omega),if_pos hr]
    have hAL:AcyG nmC suC L:=Past.acyL fun q hq=>hR.2 q (by omega)
    unfold ffL
    rw [hAL.CH_some (lkG_mem hR.part.nodup hc)]
    unfold ffU
    rw [e2,fIx_some hj ⟨rfl,rfl⟩ fun m hm hmj hq=>hfd m j hm hj hmj hq.1]
    simp only
    rw [ffP_no hj hst,hct,h2]
    simp
theorem flds_bad {L:List CTup} (hr:¬ rtB L=true) (n:ByteArray):foV L n=[]:=by
  unfold foV
  exact if_neg fun h=>hr h.2
end Go.Proofs.YtmhgaggpdggbeaaGreatDoor
