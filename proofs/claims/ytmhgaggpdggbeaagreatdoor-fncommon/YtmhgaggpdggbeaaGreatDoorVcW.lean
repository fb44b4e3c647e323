/-
  Texts laid together.
-/
import Derived.Test.YtmhgaggpdggbeaaGreatDoorWd4
import Derived.Test.YtmhgaggpdggbeaaGreatDoorWd5
import Derived.Test.YtmhgaggpdggbeaaGreatDoorWi9
import Derived.Test.YtmhgaggpdggbeaaGreatDoorWi12
import Derived.Test.YtmhgaggpdggbeaaGreatDoorWi10
namespace Go.Proofs.YtmhgaggpdggbeaaGreatDoor
section
open Go.RowKit
set_option maxRecDepth 20000
set_option linter.unusedVariables false
theorem specWorldCheck (L:List CTup) (v:Value) (w:World) (h:classR.slice.In w [v] L) :
  Calls Tryz.prog 28 #[v] w fun e w'=>e = .returned (.agg #[.int .i64 (wOut L).1,.int .i64 (wOut L).2])∧Below w.heap.size w w' :=
 specWorldCheckIf L v w h fun hp c vc vh w' hc hb h3 h4=>specAccess L v c vc vh w' hp hc (classR.slice.mono _ _ _ _ hb h) h3 h4

open Go.RowKit
set_option linter.unusedVariables false

noncomputable def rtB (L:List CTup):Bool:=decide ((wOut L).2=0)
theorem rt_right {L:List CTup} (h:rtB L=true):Right L:=by
 unfold rtB at h
 simp only [decide_eq_true_eq] at h
 rcases right_code L with ⟨k,_⟩ | ⟨_,k⟩
 ·exact k
 ·exact absurd h k
theorem nameB_le' {n:ByteArray} (h:nameB n=true):n.size≤20:=by
 unfold nameB at h
 simp only [decide_eq_true_eq] at h
 omega
theorem Right.part {L:List CTup} (h:Right L):Part L L.length:=h.2.part (by omega)
theorem Right.acy {L:List CTup} (h:Right L):AcyG nmC suC (allC L):=Past.acy fun q hq=>h.2 q (by omega)
theorem kn_size {L:List CTup} (h:Right L) {n:ByteArray} (hk:knB L n=true):n.size≤20∧n ≠ tE:=by
 unfold knB at hk
 rw [Option.isSome_iff_exists] at hk
 obtain ⟨c,hc⟩:=hk
 obtain ⟨h1,rfl⟩:=lkG_some hc
 rcases List.mem_append.1 h1 with k | k
 ·have:∀ b ∈ biC,(nmC b).size≤20∧nmC b ≠ tE:=by decide
  exact this c k
 ·obtain ⟨i,hi,rfl⟩:=List.mem_iff_getElem.1 k
  exact⟨nameB_le' (h.part.ok i hi hi).n,nameB_ne (h.part.ok i hi hi).n⟩
theorem su_known {L:List CTup} (h:Right L) {c:CTup} (hc:c ∈ allC L):suC c=tE ∨ knB L (suC c)=true:=by
 rcases List.mem_append.1 hc with k | k
 ·have hb:∀ b ∈ biC,suC b=tE ∨ (lkG nmC biC (suC b)).isSome=true:=by decide
  rcases hb c k with q | q
  ·exact .inl q
  ·right
   unfold knB
   rw [lk_all]
   cases e:lkG nmC biC (suC c) with
   | none=>rw [e] at q;cases q
   | some d=>rfl
 ·obtain ⟨i,hi,rfl⟩:=List.mem_iff_getElem.1 k
  right
  have:=h.2 1 (by omega) i hi
  rw [cdP1 hi] at this
  unfold cd1 at this
  unfold knB
  cases e:lkG nmC (allC L) (suC L[i]) with
  | none=>rw [e] at this;cases this
  | some d=>rfl
def sbC (L:List CTup) (a b:ByteArray):Bool:=(CH nmC suC (allC L) a).any fun c=>decide (nmC c=b)
def comL (L:List CTup) (b:ByteArray):List CTup→ByteArray
 | []=>tE
 | c :: t=>if sbC L b (nmC c) then nmC c else comL L b t
theorem kn_alt (L:List CTup) (n:ByteArray):(knB L n=false∧lkG nmC (allC L) n=none∧spS L n=tE∧CH nmC suC (allC L) n=[]) ∨ ∃ c,knB L n=true∧c ∈ allC L∧nmC c=n∧lkG nmC (allC L) n=some c∧spS L n=suC c:=by
 unfold knB spS
 cases e:lkG nmC (allC L) n with
 | none=>exact .inl ⟨rfl,rfl,rfl,CH_none e⟩
 | some c=>exact .inr ⟨c,rfl,(lkG_some e).1,(lkG_some e).2,rfl,rfl⟩
theorem sb_kn {L:List CTup} {a b:ByteArray} (h:sbC L a b=true):knB L a=true∧knB L b=true:=by
 unfold sbC at h
 obtain ⟨c,hc,e⟩:=List.any_eq_true.1 h
 simp only [decide_eq_true_eq] at e
 constructor
 ·rcases kn_alt L a with ⟨_,_,_,k⟩ | ⟨_,k,_⟩
  ·rw [k] at hc;cases hc
  ·exact k
 ·rcases kn_alt L b with ⟨_,k,_⟩ | ⟨_,k,_⟩
  ·exact absurd e (lkG_none.1 k c (CH_sub c hc))
  ·exact k
theorem com_none {L:List CTup} {b:ByteArray} (hb:knB L b=false) (W:List CTup):comL L b W=tE:=by
 induction W with
 | nil=>rfl
 | cons c t ih =>
  unfold comL
  cases e:sbC L b (nmC c) with
  | true=>rw [(sb_kn e).1] at hb;cases hb
  | false=>exact ih
noncomputable def isV (L:List CTup) (a b:ByteArray):Bool:=rtB L && sbC L a b
noncomputable def cmV (L:List CTup) (a b:ByteArray):ByteArray:=if rtB L then comL L b (CH nmC suC (allC L) a) else tE
theorem fieldWO1 (a b:Value) (w:World):(Instr.field 47 (.agg #[a,b]) 1).run Tryz.prog w = .ok b w:=by kernel_rfl
set_option maxRecDepth 100000 in
set_option maxHeartbeats 1000000 in
theorem specRight (L:List CTup) (v:Value) (w:World) (h:classR.slice.In w [v] L) :
  Calls Tryz.prog 38 #[v] w fun e w'=>e = .returned (.bool (rtB L))∧Below w.heap.size w w':=by
 have HC:Hid (Calls Tryz.prog 28 #[v] w fun e w'=>e = .returned (.agg #[.int .i64 (wOut L).1,.int .i64 (wOut L).2])∧Below w.heap.size w w'):=specWorldCheck L v w h
 obtain ⟨a,cap,rfl,_⟩:=slice_open (by decide) h
 unfold rtB
 have f1:=fieldWO1
 generalize (wOut L).1=o1 at *
 generalize (wOut L).2=o2 at *
 clear h
 by_cases e:o2=0
 ·subst e
  go_enter Tryz.func38,Tryz.ntmps38
  go_wp2_with fail
  refine Calls.mono HC.out ?_
  rintro e w1 ⟨rfl,hb1⟩
  go_wp2
  go_ret
  exact⟨rfl,hb1⟩
 ·have d:(o2 == 0)=false:=by simpa using e
  have d2:decide (o2=0)=false:=by simpa using e
  rw [d2]
  go_enter Tryz.func38,Tryz.ntmps38
  go_wp2_with fail
  refine Calls.mono HC.out ?_
  rintro e w1 ⟨rfl,hb1⟩
  go_wp2
  go_ret
  exact⟨rfl,hb1⟩
set_option maxRecDepth 100000 in
set_option maxHeartbeats 1000000 in
theorem specSub (L:List CTup) (v:Value) (a b:ByteArray) (w:World) (h:classR.slice.In w [v] L) (hR:Right L) (hb:knB L b=true) :
  Calls Tryz.prog 70 #[v,.string a,.string b] w fun e w'=>e = .returned (.bool (sbC L a b))∧Below w.heap.size w w':=by
 have HSu:Hid (∀ w' n,Below w.heap.size w w'→Calls Tryz.prog 69 #[v,.string n] w' fun e w2=>e = .returned (.string (spS L n))∧Below w'.heap.size w' w2):=fun w' n hb=>specSuper L v n w' (classR.slice.mono _ _ _ _ hb h)
 have hA:=hR.acy
 have HSt:Hid (∀ n,n ≠ tE→n ≠ b→sbC L n b=sbC L (spS L n) b∧(CH nmC suC (allC L) (spS L n)).length+(if spS L n=tE then 0 else 1)<(CH nmC suC (allC L) n).length+1):=fun n h0 h1=>by
  rcases kn_alt L n with ⟨_,_,k1,k2⟩ | ⟨c,_,hc,rfl,k1,k2⟩
  ·rw [k1,k2]
   have ht:CH nmC suC (allC L) tE=[]:=by
    rcases kn_alt L tE with ⟨_,_,_,k⟩ | ⟨c,k,_⟩
    ·exact k
    ·exact absurd rfl (kn_size hR k).2
   unfold sbC
   rw [k2,ht]
   exact⟨rfl,by simp⟩
  ·rw [k2]
   have e:=hA.CH_some k1
   unfold sbC
   rw [e]
   refine ⟨by simp [h1],?_⟩
   simp only [List.length_cons]
   split<;>omega
 have HYes:Hid (sbC L b b=true):=by
  show _=_
  rcases kn_alt L b with ⟨k,_⟩ | ⟨c,_,hc,rfl,k1,k2⟩
  ·rw [k] at hb;cases hb
  ·unfold sbC
   rw [hA.CH_some k1]
   simp
 have HNo:Hid (sbC L tE b=false):=by
  show _=_
  rcases kn_alt L tE with ⟨_,_,_,k⟩ | ⟨c,k,_⟩
  ·unfold sbC;rw [k];rfl
  ·exact absurd rfl (kn_size hR k).2
 obtain ⟨la,lcap,rfl,_⟩:=slice_open (by decide) h
 generalize hf:(fun n=>(CH nmC suC (allC L) n).length)=f at *
 have hf':∀ n,(CH nmC suC (allC L) n).length=f n:=fun n=>by rw [← hf]
 simp only [hf'] at HSt
 clear h hA hf hf' hR hb
 generalize hres:sbC L a b=res at *
 have HRes:Hid (res=sbC L a b):=hres.symm
 clear hres
 go_enter Tryz.func70,Tryz.ntmps70
 go_wp2_with fail
 go_loopw [1] (fun j1 wr=>∃ n:ByteArray,j1 = .string n∧Below w.heap.size w wr∧res=sbC L n b) (fun j1 _=>match j1 with | .string n=>f n+(if n=tE then 0 else 1) | _=>0)
 case atStart=>exact⟨a,rfl,Below.refl _ _,HRes.out⟩
 case round =>
  obtain ⟨n,rfl,hbb,hr⟩:=hrel
  have HB:Hid (Below w.heap.size w wr):=hbb
  have HR:=(show Hid (res=sbC L n b) from hr)
  clear hbb hr
  by_cases h0:n=tE
  ·subst h0
   have HZ:Hid (false=res):=by show _=_;rw [HR.out,HNo.out]
   unfold tE
   go_wp2
   go_ret
   exact⟨rB HZ.out,HB.out⟩
  ·have d0:(n.toList == [])=false:=by
    rw [beq_eq_false_iff_ne,ByteArray.toList_eq]
    intro e
    exact h0 (WideShapes.bytes_inj (by rw [e];rfl))
   by_cases h1:n=b
   ·have HZ:Hid (true=res):=by show _=_;rw [HR.out,h1,HYes.out]
    have d1:=tx_eq h1
    clear HR h1
    go_wp2
    go_ret
    exact⟨rB HZ.out,HB.out⟩
   ·have d1:=tx_ne h1
    obtain ⟨s1,s2⟩:=HSt.out n h0 h1
    have HZ:=(show Hid (res=sbC L (spS L n) b) from by show _=_;rw [HR.out,s1])
    have HM:=(show Hid (f (spS L n)+(if spS L n=tE then 0 else 1)<f n+(if n=tE then 0 else 1)) from by show _<_;rw [if_neg h0];exact s2)
    clear s1 s2 HR
    go_wp2_with fail
    refine Calls.mono (HSu.out _ n HB.out) ?_
    rintro e w1 ⟨rfl,hb1⟩
    have HB1:Hid (Below w.heap.size w w1):=HB.out.trans (hb1.mono HB.out.size)
    clear hb1
    generalize spS L n=m at *
    go_wp2
    go_roundw
    case rel=>exact⟨m,rfl,HB1.out,HZ.out⟩
    case measure=>exact HM.out

open Go.RowKit
set_option linter.unusedVariables false

theorem kn_long {L:List CTup} {n:ByteArray} (h:20000<n.size) (hr:rtB L=true):knB L n=false:=by
 cases e:knB L n with
 | false=>rfl
 | true=>have:=(kn_size (rt_right hr) e).1;omega
theorem CH_unknown {L:List CTup} {a:ByteArray} (h:knB L a=false):CH nmC suC (allC L) a=[]:=by
 rcases kn_alt L a with ⟨_,_,_,k⟩ | ⟨c,k,_⟩
 ·exact k
 ·rw [h] at k;cases k
set_option maxRecDepth 100000 in
set_option maxHeartbeats 2000000 in
theorem specCommon (L:List CTup) (v:Value) (a b:ByteArray) (w:World) (h:classR.slice.In w [v] L) (hR:Right L) (hka:knB L a=true) :
  Calls Tryz.prog 54 #[v,.string a,.string b] w fun e w'=>e = .returned (.string (comL L b (CH nmC suC (allC L) a)))∧Below w.heap.size w w':=by
 have HSu:Hid (∀ w' n,Below w.heap.size w w'→Calls Tryz.prog 69 #[v,.string n] w' fun e w2=>e = .returned (.string (spS L n))∧Below w'.heap.size w' w2):=fun w' n hb=>specSuper L v n w' (classR.slice.mono _ _ _ _ hb h)
 have HSb:Hid (∀ w' n,knB L n=true→Below w.heap.size w w'→Calls Tryz.prog 70 #[v,.string b,.string n] w' fun e w2=>e = .returned (.bool (sbC L b n))∧Below w'.heap.size w' w2):=fun w' n hk hb=>specSub L v b n w' (classR.slice.mono _ _ _ _ hb h) hR hk
 have hA:=hR.acy
 have HSt:Hid (∀ n,knB L n=true→n ≠ tE∧(spS L n=tE ∨ knB L (spS L n)=true)∧comL L b (CH nmC suC (allC L) n)=(if sbC L b n then n else comL L b (CH nmC suC (allC L) (spS L n)))∧(CH nmC suC (allC L) (spS L n)).length<(CH nmC suC (allC L) n).length):=fun n hk=>by
  rcases kn_alt L n with ⟨k,_⟩ | ⟨c,_,hc,rfl,k1,k2⟩
  ·rw [k] at hk;cases hk
  ·rw [k2,hA.CH_some k1]
   refine ⟨(kn_size hR hk).2,su_known hR hc,rfl,by simp⟩
 have HNil:Hid (comL L b (CH nmC suC (allC L) tE)=tE):=by
  show _=_
  rcases kn_alt L tE with ⟨_,_,_,k⟩ | ⟨c,k,_⟩
  ·rw [k];rfl
  ·exact absurd rfl (kn_size hR k).2
 obtain ⟨la,lcap,rfl,_⟩:=slice_open (by decide) h
 obtain ⟨f,hf⟩:∃ f:ByteArray→Nat,∀ n,(CH nmC suC (allC L) n).length=f n:=⟨_,fun _=>rfl⟩
 obtain ⟨g,hg⟩:∃ g:ByteArray→ByteArray,∀ n,comL L b (CH nmC suC (allC L) n)=g n:=⟨_,fun _=>rfl⟩
 simp only [hf,hg] at HSt HNil
 rw [hg]
 clear h hA hf hg hR
 obtain ⟨res,hres⟩:∃ res,g a=res:=⟨_,rfl⟩
 have HRes:Hid (res=g a):=hres.symm
 rw [hres]
 clear hres
 go_enter Tryz.func54,Tryz.ntmps54
 go_wp2_with fail
 go_loopw [1] (fun j1 wr=>∃ n:ByteArray,j1 = .string n∧Below w.heap.size w wr∧res=g n∧(n=tE ∨ knB L n=true)) (fun j1 _=>match j1 with | .string n=>f n+(if n=tE then 0 else 1) | _=>0)
 case atStart=>exact⟨a,rfl,Below.refl _ _,HRes.out,.inr hka⟩
 case round =>
  obtain ⟨n,rfl,hbb,hr,hk⟩:=hrel
  have HB:Hid (Below w.heap.size w wr):=hbb
  have HR:=(show Hid (res=g n) from hr)
  clear hbb hr
  by_cases h0:n=tE
  ·subst h0
   have HZ:Hid (⟨#[]⟩=res):=by show _=_;rw [HR.out,HNil.out];rfl
   unfold tE
   go_wp2
   go_ret
   exact⟨rS HZ.out,HB.out⟩
  ·have d0:(n.toList == [])=false:=by
    rw [beq_eq_false_iff_ne,ByteArray.toList_eq]
    intro e
    exact h0 (WideShapes.bytes_inj (by rw [e];rfl))
   have hkn:knB L n=true:=hk.resolve_left h0
   obtain ⟨_,s1,s2,s3⟩:=HSt.out n hkn
   have HS1:=(show Hid _ from fun w' hb=>HSb.out w' n hkn hb)
   have HG:=(show Hid (res=if sbC L b n then n else g (spS L n)) from by show _=_;rw [HR.out,s2])
   have HM:=(show Hid (f (spS L n)+(if spS L n=tE then 0 else 1)<f n+(if n=tE then 0 else 1)) from by show _<_;rw [if_neg h0];split<;>omega)
   have HK1:=(show Hid (spS L n=tE ∨ knB L (spS L n)=true) from s1)
   clear s1 s2 s3 HR hk hkn
   generalize sbC L b n=q at *
   cases q
   ·have HZ:Hid (res=g (spS L n)):=by show _=_;rw [HG.out];rfl
    clear HG
    go_wp2_with fail
    refine Calls.mono (HS1.out _ HB.out) ?_
    rintro e w1 ⟨rfl,hb1⟩
    have HB1:Hid (Below w.heap.size w w1):=HB.out.trans (hb1.mono HB.out.size)
    clear hb1
    go_wp2_with fail
    refine Calls.mono (HSu.out _ n HB1.out) ?_
    rintro e w2 ⟨rfl,hb2⟩
    have HB2:Hid (Below w.heap.size w w2):=HB1.out.trans (hb2.mono HB1.out.size)
    clear hb2
    generalize spS L n=m at *
    go_wp2
    go_roundw
    case rel=>exact⟨m,rfl,HB2.out,HZ.out,HK1.out⟩
    case measure=>exact HM.out
   ·have HZ:Hid (n=res):=by show _=_;rw [HG.out];rfl
    clear HG
    go_wp2_with fail
    refine Calls.mono (HS1.out _ HB.out) ?_
    rintro e w1 ⟨rfl,hb1⟩
    have HB1:Hid (Below w.heap.size w w1):=HB.out.trans (hb1.mono HB.out.size)
    clear hb1
    go_wp2
    go_ret
    exact⟨rS HZ.out,HB1.out⟩
set_option maxRecDepth 100000 in
set_option maxHeartbeats 2000000 in
theorem specCommonOf (L:List CTup) (v:Value) (a b:ByteArray) (w:World) (h:classR.slice.In w [v] L) (ha:a.size≤maxLen) (hb:b.size≤maxLen) :
  Calls Tryz.prog 23 #[v,.string a,.string b] w fun e w'=>e = .returned (.string (cmV L a b))∧Below w.heap.size w w':=by
 have HRt:Hid (∀ w',Below w.heap.size w w'→Calls Tryz.prog 38 #[v] w' fun e w2=>e = .returned (.bool (rtB L))∧Below w'.heap.size w' w2):=fun w' hb=>specRight L v w' (classR.slice.mono _ _ _ _ hb h)
 have HKn:Hid (∀ w' n,Below w.heap.size w w'→Calls Tryz.prog 53 #[v,.string n] w' fun e w2=>e = .returned (.bool (knB L n))∧Below w'.heap.size w' w2):=fun w' n hb=>specKnown L v n w' (classR.slice.mono _ _ _ _ hb h)
 have HSb:Hid (rtB L=true→knB L a=true→∀ w',Below w.heap.size w w'→Calls Tryz.prog 54 #[v,.string a,.string b] w' fun e w2=>e = .returned (.string (comL L b (CH nmC suC (allC L) a)))∧Below w'.heap.size w' w2):=fun hr hk w' hb=>specCommon L v a b w' (classR.slice.mono _ _ _ _ hb h) (rt_right hr) hk
 have HL:Hid (rtB L=false ∨ (rtB L=true∧(20000<a.size ∨ 20000<b.size ∨ knB L a=false ∨ knB L b=false))→⟨#[]⟩=cmV L a b):=fun k=>by
  unfold cmV
  have e1:rtB L=true→knB L a=false→comL L b (CH nmC suC (allC L) a)=tE:=fun _ q=>by rw [CH_unknown q];rfl
  rcases k with k | ⟨k,q⟩
  ·rw [k];rfl
  ·rw [k]
   show tE=comL L b (CH nmC suC (allC L) a)
   rcases q with q | q | q | q
   ·exact (e1 k (kn_long q k)).symm
   ·exact (com_none (kn_long q k) _).symm
   ·exact (e1 k q).symm
   ·exact (com_none q _).symm
 have HRr:Hid (rtB L=false ∨ rtB L=true):=by cases rtB L<;>simp [Hid]
 obtain ⟨va,vcap,rfl,_⟩:=slice_open (by decide) h
 unfold maxLen at ha hb
 clear h
 by_cases hza:20000<a.size
 ·have d0:decide ((20000:Int)<(a.size:Int))=true:=by simp;omega
  have HZ:Hid (⟨#[]⟩=cmV L a b):=by
   rcases HRr.out with k | k
   ·exact HL.out (.inl k)
   ·exact HL.out (.inr ⟨k,.inl hza⟩)
  go_enter Tryz.func23,Tryz.ntmps23
  go_wp2
  go_ret
  exact⟨rS (HZ.out),Below.refl _ _⟩
 have d0:decide ((20000:Int)<(a.size:Int))=false:=by simp;omega
 by_cases hzb:20000<b.size
 ·have d1:decide ((20000:Int)<(b.size:Int))=true:=by simp;omega
  have HZ:Hid (⟨#[]⟩=cmV L a b):=by
   rcases HRr.out with k | k
   ·exact HL.out (.inl k)
   ·exact HL.out (.inr ⟨k,.inr (.inl hzb)⟩)
  go_enter Tryz.func23,Tryz.ntmps23
  go_wp2
  go_ret
  exact⟨rS (HZ.out),Below.refl _ _⟩
 have d1:decide ((20000:Int)<(b.size:Int))=false:=by simp;omega
 rcases HRr.out with hr | hr
 ·have HZ:Hid (⟨#[]⟩=cmV L a b):=HL.out (.inl hr)
  rw [hr] at HRt
  go_enter Tryz.func23,Tryz.ntmps23
  go_wp2_with fail
  refine Calls.mono (HRt.out _ (Below.refl _ _)) ?_
  rintro e w1 ⟨rfl,hb1⟩
  have HB1:Hid (Below w.heap.size w w1):=hb1
  clear hb1
  go_wp2
  go_ret
  exact⟨rS (HZ.out),HB1.out⟩
 have HKa:=(show Hid _ from fun w' hb=>HKn.out w' a hb)
 have HKb:=(show Hid _ from fun w' hb=>HKn.out w' b hb)
 rw [hr] at HRt
 cases hka:knB L a with
 | false =>
  have HZ:Hid (⟨#[]⟩=cmV L a b):=HL.out (.inr ⟨hr,.inr (.inr (.inl hka))⟩)
  rw [hka] at HKa
  go_enter Tryz.func23,Tryz.ntmps23
  go_wp2_with fail
  refine Calls.mono (HRt.out _ (Below.refl _ _)) ?_
  rintro e w1 ⟨rfl,hb1⟩
  have HB1:Hid (Below w.heap.size w w1):=hb1
  clear hb1
  go_wp2_with fail
  refine Calls.mono (HKa.out _ HB1.out) ?_
  rintro e w2 ⟨rfl,hb2⟩
  have HB2:Hid (Below w.heap.size w w2):=HB1.out.trans (hb2.mono HB1.out.size)
  clear hb2
  go_wp2
  go_ret
  exact⟨rS (HZ.out),HB2.out⟩
 | true =>
  rw [hka] at HKa
  cases hkb:knB L b with
  | false =>
   have HZ:Hid (⟨#[]⟩=cmV L a b):=HL.out (.inr ⟨hr,.inr (.inr (.inr hkb))⟩)
   rw [hkb] at HKb
   go_enter Tryz.func23,Tryz.ntmps23
   go_wp2_with fail
   refine Calls.mono (HRt.out _ (Below.refl _ _)) ?_
   rintro e w1 ⟨rfl,hb1⟩
   have HB1:Hid (Below w.heap.size w w1):=hb1
   clear hb1
   go_wp2_with fail
   refine Calls.mono (HKa.out _ HB1.out) ?_
   rintro e w2 ⟨rfl,hb2⟩
   have HB2:Hid (Below w.heap.size w w2):=HB1.out.trans (hb2.mono HB1.out.size)
   clear hb2
   go_wp2_with fail
   refine Calls.mono (HKb.out _ HB2.out) ?_
   rintro e w3 ⟨rfl,hb3⟩
   have HB3:Hid (Below w.heap.size w w3):=HB2.out.trans (hb3.mono HB2.out.size)
   clear hb3
   go_wp2
   go_ret
   exact⟨rS (HZ.out),HB3.out⟩
  | true =>
   rw [hkb] at HKb
   have HS1:=(show Hid _ from HSb.out hr hka)
   have HZ:Hid (comL L b (CH nmC suC (allC L) a)=cmV L a b):=by show _=_;unfold cmV;rw [hr];rfl
   generalize comL L b (CH nmC suC (allC L) a)=q at *
   go_enter Tryz.func23,Tryz.ntmps23
   go_wp2_with fail
   refine Calls.mono (HRt.out _ (Below.refl _ _)) ?_
   rintro e w1 ⟨rfl,hb1⟩
   have HB1:Hid (Below w.heap.size w w1):=hb1
   clear hb1
   go_wp2_with fail
   refine Calls.mono (HKa.out _ HB1.out) ?_
   rintro e w2 ⟨rfl,hb2⟩
   have HB2:Hid (Below w.heap.size w w2):=HB1.out.trans (hb2.mono HB1.out.size)
   clear hb2
   go_wp2_with fail
   refine Calls.mono (HKb.out _ HB2.out) ?_
   rintro e w3 ⟨rfl,hb3⟩
   have HB3:Hid (Below w.heap.size w w3):=HB2.out.trans (hb3.mono HB2.out.size)
   clear hb3
   go_wp2_with fail
   refine Calls.mono (HS1.out _ HB3.out) ?_
   rintro e w4 ⟨rfl,hb4⟩
   have HB4:Hid (Below w.heap.size w w4):=HB3.out.trans (hb4.mono HB3.out.size)
   clear hb4
   go_wp2
   go_ret
   exact⟨rS (HZ.out),HB4.out⟩
end
section
open Go.RowKit
set_option maxRecDepth 20000
set_option linter.unusedVariables false

theorem nameB_le {n:ByteArray} (h:nameB n=true):n.size≤20:=by
 unfold nameB at h
 simp only [decide_eq_true_eq] at h
 omega
theorem bi_size:∀ b ∈ biC,(nmC b).size≤20:=by decide
theorem all_size {L:List CTup} (hp:Part L L.length):∀ c ∈ allC L,(nmC c).size≤20:=fun c hc=>by
 rcases List.mem_append.1 hc with k | k
 ·exact bi_size c k
 ·obtain ⟨i,hi,rfl⟩:=List.mem_iff_getElem.1 k
  exact nameB_le (hp.ok i hi hi).n
theorem all_len {E:List WE} {L:List CTup} (h:E.map WE.c=allC L) (hl:L.length≤10):E.length≤100:=by
 have:=congrArg List.length h
 have h8:biC.length=8:=rfl
 simp [allC,h8] at this
 omega
theorem implMakeWorld0 (L:List CTup) (v:Value) (w0 w:World) (hb0:Below w0.heap.size w0 w) (h:classR.slice.In w0 [v] L) (ht:Tab w) (hg:Glob w) :
  Calls Tryz.prog 41 #[v] w fun e w'=>Below w.heap.size w w'∧∃ wv,e = .returned (.tuple #[wv,.agg #[.int .i64 (wOut L).1,.int .i64 (wOut L).2]])∧((wOut L).2 ≠ 0→wv = .agg #[.slice none 0 0,.map none])∧((wOut L).2=0→∃ r E es ck,wv=wdV v r∧WmIs w' r E es ck∧E.map WE.c=allC L∧∀ y ∈ E,fieldR.slice.In w0 [y.vc] (fsC y.c)∧methR.slice.In w0 [y.vh] (msC y.c)):=by
 have hv:∃ a k c,v = .slice a k c:=by obtain ⟨a,cap,rfl,_⟩:=slice_open (by decide) h;exact⟨_,_,_,rfl⟩
 refine implMakeWorldIf L v w0 w hb0 h ht hg fun hl10 hp r E es ck c fa fc ma mc w' hc hwm hEm hf hm=>?_
 have:c ∈ E.map WE.c:=by rw [hEm];exact List.mem_append.2 (.inr hc)
 obtain ⟨x,hx,rfl⟩:=List.mem_map.1 this
 exact implMethodsFault L v r E es ck x fa fc ma mc w' hp hEm hc hwm hx hv (all_len hEm hl10) (fun y hy=>Nat.le_trans (all_size (hp.part (by omega)) y.c (by rw [← hEm];exact List.mem_map.2 ⟨y,hy,rfl⟩)) (by decide)) hm
theorem implMakeWorld (L:List CTup) (v:Value) (w:World) (h:classR.slice.In w [v] L) (ht:Tab w) (hg:Glob w) :
  Calls Tryz.prog 41 #[v] w fun e w'=>Below w.heap.size w w'∧∃ wv,e = .returned (.tuple #[wv,.agg #[.int .i64 (wOut L).1,.int .i64 (wOut L).2]])∧((wOut L).2 ≠ 0→wv = .agg #[.slice none 0 0,.map none])∧((wOut L).2=0→∃ r E es ck,wv=wdV v r∧WmIs w' r E es ck∧E.map WE.c=allC L∧∀ y ∈ E,fieldR.slice.In w [y.vc] (fsC y.c)∧methR.slice.In w [y.vh] (msC y.c)):=implMakeWorld0 L v w w (Below.refl _ _) h ht hg

open Go.RowKit
set_option linter.unusedVariables false
theorem look0 (n:ByteArray) (hn:n.size≤maxLen) (w:World):(Instr.lookup 70 (.map none) (.string n) true).run Tryz.prog w = .ok (.tuple #[zWE,.bool false]) w∧(Instr.lookup 70 (.map none) (.string n) false).run Tryz.prog w = .ok zWE w:=by
 have hx:keyOf Tryz.prog 9 (.string n)=some (.string n.data.toList):=WideMaps.keyOf_string_mk Tryz.underlying9 hn
 have hz:=zeroWE w
 rcases (strLaw).find w hx [] (by simp) with ⟨h1,_⟩ | ⟨j,e,_,h2,_⟩
 ·constructor<;>simp [Instr.lookup,run_underlying Tryz.underlying70,hz,Result.andThen,(strLaw).check w _ hx,h1]
 ·simp at h2
theorem implKnown0 (n:ByteArray) (hn:n.size≤maxLen) (w:World) :
  Calls Tryz.prog 71 #[.agg #[.slice none 0 0,.map none],.string n] w fun e w'=>e = .returned (.bool false)∧Below w.heap.size w w':=by
 have h2:=fun w=>(look0 n hn w).1
 unfold zWE at h2
 go_enter Tryz.func71,Tryz.ntmps71
 go_wp2
 go_ret
 exact⟨rfl,below_al2 _ _ _⟩
set_option maxRecDepth 100000 in
set_option maxHeartbeats 1000000 in
theorem implWayUp0 (n:ByteArray) (hn:n.size≤maxLen) (w:World) :
  Calls Tryz.prog 83 #[.agg #[.slice none 0 0,.map none],.string n] w fun e w'=>e = .returned (.slice none 0 0)∧Below w.heap.size w w':=by
 have HK:Hid (∀ w,Calls Tryz.prog 71 #[.agg #[.slice none 0 0,.map none],.string n] w fun e w'=>e = .returned (.bool false)∧Below w.heap.size w w'):=fun w=>implKnown0 n hn w
 go_enter Tryz.func83,Tryz.ntmps83
 go_wp2_with fail
 go_step3
 go_wp2_with fail
 go_step3
 go_wp2_with fail
 have x0:(w.alloc (.cells #[.slice none 0 0,.map none] 72)).cell? ⟨w.heap.size,0,none⟩=some (.slice none 0 0):=by simp [go_sem]
 have x1:(w.alloc (.cells #[.slice none 0 0,.map none] 72)).cell? ⟨w.heap.size,1,none⟩=some (.map none):=by simp [go_sem]
 have HBW:Hid (Below w.heap.size w (w.alloc (.cells #[.slice none 0 0,.map none] 72))):=below_al _ _
 generalize w.alloc (.cells #[.slice none 0 0,.map none] 72)=W at *
 go_loopw [1,5] (fun j1 j5 wr=>j1 = .string n∧j5 = .slice none 0 0∧wr=W) (fun _ _ _=>0)
 case atStart=>exact⟨rfl,rfl,rfl⟩
 case round =>
  obtain ⟨rfl,rfl,rfl⟩:=hrel
  go_wp2_with fail
  refine Calls.mono (HK.out _) ?_
  rintro e w1 ⟨rfl,hb1⟩
  have HB1:Hid (Below w.heap.size w w1):=HBW.out.trans (hb1.mono HBW.out.size)
  clear hb1
  go_wp2
  try rw [Exit.noGoto_ret]
  go_ret
  exact⟨rfl,HB1.out⟩
theorem implIsSub0 (a b:ByteArray) (ha:a.size≤maxLen) (w:World) :
  Calls Tryz.prog 55 #[.agg #[.slice none 0 0,.map none],.string a,.string b] w fun e w'=>e = .returned (.bool false)∧Below w.heap.size w w':=by
 have HW:Hid (∀ w,Calls Tryz.prog 83 #[.agg #[.slice none 0 0,.map none],.string a] w fun e w'=>e = .returned (.slice none 0 0)∧Below w.heap.size w w'):=fun w=>implWayUp0 a ha w
 go_enter Tryz.func55,Tryz.ntmps55
 go_wp2_with fail
 refine Calls.mono (HW.out _) ?_
 rintro e w1 ⟨rfl,hb1⟩
 have HB1:Hid (Below w.heap.size w w1):=(below_al _ _).trans (hb1.mono (by simp))
 clear hb1
 go_wp2_with fail
 go_loopw [13] (fun j13 wr=>j13 = .int .i64 0∧wr=w1) (fun _ _=>0)
 case atStart=>exact⟨rfl,rfl⟩
 case round =>
  obtain ⟨rfl,rfl⟩:=hrel
  go_wp2
  go_ret
  exact⟨rfl,HB1.out⟩
theorem implCommon0 (a b:ByteArray) (ha:a.size≤maxLen) (w:World) :
  Calls Tryz.prog 52 #[.agg #[.slice none 0 0,.map none],.string a,.string b] w fun e w'=>e = .returned (.string ⟨#[]⟩)∧Below w.heap.size w w':=by
 have HW:Hid (∀ w,Calls Tryz.prog 83 #[.agg #[.slice none 0 0,.map none],.string a] w fun e w'=>e = .returned (.slice none 0 0)∧Below w.heap.size w w'):=fun w=>implWayUp0 a ha w
 go_enter Tryz.func52,Tryz.ntmps52
 go_wp2_with fail
 refine Calls.mono (HW.out _) ?_
 rintro e w1 ⟨rfl,hb1⟩
 have HB1:Hid (Below w.heap.size w w1):=(below_al _ _).trans (hb1.mono (by simp))
 clear hb1
 go_wp2_with fail
 go_loopw [13] (fun j13 wr=>j13 = .int .i64 0∧wr=w1) (fun _ _=>0)
 case atStart=>exact⟨rfl,rfl⟩
 case round =>
  obtain ⟨rfl,rfl⟩:=hrel
  go_wp2
  go_ret
  exact⟨rfl,HB1.out⟩
theorem implMake2 (L:List CTup) (v:Value) (w:World) (h:classR.slice.In w [v] L) (ht:Tab w) (hg:Glob w) :
  (rtB L=false∧Calls Tryz.prog 41 #[v] w fun e w'=>Below w.heap.size w w'∧e = .returned (.tuple #[.agg #[.slice none 0 0,.map none],.agg #[.int .i64 (wOut L).1,.int .i64 (wOut L).2]])) ∨
  (rtB L=true∧Right L∧Calls Tryz.prog 41 #[v] w fun e w'=>Below w.heap.size w w'∧∃ r E es ck,e = .returned (.tuple #[wdV v r,.agg #[.int .i64 (wOut L).1,.int .i64 (wOut L).2]])∧WmIs w' r E es ck∧E.map WE.c=allC L):=by
 cases hr:rtB L with
 | false =>
  refine .inl ⟨rfl,Calls.mono (implMakeWorld L v w h ht hg) ?_⟩
  rintro e w' ⟨h1,wv,rfl,h2,_⟩
  have:(wOut L).2 ≠ 0:=by unfold rtB at hr;simpa using hr
  rw [h2 this]
  exact⟨h1,rfl⟩
 | true =>
  refine .inr ⟨rfl,rt_right hr,Calls.mono (implMakeWorld L v w h ht hg) ?_⟩
  rintro e w' ⟨h1,wv,rfl,_,h3⟩
  have:(wOut L).2=0:=by unfold rtB at hr;simpa using hr
  obtain ⟨r,E,es,ck,rfl,h4,h5,_⟩:=h3 this
  exact⟨h1,r,E,es,ck,rfl,h4,h5⟩
theorem sub_eq {L:List CTup} {E:List WE} (hR:Right L) (h:E.map WE.c=allC L) (a b:ByteArray):subB E a b=sbC L a b:=by
 unfold subB sbC
 rw [← wyE hR.acy h a,List.any_map]
 rfl
theorem com_eq {L:List CTup} {E:List WE} (hR:Right L) (h:E.map WE.c=allC L) (b:ByteArray) (W:List WE):comB E b W=comL L b (W.map WE.c):=by
 induction W with
 | nil=>rfl
 | cons x t ih =>
  unfold comB
  rw [sub_eq hR h,ih]
  rfl
theorem com_size {L:List CTup} (hR:Right L) {b:ByteArray} (W:List CTup) (h:∀ c ∈ W,c ∈ allC L):(comL L b W).size≤20:=by
 induction W with
 | nil=>show tE.size≤20;decide
 | cons c t ih =>
  unfold comL
  split
  ·exact all_size hR.part c (h c List.mem_cons_self)
  ·exact ih fun d hd=>h d (List.mem_cons_of_mem _ hd)
theorem all_len' {E:List WE} {L:List CTup} (h:E.map WE.c=allC L) (hR:Right L):E.length≤100:=all_len h hR.1
set_option maxRecDepth 100000 in
set_option maxHeartbeats 1000000 in
theorem implIsSubOf (L:List CTup) (v:Value) (a b:ByteArray) (w:World) (h:classR.slice.In w [v] L) (ht:Tab w) (hg:Glob w) (ha:a.size≤maxLen) :
  Calls Tryz.prog 24 #[v,.string a,.string b] w fun e w'=>e = .returned (.bool (isV L a b))∧Below w.heap.size w w':=by
 obtain ⟨va,vcap,rfl,_⟩:=slice_open (by decide) h
 unfold isV
 rcases implMake2 L _ w h ht hg with ⟨hr,hm⟩ | ⟨hr,hR,hm⟩
 ·rw [hr]
  have HM:=(show Hid _ from hm)
  clear hm hr h ht hg
  generalize (wOut L).1=o1 at *
  generalize (wOut L).2=o2 at *
  go_enter Tryz.func24,Tryz.ntmps24
  go_wp2_with fail
  refine Calls.mono HM.out ?_
  rintro e w1 ⟨hb1,rfl⟩
  have HB1:Hid (Below w.heap.size w w1):=hb1
  clear hb1
  go_wp2_with fail
  refine Calls.mono (implIsSub0 a b ha _) ?_
  rintro e w2 ⟨rfl,hb2⟩
  have HB2:Hid (Below w.heap.size w w2):=((HB1.out.alloc HB1.out.size _).alloc (by have:=HB1.out.size;simp;omega) _).trans (hb2.mono (by have:=HB1.out.size;simp;omega))
  clear hb2
  go_wp2
  go_ret
  exact⟨rfl,HB2.out⟩
 ·rw [hr]
  have HM:=(show Hid _ from hm)
  clear hm hr h ht hg
  generalize (wOut L).1=o1 at *
  generalize (wOut L).2=o2 at *
  go_enter Tryz.func24,Tryz.ntmps24
  go_wp2_with fail
  refine Calls.mono HM.out ?_
  rintro e w1 ⟨hb1,r,E,es,ck,rfl,hwm,hE⟩
  have HB1:Hid (Below w.heap.size w w1):=hb1
  have HK:Hid (∀ w',Below w1.heap.size w1 w'→Calls Tryz.prog 55 #[.agg #[.slice va L.length vcap,.map (some r)],.string a,.string b] w' fun e w2=>e = .returned (.bool (sbC L a b))∧Below w'.heap.size w' w2):=fun w' hb=>by
   have:=implIsSubW (.slice va L.length vcap) r E es ck a b w' (hwm.below hb) ⟨_,_,_,rfl⟩ (all_len' hE hR) ha
   rw [sub_eq hR hE] at this
   exact this
  clear hb1 hwm hE
  obtain ⟨q,hq⟩:∃ q,sbC L a b=q:=⟨_,rfl⟩
  have HQ:Hid (sbC L a b=q):=hq
  rw [hq] at HK
  clear hq
  unfold wdV
  go_wp2_with fail
  refine Calls.mono (HK.out _ (below_al2 _ _ _)) ?_
  rintro e w2 ⟨rfl,hb2⟩
  have HB2:Hid (Below w.heap.size w w2):=((HB1.out.alloc HB1.out.size _).alloc (by have:=HB1.out.size;simp;omega) _).trans (hb2.mono (by have:=HB1.out.size;simp;omega))
  clear hb2
  go_wp2
  go_ret
  exact⟨rB (show q=(true && sbC L a b) from by rw [HQ.out];rfl),HB2.out⟩
set_option maxRecDepth 100000 in
set_option maxHeartbeats 1000000 in
theorem implCommonOf (L:List CTup) (v:Value) (a b:ByteArray) (w:World) (h:classR.slice.In w [v] L) (ht:Tab w) (hg:Glob w) (ha:a.size≤maxLen) (hb:b.size≤maxLen) :
  Calls Tryz.prog 22 #[v,.string a,.string b] w fun e w'=>e = .returned (.string (cmV L a b))∧Below w.heap.size w w':=by
 obtain ⟨va,vcap,rfl,_⟩:=slice_open (by decide) h
 unfold cmV
 rcases implMake2 L _ w h ht hg with ⟨hr,hm⟩ | ⟨hr,hR,hm⟩
 ·rw [hr]
  have HM:=(show Hid _ from hm)
  clear hm hr h ht hg
  generalize (wOut L).1=o1 at *
  generalize (wOut L).2=o2 at *
  go_enter Tryz.func22,Tryz.ntmps22
  go_wp2_with fail
  refine Calls.mono HM.out ?_
  rintro e w1 ⟨hb1,rfl⟩
  have HB1:Hid (Below w.heap.size w w1):=hb1
  clear hb1
  go_wp2_with fail
  refine Calls.mono (implCommon0 a b ha _) ?_
  rintro e w2 ⟨rfl,hb2⟩
  have HB2:Hid (Below w.heap.size w w2):=((HB1.out.alloc HB1.out.size _).alloc (by have:=HB1.out.size;simp;omega) _).trans (hb2.mono (by have:=HB1.out.size;simp;omega))
  clear hb2
  go_wp2_with fail
  refine Calls.mono (libClone _ _ (by decide)) ?_
  rintro e w3 ⟨rfl,hb3⟩
  have HB3:Hid (Below w.heap.size w w3):=HB2.out.trans (hb3.mono HB2.out.size)
  go_wp2
  go_ret
  exact⟨rfl,HB3.out⟩
 ·rw [hr]
  have HM:=(show Hid _ from hm)
  clear hm hr h ht hg
  generalize (wOut L).1=o1 at *
  generalize (wOut L).2=o2 at *
  go_enter Tryz.func22,Tryz.ntmps22
  go_wp2_with fail
  refine Calls.mono HM.out ?_
  rintro e w1 ⟨hb1,r,E,es,ck,rfl,hwm,hE⟩
  have HB1:Hid (Below w.heap.size w w1):=hb1
  have HK:Hid (∀ w',Below w1.heap.size w1 w'→Calls Tryz.prog 52 #[.agg #[.slice va L.length vcap,.map (some r)],.string a,.string b] w' fun e w2=>e = .returned (.string (comL L b (CH nmC suC (allC L) a)))∧Below w'.heap.size w' w2):=fun w' hb'=>by
   have:=implCommonW (.slice va L.length vcap) r E es ck a b w' (hwm.below hb') ⟨_,_,_,rfl⟩ (all_len' hE hR) ha hb
   rw [com_eq hR hE,wyE hR.acy hE] at this
   exact this
  have hsz:(comL L b (CH nmC suC (allC L) a)).size≤281474976710656:=Nat.le_trans (com_size hR _ (fun c hc=>CH_sub c hc)) (by decide)
  clear hb1 hwm hE
  obtain ⟨q,hq⟩:∃ q,comL L b (CH nmC suC (allC L) a)=q:=⟨_,rfl⟩
  have HQ:Hid (comL L b (CH nmC suC (allC L) a)=q):=hq
  rw [hq] at HK hsz
  clear hq
  unfold wdV
  go_wp2_with fail
  refine Calls.mono (HK.out _ (below_al2 _ _ _)) ?_
  rintro e w2 ⟨rfl,hb2⟩
  have HB2:Hid (Below w.heap.size w w2):=((HB1.out.alloc HB1.out.size _).alloc (by have:=HB1.out.size;simp;omega) _).trans (hb2.mono (by have:=HB1.out.size;simp;omega))
  clear hb2
  go_wp2_with fail
  refine Calls.mono (libClone _ _ hsz) ?_
  rintro e w3 ⟨rfl,hb3⟩
  have HB3:Hid (Below w.heap.size w w3):=HB2.out.trans (hb3.mono HB2.out.size)
  go_wp2
  go_ret
  exact⟨rS (show q=comL L b (CH nmC suC (allC L) a) from HQ.out.symm),HB3.out⟩
end
section
open Go.RowKit
set_option maxRecDepth 20000
set_option linter.unusedVariables false
theorem sb_iff {L:List CTup} {a b:ByteArray}:sbC L a b=true ↔ b ∈ (CH nmC suC (allC L) a).map nmC:=by
 unfold sbC
 simp only [List.any_eq_true,decide_eq_true_eq,List.mem_map]
theorem suf_at {L:List CTup} (hA:AcyG nmC suC (allC L)) {c:CTup} {post:List CTup}:∀ (pre:List CTup) (a:ByteArray),CH nmC suC (allC L) a=pre ++ c :: post→CH nmC suC (allC L) (nmC c)=c :: post:=by
 intro pre
 induction pre with
 | nil =>
  intro a h
  cases e:lkG nmC (allC L) a with
  | none=>rw [CH_none e] at h;cases h
  | some x =>
   have h2:=hA.CH_some e
   rw [h] at h2
   have hx:c=x:=by simpa using (List.cons.inj h2).1
   subst hx
   rw [(lkG_some e).2,h]
   rfl
 | cons p pre ih =>
  intro a h
  cases e:lkG nmC (allC L) a with
  | none=>rw [CH_none e] at h;cases h
  | some x =>
   have h2:=hA.CH_some e
   rw [h] at h2
   exact ih _ (List.cons.inj h2).2.symm
theorem sb_anti {L:List CTup} (hA:AcyG nmC suC (allC L)) {x y:ByteArray} (h1:sbC L x y=true) (h2:sbC L y x=true):x=y:=by
 rw [sb_iff,List.mem_map] at h1 h2
 obtain ⟨c,hc,rfl⟩:=h1
 obtain ⟨d,hd,rfl⟩:=h2
 obtain ⟨p1,q1,e1⟩:=List.append_of_mem hc
 obtain ⟨p2,q2,e2⟩:=List.append_of_mem hd
 have f1:=suf_at hA p1 _ e1
 have f2:=suf_at hA p2 _ e2
 have l1:=congrArg List.length e1
 have l2:=congrArg List.length e2
 rw [f2] at l1
 rw [f1] at l2
 simp only [List.length_cons,List.length_append] at l1 l2
 have hp:p1=[]:=List.eq_nil_of_length_eq_zero (by omega)
 subst hp
 rw [List.nil_append,f2] at e1
 rw [(List.cons.inj e1).1]
theorem com_spec (L:List CTup) (b:ByteArray):∀ W,(comL L b W=tE∧∀ c ∈ W,sbC L b (nmC c)=false) ∨ ∃ pre c post,W=pre ++ c :: post∧comL L b W=nmC c∧sbC L b (nmC c)=true∧∀ d ∈ pre,sbC L b (nmC d)=false:=by
 intro W
 induction W with
 | nil=>exact .inl ⟨rfl,fun c hc=>by cases hc⟩
 | cons c t ih =>
  unfold comL
  cases hs:sbC L b (nmC c) with
  | true=>exact .inr ⟨[],c,t,rfl,rfl,hs,fun d hd=>by cases hd⟩
  | false =>
   rcases ih with ⟨h1,h2⟩ | ⟨pre,d,post,h1,h2,h3,h4⟩
   ·refine .inl ⟨h1,fun d hd=>?_⟩
    rcases List.mem_cons.1 hd with rfl | hd
    ·exact hs
    ·exact h2 d hd
   ·refine .inr ⟨c :: pre,d,post,by rw [h1];rfl,h2,h3,fun e he=>?_⟩
    rcases List.mem_cons.1 he with rfl | he
    ·exact hs
    ·exact h4 e he
theorem com_up {L:List CTup} (hA:AcyG nmC suC (allC L)) {a b:ByteArray} {pre post:List CTup} {c:CTup} (h1:CH nmC suC (allC L) a=pre ++ c :: post) (h4:∀ d ∈ pre,sbC L b (nmC d)=false) {y:ByteArray} (ya:sbC L a y=true) (yb:sbC L b y=true):sbC L (nmC c) y=true:=by
 rw [sb_iff,suf_at hA pre _ h1]
 rw [sb_iff,h1,List.map_append,List.mem_append] at ya
 rcases ya with ya | ya
 ·obtain ⟨d,hd,rfl⟩:=List.mem_map.1 ya
  rw [h4 d hd] at yb
  cases yb
 ·exact ya
theorem com_sym {L:List CTup} (hA:AcyG nmC suC (allC L)) (a b:ByteArray):comL L b (CH nmC suC (allC L) a)=comL L a (CH nmC suC (allC L) b):=by
 have mem:∀ {n:ByteArray} {c:CTup},c ∈ CH nmC suC (allC L) n→sbC L n (nmC c)=true:=fun h=>sb_iff.2 (List.mem_map_of_mem h)
 have cross:∀ {a b:ByteArray} {pre post:List CTup} {c:CTup},CH nmC suC (allC L) a=pre ++ c :: post→sbC L b (nmC c)=true→(∀ d ∈ CH nmC suC (allC L) b,sbC L a (nmC d)=false)→False:=fun {a b pre post c} h1 h3 h=>by
  obtain ⟨d,hd,e⟩:=List.mem_map.1 (sb_iff.1 h3)
  have:=h d hd
  rw [e,mem (by rw [h1];simp)] at this
  cases this
 rcases com_spec L b (CH nmC suC (allC L) a) with ⟨h1,h2⟩ | ⟨pre,c,post,h1,h2,h3,h4⟩
 ·rcases com_spec L a (CH nmC suC (allC L) b) with ⟨k1,k2⟩ | ⟨pre',d,post',k1,k2,k3,k4⟩
  ·rw [h1,k1]
  ·exact (cross k1 k3 h2).elim
 ·rcases com_spec L a (CH nmC suC (allC L) b) with ⟨k1,k2⟩ | ⟨pre',d,post',k1,k2,k3,k4⟩
  ·exact (cross h1 h3 k2).elim
  ·rw [h2,k2]
   exact sb_anti hA (com_up hA h1 h4 k3 (mem (by rw [k1];simp))) (com_up hA k1 k4 h3 (mem (by rw [h1];simp)))
theorem cm_sym (L:List CTup) (a b:ByteArray):cmV L b a=cmV L a b:=by
 unfold cmV
 by_cases h:rtB L=true
 ·rw [if_pos h,if_pos h]
  exact com_sym (rt_right h).acy b a
 ·rw [if_neg h,if_neg h]
theorem cm_above {L:List CTup} {a b:ByteArray} (h:cmV L a b ≠ tE):isV L a (cmV L a b)=true∧isV L b (cmV L a b)=true∧∀ c,isV L a c=true→isV L b c=true→isV L (cmV L a b) c=true:=by
 by_cases hr:rtB L=true
 ·have hA:=(rt_right hr).acy
  have e:cmV L a b=comL L b (CH nmC suC (allC L) a):=by unfold cmV;rw [if_pos hr]
  rw [e] at h ⊢
  rcases com_spec L b (CH nmC suC (allC L) a) with ⟨h1,_⟩ | ⟨pre,c,post,h1,h2,h3,h4⟩
  ·exact absurd h1 h
  ·rw [h2]
   unfold isV
   rw [hr,h3]
   simp only [Bool.true_and]
   exact⟨sb_iff.2 (List.mem_map_of_mem (by rw [h1];simp)),trivial,fun y ya yb=>com_up hA h1 h4 ya yb⟩
 ·exact absurd (by unfold cmV;rw [if_neg hr]) h
theorem cm_small {L:List CTup} {a b:ByteArray} (h:cmV L a b ≠ tE):(cmV L a b).size≤maxLen:=by
 by_cases hr:rtB L=true
 ·have e:cmV L a b=comL L b (CH nmC suC (allC L) a):=by unfold cmV;rw [if_pos hr]
  rw [e] at h ⊢
  rcases com_spec L b (CH nmC suC (allC L) a) with ⟨h1,_⟩ | ⟨pre,c,post,h1,h2,_⟩
  ·exact absurd h1 h
  ·rw [h2]
   exact Nat.le_trans (all_size (rt_right hr).part c (CH_sub c (by rw [h1];simp))) (by decide)
 ·exact absurd (by unfold cmV;rw [if_neg hr]) h
end
end Go.Proofs.YtmhgaggpdggbeaaGreatDoor
