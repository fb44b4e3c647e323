/-
  Texts laid together.
-/
import Derived.Test.YtmhgaggpdggbeaaGreatDoorWd4
import Derived.Test.YtmhgaggpdggbeaaGreatDoorWd5
import Derived.Test.YtmhgaggpdggbeaaGreatDoorWi9
import Derived.Test.YtmhgaggpdggbeaaGreatDoorWi12
import Derived.Test.YtmhgaggpdggbeaaGreatDoorWi10
namespace Go.Proofs.YtmhgaggpdggbeaaGreatDoor
section
open Go.RowKit
set_option maxRecDepth 20000
set_option linter.unusedVariables false
theorem specWorldCheck (L:List CTup) (v:Value) (w:World) (h:classR.slice.In w [v] L) :
  Calls Tryz.prog 28 #[v] w fun e w'=>e = .returned (.agg #[.int .i64 (wOut L).1,.int .i64 (wOut L).2])∧Below w.heap.size w w' :=
 specWorldCheckIf L v w h fun hp c vc vh w' hc hb h3 h4=>specAccess L v c vc vh w' hp hc (classR.slice.mono _ _ _ _ hb h) h3 h4

open Go.RowKit
set_option linter.unusedVariables false

noncomputable def rtB (L:List CTup):Bool:=decide ((wOut L).2=0)
theorem rt_right {L:List CTup} (h:rtB L=true):Right L:=by
 unfold rtB at h
 simp only [decide_eq_true_eq] at h
 rcases right_code L with ⟨k,_⟩ | ⟨_,k⟩
 ·exact k
 ·exact absurd h k
theorem nameB_le' {n:ByteArray} (h:nameB n=true):n.size≤20:=by
 unfold nameB at h
 simp only [decide_eq_true_eq] at h
 omega
theorem Right.part {L:List CTup} (h:Right L):Part L L.length:=h.2.part (by omega)
theorem Right.acy {L:List CTup} (h:Right L):AcyG nmC suC (allC L):=Past.acy fun q hq=>h.2 q (by omega)
theorem kn_size {L:List CTup} (h:Right L) {n:ByteArray} (hk:knB L n=true):n.size≤20∧n ≠ tE:=by
 unfold knB at hk
 rw [Option.isSome_iff_exists] at hk
 obtain ⟨c,hc⟩:=hk
 obtain ⟨h1,rfl⟩:=lkG_some hc
 rcases List.mem_append.1 h1 with k | k
 ·have:∀ b ∈ biC,(nmC b).size≤20∧nmC b ≠ tE:=by decide
  exact this c k
 ·obtain ⟨i,hi,rfl⟩:=List.mem_iff_getElem.1 k
  exact⟨nameB_le' (h.part.ok i hi hi).n,nameB_ne (h.part.ok i hi hi).n⟩
theorem su_known {L:List CTup} (h:Right L) {c:CTup} (hc:c ∈ allC L):suC c=tE ∨ knB L (suC c)=true:=by
 rcases List.mem_append.1 hc with k | k
 ·have hb:∀ b ∈ biC,suC b=tE ∨ (lkG nmC biC (suC b)).isSome=true:=by decide
  rcases hb c k with q | q
  ·exact .inl q
  ·right
   unfold knB
   rw [lk_all]
   cases e:lkG nmC biC (suC c) with
   | none=>rw [e] at q;cases q
   | some d=>rfl
 ·obtain ⟨i,hi,rfl⟩:=List.mem_iff_getElem.1 k
  right
  have:=h.2 1 (by omega) i hi
  rw [cdP1 hi] at this
  unfold cd1 at this
  unfold knB
  cases e:lkG nmC (allC L) (suC L[i]) with
  | none=>rw [e] at this;cases this
  | some d=>rfl
def sbC (L:List CTup) (a b:ByteArray):Bool:=(CH nmC suC (allC L) a).any fun c=>decide (nmC c=b)
theorem kn_alt (L:List CTup) (n:ByteArray):(knB L n=false∧lkG nmC (allC L) n=none∧spS L n=tE∧CH nmC suC (allC L) n=[]) ∨ ∃ c,knB L n=true∧c ∈ allC L∧nmC c=n∧lkG nmC (allC L) n=some c∧spS L n=suC c:=by
 unfold knB spS
 cases e:lkG nmC (allC L) n with
 | none=>exact .inl ⟨rfl,rfl,rfl,CH_none e⟩
 | some c=>exact .inr ⟨c,rfl,(lkG_some e).1,(lkG_some e).2,rfl,rfl⟩
theorem sb_kn {L:List CTup} {a b:ByteArray} (h:sbC L a b=true):knB L a=true∧knB L b=true:=by
 unfold sbC at h
 obtain ⟨c,hc,e⟩:=List.any_eq_true.1 h
 simp only [decide_eq_true_eq] at e
 constructor
 ·rcases kn_alt L a with ⟨_,_,_,k⟩ | ⟨_,k,_⟩
  ·rw [k] at hc;cases hc
  ·exact k
 ·rcases kn_alt L b with ⟨_,k,_⟩ | ⟨_,k,_⟩
  ·exact absurd e (lkG_none.1 k c (CH_sub c hc))
  ·exact k
noncomputable def knV (L:List CTup) (n:ByteArray):Bool:=rtB L && knB L n
noncomputable def spV (L:List CTup) (n:ByteArray):ByteArray:=if rtB L then spS L n else tE
noncomputable def isV (L:List CTup) (a b:ByteArray):Bool:=rtB L && sbC L a b
theorem fieldWO1 (a b:Value) (w:World):(Instr.field 47 (.agg #[a,b]) 1).run Tryz.prog w = .ok b w:=by kernel_rfl
set_option maxRecDepth 100000 in
set_option maxHeartbeats 1000000 in
theorem specRight (L:List CTup) (v:Value) (w:World) (h:classR.slice.In w [v] L) :
  Calls Tryz.prog 38 #[v] w fun e w'=>e = .returned (.bool (rtB L))∧Below w.heap.size w w':=by
 have HC:Hid (Calls Tryz.prog 28 #[v] w fun e w'=>e = .returned (.agg #[.int .i64 (wOut L).1,.int .i64 (wOut L).2])∧Below w.heap.size w w'):=specWorldCheck L v w h
 obtain ⟨a,cap,rfl,_⟩:=slice_open (by decide) h
 unfold rtB
 have f1:=fieldWO1
 generalize (wOut L).1=o1 at *
 generalize (wOut L).2=o2 at *
 clear h
 by_cases e:o2=0
 ·subst e
  go_enter Tryz.func38,Tryz.ntmps38
  go_wp2_with fail
  refine Calls.mono HC.out ?_
  rintro e w1 ⟨rfl,hb1⟩
  go_wp2
  go_ret
  exact⟨rfl,hb1⟩
 ·have d:(o2 == 0)=false:=by simpa using e
  have d2:decide (o2=0)=false:=by simpa using e
  rw [d2]
  go_enter Tryz.func38,Tryz.ntmps38
  go_wp2_with fail
  refine Calls.mono HC.out ?_
  rintro e w1 ⟨rfl,hb1⟩
  go_wp2
  go_ret
  exact⟨rfl,hb1⟩
set_option maxRecDepth 100000 in
set_option maxHeartbeats 1000000 in
theorem specSub (L:List CTup) (v:Value) (a b:ByteArray) (w:World) (h:classR.slice.In w [v] L) (hR:Right L) (hb:knB L b=true) :
  Calls Tryz.prog 70 #[v,.string a,.string b] w fun e w'=>e = .returned (.bool (sbC L a b))∧Below w.heap.size w w':=by
 have HSu:Hid (∀ w' n,Below w.heap.size w w'→Calls Tryz.prog 69 #[v,.string n] w' fun e w2=>e = .returned (.string (spS L n))∧Below w'.heap.size w' w2):=fun w' n hb=>specSuper L v n w' (classR.slice.mono _ _ _ _ hb h)
 have hA:=hR.acy
 have HSt:Hid (∀ n,n ≠ tE→n ≠ b→sbC L n b=sbC L (spS L n) b∧(CH nmC suC (allC L) (spS L n)).length+(if spS L n=tE then 0 else 1)<(CH nmC suC (allC L) n).length+1):=fun n h0 h1=>by
  rcases kn_alt L n with ⟨_,_,k1,k2⟩ | ⟨c,_,hc,rfl,k1,k2⟩
  ·rw [k1,k2]
   have ht:CH nmC suC (allC L) tE=[]:=by
    rcases kn_alt L tE with ⟨_,_,_,k⟩ | ⟨c,k,_⟩
    ·exact k
    ·exact absurd rfl (kn_size hR k).2
   unfold sbC
   rw [k2,ht]
   exact⟨rfl,by simp⟩
  ·rw [k2]
   have e:=hA.CH_some k1
   unfold sbC
   rw [e]
   refine ⟨by simp [h1],?_⟩
   simp only [List.length_cons]
   split<;>omega
 have HYes:Hid (sbC L b b=true):=by
  show _=_
  rcases kn_alt L b with ⟨k,_⟩ | ⟨c,_,hc,rfl,k1,k2⟩
  ·rw [k] at hb;cases hb
  ·unfold sbC
   rw [hA.CH_some k1]
   simp
 have HNo:Hid (sbC L tE b=false):=by
  show _=_
  rcases kn_alt L tE with ⟨_,_,_,k⟩ | ⟨c,k,_⟩
  ·unfold sbC;rw [k];rfl
  ·exact absurd rfl (kn_size hR k).2
 obtain ⟨la,lcap,rfl,_⟩:=slice_open (by decide) h
 generalize hf:(fun n=>(CH nmC suC (allC L) n).length)=f at *
 have hf':∀ n,(CH nmC suC (allC L) n).length=f n:=fun n=>by rw [← hf]
 simp only [hf'] at HSt
 clear h hA hf hf' hR hb
 generalize hres:sbC L a b=res at *
 have HRes:Hid (res=sbC L a b):=hres.symm
 clear hres
 go_enter Tryz.func70,Tryz.ntmps70
 go_wp2_with fail
 go_loopw [1] (fun j1 wr=>∃ n:ByteArray,j1 = .string n∧Below w.heap.size w wr∧res=sbC L n b) (fun j1 _=>match j1 with | .string n=>f n+(if n=tE then 0 else 1) | _=>0)
 case atStart=>exact⟨a,rfl,Below.refl _ _,HRes.out⟩
 case round =>
  obtain ⟨n,rfl,hbb,hr⟩:=hrel
  have HB:Hid (Below w.heap.size w wr):=hbb
  have HR:=(show Hid (res=sbC L n b) from hr)
  clear hbb hr
  by_cases h0:n=tE
  ·subst h0
   have HZ:Hid (false=res):=by show _=_;rw [HR.out,HNo.out]
   unfold tE
   go_wp2
   go_ret
   exact⟨rB HZ.out,HB.out⟩
  ·have d0:(n.toList == [])=false:=by
    rw [beq_eq_false_iff_ne,ByteArray.toList_eq]
    intro e
    exact h0 (WideShapes.bytes_inj (by rw [e];rfl))
   by_cases h1:n=b
   ·have HZ:Hid (true=res):=by show _=_;rw [HR.out,h1,HYes.out]
    have d1:=tx_eq h1
    clear HR h1
    go_wp2
    go_ret
    exact⟨rB HZ.out,HB.out⟩
   ·have d1:=tx_ne h1
    obtain ⟨s1,s2⟩:=HSt.out n h0 h1
    have HZ:=(show Hid (res=sbC L (spS L n) b) from by show _=_;rw [HR.out,s1])
    have HM:=(show Hid (f (spS L n)+(if spS L n=tE then 0 else 1)<f n+(if n=tE then 0 else 1)) from by show _<_;rw [if_neg h0];exact s2)
    clear s1 s2 HR
    go_wp2_with fail
    refine Calls.mono (HSu.out _ n HB.out) ?_
    rintro e w1 ⟨rfl,hb1⟩
    have HB1:Hid (Below w.heap.size w w1):=HB.out.trans (hb1.mono HB.out.size)
    clear hb1
    generalize spS L n=m at *
    go_wp2
    go_roundw
    case rel=>exact⟨m,rfl,HB1.out,HZ.out⟩
    case measure=>exact HM.out

open Go.RowKit
set_option linter.unusedVariables false

theorem kn_long {L:List CTup} {n:ByteArray} (h:20000<n.size) (hr:rtB L=true):knB L n=false:=by
 cases e:knB L n with
 | false=>rfl
 | true=>have:=(kn_size (rt_right hr) e).1;omega
theorem sp_long {L:List CTup} {n:ByteArray} (h:knB L n=false):spS L n=tE:=by
 rcases kn_alt L n with ⟨_,_,k,_⟩ | ⟨c,k,_⟩
 ·exact k
 ·rw [h] at k;cases k
theorem sb_long {L:List CTup} {a b:ByteArray} (h:knB L a=false ∨ knB L b=false):sbC L a b=false:=by
 cases e:sbC L a b with
 | false=>rfl
 | true =>
  obtain ⟨k1,k2⟩:=sb_kn e
  rcases h with h | h
  ·rw [h] at k1;cases k1
  ·rw [h] at k2;cases k2
theorem CH_unknown {L:List CTup} {a:ByteArray} (h:knB L a=false):CH nmC suC (allC L) a=[]:=by
 rcases kn_alt L a with ⟨_,_,_,k⟩ | ⟨c,k,_⟩
 ·exact k
 ·rw [h] at k;cases k
set_option maxRecDepth 100000 in
set_option maxHeartbeats 1000000 in
theorem specKnownOf (L:List CTup) (v:Value) (n:ByteArray) (w:World) (h:classR.slice.In w [v] L) (hn:n.size≤maxLen) :
  Calls Tryz.prog 34 #[v,.string n] w fun e w'=>e = .returned (.bool (knV L n))∧Below w.heap.size w w':=by
 have HRt:Hid (∀ w',Below w.heap.size w w'→Calls Tryz.prog 38 #[v] w' fun e w2=>e = .returned (.bool (rtB L))∧Below w'.heap.size w' w2):=fun w' hb=>specRight L v w' (classR.slice.mono _ _ _ _ hb h)
 have HKn:Hid (∀ w' n,Below w.heap.size w w'→Calls Tryz.prog 53 #[v,.string n] w' fun e w2=>e = .returned (.bool (knB L n))∧Below w'.heap.size w' w2):=fun w' n hb=>specKnown L v n w' (classR.slice.mono _ _ _ _ hb h)
 obtain ⟨va,vcap,rfl,_⟩:=slice_open (by decide) h
 unfold maxLen at hn
 clear h
 by_cases hz:20000<n.size
 ·have d0:decide ((n.size:Int)≤20000)=false:=by simp;omega
  have HZ:Hid (false=knV L n):=by
   show _=_
   unfold knV
   cases hr:rtB L with
   | false=>rfl
   | true=>rw [kn_long hz hr];rfl
  go_enter Tryz.func34,Tryz.ntmps34
  go_wp2
  go_ret
  exact⟨rB (HZ.out),Below.refl _ _⟩
 have d0:decide ((n.size:Int)≤20000)=true:=by simp;omega
 cases hr:rtB L with
 | false =>
  have HZ:Hid (false=knV L n):=by show _=_;unfold knV;rw [hr];rfl
  rw [hr] at HRt
  go_enter Tryz.func34,Tryz.ntmps34
  go_wp2_with fail
  refine Calls.mono (HRt.out _ (Below.refl _ _)) ?_
  rintro e w1 ⟨rfl,hb1⟩
  have HB1:Hid (Below w.heap.size w w1):=hb1
  clear hb1
  go_wp2
  go_ret
  exact⟨rB (HZ.out),HB1.out⟩
 | true =>
  have HZ:Hid (knB L n=knV L n):=by show _=_;unfold knV;rw [hr];rfl
  rw [hr] at HRt
  replace HKn:=(show Hid _ from fun w' hb=>HKn.out w' n hb)
  generalize hq:knB L n=q at *
  cases q
  ·go_enter Tryz.func34,Tryz.ntmps34
   go_wp2_with fail
   refine Calls.mono (HRt.out _ (Below.refl _ _)) ?_
   rintro e w1 ⟨rfl,hb1⟩
   have HB1:Hid (Below w.heap.size w w1):=hb1
   clear hb1
   go_wp2_with fail
   refine Calls.mono (HKn.out _ HB1.out) ?_
   rintro e w2 ⟨rfl,hb2⟩
   have HB2:Hid (Below w.heap.size w w2):=HB1.out.trans (hb2.mono HB1.out.size)
   clear hb2
   go_wp2
   go_ret
   exact⟨rB (HZ.out),HB2.out⟩
  ·go_enter Tryz.func34,Tryz.ntmps34
   go_wp2_with fail
   refine Calls.mono (HRt.out _ (Below.refl _ _)) ?_
   rintro e w1 ⟨rfl,hb1⟩
   have HB1:Hid (Below w.heap.size w w1):=hb1
   clear hb1
   go_wp2_with fail
   refine Calls.mono (HKn.out _ HB1.out) ?_
   rintro e w2 ⟨rfl,hb2⟩
   have HB2:Hid (Below w.heap.size w w2):=HB1.out.trans (hb2.mono HB1.out.size)
   clear hb2
   go_wp2
   go_ret
   exact⟨rB (HZ.out),HB2.out⟩
set_option maxRecDepth 100000 in
set_option maxHeartbeats 1000000 in
theorem specSuperOf (L:List CTup) (v:Value) (n:ByteArray) (w:World) (h:classR.slice.In w [v] L) (hn:n.size≤maxLen) :
  Calls Tryz.prog 30 #[v,.string n] w fun e w'=>e = .returned (.string (spV L n))∧Below w.heap.size w w':=by
 have HRt:Hid (∀ w',Below w.heap.size w w'→Calls Tryz.prog 38 #[v] w' fun e w2=>e = .returned (.bool (rtB L))∧Below w'.heap.size w' w2):=fun w' hb=>specRight L v w' (classR.slice.mono _ _ _ _ hb h)
 have HSu:Hid (∀ w',Below w.heap.size w w'→Calls Tryz.prog 69 #[v,.string n] w' fun e w2=>e = .returned (.string (spS L n))∧Below w'.heap.size w' w2):=fun w' hb=>specSuper L v n w' (classR.slice.mono _ _ _ _ hb h)
 obtain ⟨va,vcap,rfl,_⟩:=slice_open (by decide) h
 unfold maxLen at hn
 clear h
 by_cases hz:20000<n.size
 ·have d0:decide ((20000:Int)<(n.size:Int))=true:=by simp;omega
  have HZ:Hid (⟨#[]⟩=spV L n):=by
   show _=_
   unfold spV
   cases hr:rtB L with
   | false=>rfl
   | true=>rw [sp_long (kn_long hz hr)];rfl
  go_enter Tryz.func30,Tryz.ntmps30
  go_wp2
  go_ret
  exact⟨rS (HZ.out),Below.refl _ _⟩
 have d0:decide ((20000:Int)<(n.size:Int))=false:=by simp;omega
 cases hr:rtB L with
 | false =>
  have HZ:Hid (⟨#[]⟩=spV L n):=by show _=_;unfold spV;rw [hr];rfl
  rw [hr] at HRt
  go_enter Tryz.func30,Tryz.ntmps30
  go_wp2_with fail
  refine Calls.mono (HRt.out _ (Below.refl _ _)) ?_
  rintro e w1 ⟨rfl,hb1⟩
  have HB1:Hid (Below w.heap.size w w1):=hb1
  clear hb1
  go_wp2
  go_ret
  exact⟨rS (HZ.out),HB1.out⟩
 | true =>
  have HZ:Hid (spS L n=spV L n):=by show _=_;unfold spV;rw [hr];rfl
  rw [hr] at HRt
  generalize spS L n=sp at *
  go_enter Tryz.func30,Tryz.ntmps30
  go_wp2_with fail
  refine Calls.mono (HRt.out _ (Below.refl _ _)) ?_
  rintro e w1 ⟨rfl,hb1⟩
  have HB1:Hid (Below w.heap.size w w1):=hb1
  clear hb1
  go_wp2_with fail
  refine Calls.mono (HSu.out _ HB1.out) ?_
  rintro e w2 ⟨rfl,hb2⟩
  have HB2:Hid (Below w.heap.size w w2):=HB1.out.trans (hb2.mono HB1.out.size)
  clear hb2
  go_wp2
  go_ret
  exact⟨rS (HZ.out),HB2.out⟩
set_option maxRecDepth 100000 in
set_option maxHeartbeats 2000000 in
theorem specIsSubOf (L:List CTup) (v:Value) (a b:ByteArray) (w:World) (h:classR.slice.In w [v] L) (ha:a.size≤maxLen) (hb:b.size≤maxLen) :
  Calls Tryz.prog 32 #[v,.string a,.string b] w fun e w'=>e = .returned (.bool (isV L a b))∧Below w.heap.size w w':=by
 have HRt:Hid (∀ w',Below w.heap.size w w'→Calls Tryz.prog 38 #[v] w' fun e w2=>e = .returned (.bool (rtB L))∧Below w'.heap.size w' w2):=fun w' hb=>specRight L v w' (classR.slice.mono _ _ _ _ hb h)
 have HKn:Hid (∀ w' n,Below w.heap.size w w'→Calls Tryz.prog 53 #[v,.string n] w' fun e w2=>e = .returned (.bool (knB L n))∧Below w'.heap.size w' w2):=fun w' n hb=>specKnown L v n w' (classR.slice.mono _ _ _ _ hb h)
 have HSb:Hid (rtB L=true→knB L b=true→∀ w',Below w.heap.size w w'→Calls Tryz.prog 70 #[v,.string a,.string b] w' fun e w2=>e = .returned (.bool (sbC L a b))∧Below w'.heap.size w' w2):=fun hr hk w' hb=>specSub L v a b w' (classR.slice.mono _ _ _ _ hb h) (rt_right hr) hk
 have HL:Hid (rtB L=false ∨ (rtB L=true∧(20000<a.size ∨ 20000<b.size ∨ knB L a=false ∨ knB L b=false))→false=isV L a b):=fun k=>by
  unfold isV
  rcases k with k | ⟨k,q⟩
  ·rw [k];rfl
  ·rw [k,sb_long]
   ·rfl
   ·rcases q with q | q | q | q
    ·exact .inl (kn_long q k)
    ·exact .inr (kn_long q k)
    ·exact .inl q
    ·exact .inr q
 have HRr:Hid (rtB L=false ∨ rtB L=true):=by cases rtB L<;>simp [Hid]
 obtain ⟨va,vcap,rfl,_⟩:=slice_open (by decide) h
 unfold maxLen at ha hb
 clear h
 by_cases hza:20000<a.size
 ·have d0:decide ((a.size:Int)≤20000)=false:=by simp;omega
  have HZ:Hid (false=isV L a b):=by
   rcases HRr.out with k | k
   ·exact HL.out (.inl k)
   ·exact HL.out (.inr ⟨k,.inl hza⟩)
  go_enter Tryz.func32,Tryz.ntmps32
  go_wp2
  go_ret
  exact⟨rB (HZ.out),Below.refl _ _⟩
 have d0:decide ((a.size:Int)≤20000)=true:=by simp;omega
 by_cases hzb:20000<b.size
 ·have d1:decide ((b.size:Int)≤20000)=false:=by simp;omega
  have HZ:Hid (false=isV L a b):=by
   rcases HRr.out with k | k
   ·exact HL.out (.inl k)
   ·exact HL.out (.inr ⟨k,.inr (.inl hzb)⟩)
  go_enter Tryz.func32,Tryz.ntmps32
  go_wp2
  go_ret
  exact⟨rB (HZ.out),Below.refl _ _⟩
 have d1:decide ((b.size:Int)≤20000)=true:=by simp;omega
 rcases HRr.out with hr | hr
 ·have HZ:Hid (false=isV L a b):=HL.out (.inl hr)
  rw [hr] at HRt
  go_enter Tryz.func32,Tryz.ntmps32
  go_wp2_with fail
  refine Calls.mono (HRt.out _ (Below.refl _ _)) ?_
  rintro e w1 ⟨rfl,hb1⟩
  have HB1:Hid (Below w.heap.size w w1):=hb1
  clear hb1
  go_wp2
  go_ret
  exact⟨rB (HZ.out),HB1.out⟩
 have HKa:=(show Hid _ from fun w' hb=>HKn.out w' a hb)
 have HKb:=(show Hid _ from fun w' hb=>HKn.out w' b hb)
 rw [hr] at HRt
 cases hka:knB L a with
 | false =>
  have HZ:Hid (false=isV L a b):=HL.out (.inr ⟨hr,.inr (.inr (.inl hka))⟩)
  rw [hka] at HKa
  go_enter Tryz.func32,Tryz.ntmps32
  go_wp2_with fail
  refine Calls.mono (HRt.out _ (Below.refl _ _)) ?_
  rintro e w1 ⟨rfl,hb1⟩
  have HB1:Hid (Below w.heap.size w w1):=hb1
  clear hb1
  go_wp2_with fail
  refine Calls.mono (HKa.out _ HB1.out) ?_
  rintro e w2 ⟨rfl,hb2⟩
  have HB2:Hid (Below w.heap.size w w2):=HB1.out.trans (hb2.mono HB1.out.size)
  clear hb2
  go_wp2
  go_ret
  exact⟨rB (HZ.out),HB2.out⟩
 | true =>
  rw [hka] at HKa
  cases hkb:knB L b with
  | false =>
   have HZ:Hid (false=isV L a b):=HL.out (.inr ⟨hr,.inr (.inr (.inr hkb))⟩)
   rw [hkb] at HKb
   go_enter Tryz.func32,Tryz.ntmps32
   go_wp2_with fail
   refine Calls.mono (HRt.out _ (Below.refl _ _)) ?_
   rintro e w1 ⟨rfl,hb1⟩
   have HB1:Hid (Below w.heap.size w w1):=hb1
   clear hb1
   go_wp2_with fail
   refine Calls.mono (HKa.out _ HB1.out) ?_
   rintro e w2 ⟨rfl,hb2⟩
   have HB2:Hid (Below w.heap.size w w2):=HB1.out.trans (hb2.mono HB1.out.size)
   clear hb2
   go_wp2_with fail
   refine Calls.mono (HKb.out _ HB2.out) ?_
   rintro e w3 ⟨rfl,hb3⟩
   have HB3:Hid (Below w.heap.size w w3):=HB2.out.trans (hb3.mono HB2.out.size)
   clear hb3
   go_wp2
   go_ret
   exact⟨rB (HZ.out),HB3.out⟩
  | true =>
   rw [hkb] at HKb
   have HS1:=(show Hid _ from HSb.out hr hkb)
   have HZ:Hid (sbC L a b=isV L a b):=by show _=_;unfold isV;rw [hr];rfl
   generalize sbC L a b=q at *
   cases q
   ·go_enter Tryz.func32,Tryz.ntmps32
    go_wp2_with fail
    refine Calls.mono (HRt.out _ (Below.refl _ _)) ?_
    rintro e w1 ⟨rfl,hb1⟩
    have HB1:Hid (Below w.heap.size w w1):=hb1
    clear hb1
    go_wp2_with fail
    refine Calls.mono (HKa.out _ HB1.out) ?_
    rintro e w2 ⟨rfl,hb2⟩
    have HB2:Hid (Below w.heap.size w w2):=HB1.out.trans (hb2.mono HB1.out.size)
    clear hb2
    go_wp2_with fail
    refine Calls.mono (HKb.out _ HB2.out) ?_
    rintro e w3 ⟨rfl,hb3⟩
    have HB3:Hid (Below w.heap.size w w3):=HB2.out.trans (hb3.mono HB2.out.size)
    clear hb3
    go_wp2_with fail
    refine Calls.mono (HS1.out _ HB3.out) ?_
    rintro e w4 ⟨rfl,hb4⟩
    have HB4:Hid (Below w.heap.size w w4):=HB3.out.trans (hb4.mono HB3.out.size)
    clear hb4
    go_wp2
    go_ret
    exact⟨rB (HZ.out),HB4.out⟩
   ·go_enter Tryz.func32,Tryz.ntmps32
    go_wp2_with fail
    refine Calls.mono (HRt.out _ (Below.refl _ _)) ?_
    rintro e w1 ⟨rfl,hb1⟩
    have HB1:Hid (Below w.heap.size w w1):=hb1
    clear hb1
    go_wp2_with fail
    refine Calls.mono (HKa.out _ HB1.out) ?_
    rintro e w2 ⟨rfl,hb2⟩
    have HB2:Hid (Below w.heap.size w w2):=HB1.out.trans (hb2.mono HB1.out.size)
    clear hb2
    go_wp2_with fail
    refine Calls.mono (HKb.out _ HB2.out) ?_
    rintro e w3 ⟨rfl,hb3⟩
    have HB3:Hid (Below w.heap.size w w3):=HB2.out.trans (hb3.mono HB2.out.size)
    clear hb3
    go_wp2_with fail
    refine Calls.mono (HS1.out _ HB3.out) ?_
    rintro e w4 ⟨rfl,hb4⟩
    have HB4:Hid (Below w.heap.size w w4):=HB3.out.trans (hb4.mono HB3.out.size)
    clear hb4
    go_wp2
    go_ret
    exact⟨rB (HZ.out),HB4.out⟩
end
section
open Go.RowKit
set_option maxRecDepth 20000
set_option linter.unusedVariables false

theorem set2_al2 {wr:World} {R:Nat} {u0 u1:Value} (hR:R<wr.heap.size) (r0:wr.cell? ⟨R,0,none⟩=some u0) (r1:wr.cell? ⟨R,1,none⟩=some u1) (v0 v1:Value) (o1 o2:Obj) :
  ((((wr.setCell ⟨R,0,none⟩ v0).setCell ⟨R,1,none⟩ v1).alloc o1).alloc o2).cell? ⟨R,0,none⟩=some v0∧((((wr.setCell ⟨R,0,none⟩ v0).setCell ⟨R,1,none⟩ v1).alloc o1).alloc o2).cell? ⟨R,1,none⟩=some v1 :=
 ⟨carry (below_al2 _ o1 o2) (by simpa using hR) (by simp [go_sem,r0]),carry (below_al2 _ o1 o2) (by simpa using hR) (by simp [go_sem,r1])⟩
theorem nameB_le {n:ByteArray} (h:nameB n=true):n.size≤20:=by
 unfold nameB at h
 simp only [decide_eq_true_eq] at h
 omega
theorem bi_size:∀ b ∈ biC,(nmC b).size≤20:=by decide
theorem all_size {L:List CTup} (hp:Part L L.length):∀ c ∈ allC L,(nmC c).size≤20:=fun c hc=>by
 rcases List.mem_append.1 hc with k | k
 ·exact bi_size c k
 ·obtain ⟨i,hi,rfl⟩:=List.mem_iff_getElem.1 k
  exact nameB_le (hp.ok i hi hi).n
theorem all_len {E:List WE} {L:List CTup} (h:E.map WE.c=allC L) (hl:L.length≤10):E.length≤100:=by
 have:=congrArg List.length h
 have h8:biC.length=8:=rfl
 simp [allC,h8] at this
 omega
theorem implMakeWorld0 (L:List CTup) (v:Value) (w0 w:World) (hb0:Below w0.heap.size w0 w) (h:classR.slice.In w0 [v] L) (ht:Tab w) (hg:Glob w) :
  Calls Tryz.prog 41 #[v] w fun e w'=>Below w.heap.size w w'∧∃ wv,e = .returned (.tuple #[wv,.agg #[.int .i64 (wOut L).1,.int .i64 (wOut L).2]])∧((wOut L).2 ≠ 0→wv = .agg #[.slice none 0 0,.map none])∧((wOut L).2=0→∃ r E es ck,wv=wdV v r∧WmIs w' r E es ck∧E.map WE.c=allC L∧∀ y ∈ E,fieldR.slice.In w0 [y.vc] (fsC y.c)∧methR.slice.In w0 [y.vh] (msC y.c)):=by
 have hv:∃ a k c,v = .slice a k c:=by obtain ⟨a,cap,rfl,_⟩:=slice_open (by decide) h;exact⟨_,_,_,rfl⟩
 refine implMakeWorldIf L v w0 w hb0 h ht hg fun hl10 hp r E es ck c fa fc ma mc w' hc hwm hEm hf hm=>?_
 have:c ∈ E.map WE.c:=by rw [hEm];exact List.mem_append.2 (.inr hc)
 obtain ⟨x,hx,rfl⟩:=List.mem_map.1 this
 exact implMethodsFault L v r E es ck x fa fc ma mc w' hp hEm hc hwm hx hv (all_len hEm hl10) (fun y hy=>Nat.le_trans (all_size (hp.part (by omega)) y.c (by rw [← hEm];exact List.mem_map.2 ⟨y,hy,rfl⟩)) (by decide)) hm
theorem implMakeWorld (L:List CTup) (v:Value) (w:World) (h:classR.slice.In w [v] L) (ht:Tab w) (hg:Glob w) :
  Calls Tryz.prog 41 #[v] w fun e w'=>Below w.heap.size w w'∧∃ wv,e = .returned (.tuple #[wv,.agg #[.int .i64 (wOut L).1,.int .i64 (wOut L).2]])∧((wOut L).2 ≠ 0→wv = .agg #[.slice none 0 0,.map none])∧((wOut L).2=0→∃ r E es ck,wv=wdV v r∧WmIs w' r E es ck∧E.map WE.c=allC L∧∀ y ∈ E,fieldR.slice.In w [y.vc] (fsC y.c)∧methR.slice.In w [y.vh] (msC y.c)):=implMakeWorld0 L v w w (Below.refl _ _) h ht hg
theorem implWorldCheck (L:List CTup) (v:Value) (w:World) (h:classR.slice.In w [v] L) (ht:Tab w) (hg:Glob w) :
  Calls Tryz.prog 33 #[v] w fun e w'=>e = .returned (.agg #[.int .i64 (wOut L).1,.int .i64 (wOut L).2])∧Below w.heap.size w w':=by
 have HM:Hid (∀ w',Below w.heap.size w w'→Calls Tryz.prog 41 #[v] w' fun e w2=>Below w'.heap.size w' w2∧∃ (la:Option Addr) (lk lc:Nat) (r:Option Nat),e = .returned (.tuple #[.agg #[.slice la lk lc,.map r],.agg #[.int .i64 (wOut L).1,.int .i64 (wOut L).2]])):=fun w' hb=>by
  refine Calls.mono (implMakeWorld L v w' (classR.slice.mono _ _ _ _ hb h) (ht.mono hb) (hg.mono hb)) ?_
  rintro e w2 ⟨h1,wv,rfl,h2,h3⟩
  refine ⟨h1,?_⟩
  by_cases hz:(wOut L).2=0
  ·obtain ⟨r,_,_,_,rfl,_⟩:=h3 hz
   obtain ⟨a,cap,rfl,_⟩:=slice_open (by decide) h
   exact⟨_,_,_,_,rfl⟩
  ·rw [h2 hz]
   exact⟨none,0,0,none,rfl⟩
 obtain ⟨a,cap,rfl,_⟩:=slice_open (by decide) h
 generalize (wOut L).1=o1 at *
 generalize (wOut L).2=o2 at *
 clear h ht hg
 go_enter Tryz.func33,Tryz.ntmps33
 go_wp2_with fail
 refine Calls.mono (HM.out _ (below_al _ _)) ?_
 rintro e w1 ⟨hb1,la,lk,lc,r,rfl⟩
 have r0:=cC hb1 (w.heap.size) 0 (.int .i64 0) (by simp) (by simp [go_sem])
 have r1:=cC hb1 (w.heap.size) 1 (.int .i64 0) (by simp) (by simp [go_sem])
 have fr:∀ j,w1.frozen? ⟨w.heap.size,j,none⟩=false:=fun j=>carryF hb1 (by simp) (by simp [go_sem])
 have hz:w.heap.size<w1.heap.size:=by have:=hb1.size;simp at this;omega
 have HB1:Hid (Below w.heap.size w w1):=(below_al _ _).trans (hb1.mono (by simp))
 clear hb1
 go_wp2
 have q:=set2_al2 hz r0 r1 (.int .i64 o1) (.int .i64 o2) (.cells #[.slice la lk lc,.map r] 72) (.cells #[.int .i64 o1,.int .i64 o2] 47)
 exact bodyPost_ret (v:=.agg #[.int .i64 o1,.int .i64 o2]) (by simp [results,Tryz.results33,go_sem,q.1,q.2]) rfl ⟨rfl,(((HB1.out.setCell (by simp) _).setCell (by simp) _).alloc (by simp;omega) _).alloc (by simp;omega) _⟩

open Go.RowKit
set_option linter.unusedVariables false
theorem look0 (n:ByteArray) (hn:n.size≤maxLen) (w:World):(Instr.lookup 70 (.map none) (.string n) true).run Tryz.prog w = .ok (.tuple #[zWE,.bool false]) w∧(Instr.lookup 70 (.map none) (.string n) false).run Tryz.prog w = .ok zWE w:=by
 have hx:keyOf Tryz.prog 9 (.string n)=some (.string n.data.toList):=WideMaps.keyOf_string_mk Tryz.underlying9 hn
 have hz:=zeroWE w
 rcases (strLaw).find w hx [] (by simp) with ⟨h1,_⟩ | ⟨j,e,_,h2,_⟩
 ·constructor<;>simp [Instr.lookup,run_underlying Tryz.underlying70,hz,Result.andThen,(strLaw).check w _ hx,h1]
 ·simp at h2
theorem implKnown0 (n:ByteArray) (hn:n.size≤maxLen) (w:World) :
  Calls Tryz.prog 71 #[.agg #[.slice none 0 0,.map none],.string n] w fun e w'=>e = .returned (.bool false)∧Below w.heap.size w w':=by
 have h2:=fun w=>(look0 n hn w).1
 unfold zWE at h2
 go_enter Tryz.func71,Tryz.ntmps71
 go_wp2
 go_ret
 exact⟨rfl,below_al2 _ _ _⟩
set_option maxRecDepth 100000 in
set_option maxHeartbeats 1000000 in
theorem implWayUp0 (n:ByteArray) (hn:n.size≤maxLen) (w:World) :
  Calls Tryz.prog 83 #[.agg #[.slice none 0 0,.map none],.string n] w fun e w'=>e = .returned (.slice none 0 0)∧Below w.heap.size w w':=by
 have HK:Hid (∀ w,Calls Tryz.prog 71 #[.agg #[.slice none 0 0,.map none],.string n] w fun e w'=>e = .returned (.bool false)∧Below w.heap.size w w'):=fun w=>implKnown0 n hn w
 go_enter Tryz.func83,Tryz.ntmps83
 go_wp2_with fail
 go_step3
 go_wp2_with fail
 go_step3
 go_wp2_with fail
 have x0:(w.alloc (.cells #[.slice none 0 0,.map none] 72)).cell? ⟨w.heap.size,0,none⟩=some (.slice none 0 0):=by simp [go_sem]
 have x1:(w.alloc (.cells #[.slice none 0 0,.map none] 72)).cell? ⟨w.heap.size,1,none⟩=some (.map none):=by simp [go_sem]
 have HBW:Hid (Below w.heap.size w (w.alloc (.cells #[.slice none 0 0,.map none] 72))):=below_al _ _
 generalize w.alloc (.cells #[.slice none 0 0,.map none] 72)=W at *
 go_loopw [1,5] (fun j1 j5 wr=>j1 = .string n∧j5 = .slice none 0 0∧wr=W) (fun _ _ _=>0)
 case atStart=>exact⟨rfl,rfl,rfl⟩
 case round =>
  obtain ⟨rfl,rfl,rfl⟩:=hrel
  go_wp2_with fail
  refine Calls.mono (HK.out _) ?_
  rintro e w1 ⟨rfl,hb1⟩
  have HB1:Hid (Below w.heap.size w w1):=HBW.out.trans (hb1.mono HBW.out.size)
  clear hb1
  go_wp2
  try rw [Exit.noGoto_ret]
  go_ret
  exact⟨rfl,HB1.out⟩
theorem implIsSub0 (a b:ByteArray) (ha:a.size≤maxLen) (w:World) :
  Calls Tryz.prog 55 #[.agg #[.slice none 0 0,.map none],.string a,.string b] w fun e w'=>e = .returned (.bool false)∧Below w.heap.size w w':=by
 have HW:Hid (∀ w,Calls Tryz.prog 83 #[.agg #[.slice none 0 0,.map none],.string a] w fun e w'=>e = .returned (.slice none 0 0)∧Below w.heap.size w w'):=fun w=>implWayUp0 a ha w
 go_enter Tryz.func55,Tryz.ntmps55
 go_wp2_with fail
 refine Calls.mono (HW.out _) ?_
 rintro e w1 ⟨rfl,hb1⟩
 have HB1:Hid (Below w.heap.size w w1):=(below_al _ _).trans (hb1.mono (by simp))
 clear hb1
 go_wp2_with fail
 go_loopw [13] (fun j13 wr=>j13 = .int .i64 0∧wr=w1) (fun _ _=>0)
 case atStart=>exact⟨rfl,rfl⟩
 case round =>
  obtain ⟨rfl,rfl⟩:=hrel
  go_wp2
  go_ret
  exact⟨rfl,HB1.out⟩
theorem implMake2 (L:List CTup) (v:Value) (w:World) (h:classR.slice.In w [v] L) (ht:Tab w) (hg:Glob w) :
  (rtB L=false∧Calls Tryz.prog 41 #[v] w fun e w'=>Below w.heap.size w w'∧e = .returned (.tuple #[.agg #[.slice none 0 0,.map none],.agg #[.int .i64 (wOut L).1,.int .i64 (wOut L).2]])) ∨
  (rtB L=true∧Right L∧Calls Tryz.prog 41 #[v] w fun e w'=>Below w.heap.size w w'∧∃ r E es ck,e = .returned (.tuple #[wdV v r,.agg #[.int .i64 (wOut L).1,.int .i64 (wOut L).2]])∧WmIs w' r E es ck∧E.map WE.c=allC L):=by
 cases hr:rtB L with
 | false =>
  refine .inl ⟨rfl,Calls.mono (implMakeWorld L v w h ht hg) ?_⟩
  rintro e w' ⟨h1,wv,rfl,h2,_⟩
  have:(wOut L).2 ≠ 0:=by unfold rtB at hr;simpa using hr
  rw [h2 this]
  exact⟨h1,rfl⟩
 | true =>
  refine .inr ⟨rfl,rt_right hr,Calls.mono (implMakeWorld L v w h ht hg) ?_⟩
  rintro e w' ⟨h1,wv,rfl,_,h3⟩
  have:(wOut L).2=0:=by unfold rtB at hr;simpa using hr
  obtain ⟨r,E,es,ck,rfl,h4,h5,_⟩:=h3 this
  exact⟨h1,r,E,es,ck,rfl,h4,h5⟩
theorem sub_eq {L:List CTup} {E:List WE} (hR:Right L) (h:E.map WE.c=allC L) (a b:ByteArray):subB E a b=sbC L a b:=by
 unfold subB sbC
 rw [← wyE hR.acy h a,List.any_map]
 rfl
theorem all_len' {E:List WE} {L:List CTup} (h:E.map WE.c=allC L) (hR:Right L):E.length≤100:=all_len h hR.1
set_option maxRecDepth 100000 in
set_option maxHeartbeats 1000000 in
theorem implKnownOf (L:List CTup) (v:Value) (n:ByteArray) (w:World) (h:classR.slice.In w [v] L) (ht:Tab w) (hg:Glob w) (hn:n.size≤maxLen) :
  Calls Tryz.prog 36 #[v,.string n] w fun e w'=>e = .returned (.bool (knV L n))∧Below w.heap.size w w':=by
 obtain ⟨va,vcap,rfl,_⟩:=slice_open (by decide) h
 unfold knV
 rcases implMake2 L _ w h ht hg with ⟨hr,hm⟩ | ⟨hr,hR,hm⟩
 ·rw [hr]
  have HM:=(show Hid _ from hm)
  clear hm hr h ht hg
  generalize (wOut L).1=o1 at *
  generalize (wOut L).2=o2 at *
  go_enter Tryz.func36,Tryz.ntmps36
  go_wp2_with fail
  refine Calls.mono HM.out ?_
  rintro e w1 ⟨hb1,rfl⟩
  have HB1:Hid (Below w.heap.size w w1):=hb1
  clear hb1
  go_wp2_with fail
  refine Calls.mono (implKnown0 n hn _) ?_
  rintro e w2 ⟨rfl,hb2⟩
  have HB2:Hid (Below w.heap.size w w2):=((HB1.out.alloc HB1.out.size _).alloc (by have:=HB1.out.size;simp;omega) _).trans (hb2.mono (by have:=HB1.out.size;simp;omega))
  clear hb2
  go_wp2
  go_ret
  exact⟨rfl,HB2.out⟩
 ·rw [hr]
  have HM:=(show Hid _ from hm)
  clear hm hr h ht hg
  generalize (wOut L).1=o1 at *
  generalize (wOut L).2=o2 at *
  go_enter Tryz.func36,Tryz.ntmps36
  go_wp2_with fail
  refine Calls.mono HM.out ?_
  rintro e w1 ⟨hb1,r,E,es,ck,rfl,hwm,hE⟩
  have HB1:Hid (Below w.heap.size w w1):=hb1
  have HK:Hid (∀ w',Below w1.heap.size w1 w'→Calls Tryz.prog 71 #[.agg #[.slice va L.length vcap,.map (some r)],.string n] w' fun e w2=>e = .returned (.bool (knB L n))∧Below w'.heap.size w' w2):=fun w' hb=>by
   have:=implKnown (.slice va L.length vcap) r E es ck n w' (hwm.below hb) hn ⟨_,_,_,rfl⟩
   rw [isSomeE,hE] at this
   exact this
  clear hb1 hwm hE
  obtain ⟨q,hq⟩:∃ q,knB L n=q:=⟨_,rfl⟩
  have HQ:Hid (knB L n=q):=hq
  rw [hq] at HK
  clear hq
  unfold wdV
  go_wp2_with fail
  refine Calls.mono (HK.out _ (below_al2 _ _ _)) ?_
  rintro e w2 ⟨rfl,hb2⟩
  have HB2:Hid (Below w.heap.size w w2):=((HB1.out.alloc HB1.out.size _).alloc (by have:=HB1.out.size;simp;omega) _).trans (hb2.mono (by have:=HB1.out.size;simp;omega))
  clear hb2
  go_wp2
  go_ret
  exact⟨rB (show q=(true && knB L n) from by rw [HQ.out];rfl),HB2.out⟩
set_option maxRecDepth 100000 in
set_option maxHeartbeats 1000000 in
theorem implSuperOf (L:List CTup) (v:Value) (n:ByteArray) (w:World) (h:classR.slice.In w [v] L) (ht:Tab w) (hg:Glob w) (hn:n.size≤maxLen) :
  Calls Tryz.prog 35 #[v,.string n] w fun e w'=>e = .returned (.string (spV L n))∧Below w.heap.size w w':=by
 obtain ⟨va,vcap,rfl,_⟩:=slice_open (by decide) h
 unfold spV
 rcases implMake2 L _ w h ht hg with ⟨hr,hm⟩ | ⟨hr,hR,hm⟩
 ·rw [hr]
  have HM:=(show Hid _ from hm)
  clear hm hr h ht hg
  generalize (wOut L).1=o1 at *
  generalize (wOut L).2=o2 at *
  have hlk:=fun w=>(look0 n hn w).2
  unfold zWE at hlk
  have f0:=fieldWE0
  have f1:=fieldCl1
  go_enter Tryz.func35,Tryz.ntmps35
  go_wp2_with fail
  refine Calls.mono HM.out ?_
  rintro e w1 ⟨hb1,rfl⟩
  have HB1:Hid (Below w.heap.size w w1):=hb1
  clear hb1
  go_wp2_with fail
  refine Calls.mono (libClone _ _ (by decide)) ?_
  rintro e w2 ⟨rfl,hb2⟩
  have HB2:Hid (Below w.heap.size w w2):=((HB1.out.alloc HB1.out.size _).alloc (by have:=HB1.out.size;simp;omega) _).trans (hb2.mono (by have:=HB1.out.size;simp;omega))
  clear hb2
  go_wp2
  go_ret
  exact⟨rfl,HB2.out⟩
 ·rw [hr]
  have HM:=(show Hid _ from hm)
  clear hm hr h ht hg
  generalize (wOut L).1=o1 at *
  generalize (wOut L).2=o2 at *
  have f0:=fieldWE0
  have f1:=fieldCl1
  go_enter Tryz.func35,Tryz.ntmps35
  go_wp2_with fail
  refine Calls.mono HM.out ?_
  rintro e w1 ⟨hb1,r,E,es,ck,rfl,hwm,hE⟩
  have HB1:Hid (Below w.heap.size w w1):=hb1
  have hsp:=lkE E n
  rw [hE] at hsp
  have HRT:=(show Hid (Right L∧E.map WE.c=allC L) from ⟨hR,hE⟩)
  rcases hwm.look n hn with ⟨e1,_⟩ | ⟨x,hx,e0,e1,_⟩
  ·have HV:Hid (spS L n=⟨#[]⟩):=by show _=_;unfold spS;rw [← hsp,e1];rfl
   have HL:=(show Hid (∀ w',Below w1.heap.size w1 w'→(Instr.lookup 70 (.map (some r)) (.string n) false).run Tryz.prog w' = .ok zWE w') from fun w' hb=>by
    rcases (hwm.below hb).look n hn with ⟨_,_,k,_⟩ | ⟨x,_,_,k,_⟩
    ·exact k
    ·rw [e1] at k;cases k)
   unfold zWE at HL
   have hlk:=fun o1 o2=>HL.out _ (below_al2 w1 o1 o2)
   clear hb1 hwm hE hsp e1 HL
   unfold wdV
   go_wp2_with fail
   refine Calls.mono (libClone _ _ (by decide)) ?_
   rintro e w2 ⟨rfl,hb2⟩
   have HB2:Hid (Below w.heap.size w w2):=((HB1.out.alloc HB1.out.size _).alloc (by have:=HB1.out.size;simp;omega) _).trans (hb2.mono (by have:=HB1.out.size;simp;omega))
   clear hb2
   go_wp2
   go_ret
   exact⟨rS (show _=spS L n from HV.out.symm),HB2.out⟩
  ·have HV:Hid (spS L n=suC x.c):=by show _=_;unfold spS;rw [← hsp,e1];rfl
   have hsz:(suC x.c).size≤281474976710656:=by
    have hc:x.c ∈ allC L:=by rw [← hE];exact List.mem_map.2 ⟨x,hx,rfl⟩
    rcases su_known hR hc with k | k
    ·rw [k];decide
    ·have:=(kn_size hR k).1;omega
   have HL:=(show Hid (∀ w',Below w1.heap.size w1 w'→(Instr.lookup 70 (.map (some r)) (.string n) false).run Tryz.prog w' = .ok (weV x) w') from fun w' hb=>by
    rcases (hwm.below hb).look n hn with ⟨k,_⟩ | ⟨y,_,_,k,_,k2⟩
    ·rw [e1] at k;cases k
    ·rw [e1] at k;cases k;exact k2)
   unfold weV at HL
   have hlk:=fun o1 o2=>HL.out _ (below_al2 w1 o1 o2)
   clear hb1 hwm hE hsp e1 HL e0
   unfold wdV
   go_wp2_with fail
   refine Calls.mono (libClone _ _ hsz) ?_
   rintro e w2 ⟨rfl,hb2⟩
   have HB2:Hid (Below w.heap.size w w2):=((HB1.out.alloc HB1.out.size _).alloc (by have:=HB1.out.size;simp;omega) _).trans (hb2.mono (by have:=HB1.out.size;simp;omega))
   clear hb2
   go_wp2
   go_ret
   exact⟨rS (show _=spS L n from HV.out.symm),HB2.out⟩
set_option maxRecDepth 100000 in
set_option maxHeartbeats 1000000 in
theorem implIsSubOf (L:List CTup) (v:Value) (a b:ByteArray) (w:World) (h:classR.slice.In w [v] L) (ht:Tab w) (hg:Glob w) (ha:a.size≤maxLen) :
  Calls Tryz.prog 24 #[v,.string a,.string b] w fun e w'=>e = .returned (.bool (isV L a b))∧Below w.heap.size w w':=by
 obtain ⟨va,vcap,rfl,_⟩:=slice_open (by decide) h
 unfold isV
 rcases implMake2 L _ w h ht hg with ⟨hr,hm⟩ | ⟨hr,hR,hm⟩
 ·rw [hr]
  have HM:=(show Hid _ from hm)
  clear hm hr h ht hg
  generalize (wOut L).1=o1 at *
  generalize (wOut L).2=o2 at *
  go_enter Tryz.func24,Tryz.ntmps24
  go_wp2_with fail
  refine Calls.mono HM.out ?_
  rintro e w1 ⟨hb1,rfl⟩
  have HB1:Hid (Below w.heap.size w w1):=hb1
  clear hb1
  go_wp2_with fail
  refine Calls.mono (implIsSub0 a b ha _) ?_
  rintro e w2 ⟨rfl,hb2⟩
  have HB2:Hid (Below w.heap.size w w2):=((HB1.out.alloc HB1.out.size _).alloc (by have:=HB1.out.size;simp;omega) _).trans (hb2.mono (by have:=HB1.out.size;simp;omega))
  clear hb2
  go_wp2
  go_ret
  exact⟨rfl,HB2.out⟩
 ·rw [hr]
  have HM:=(show Hid _ from hm)
  clear hm hr h ht hg
  generalize (wOut L).1=o1 at *
  generalize (wOut L).2=o2 at *
  go_enter Tryz.func24,Tryz.ntmps24
  go_wp2_with fail
  refine Calls.mono HM.out ?_
  rintro e w1 ⟨hb1,r,E,es,ck,rfl,hwm,hE⟩
  have HB1:Hid (Below w.heap.size w w1):=hb1
  have HK:Hid (∀ w',Below w1.heap.size w1 w'→Calls Tryz.prog 55 #[.agg #[.slice va L.length vcap,.map (some r)],.string a,.string b] w' fun e w2=>e = .returned (.bool (sbC L a b))∧Below w'.heap.size w' w2):=fun w' hb=>by
   have:=implIsSubW (.slice va L.length vcap) r E es ck a b w' (hwm.below hb) ⟨_,_,_,rfl⟩ (all_len' hE hR) ha
   rw [sub_eq hR hE] at this
   exact this
  clear hb1 hwm hE
  obtain ⟨q,hq⟩:∃ q,sbC L a b=q:=⟨_,rfl⟩
  have HQ:Hid (sbC L a b=q):=hq
  rw [hq] at HK
  clear hq
  unfold wdV
  go_wp2_with fail
  refine Calls.mono (HK.out _ (below_al2 _ _ _)) ?_
  rintro e w2 ⟨rfl,hb2⟩
  have HB2:Hid (Below w.heap.size w w2):=((HB1.out.alloc HB1.out.size _).alloc (by have:=HB1.out.size;simp;omega) _).trans (hb2.mono (by have:=HB1.out.size;simp;omega))
  clear hb2
  go_wp2
  go_ret
  exact⟨rB (show q=(true && sbC L a b) from by rw [HQ.out];rfl),HB2.out⟩
end
section
open Go.RowKit
set_option maxRecDepth 20000
set_option linter.unusedVariables false
theorem sb_iff {L:List CTup} {a b:ByteArray}:sbC L a b=true ↔ b ∈ (CH nmC suC (allC L) a).map nmC:=by
 unfold sbC
 simp only [List.any_eq_true,decide_eq_true_eq,List.mem_map]
theorem suf_at {L:List CTup} (hA:AcyG nmC suC (allC L)) {c:CTup} {post:List CTup}:∀ (pre:List CTup) (a:ByteArray),CH nmC suC (allC L) a=pre ++ c :: post→CH nmC suC (allC L) (nmC c)=c :: post:=by
 intro pre
 induction pre with
 | nil =>
  intro a h
  cases e:lkG nmC (allC L) a with
  | none=>rw [CH_none e] at h;cases h
  | some x =>
   have h2:=hA.CH_some e
   rw [h] at h2
   have hx:c=x:=by simpa using (List.cons.inj h2).1
   subst hx
   rw [(lkG_some e).2,h]
   rfl
 | cons p pre ih =>
  intro a h
  cases e:lkG nmC (allC L) a with
  | none=>rw [CH_none e] at h;cases h
  | some x =>
   have h2:=hA.CH_some e
   rw [h] at h2
   exact ih _ (List.cons.inj h2).2.symm
theorem sb_anti {L:List CTup} (hA:AcyG nmC suC (allC L)) {x y:ByteArray} (h1:sbC L x y=true) (h2:sbC L y x=true):x=y:=by
 rw [sb_iff,List.mem_map] at h1 h2
 obtain ⟨c,hc,rfl⟩:=h1
 obtain ⟨d,hd,rfl⟩:=h2
 obtain ⟨p1,q1,e1⟩:=List.append_of_mem hc
 obtain ⟨p2,q2,e2⟩:=List.append_of_mem hd
 have f1:=suf_at hA p1 _ e1
 have f2:=suf_at hA p2 _ e2
 have l1:=congrArg List.length e1
 have l2:=congrArg List.length e2
 rw [f2] at l1
 rw [f1] at l2
 simp only [List.length_cons,List.length_append] at l1 l2
 have hp:p1=[]:=List.eq_nil_of_length_eq_zero (by omega)
 subst hp
 rw [List.nil_append,f2] at e1
 rw [(List.cons.inj e1).1]
end
section
open Go.RowKit
set_option maxRecDepth 20000
set_option linter.unusedVariables false
theorem ch_step {L:List CTup} (hA:AcyG nmC suC (allC L)) {a:ByteArray} (hk:knB L a=true):∃ c,c ∈ allC L∧nmC c=a∧spS L a=suC c∧CH nmC suC (allC L) a=c :: CH nmC suC (allC L) (suC c):=by
 rcases kn_alt L a with ⟨k,_⟩ | ⟨c,_,h1,h2,h3,h4⟩
 ·rw [k] at hk;cases hk
 ·exact⟨c,h1,h2,h4,hA.CH_some h3⟩
theorem no_super {L:List CTup} (hR:Right L) {c:CTup} (hc:c ∈ allC L) (h:suC c=tE):nmC c=objN:=by
 rcases List.mem_append.1 hc with k | k
 ·have:∀ b ∈ biC,suC b=tE→nmC b=objN:=by decide
  exact this c k h
 ·obtain ⟨i,hi,rfl⟩:=List.mem_iff_getElem.1 k
  have:=hR.2 1 (by omega) i hi
  rw [cdP1 hi] at this
  unfold cd1 at this
  rw [h] at this
  cases e:lkG nmC (allC L) tE with
  | none=>rw [e] at this;cases this
  | some d =>
   have hk:knB L tE=true:=by unfold knB;rw [e];rfl
   exact absurd rfl (kn_size hR hk).2
theorem st_obj {L:List CTup} (hR:Right L):∀ (n:Nat) (a:ByteArray),(CH nmC suC (allC L) a).length≤n→knB L a=true→sbC L a objN=true:=by
 intro n
 induction n with
 | zero =>
  intro a hn hk
  obtain ⟨c,_,_,_,h⟩:=ch_step hR.acy hk
  rw [h] at hn
  simp at hn
 | succ n ih =>
  intro a hn hk
  obtain ⟨c,hc,ha,_,h⟩:=ch_step hR.acy hk
  rw [sb_iff,h]
  rcases su_known hR hc with e | e
  ·rw [List.map_cons,no_super hR hc e]
   exact List.mem_cons_self
  ·have:=ih (suC c) (by rw [h] at hn;simp at hn;omega) e
   rw [sb_iff] at this
   exact List.mem_cons_of_mem _ this
theorem kn_in {L:List CTup} {a b:ByteArray} (h:sbC L a b=true):knB L b=true:=by
 obtain ⟨c,hc,rfl⟩:=List.mem_map.1 (sb_iff.1 h)
 have:=CH_sub c hc
 unfold knB
 cases e:lkG nmC (allC L) (nmC c) with
 | none=>exact absurd rfl (lkG_none.1 e c this)
 | some d=>rfl
theorem sb_unknown {L:List CTup} {a b:ByteArray} (h:knB L a=false):sbC L a b=false:=by
 unfold sbC
 rw [CH_unknown h]
 rfl
theorem sb_known {L:List CTup} {a b:ByteArray} (h:knB L b=false):sbC L a b=false:=by
 cases e:sbC L a b with
 | false=>rfl
 | true=>rw [kn_in e] at h;cases h
theorem stands {L:List CTup} (hR:Right L) {a:ByteArray} (ha:knB L a=true):sbC L a a=true∧sbC L a objN=true∧(spS L a=tE→a=objN)∧(spS L a ≠ tE→(spS L a).size≤20∧sbC L a (spS L a)=true∧sbC L (spS L a) a=false∧∀ b,sbC L a b=true→a ≠ b→sbC L (spS L a) b=true∧sbC L b a=false):=by
 obtain ⟨c,hc,hn,hs,h⟩:=ch_step hR.acy ha
 have haa:sbC L a a=true:=by rw [sb_iff,h,List.map_cons,hn];exact List.mem_cons_self
 refine ⟨haa,st_obj hR _ a (Nat.le_refl _) ha,fun e=>?_,fun e=>?_⟩
 ·rw [← hn]
  exact no_super hR hc (hs.symm.trans e)
 ·rw [hs] at e ⊢
  have hk:knB L (suC c)=true:=(su_known hR hc).resolve_left e
  obtain ⟨d,hd,hdn,_,h2⟩:=ch_step hR.acy hk
  have hup:sbC L a (suC c)=true:=by
   rw [sb_iff,h,h2]
   simp [hdn]
  have hne:a ≠ suC c:=fun e2=>by
   have hl:=congrArg List.length h
   rw [← e2] at hl
   simp at hl
  refine ⟨(kn_size hR hk).1,hup,?_,fun b hb hab=>⟨?_,?_⟩⟩
  ·cases e2:sbC L (suC c) a with
   | false=>rfl
   | true=>exact absurd (sb_anti hR.acy hup e2) hne
  ·rw [sb_iff,h,List.map_cons,hn] at hb
   rcases List.mem_cons.1 hb with hb | hb
   ·exact absurd hb.symm hab
   ·exact sb_iff.2 hb
  ·cases e2:sbC L b a with
   | false=>rfl
   | true=>exact absurd (sb_anti hR.acy hb e2) hab
end
end Go.Proofs.YtmhgaggpdggbeaaGreatDoor
