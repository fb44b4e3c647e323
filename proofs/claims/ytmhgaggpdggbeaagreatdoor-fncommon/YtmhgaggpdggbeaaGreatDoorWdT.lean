import Derived.Test.YtmhgaggpdggbeaaGreatDoorWd4
import Derived.Test.YtmhgaggpdggbeaaGreatDoorWd5
namespace Go.Proofs.YtmhgaggpdggbeaaGreatDoor
open Go.RowKit
set_option maxRecDepth 20000
set_option linter.unusedVariables false
theorem specWorldCheck (L:List CTup) (v:Value) (w:World) (h:classR.slice.In w [v] L) :
  Calls Tryz.prog 28 #[v] w fun e w'=>e = .returned (.agg #[.int .i64 (wOut L).1,.int .i64 (wOut L).2])∧Below w.heap.size w w' :=
 specWorldCheckIf L v w h fun hp c vc vh w' hc hb h3 h4=>specAccess L v c vc vh w' hp hc (classR.slice.mono _ _ _ _ hb h) h3 h4
end Go.Proofs.YtmhgaggpdggbeaaGreatDoor

namespace Go.Proofs.YtmhgaggpdggbeaaGreatDoor
open Go.RowKit
set_option linter.unusedVariables false

noncomputable def rtB (L:List CTup):Bool:=decide ((wOut L).2=0)
theorem rt_right {L:List CTup} (h:rtB L=true):Right L:=by
 unfold rtB at h
 simp only [decide_eq_true_eq] at h
 rcases right_code L with ⟨k,_⟩ | ⟨_,k⟩
 ·exact k
 ·exact absurd h k
theorem nameB_le' {n:ByteArray} (h:nameB n=true):n.size≤20:=by
 unfold nameB at h
 simp only [decide_eq_true_eq] at h
 omega
theorem Right.part {L:List CTup} (h:Right L):Part L L.length:=h.2.part (by omega)
theorem Right.acy {L:List CTup} (h:Right L):AcyG nmC suC (allC L):=Past.acy fun q hq=>h.2 q (by omega)
theorem kn_size {L:List CTup} (h:Right L) {n:ByteArray} (hk:knB L n=true):n.size≤20∧n ≠ tE:=by
 unfold knB at hk
 rw [Option.isSome_iff_exists] at hk
 obtain ⟨c,hc⟩:=hk
 obtain ⟨h1,rfl⟩:=lkG_some hc
 rcases List.mem_append.1 h1 with k | k
 ·have:∀ b ∈ biC,(nmC b).size≤20∧nmC b ≠ tE:=by decide
  exact this c k
 ·obtain ⟨i,hi,rfl⟩:=List.mem_iff_getElem.1 k
  exact⟨nameB_le' (h.part.ok i hi hi).n,nameB_ne (h.part.ok i hi hi).n⟩
theorem su_known {L:List CTup} (h:Right L) {c:CTup} (hc:c ∈ allC L):suC c=tE ∨ knB L (suC c)=true:=by
 rcases List.mem_append.1 hc with k | k
 ·have hb:∀ b ∈ biC,suC b=tE ∨ (lkG nmC biC (suC b)).isSome=true:=by decide
  rcases hb c k with q | q
  ·exact .inl q
  ·right
   unfold knB
   rw [lk_all]
   cases e:lkG nmC biC (suC c) with
   | none=>rw [e] at q;cases q
   | some d=>rfl
 ·obtain ⟨i,hi,rfl⟩:=List.mem_iff_getElem.1 k
  right
  have:=h.2 1 (by omega) i hi
  rw [cdP1 hi] at this
  unfold cd1 at this
  unfold knB
  cases e:lkG nmC (allC L) (suC L[i]) with
  | none=>rw [e] at this;cases this
  | some d=>rfl
def sbC (L:List CTup) (a b:ByteArray):Bool:=(CH nmC suC (allC L) a).any fun c=>decide (nmC c=b)
def comL (L:List CTup) (b:ByteArray):List CTup→ByteArray
 | []=>tE
 | c :: t=>if sbC L b (nmC c) then nmC c else comL L b t
theorem kn_alt (L:List CTup) (n:ByteArray):(knB L n=false∧lkG nmC (allC L) n=none∧spS L n=tE∧CH nmC suC (allC L) n=[]) ∨ ∃ c,knB L n=true∧c ∈ allC L∧nmC c=n∧lkG nmC (allC L) n=some c∧spS L n=suC c:=by
 unfold knB spS
 cases e:lkG nmC (allC L) n with
 | none=>exact .inl ⟨rfl,rfl,rfl,CH_none e⟩
 | some c=>exact .inr ⟨c,rfl,(lkG_some e).1,(lkG_some e).2,rfl,rfl⟩
theorem sb_kn {L:List CTup} {a b:ByteArray} (h:sbC L a b=true):knB L a=true∧knB L b=true:=by
 unfold sbC at h
 obtain ⟨c,hc,e⟩:=List.any_eq_true.1 h
 simp only [decide_eq_true_eq] at e
 constructor
 ·rcases kn_alt L a with ⟨_,_,_,k⟩ | ⟨_,k,_⟩
  ·rw [k] at hc;cases hc
  ·exact k
 ·rcases kn_alt L b with ⟨_,k,_⟩ | ⟨_,k,_⟩
  ·exact absurd e (lkG_none.1 k c (CH_sub c hc))
  ·exact k
theorem com_none {L:List CTup} {b:ByteArray} (hb:knB L b=false) (W:List CTup):comL L b W=tE:=by
 induction W with
 | nil=>rfl
 | cons c t ih =>
  unfold comL
  cases e:sbC L b (nmC c) with
  | true=>rw [(sb_kn e).1] at hb;cases hb
  | false=>exact ih
noncomputable def knV (L:List CTup) (n:ByteArray):Bool:=rtB L && knB L n
noncomputable def spV (L:List CTup) (n:ByteArray):ByteArray:=if rtB L then spS L n else tE
noncomputable def isV (L:List CTup) (a b:ByteArray):Bool:=rtB L && sbC L a b
noncomputable def cmV (L:List CTup) (a b:ByteArray):ByteArray:=if rtB L then comL L b (CH nmC suC (allC L) a) else tE
theorem fieldWO1 (a b:Value) (w:World):(Instr.field 47 (.agg #[a,b]) 1).run Tryz.prog w = .ok b w:=by kernel_rfl
set_option maxRecDepth 100000 in
set_option maxHeartbeats 1000000 in
theorem specRight (L:List CTup) (v:Value) (w:World) (h:classR.slice.In w [v] L) :
  Calls Tryz.prog 38 #[v] w fun e w'=>e = .returned (.bool (rtB L))∧Below w.heap.size w w':=by
 have HC:Hid (Calls Tryz.prog 28 #[v] w fun e w'=>e = .returned (.agg #[.int .i64 (wOut L).1,.int .i64 (wOut L).2])∧Below w.heap.size w w'):=specWorldCheck L v w h
 obtain ⟨a,cap,rfl,_⟩:=slice_open (by decide) h
 unfold rtB
 have f1:=fieldWO1
 generalize (wOut L).1=o1 at *
 generalize (wOut L).2=o2 at *
 clear h
 by_cases e:o2=0
 ·subst e
  go_enter Tryz.func38,Tryz.ntmps38
  go_wp2_with fail
  refine Calls.mono HC.out ?_
  rintro e w1 ⟨rfl,hb1⟩
  go_wp2
  go_ret
  exact⟨rfl,hb1⟩
 ·have d:(o2 == 0)=false:=by simpa using e
  have d2:decide (o2=0)=false:=by simpa using e
  rw [d2]
  go_enter Tryz.func38,Tryz.ntmps38
  go_wp2_with fail
  refine Calls.mono HC.out ?_
  rintro e w1 ⟨rfl,hb1⟩
  go_wp2
  go_ret
  exact⟨rfl,hb1⟩
set_option maxRecDepth 100000 in
set_option maxHeartbeats 1000000 in
theorem specSub (L:List CTup) (v:Value) (a b:ByteArray) (w:World) (h:classR.slice.In w [v] L) (hR:Right L) (hb:knB L b=true) :
  Calls Tryz.prog 70 #[v,.string a,.string b] w fun e w'=>e = .returned (.bool (sbC L a b))∧Below w.heap.size w w':=by
 have HSu:Hid (∀ w' n,Below w.heap.size w w'→Calls Tryz.prog 69 #[v,.string n] w' fun e w2=>e = .returned (.string (spS L n))∧Below w'.heap.size w' w2):=fun w' n hb=>specSuper L v n w' (classR.slice.mono _ _ _ _ hb h)
 have hA:=hR.acy
 have HSt:Hid (∀ n,n ≠ tE→n ≠ b→sbC L n b=sbC L (spS L n) b∧(CH nmC suC (allC L) (spS L n)).length+(if spS L n=tE then 0 else 1)<(CH nmC suC (allC L) n).length+1):=fun n h0 h1=>by
  rcases kn_alt L n with ⟨_,_,k1,k2⟩ | ⟨c,_,hc,rfl,k1,k2⟩
  ·rw [k1,k2]
   have ht:CH nmC suC (allC L) tE=[]:=by
    rcases kn_alt L tE with ⟨_,_,_,k⟩ | ⟨c,k,_⟩
    ·exact k
    ·exact absurd rfl (kn_size hR k).2
   unfold sbC
   rw [k2,ht]
   exact⟨rfl,by simp⟩
  ·rw [k2]
   have e:=hA.CH_some k1
   unfold sbC
   rw [e]
   refine ⟨by simp [h1],?_⟩
   simp only [List.length_cons]
   split<;>omega
 have HYes:Hid (sbC L b b=true):=by
  show _=_
  rcases kn_alt L b with ⟨k,_⟩ | ⟨c,_,hc,rfl,k1,k2⟩
  ·rw [k] at hb;cases hb
  ·unfold sbC
   rw [hA.CH_some k1]
   simp
 have HNo:Hid (sbC L tE b=false):=by
  show _=_
  rcases kn_alt L tE with ⟨_,_,_,k⟩ | ⟨c,k,_⟩
  ·unfold sbC;rw [k];rfl
  ·exact absurd rfl (kn_size hR k).2
 obtain ⟨la,lcap,rfl,_⟩:=slice_open (by decide) h
 generalize hf:(fun n=>(CH nmC suC (allC L) n).length)=f at *
 have hf':∀ n,(CH nmC suC (allC L) n).length=f n:=fun n=>by rw [← hf]
 simp only [hf'] at HSt
 clear h hA hf hf' hR hb
 generalize hres:sbC L a b=res at *
 have HRes:Hid (res=sbC L a b):=hres.symm
 clear hres
 go_enter Tryz.func70,Tryz.ntmps70
 go_wp2_with fail
 go_loopw [1] (fun j1 wr=>∃ n:ByteArray,j1 = .string n∧Below w.heap.size w wr∧res=sbC L n b) (fun j1 _=>match j1 with | .string n=>f n+(if n=tE then 0 else 1) | _=>0)
 case atStart=>exact⟨a,rfl,Below.refl _ _,HRes.out⟩
 case round =>
  obtain ⟨n,rfl,hbb,hr⟩:=hrel
  have HB:Hid (Below w.heap.size w wr):=hbb
  have HR:=(show Hid (res=sbC L n b) from hr)
  clear hbb hr
  by_cases h0:n=tE
  ·subst h0
   have HZ:Hid (false=res):=by show _=_;rw [HR.out,HNo.out]
   unfold tE
   go_wp2
   go_ret
   exact⟨rB HZ.out,HB.out⟩
  ·have d0:(n.toList == [])=false:=by
    rw [beq_eq_false_iff_ne,ByteArray.toList_eq]
    intro e
    exact h0 (WideShapes.bytes_inj (by rw [e];rfl))
   by_cases h1:n=b
   ·have HZ:Hid (true=res):=by show _=_;rw [HR.out,h1,HYes.out]
    have d1:=tx_eq h1
    clear HR h1
    go_wp2
    go_ret
    exact⟨rB HZ.out,HB.out⟩
   ·have d1:=tx_ne h1
    obtain ⟨s1,s2⟩:=HSt.out n h0 h1
    have HZ:=(show Hid (res=sbC L (spS L n) b) from by show _=_;rw [HR.out,s1])
    have HM:=(show Hid (f (spS L n)+(if spS L n=tE then 0 else 1)<f n+(if n=tE then 0 else 1)) from by show _<_;rw [if_neg h0];exact s2)
    clear s1 s2 HR
    go_wp2_with fail
    refine Calls.mono (HSu.out _ n HB.out) ?_
    rintro e w1 ⟨rfl,hb1⟩
    have HB1:Hid (Below w.heap.size w w1):=HB.out.trans (hb1.mono HB.out.size)
    clear hb1
    generalize spS L n=m at *
    go_wp2
    go_roundw
    case rel=>exact⟨m,rfl,HB1.out,HZ.out⟩
    case measure=>exact HM.out
end Go.Proofs.YtmhgaggpdggbeaaGreatDoor

namespace Go.Proofs.YtmhgaggpdggbeaaGreatDoor
open Go.RowKit
set_option linter.unusedVariables false

theorem kn_long {L:List CTup} {n:ByteArray} (h:20000<n.size) (hr:rtB L=true):knB L n=false:=by
 cases e:knB L n with
 | false=>rfl
 | true=>have:=(kn_size (rt_right hr) e).1;omega
theorem sp_long {L:List CTup} {n:ByteArray} (h:knB L n=false):spS L n=tE:=by
 rcases kn_alt L n with ⟨_,_,k,_⟩ | ⟨c,k,_⟩
 ·exact k
 ·rw [h] at k;cases k
theorem sb_long {L:List CTup} {a b:ByteArray} (h:knB L a=false ∨ knB L b=false):sbC L a b=false:=by
 cases e:sbC L a b with
 | false=>rfl
 | true =>
  obtain ⟨k1,k2⟩:=sb_kn e
  rcases h with h | h
  ·rw [h] at k1;cases k1
  ·rw [h] at k2;cases k2
theorem CH_unknown {L:List CTup} {a:ByteArray} (h:knB L a=false):CH nmC suC (allC L) a=[]:=by
 rcases kn_alt L a with ⟨_,_,_,k⟩ | ⟨c,k,_⟩
 ·exact k
 ·rw [h] at k;cases k
set_option maxRecDepth 100000 in
set_option maxHeartbeats 1000000 in
theorem specKnownOf (L:List CTup) (v:Value) (n:ByteArray) (w:World) (h:classR.slice.In w [v] L) (hn:n.size≤maxLen) :
  Calls Tryz.prog 34 #[v,.string n] w fun e w'=>e = .returned (.bool (knV L n))∧Below w.heap.size w w':=by
 have HRt:Hid (∀ w',Below w.heap.size w w'→Calls Tryz.prog 38 #[v] w' fun e w2=>e = .returned (.bool (rtB L))∧Below w'.heap.size w' w2):=fun w' hb=>specRight L v w' (classR.slice.mono _ _ _ _ hb h)
 have HKn:Hid (∀ w' n,Below w.heap.size w w'→Calls Tryz.prog 53 #[v,.string n] w' fun e w2=>e = .returned (.bool (knB L n))∧Below w'.heap.size w' w2):=fun w' n hb=>specKnown L v n w' (classR.slice.mono _ _ _ _ hb h)
 obtain ⟨va,vcap,rfl,_⟩:=slice_open (by decide) h
 unfold maxLen at hn
 clear h
 by_cases hz:20000<n.size
 ·have d0:decide ((n.size:Int)≤20000)=false:=by simp;omega
  have HZ:Hid (false=knV L n):=by
   show _=_
   unfold knV
   cases hr:rtB L with
   | false=>rfl
   | true=>rw [kn_long hz hr];rfl
  go_enter Tryz.func34,Tryz.ntmps34
  go_wp2
  go_ret
  exact⟨rB (HZ.out),Below.refl _ _⟩
 have d0:decide ((n.size:Int)≤20000)=true:=by simp;omega
 cases hr:rtB L with
 | false =>
  have HZ:Hid (false=knV L n):=by show _=_;unfold knV;rw [hr];rfl
  rw [hr] at HRt
  go_enter Tryz.func34,Tryz.ntmps34
  go_wp2_with fail
  refine Calls.mono (HRt.out _ (Below.refl _ _)) ?_
  rintro e w1 ⟨rfl,hb1⟩
  have HB1:Hid (Below w.heap.size w w1):=hb1
  clear hb1
  go_wp2
  go_ret
  exact⟨rB (HZ.out),HB1.out⟩
 | true =>
  have HZ:Hid (knB L n=knV L n):=by show _=_;unfold knV;rw [hr];rfl
  rw [hr] at HRt
  replace HKn:=(show Hid _ from fun w' hb=>HKn.out w' n hb)
  generalize hq:knB L n=q at *
  cases q
  ·go_enter Tryz.func34,Tryz.ntmps34
   go_wp2_with fail
   refine Calls.mono (HRt.out _ (Below.refl _ _)) ?_
   rintro e w1 ⟨rfl,hb1⟩
   have HB1:Hid (Below w.heap.size w w1):=hb1
   clear hb1
   go_wp2_with fail
   refine Calls.mono (HKn.out _ HB1.out) ?_
   rintro e w2 ⟨rfl,hb2⟩
   have HB2:Hid (Below w.heap.size w w2):=HB1.out.trans (hb2.mono HB1.out.size)
   clear hb2
   go_wp2
   go_ret
   exact⟨rB (HZ.out),HB2.out⟩
  ·go_enter Tryz.func34,Tryz.ntmps34
   go_wp2_with fail
   refine Calls.mono (HRt.out _ (Below.refl _ _)) ?_
   rintro e w1 ⟨rfl,hb1⟩
   have HB1:Hid (Below w.heap.size w w1):=hb1
   clear hb1
   go_wp2_with fail
   refine Calls.mono (HKn.out _ HB1.out) ?_
   rintro e w2 ⟨rfl,hb2⟩
   have HB2:Hid (Below w.heap.size w w2):=HB1.out.trans (hb2.mono HB1.out.size)
   clear hb2
   go_wp2
   go_ret
   exact⟨rB (HZ.out),HB2.out⟩
set_option maxRecDepth 100000 in
set_option maxHeartbeats 1000000 in
theorem specSuperOf (L:List CTup) (v:Value) (n:ByteArray) (w:World) (h:classR.slice.In w [v] L) (hn:n.size≤maxLen) :
  Calls Tryz.prog 30 #[v,.string n] w fun e w'=>e = .returned (.string (spV L n))∧Below w.heap.size w w':=by
 have HRt:Hid (∀ w',Below w.heap.size w w'→Calls Tryz.prog 38 #[v] w' fun e w2=>e = .returned (.bool (rtB L))∧Below w'.heap.size w' w2):=fun w' hb=>specRight L v w' (classR.slice.mono _ _ _ _ hb h)
 have HSu:Hid (∀ w',Below w.heap.size w w'→Calls Tryz.prog 69 #[v,.string n] w' fun e w2=>e = .returned (.string (spS L n))∧Below w'.heap.size w' w2):=fun w' hb=>specSuper L v n w' (classR.slice.mono _ _ _ _ hb h)
 obtain ⟨va,vcap,rfl,_⟩:=slice_open (by decide) h
 unfold maxLen at hn
 clear h
 by_cases hz:20000<n.size
 ·have d0:decide ((20000:Int)<(n.size:Int))=true:=by simp;omega
  have HZ:Hid (⟨#[]⟩=spV L n):=by
   show _=_
   unfold spV
   cases hr:rtB L with
   | false=>rfl
   | true=>rw [sp_long (kn_long hz hr)];rfl
  go_enter Tryz.func30,Tryz.ntmps30
  go_wp2
  go_ret
  exact⟨rS (HZ.out),Below.refl _ _⟩
 have d0:decide ((20000:Int)<(n.size:Int))=false:=by simp;omega
 cases hr:rtB L with
 | false =>
  have HZ:Hid (⟨#[]⟩=spV L n):=by show _=_;unfold spV;rw [hr];rfl
  rw [hr] at HRt
  go_enter Tryz.func30,Tryz.ntmps30
  go_wp2_with fail
  refine Calls.mono (HRt.out _ (Below.refl _ _)) ?_
  rintro e w1 ⟨rfl,hb1⟩
  have HB1:Hid (Below w.heap.size w w1):=hb1
  clear hb1
  go_wp2
  go_ret
  exact⟨rS (HZ.out),HB1.out⟩
 | true =>
  have HZ:Hid (spS L n=spV L n):=by show _=_;unfold spV;rw [hr];rfl
  rw [hr] at HRt
  generalize spS L n=sp at *
  go_enter Tryz.func30,Tryz.ntmps30
  go_wp2_with fail
  refine Calls.mono (HRt.out _ (Below.refl _ _)) ?_
  rintro e w1 ⟨rfl,hb1⟩
  have HB1:Hid (Below w.heap.size w w1):=hb1
  clear hb1
  go_wp2_with fail
  refine Calls.mono (HSu.out _ HB1.out) ?_
  rintro e w2 ⟨rfl,hb2⟩
  have HB2:Hid (Below w.heap.size w w2):=HB1.out.trans (hb2.mono HB1.out.size)
  clear hb2
  go_wp2
  go_ret
  exact⟨rS (HZ.out),HB2.out⟩
set_option maxRecDepth 100000 in
set_option maxHeartbeats 2000000 in
theorem specIsSubOf (L:List CTup) (v:Value) (a b:ByteArray) (w:World) (h:classR.slice.In w [v] L) (ha:a.size≤maxLen) (hb:b.size≤maxLen) :
  Calls Tryz.prog 32 #[v,.string a,.string b] w fun e w'=>e = .returned (.bool (isV L a b))∧Below w.heap.size w w':=by
 have HRt:Hid (∀ w',Below w.heap.size w w'→Calls Tryz.prog 38 #[v] w' fun e w2=>e = .returned (.bool (rtB L))∧Below w'.heap.size w' w2):=fun w' hb=>specRight L v w' (classR.slice.mono _ _ _ _ hb h)
 have HKn:Hid (∀ w' n,Below w.heap.size w w'→Calls Tryz.prog 53 #[v,.string n] w' fun e w2=>e = .returned (.bool (knB L n))∧Below w'.heap.size w' w2):=fun w' n hb=>specKnown L v n w' (classR.slice.mono _ _ _ _ hb h)
 have HSb:Hid (rtB L=true→knB L b=true→∀ w',Below w.heap.size w w'→Calls Tryz.prog 70 #[v,.string a,.string b] w' fun e w2=>e = .returned (.bool (sbC L a b))∧Below w'.heap.size w' w2):=fun hr hk w' hb=>specSub L v a b w' (classR.slice.mono _ _ _ _ hb h) (rt_right hr) hk
 have HL:Hid (rtB L=false ∨ (rtB L=true∧(20000<a.size ∨ 20000<b.size ∨ knB L a=false ∨ knB L b=false))→false=isV L a b):=fun k=>by
  unfold isV
  rcases k with k | ⟨k,q⟩
  ·rw [k];rfl
  ·rw [k,sb_long]
   ·rfl
   ·rcases q with q | q | q | q
    ·exact .inl (kn_long q k)
    ·exact .inr (kn_long q k)
    ·exact .inl q
    ·exact .inr q
 have HRr:Hid (rtB L=false ∨ rtB L=true):=by cases rtB L<;>simp [Hid]
 obtain ⟨va,vcap,rfl,_⟩:=slice_open (by decide) h
 unfold maxLen at ha hb
 clear h
 by_cases hza:20000<a.size
 ·have d0:decide ((a.size:Int)≤20000)=false:=by simp;omega
  have HZ:Hid (false=isV L a b):=by
   rcases HRr.out with k | k
   ·exact HL.out (.inl k)
   ·exact HL.out (.inr ⟨k,.inl hza⟩)
  go_enter Tryz.func32,Tryz.ntmps32
  go_wp2
  go_ret
  exact⟨rB (HZ.out),Below.refl _ _⟩
 have d0:decide ((a.size:Int)≤20000)=true:=by simp;omega
 by_cases hzb:20000<b.size
 ·have d1:decide ((b.size:Int)≤20000)=false:=by simp;omega
  have HZ:Hid (false=isV L a b):=by
   rcases HRr.out with k | k
   ·exact HL.out (.inl k)
   ·exact HL.out (.inr ⟨k,.inr (.inl hzb)⟩)
  go_enter Tryz.func32,Tryz.ntmps32
  go_wp2
  go_ret
  exact⟨rB (HZ.out),Below.refl _ _⟩
 have d1:decide ((b.size:Int)≤20000)=true:=by simp;omega
 rcases HRr.out with hr | hr
 ·have HZ:Hid (false=isV L a b):=HL.out (.inl hr)
  rw [hr] at HRt
  go_enter Tryz.func32,Tryz.ntmps32
  go_wp2_with fail
  refine Calls.mono (HRt.out _ (Below.refl _ _)) ?_
  rintro e w1 ⟨rfl,hb1⟩
  have HB1:Hid (Below w.heap.size w w1):=hb1
  clear hb1
  go_wp2
  go_ret
  exact⟨rB (HZ.out),HB1.out⟩
 have HKa:=(show Hid _ from fun w' hb=>HKn.out w' a hb)
 have HKb:=(show Hid _ from fun w' hb=>HKn.out w' b hb)
 rw [hr] at HRt
 cases hka:knB L a with
 | false =>
  have HZ:Hid (false=isV L a b):=HL.out (.inr ⟨hr,.inr (.inr (.inl hka))⟩)
  rw [hka] at HKa
  go_enter Tryz.func32,Tryz.ntmps32
  go_wp2_with fail
  refine Calls.mono (HRt.out _ (Below.refl _ _)) ?_
  rintro e w1 ⟨rfl,hb1⟩
  have HB1:Hid (Below w.heap.size w w1):=hb1
  clear hb1
  go_wp2_with fail
  refine Calls.mono (HKa.out _ HB1.out) ?_
  rintro e w2 ⟨rfl,hb2⟩
  have HB2:Hid (Below w.heap.size w w2):=HB1.out.trans (hb2.mono HB1.out.size)
  clear hb2
  go_wp2
  go_ret
  exact⟨rB (HZ.out),HB2.out⟩
 | true =>
  rw [hka] at HKa
  cases hkb:knB L b with
  | false =>
   have HZ:Hid (false=isV L a b):=HL.out (.inr ⟨hr,.inr (.inr (.inr hkb))⟩)
   rw [hkb] at HKb
   go_enter Tryz.func32,Tryz.ntmps32
   go_wp2_with fail
   refine Calls.mono (HRt.out _ (Below.refl _ _)) ?_
   rintro e w1 ⟨rfl,hb1⟩
   have HB1:Hid (Below w.heap.size w w1):=hb1
   clear hb1
   go_wp2_with fail
   refine Calls.mono (HKa.out _ HB1.out) ?_
   rintro e w2 ⟨rfl,hb2⟩
   have HB2:Hid (Below w.heap.size w w2):=HB1.out.trans (hb2.mono HB1.out.size)
   clear hb2
   go_wp2_with fail
   refine Calls.mono (HKb.out _ HB2.out) ?_
   rintro e w3 ⟨rfl,hb3⟩
   have HB3:Hid (Below w.heap.size w w3):=HB2.out.trans (hb3.mono HB2.out.size)
   clear hb3
   go_wp2
   go_ret
   exact⟨rB (HZ.out),HB3.out⟩
  | true =>
   rw [hkb] at HKb
   have HS1:=(show Hid _ from HSb.out hr hkb)
   have HZ:Hid (sbC L a b=isV L a b):=by show _=_;unfold isV;rw [hr];rfl
   generalize sbC L a b=q at *
   cases q
   ·go_enter Tryz.func32,Tryz.ntmps32
    go_wp2_with fail
    refine Calls.mono (HRt.out _ (Below.refl _ _)) ?_
    rintro e w1 ⟨rfl,hb1⟩
    have HB1:Hid (Below w.heap.size w w1):=hb1
    clear hb1
    go_wp2_with fail
    refine Calls.mono (HKa.out _ HB1.out) ?_
    rintro e w2 ⟨rfl,hb2⟩
    have HB2:Hid (Below w.heap.size w w2):=HB1.out.trans (hb2.mono HB1.out.size)
    clear hb2
    go_wp2_with fail
    refine Calls.mono (HKb.out _ HB2.out) ?_
    rintro e w3 ⟨rfl,hb3⟩
    have HB3:Hid (Below w.heap.size w w3):=HB2.out.trans (hb3.mono HB2.out.size)
    clear hb3
    go_wp2_with fail
    refine Calls.mono (HS1.out _ HB3.out) ?_
    rintro e w4 ⟨rfl,hb4⟩
    have HB4:Hid (Below w.heap.size w w4):=HB3.out.trans (hb4.mono HB3.out.size)
    clear hb4
    go_wp2
    go_ret
    exact⟨rB (HZ.out),HB4.out⟩
   ·go_enter Tryz.func32,Tryz.ntmps32
    go_wp2_with fail
    refine Calls.mono (HRt.out _ (Below.refl _ _)) ?_
    rintro e w1 ⟨rfl,hb1⟩
    have HB1:Hid (Below w.heap.size w w1):=hb1
    clear hb1
    go_wp2_with fail
    refine Calls.mono (HKa.out _ HB1.out) ?_
    rintro e w2 ⟨rfl,hb2⟩
    have HB2:Hid (Below w.heap.size w w2):=HB1.out.trans (hb2.mono HB1.out.size)
    clear hb2
    go_wp2_with fail
    refine Calls.mono (HKb.out _ HB2.out) ?_
    rintro e w3 ⟨rfl,hb3⟩
    have HB3:Hid (Below w.heap.size w w3):=HB2.out.trans (hb3.mono HB2.out.size)
    clear hb3
    go_wp2_with fail
    refine Calls.mono (HS1.out _ HB3.out) ?_
    rintro e w4 ⟨rfl,hb4⟩
    have HB4:Hid (Below w.heap.size w w4):=HB3.out.trans (hb4.mono HB3.out.size)
    clear hb4
    go_wp2
    go_ret
    exact⟨rB (HZ.out),HB4.out⟩
set_option maxRecDepth 100000 in
set_option maxHeartbeats 2000000 in
theorem specCommon (L:List CTup) (v:Value) (a b:ByteArray) (w:World) (h:classR.slice.In w [v] L) (hR:Right L) (hka:knB L a=true) :
  Calls Tryz.prog 54 #[v,.string a,.string b] w fun e w'=>e = .returned (.string (comL L b (CH nmC suC (allC L) a)))∧Below w.heap.size w w':=by
 have HSu:Hid (∀ w' n,Below w.heap.size w w'→Calls Tryz.prog 69 #[v,.string n] w' fun e w2=>e = .returned (.string (spS L n))∧Below w'.heap.size w' w2):=fun w' n hb=>specSuper L v n w' (classR.slice.mono _ _ _ _ hb h)
 have HSb:Hid (∀ w' n,knB L n=true→Below w.heap.size w w'→Calls Tryz.prog 70 #[v,.string b,.string n] w' fun e w2=>e = .returned (.bool (sbC L b n))∧Below w'.heap.size w' w2):=fun w' n hk hb=>specSub L v b n w' (classR.slice.mono _ _ _ _ hb h) hR hk
 have hA:=hR.acy
 have HSt:Hid (∀ n,knB L n=true→n ≠ tE∧(spS L n=tE ∨ knB L (spS L n)=true)∧comL L b (CH nmC suC (allC L) n)=(if sbC L b n then n else comL L b (CH nmC suC (allC L) (spS L n)))∧(CH nmC suC (allC L) (spS L n)).length<(CH nmC suC (allC L) n).length):=fun n hk=>by
  rcases kn_alt L n with ⟨k,_⟩ | ⟨c,_,hc,rfl,k1,k2⟩
  ·rw [k] at hk;cases hk
  ·rw [k2,hA.CH_some k1]
   refine ⟨(kn_size hR hk).2,su_known hR hc,rfl,by simp⟩
 have HNil:Hid (comL L b (CH nmC suC (allC L) tE)=tE):=by
  show _=_
  rcases kn_alt L tE with ⟨_,_,_,k⟩ | ⟨c,k,_⟩
  ·rw [k];rfl
  ·exact absurd rfl (kn_size hR k).2
 obtain ⟨la,lcap,rfl,_⟩:=slice_open (by decide) h
 obtain ⟨f,hf⟩:∃ f:ByteArray→Nat,∀ n,(CH nmC suC (allC L) n).length=f n:=⟨_,fun _=>rfl⟩
 obtain ⟨g,hg⟩:∃ g:ByteArray→ByteArray,∀ n,comL L b (CH nmC suC (allC L) n)=g n:=⟨_,fun _=>rfl⟩
 simp only [hf,hg] at HSt HNil
 rw [hg]
 clear h hA hf hg hR
 obtain ⟨res,hres⟩:∃ res,g a=res:=⟨_,rfl⟩
 have HRes:Hid (res=g a):=hres.symm
 rw [hres]
 clear hres
 go_enter Tryz.func54,Tryz.ntmps54
 go_wp2_with fail
 go_loopw [1] (fun j1 wr=>∃ n:ByteArray,j1 = .string n∧Below w.heap.size w wr∧res=g n∧(n=tE ∨ knB L n=true)) (fun j1 _=>match j1 with | .string n=>f n+(if n=tE then 0 else 1) | _=>0)
 case atStart=>exact⟨a,rfl,Below.refl _ _,HRes.out,.inr hka⟩
 case round =>
  obtain ⟨n,rfl,hbb,hr,hk⟩:=hrel
  have HB:Hid (Below w.heap.size w wr):=hbb
  have HR:=(show Hid (res=g n) from hr)
  clear hbb hr
  by_cases h0:n=tE
  ·subst h0
   have HZ:Hid (⟨#[]⟩=res):=by show _=_;rw [HR.out,HNil.out];rfl
   unfold tE
   go_wp2
   go_ret
   exact⟨rS HZ.out,HB.out⟩
  ·have d0:(n.toList == [])=false:=by
    rw [beq_eq_false_iff_ne,ByteArray.toList_eq]
    intro e
    exact h0 (WideShapes.bytes_inj (by rw [e];rfl))
   have hkn:knB L n=true:=hk.resolve_left h0
   obtain ⟨_,s1,s2,s3⟩:=HSt.out n hkn
   have HS1:=(show Hid _ from fun w' hb=>HSb.out w' n hkn hb)
   have HG:=(show Hid (res=if sbC L b n then n else g (spS L n)) from by show _=_;rw [HR.out,s2])
   have HM:=(show Hid (f (spS L n)+(if spS L n=tE then 0 else 1)<f n+(if n=tE then 0 else 1)) from by show _<_;rw [if_neg h0];split<;>omega)
   have HK1:=(show Hid (spS L n=tE ∨ knB L (spS L n)=true) from s1)
   clear s1 s2 s3 HR hk hkn
   generalize sbC L b n=q at *
   cases q
   ·have HZ:Hid (res=g (spS L n)):=by show _=_;rw [HG.out];rfl
    clear HG
    go_wp2_with fail
    refine Calls.mono (HS1.out _ HB.out) ?_
    rintro e w1 ⟨rfl,hb1⟩
    have HB1:Hid (Below w.heap.size w w1):=HB.out.trans (hb1.mono HB.out.size)
    clear hb1
    go_wp2_with fail
    refine Calls.mono (HSu.out _ n HB1.out) ?_
    rintro e w2 ⟨rfl,hb2⟩
    have HB2:Hid (Below w.heap.size w w2):=HB1.out.trans (hb2.mono HB1.out.size)
    clear hb2
    generalize spS L n=m at *
    go_wp2
    go_roundw
    case rel=>exact⟨m,rfl,HB2.out,HZ.out,HK1.out⟩
    case measure=>exact HM.out
   ·have HZ:Hid (n=res):=by show _=_;rw [HG.out];rfl
    clear HG
    go_wp2_with fail
    refine Calls.mono (HS1.out _ HB.out) ?_
    rintro e w1 ⟨rfl,hb1⟩
    have HB1:Hid (Below w.heap.size w w1):=HB.out.trans (hb1.mono HB.out.size)
    clear hb1
    go_wp2
    go_ret
    exact⟨rS HZ.out,HB1.out⟩
set_option maxRecDepth 100000 in
set_option maxHeartbeats 2000000 in
theorem specCommonOf (L:List CTup) (v:Value) (a b:ByteArray) (w:World) (h:classR.slice.In w [v] L) (ha:a.size≤maxLen) (hb:b.size≤maxLen) :
  Calls Tryz.prog 23 #[v,.string a,.string b] w fun e w'=>e = .returned (.string (cmV L a b))∧Below w.heap.size w w':=by
 have HRt:Hid (∀ w',Below w.heap.size w w'→Calls Tryz.prog 38 #[v] w' fun e w2=>e = .returned (.bool (rtB L))∧Below w'.heap.size w' w2):=fun w' hb=>specRight L v w' (classR.slice.mono _ _ _ _ hb h)
 have HKn:Hid (∀ w' n,Below w.heap.size w w'→Calls Tryz.prog 53 #[v,.string n] w' fun e w2=>e = .returned (.bool (knB L n))∧Below w'.heap.size w' w2):=fun w' n hb=>specKnown L v n w' (classR.slice.mono _ _ _ _ hb h)
 have HSb:Hid (rtB L=true→knB L a=true→∀ w',Below w.heap.size w w'→Calls Tryz.prog 54 #[v,.string a,.string b] w' fun e w2=>e = .returned (.string (comL L b (CH nmC suC (allC L) a)))∧Below w'.heap.size w' w2):=fun hr hk w' hb=>specCommon L v a b w' (classR.slice.mono _ _ _ _ hb h) (rt_right hr) hk
 have HL:Hid (rtB L=false ∨ (rtB L=true∧(20000<a.size ∨ 20000<b.size ∨ knB L a=false ∨ knB L b=false))→⟨#[]⟩=cmV L a b):=fun k=>by
  unfold cmV
  have e1:rtB L=true→knB L a=false→comL L b (CH nmC suC (allC L) a)=tE:=fun _ q=>by rw [CH_unknown q];rfl
  rcases k with k | ⟨k,q⟩
  ·rw [k];rfl
  ·rw [k]
   show tE=comL L b (CH nmC suC (allC L) a)
   rcases q with q | q | q | q
   ·exact (e1 k (kn_long q k)).symm
   ·exact (com_none (kn_long q k) _).symm
   ·exact (e1 k q).symm
   ·exact (com_none q _).symm
 have HRr:Hid (rtB L=false ∨ rtB L=true):=by cases rtB L<;>simp [Hid]
 obtain ⟨va,vcap,rfl,_⟩:=slice_open (by decide) h
 unfold maxLen at ha hb
 clear h
 by_cases hza:20000<a.size
 ·have d0:decide ((20000:Int)<(a.size:Int))=true:=by simp;omega
  have HZ:Hid (⟨#[]⟩=cmV L a b):=by
   rcases HRr.out with k | k
   ·exact HL.out (.inl k)
   ·exact HL.out (.inr ⟨k,.inl hza⟩)
  go_enter Tryz.func23,Tryz.ntmps23
  go_wp2
  go_ret
  exact⟨rS (HZ.out),Below.refl _ _⟩
 have d0:decide ((20000:Int)<(a.size:Int))=false:=by simp;omega
 by_cases hzb:20000<b.size
 ·have d1:decide ((20000:Int)<(b.size:Int))=true:=by simp;omega
  have HZ:Hid (⟨#[]⟩=cmV L a b):=by
   rcases HRr.out with k | k
   ·exact HL.out (.inl k)
   ·exact HL.out (.inr ⟨k,.inr (.inl hzb)⟩)
  go_enter Tryz.func23,Tryz.ntmps23
  go_wp2
  go_ret
  exact⟨rS (HZ.out),Below.refl _ _⟩
 have d1:decide ((20000:Int)<(b.size:Int))=false:=by simp;omega
 rcases HRr.out with hr | hr
 ·have HZ:Hid (⟨#[]⟩=cmV L a b):=HL.out (.inl hr)
  rw [hr] at HRt
  go_enter Tryz.func23,Tryz.ntmps23
  go_wp2_with fail
  refine Calls.mono (HRt.out _ (Below.refl _ _)) ?_
  rintro e w1 ⟨rfl,hb1⟩
  have HB1:Hid (Below w.heap.size w w1):=hb1
  clear hb1
  go_wp2
  go_ret
  exact⟨rS (HZ.out),HB1.out⟩
 have HKa:=(show Hid _ from fun w' hb=>HKn.out w' a hb)
 have HKb:=(show Hid _ from fun w' hb=>HKn.out w' b hb)
 rw [hr] at HRt
 cases hka:knB L a with
 | false =>
  have HZ:Hid (⟨#[]⟩=cmV L a b):=HL.out (.inr ⟨hr,.inr (.inr (.inl hka))⟩)
  rw [hka] at HKa
  go_enter Tryz.func23,Tryz.ntmps23
  go_wp2_with fail
  refine Calls.mono (HRt.out _ (Below.refl _ _)) ?_
  rintro e w1 ⟨rfl,hb1⟩
  have HB1:Hid (Below w.heap.size w w1):=hb1
  clear hb1
  go_wp2_with fail
  refine Calls.mono (HKa.out _ HB1.out) ?_
  rintro e w2 ⟨rfl,hb2⟩
  have HB2:Hid (Below w.heap.size w w2):=HB1.out.trans (hb2.mono HB1.out.size)
  clear hb2
  go_wp2
  go_ret
  exact⟨rS (HZ.out),HB2.out⟩
 | true =>
  rw [hka] at HKa
  cases hkb:knB L b with
  | false =>
   have HZ:Hid (⟨#[]⟩=cmV L a b):=HL.out (.inr ⟨hr,.inr (.inr (.inr hkb))⟩)
   rw [hkb] at HKb
   go_enter Tryz.func23,Tryz.ntmps23
   go_wp2_with fail
   refine Calls.mono (HRt.out _ (Below.refl _ _)) ?_
   rintro e w1 ⟨rfl,hb1⟩
   have HB1:Hid (Below w.heap.size w w1):=hb1
   clear hb1
   go_wp2_with fail
   refine Calls.mono (HKa.out _ HB1.out) ?_
   rintro e w2 ⟨rfl,hb2⟩
   have HB2:Hid (Below w.heap.size w w2):=HB1.out.trans (hb2.mono HB1.out.size)
   clear hb2
   go_wp2_with fail
   refine Calls.mono (HKb.out _ HB2.out) ?_
   rintro e w3 ⟨rfl,hb3⟩
   have HB3:Hid (Below w.heap.size w w3):=HB2.out.trans (hb3.mono HB2.out.size)
   clear hb3
   go_wp2
   go_ret
   exact⟨rS (HZ.out),HB3.out⟩
  | true =>
   rw [hkb] at HKb
   have HS1:=(show Hid _ from HSb.out hr hka)
   have HZ:Hid (comL L b (CH nmC suC (allC L) a)=cmV L a b):=by show _=_;unfold cmV;rw [hr];rfl
   generalize comL L b (CH nmC suC (allC L) a)=q at *
   go_enter Tryz.func23,Tryz.ntmps23
   go_wp2_with fail
   refine Calls.mono (HRt.out _ (Below.refl _ _)) ?_
   rintro e w1 ⟨rfl,hb1⟩
   have HB1:Hid (Below w.heap.size w w1):=hb1
   clear hb1
   go_wp2_with fail
   refine Calls.mono (HKa.out _ HB1.out) ?_
   rintro e w2 ⟨rfl,hb2⟩
   have HB2:Hid (Below w.heap.size w w2):=HB1.out.trans (hb2.mono HB1.out.size)
   clear hb2
   go_wp2_with fail
   refine Calls.mono (HKb.out _ HB2.out) ?_
   rintro e w3 ⟨rfl,hb3⟩
   have HB3:Hid (Below w.heap.size w w3):=HB2.out.trans (hb3.mono HB2.out.size)
   clear hb3
   go_wp2_with fail
   refine Calls.mono (HS1.out _ HB3.out) ?_
   rintro e w4 ⟨rfl,hb4⟩
   have HB4:Hid (Below w.heap.size w w4):=HB3.out.trans (hb4.mono HB3.out.size)
   clear hb4
   go_wp2
   go_ret
   exact⟨rS (HZ.out),HB4.out⟩
end Go.Proofs.YtmhgaggpdggbeaaGreatDoor
