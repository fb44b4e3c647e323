/-
  Texts laid together.
-/
import Derived.Test.YtmhgaggpdggbeaaGreatDoorWd4
import Derived.Test.YtmhgaggpdggbeaaGreatDoorWd5
import Derived.Test.YtmhgaggpdggbeaaGreatDoorWiE
import Derived.Test.YtmhgaggpdggbeaaGreatDoorWi9
import Derived.Test.YtmhgaggpdggbeaaGreatDoorWi12
import Derived.Test.YtmhgaggpdggbeaaGreatDoorWi10
import Derived.Test.YtmhgaggpdggbeaaGreatDoorSplit
import Derived.Test.YtmhgaggpdggbeaaGreatDoorMOpn
import Derived.Laws.AppendOwnNone
import Derived.RangeFuncNested
import Derived.RangeFuncBound
import Derived.RangeFuncCalls
import Derived.RangeFuncLeaves
import Derived.Shelf.Abstract
import Derived.Shelf.RegionOpen
import Derived.OwnWalkIn
import Derived.TacticsInMore
import Derived.LoopNIn
import Derived.LoopIn
import Derived.Deep.RegionHeld3
import Derived.Deep.CutBlock
import Derived.Test.YtmhgaggpdggbeaaGreatDoorTRight
import Derived.Test.YtmhgaggpdggbeaaGreatDoorReadI
namespace Go.Proofs.YtmhgaggpdggbeaaGreatDoor
section
open Go.RowKit
set_option maxRecDepth 20000
set_option linter.unusedVariables false
theorem specWorldCheck (L:List CTup) (v:Value) (w:World) (h:classR.slice.In w [v] L) :
  Calls Tryz.prog 28 #[v] w fun e w'=>e = .returned (.agg #[.int .i64 (wOut L).1,.int .i64 (wOut L).2])∧Below w.heap.size w w' :=
 specWorldCheckIf L v w h fun hp c vc vh w' hc hb h3 h4=>specAccess L v c vc vh w' hp hc (classR.slice.mono _ _ _ _ hb h) h3 h4

open Go.RowKit
set_option linter.unusedVariables false

noncomputable def rtB (L:List CTup):Bool:=decide ((wOut L).2=0)
theorem rt_right {L:List CTup} (h:rtB L=true):Right L:=by
 unfold rtB at h
 simp only [decide_eq_true_eq] at h
 rcases right_code L with ⟨k,_⟩ | ⟨_,k⟩
 ·exact k
 ·exact absurd h k
theorem nameB_le' {n:ByteArray} (h:nameB n=true):n.size≤20:=by
 unfold nameB at h
 simp only [decide_eq_true_eq] at h
 omega
theorem Right.part {L:List CTup} (h:Right L):Part L L.length:=h.2.part (by omega)
theorem Right.acy {L:List CTup} (h:Right L):AcyG nmC suC (allC L):=Past.acy fun q hq=>h.2 q (by omega)
theorem kn_size {L:List CTup} (h:Right L) {n:ByteArray} (hk:knB L n=true):n.size≤20∧n ≠ tE:=by
 unfold knB at hk
 rw [Option.isSome_iff_exists] at hk
 obtain ⟨c,hc⟩:=hk
 obtain ⟨h1,rfl⟩:=lkG_some hc
 rcases List.mem_append.1 h1 with k | k
 ·have:∀ b ∈ biC,(nmC b).size≤20∧nmC b ≠ tE:=by decide
  exact this c k
 ·obtain ⟨i,hi,rfl⟩:=List.mem_iff_getElem.1 k
  exact⟨nameB_le' (h.part.ok i hi hi).n,nameB_ne (h.part.ok i hi hi).n⟩
theorem su_known {L:List CTup} (h:Right L) {c:CTup} (hc:c ∈ allC L):suC c=tE ∨ knB L (suC c)=true:=by
 rcases List.mem_append.1 hc with k | k
 ·have hb:∀ b ∈ biC,suC b=tE ∨ (lkG nmC biC (suC b)).isSome=true:=by decide
  rcases hb c k with q | q
  ·exact .inl q
  ·right
   unfold knB
   rw [lk_all]
   cases e:lkG nmC biC (suC c) with
   | none=>rw [e] at q;cases q
   | some d=>rfl
 ·obtain ⟨i,hi,rfl⟩:=List.mem_iff_getElem.1 k
  right
  have:=h.2 1 (by omega) i hi
  rw [cdP1 hi] at this
  unfold cd1 at this
  unfold knB
  cases e:lkG nmC (allC L) (suC L[i]) with
  | none=>rw [e] at this;cases this
  | some d=>rfl
theorem kn_alt (L:List CTup) (n:ByteArray):(knB L n=false∧lkG nmC (allC L) n=none∧spS L n=tE∧CH nmC suC (allC L) n=[]) ∨ ∃ c,knB L n=true∧c ∈ allC L∧nmC c=n∧lkG nmC (allC L) n=some c∧spS L n=suC c:=by
 unfold knB spS
 cases e:lkG nmC (allC L) n with
 | none=>exact .inl ⟨rfl,rfl,rfl,CH_none e⟩
 | some c=>exact .inr ⟨c,rfl,(lkG_some e).1,(lkG_some e).2,rfl,rfl⟩
noncomputable def spV (L:List CTup) (n:ByteArray):ByteArray:=if rtB L then spS L n else tE
theorem fieldWO1 (a b:Value) (w:World):(Instr.field 47 (.agg #[a,b]) 1).run Tryz.prog w = .ok b w:=by kernel_rfl
set_option maxRecDepth 100000 in
set_option maxHeartbeats 1000000 in
theorem specRight (L:List CTup) (v:Value) (w:World) (h:classR.slice.In w [v] L) :
  Calls Tryz.prog 38 #[v] w fun e w'=>e = .returned (.bool (rtB L))∧Below w.heap.size w w':=by
 have HC:Hid (Calls Tryz.prog 28 #[v] w fun e w'=>e = .returned (.agg #[.int .i64 (wOut L).1,.int .i64 (wOut L).2])∧Below w.heap.size w w'):=specWorldCheck L v w h
 obtain ⟨a,cap,rfl,_⟩:=slice_open (by decide) h
 unfold rtB
 have f1:=fieldWO1
 generalize (wOut L).1=o1 at *
 generalize (wOut L).2=o2 at *
 clear h
 by_cases e:o2=0
 ·subst e
  go_enter Tryz.func38,Tryz.ntmps38
  go_wp2_with fail
  refine Calls.mono HC.out ?_
  rintro e w1 ⟨rfl,hb1⟩
  go_wp2
  go_ret
  exact⟨rfl,hb1⟩
 ·have d:(o2 == 0)=false:=by simpa using e
  have d2:decide (o2=0)=false:=by simpa using e
  rw [d2]
  go_enter Tryz.func38,Tryz.ntmps38
  go_wp2_with fail
  refine Calls.mono HC.out ?_
  rintro e w1 ⟨rfl,hb1⟩
  go_wp2
  go_ret
  exact⟨rfl,hb1⟩

open Go.RowKit
set_option linter.unusedVariables false

theorem kn_long {L:List CTup} {n:ByteArray} (h:20000<n.size) (hr:rtB L=true):knB L n=false:=by
 cases e:knB L n with
 | false=>rfl
 | true=>have:=(kn_size (rt_right hr) e).1;omega
theorem sp_long {L:List CTup} {n:ByteArray} (h:knB L n=false):spS L n=tE:=by
 rcases kn_alt L n with ⟨_,_,k,_⟩ | ⟨c,k,_⟩
 ·exact k
 ·rw [h] at k;cases k
set_option maxRecDepth 100000 in
set_option maxHeartbeats 1000000 in
theorem specSuperOf (L:List CTup) (v:Value) (n:ByteArray) (w:World) (h:classR.slice.In w [v] L) (hn:n.size≤maxLen) :
  Calls Tryz.prog 30 #[v,.string n] w fun e w'=>e = .returned (.string (spV L n))∧Below w.heap.size w w':=by
 have HRt:Hid (∀ w',Below w.heap.size w w'→Calls Tryz.prog 38 #[v] w' fun e w2=>e = .returned (.bool (rtB L))∧Below w'.heap.size w' w2):=fun w' hb=>specRight L v w' (classR.slice.mono _ _ _ _ hb h)
 have HSu:Hid (∀ w',Below w.heap.size w w'→Calls Tryz.prog 69 #[v,.string n] w' fun e w2=>e = .returned (.string (spS L n))∧Below w'.heap.size w' w2):=fun w' hb=>specSuper L v n w' (classR.slice.mono _ _ _ _ hb h)
 obtain ⟨va,vcap,rfl,_⟩:=slice_open (by decide) h
 unfold maxLen at hn
 clear h
 by_cases hz:20000<n.size
 ·have d0:decide ((20000:Int)<(n.size:Int))=true:=by simp;omega
  have HZ:Hid (⟨#[]⟩=spV L n):=by
   show _=_
   unfold spV
   cases hr:rtB L with
   | false=>rfl
   | true=>rw [sp_long (kn_long hz hr)];rfl
  go_enter Tryz.func30,Tryz.ntmps30
  go_wp2
  go_ret
  exact⟨rS (HZ.out),Below.refl _ _⟩
 have d0:decide ((20000:Int)<(n.size:Int))=false:=by simp;omega
 cases hr:rtB L with
 | false =>
  have HZ:Hid (⟨#[]⟩=spV L n):=by show _=_;unfold spV;rw [hr];rfl
  rw [hr] at HRt
  go_enter Tryz.func30,Tryz.ntmps30
  go_wp2_with fail
  refine Calls.mono (HRt.out _ (Below.refl _ _)) ?_
  rintro e w1 ⟨rfl,hb1⟩
  have HB1:Hid (Below w.heap.size w w1):=hb1
  clear hb1
  go_wp2
  go_ret
  exact⟨rS (HZ.out),HB1.out⟩
 | true =>
  have HZ:Hid (spS L n=spV L n):=by show _=_;unfold spV;rw [hr];rfl
  rw [hr] at HRt
  generalize spS L n=sp at *
  go_enter Tryz.func30,Tryz.ntmps30
  go_wp2_with fail
  refine Calls.mono (HRt.out _ (Below.refl _ _)) ?_
  rintro e w1 ⟨rfl,hb1⟩
  have HB1:Hid (Below w.heap.size w w1):=hb1
  clear hb1
  go_wp2_with fail
  refine Calls.mono (HSu.out _ HB1.out) ?_
  rintro e w2 ⟨rfl,hb2⟩
  have HB2:Hid (Below w.heap.size w w2):=HB1.out.trans (hb2.mono HB1.out.size)
  clear hb2
  go_wp2
  go_ret
  exact⟨rS (HZ.out),HB2.out⟩
end
section
open Go.RowKit
set_option maxRecDepth 20000
set_option linter.unusedVariables false

theorem wyS {E:List WE} {L:List CTup} (hR:Right L) (h:E.map WE.c=allC L) (n:ByteArray):∃ tl,(wyG E n).map WE.c=CH nmC suC L n ++ tl∧∀ b ∈ tl,b ∈ biC:=by
 have hp:Past L 4:=fun q hq=>hR.2 q (by omega)
 rw [wyE hp.acy h n]
 exact hR.part.two.chain hp.acy hp.acyL _ n (Nat.le_refl _)
theorem found3 {w:World} {R:Nat} {u0 u1 u2:Value} (r0:w.cell? ⟨R,0,none⟩=some u0) (r1:w.cell? ⟨R,1,none⟩=some u1) (r2:w.cell? ⟨R,2,none⟩=some u2) (v0 v1 v2:Value) :
  (((w.setCell ⟨R,0,none⟩ v0).setCell ⟨R,1,none⟩ v1).setCell ⟨R,2,none⟩ v2).cell? ⟨R,0,none⟩=some v0∧(((w.setCell ⟨R,0,none⟩ v0).setCell ⟨R,1,none⟩ v1).setCell ⟨R,2,none⟩ v2).cell? ⟨R,1,none⟩=some v1∧(((w.setCell ⟨R,0,none⟩ v0).setCell ⟨R,1,none⟩ v1).setCell ⟨R,2,none⟩ v2).cell? ⟨R,2,none⟩=some v2 :=
 ⟨by simp [go_sem,r0],by simp [go_sem,r1],by simp [go_sem,r2]⟩
end
section
open Go.RowKit
set_option maxRecDepth 20000
set_option linter.unusedVariables false

theorem nameB_le {n:ByteArray} (h:nameB n=true):n.size≤20:=by
 unfold nameB at h
 simp only [decide_eq_true_eq] at h
 omega
theorem bi_size:∀ b ∈ biC,(nmC b).size≤20:=by decide
theorem all_size {L:List CTup} (hp:Part L L.length):∀ c ∈ allC L,(nmC c).size≤20:=fun c hc=>by
 rcases List.mem_append.1 hc with k | k
 ·exact bi_size c k
 ·obtain ⟨i,hi,rfl⟩:=List.mem_iff_getElem.1 k
  exact nameB_le (hp.ok i hi hi).n
theorem all_len {E:List WE} {L:List CTup} (h:E.map WE.c=allC L) (hl:L.length≤10):E.length≤100:=by
 have:=congrArg List.length h
 have h8:biC.length=8:=rfl
 simp [allC,h8] at this
 omega
theorem implMakeWorld0 (L:List CTup) (v:Value) (w0 w:World) (hb0:Below w0.heap.size w0 w) (h:classR.slice.In w0 [v] L) (ht:Tab w) (hg:Glob w) :
  Calls Tryz.prog 41 #[v] w fun e w'=>Below w.heap.size w w'∧∃ wv,e = .returned (.tuple #[wv,.agg #[.int .i64 (wOut L).1,.int .i64 (wOut L).2]])∧((wOut L).2 ≠ 0→wv = .agg #[.slice none 0 0,.map none])∧((wOut L).2=0→∃ r E es ck,wv=wdV v r∧WmIs w' r E es ck∧E.map WE.c=allC L∧∀ y ∈ E,fieldR.slice.In w0 [y.vc] (fsC y.c)∧methR.slice.In w0 [y.vh] (msC y.c)):=by
 have hv:∃ a k c,v = .slice a k c:=by obtain ⟨a,cap,rfl,_⟩:=slice_open (by decide) h;exact⟨_,_,_,rfl⟩
 refine implMakeWorldIf L v w0 w hb0 h ht hg fun hl10 hp r E es ck c fa fc ma mc w' hc hwm hEm hf hm=>?_
 have:c ∈ E.map WE.c:=by rw [hEm];exact List.mem_append.2 (.inr hc)
 obtain ⟨x,hx,rfl⟩:=List.mem_map.1 this
 exact implMethodsFault L v r E es ck x fa fc ma mc w' hp hEm hc hwm hx hv (all_len hEm hl10) (fun y hy=>Nat.le_trans (all_size (hp.part (by omega)) y.c (by rw [← hEm];exact List.mem_map.2 ⟨y,hy,rfl⟩)) (by decide)) hm
theorem implMakeWorld (L:List CTup) (v:Value) (w:World) (h:classR.slice.In w [v] L) (ht:Tab w) (hg:Glob w) :
  Calls Tryz.prog 41 #[v] w fun e w'=>Below w.heap.size w w'∧∃ wv,e = .returned (.tuple #[wv,.agg #[.int .i64 (wOut L).1,.int .i64 (wOut L).2]])∧((wOut L).2 ≠ 0→wv = .agg #[.slice none 0 0,.map none])∧((wOut L).2=0→∃ r E es ck,wv=wdV v r∧WmIs w' r E es ck∧E.map WE.c=allC L∧∀ y ∈ E,fieldR.slice.In w [y.vc] (fsC y.c)∧methR.slice.In w [y.vh] (msC y.c)):=implMakeWorld0 L v w w (Below.refl _ _) h ht hg

open Go.RowKit
set_option linter.unusedVariables false
theorem look0 (n:ByteArray) (hn:n.size≤maxLen) (w:World):(Instr.lookup 70 (.map none) (.string n) true).run Tryz.prog w = .ok (.tuple #[zWE,.bool false]) w∧(Instr.lookup 70 (.map none) (.string n) false).run Tryz.prog w = .ok zWE w:=by
 have hx:keyOf Tryz.prog 9 (.string n)=some (.string n.data.toList):=WideMaps.keyOf_string_mk Tryz.underlying9 hn
 have hz:=zeroWE w
 rcases (strLaw).find w hx [] (by simp) with ⟨h1,_⟩ | ⟨j,e,_,h2,_⟩
 ·constructor<;>simp [Instr.lookup,run_underlying Tryz.underlying70,hz,Result.andThen,(strLaw).check w _ hx,h1]
 ·simp at h2
theorem implKnown0 (n:ByteArray) (hn:n.size≤maxLen) (w:World) :
  Calls Tryz.prog 71 #[.agg #[.slice none 0 0,.map none],.string n] w fun e w'=>e = .returned (.bool false)∧Below w.heap.size w w':=by
 have h2:=fun w=>(look0 n hn w).1
 unfold zWE at h2
 go_enter Tryz.func71,Tryz.ntmps71
 go_wp2
 go_ret
 exact⟨rfl,below_al2 _ _ _⟩
set_option maxRecDepth 100000 in
set_option maxHeartbeats 1000000 in
theorem implWayUp0 (n:ByteArray) (hn:n.size≤maxLen) (w:World) :
  Calls Tryz.prog 83 #[.agg #[.slice none 0 0,.map none],.string n] w fun e w'=>e = .returned (.slice none 0 0)∧Below w.heap.size w w':=by
 have HK:Hid (∀ w,Calls Tryz.prog 71 #[.agg #[.slice none 0 0,.map none],.string n] w fun e w'=>e = .returned (.bool false)∧Below w.heap.size w w'):=fun w=>implKnown0 n hn w
 go_enter Tryz.func83,Tryz.ntmps83
 go_wp2_with fail
 go_step3
 go_wp2_with fail
 go_step3
 go_wp2_with fail
 have x0:(w.alloc (.cells #[.slice none 0 0,.map none] 72)).cell? ⟨w.heap.size,0,none⟩=some (.slice none 0 0):=by simp [go_sem]
 have x1:(w.alloc (.cells #[.slice none 0 0,.map none] 72)).cell? ⟨w.heap.size,1,none⟩=some (.map none):=by simp [go_sem]
 have HBW:Hid (Below w.heap.size w (w.alloc (.cells #[.slice none 0 0,.map none] 72))):=below_al _ _
 generalize w.alloc (.cells #[.slice none 0 0,.map none] 72)=W at *
 go_loopw [1,5] (fun j1 j5 wr=>j1 = .string n∧j5 = .slice none 0 0∧wr=W) (fun _ _ _=>0)
 case atStart=>exact⟨rfl,rfl,rfl⟩
 case round =>
  obtain ⟨rfl,rfl,rfl⟩:=hrel
  go_wp2_with fail
  refine Calls.mono (HK.out _) ?_
  rintro e w1 ⟨rfl,hb1⟩
  have HB1:Hid (Below w.heap.size w w1):=HBW.out.trans (hb1.mono HBW.out.size)
  clear hb1
  go_wp2
  try rw [Exit.noGoto_ret]
  go_ret
  exact⟨rfl,HB1.out⟩
theorem implMake2 (L:List CTup) (v:Value) (w:World) (h:classR.slice.In w [v] L) (ht:Tab w) (hg:Glob w) :
  (rtB L=false∧Calls Tryz.prog 41 #[v] w fun e w'=>Below w.heap.size w w'∧e = .returned (.tuple #[.agg #[.slice none 0 0,.map none],.agg #[.int .i64 (wOut L).1,.int .i64 (wOut L).2]])) ∨
  (rtB L=true∧Right L∧Calls Tryz.prog 41 #[v] w fun e w'=>Below w.heap.size w w'∧∃ r E es ck,e = .returned (.tuple #[wdV v r,.agg #[.int .i64 (wOut L).1,.int .i64 (wOut L).2]])∧WmIs w' r E es ck∧E.map WE.c=allC L):=by
 cases hr:rtB L with
 | false =>
  refine .inl ⟨rfl,Calls.mono (implMakeWorld L v w h ht hg) ?_⟩
  rintro e w' ⟨h1,wv,rfl,h2,_⟩
  have:(wOut L).2 ≠ 0:=by unfold rtB at hr;simpa using hr
  rw [h2 this]
  exact⟨h1,rfl⟩
 | true =>
  refine .inr ⟨rfl,rt_right hr,Calls.mono (implMakeWorld L v w h ht hg) ?_⟩
  rintro e w' ⟨h1,wv,rfl,_,h3⟩
  have:(wOut L).2=0:=by unfold rtB at hr;simpa using hr
  obtain ⟨r,E,es,ck,rfl,h4,h5,_⟩:=h3 this
  exact⟨h1,r,E,es,ck,rfl,h4,h5⟩
theorem all_len' {E:List WE} {L:List CTup} (h:E.map WE.c=allC L) (hR:Right L):E.length≤100:=all_len h hR.1
end
section
open Go.RowKit
set_option maxRecDepth 20000
set_option linter.unusedVariables false
set_option maxHeartbeats 1000000 in
theorem implTooLong (xs:List ByteArray) (g:Nat) (w:World) (hl:xs.length=3) (hs:∀ x ∈ xs,x.size≤maxLen) (hc:∀ i (h:i<xs.length),w.cell? ⟨g,i,none⟩=some (.string xs[i])) :
  Calls Tryz.prog 49 #[.slice (some ⟨g,0,none⟩) 3 3] w fun e w'=>e = .returned (.bool (xs.any fun x=>decide (20000<x.size)))∧w'=w:=by
 have HC:=(show Hid (∀ i (h:i<xs.length),w.cell? ⟨g,i,none⟩=some (.string xs[i])) from hc)
 have HS:=(show Hid (∀ x ∈ xs,x.size≤maxLen) from hs)
 have HY:Hid (∀ i (h:i<xs.length),20000<xs[i].size→true=xs.any fun x=>decide (20000<x.size)):=fun i h k=>(List.any_eq_true.2 ⟨_,List.getElem_mem h,by simpa using k⟩).symm
 have HN:Hid ((∀ i (h:i<xs.length),¬ 20000<xs[i].size)→false=xs.any fun x=>decide (20000<x.size)):=fun k=>by
  refine (List.any_eq_false.2 fun x hx=>?_).symm
  obtain ⟨i,hi,rfl⟩:=List.mem_iff_getElem.1 hx
  simpa using k i hi
 generalize (xs.any fun x=>decide (20000<x.size))=res at *
 clear hc hs
 go_enter Tryz.func49,Tryz.ntmps49
 go_wp2_with fail
 go_loopw [7] (fun j7 wr=>∃ i:Nat,i≤3∧j7 = .int .i64 (i:Int)∧wr=w∧∀ j (h:j<xs.length),j<i→¬ 20000<xs[j].size) (fun j7 _=>3 - (intOf j7).toNat)
 case atStart=>exact⟨0,by omega,rfl,rfl,fun j _ h=>by omega⟩
 case round =>
  obtain ⟨i,hi,rfl,rfl,hno⟩:=hrel
  have HNo:=(show Hid (∀ j (h:j<xs.length),j<i→¬ 20000<xs[j].size) from hno)
  clear hno
  by_cases hlt:i<3
  ·have c0:=HC.out i (by omega)
   have hz:=HS.out xs[i] (List.getElem_mem (by omega))
   unfold maxLen at hz
   by_cases hb:20000<xs[i].size
   ·have HZ:Hid (true=res):=HY.out i (by omega) hb
    have d:decide ((20000:Int)<(xs[i].size:Int))=true:=by simp;omega
    clear HNo
    generalize xs[i]=x at *
    go_wp2
    go_ret
    exact⟨rB HZ.out,rfl⟩
   ·have HZ:Hid (∀ j (h:j<xs.length),j<i+1→¬ 20000<xs[j].size):=fun j hj hji=>by
     by_cases e2:j=i
     ·subst e2;exact hb
     ·exact HNo.out j hj (by omega)
    have d:decide ((20000:Int)<(xs[i].size:Int))=false:=by simp;omega
    clear HNo
    generalize xs[i]=x at *
    go_wp2
    go_roundw
    case rel=>exact⟨i+1,by omega,by go_num,by first | rfl | trivial,HZ.out⟩
    case measure=>simp [intOf];omega
  ·obtain rfl:i=3:=by omega
   have HZ:Hid (false=res):=HN.out fun j hj=>HNo.out j hj (by omega)
   clear HNo
   go_wp2
   go_ret
   exact⟨rB HZ.out,rfl⟩
end
section
open Go.RowKit
set_option maxRecDepth 20000
set_option linter.unusedVariables false
def ownF (c:CTup):List FieldD:=(fsC c).filter fun f=>!f.2.2
def fldL (L:List CTup) (n:ByteArray):List FieldD:=(CH nmC suC L n).reverse.flatMap ownF
def cFl (d:FieldD):List Value:=[.string d.1,.string d.2.1,.bool d.2.2]
theorem fix_lk {L:List CTup} {n:ByteArray}:(fixG nmC L n=none∧lkG nmC L n=none) ∨ ∃ i,∃ h:i<L.length,fixG nmC L n=some i∧lkG nmC L n=some L[i]∧nmC L[i]=n:=by
 unfold fixG lkG
 cases e:L.findIdx? (fun c=>decide (nmC c=n)) with
 | none =>
  refine .inl ⟨rfl,?_⟩
  rw [List.find?_eq_none]
  rw [List.findIdx?_eq_none_iff] at e
  intro x hx
  simp [e x hx]
 | some i =>
  obtain ⟨h,h1,h2⟩:=List.findIdx?_eq_some_iff_getElem.1 e
  refine .inr ⟨i,h,rfl,?_,by simpa using h1⟩
  rw [List.find?_eq_some_iff_getElem]
  exact⟨h1,i,h,rfl,fun j hj=>by simpa using h2 j hj⟩
theorem fldL_some {L:List CTup} (hA:AcyG nmC suC L) {n:ByteArray} {c:CTup} (e:lkG nmC L n=some c):fldL L n=fldL L (suC c) ++ ownF c:=by
 unfold fldL
 rw [hA.CH_some e]
 simp
theorem fldL_none {L:List CTup} {n:ByteArray} (e:lkG nmC L n=none):fldL L n=[]:=by
 unfold fldL
 rw [CH_none e]
 rfl
theorem infoFld:(Tryz.prog.info? 61).map (fun i=>(i.zero,i.size,i.bytes))=some (some (.agg #[.string ⟨#[]⟩,.string ⟨#[]⟩,.bool false]),3,40):=by kernel_rfl
theorem own_sl3 {w:World} {B e s n:Nat} {v:Value} {xs:List Value} (h:w.ownsRow B e s v n xs):∃ p c,v = .slice p n c:=by
 rcases h.2 with ⟨rfl,h0⟩ | ⟨g,cap,cur,rfl,_⟩
 ·exact⟨_,_,by rw [h0]⟩
 ·exact⟨_,_,rfl⟩
theorem fld_news (w:World) (d:FieldD) (t:TypeId):∀ j u,(cFl d)[j]?=some u→(w.alloc (.cells #[.string d.1,.string d.2.1,.bool d.2.2] t)).cell? ((⟨w.heap.size,0,none⟩:Addr).add j)=some u:=by
 intro j u hj
 rw [show ((⟨w.heap.size,0,none⟩:Addr).add j)=⟨w.heap.size,j,none⟩ by unfold Addr.add;split<;>simp_all]
 rw [World.cell?_alloc_mark w _ t (0,0) j]
 simpa [cFl] using hj
theorem fld_one (d:FieldD):∀ u ∈ cFl d,u.oneCell'=true:=by
 intro u hu
 simp only [cFl,List.mem_cons,List.not_mem_nil,or_false] at hu
 rcases hu with rfl | rfl | rfl<;>rfl
def ownK (fs:List FieldD) (k:Nat):List FieldD:=(fs.take k).filter fun f=>!f.2.2
theorem ownK_all (c:CTup):ownK (fsC c) (fsC c).length=ownF c:=by unfold ownK ownF;rw [List.take_length]
theorem ownK_yes {fs:List FieldD} {k:Nat} (h:k<fs.length) (hs:fs[k].2.2=false):ownK fs (k+1)=ownK fs k ++ [fs[k]]:=by
 unfold ownK
 rw [List.take_succ_eq_append_getElem h,List.filter_append]
 simp [hs]
theorem ownK_no {fs:List FieldD} {k:Nat} (h:k<fs.length) (hs:fs[k].2.2=true):ownK fs (k+1)=ownK fs k:=by
 unfold ownK
 rw [List.take_succ_eq_append_getElem h,List.filter_append]
 simp [hs]
theorem ownK_len (fs:List FieldD) (k:Nat):(ownK fs k).length≤fs.length:=Nat.le_trans (List.length_filter_le _ _) (by rw [List.length_take];omega)
theorem fldL_len {L:List CTup} (hA:AcyG nmC suC L) (hsm:∀ c ∈ L,(fsC c).length≤8) (n:ByteArray):(fldL L n).length≤8 * L.length:=by
 have h1:∀ (M:List CTup),(∀ c ∈ M,(fsC c).length≤8)→(M.flatMap ownF).length≤8 * M.length:=by
  intro M
  induction M with
  | nil=>intro _;simp
  | cons c M ih =>
   intro h
   have a1:=ih fun x hx=>h x (by simp [hx])
   have a2:(ownF c).length≤8:=Nat.le_trans (List.length_filter_le _ _) (h c (by simp))
   simp only [List.flatMap_cons,List.length_append,List.length_cons]
   omega
 unfold fldL
 refine Nat.le_trans (h1 _ fun c hc=>hsm c (CH_sub c (List.mem_reverse.1 hc))) ?_
 have:(CH nmC suC L n).length≤L.length:=hA.len1 n
 rw [List.length_reverse]
 omega
set_option maxHeartbeats 4000000 in
theorem specFieldsL (L:List CTup) (v:Value) (hA:AcyG nmC suC L) (hL:L.length≤400) (hsm:∀ c ∈ L,(fsC c).length≤8):∀ (m:Nat) (n:ByteArray) (w:World),classR.slice.In w [v] L→(CH nmC suC L n).length<m →
  Calls Tryz.prog 39 #[v,.string n] w fun e w'=>Below w.heap.size w w'∧∃ u,e = .returned u∧w'.ownsRow w.heap.size 61 3 u (fldL L n).length ((fldL L n).flatMap cFl):=by
 intro m
 induction m with
 | zero=>intro n w _ hm;omega
 | succ m ih =>
 intro n w h hm
 obtain ⟨a,cap,rfl,hn,hcap,hat⟩:=slice_open (by decide) h
 have HF:Hid (∀ w',classR.slice.In w' [.slice a L.length cap] L→Calls Tryz.prog 66 #[.slice a L.length cap,.string n] w' fun e w2=>e = .returned (.int .i64 (ixI (fixG nmC L n)))∧w2=w'):=fun w' h'=>specFind L _ n w' h'
 have HI:=(show Hid (classR.slice.In w [.slice a L.length cap] L) from h)
 clear h
 rcases fix_lk (L:=L) (n:=n) with ⟨e1,e2⟩ | ⟨i,hi,e1,e2,e3⟩
 ·rw [e1] at HF
  have HE:=(show Hid (fldL L n=[]) from fldL_none e2)
  clear e1 e2 ih hm hat
  go_enter Tryz.func39,Tryz.ntmps39
  go_wp2_with fail
  refine Calls.mono (HF.out _ HI.out) ?_
  rintro e w1 ⟨rfl,rfl⟩
  simp only [ixI]
  have HO:Hid (Below w1.heap.size w1 (w1.alloc (.cells #[] 61))∧(w1.alloc (.cells #[] 61)).ownsRow w1.heap.size 61 3 (.slice (some ⟨w1.heap.size,0,none⟩) 0 0) 0 []):=⟨(Below.refl _ _).alloc (Nat.le_refl _) _,World.ownsRow_lit w1 #[] 0 (Nat.le_refl _) (by unfold maxLen;omega) rfl⟩
  go_wp2
  go_ret
  rw [HE.out]
  exact⟨HO.out.1,_,rfl,HO.out.2⟩
 ·rw [e1] at HF
  obtain ⟨i0,hi0,hz0,hz1,hz2⟩:=info_parts infoFld
  have HIF:Hid (Tryz.prog.info? 61 = some i0∧i0.zero=some (.agg #[.string ⟨#[]⟩,.string ⟨#[]⟩,.bool false])∧i0.size=3∧i0.bytes=40):=⟨hi0,hz0,hz1,hz2⟩
  clear hi0 hz0 hz1 hz2
  have HE:=(show Hid (fldL L n=fldL L (suC L[i]) ++ ownF L[i]) from fldL_some hA e2)
  have hlen:(CH nmC suC L (suC L[i])).length<m:=by rw [hA.CH_some e2] at hm;simpa using hm
  have HP:=(show Hid (∀ w',classR.slice.In w' [.slice a L.length cap] L→_) from fun w' h'=>ih (suC L[i]) w' h' hlen)
  have hp8:=fldL_len hA hsm (suC L[i])
  have h8:=hsm L[i] (List.getElem_mem _)
  obtain ⟨bq,oq,rfl,hAt⟩:=hat i hi
  obtain ⟨vc,vh,c0,c1,c2,c3,c4,c5,s0,s1,hf,hme⟩:=classAt hAt
  obtain ⟨fa,fcap,rfl,hfn,hfc,hfat⟩:=slice_open (by decide) hf
  have HFA:=(show Hid (∀ k (h:k<(fsC L[i]).length),∃ b o,fa=some ⟨b,o,none⟩∧fieldR.At w ⟨b,o,none⟩ k (fsC L[i])[k]) from hfat)
  have hii:(i:Int)<L.length:=by omega
  have hib:=(show Hid (bq<w.heap.size) from World.block_lt_of_cell? _ _ c4)
  clear e1 e2 e3 ih hm hat c0 c2 c3 c5 s0 hf hme hlen hfat hAt
  unfold maxLen at hcap
  go_enter Tryz.func39,Tryz.ntmps39
  go_wp2_with fail
  refine Calls.mono (HF.out _ HI.out) ?_
  rintro e w1 ⟨rfl,rfl⟩
  simp only [ixI]
  go_wp2_with fail
  refine Calls.mono (HP.out _ HI.out) ?_
  rintro e w2 ⟨hb2,u,rfl,hown⟩
  obtain ⟨up,uc,rfl⟩:=own_sl3 hown
  have HB2:=(show Hid (Below w1.heap.size w1 w2) from hb2)
  have HO2:=(show Hid (w2.ownsRow w1.heap.size 61 3 (.slice up (fldL L (suC L[i])).length uc) (fldL L (suC L[i])).length ((fldL L (suC L[i])).flatMap cFl)) from hown)
  have HC4:=(show Hid (w1.cell? ⟨bq,oq+i * 6+4,none⟩=some (.slice fa (fsC L[i]).length fcap)) from c4)
  obtain ⟨fs,hfs⟩:∃ l,fsC L[i]=l:=⟨_,rfl⟩
  have HOF:Hid (ownF L[i]=ownK fs fs.length):=by rw [← hfs];exact (ownK_all _).symm
  rw [hfs] at HFA HC4 h8 hfn
  obtain ⟨ps,hps⟩:∃ l,fldL L (suC L[i])=l:=⟨_,rfl⟩
  rw [hps] at HO2 HE hp8
  rw [HOF.out] at HE
  clear hb2 hown c1 c4 hfs HOF HF HP
  rw [hps]
  clear hps
  go_wp2_with fail
  go_loopw [6,7] (fun u j wr=>∃ k:Nat,k≤fs.length∧j = .int .i64 (k:Int)∧wr.ownsRow w1.heap.size 61 3 u (ps ++ ownK fs k).length ((ps ++ ownK fs k).flatMap cFl)∧Below w1.heap.size w1 wr) (fun _ j _=>10 - (intOf j).toNat)
  case atStart=>exact⟨0,by omega,rfl,by simpa [ownK] using HO2.out,HB2.out⟩
  case round =>
   obtain ⟨k,hk,rfl,hown,hb⟩:=hrel
   obtain ⟨vp,vc,rfl⟩:=own_sl3 hown
   have HO:=(show Hid (wr.ownsRow w1.heap.size 61 3 (.slice vp (ps ++ ownK fs k).length vc) (ps ++ ownK fs k).length ((ps ++ ownK fs k).flatMap cFl)) from hown)
   have HB:=(show Hid (Below w1.heap.size w1 wr) from hb)
   have c4:=carry hb hib.out HC4.out
   clear hown hb HO2 HB2
   by_cases hlt:k<fs.length
   ·obtain ⟨fb,fo,rfl,hfA⟩:=HFA.out k hlt
    obtain ⟨f0,f1,f2,t0,t1⟩:=fieldAt hfA
    have hfb:fb<w1.heap.size:=World.block_lt_of_cell? _ _ f0
    replace f0:=carry HB.out hfb f0
    replace f1:=carry HB.out hfb f1
    replace f2:=carry HB.out hfb f2
    have hki:(k:Int)<fs.length:=by omega
    have hok:=ownK_len fs k
    cases hst:fs[k].2.2
    ·have HY:=(show Hid (ownK fs (k+1)=ownK fs k ++ [fs[k]]) from ownK_yes hlt hst)
     obtain ⟨d,hd⟩:∃ d,fs[k]=d:=⟨_,rfl⟩
     rw [hd] at f0 f1 f2 HY hst t0 t1
     rw [hst] at f2
     have HN:Hid (∀ j u,(cFl d)[j]?=some u→(wr.alloc (.cells #[.string d.1,.string d.2.1,.bool false] 61)).cell? ((⟨wr.heap.size,0,none⟩:Addr).add j)=some u):=by rw [← hst];exact fld_news wr d _
     clear hd hst hfA
     go_wp2_with (at_builtin;refine wpList_append_own _ rfl _ _ 24 rfl w1.heap.size 61 i0 (.agg #[.string ⟨#[]⟩,.string ⟨#[]⟩,.bool false]) 3 40 Tryz.underlying24 HIF.out.1 HIF.out.2.1 HIF.out.2.2.1 HIF.out.2.2.2 rfl (by decide) _ _ _ rfl (HO.out.alloc _) ⟨wr.heap.size,0,none⟩ 1 1 (cFl d) rfl rfl HN.out (fld_one d) (by rw [List.length_append];unfold maxLen;omega) (by rw [List.length_append];omega) (by have:=HB.out.size;simp;omega) ?_;intro v' w9 hown hgrow _)
     obtain ⟨tp,tc,rfl⟩:=own_sl3 hown
     have HX:Hid (w9.ownsRow w1.heap.size 61 3 (.slice tp ((ps ++ ownK fs k).length+1) tc) (ps ++ ownK fs (k+1)).length ((ps ++ ownK fs (k+1)).flatMap cFl)∧Below w1.heap.size w1 w9):=by
      refine ⟨?_,(HB.out.trans (((Below.refl _ _).alloc (Nat.le_refl _) _).mono HB.out.size)).grown hgrow (by have:=HB.out.size;simp;omega) (fun j e=>(HO.out.lt _ e).1)⟩
      rw [HY.out]
      have e:(ps ++ (ownK fs k ++ [d])).length=(ps ++ ownK fs k).length+1:=by simp;omega
      rw [e]
      simpa [List.flatMap_append] using hown
     clear hown hgrow HN
     go_wp2
     go_roundw
     case rel=>exact⟨k+1,by omega,by congr 1,HX.out.1,HX.out.2⟩
     case measure=>simp [intOf];omega
    ·have HY:=(show Hid (ownK fs (k+1)=ownK fs k) from ownK_no hlt hst)
     rw [hst] at f2
     clear hst hfA f0 f1
     go_wp2
     go_roundw
     case rel=>exact⟨k+1,by omega,by congr 1,by rw [HY.out];exact HO.out,HB.out⟩
     case measure=>simp [intOf];omega
   ·obtain rfl:k=fs.length:=by omega
    go_wp2
    go_ret
    rw [HE.out]
    exact⟨HB.out,_,rfl,HO.out⟩
end
section
open Go.RowKit Go.Shelf
set_option linter.unusedVariables false
attribute [local go_sem] Oper.semAt_some
structure Kq (m N B:Nat) (W W':World):Prop where
 bel:Below m W W'
 blk:∀ k,k<N→k ≠ B→W'.heap[k]?=W.heap[k]?
theorem Kq.refl (m N B:Nat) (W:World):Kq m N B W W:=⟨Below.refl _ _,fun _ _ _=>rfl⟩
theorem Kq.trans {m N B:Nat} {X Y Z:World} (h:Kq m N B X Y) (k:Kq m N B Y Z):Kq m N B X Z:=⟨h.bel.trans k.bel,fun i hi hB=>(k.blk i hi hB).trans (h.blk i hi hB)⟩
theorem Kq.cell {m N B:Nat} {W W':World} (h:Kq m N B W W') {p:Addr} {v:Value} (hN:p.block<N) (hB:p.block ≠ B) (hc:W.cell? p=some v):W'.cell? p=some v:=(World.cell?_of_block (h.blk _ hN hB)).trans hc
theorem Kq.alloc {m N B:Nat} {W:World} (hm:m≤N) (hN:N≤W.heap.size) (o:Obj):Kq m N B W (W.alloc o):=⟨(Below.refl _ _).alloc (Nat.le_trans hm hN) _,fun k hk _=>Below.heap_alloc _ _ _ (by omega)⟩
theorem Kq.set {m N B j:Nat} {W:World} (hm:m≤B) (v:Value):Kq m N B W (W.setCell ⟨B,j,none⟩ v):=⟨(Below.refl _ _).setCell (p:=⟨B,j,none⟩) hm v,fun k _ hB=>Below.heap_setCell _ _ _ _ hB⟩
theorem Kq.grown {m N B:Nat} {W W':World} {row:Option Nat} (hm:m≤N) (hN:N≤W.heap.size) (hg:W.grownBy W' row) (hr:∀ k,row=some k→N≤k):Kq m N B W W' :=
 ⟨(Below.refl _ _).grown hg (Nat.le_trans hm hN) (fun k e=>Nat.le_trans hm (hr k e)),fun k hk _=>hg.block k (by omega) (fun e=>by have:=hr k e.symm;omega)⟩
theorem Kq.put {m N B:Nat} (hm:m≤N) (W:World) (l:Nat) (o o':Obj) (hl:N≤l) (h:W.heap[l]?=some o):Kq m N B W (W.putObj l o') :=
 ⟨(Below.refl m W).grown (grownBy_putObj' W l o') (by have:=(Array.getElem?_eq_some_iff.1 h).1;omega) (fun k e=>by cases e;omega),fun k hk _=>World.putObj_heap_other (by omega)⟩
def bkV (xs:List WE) (x:Fin xs.length):Array Value:=#[.int .i64 (x.1:Int),weV xs[x.1]]
set_option maxRecDepth 100000 in
set_option maxHeartbeats 2000000 in
theorem back1 (n:Nat) (hn:1≤n) (l Bs m N B cap:Nat) (wa:Option Addr) (xs:List WE) (hx:xs.length≤maxLen) (J Jx:List (Fin xs.length)→World→Prop)
  (hY:∀ pre x W,J pre W→pre.length<xs.length→YieldAt Fence.wide (n - 1) Tryz.prog l (bkV xs x) W fun e W'=>(e = .returned (.bool true)∧J (pre ++ [x]) W'∧Kq m N B W W') ∨ (e = .returned (.bool false)∧Jx (pre ++ [x]) W'))
  (W:World) (hBs:W.cell? ⟨Bs,0,none⟩=some (.slice wa xs.length cap)) (hc:∀ i (h:i<xs.length),∃ b,wa=some ⟨b,0,none⟩∧∀ wr,Kq m N B W wr→∀ k,k<7→wr.cell? ⟨b,i * 7+k,none⟩=(weC xs[i])[k]?) (hB0:Bs<N∧Bs ≠ B) (h0:J [] W) :
  CallsIn Fence.wide n Tryz.prog 111 #[.func (.yield l) #[] #[],.pointer (some ⟨Bs,0,none⟩)] W fun e W'=>(∃ v,e = .returned v) ∧
   ((∃ ys:List (Fin xs.length),ys.map Fin.val=(List.range xs.length).reverse∧J ys W') ∨ (∃ pre,True∧Jx pre W')):=by
 unfold maxLen at hx
 refine callsIn_of_wp Tryz.func111 rfl trivial ?_ rfl
 simp only [Tryz.ntmps111,List.size_toArray,List.length_cons,List.length_nil,Nat.reduceAdd,Nat.reduceSub,Array.replicate_succ,Array.replicate_zero,List.push_toArray,List.append_toArray,List.nil_append,List.cons_append]
 gi_wp2
 gi_loopw [3] (fun i wr=>∃ k:Nat,k≤xs.length∧i = .int .i64 ((xs.length:Int) - 1 - k)∧∃ pre:List (Fin xs.length),pre.map Fin.val=(List.range xs.length).reverse.take k∧J pre wr∧Kq m N B W wr) (fun i _=>(intOf i+1).toNat)
 case atStart=>exact⟨0,Nat.zero_le _,by simp,[],by simp,h0,Kq.refl _ _ _ _⟩
 case round =>
  obtain ⟨k,hk,rfl,pre,hpre,hJs,hnx⟩:=hrel
  have hBs':wr.cell? ⟨Bs,0,none⟩=some (.slice wa xs.length cap):=hnx.cell (p:=⟨Bs,0,none⟩) hB0.1 hB0.2 hBs
  have hlen:pre.length=k:=by
   have:=congrArg List.length hpre
   simpa [Nat.min_eq_left hk] using this
  by_cases hlt:k<xs.length
  ·obtain ⟨i,hi⟩:∃ i:Nat,i+k+1=xs.length:=⟨xs.length - 1 - k,by omega⟩
   have hi2:i<xs.length:=by omega
   obtain ⟨fn,tmps,assign,body,hy,hR⟩:=hY pre ⟨i,hi2⟩ wr hJs (by omega)
   have e0:((xs.length:Int) - 1 - k)=(i:Int):=by omega
   rw [e0]
   obtain ⟨b,hwa,hc'⟩:=hc i hi2
   subst hwa
   have c0:=hc' wr hnx 0 (by omega)
   have c1:=hc' wr hnx 1 (by omega)
   have c2:=hc' wr hnx 2 (by omega)
   have c3:=hc' wr hnx 3 (by omega)
   have c4:=hc' wr hnx 4 (by omega)
   have c5:=hc' wr hnx 5 (by omega)
   have c6:=hc' wr hnx 6 (by omega)
   obtain ⟨x,hx'⟩:∃ x,xs[i]=x:=⟨_,rfl⟩
   simp only [bkV] at hy
   simp only [hx',weC,weV,List.getElem?_cons_zero,List.getElem?_cons_succ,Nat.add_zero] at c0 c1 c2 c3 c4 c5 c6 hy
   have hii:(i:Int)<xs.length:=by omega
   have hnext:(pre ++ [(⟨i,hi2⟩:Fin xs.length)]).map Fin.val=(List.range xs.length).reverse.take (k+1):=by
    rw [List.map_append,hpre,List.take_succ_eq_append_getElem (by simp;omega)]
    simp
    omega
   clear hc hc' hx' e0
   gi_wp2
   refine hR.mono ?_
   rintro e W3 (⟨rfl,hJ3,hk3⟩ | ⟨rfl,hJx3⟩)
   ·gi_wp2
    go_roundw
    case rel=>exact⟨k+1,by omega,by congr 1<;>omega,_,hnext,hJ3,hnx.trans hk3⟩
    case measure=>simp [intOf]<;>omega
   ·gi_wp2
    refine bodyPost_ret (results_none rfl _ _ _) rfl ?_
    exact⟨⟨_,rfl⟩,.inr ⟨_,trivial,hJx3⟩⟩
  ·obtain rfl:k=xs.length:=by omega
   gi_wp2
   go_end0
   exact⟨⟨_,rfl⟩,.inl ⟨pre,by rw [hpre,List.take_of_length_le (by simp)],hJs⟩⟩
set_option maxHeartbeats 1000000 in
theorem backF (n:Nat) (a:Option Addr) (len cap:Nat) (w:World) :
  CallsIn Fence.wide n Tryz.prog 82 #[.slice a len cap] w fun e w'=>e = .returned (.func (.func 111) #[] #[.pointer (some ⟨w.heap.size,0,none⟩)])∧w'=w.alloc (.cells #[.slice a len cap] 114):=by
 refine callsIn_of_wp Tryz.func82 rfl trivial ?_ rfl
 simp only [Tryz.ntmps82,List.size_toArray,List.length_cons,List.length_nil,Nat.reduceAdd,Nat.reduceSub,Array.replicate_succ,Array.replicate_zero,List.push_toArray,List.append_toArray,List.nil_append,List.cons_append]
 gi_wp2
 go_ret
 exact⟨rfl,rfl⟩
theorem own_row_apart {W:World} {N e sz n:Nat} {v:Value} {xs:List Value} {row:Option Nat} (h:W.ownsRow N e sz v n xs) (hr:∀ r,row=some r→∃ o:Obj,W.heap[r]?=some o∧o.isCells=false):v.ownBlock=none ∨ v.ownBlock ≠ row:=by
 rcases h.2 with ⟨rfl,_⟩ | ⟨g,cap,cur,rfl,_,hg,_⟩
 ·exact .inl rfl
 ·refine .inr fun e=>?_
  obtain ⟨o,ho,hc⟩:=hr g e.symm
  rw [hg] at ho
  cases ho
  cases hc
structure IL (w:World) (B N:Nat) (L:List FieldD) (W:World):Prop where
 ex:∃ v,W.cell? ⟨B,0,none⟩=some v∧W.frozen? ⟨B,0,none⟩=false∧W.ownsRow N 61 3 v L.length (L.flatMap cFl)
 bel:Below w.heap.size w W
 big:N≤W.heap.size
theorem IL.own {β:Type} {w:World} {B N:Nat} (f:β→List FieldD) (hN:w.heap.size≤N):OwnFrom N (fun s W=>IL w B N (f s) W):=fun s W W' row hs hg hr=>by
 obtain ⟨⟨v,h1,h2,h3⟩,h4,h5⟩:=hs
 exact⟨⟨v,(cell_kept h1 hg (fun r e=>(hr r e).2)),(frozen_kept h1 hg (fun r e=>(hr r e).2)).trans h2,h3.kept hg (own_row_apart h3 fun r e=>(hr r e).2)⟩,h4.grown hg h4.size (fun k e=>Nat.le_trans hN (hr k e).1),Nat.le_trans h5 hg.size⟩
theorem IL.alloc {w:World} {B N:Nat} {L:List FieldD} {W:World} (h:IL w B N L W) (hN:w.heap.size≤N) (o:Obj):IL w B N L (W.alloc o):=by
 obtain ⟨⟨v,h1,h2,h3⟩,h4,h5⟩:=h
 have hl:=World.block_lt_of_cell? _ _ h1
 exact⟨⟨v,(World.cell?_of_block (Below.heap_alloc _ _ _ hl)).trans h1,(World.frozen?_of_block (Below.heap_alloc _ _ _ hl)).trans h2,h3.alloc o⟩,h4.alloc h4.size _,by simp;omega⟩
theorem flat8 {β:Type} {f:β→List FieldD}:∀ (l:List β),(∀ y,(f y).length≤8)→(l.flatMap f).length≤8 * l.length
 | [],_=>by simp
 | y :: l,h=>by
  have h1:=flat8 l h
  have h2:=h y
  simp only [List.flatMap_cons,List.length_append,List.length_cons]
  omega
def fsW (T:List WE):List FieldD:=T.reverse.flatMap fun x=>ownF x.c
theorem fs_of_range (T:List WE) (ys:List (Fin T.length)) (h:ys.map Fin.val=(List.range T.length).reverse):ys.flatMap (fun x=>ownF (T[x.1]).c)=fsW T:=by
 have e1:ys.flatMap (fun x=>ownF (T[x.1]).c)=(ys.map Fin.val).flatMap fun j=>(T[j]?).elim [] fun x=>ownF x.c:=by
  rw [List.flatMap_map]
  congr 1
  funext x
  simp
 have e2:(List.range T.length).map (fun j=>T[j]?)=T.map some:=by
  apply List.ext_getElem
  ·simp
  ·intro i h1 h2
   simp at h1
   simp [h1]
 have e3:∀ l:List Nat,(l.flatMap fun j=>(T[j]?).elim [] fun x=>ownF x.c)=(l.map fun j=>T[j]?).flatMap fun o=>o.elim [] fun x=>ownF x.c:=fun l=>by rw [List.flatMap_map]
 rw [e1,h,e3,List.map_reverse,e2,← List.map_reverse,List.flatMap_map]
 rfl
theorem own_cells {W:World} {N e sz n r:Nat} {v:Value} {xs:List Value} {o:Obj} (h:W.ownsRow N e sz v n xs) (hr:v.ownBlock=some r) (ho:W.heap[r]?=some o):o.isCells=true:=by
 rcases h.2 with ⟨rfl,_⟩ | ⟨g,cap,cur,rfl,_,hg,_⟩
 ·simp [Value.ownBlock] at hr
 ·simp [Value.ownBlock] at hr
  subst hr
  rw [hg] at ho
  cases ho
  rfl
theorem own_low3 {w:World} {B B' e s n:Nat} {v:Value} {xs:List Value} (h:w.ownsRow B e s v n xs) (hB:B'≤B):w.ownsRow B' e s v n xs:=by
 refine ⟨h.1,?_⟩
 rcases h.2 with hn | ⟨g,cap,cur,rfl,hb,rest⟩
 ·exact .inl hn
 ·exact .inr ⟨g,cap,cur,rfl,Nat.le_trans hB hb,rest⟩
theorem nodup_len3:∀ (l L:List ByteArray),l.Nodup→(∀ x ∈ l,x ∈ L)→l.length≤L.length
 | [],_,_,_=>Nat.zero_le _
 | x :: xs,L,hn,hs=>by
  have hx:=hs x (by simp)
  have h1:=nodup_len3 xs (L.eraseP fun y=>decide (y=x)) (List.nodup_cons.1 hn).2 fun y hy=>(List.mem_eraseP_of_neg (by simp only [decide_eq_true_eq];intro e;subst e;exact (List.nodup_cons.1 hn).1 hy)).2 (hs y (by simp [hy]))
  have h2:=List.length_eraseP_of_mem (p:=fun y=>decide (y=x)) hx (by simp)
  have h3:=List.length_pos_of_mem hx
  simp only [List.length_cons]
  omega
theorem wy_len (E:List WE) (n:ByteArray):(wyG E n).length≤E.length:=by
 have h:=wayG_inv (nm:=nmE) (su:=suE) E (E.length+1) [] n (by simp) (by simp)
 have:=nodup_len3 ((wyG E n).map nmE) (E.map nmE) h.1 (fun x hx=>by obtain ⟨y,hy,rfl⟩:=List.mem_map.1 hx;exact List.mem_map_of_mem (h.2.1 y hy))
 simpa using this
set_option maxRecDepth 100000 in
set_option maxHeartbeats 4000000 in
theorem implFieldsG (lv:Value) (r:Option Nat) (T:List WE) (n:ByteArray) (w:World) (hT1:T.length≤100) (hl:∃ a k c,lv = .slice a k c)
  (hw:∀ w',Below w.heap.size w w'→Calls Tryz.prog 83 #[.agg #[lv,.map r],.string n] w' fun e w2=>Below w'.heap.size w' w2∧∃ v,e = .returned v∧w2.ownsRow w'.heap.size 102 7 v T.length (T.flatMap weC))
  (hel:∀ x ∈ T,(fsC x.c).length≤8∧fieldR.slice.In w [x.vc] (fsC x.c)) :
  Calls Tryz.prog 42 #[.agg #[lv,.map r],.string n] w fun e w'=>Below w.heap.size w w'∧∃ u,e = .returned u∧w'.ownsRow w.heap.size 61 3 u (fsW T).length ((fsW T).flatMap cFl):=by
 have HWu:Hid (∀ w',Below w.heap.size w w'→CallsIn Fence.wide 7 Tryz.prog 83 #[.agg #[lv,.map r],.string n] w' fun e w2=>Below w'.heap.size w' w2∧∃ v,e = .returned v∧w2.ownsRow w'.heap.size 102 7 v T.length (T.flatMap weC)):=fun w' hb=>callsIn_wide.2 (hw w' hb)
 obtain ⟨la,lk,lc,rfl⟩:=hl
 refine (callsIn_wide (n:=8)).1 ?_
 refine callsIn_of_wp_marks Tryz.func42 rfl trivial ?_ rfl
 simp only [Tryz.ntmps42,List.size_toArray,List.length_cons,List.length_nil,Nat.reduceAdd,Nat.reduceSub,Array.replicate_succ,Array.replicate_zero,List.push_toArray,List.append_toArray,List.nil_append,List.cons_append]
 have HB0:Hid (∀ o1 o2,Below w.heap.size w ((w.alloc o1).alloc o2)):=fun o1 o2=>((Below.refl _ _).alloc (Nat.le_refl _) _).alloc (by simp) _
 gi_wp2
 refine ⟨trivial,(HWu.out _ (HB0.out _ _)).mono ?_⟩
 rintro e w2 ⟨hb2,v,rfl,hown⟩
 obtain ⟨wa,wc,rfl⟩:=own_sl3 hown
 gi_wp2
 refine ⟨trivial,(backF _ _ _ _ _).mono ?_⟩
 rintro e w3 ⟨rfl,hw3⟩
 gi_wp2
 have hz2:w.heap.size+2≤w2.heap.size:=by have:=hb2.size;simpa using this
 have HB2:Hid (Below w.heap.size w w2):=(HB0.out (.cells #[.slice la lk lc,.map r] 72) (.cells #[.slice none 0 0] 24)).trans (hb2.mono (by simp;omega))
 have HCB:Hid (w2.cell? ⟨w.heap.size+1,0,none⟩=some (.slice none 0 0)∧w2.frozen? ⟨w.heap.size+1,0,none⟩=false):=by
  have e:=hb2.block (w.heap.size+1) (by simp)
  exact⟨(World.cell?_of_block e).trans (by simp [go_sem]),(World.frozen?_of_block e).trans (by simp [go_sem])⟩
 have HWY:Hid (∀ i (h:i<T.length),∃ b,wa=some ⟨b,0,none⟩∧b<w2.heap.size∧b ≠ w.heap.size+1∧∀ k,k<7→w2.cell? ⟨b,i * 7+k,none⟩=(weC T[i])[k]?):=fun i hi=>by
  rcases hown.2 with ⟨e,h0⟩ | ⟨g,cap,cur,e,h2,h3,_⟩
  ·omega
  ·injection e with e1 e2 e3
   subst e1
   subst e3
   exact⟨g,rfl,(Array.getElem?_eq_some_iff.1 h3).1,by simp at h2;omega,fun k hk=>by rw [hown.cellAt (i * 7+k) (by omega),flat7 _ i k hi hk]⟩
 have hT:T.length≤maxLen:=by
  rcases hown.2 with ⟨e,h0⟩ | ⟨g,cap,cur,e,h2,h3,h4,h5,_⟩
  ·omega
  ·omega
 have HEL:=(show Hid (∀ x ∈ T,(fsC x.c).length≤8∧fieldR.slice.In w [x.vc] (fsC x.c)) from hel)
 obtain ⟨i0,hi0,hz0,hz1,hz2'⟩:=info_parts infoFld
 have HIF:Hid (Tryz.prog.info? 61 = some i0∧i0.zero=some (.agg #[.string ⟨#[]⟩,.string ⟨#[]⟩,.bool false])∧i0.size=3∧i0.bytes=40):=⟨hi0,hz0,hz1,hz2'⟩
 clear hi0 hz0 hz1 hz2' hb2 hown hel hw HWu HB0
 obtain ⟨w3,hw3⟩:∃ w3,w2.alloc (.cells #[.slice wa T.length wc] 114)=w3:=⟨_,rfl⟩
 have hN:w3.heap.size=w2.heap.size+1:=by rw [← hw3];simp
 have hB3:Below w2.heap.size w2 w3:=by rw [← hw3];exact (Below.refl _ _).alloc (Nat.le_refl _) _
 have hBs:w3.cell? ⟨w2.heap.size,0,none⟩=some (.slice wa T.length wc):=by rw [← hw3];simp [go_sem]
 rw [hw3]
 clear hw3
 have h0:IL w (w.heap.size+1) w3.heap.size [] w3:=⟨⟨.slice none 0 0,carry hB3 (by show w.heap.size+1<w2.heap.size;omega) HCB.out.1,carryF hB3 (by show w.heap.size+1<w2.heap.size;omega) HCB.out.2,World.ownsRow_nil _ _ _ _⟩,HB2.out.trans (hB3.mono HB2.out.size),Nat.le_refl _⟩
 have hseq:SeqStopsK Fence.wide 7 Tryz.prog 111 #[.pointer (some ⟨w2.heap.size,0,none⟩)] (bkV T) (Kq w.heap.size w3.heap.size (w.heap.size+1)) (fun ys=>ys.map Fin.val=(List.range T.length).reverse) (fun _=>True) T.length w3:=fun l J Jx W hW _ _ hY h0' =>
  back1 7 (by omega) l w2.heap.size w.heap.size w3.heap.size (w.heap.size+1) wc wa T hT J Jx hY W (carry hW (by show w2.heap.size<w3.heap.size;omega) hBs) (fun i hi=>by
   obtain ⟨b,e,hb1,hb2,hb3⟩:=HWY.out i hi
   refine ⟨b,e,fun wr hk k hk7=>?_⟩
   rw [← hb3 k hk7]
   have e1:wr.heap[b]?=w2.heap[b]?:=(hk.blk b (by omega) hb2).trans ((hW.block b (by omega)).trans (hB3.block b hb1))
   exact World.cell?_of_block e1) ⟨by omega,by omega⟩ h0'
 refine wpIn_rangeFunc_ownH rfl (by omega) (gf:=111) (lb:=#[.pointer (some ⟨w2.heap.size,0,none⟩)]) rfl trivial (enters_of Tryz.func111 (by kernel_rfl) rfl)
  hseq Kq.trans (fun W l o o' hl h _ _=>Kq.put (m:=w.heap.size) (N:=w3.heap.size) (B:=w.heap.size+1) (by omega) W l o o' hl h) (Below.refl _ _) (fun _=>rfl)
  (fun pre W=>IL w (w.heap.size+1) w3.heap.size (pre.flatMap fun x=>ownF (T[x.1]).c) W)
  (fun _ _ _=>False)
  (IL.own (w:=w) (N:=w3.heap.size) (B:=w.heap.size+1) _ (by omega))
  (fun _ _ _ _ _ hs _ _=>hs)
  h0
  (fun x a' W=>∃ Bx,w3.heap.size≤Bx∧W.cell? ⟨Bx,4,none⟩=some (T[x.1]).vc∧a' = { tmps:=#[.agg #[.slice la lk lc,.map r],.string n,.pointer (some ⟨w.heap.size,0,none⟩),undef,.slice none 0 0,.pointer (some ⟨w.heap.size+1,0,none⟩),undef,.pointer (some ⟨Bx,0,none⟩),undef,undef,.agg #[.slice la lk lc,.map r],.string n,.slice wa T.length wc,.func (.func 111) #[] #[.pointer (some ⟨w2.heap.size,0,none⟩)],.int .i64 (x.1:Int),weV T[x.1],undef,undef,undef,undef,undef,undef,undef,undef,undef,undef,undef,undef,undef,undef,undef,undef,undef],defers:=[] })
  (fun x a' _ X Y row hs hg hr=>by obtain ⟨Bx,h1,h2,h3⟩:=hs;exact⟨Bx,h1,cell_kept h2 hg (fun r e=>(hr r e).2),h3⟩)
  ?assign ?body ?done ?stop
 case assign =>
  rintro l pre x W K hI hK
  simp only [bkV]
  obtain ⟨X,hX⟩:∃ X,T[x.1]=X:=⟨_,rfl⟩
  rw [hX] at hK ⊢
  simp only [weV] at hK ⊢
  gi_wp2
  exact hK _ _ ((KeepsOthers.alloc _ _).from _) (Kq.alloc (by omega) hI.big _) (hI.alloc (by omega) _) ⟨W.heap.size,hI.big,by simp [go_sem],rfl⟩
 case body =>
  rintro l pre x a' W hl ⟨rr,hrr⟩ hI ⟨Bx,hBx,bX,rfl⟩ hlt
  obtain ⟨X,hX⟩:∃ X,T[x.1]=X:=⟨_,rfl⟩
  have hXm:X ∈ T:=by rw [← hX];exact List.getElem_mem _
  have hGE:Hid ((pre ++ [x]).flatMap (fun x=>ownF (T[x.1]).c)=pre.flatMap (fun x=>ownF (T[x.1]).c) ++ ownF X.c):=by show _=_;simp [hX]
  obtain ⟨hx8,hxf⟩:=HEL.out X hXm
  rw [hX] at bX ⊢
  obtain ⟨g,hg⟩:∃ g,pre.flatMap (fun x=>ownF (T[x.1]).c)=g:=⟨_,rfl⟩
  rw [hg] at hI hGE
  have hgl:g.length≤8 * pre.length:=by rw [← hg];exact flat8 _ fun y=>Nat.le_trans (List.length_filter_le _ _) (HEL.out _ (List.getElem_mem y.2)).1
  have HG:=(show Hid (IL w (w.heap.size+1) w3.heap.size g W) from hI)
  clear hg hX
  obtain ⟨fa,fcap,e9,hfn,hfc,hfat⟩:=slice_open (by decide) hxf
  have HFA:=(show Hid (∀ k (h:k<(fsC X.c).length),∃ b o,fa=some ⟨b,o,none⟩∧fieldR.At w ⟨b,o,none⟩ k (fsC X.c)[k]) from hfat)
  have HOF:Hid (ownF X.c=ownK (fsC X.c) (fsC X.c).length):=(ownK_all _).symm
  rw [HOF.out] at hGE
  rw [e9] at bX
  obtain ⟨fs,hfs⟩:∃ l,fsC X.c=l:=⟨_,rfl⟩
  rw [hfs] at bX hx8 HFA hGE
  clear hfat hxf e9 hfn HOF hfs
  have hp1:pre.length≤100:=by omega
  have hNw:w.heap.size+1<w3.heap.size:=by omega
  gi_wp2
  gi_loopw [20] (fun j wr=>∃ k:Nat,k≤fs.length∧j = .int .i64 (k:Int)∧IL w (w.heap.size+1) w3.heap.size (g ++ ownK fs k) wr∧KeepsFrom w3.heap.size W wr∧Kq w.heap.size w3.heap.size (w.heap.size+1) W wr) (fun j _=>10 - (intOf j).toNat)
  case atStart=>exact⟨0,by omega,rfl,by simpa [ownK] using HG.out,KeepsFrom.refl _ _,Kq.refl _ _ _ _⟩
  case round =>
   obtain ⟨k,hk,rfl,hIr,hKf,hKq⟩:=hrel
   have HIr:=(show Hid (IL w (w.heap.size+1) w3.heap.size (g ++ ownK fs k) wr) from hIr)
   have HK:=(show Hid (KeepsFrom w3.heap.size W wr∧Kq w.heap.size w3.heap.size (w.heap.size+1) W wr) from ⟨hKf,hKq⟩)
   have hbig:=hIr.big
   clear hKf hKq hI
   by_cases hlt2:k<fs.length
   ·obtain ⟨fb,fo,rfl,hfA⟩:=HFA.out k hlt2
    obtain ⟨f0,f1,f2,t0,t1⟩:=fieldAt hfA
    have hfb:fb<w.heap.size:=World.block_lt_of_cell? _ _ f0
    replace f0:=carry hIr.bel hfb f0
    replace f1:=carry hIr.bel hfb f1
    replace f2:=carry hIr.bel hfb f2
    have hki:(k:Int)<fs.length:=by omega
    have hok:=ownK_len fs k
    cases hst:fs[k].2.2
    ·have HY:=(show Hid (ownK fs (k+1)=ownK fs k ++ [fs[k]]) from ownK_yes hlt2 hst)
     obtain ⟨d,hd⟩:∃ d,fs[k]=d:=⟨_,rfl⟩
     rw [hd] at f0 f1 f2 HY hst t0 t1
     rw [hst] at f2
     obtain ⟨gk,hgk⟩:∃ l,g ++ ownK fs k=l:=⟨_,rfl⟩
     rw [hgk] at hIr
     have hgkl:gk.length≤808:=by rw [← hgk,List.length_append];omega
     have HYG:Hid (g ++ ownK fs (k+1)=gk ++ [d]):=by show _=_;rw [HY.out,← hgk];simp
     have HIr:=(show Hid (IL w (w.heap.size+1) w3.heap.size gk wr) from hIr)
     clear hgk HY
     obtain ⟨v,hv,hvf,hown⟩:=hIr.ex
     obtain ⟨vp,vc,rfl⟩:=own_sl3 hown
     have HO:=(show Hid (wr.ownsRow w3.heap.size 61 3 (.slice vp gk.length vc) gk.length (gk.flatMap cFl)) from hown)
     have HV:=(show Hid (wr.cell? ⟨w.heap.size+1,0,none⟩=some (.slice vp gk.length vc)∧wr.frozen? ⟨w.heap.size+1,0,none⟩=false) from ⟨hv,hvf⟩)
     have HN:Hid (∀ j u,(cFl d)[j]?=some u→((wr.alloc (.cells #[.string d.1,.string d.2.1,.bool false] 61)).alloc (.cells #[.string d.1,.string d.2.1,.bool false] 61)).cell? ((⟨wr.heap.size+1,0,none⟩:Addr).add j)=some u):=by
      have:=fld_news (wr.alloc (.cells #[.string d.1,.string d.2.1,.bool false] 61)) d 61
      rw [hst] at this
      show ∀ j u,_
      simpa using this
     have hvA:∀ o,(wr.alloc o).cell? ⟨w.heap.size+1,0,none⟩=some (.slice vp gk.length vc):=fun o=>(World.cell?_of_block (Below.heap_alloc _ _ _ (World.block_lt_of_cell? _ _ hv))).trans hv
     have hBw:w.heap.size+1<wr.heap.size:=World.block_lt_of_cell? _ _ HV.out.1
     have hrow:∀ r,(Value.slice vp gk.length vc).ownBlock=some r→w3.heap.size≤r:=fun r e=>(HO.out.lt r e).1
     clear hd hst hfA hown hvf hIr
     gi_wp2_with (gi_at_builtin;refine wpListIn_append_own _ rfl _ _ 24 rfl w3.heap.size 61 i0 (.agg #[.string ⟨#[]⟩,.string ⟨#[]⟩,.bool false]) 3 40 Tryz.underlying24 HIF.out.1 HIF.out.2.1 HIF.out.2.2.1 HIF.out.2.2.2 rfl (by decide) _ _ _ rfl ((HO.out.alloc _).alloc _) ⟨wr.heap.size+1,0,none⟩ 1 1 (cFl d) rfl rfl HN.out (fld_one d) (by unfold maxLen;omega) (by omega) (by simp;omega) ?_;intro v' w9 hown9 hgrow _;obtain ⟨tp,tc,rfl⟩:=own_sl3 hown9;have hb9:w9.heap[w.heap.size+1]?=wr.heap[w.heap.size+1]?:=(hgrow.block _ (by simp;omega) (fun e=>by have:=hrow _ e.symm;omega)).trans ((Below.heap_alloc _ _ _ (by simp;omega)).trans (Below.heap_alloc _ _ _ hBw));have hv9:w9.cell? ⟨w.heap.size+1,0,none⟩=some (.slice vp gk.length vc):=(World.cell?_of_block hb9).trans HV.out.1;have hf9:w9.frozen? ⟨w.heap.size+1,0,none⟩=false:=(World.frozen?_of_block hb9).trans HV.out.2)
     have hlen:(gk ++ [d]).length=gk.length+1:=by simp
     have HX:Hid (IL w (w.heap.size+1) w3.heap.size (gk ++ [d]) (w9.setCell ⟨w.heap.size+1,0,none⟩ (.slice tp (gk.length+1) tc))):=by
      have hb:Below w.heap.size w w9:=((HIr.out.bel.alloc HIr.out.bel.size _).alloc (by have:=HIr.out.bel.size;simp;omega) _).grown hgrow (by have:=HIr.out.bel.size;simp;omega) (fun r e=>Nat.le_trans (by omega) (hrow r e))
      refine ⟨⟨_,World.cell?_setCell_same' _ _ _ (by rw [hv9];rfl),by rw [World.frozen?_setCell];exact hf9,?_⟩,hb.setCell (p:=⟨w.heap.size+1,0,none⟩) (by show w.heap.size≤w.heap.size+1;omega) _,?_⟩
      ·have h9:w9.ownsRow w3.heap.size 61 3 (.slice tp (gk.length+1) tc) (gk ++ [d]).length ((gk ++ [d]).flatMap cFl):=by
        rw [hlen]
        simpa [List.flatMap_append] using hown9
       refine h9.kept (grownBy_setCell' w9 (w.heap.size+1) _) ?_
       cases hq:(Value.slice tp (gk.length+1) tc).ownBlock with
       | none=>exact .inl rfl
       | some r=>exact .inr fun e=>by cases e;have:=(h9.lt _ hq).1;omega
      ·have:=hgrow.size
       simp at this
       simp
       omega
     have HX2:Hid (KeepsFrom w3.heap.size W (w9.setCell ⟨w.heap.size+1,0,none⟩ (.slice tp (gk.length+1) tc))∧Kq w.heap.size w3.heap.size (w.heap.size+1) W (w9.setCell ⟨w.heap.size+1,0,none⟩ (.slice tp (gk.length+1) tc))):=by
      have hoc:∀ (r:Nat) (o:Obj),(Value.slice vp gk.length vc).ownBlock=some r→((wr.alloc (.cells #[.string d.1,.string d.2.1,.bool false] 61)).alloc (.cells #[.string d.1,.string d.2.1,.bool false] 61)).heap[r]?=some o→o.isCells=true:=fun r o e ho=>own_cells ((HO.out.alloc _).alloc _) e ho
      exact⟨HK.out.1.trans (((((KeepsOthers.alloc wr (.cells #[.string d.1,.string d.2.1,.bool false] 61)).trans (KeepsOthers.alloc _ (.cells #[.string d.1,.string d.2.1,.bool false] 61))).trans (KeepsOthers.of_grownBy hgrow hoc)).trans (KeepsOthers.setCell _ _ _)).from _),
       HK.out.2.trans (((Kq.alloc (by omega) hbig _).trans (Kq.alloc (by omega) (by simp;omega) _)).trans ((Kq.grown (by omega) (by simp;omega) hgrow hrow).trans (Kq.set (by omega) _)))⟩
     clear hown9 hgrow HN hrow hb9 hlen hvA hv
     gi_wp2
     go_roundw
     case rel=>exact⟨k+1,by omega,by congr 1,by rw [HYG.out];exact HX.out,HX2.out.1,HX2.out.2⟩
     case measure=>simp [intOf];omega
    ·have HY:=(show Hid (ownK fs (k+1)=ownK fs k) from ownK_no hlt2 hst)
     rw [hst] at f2
     obtain ⟨d,hd⟩:∃ d,fs[k]=d:=⟨_,rfl⟩
     rw [hd] at f0 f1
     clear hst hfA hIr hd
     gi_wp2
     go_roundw
     case rel=>exact⟨k+1,by omega,by congr 1,by rw [HY.out];exact HIr.out.alloc (by omega) _,HK.out.1.trans ((KeepsOthers.alloc _ _).from _),HK.out.2.trans (Kq.alloc (by omega) hbig _)⟩
     case measure=>simp [intOf];omega
   ·obtain rfl:k=fs.length:=by omega
    gi_wp2
    exact⟨HK.out.1,HK.out.2,by show IL _ _ _ _ _;rw [hGE.out];exact HIr.out⟩
 case done =>
  rintro D ys W hD hS ⟨⟨v,hv,hvf,hown⟩,hbel,hbig⟩ hK
  have HE:Hid (ys.flatMap (fun x=>ownF (T[x.1]).c)=fsW T):=fs_of_range _ _ hS
  gi_wp2
  refine ⟨by simp,.inl ⟨_,_,rfl,run_takeDeferred hK,?_⟩⟩
  rw [HE.out] at hown
  exact⟨_,results_tmp rfl _ _ _,hbel.trans (belowK_b (w:=w) (Nat.le_refl _) W D _ _ (by omega) hK rfl rfl),v,rfl,own_low3 (ownsRow_putObj hown _ hK rfl) (by omega)⟩
 case stop =>
  rintro D c pre W hD _ h _
  exact h.elim
theorem implFieldsW (lv:Value) (r:Nat) (E:List WE) (es:Array MapEntry) (ck:Nat) (n:ByteArray) (w:World) (h:WmIs w r E es ck) (hn:n.size≤maxLen) (hl:∃ a k c,lv = .slice a k c) (hE:E.length≤100) (hf8:∀ x ∈ E,(fsC x.c).length≤8) :
  Calls Tryz.prog 42 #[wdV lv r,.string n] w fun e w'=>Below w.heap.size w w'∧∃ u,e = .returned u∧w'.ownsRow w.heap.size 61 3 u (fsW (wyG E n)).length ((fsW (wyG E n)).flatMap cFl) :=
 implFieldsG lv (some r) (wyG E n) n w (by have:=wy_len E n;omega) hl (fun w' hb=>implWayUp lv r E es ck n w' (h.below hb) hn hl hE) fun x hx=>⟨hf8 x (wy_sub E n x hx),(h.lies x (wy_sub E n x hx)).f⟩
end
section
open Go.RowKit
set_option maxRecDepth 20000
set_option linter.unusedVariables false
theorem set_self {w:World} {p:Addr} {v:Value} (h:w.cell? p=some v):w.setCell p v=w:=by
 unfold World.setCell
 unfold World.cell? at h
 split at h<;>rename_i hh
 ·simp only [Option.ite_none_left_eq_some] at h
  obtain ⟨hs,h⟩:=h
  rename_i c t f
  have hc:∀ c:Array Value,c[p.off]?=some v→c.setIfInBounds p.off v=c:=fun c h=>by
   apply Array.ext_getElem?
   intro i
   rw [Array.getElem?_setIfInBounds]
   split
   ·next e =>
    subst e
    rw [h]
    split
    ·rfl
    ·next hn=>rw [Array.getElem?_eq_none (by omega)] at h;cases h
   ·rfl
  congr 1
  apply Array.ext_getElem?
  intro i
  rw [Array.getElem?_modify]
  split
  ·next e=>subst e;rw [hh];simp [hc _ h]
  ·rfl
 ·cases h
noncomputable def foV (L:List CTup) (n:ByteArray):List FieldD:=if n.size≤20000∧rtB L=true then fldL L n else []
theorem bi_fs:∀ b ∈ biC,fsC b=[]:=by decide
theorem cls_f8 {L:List CTup} (hR:Right L):∀ c ∈ allC L,(fsC c).length≤8:=fun c hc=>by
 rcases List.mem_append.1 hc with h | h
 ·rw [bi_fs c h];simp
 ·obtain ⟨i,hi,rfl⟩:=List.mem_iff_getElem.1 h
  exact (hR.part.ok i hi hi).fl
theorem fs_tie {E:List WE} {L:List CTup} (hR:Right L) (h:E.map WE.c=allC L) (n:ByteArray):fsW (wyG E n)=fldL L n:=by
 obtain ⟨tl,h1,h2⟩:=wyS hR h n
 have e:fsW (wyG E n)=((wyG E n).map WE.c).reverse.flatMap ownF:=by unfold fsW;rw [← List.map_reverse,List.flatMap_map]
 have e2:tl.reverse.flatMap ownF=[]:=by
  rw [List.flatMap_eq_nil_iff]
  intro b hb
  unfold ownF
  rw [bi_fs b (h2 b (List.mem_reverse.1 hb))]
  rfl
 rw [e,h1,List.reverse_append,List.flatMap_append,e2]
 rfl
theorem fld_long {L:List CTup} (hR:Right L) {n:ByteArray} (h:20<n.size):fldL L n=[]:=by
 apply fldL_none
 unfold lkG
 rw [List.find?_eq_none]
 intro c hc
 have:=all_size hR.part c (List.mem_append_right _ hc)
 simp only [decide_eq_true_eq]
 intro e
 rw [e] at this
 omega
set_option maxHeartbeats 2000000 in
theorem specFieldsOf (L:List CTup) (v:Value) (n:ByteArray) (w:World) (h:classR.slice.In w [v] L) (hn:n.size≤maxLen) :
  Calls Tryz.prog 10 #[v,.string n] w fun e w'=>Below w.heap.size w w'∧∃ u,e = .returned u∧w'.ownsRow w.heap.size 61 3 u (foV L n).length ((foV L n).flatMap cFl):=by
 have HRt:Hid (Calls Tryz.prog 38 #[v] w fun e w2=>e = .returned (.bool (rtB L))∧Below w.heap.size w w2):=specRight L v w h
 have HFm:Hid (rtB L=true→∀ w',Below w.heap.size w w'→Calls Tryz.prog 39 #[v,.string n] w' fun e w2=>Below w'.heap.size w' w2∧∃ u,e = .returned u∧w2.ownsRow w'.heap.size 61 3 u (fldL L n).length ((fldL L n).flatMap cFl)):=fun hr w' hb =>
  have hR:=rt_right hr
  specFieldsL L v (Past.acyL fun q hq=>hR.2 q (by omega)) (by have:=hR.1;omega) (fun c hc=>cls_f8 hR c (List.mem_append_right _ hc)) _ n w' (classR.slice.mono _ _ _ _ hb h) (Nat.lt_succ_self _)
 obtain ⟨va,vcap,rfl,hvn,hvc,_⟩:=slice_open (by decide) h
 unfold maxLen at hn hvc
 clear h
 by_cases k1:20000<n.size
 ·have HZ:Hid (foV L n=[]):=by unfold foV;exact if_neg (by omega)
  have c1:decide ((20000:Int)<(n.size:Int))=true:=by simp;omega
  have HO:Hid (Below w.heap.size w (w.alloc (.cells #[] 61))∧(w.alloc (.cells #[] 61)).ownsRow w.heap.size 61 3 (.slice (some ⟨w.heap.size,0,none⟩) 0 0) 0 []):=⟨(Below.refl _ _).alloc (Nat.le_refl _) _,World.ownsRow_lit w #[] 0 (Nat.le_refl _) (by unfold maxLen;omega) rfl⟩
  clear HRt HFm
  go_enter Tryz.func10,Tryz.ntmps10
  go_wp2
  go_ret
  rw [HZ.out]
  exact⟨HO.out.1,_,rfl,HO.out.2⟩
 have c1:decide ((20000:Int)<(n.size:Int))=false:=by simp;omega
 cases hr:rtB L with
 | false =>
  rw [hr] at HRt
  have HZ:Hid (foV L n=[]):=by unfold foV;exact if_neg (by simp [hr])
  clear HFm
  go_enter Tryz.func10,Tryz.ntmps10
  go_wp2_with fail
  refine Calls.mono HRt.out ?_
  rintro e w1 ⟨rfl,hb1⟩
  have HO:Hid (Below w.heap.size w (w1.alloc (.cells #[] 61))∧(w1.alloc (.cells #[] 61)).ownsRow w.heap.size 61 3 (.slice (some ⟨w1.heap.size,0,none⟩) 0 0) 0 []):=⟨hb1.alloc hb1.size _,World.ownsRow_lit w1 #[] 0 hb1.size (by unfold maxLen;omega) rfl⟩
  clear hb1
  go_wp2
  go_ret
  rw [HZ.out]
  exact⟨HO.out.1,_,rfl,HO.out.2⟩
 | true =>
  rw [hr] at HRt
  have HZ:Hid (foV L n=fldL L n):=by unfold foV;exact if_pos ⟨by omega,hr⟩
  have HF:=(show Hid _ from HFm.out hr)
  clear HFm
  go_enter Tryz.func10,Tryz.ntmps10
  go_wp2_with fail
  refine Calls.mono HRt.out ?_
  rintro e w1 ⟨rfl,hb1⟩
  have HB1:Hid (Below w.heap.size w w1):=hb1
  clear hb1
  go_wp2_with fail
  refine Calls.mono (HF.out _ HB1.out) ?_
  rintro e w2 ⟨hb2,u,rfl,hown⟩
  obtain ⟨up,uc,rfl⟩:=own_sl3 hown
  have HX:Hid (Below w.heap.size w w2∧w2.ownsRow w.heap.size 61 3 (.slice up (fldL L n).length uc) (fldL L n).length ((fldL L n).flatMap cFl)):=⟨HB1.out.trans (hb2.mono HB1.out.size),own_low3 hown HB1.out.size⟩
  clear hb2 hown
  go_wp2
  go_ret
  rw [HZ.out]
  exact⟨HX.out.1,_,rfl,HX.out.2⟩
theorem _root_.Go.World.ownsRow.blocks3 {w w':World} {B e s n:Nat} {v:Value} {xs:List Value} (hh:w.ownsRow B e s v n xs) (hb:∀ k,k<w.heap.size→w'.heap[k]?=w.heap[k]?):w'.ownsRow B e s v n xs:=by
 refine ⟨hh.1,?_⟩
 rcases hh.2 with hn | ⟨g,cap,cur,rfl,hB,hgg,rest⟩
 ·exact .inl hn
 ·exact .inr ⟨g,cap,cur,rfl,hB,(hb g (Array.getElem?_eq_some_iff.1 hgg).1).trans hgg,rest⟩
theorem fs_cells {w:World} {B e g uc k:Nat} {fs:List FieldD} (h:w.ownsRow B e 3 (.slice (some ⟨g,0,none⟩) fs.length uc) fs.length (fs.flatMap cFl)) (hk:k<fs.length) :
  w.cell? ⟨g,k * 3,none⟩=some (.string fs[k].1)∧w.cell? ⟨g,k * 3+1,none⟩=some (.string fs[k].2.1)∧w.cell? ⟨g,k * 3+2,none⟩=some (.bool fs[k].2.2):=by
 have go:∀ (xs:List FieldD) (i:Nat) (hi:i<xs.length) (j:Nat),j<3→(xs.flatMap cFl)[i * 3+j]?=(cFl xs[i])[j]?:=by
  intro xs
  induction xs with
  | nil=>intro i hi;simp at hi
  | cons x xs ih =>
   intro i hi j hj
   rw [List.flatMap_cons]
   cases i with
   | zero=>rw [Nat.zero_mul,Nat.zero_add,List.getElem?_append_left (by simpa [cFl] using hj)];rfl
   | succ i =>
    rw [List.getElem?_append_right (by simp [cFl];omega)]
    have e:(i+1) * 3+j - (cFl x).length=i * 3+j:=by simp [cFl];omega
    rw [e]
    exact ih i (by simpa using hi) j hj
 have c:∀ j,j<3→w.cell? ⟨g,k * 3+j,none⟩=(cFl fs[k])[j]?:=fun j hj=>by rw [h.cellAt (k * 3+j) (by omega),go fs k hk j hj]
 exact⟨c 0 (by omega),c 1 (by omega),c 2 (by omega)⟩
theorem fs_froz {w:World} {B e g uc n:Nat} {xs:List Value} (h:w.ownsRow B e 3 (.slice (some ⟨g,0,none⟩) n uc) n xs):∀ j,w.frozen? ⟨g,j,none⟩=false:=fun j=>by
 rcases h.2 with ⟨h1,_⟩ | ⟨g',cap,cur,h1,hB,hgg,_⟩
 ·cases h1
 ·cases h1
  simp [World.frozen?,hgg]
theorem fld_small {L:List CTup} (hR:Right L) {n:ByteArray}:∀ d ∈ fldL L n,d.1.size≤23∧d.2.1.size≤23∧d.2.2=false:=fun d hd=>by
 unfold fldL at hd
 obtain ⟨c,hc,hd⟩:=List.mem_flatMap.1 hd
 have hcL:=CH_sub c (List.mem_reverse.1 hc)
 obtain ⟨i,hi,rfl⟩:=List.mem_iff_getElem.1 hcL
 unfold ownF at hd
 obtain ⟨h1,h2⟩:=List.mem_filter.1 hd
 obtain ⟨j,hj,rfl⟩:=List.mem_iff_getElem.1 h1
 have hg:=(hR.part.ok i hi hi).fg j hj
 unfold fGood at hg
 rw [Bool.and_eq_true] at hg
 exact⟨Nat.le_trans (nameB_le hg.1) (by omega),tyB_size _ hg.2,by simpa using h2⟩
set_option maxHeartbeats 4000000 in
theorem implFieldsOf (L:List CTup) (v:Value) (n:ByteArray) (w:World) (h:classR.slice.In w [v] L) (ht:Tab w) (hg:Glob w) (hn:n.size≤maxLen) :
  Calls Tryz.prog 12 #[v,.string n] w fun e w'=>Below w.heap.size w w'∧∃ u,e = .returned u∧w'.ownsRow w.heap.size 61 3 u (foV L n).length ((foV L n).flatMap cFl):=by
 obtain ⟨va,vcap,rfl,_⟩:=slice_open (by decide) h
 rcases implMake2 L _ w h ht hg with ⟨hr,hm⟩ | ⟨hr,hR,hm⟩
 ·have HZ:Hid (foV L n=[]):=by unfold foV;exact if_neg (by simp [hr])
  have HM:=(show Hid _ from hm)
  clear hm hr h ht hg
  generalize (wOut L).1=o1 at *
  generalize (wOut L).2=o2 at *
  go_enter Tryz.func12,Tryz.ntmps12
  go_wp2_with fail
  refine Calls.mono HM.out ?_
  rintro e w1 ⟨hb1,rfl⟩
  have HB1:Hid (Below w.heap.size w w1):=hb1
  clear hb1
  go_wp2_with fail
  refine Calls.mono (implFieldsG (.slice none 0 0) none [] n _ (by simp) ⟨_,_,_,rfl⟩ (fun w' hb=>(implWayUp0 n hn w').mono fun e w2 h=>⟨h.2,_,h.1,World.ownsRow_nil _ _ _ _⟩) (fun x hx=>by cases hx)) ?_
  rintro e w2 ⟨hb2,u,rfl,hown⟩
  obtain ⟨up,uc,rfl⟩:=own_sl3 hown
  have HB2:Hid (Below w.heap.size w w2):=((HB1.out.alloc HB1.out.size _).alloc (by have:=HB1.out.size;simp;omega) _).trans (hb2.mono (by have:=HB1.out.size;simp;omega))
  have HO:=(show Hid (w2.ownsRow w.heap.size 61 3 (.slice up 0 uc) 0 []) from own_low3 hown (by have:=HB1.out.size;simp;omega))
  clear hb2 hown
  rw [show (fsW []).length=0 from rfl]
  go_wp2_with fail
  go_loopw [20] (fun j wr=>j = .int .i64 0∧wr=w2) (fun _ _=>0)
  case atStart=>exact⟨rfl,rfl⟩
  case round =>
   obtain ⟨rfl,rfl⟩:=hrel
   go_wp2
   go_ret
   rw [HZ.out]
   exact⟨HB2.out,_,rfl,HO.out⟩
 ·have HM:=(show Hid _ from hm)
  have hZ:foV L n=fldL L n:=by
   unfold foV
   by_cases hb:n.size≤20000
   ·exact if_pos ⟨hb,hr⟩
   ·rw [if_neg (by omega),fld_long hR (by omega)]
  have HSM:=(show Hid (∀ d ∈ fldL L n,d.1.size≤23∧d.2.1.size≤23∧d.2.2=false) from fld_small hR)
  have HL8:(fldL L n).length≤80:=by have:=fldL_len (Past.acyL fun q hq=>hR.2 q (by omega)) (fun c hc=>cls_f8 hR c (List.mem_append_right _ hc)) n;have:=hR.1;omega
  have HFW:Hid (∀ (r:Nat) (E:List WE) (es:Array MapEntry) (ck:Nat) w',WmIs w' r E es ck→E.map WE.c=allC L→Calls Tryz.prog 42 #[.agg #[.slice va L.length vcap,.map (some r)],.string n] w' fun e w2=>Below w'.heap.size w' w2∧∃ u,e = .returned u∧w2.ownsRow w'.heap.size 61 3 u (fldL L n).length ((fldL L n).flatMap cFl)):=fun r E es ck w' hw hE=>by
   have:=implFieldsW (.slice va L.length vcap) r E es ck n w' hw hn ⟨_,_,_,rfl⟩ (all_len' hE hR) (fun x hx=>cls_f8 hR _ (by rw [← hE];exact List.mem_map_of_mem hx))
   rw [fs_tie hR hE] at this
   exact this
  rw [hZ]
  clear hm hr h ht hg hZ hR
  generalize (wOut L).1=o1 at *
  generalize (wOut L).2=o2 at *
  go_enter Tryz.func12,Tryz.ntmps12
  go_wp2_with fail
  refine Calls.mono HM.out ?_
  rintro e w1 ⟨hb1,r,E,es,ck,rfl,hwm,hE⟩
  have HB1:Hid (Below w.heap.size w w1):=hb1
  unfold wdV
  go_wp2_with fail
  refine Calls.mono (HFW.out r E es ck _ (hwm.below (below_al2 _ _ _)) hE) ?_
  rintro e w2 ⟨hb2,u,rfl,hown⟩
  obtain ⟨up,uc,rfl⟩:=own_sl3 hown
  have HB2:Hid (Below w.heap.size w w2):=((HB1.out.alloc HB1.out.size _).alloc (by have:=HB1.out.size;simp;omega) _).trans (hb2.mono (by have:=HB1.out.size;simp;omega))
  have HO2:=(show Hid (w2.ownsRow w.heap.size 61 3 (.slice up (fldL L n).length uc) (fldL L n).length ((fldL L n).flatMap cFl)) from own_low3 hown (by have:=HB1.out.size;simp;omega))
  obtain ⟨fs,hfs⟩:∃ fs,fldL L n=fs:=⟨_,rfl⟩
  rw [hfs] at HSM HL8 HO2 ⊢
  have HFS:Hid (fldL L n=fs):=hfs
  clear hfs
  clear hb1 hb2 hown hwm hE HFW HM
  go_wp2_with fail
  go_loopw [20] (fun j wr=>∃ k:Nat,k≤fs.length∧j = .int .i64 (k:Int)∧Below w2.heap.size w2 wr∧wr.ownsRow w.heap.size 61 3 (.slice up fs.length uc) fs.length (fs.flatMap cFl)) (fun j _=>100 - (intOf j).toNat)
  case atStart=>exact⟨0,by omega,rfl,Below.refl _ _,HO2.out⟩
  case round =>
   obtain ⟨k,hk,rfl,hb,hown⟩:=hrel
   have HB:=(show Hid (Below w2.heap.size w2 wr) from hb)
   clear hb HO2
   by_cases hlt:k<fs.length
   ·obtain ⟨g,rfl⟩:∃ g,up=some ⟨g,0,none⟩:=by
     rcases hown.2 with ⟨h1,h0⟩ | ⟨g,cap,cur,h1,_⟩
     ·omega
     ·injection h1 with e1 e2 e3;exact⟨g,e1⟩
    have HO:=(show Hid (wr.ownsRow w.heap.size 61 3 (.slice (some ⟨g,0,none⟩) fs.length uc) fs.length (fs.flatMap cFl)) from hown)
    obtain ⟨c0,c1,c2⟩:=fs_cells hown hlt
    obtain ⟨q0,q1,hst⟩:=HSM.out _ (List.getElem_mem hlt)
    obtain ⟨d,hd⟩:∃ d,fs[k]=d:=⟨_,rfl⟩
    rw [hd] at c0 c1 c2 q0 q1 hst
    rw [hst] at c2
    have hki:(k:Int)<fs.length:=by omega
    clear hown
    go_upto_region 6 with fail
    have HS6:Hid (∀ w',Below (wr.alloc (.cells #[.string d.1,.string d.2.1,.bool false] 61)).heap.size (wr.alloc (.cells #[.string d.1,.string d.2.1,.bool false] 61)) w'→(w'.cell? ⟨wr.heap.size,0,none⟩=some (.string d.1)∧w'.cell? ⟨wr.heap.size,1,none⟩=some (.string d.2.1))∧Below wr.heap.size wr w'):=fun w' hb=>⟨⟨carry hb (by simp) (by simp [go_sem]),carry hb (by simp) (by simp [go_sem])⟩,((Below.refl _ _).alloc (Nat.le_refl _) _).trans (hb.mono (by simp))⟩
    refine wp_region_held_drew (S:=fun w'=>w'.cell? ⟨wr.heap.size,0,none⟩=some (.string d.1)∧w'.cell? ⟨wr.heap.size,1,none⟩=some (.string d.2.1)) (by kernel_rfl) ((HS6.out _ (Below.refl _ _).drew).1) (fun hHeld=>?_)
    refine wpAnyH_take (i:=0) rfl (by kernel_rfl) (by kernel_rfl) (by kernel_rfl) (fun _ _ _ h=>h) (.inl ⟨by kernel_rfl,by intro w hSw;(try dsimp only at hSw);go_simp;try with_reducible rfl⟩) hHeld ?_
    (try simp only [Act.put,List.getElem_toArray,List.getElem_cons_zero,List.setIfInBounds_toArray,List.set_cons_zero,List.set_cons_succ])
    refine wpAnyH_take (i:=1) rfl (by kernel_rfl) (by kernel_rfl) (by kernel_rfl) (fun _ _ _ h=>h) (.inl ⟨by kernel_rfl,by intro w hSw;(try dsimp only at hSw);go_simp;try with_reducible rfl⟩) hHeld ?_
    (try simp only [Act.put,List.getElem_toArray,List.getElem_cons_zero,List.getElem_cons_succ,List.setIfInBounds_toArray,List.set_cons_zero,List.set_cons_succ])
    refine wpAnyH_take (i:=2) rfl (by kernel_rfl) (by kernel_rfl) (by kernel_rfl) (fun _ _ _ h=>h) (.inl ⟨by kernel_rfl,by intro w hSw;(try dsimp only at hSw);go_simp;try with_reducible rfl⟩) hHeld ?_
    (try simp only [Act.put,List.getElem_toArray,List.getElem_cons_zero,List.getElem_cons_succ,List.setIfInBounds_toArray,List.set_cons_zero,List.set_cons_succ])
    refine wpAnyH_take (i:=3) rfl (by kernel_rfl) (by kernel_rfl) (by kernel_rfl) (fun _ _ _ h=>h) (.inl ⟨by kernel_rfl,by intro w hSw;(try dsimp only at hSw);go_simp;try with_reducible rfl⟩) hHeld ?_
    (try simp only [Act.put,List.getElem_toArray,List.getElem_cons_zero,List.getElem_cons_succ,List.setIfInBounds_toArray,List.set_cons_zero,List.set_cons_succ])
    refine wpAnyH_take (i:=5) rfl (by kernel_rfl) (by kernel_rfl) (by kernel_rfl) (fun _ _ _ h=>h) (.inl ⟨by kernel_rfl,by intro w hSw;(try dsimp only at hSw);go_simp;try with_reducible rfl⟩) hHeld ?_
    (try simp only [Act.put,List.getElem_toArray,List.getElem_cons_zero,List.getElem_cons_succ,List.setIfInBounds_toArray,List.set_cons_zero,List.set_cons_succ])
    refine wpAnyH_take (i:=6) rfl (by kernel_rfl) (by kernel_rfl) (by kernel_rfl) (fun _ _ _ h=>h) (.inl ⟨by kernel_rfl,by intro w hSw;(try dsimp only at hSw);go_simp;try with_reducible rfl⟩) hHeld ?_
    (try simp only [Act.put,List.getElem_toArray,List.getElem_cons_zero,List.getElem_cons_succ,List.setIfInBounds_toArray,List.set_cons_zero,List.set_cons_succ])
    refine wpAnyH_ready (rs:=[4]) (by kernel_rfl) (by simp) ?_
    refine AllReadyH.cons rfl (fun K hK=>?_) AllReadyH.nil
    simp only [List.getElem_toArray,List.getElem_cons_zero,List.getElem_cons_succ]
    go_simp
    refine Calls.mono (libClone d.1 _ (by omega)) ?_
    rintro e u1 ⟨rfl,hu1⟩
    have HU1:Hid (Below (wr.alloc (.cells #[.string d.1,.string d.2.1,.bool false] 61)).heap.size (wr.alloc (.cells #[.string d.1,.string d.2.1,.bool false] 61)) u1):=(Below.refl _ _).drew.trans hu1
    clear hu1
    refine hK.out _ _ ((HS6.out _ HU1.out).1) (fun hHeld=>?_)
    clear hK K
    (try simp only [Act.put,List.getElem_toArray,List.getElem_cons_zero,List.getElem_cons_succ,List.setIfInBounds_toArray,List.set_cons_zero,List.set_cons_succ])
    refine wpAnyH_ready (rs:=[7]) (by kernel_rfl) (by simp) ?_
    refine AllReadyH.cons rfl (fun K hK=>?_) AllReadyH.nil
    simp only [List.getElem_toArray,List.getElem_cons_zero,List.getElem_cons_succ]
    go_simp
    refine Calls.mono (libClone d.2.1 _ (by omega)) ?_
    rintro e u2 ⟨rfl,hu2⟩
    have HU2:Hid (Below wr.heap.size wr u2):=(HS6.out _ (HU1.out.trans (hu2.mono HU1.out.size))).2
    have HSU:=(show Hid _ from (HS6.out _ (HU1.out.trans (hu2.mono HU1.out.size))).1)
    clear hu2
    refine hK.out _ _ HSU.out (fun hHeld=>?_)
    clear hK K
    (try simp only [Act.put,List.getElem_toArray,List.getElem_cons_zero,List.getElem_cons_succ,List.setIfInBounds_toArray,List.set_cons_zero,List.set_cons_succ])
    refine wpAnyH_take (i:=8) rfl (by kernel_rfl) (by kernel_rfl) (by kernel_rfl) (fun _ _ _ h=>h) (.inl ⟨by kernel_rfl,by intro w hSw;(try dsimp only at hSw);go_simp;try with_reducible rfl⟩) hHeld ?_
    (try simp only [Act.put,List.getElem_toArray,List.getElem_cons_zero,List.getElem_cons_succ,List.setIfInBounds_toArray,List.set_cons_zero,List.set_cons_succ])
    refine wpAnyH_take (i:=9) rfl (by kernel_rfl) (by kernel_rfl) (by kernel_rfl) (fun _ _ _ h=>h) (.inl ⟨by kernel_rfl,by intro w hSw;(try dsimp only at hSw);go_simp;try with_reducible rfl⟩) hHeld ?_
    (try simp only [Act.put,List.getElem_toArray,List.getElem_cons_zero,List.getElem_cons_succ,List.setIfInBounds_toArray,List.set_cons_zero,List.set_cons_succ])
    have HOu:=(show Hid (u2.ownsRow w.heap.size 61 3 (.slice (some ⟨g,0,none⟩) fs.length uc) fs.length (fs.flatMap cFl)) from HO.out.blocks3 fun k hk=>HU2.out.block k hk)
    obtain ⟨b0,b1,b2⟩:=fs_cells HOu.out hlt
    have bz:=fs_froz HOu.out
    rw [hd,hst] at b2
    rw [hd] at b0 b1
    refine wpAnyH_ready (rs:=[10]) (by kernel_rfl) (by simp) ?_
    refine AllReadyH.cons rfl (fun K hK=>?_) AllReadyH.nil
    simp only [List.getElem_toArray,List.getElem_cons_zero,List.getElem_cons_succ]
    go_simp
    rw [set_self (w:=u2) b0,set_self (w:=u2) b1,set_self (w:=u2) b2]
    refine hK.out _ _ HSU.out (fun hHeld=>?_)
    clear hK K
    (try simp only [Act.put,List.getElem_toArray,List.getElem_cons_zero,List.getElem_cons_succ,List.setIfInBounds_toArray,List.set_cons_zero,List.set_cons_succ])
    refine wpAnyH_done (by kernel_rfl) ?_ _
    go_wp2
    go_roundw
    case rel=>exact⟨k+1,by omega,by congr 1,HB.out.trans (HU2.out.mono HB.out.size),HOu.out⟩
    case measure=>simp [intOf];omega
   ·obtain rfl:k=fs.length:=by omega
    have HO:=(show Hid (wr.ownsRow w.heap.size 61 3 (.slice up fs.length uc) fs.length (fs.flatMap cFl)) from hown)
    clear hown
    go_wp2
    go_ret
    rw [HFS.out]
    exact⟨HB2.out.trans (HB.out.mono HB2.out.size),_,rfl,HO.out⟩
theorem fo_all (L:List CTup) (n:ByteArray):(foV L n).length≤80∧∀ d ∈ foV L n,d.1.size≤maxLen∧d.2.1.size≤maxLen:=by
 by_cases h:n.size≤20000∧rtB L=true
 ·have hR:=rt_right h.2
  rw [show foV L n=fldL L n from if_pos h]
  refine ⟨?_,fun d hd=>?_⟩
  ·have:=fldL_len (Past.acyL fun q hq=>hR.2 q (by omega)) (fun c hc=>cls_f8 hR c (List.mem_append_right _ hc)) n
   have:=hR.1
   omega
  ·have:=fld_small hR d hd
   unfold maxLen
   omega
 ·rw [show foV L n=[] from if_neg h]
  exact⟨Nat.zero_le _,fun d hd=>by cases hd⟩
end
section
open Go.RowKit
set_option maxRecDepth 20000
set_option linter.unusedVariables false
def cntF (fs:List FieldD) (st:Bool):Nat:=(fs.filter fun f=>f.2.2 == st).length
theorem cntF_yes {fs:List FieldD} {k:Nat} {st:Bool} (h:k<fs.length) (e:fs[k].2.2=st):cntF (fs.take (k+1)) st=cntF (fs.take k) st+1:=by
 unfold cntF
 rw [List.take_succ_eq_append_getElem h,List.filter_append,List.length_append]
 simp [e]
theorem cntF_no {fs:List FieldD} {k:Nat} {st:Bool} (h:k<fs.length) (e:fs[k].2.2 ≠ st):cntF (fs.take (k+1)) st=cntF (fs.take k) st:=by
 unfold cntF
 rw [List.take_succ_eq_append_getElem h,List.filter_append,List.length_append]
 simp [e]
theorem cntF_le (fs:List FieldD) (st:Bool):cntF fs st≤fs.length:=List.length_filter_le _ _
def stA (L:List CTup):Nat→Nat
 | 0=>0
 | k+1=>stA L k+((L[k]?).map fun c=>cntF (fsC c) true).getD 0
theorem stA_succ {L:List CTup} {k:Nat} (h:k<L.length):stA L (k+1)=stA L k+cntF (fsC L[k]) true:=by
 show stA L k+_=_
 rw [List.getElem?_eq_getElem h]
 rfl
theorem stA_le {L:List CTup} (h:∀ c ∈ L,(fsC c).length≤8):∀ k,stA L k≤8 * k
 | 0=>Nat.le_refl _
 | k+1=>by
  have:=stA_le h k
  by_cases hk:k<L.length
  ·rw [stA_succ hk]
   have h1:=h _ (List.getElem_mem hk)
   have h2:=cntF_le (fsC L[k]) true
   omega
  ·show stA L k+_≤_
   rw [List.getElem?_eq_none (by omega)]
   simp only [Option.map_none,Option.getD_none]
   omega
def fIx (fs:List FieldD) (n t:ByteArray):Option Nat:=fs.findIdx? fun f=>decide (f.1=n∧f.2.1=t)
theorem fIx_some {fs:List FieldD} {n t:ByteArray} {i:Nat} (h:i<fs.length) (e:fs[i].1=n∧fs[i].2.1=t) (hno:∀ j (hj:j<fs.length),j<i→¬ (fs[j].1=n∧fs[j].2.1=t)):fIx fs n t=some i :=
 List.findIdx?_eq_some_iff_getElem.2 ⟨h,by simpa using e,fun j hj=>by simpa using hno j (by omega) hj⟩
theorem fIx_none {fs:List FieldD} {n t:ByteArray} (hno:∀ j (hj:j<fs.length),¬ (fs[j].1=n∧fs[j].2.1=t)):fIx fs n t=none :=
 List.findIdx?_eq_none_iff.2 fun x hx=>by
  obtain ⟨j,hj,rfl⟩:=List.mem_iff_getElem.1 hx
  simpa using hno j hj
def ffP (L:List CTup) (c:CTup) (i:Nat):Int:=if ((fsC c)[i]?).elim false (·.2.2) then ((stA L ((fixG nmC L (nmC c)).getD 0)+cntF ((fsC c).take i) true:Nat):Int) else (((fldL L (suC c)).length+cntF ((fsC c).take i) false:Nat):Int)
theorem ffP_st {L:List CTup} {c:CTup} {i:Nat} (h:i<(fsC c).length) (e:(fsC c)[i].2.2=true):ffP L c i=((stA L ((fixG nmC L (nmC c)).getD 0):Nat):Int)+((cntF ((fsC c).take i) true:Nat):Int):=by
 unfold ffP
 rw [List.getElem?_eq_getElem h]
 simp [e]
theorem ffP_no {L:List CTup} {c:CTup} {i:Nat} (h:i<(fsC c).length) (e:(fsC c)[i].2.2=false):ffP L c i=(((fldL L (suC c)).length:Nat):Int)+((cntF ((fsC c).take i) false:Nat):Int):=by
 unfold ffP
 rw [List.getElem?_eq_getElem h]
 simp [e]
def ffU (L:List CTup) (n t:ByteArray):List CTup→ByteArray × Int × Int
 | []=>(tE,0,8)
 | c :: r=>match fIx (fsC c) n t with
  | some i=>(nmC c,ffP L c i,0)
  | none=>ffU L n t r
theorem ffU_bare (L:List CTup) (n t:ByteArray) (tl:List CTup) (h:∀ c ∈ tl,fsC c=[]):∀ A,ffU L n t (A ++ tl)=ffU L n t A:=by
 intro A
 induction A with
 | nil =>
  rw [List.nil_append]
  induction tl with
  | nil=>rfl
  | cons c r ih =>
   unfold ffU
   rw [h c (by simp),show fIx [] n t=none from rfl]
   exact (ih fun c hc=>h c (by simp [hc])).trans rfl
 | cons c A ih =>
  rw [List.cons_append]
  unfold ffU
  cases fIx (fsC c) n t with
  | some i=>rfl
  | none=>exact ih
def ffL (L:List CTup) (cl n t:ByteArray):ByteArray × Int × Int:=ffU L n t (CH nmC suC L cl)
noncomputable def ffV (L:List CTup) (cl n d:ByteArray):ByteArray × Int × Int:=if 400<L.length ∨ 20000<cl.size ∨ 20000<n.size ∨ 20000<d.size then (tE,0,2) else if rtB L then ffL L cl n d else (tE,0,0)
theorem ff_tie {E:List WE} {L:List CTup} (hR:Right L) (h:E.map WE.c=allC L) (cl n t:ByteArray):ffU L n t ((wyG E cl).map WE.c)=ffL L cl n t:=by
 obtain ⟨tl,h1,h2⟩:=wyS hR h cl
 rw [h1]
 exact ffU_bare L n t tl (fun c hc=>bi_fs c (h2 c hc)) _
theorem fld_take {w:World} {a:Option Addr} {c:Nat} {fs:List FieldD} {i:Nat} (h:fieldR.slice.In w [.slice a fs.length c] fs) (hi:i≤fs.length):fieldR.slice.In w [.slice a i c] (fs.take i):=by
 obtain ⟨a',cap,hv,hn,hcap,hat⟩:=h
 cases hv
 have e:(fs.take i).length=i:=by rw [List.length_take];omega
 refine ⟨a,c,by rw [e],by rw [e];omega,hcap,fun j hj=>?_⟩
 obtain ⟨x,h1,h2⟩:=hat j (by omega)
 exact⟨x,h1,by rw [List.getElem_take];exact h2⟩
set_option maxHeartbeats 2000000 in
theorem implCount (fs:List FieldD) (v:Value) (st:Bool) (w:World) (h:fieldR.slice.In w [v] fs) :
  Calls Tryz.prog 89 #[v,.bool st] w fun e w'=>e = .returned (.int .i64 ((cntF fs st:Nat):Int))∧Below w.heap.size w w':=by
 obtain ⟨a,cap,hv,hn,hcap,hat⟩:=h
 cases hv
 unfold maxLen at hcap
 have HA:Hid (∀ i (h:i<fs.length),∃ x,a=some x∧fieldR.At w x i fs[i]):=hat
 clear hat
 go_enter Tryz.func89,Tryz.ntmps89
 go_wp2_with fail
 go_loopw [5,10] (fun j5 j10 wr=>∃ m:Nat,m≤fs.length∧j10 = .int .i64 (m:Int)∧j5 = .int .i64 ((cntF (fs.take m) st:Nat):Int)∧Below w.heap.size w wr) (fun _ j10 _=>fs.length - (intOf j10).toNat)
 case atStart=>exact⟨0,Nat.zero_le _,rfl,by simp [cntF],Below.refl _ _⟩
 case round =>
  obtain ⟨m,hm,rfl,rfl,hbel⟩:=hrel
  have HW:Hid (Below w.heap.size w wr):=hbel
  clear hbel
  by_cases hlt:m<fs.length
  ·obtain ⟨x,rfl,hx⟩:=HA.out m hlt
   obtain ⟨b,o,rfl⟩:∃ b o,x=⟨b,o,none⟩:=by
    obtain ⟨x0,e0,h0⟩:=HA.out 0 (by omega)
    cases e0
    exact h0.plain (by decide)
   obtain ⟨cs,hc,hin⟩:=hx.mono HW.out
   obtain ⟨rfl,_⟩:=fieldR_in hin
   have hk:fieldR.k=3:=rfl
   rw [hk] at hc
   have g0:=hc 0 (by omega)
   have g1:=hc 1 (by omega)
   have g2:=hc 2 (by omega)
   have hcl:cntF (fs.take m) st≤m:=Nat.le_trans (cntF_le _ _) (by rw [List.length_take];omega)
   have HB:Hid (∀ o,Below w.heap.size w (wr.alloc o)):=fun o=>HW.out.alloc HW.out.size o
   have HY:=(show Hid _ from fun e=>cntF_yes (st:=st) hlt e)
   have HN:=(show Hid _ from fun e=>cntF_no (st:=st) hlt e)
   obtain ⟨d,hd⟩:∃ d,fs[m]=d:=⟨_,rfl⟩
   rw [hd] at g0 g1 g2 HY HN
   obtain ⟨d0,d1,d2⟩:=d
   simp only at HY HN
   simp only [fieldC,List.getElem?_cons_zero,List.getElem?_cons_succ] at g0 g1 g2
   simp only [plain_add,← Nat.add_assoc,Nat.add_zero] at g0 g1 g2
   generalize cntF (fs.take m) st=q at *
   clear hx hc hin hd
   by_cases e:d2=st
   ·have HZ:=(show Hid _ from HY.out e)
    subst e
    have dd:(d2 == d2)=true:=by simp
    clear HY HN
    go_wp2
    go_roundw
    case rel=>exact⟨m+1,by omega,by go_num,by rw [HZ.out];go_num,HB.out _⟩
    case measure=>simp [intOf];omega
   ·have HZ:=(show Hid _ from HN.out e)
    have dd:(d2 == st)=false:=by simpa using e
    clear HY HN e
    go_wp2
    go_roundw
    case rel=>exact⟨m+1,by omega,by go_num,by rw [HZ.out],HB.out _⟩
    case measure=>simp [intOf];omega
  ·obtain rfl:m=fs.length:=by omega
   have HZ:Hid (fs.take fs.length=fs):=List.take_length
   rw [HZ.out]
   go_wp2
   go_ret
   exact⟨rfl,HW.out⟩
def clV (x:CTup) (fa:Option Addr) (fc:Nat) (ma:Option Addr) (mc:Nat):Value:=.agg #[.string (nmC x),.string (suC x),.bool (fiC x),.bool (abC x),.slice fa (fsC x).length fc,.slice ma (msC x).length mc]
set_option maxHeartbeats 2000000 in
theorem implAheadNo (L:List CTup) (va:Option Addr) (vcap r:Nat) (E:List WE) (es:Array MapEntry) (ck:Nat) (x:CTup) (fa:Option Addr) (fc:Nat) (ma:Option Addr) (mc:Nat) (w:World) (h:WmIs w r E es ck) (hR:Right L) (hE:E.map WE.c=allC L) (hs:(suC x).size≤maxLen) :
  Calls Tryz.prog 88 #[.agg #[.slice va L.length vcap,.map (some r)],clV x fa fc ma mc,.bool false] w fun e w'=>e = .returned (.int .i64 (((fldL L (suC x)).length:Nat):Int))∧Below w.heap.size w w':=by
 have HF:Hid (∀ w',Below w.heap.size w w'→Calls Tryz.prog 42 #[.agg #[.slice va L.length vcap,.map (some r)],.string (suC x)] w' fun e w2=>∃ u c,e = .returned (.slice u (fldL L (suC x)).length c)∧Below w'.heap.size w' w2):=fun w' hb=>by
  have:=implFieldsW (.slice va L.length vcap) r E es ck (suC x) w' (h.below hb) hs ⟨_,_,_,rfl⟩ (all_len' hE hR) (fun y hy=>cls_f8 hR _ (by rw [← hE];exact List.mem_map_of_mem hy))
  rw [fs_tie hR hE] at this
  refine Calls.mono this ?_
  rintro e w2 ⟨hb2,v,rfl,ho⟩
  obtain ⟨u,c,rfl⟩:=own_sl3 ho
  exact⟨u,c,rfl,hb2⟩
 clear h hE hR
 unfold clV
 generalize fldL L (suC x)=q at *
 have HB:Hid (∀ o1 o2,Below w.heap.size w ((w.alloc o1).alloc o2)):=fun o1 o2=>below_al2 w o1 o2
 go_enter Tryz.func88,Tryz.ntmps88
 go_wp2_with fail
 refine Calls.mono (HF.out _ (HB.out _ _)) ?_
 rintro e w1 ⟨u,c,rfl,hb1⟩
 have HB1:Hid (Below w.heap.size w w1):=(HB.out _ _).trans (hb1.mono (by simp;omega))
 clear hb1
 go_wp2
 go_ret
 exact⟨rfl,HB1.out⟩
set_option maxHeartbeats 4000000 in
theorem implAheadSt (L:List CTup) (va:Option Addr) (vcap:Nat) (r:Option Nat) (x:CTup) (fa:Option Addr) (fc:Nat) (ma:Option Addr) (mc up:Nat) (w:World) (h:classR.slice.In w [.slice va L.length vcap] L) (h10:L.length≤10) (h8:∀ c ∈ L,(fsC c).length≤8) (hup:fixG nmC L (nmC x)=some up) :
  Calls Tryz.prog 88 #[.agg #[.slice va L.length vcap,.map r],clV x fa fc ma mc,.bool true] w fun e w'=>e = .returned (.int .i64 ((stA L up:Nat):Int))∧Below w.heap.size w w':=by
 obtain ⟨hul,hun,_,huj⟩:=fix_some hup
 obtain ⟨a,cap,hv,hvn,hvc,hat⟩:=slice_open (by decide) h
 cases hv
 unfold maxLen at hvc
 have HA:Hid (∀ i (h:i<L.length),∃ b o,va=some ⟨b,o,none⟩∧classR.At w ⟨b,o,none⟩ i L[i]):=hat
 have HNE:Hid (∀ i (h:i<L.length),i<up→((nmC L[i]).toList == (nmC x).toList)=false):=fun i h k=>tx_ne (huj i h k)
 have HEQ:Hid (∀ i (h:i<L.length),i=up→((nmC L[i]).toList == (nmC x).toList)=true):=fun i h k=>by subst k;exact tx_eq hun
 have HC:Hid (∀ i (h:i<L.length) v w',fieldR.slice.In w' [v] (fsC L[i])→Calls Tryz.prog 89 #[v,.bool true] w' fun e w2=>e = .returned (.int .i64 ((cntF (fsC L[i]) true:Nat):Int))∧Below w'.heap.size w' w2):=fun i _ v w' k=>implCount _ v true w' k
 have HSA:=(show Hid (∀ k,stA L k≤8 * k) from stA_le h8)
 have HC8:Hid (∀ i (h:i<L.length),cntF (fsC L[i]) true≤8):=fun i hi=>Nat.le_trans (cntF_le _ _) (h8 _ (List.getElem_mem hi))
 clear h hup hun huj hat h8
 unfold clV
 go_enter Tryz.func88,Tryz.ntmps88
 go_wp2_with fail
 have HB0:Hid (∀ o1 o2,Below w.heap.size w ((w.alloc o1).alloc o2)):=fun o1 o2=>below_al2 w o1 o2
 have n0:∀ o,((w.alloc o).alloc (.cells #[.string (nmC x),.string (suC x),.bool (fiC x),.bool (abC x),.slice fa (fsC x).length fc,.slice ma (msC x).length mc] 51)).cell? ⟨w.heap.size+1,0,none⟩=some (.string (nmC x)):=fun o=>by simp [go_sem]
 obtain ⟨W,hW⟩:∃ W,((w.alloc (.cells #[.slice va L.length vcap,.map r] 72)).alloc (.cells #[.string (nmC x),.string (suC x),.bool (fiC x),.bool (abC x),.slice fa (fsC x).length fc,.slice ma (msC x).length mc] 51))=W:=⟨_,rfl⟩
 have n1:=n0 (.cells #[.slice va L.length vcap,.map r] 72)
 have hzW:w.heap.size+1<W.heap.size:=by rw [← hW];simp
 have HBW:Hid (Below w.heap.size w W):=hW ▸ HB0.out _ _
 rw [hW] at n1 ⊢
 clear n0 HB0 hW
 go_loopw [7,20] (fun j7 j20 wr=>∃ i:Nat,i≤up∧j20 = .int .i64 (i:Int)∧j7 = .int .i64 ((stA L i:Nat):Int)∧Below W.heap.size W wr) (fun _ j20 _=>L.length - (intOf j20).toNat)
 case atStart=>exact⟨0,Nat.zero_le _,rfl,rfl,Below.refl _ _⟩
 case round =>
  obtain ⟨i,hi,rfl,rfl,hb⟩:=hrel
  have HBr:Hid (Below W.heap.size W wr):=hb
  have HBw:Hid (Below w.heap.size w wr):=HBW.out.trans (hb.mono HBW.out.size)
  have n2:=carry hb (show w.heap.size+1<W.heap.size from hzW) n1
  have hz2:w.heap.size+1<wr.heap.size:=Nat.lt_of_lt_of_le hzW hb.size
  have n3:∀ o,(wr.alloc o).cell? ⟨w.heap.size+1,0,none⟩=some (.string (nmC x)):=fun o=>carry (below_al wr o) hz2 n2
  clear hb
  have hlt:i<L.length:=by omega
  have hSi:=HSA.out i
  obtain ⟨b,o,rfl,hx⟩:=HA.out i hlt
  have HX:=(show Hid _ from fun w' (hb:Below w.heap.size w w')=>hx.mono hb)
  obtain ⟨vc,vh,g0,g1,g2,g3,g4,g5,s0,s1,h4,h5⟩:=classAt (HX.out _ HBw.out)
  have H4:=(show Hid (fieldR.slice.In wr [vc] (fsC L[i])) from h4)
  obtain ⟨fa',fc',rfl⟩:=slice_form h4
  obtain ⟨ma',mc',rfl⟩:=slice_form h5
  have HBa:Hid (∀ o,Below W.heap.size W (wr.alloc o)):=fun o=>HBr.out.alloc HBr.out.size o
  have HBwa:Hid (∀ o,Below w.heap.size w (wr.alloc o)):=fun o=>HBw.out.alloc HBw.out.size o
  clear hx h4 h5 s0 s1
  by_cases e:i=up
  ·have d:=HEQ.out i hlt e
   subst e
   clear HNE HEQ HX H4
   generalize L[i]=y at *
   go_wp2
   go_ret
   exact⟨rfl,HBwa.out _⟩
  ·have d:=HNE.out i hlt (by omega)
   have HCi:=(show Hid _ from HC.out i hlt)
   have H4a:Hid (∀ o,fieldR.slice.In (wr.alloc o) [.slice fa' (fsC L[i]).length fc'] (fsC L[i])):=fun o=>fieldR.slice.mono _ _ _ _ (below_al wr o) H4.out
   have hq:=HC8.out i hlt
   have HS:Hid (stA L (i+1)=stA L i+cntF (fsC L[i]) true):=stA_succ hlt
   clear HNE HEQ HX H4
   generalize L[i]=y at *
   go_wp2_with fail
   refine Calls.mono (HCi.out _ _ (H4a.out _)) ?_
   rintro e w2 ⟨rfl,hb2⟩
   have HB2:Hid (Below W.heap.size W w2):=(HBa.out _).trans (hb2.mono (HBa.out _).size)
   clear hb2 H4a HCi
   go_wp2
   go_roundw
   case rel=>exact⟨i+1,by omega,by go_num,by rw [HS.out];go_num,HB2.out⟩
   case measure=>simp [intOf];omega
theorem tkF (i:Nat) {P:Program} {ops:Array Oper} {Q:Exit→Act→World→Prop} {md:Region.Mode} {S:World→Prop} {oi:Oper} {v:Value} {fuel:Nat} {listed:Array Bool} {a:Act} {w:World} (hi:ops[i]?=some oi)
  (hy:∀ w,S w→(execOp a.eval oi).run P w = .ok (.value v) w) (hS:S w) (h:wpAnyH P md ops Q S fuel (listed.setIfInBounds i true) (a.put oi.dst v) w)
  (hs:Region.noSelect ops=true:=by kernel_rfl) (hf:Region.free md ops listed i=true:=by kernel_rfl) (hr:(Region.ready md ops listed).contains i=true:=by kernel_rfl)
  (hQ:∀ c a w,Q (.panic c) (a.put oi.dst v) w→Q (.panic c) a w:=by exact fun _ _ _ h=>h) (hw:Region.wanted oi (yielded ops a.tmps)=true:=by kernel_rfl):wpAnyH P md ops Q S (fuel+1) listed a w :=
 wpAnyH_take hi hs hf hr hQ (.inl ⟨hw,hy⟩) hS h
theorem ff_mem {L:List CTup} {c:CTup} {j:Nat} (hc:c ∈ allC L) (hj:j<(fsC c).length):c ∈ L:=by
 rcases List.mem_append.1 hc with h | h
 ·rw [bi_fs c h] at hj
  simp at hj
 ·exact h
set_option maxRecDepth 20000 in
set_option maxHeartbeats 8000000 in
theorem findFieldCore (T:List WE) (F:Nat→ByteArray × Int × Int) (Pl:Nat→Nat→Int) (va:Option Addr) (ln vcap r:Nat) (cl n t:ByteArray) (w:World) (hcl:cl.size≤maxLen) (hn:n.size≤maxLen) (hd:t.size≤maxLen) (hT1:T.length≤100) (hln:ln≤maxLen)
  (HWu:Hid (∀ w',Below w.heap.size w w'→Calls Tryz.prog 83 #[.agg #[.slice va ln vcap,.map (some r)],.string cl] w' fun e w2=>Below w'.heap.size w' w2∧∃ v,e = .returned v∧w2.ownsRow w'.heap.size 102 7 v T.length (T.flatMap weC)))
  (HFl:Hid (∀ i (hi:i<T.length) w',Below w.heap.size w w'→fieldR.slice.In w' [.slice T[i].fa (fsC T[i].c).length T[i].fc] (fsC T[i].c)))
  (HF8:Hid (∀ i (hi:i<T.length),(fsC T[i].c).length≤8))
  (HAh:Hid (∀ i (hi:i<T.length) j (hj:j<(fsC T[i].c).length) st,(fsC T[i].c)[j].2.2=st→∃ q:Nat,q≤1000∧(q:Int)+((cntF ((fsC T[i].c).take j) st:Nat):Int)=Pl i j∧∀ w',Below w.heap.size w w'→Calls Tryz.prog 88 #[.agg #[.slice va ln vcap,.map (some r)],clV T[i].c T[i].fa T[i].fc T[i].ma T[i].mc,.bool st] w' fun e w2=>e = .returned (.int .i64 (q:Int))∧Below w'.heap.size w' w2))
  (HCl:Hid (∀ i (hi:i<T.length) w',Calls Tryz.prog 43 #[.string (nmC T[i].c)] w' fun e w2=>e = .returned (.string (nmC T[i].c))∧Below w'.heap.size w' w2))
  (HF:Hid (∀ i (hi:i<T.length),F i=match fIx (fsC T[i].c) n t with
   | some j=>(nmC T[i].c,Pl i j,0)
   | none=>F (i+1)))
  (HFe:Hid (F T.length=(tE,0,8))) :
  Calls Tryz.prog 50 #[.agg #[.slice va ln vcap,.map (some r)],.string cl,.string n,.string t] w fun e w'=>e = .returned (fdV (F 0))∧Below w.heap.size w w':=by
 unfold maxLen at hcl hn hd
 go_enter Tryz.func50,Tryz.ntmps50
 go_wp2_with fail
 refine Calls.mono (HWu.out _ (below_al2 _ _ _)) ?_
 rintro e w1 ⟨hb1,v,rfl,ho⟩
 have HB1:Hid (Below w.heap.size w w1):=(below_al2 _ _ _).trans (hb1.mono (by simp;omega))
 have k0:=cC hb1 (w.heap.size) 0 (.slice va ln vcap) (by first | (simp;done) | (simp;omega)) (by simp [go_sem])
 have k1:=cC hb1 (w.heap.size) 1 (.map (some r)) (by first | (simp;done) | (simp;omega)) (by simp [go_sem])
 have r0:=cC hb1 (w.heap.size+1) 0 (.string ⟨#[]⟩) (by simp) (by simp [go_sem])
 have r1:=cC hb1 (w.heap.size+1) 1 (.int .i64 0) (by simp) (by simp [go_sem])
 have r2:=cC hb1 (w.heap.size+1) 2 (.int .i64 0) (by simp) (by simp [go_sem])
 have fr:∀ j,w1.frozen? ⟨w.heap.size+1,j,none⟩=false:=fun j=>carryF hb1 (by simp) (by simp [go_sem])
 have hz:w.heap.size+1<w1.heap.size:=by have:=hb1.size;simp at this;omega
 have HO1:=(show Hid (WyAt w1 (w.heap.size+2) v T) from (WyAt.mk ho).base (by simp))
 obtain ⟨va1,vcap1,rfl,hcap,hvc,_⟩:=HO1.out.slice
 unfold maxLen at hcap
 clear hb1 ho HWu
 go_wp2_with fail
 go_loopw [18] (fun j18 wr=>∃ i:Nat,i≤T.length∧j18 = .int .i64 (i:Int)∧Below w1.heap.size w1 wr∧F 0=F i) (fun j18 _=>T.length - (intOf j18).toNat)
 case atStart=>exact⟨0,Nat.zero_le _,rfl,Below.refl _ _,rfl⟩
 case round =>
  obtain ⟨i,hi,rfl,hb,hres⟩:=hrel
  have HRs:=(show Hid (F 0=F i) from hres)
  have HBr:Hid (Below w.heap.size w wr):=HB1.out.trans (hb.mono HB1.out.size)
  have HBo:Hid (Below w1.heap.size w1 wr):=hb
  replace k0:=carry hb (show w.heap.size<w1.heap.size by omega) k0
  replace k1:=carry hb (show w.heap.size<w1.heap.size by omega) k1
  replace r0:=carry hb hz r0
  replace r1:=carry hb hz r1
  replace r2:=carry hb hz r2
  replace fr:∀ j,wr.frozen? ⟨w.heap.size+1,j,none⟩=false:=fun j=>carryF hb hz (fr j)
  have hz1:w.heap.size+1<wr.heap.size:=Nat.lt_of_lt_of_le hz hb.size
  have HOr:=(show Hid (WyAt wr (w.heap.size+2) (.slice va1 T.length vcap1) T) from HO1.out.below hb)
  clear hb hres
  by_cases hlt:i<T.length
  ·obtain ⟨va',vcap',ev,_,_,hcell⟩:=HOr.out.slice
   cases ev
   obtain ⟨g,rfl,hg1,hg2,c0,c1,c2,c3,c4,c5,c6⟩:=hcell i hlt
   clear hcell HOr
   unfold WE.vc at c4
   unfold WE.vh at c5
   have hfi:=HF.out i hlt
   rw [← HRs.out] at hfi
   have HFi:=(show Hid _ from hfi)
   have HCl1:=(show Hid _ from HCl.out i hlt)
   have HAh1:=(show Hid _ from HAh.out i hlt)
   have HFl1:=(show Hid _ from HFl.out i hlt)
   have h8:=HF8.out i hlt
   clear hfi HRs
   obtain ⟨y,hy⟩:∃ y,T[i]=y:=⟨_,rfl⟩
   rw [hy] at c0 c1 c2 c3 c4 c5 c6 HFi HCl1 HAh1 HFl1 h8
   clear hy
   obtain ⟨yc,fa,fc,ma,mc,rm⟩:=y
   dsimp only at c0 c1 c2 c3 c4 c5 c6 HFi HCl1 HAh1 HFl1 h8
   go_wp2_with fail
   obtain ⟨xo,hxo⟩:∃ xo,wr=xo:=⟨_,rfl⟩
   subst wr
   obtain ⟨X,hX⟩:∃ X,xo.alloc (.cells #[.string (nmC yc),.string (suC yc),.bool (fiC yc),.bool (abC yc),.slice fa (fsC yc).length fc,.slice ma (msC yc).length mc,.map (some rm)] 102)=X:=⟨_,rfl⟩
   have hBX:Below xo.heap.size xo X:=hX ▸ below_al xo _
   have hzX:xo.heap.size<X.heap.size:=by rw [← hX];simp
   have HXC:Hid (X.cell? ⟨xo.heap.size,0,none⟩=some (.string (nmC yc))∧X.cell? ⟨xo.heap.size,1,none⟩=some (.string (suC yc))∧X.cell? ⟨xo.heap.size,2,none⟩=some (.bool (fiC yc))∧X.cell? ⟨xo.heap.size,3,none⟩=some (.bool (abC yc))∧X.cell? ⟨xo.heap.size,4,none⟩=some (.slice fa (fsC yc).length fc)∧X.cell? ⟨xo.heap.size,5,none⟩=some (.slice ma (msC yc).length mc)):=by rw [← hX];exact⟨by simp [go_sem],by simp [go_sem],by simp [go_sem],by simp [go_sem],by simp [go_sem],by simp [go_sem]⟩
   have HXR:Hid (X.cell? ⟨w.heap.size,0,none⟩=some (.slice va ln vcap)∧X.cell? ⟨w.heap.size,1,none⟩=some (.map (some r))∧X.cell? ⟨w.heap.size+1,0,none⟩=some (.string ⟨#[]⟩)∧X.cell? ⟨w.heap.size+1,1,none⟩=some (.int .i64 0)∧X.cell? ⟨w.heap.size+1,2,none⟩=some (.int .i64 0)∧∀ j,X.frozen? ⟨w.heap.size+1,j,none⟩=false):=⟨carry hBX (by show w.heap.size<_;omega) k0,carry hBX (by show w.heap.size<_;omega) k1,carry hBX hz1 r0,carry hBX hz1 r1,carry hBX hz1 r2,fun j=>carryF hBX hz1 (fr j)⟩
   have HBX:Hid (Below w.heap.size w X):=HBr.out.trans (hBX.mono HBr.out.size)
   have HBXo:Hid (Below w1.heap.size w1 X):=HBo.out.trans (hBX.mono HBo.out.size)
   rw [hX]
   clear hX hBX k0 k1 r0 r1 r2 fr c0 c1 c2 c3 c4 c5 c6
   go_wp2_with fail
   go_loopw [26] (fun j26 xr=>∃ j:Nat,j≤(fsC yc).length∧j26 = .int .i64 (j:Int)∧Below X.heap.size X xr∧∀ k (hk:k<(fsC yc).length),k<j→¬ ((fsC yc)[k].1=n∧(fsC yc)[k].2.1=t)) (fun j26 _=>(fsC yc).length - (intOf j26).toNat)
   case atStart=>exact⟨0,Nat.zero_le _,rfl,Below.refl _ _,fun k _ h=>by omega⟩
   case round =>
    obtain ⟨j,hj,rfl,hbx,hno⟩:=hrel
    have HBx:Hid (Below X.heap.size X wr):=hbx
    have HBw:Hid (Below w.heap.size w wr):=HBX.out.trans (hbx.mono HBX.out.size)
    have HNo:=(show Hid _ from hno)
    have hzx:xo.heap.size<wr.heap.size:=Nat.lt_of_lt_of_le hzX hbx.size
    clear hbx hno
    by_cases hjl:j<(fsC yc).length
    ·obtain ⟨a',cap',hv,hnn,hcap',hat⟩:=HFl1.out wr HBw.out
     cases hv
     obtain ⟨x,e1,hx⟩:=hat j hjl
     subst e1
     obtain ⟨b,o,rfl⟩:∃ b o,x=⟨b,o,none⟩:=by
      obtain ⟨x0,e0,h0⟩:=hat 0 (by omega)
      cases e0
      exact h0.plain (by decide)
     obtain ⟨cs,hc,hin⟩:=hx
     obtain ⟨rfl,_⟩:=fieldR_in hin
     have hk:fieldR.k=3:=rfl
     rw [hk] at hc
     have g0:=hc 0 (by omega)
     have g1:=hc 1 (by omega)
     have g2:=hc 2 (by omega)
     simp only [fieldC,List.getElem?_cons_zero,List.getElem?_cons_succ] at g0 g1 g2
     simp only [plain_add,← Nat.add_assoc,Nat.add_zero] at g0 g1 g2
     unfold maxLen at hcap'
     have hAq:=HAh1.out j hjl _ rfl
     have HFt:Hid (∀ w',Below w.heap.size w w'→∀ st,Calls Tryz.prog 89 #[.slice (some ⟨b,o,none⟩) j fc,.bool st] w' fun e w2=>e = .returned (.int .i64 ((cntF ((fsC yc).take j) st:Nat):Int))∧Below w'.heap.size w' w2):=fun w' hb st=>implCount _ _ st w' (fld_take (HFl1.out w' hb) hj)
     have HSM:Hid ((fsC yc)[j].1=n→(fsC yc)[j].2.1=t→F 0=(nmC yc,Pl i j,0)):=fun e1 e2=>by rw [HFi.out,fIx_some hjl ⟨e1,e2⟩ HNo.out]
     have HNM:Hid (¬ ((fsC yc)[j].1=n∧(fsC yc)[j].2.1=t)→∀ k (hk:k<(fsC yc).length),k<j+1→¬ ((fsC yc)[k].1=n∧(fsC yc)[k].2.1=t)):=fun e k hk hkj=>by
      by_cases e2:k=j
      ·subst e2;exact e
      ·exact HNo.out k hk (by omega)
     have hcl2:∀ st,cntF ((fsC yc).take j) st≤8:=fun st=>Nat.le_trans (cntF_le _ _) (by rw [List.length_take];omega)
     clear hc hin hat HNo
     obtain ⟨d,hdd⟩:∃ d,(fsC yc)[j]=d:=⟨_,rfl⟩
     rw [hdd] at g0 g1 g2 hAq HSM HNM
     clear hdd
     obtain ⟨d0,d1,d2⟩:=d
     dsimp only at g0 g1 g2 hAq HSM HNM
     have hji:(j:Int)<(fsC yc).length:=by omega
     have hjc:j≤fc:=by omega
     have HBa:Hid (∀ o,Below X.heap.size X (wr.alloc o)):=fun o=>HBx.out.alloc HBx.out.size o
     by_cases e1:d0=n
     ·have t1:=tx_eq e1
      by_cases e2:d1=t
      ·have t2:=tx_eq e2
       have HZ:=(show Hid _ from HSM.out e1 e2)
       obtain ⟨q,hq1,hq2,hq3⟩:=hAq
       unfold clV at hq3
       have HQ:=(show Hid _ from hq3)
       have HE:=(show Hid _ from hq2)
       have hc8:=hcl2 d2
       have HCt:=(show Hid _ from fun w' hb=>HFt.out w' hb d2)
       clear HSM HNM e1 e2 hq2 hq3 hcl2 HFt
       generalize cntF ((fsC yc).take j) d2=ct at *
       have HBW0:Hid (Below X.heap.size X (wr.alloc (.cells #[.string d0,.string d1,.bool d2] 61))):=HBa.out _
       have hcW:(wr.alloc (.cells #[.string d0,.string d1,.bool d2] 61)).cell? ⟨wr.heap.size,2,none⟩=some (.bool d2):=by simp [go_sem]
       have hzW:wr.heap.size<(wr.alloc (.cells #[.string d0,.string d1,.bool d2] 61)).heap.size:=by simp
       have HSX:Hid (∀ w',Below (wr.alloc (.cells #[.string d0,.string d1,.bool d2] 61)).heap.size (wr.alloc (.cells #[.string d0,.string d1,.bool d2] 61)) w'→(w'.cell? ⟨w.heap.size,0,none⟩=some (.slice va ln vcap)∧w'.cell? ⟨w.heap.size,1,none⟩=some (.map (some r))∧w'.cell? ⟨xo.heap.size,0,none⟩=some (.string (nmC yc))∧w'.cell? ⟨xo.heap.size,1,none⟩=some (.string (suC yc))∧w'.cell? ⟨xo.heap.size,2,none⟩=some (.bool (fiC yc))∧w'.cell? ⟨xo.heap.size,3,none⟩=some (.bool (abC yc))∧w'.cell? ⟨xo.heap.size,4,none⟩=some (.slice (some ⟨b,o,none⟩) (fsC yc).length fc)∧w'.cell? ⟨xo.heap.size,5,none⟩=some (.slice ma (msC yc).length mc)∧w'.cell? ⟨wr.heap.size,2,none⟩=some (.bool d2))∧Below w.heap.size w w'):=fun w' hb=>by
        have hB:=HBW0.out.trans (hb.mono HBW0.out.size)
        obtain ⟨x0,x1,x2,x3,x4,x5⟩:=HXC.out
        obtain ⟨y0,y1,_⟩:=HXR.out
        exact⟨⟨carry hB (by show w.heap.size<_;omega) y0,carry hB (by show w.heap.size<_;omega) y1,carry hB hzX x0,carry hB hzX x1,carry hB hzX x2,carry hB hzX x3,carry hB hzX x4,carry hB hzX x5,carry hb hzW hcW⟩,HBX.out.trans (hB.mono HBX.out.size)⟩
       have HRR:Hid (∀ w',Below (wr.alloc (.cells #[.string d0,.string d1,.bool d2] 61)).heap.size (wr.alloc (.cells #[.string d0,.string d1,.bool d2] 61)) w'→w'.cell? ⟨w.heap.size+1,0,none⟩=some (.string ⟨#[]⟩)∧w'.cell? ⟨w.heap.size+1,1,none⟩=some (.int .i64 0)∧w'.cell? ⟨w.heap.size+1,2,none⟩=some (.int .i64 0)∧∀ j,w'.frozen? ⟨w.heap.size+1,j,none⟩=false):=fun w' hb=>by
        have hB:=HBW0.out.trans (hb.mono HBW0.out.size)
        obtain ⟨_,_,y0,y1,y2,y3⟩:=HXR.out
        have hzr:w.heap.size+1<X.heap.size:=by omega
        exact⟨carry hB hzr y0,carry hB hzr y1,carry hB hzr y2,fun j=>carryF hB hzr (y3 j)⟩
       clear hcW hzW
       go_upto_region 8 with fail
       refine wp_region_held_drew (S:=fun w'=>w'.cell? ⟨w.heap.size,0,none⟩=some (.slice va ln vcap)∧w'.cell? ⟨w.heap.size,1,none⟩=some (.map (some r))∧w'.cell? ⟨xo.heap.size,0,none⟩=some (.string (nmC yc))∧w'.cell? ⟨xo.heap.size,1,none⟩=some (.string (suC yc))∧w'.cell? ⟨xo.heap.size,2,none⟩=some (.bool (fiC yc))∧w'.cell? ⟨xo.heap.size,3,none⟩=some (.bool (abC yc))∧w'.cell? ⟨xo.heap.size,4,none⟩=some (.slice (some ⟨b,o,none⟩) (fsC yc).length fc)∧w'.cell? ⟨xo.heap.size,5,none⟩=some (.slice ma (msC yc).length mc)∧w'.cell? ⟨wr.heap.size,2,none⟩=some (.bool d2)) (by kernel_rfl) ((HSX.out _ (Below.refl _ _).drew).1) (fun hHeld=>?_)
       refine tkF 0 rfl (by intro w hSw;(try dsimp only at hSw);go_simp;try with_reducible rfl) hHeld ?_
       (try simp only [Act.put,List.getElem_toArray,List.getElem_cons_zero,List.setIfInBounds_toArray,List.set_cons_zero,List.set_cons_succ])
       refine tkF 1 rfl (by intro w hSw;(try dsimp only at hSw);go_simp;try with_reducible rfl) hHeld ?_
       (try simp only [Act.put,List.getElem_toArray,List.getElem_cons_zero,List.getElem_cons_succ,List.setIfInBounds_toArray,List.set_cons_zero,List.set_cons_succ])
       refine tkF 2 rfl (by intro w hSw;(try dsimp only at hSw);go_simp;try with_reducible rfl) hHeld ?_
       (try simp only [Act.put,List.getElem_toArray,List.getElem_cons_zero,List.getElem_cons_succ,List.setIfInBounds_toArray,List.set_cons_zero,List.set_cons_succ])
       refine tkF 3 rfl (by intro w hSw;(try dsimp only at hSw);go_simp;try with_reducible rfl) hHeld ?_
       (try simp only [Act.put,List.getElem_toArray,List.getElem_cons_zero,List.getElem_cons_succ,List.setIfInBounds_toArray,List.set_cons_zero,List.set_cons_succ])
       refine tkF 4 rfl (by intro w hSw;(try dsimp only at hSw);go_simp;try with_reducible rfl) hHeld ?_
       (try simp only [Act.put,List.getElem_toArray,List.getElem_cons_zero,List.getElem_cons_succ,List.setIfInBounds_toArray,List.set_cons_zero,List.set_cons_succ])
       refine tkF 6 rfl (by intro w hSw;(try dsimp only at hSw);go_simp;try with_reducible rfl) hHeld ?_
       (try simp only [Act.put,List.getElem_toArray,List.getElem_cons_zero,List.getElem_cons_succ,List.setIfInBounds_toArray,List.set_cons_zero,List.set_cons_succ])
       refine tkF 7 rfl (by intro w hSw;(try dsimp only at hSw);go_simp;try with_reducible rfl) hHeld ?_
       (try simp only [Act.put,List.getElem_toArray,List.getElem_cons_zero,List.getElem_cons_succ,List.setIfInBounds_toArray,List.set_cons_zero,List.set_cons_succ])
       refine tkF 8 rfl (by intro w hSw;(try dsimp only at hSw);go_simp;try with_reducible rfl) hHeld ?_
       (try simp only [Act.put,List.getElem_toArray,List.getElem_cons_zero,List.getElem_cons_succ,List.setIfInBounds_toArray,List.set_cons_zero,List.set_cons_succ])
       refine tkF 9 rfl (by intro w hSw;(try dsimp only at hSw);go_simp;try with_reducible rfl) hHeld ?_
       (try simp only [Act.put,List.getElem_toArray,List.getElem_cons_zero,List.getElem_cons_succ,List.setIfInBounds_toArray,List.set_cons_zero,List.set_cons_succ])
       refine tkF 10 rfl (by intro w hSw;(try dsimp only at hSw);go_simp;try with_reducible rfl) hHeld ?_
       (try simp only [Act.put,List.getElem_toArray,List.getElem_cons_zero,List.getElem_cons_succ,List.setIfInBounds_toArray,List.set_cons_zero,List.set_cons_succ])
       refine tkF 11 rfl (by intro w hSw;(try dsimp only at hSw);go_simp;try with_reducible rfl) hHeld ?_
       (try simp only [Act.put,List.getElem_toArray,List.getElem_cons_zero,List.getElem_cons_succ,List.setIfInBounds_toArray,List.set_cons_zero,List.set_cons_succ])
       refine tkF 12 rfl (by intro w hSw;(try dsimp only at hSw);go_simp;try with_reducible rfl) hHeld ?_
       (try simp only [Act.put,List.getElem_toArray,List.getElem_cons_zero,List.getElem_cons_succ,List.setIfInBounds_toArray,List.set_cons_zero,List.set_cons_succ])
       refine wpAnyH_ready (rs:=[5]) (by kernel_rfl) (by simp) ?_
       refine AllReadyH.cons rfl (fun K hK=>?_) AllReadyH.nil
       simp only [List.getElem_toArray,List.getElem_cons_zero,List.getElem_cons_succ]
       go_simp
       refine Calls.mono (HQ.out _ (HSX.out _ (Below.refl _ _).drew).2) ?_
       rintro e w2 ⟨rfl,hb2⟩
       have hB2:Below (wr.alloc (.cells #[.string d0,.string d1,.bool d2] 61)).heap.size (wr.alloc (.cells #[.string d0,.string d1,.bool d2] 61)) w2:=(Below.refl _ _).drew.trans hb2
       refine hK.out _ _ ((HSX.out _ hB2).1) (fun hHeld=>?_)
       clear hK K
       (try simp only [Act.put,List.getElem_toArray,List.getElem_cons_zero,List.getElem_cons_succ,List.setIfInBounds_toArray,List.set_cons_zero,List.set_cons_succ])
       refine wpAnyH_ready (rs:=[13]) (by kernel_rfl) (by simp) ?_
       refine AllReadyH.cons rfl (fun K hK=>?_) AllReadyH.nil
       simp only [List.getElem_toArray,List.getElem_cons_zero,List.getElem_cons_succ]
       go_simp
       refine Calls.mono (HCt.out _ (HSX.out _ hB2).2) ?_
       rintro e w3 ⟨rfl,hb3⟩
       have hB3:Below (wr.alloc (.cells #[.string d0,.string d1,.bool d2] 61)).heap.size (wr.alloc (.cells #[.string d0,.string d1,.bool d2] 61)) w3:=hB2.trans (hb3.mono hB2.size)
       refine hK.out _ _ ((HSX.out _ hB3).1) (fun hHeld=>?_)
       clear hK K
       (try simp only [Act.put,List.getElem_toArray,List.getElem_cons_zero,List.getElem_cons_succ,List.setIfInBounds_toArray,List.set_cons_zero,List.set_cons_succ])
       refine tkF 14 rfl (by intro w hSw;(try dsimp only at hSw);go_simp;try with_reducible rfl) hHeld ?_
       (try simp only [Act.put,List.getElem_toArray,List.getElem_cons_zero,List.getElem_cons_succ,List.setIfInBounds_toArray,List.set_cons_zero,List.set_cons_succ])
       refine tkF 15 rfl (by intro w hSw;(try dsimp only at hSw);go_simp;try with_reducible rfl) hHeld ?_
       (try simp only [Act.put,List.getElem_toArray,List.getElem_cons_zero,List.getElem_cons_succ,List.setIfInBounds_toArray,List.set_cons_zero,List.set_cons_succ])
       refine wpAnyH_done (by kernel_rfl) ?_ _
       obtain ⟨r0,r1,r2,fr⟩:=HRR.out _ hB3
       obtain ⟨⟨_,_,n0,_⟩,hBw3⟩:=HSX.out _ hB3
       have HB3:Hid (Below w.heap.size w w3):=hBw3
       have hz3:w.heap.size+1<w3.heap.size:=World.block_lt_of_cell? _ ⟨w.heap.size+1,0,none⟩ r0
       clear hHeld hb2 hb3 hB2 hB3 hBw3 HSX HRR HBa HQ HCt
       go_wp2_with fail
       refine Calls.mono (HCl1.out _) ?_
       rintro e w4 ⟨rfl,hb4⟩
       have HB4:Hid (Below w.heap.size w w4):=HB3.out.trans (hb4.mono HB3.out.size)
       have s0:=carry hb4 hz3 r0
       have s1:=carry hb4 hz3 r1
       have s2:=carry hb4 hz3 r2
       have fs:∀ j,w4.frozen? ⟨w.heap.size+1,j,none⟩=false:=fun j=>carryF hb4 hz3 (fr j)
       clear hb4 r0 r1 r2 fr n0
       go_wp2
       exact bodyPost_ret (v:=.agg #[.string (nmC yc),.int .i64 ((q:Int)+(ct:Int)),.int .i64 0]) (by simp [results,Tryz.results50,go_sem,s0,s1,s2]) rfl ⟨by rw [HZ.out,← HE.out];rfl,((HB4.out.setCell (by simp) _).setCell (by simp) _).setCell (by simp) _⟩
      ·have t2:=tx_ne e2
       have HN2:=(show Hid _ from HNM.out fun k=>e2 k.2)
       clear HSM HNM e1 e2 hAq HFt
       go_wp2
       go_roundw
       case rel=>exact⟨j+1,by omega,by go_num,HBa.out _,HN2.out⟩
       case measure=>simp [intOf];omega
     ·have t1:=tx_ne e1
      have HN2:=(show Hid _ from HNM.out fun k=>e1 k.1)
      clear HSM HNM e1 hAq HFt
      go_wp2
      go_roundw
      case rel=>exact⟨j+1,by omega,by go_num,HBa.out _,HN2.out⟩
      case measure=>simp [intOf];omega
    ·have HFn:Hid (F 0=F (i+1)):=by
      show _=_
      rw [HFi.out,fIx_none fun k hk=>HNo.out k hk (by omega)]
     obtain rfl:j=(fsC yc).length:=by omega
     clear HNo HFi
     go_wp2
     go_roundw
     case rel=>exact⟨i+1,by omega,by go_num,HBXo.out.trans (HBx.out.mono HBXo.out.size),HFn.out⟩
     case measure=>simp [intOf];omega
  ·obtain rfl:i=T.length:=by omega
   have HZ:Hid (F 0=(tE,0,8)):=HRs.out.trans HFe.out
   clear HRs HOr
   go_wp2
   exact bodyPost_ret (v:=.agg #[.string ⟨#[]⟩,.int .i64 0,.int .i64 8]) (by simp [results,Tryz.results50,go_sem,r0,r1,r2]) rfl ⟨by rw [HZ.out];rfl,((HBr.out.setCell (by simp) _).setCell (by simp) _).setCell (by simp) _⟩
set_option maxRecDepth 20000 in
set_option maxHeartbeats 8000000 in
theorem implFindFieldW (L:List CTup) (va:Option Addr) (vcap r:Nat) (E:List WE) (es:Array MapEntry) (ck:Nat) (cl n t:ByteArray) (w:World) (h:WmIs w r E es ck) (hL:classR.slice.In w [.slice va L.length vcap] L) (hR:Right L) (hE:E.map WE.c=allC L) (hcl:cl.size≤maxLen) (hn:n.size≤maxLen) (hd:t.size≤maxLen) :
  Calls Tryz.prog 50 #[.agg #[.slice va L.length vcap,.map (some r)],.string cl,.string n,.string t] w fun e w'=>e = .returned (fdV (ffL L cl n t))∧Below w.heap.size w w':=by
 have HWu:Hid (∀ w',Below w.heap.size w w'→Calls Tryz.prog 83 #[.agg #[.slice va L.length vcap,.map (some r)],.string cl] w' fun e w2=>Below w'.heap.size w' w2∧∃ v,e = .returned v∧w2.ownsRow w'.heap.size 102 7 v (wyG E cl).length ((wyG E cl).flatMap weC)):=fun w' hb=>implWayUp _ r E es ck cl w' (h.below hb) hcl ⟨_,_,_,rfl⟩ (all_len' hE hR)
 have hmem:∀ i (hi:i<(wyG E cl).length),(wyG E cl)[i].c ∈ allC L:=fun i hi=>by rw [← hE];exact List.mem_map_of_mem (wy_sub E cl _ (List.getElem_mem hi))
 have HFl:Hid (∀ i (hi:i<(wyG E cl).length) w',Below w.heap.size w w'→fieldR.slice.In w' [.slice (wyG E cl)[i].fa (fsC (wyG E cl)[i].c).length (wyG E cl)[i].fc] (fsC (wyG E cl)[i].c)):=fun i hi w' hb=>fieldR.slice.mono _ _ _ _ hb (h.lies _ (wy_sub E cl _ (List.getElem_mem hi))).f
 have HF8:Hid (∀ i (hi:i<(wyG E cl).length),(fsC (wyG E cl)[i].c).length≤8):=fun i hi=>cls_f8 hR _ (hmem i hi)
 have HAh:Hid (∀ i (hi:i<(wyG E cl).length) j (hj:j<(fsC (wyG E cl)[i].c).length) st,(fsC (wyG E cl)[i].c)[j].2.2=st→∃ q:Nat,q≤1000∧(q:Int)+((cntF ((fsC (wyG E cl)[i].c).take j) st:Nat):Int)=ffP L (wyG E cl)[i].c j∧∀ w',Below w.heap.size w w'→Calls Tryz.prog 88 #[.agg #[.slice va L.length vcap,.map (some r)],clV (wyG E cl)[i].c (wyG E cl)[i].fa (wyG E cl)[i].fc (wyG E cl)[i].ma (wyG E cl)[i].mc,.bool st] w' fun e w2=>e = .returned (.int .i64 (q:Int))∧Below w'.heap.size w' w2):=fun i hi j hj st hst=>by
  have hcL:=ff_mem (hmem i hi) hj
  have hf8:∀ c ∈ L,(fsC c).length≤8:=fun c hc=>cls_f8 hR c (List.mem_append_right _ hc)
  cases st with
  | false =>
   refine ⟨(fldL L (suC (wyG E cl)[i].c)).length,?_,(ffP_no hj hst).symm,fun w' hb=>implAheadNo L va vcap r E es ck _ _ _ _ _ w' (h.below hb) hR hE (h.lies _ (wy_sub E cl _ (List.getElem_mem hi))).s⟩
   have:=fldL_len (Past.acyL fun q hq=>hR.2 q (by omega)) hf8 (suC (wyG E cl)[i].c)
   have:=hR.1
   omega
  | true =>
   obtain ⟨up,hup⟩:∃ up,fixG nmC L (nmC (wyG E cl)[i].c)=some up:=by
    rcases fix_cases nmC L (nmC (wyG E cl)[i].c) with ⟨_,k2⟩ | ⟨k,hk,k1,_⟩
    ·exact absurd rfl (lkG_none.1 k2 _ hcL)
    ·exact⟨k,k1⟩
   obtain ⟨hul,_⟩:=fix_some hup
   refine ⟨stA L up,?_,?_,fun w' hb=>implAheadSt L va vcap (some r) _ _ _ _ _ up w' (classR.slice.mono _ _ _ _ hb hL) hR.1 hf8 hup⟩
   ·have:=stA_le hf8 up
    have:=hR.1
    omega
   ·rw [ffP_st hj hst,hup]
    rfl
 have HCl:Hid (∀ i (hi:i<(wyG E cl).length) w',Calls Tryz.prog 43 #[.string (nmC (wyG E cl)[i].c)] w' fun e w2=>e = .returned (.string (nmC (wyG E cl)[i].c))∧Below w'.heap.size w' w2):=fun i hi w'=>libClone _ w' (Nat.le_trans (all_size hR.part _ (hmem i hi)) (by decide))
 have HF0:Hid (ffL L cl n t=ffU L n t (((wyG E cl).drop 0).map WE.c)):=(ff_tie hR hE cl n t).symm
 have hT1:(wyG E cl).length≤100:=Nat.le_trans (wy_len E cl) (all_len' hE hR)
 have hlm:L.length≤maxLen:=by have:=hR.1;unfold maxLen;omega
 rw [HF0.out]
 exact findFieldCore (wyG E cl) (fun i=>ffU L n t (((wyG E cl).drop i).map WE.c)) (fun i j=>if h:i<(wyG E cl).length then ffP L (wyG E cl)[i].c j else 0) va L.length vcap r cl n t w hcl hn hd hT1 hlm HWu HFl HF8 (fun i hi j hj st e=>by obtain ⟨q,q1,q2,q3⟩:=HAh.out i hi j hj st e;exact⟨q,q1,by rw [q2,dif_pos hi],q3⟩) HCl (fun i hi=>by simp only [dif_pos hi];rw [List.drop_eq_getElem_cons hi];rfl) (by show ffU L n t (((wyG E cl).drop (wyG E cl).length).map WE.c)=_;rw [List.drop_length];rfl)
end
section
open Go.RowKit
set_option maxRecDepth 20000
set_option linter.unusedVariables false
theorem found3_al2 {w:World} {R:Nat} {u0 u1 u2:Value} (hR:R<w.heap.size) (r0:w.cell? ⟨R,0,none⟩=some u0) (r1:w.cell? ⟨R,1,none⟩=some u1) (r2:w.cell? ⟨R,2,none⟩=some u2) (v0 v1 v2:Value) (o1 o2:Obj) :
  (((((w.setCell ⟨R,0,none⟩ v0).setCell ⟨R,1,none⟩ v1).setCell ⟨R,2,none⟩ v2).alloc o1).alloc o2).cell? ⟨R,0,none⟩=some v0∧(((((w.setCell ⟨R,0,none⟩ v0).setCell ⟨R,1,none⟩ v1).setCell ⟨R,2,none⟩ v2).alloc o1).alloc o2).cell? ⟨R,1,none⟩=some v1∧(((((w.setCell ⟨R,0,none⟩ v0).setCell ⟨R,1,none⟩ v1).setCell ⟨R,2,none⟩ v2).alloc o1).alloc o2).cell? ⟨R,2,none⟩=some v2 :=
 ⟨carry (below_al2 _ o1 o2) (by simpa using hR) (found3 r0 r1 r2 v0 v1 v2).1,carry (below_al2 _ o1 o2) (by simpa using hR) (found3 r0 r1 r2 v0 v1 v2).2.1,carry (below_al2 _ o1 o2) (by simpa using hR) (found3 r0 r1 r2 v0 v1 v2).2.2⟩
theorem any3 (a b c:ByteArray):(([a,b,c]:List ByteArray).any fun x=>decide (20000<x.size))=(decide (20000<a.size) || (decide (20000<b.size) || decide (20000<c.size))):=by simp
set_option maxHeartbeats 2000000 in
theorem implFindFieldOf (L:List CTup) (v:Value) (cl n d:ByteArray) (w:World) (h:classR.slice.In w [v] L) (ht:Tab w) (hg:Glob w) (h1:cl.size≤maxLen) (h2:n.size≤maxLen) (h3:d.size≤maxLen) :
  Calls Tryz.prog 19 #[v,.string cl,.string n,.string d] w fun e w'=>e = .returned (fdV (ffV L cl n d))∧Below w.heap.size w w':=by
 have HLg:Hid ((400<L.length ∨ 20000<cl.size ∨ 20000<n.size ∨ 20000<d.size)→ffV L cl n d=(tE,0,2)):=fun k=>by unfold ffV;rw [if_pos k]
 have HSh:Hid (¬ (400<L.length ∨ 20000<cl.size ∨ 20000<n.size ∨ 20000<d.size)→ffV L cl n d=if rtB L then ffL L cl n d else (tE,0,0)):=fun k=>by unfold ffV;rw [if_neg k]
 have HT:Hid (∀ g w',(w'.cell? ⟨g,0,none⟩=some (.string cl)∧w'.cell? ⟨g,1,none⟩=some (.string n)∧w'.cell? ⟨g,2,none⟩=some (.string d))→Calls Tryz.prog 49 #[.slice (some ⟨g,0,none⟩) 3 3] w' fun e w2=>e = .returned (.bool (decide (20000<cl.size) || (decide (20000<n.size) || decide (20000<d.size))))∧w2=w'):=fun g w' hc=>by
  have:=implTooLong [cl,n,d] g w' rfl (by simp;exact⟨h1,h2,h3⟩) (fun i hi=>by
   match i,hi with
   | 0,_=>exact hc.1
   | 1,_=>exact hc.2.1
   | 2,_=>exact hc.2.2)
  rw [any3] at this
  exact this
 have HMk:Hid (∀ w',Below w.heap.size w w'→(rtB L=false∧Calls Tryz.prog 41 #[v] w' fun e w2=>Below w'.heap.size w' w2∧e = .returned (.tuple #[.agg #[.slice none 0 0,.map none],.agg #[.int .i64 (wOut L).1,.int .i64 (wOut L).2]])) ∨
  (rtB L=true∧Right L∧Calls Tryz.prog 41 #[v] w' fun e w2=>Below w'.heap.size w' w2∧∃ r E es ck,e = .returned (.tuple #[wdV v r,.agg #[.int .i64 (wOut L).1,.int .i64 (wOut L).2]])∧WmIs w2 r E es ck∧E.map WE.c=allC L)):=fun w' hb=>implMake2 L v w' (classR.slice.mono _ _ _ _ hb h) (ht.mono hb) (hg.mono hb)
 have HLI:=(show Hid (classR.slice.In w [v] L) from h)
 have HO:Hid ((rtB L=false→(wOut L).2 ≠ 0)∧(rtB L=true→(wOut L).2=0)):=by
  unfold rtB
  exact⟨fun k=>by simpa using k,fun k=>by simpa using k⟩
 obtain ⟨va,vcap,rfl,hvn,hvc,_⟩:=slice_open (by decide) h
 have H123:=(show Hid (cl.size≤maxLen∧n.size≤maxLen∧d.size≤maxLen) from ⟨h1,h2,h3⟩)
 unfold maxLen at h1 h2 h3 hvc
 clear h ht hg
 generalize ffV L cl n d=res at *
 by_cases k0:400<L.length
 ·have HZ:Hid (res=(tE,0,2)):=HLg.out (.inl k0)
  have c0:decide ((400:Int)<(L.length:Int))=true:=by simp;omega
  clear HLg HSh
  go_enter Tryz.func19,Tryz.ntmps19
  go_wp2
  exact bodyPost_ret (v:=.agg #[.string ⟨#[]⟩,.int .i64 0,.int .i64 2]) (by simp [results,Tryz.results19,go_sem]) rfl ⟨by rw [HZ.out];rfl,by first | exact below_al _ _ | exact (((below_al _ _).setCell (by simp) _).setCell (by simp) _).setCell (by simp) _⟩
 have c0:decide ((400:Int)<(L.length:Int))=false:=by simp;omega
 by_cases kk:20000<cl.size ∨ 20000<n.size ∨ 20000<d.size
 ·have HZ:Hid (res=(tE,0,2)):=HLg.out (.inr kk)
  have HT1:Hid (∀ g w',(w'.cell? ⟨g,0,none⟩=some (.string cl)∧w'.cell? ⟨g,1,none⟩=some (.string n)∧w'.cell? ⟨g,2,none⟩=some (.string d))→Calls Tryz.prog 49 #[.slice (some ⟨g,0,none⟩) 3 3] w' fun e w2=>e = .returned (.bool true)∧w2=w'):=fun g w' hc=>by
   have:=HT.out g w' hc
   rw [show (decide (20000<cl.size) || (decide (20000<n.size) || decide (20000<d.size)))=true by simpa using kk] at this
   exact this
  clear HLg HSh HT kk
  go_enter Tryz.func19,Tryz.ntmps19
  go_wp2_with fail
  have HBW:Hid (Below w.heap.size w ((w.alloc (.cells #[.string ⟨#[]⟩,.int .i64 0,.int .i64 0] 34)).alloc (.cells #[.string cl,.string n,.string d] 9))):=below_al2 _ _ _
  have r0:((w.alloc (.cells #[.string ⟨#[]⟩,.int .i64 0,.int .i64 0] 34)).alloc (.cells #[.string cl,.string n,.string d] 9)).cell? ⟨w.heap.size,0,none⟩=some (.string ⟨#[]⟩):=by simp [go_sem]
  have r1:((w.alloc (.cells #[.string ⟨#[]⟩,.int .i64 0,.int .i64 0] 34)).alloc (.cells #[.string cl,.string n,.string d] 9)).cell? ⟨w.heap.size,1,none⟩=some (.int .i64 0):=by simp [go_sem]
  have r2:((w.alloc (.cells #[.string ⟨#[]⟩,.int .i64 0,.int .i64 0] 34)).alloc (.cells #[.string cl,.string n,.string d] 9)).cell? ⟨w.heap.size,2,none⟩=some (.int .i64 0):=by simp [go_sem]
  have fr:∀ j,((w.alloc (.cells #[.string ⟨#[]⟩,.int .i64 0,.int .i64 0] 34)).alloc (.cells #[.string cl,.string n,.string d] 9)).frozen? ⟨w.heap.size,j,none⟩=false:=fun j=>by simp [go_sem]
  have s0:((w.alloc (.cells #[.string ⟨#[]⟩,.int .i64 0,.int .i64 0] 34)).alloc (.cells #[.string cl,.string n,.string d] 9)).cell? ⟨w.heap.size+1,0,none⟩=some (.string cl):=by simp [go_sem]
  have s1:((w.alloc (.cells #[.string ⟨#[]⟩,.int .i64 0,.int .i64 0] 34)).alloc (.cells #[.string cl,.string n,.string d] 9)).cell? ⟨w.heap.size+1,1,none⟩=some (.string n):=by simp [go_sem]
  have s2:((w.alloc (.cells #[.string ⟨#[]⟩,.int .i64 0,.int .i64 0] 34)).alloc (.cells #[.string cl,.string n,.string d] 9)).cell? ⟨w.heap.size+1,2,none⟩=some (.string d):=by simp [go_sem]
  have hz:w.heap.size<((w.alloc (.cells #[.string ⟨#[]⟩,.int .i64 0,.int .i64 0] 34)).alloc (.cells #[.string cl,.string n,.string d] 9)).heap.size:=by simp;omega
  generalize ((w.alloc (.cells #[.string ⟨#[]⟩,.int .i64 0,.int .i64 0] 34)).alloc (.cells #[.string cl,.string n,.string d] 9))=W at *
  refine Calls.mono (HT1.out _ _ ⟨s0,s1,s2⟩) ?_
  rintro e w1 ⟨rfl,hw1⟩
  subst w1
  clear s0 s1 s2
  have q:=found3 r0 r1 r2 (.string ⟨#[]⟩) (.int .i64 0) (.int .i64 2)
  go_wp2
  exact bodyPost_ret (v:=.agg #[.string ⟨#[]⟩,.int .i64 0,.int .i64 2]) (by simp [results,Tryz.results19,go_sem,q.1,q.2.1,q.2.2]) rfl ⟨by rw [HZ.out];rfl,((HBW.out.setCell (by simp) _).setCell (by simp) _).setCell (by simp) _⟩
 have HT1:Hid (∀ g w',(w'.cell? ⟨g,0,none⟩=some (.string cl)∧w'.cell? ⟨g,1,none⟩=some (.string n)∧w'.cell? ⟨g,2,none⟩=some (.string d))→Calls Tryz.prog 49 #[.slice (some ⟨g,0,none⟩) 3 3] w' fun e w2=>e = .returned (.bool false)∧w2=w'):=fun g w' hc=>by
  have:=HT.out g w' hc
  rw [show (decide (20000<cl.size) || (decide (20000<n.size) || decide (20000<d.size)))=false by simp;omega] at this
  exact this
 have HS:=(show Hid _ from HSh.out (by omega))
 clear HLg HSh HT
 go_enter Tryz.func19,Tryz.ntmps19
 go_wp2_with fail
 have HBW:Hid (Below w.heap.size w ((w.alloc (.cells #[.string ⟨#[]⟩,.int .i64 0,.int .i64 0] 34)).alloc (.cells #[.string cl,.string n,.string d] 9))):=below_al2 _ _ _
 have r0:((w.alloc (.cells #[.string ⟨#[]⟩,.int .i64 0,.int .i64 0] 34)).alloc (.cells #[.string cl,.string n,.string d] 9)).cell? ⟨w.heap.size,0,none⟩=some (.string ⟨#[]⟩):=by simp [go_sem]
 have r1:((w.alloc (.cells #[.string ⟨#[]⟩,.int .i64 0,.int .i64 0] 34)).alloc (.cells #[.string cl,.string n,.string d] 9)).cell? ⟨w.heap.size,1,none⟩=some (.int .i64 0):=by simp [go_sem]
 have r2:((w.alloc (.cells #[.string ⟨#[]⟩,.int .i64 0,.int .i64 0] 34)).alloc (.cells #[.string cl,.string n,.string d] 9)).cell? ⟨w.heap.size,2,none⟩=some (.int .i64 0):=by simp [go_sem]
 have fr:∀ j,((w.alloc (.cells #[.string ⟨#[]⟩,.int .i64 0,.int .i64 0] 34)).alloc (.cells #[.string cl,.string n,.string d] 9)).frozen? ⟨w.heap.size,j,none⟩=false:=fun j=>by simp [go_sem]
 have s0:((w.alloc (.cells #[.string ⟨#[]⟩,.int .i64 0,.int .i64 0] 34)).alloc (.cells #[.string cl,.string n,.string d] 9)).cell? ⟨w.heap.size+1,0,none⟩=some (.string cl):=by simp [go_sem]
 have s1:((w.alloc (.cells #[.string ⟨#[]⟩,.int .i64 0,.int .i64 0] 34)).alloc (.cells #[.string cl,.string n,.string d] 9)).cell? ⟨w.heap.size+1,1,none⟩=some (.string n):=by simp [go_sem]
 have s2:((w.alloc (.cells #[.string ⟨#[]⟩,.int .i64 0,.int .i64 0] 34)).alloc (.cells #[.string cl,.string n,.string d] 9)).cell? ⟨w.heap.size+1,2,none⟩=some (.string d):=by simp [go_sem]
 have hz:w.heap.size<((w.alloc (.cells #[.string ⟨#[]⟩,.int .i64 0,.int .i64 0] 34)).alloc (.cells #[.string cl,.string n,.string d] 9)).heap.size:=by simp;omega
 generalize ((w.alloc (.cells #[.string ⟨#[]⟩,.int .i64 0,.int .i64 0] 34)).alloc (.cells #[.string cl,.string n,.string d] 9))=W at *
 refine Calls.mono (HT1.out _ _ ⟨s0,s1,s2⟩) ?_
 rintro e w1 ⟨rfl,hw1⟩
 subst w1
 clear s0 s1 s2
 go_wp2_with fail
 rcases HMk.out _ HBW.out with ⟨hr,hm⟩ | ⟨hr,hR,hm⟩
 ·have HZ:Hid (res=(tE,0,0)):=by show _=_;rw [HS.out,hr];rfl
  have ho:=HO.out.1 hr
  clear HS HMk HO hr
  generalize (wOut L).1=o1 at *
  generalize (wOut L).2=o2 at *
  have d1:(o2 != 0)=true:=by simpa using ho
  have d2:(o2 == 0)=false:=by simpa using ho
  refine Calls.mono hm ?_
  rintro e w2 ⟨hb2,rfl⟩
  have HB2:Hid (Below w.heap.size w w2):=HBW.out.trans (hb2.mono HBW.out.size)
  replace r0:=carry hb2 hz r0
  replace r1:=carry hb2 hz r1
  replace r2:=carry hb2 hz r2
  replace fr:∀ j,w2.frozen? ⟨w.heap.size,j,none⟩=false:=fun j=>carryF hb2 hz (fr j)
  have hz2:w.heap.size<w2.heap.size:=Nat.lt_of_lt_of_le hz hb2.size
  clear hb2 hm ho
  go_wp2
  have q:=found3_al2 hz2 r0 r1 r2 (.string ⟨#[]⟩) (.int .i64 0) (.int .i64 0) (.cells #[.slice none 0 0,.map none] 72) (.cells #[.int .i64 o1,.int .i64 o2] 47)
  exact bodyPost_ret (v:=.agg #[.string ⟨#[]⟩,.int .i64 0,.int .i64 0]) (by simp [results,Tryz.results19,go_sem,q.1,q.2.1,q.2.2]) rfl ⟨by rw [HZ.out];rfl,((((HB2.out.setCell (by simp) _).setCell (by simp) _).setCell (by simp) _).alloc (by simp;omega) _).alloc (by simp;omega) _⟩
 ·have HZ:Hid (res=ffL L cl n d):=by show _=_;rw [HS.out,hr];rfl
  have ho:=HO.out.2 hr
  rw [ho] at hm
  clear HS HMk HO hr ho
  generalize (wOut L).1=o1 at *
  refine Calls.mono hm ?_
  rintro e w2 ⟨hb2,r,E,es,ck,rfl,hwm,hE⟩
  have HB2:Hid (Below w.heap.size w w2):=HBW.out.trans (hb2.mono HBW.out.size)
  replace r0:=carry hb2 hz r0
  replace r1:=carry hb2 hz r1
  replace r2:=carry hb2 hz r2
  replace fr:∀ j,w2.frozen? ⟨w.heap.size,j,none⟩=false:=fun j=>carryF hb2 hz (fr j)
  have hz2:w.heap.size<w2.heap.size:=Nat.lt_of_lt_of_le hz hb2.size
  have HF:Hid (∀ w',Below w2.heap.size w2 w'→Calls Tryz.prog 50 #[.agg #[.slice va L.length vcap,.map (some r)],.string cl,.string n,.string d] w' fun e w3=>e = .returned (fdV (ffL L cl n d))∧Below w'.heap.size w' w3):=fun w' hb=>by
   exact implFindFieldW L va vcap r E es ck cl n d w' (hwm.below hb) (classR.slice.mono _ _ _ _ (HB2.out.trans (hb.mono HB2.out.size)) HLI.out) hR hE H123.out.1 H123.out.2.1 H123.out.2.2
  clear hb2 hm hwm hE hR
  generalize ffL L cl n d=fd at *
  obtain ⟨f0,f1,f2⟩:=fd
  unfold fdV at HF
  simp only at HF
  unfold wdV
  have hza:∀ o1 o2,((w2.alloc o1).alloc o2).heap.size=w2.heap.size+2:=fun o1 o2=>by simp
  have ra0:∀ o1 o2,((w2.alloc o1).alloc o2).cell? ⟨w.heap.size,0,none⟩=some (.string ⟨#[]⟩):=fun o1 o2=>carry (below_al2 w2 o1 o2) hz2 r0
  have ra1:∀ o1 o2,((w2.alloc o1).alloc o2).cell? ⟨w.heap.size,1,none⟩=some (.int .i64 0):=fun o1 o2=>carry (below_al2 w2 o1 o2) hz2 r1
  have ra2:∀ o1 o2,((w2.alloc o1).alloc o2).cell? ⟨w.heap.size,2,none⟩=some (.int .i64 0):=fun o1 o2=>carry (below_al2 w2 o1 o2) hz2 r2
  have fra:∀ o1 o2 j,((w2.alloc o1).alloc o2).frozen? ⟨w.heap.size,j,none⟩=false:=fun o1 o2 j=>carryF (below_al2 w2 o1 o2) hz2 (fr j)
  go_wp2_with fail
  refine Calls.mono (HF.out _ (below_al2 _ _ _)) ?_
  rintro e w3 ⟨rfl,hb3⟩
  have HB3:Hid (Below w.heap.size w w3):=(HB2.out.trans ((below_al2 _ _ _).mono HB2.out.size)).trans (hb3.mono (by have:=HB2.out.size;simp;omega))
  replace r0:=carry hb3 (by simp;omega) (ra0 _ _)
  replace r1:=carry hb3 (by simp;omega) (ra1 _ _)
  replace r2:=carry hb3 (by simp;omega) (ra2 _ _)
  replace fr:∀ j,w3.frozen? ⟨w.heap.size,j,none⟩=false:=fun j=>carryF hb3 (by simp;omega) (fra _ _ j)
  clear hb3 ra0 ra1 ra2 fra hza
  have q:=found3 r0 r1 r2 (.string f0) (.int .i64 f1) (.int .i64 f2)
  go_wp2
  exact bodyPost_ret (v:=.agg #[.string f0,.int .i64 f1,.int .i64 f2]) (by simp [results,Tryz.results19,go_sem,q.1,q.2.1,q.2.2]) rfl ⟨by rw [HZ.out];rfl,((HB3.out.setCell (by simp) _).setCell (by simp) _).setCell (by simp) _⟩
end
end Go.Proofs.YtmhgaggpdggbeaaGreatDoor
