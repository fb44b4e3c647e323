import Derived.Test.YtgohomcodjnfiaaGreatDoorWi9
import Derived.Test.YtgohomcodjnfiaaGreatDoorWi12
import Derived.Test.YtgohomcodjnfiaaGreatDoorWi10
import Derived.Test.YtgohomcodjnfiaaGreatDoorWdT
namespace Go.Proofs.YtgohomcodjnfiaaGreatDoor
open Go.RowKit
set_option maxRecDepth 20000
set_option linter.unusedVariables false

theorem set2_al2 {wr:World} {R:Nat} {u0 u1:Value} (hR:R<wr.heap.size) (r0:wr.cell? ⟨R,0,none⟩=some u0) (r1:wr.cell? ⟨R,1,none⟩=some u1) (v0 v1:Value) (o1 o2:Obj) :
  ((((wr.setCell ⟨R,0,none⟩ v0).setCell ⟨R,1,none⟩ v1).alloc o1).alloc o2).cell? ⟨R,0,none⟩=some v0∧((((wr.setCell ⟨R,0,none⟩ v0).setCell ⟨R,1,none⟩ v1).alloc o1).alloc o2).cell? ⟨R,1,none⟩=some v1 :=
 ⟨carry (below_al2 _ o1 o2) (by simpa using hR) (by simp [go_sem,r0]),carry (below_al2 _ o1 o2) (by simpa using hR) (by simp [go_sem,r1])⟩
theorem nameB_le {n:ByteArray} (h:nameB n=true):n.size≤20:=by
 unfold nameB at h
 simp only [decide_eq_true_eq] at h
 omega
theorem bi_size:∀ b ∈ biC,(nmC b).size≤20:=by decide
theorem all_size {L:List CTup} (hp:Part L L.length):∀ c ∈ allC L,(nmC c).size≤20:=fun c hc=>by
 rcases List.mem_append.1 hc with k | k
 ·exact bi_size c k
 ·obtain ⟨i,hi,rfl⟩:=List.mem_iff_getElem.1 k
  exact nameB_le (hp.ok i hi hi).n
theorem all_len {E:List WE} {L:List CTup} (h:E.map WE.c=allC L) (hl:L.length≤10):E.length≤100:=by
 have:=congrArg List.length h
 have h8:biC.length=8:=rfl
 simp [allC,h8] at this
 omega
theorem implMakeWorld0 (L:List CTup) (v:Value) (w0 w:World) (hb0:Below w0.heap.size w0 w) (h:classR.slice.In w0 [v] L) (ht:Tab w) (hg:Glob w) :
  Calls Tryz.prog 21 #[v] w fun e w'=>Below w.heap.size w w'∧∃ wv,e = .returned (.tuple #[wv,.agg #[.int .i64 (wOut L).1,.int .i64 (wOut L).2]])∧((wOut L).2 ≠ 0→wv = .agg #[.slice none 0 0,.map none])∧((wOut L).2=0→∃ r E es ck,wv=wdV v r∧WmIs w' r E es ck∧E.map WE.c=allC L∧∀ y ∈ E,fieldR.slice.In w0 [y.vc] (fsC y.c)∧methR.slice.In w0 [y.vh] (msC y.c)):=by
 have hv:∃ a k c,v = .slice a k c:=by obtain ⟨a,cap,rfl,_⟩:=slice_open (by decide) h;exact⟨_,_,_,rfl⟩
 refine implMakeWorldIf L v w0 w hb0 h ht hg fun hl10 hp r E es ck c fa fc ma mc w' hc hwm hEm hf hm=>?_
 have:c ∈ E.map WE.c:=by rw [hEm];exact List.mem_append.2 (.inr hc)
 obtain ⟨x,hx,rfl⟩:=List.mem_map.1 this
 exact implMethodsFault L v r E es ck x fa fc ma mc w' hp hEm hc hwm hx hv (all_len hEm hl10) (fun y hy=>Nat.le_trans (all_size (hp.part (by omega)) y.c (by rw [← hEm];exact List.mem_map.2 ⟨y,hy,rfl⟩)) (by decide)) hm
theorem implMakeWorld (L:List CTup) (v:Value) (w:World) (h:classR.slice.In w [v] L) (ht:Tab w) (hg:Glob w) :
  Calls Tryz.prog 21 #[v] w fun e w'=>Below w.heap.size w w'∧∃ wv,e = .returned (.tuple #[wv,.agg #[.int .i64 (wOut L).1,.int .i64 (wOut L).2]])∧((wOut L).2 ≠ 0→wv = .agg #[.slice none 0 0,.map none])∧((wOut L).2=0→∃ r E es ck,wv=wdV v r∧WmIs w' r E es ck∧E.map WE.c=allC L∧∀ y ∈ E,fieldR.slice.In w [y.vc] (fsC y.c)∧methR.slice.In w [y.vh] (msC y.c)):=implMakeWorld0 L v w w (Below.refl _ _) h ht hg
end Go.Proofs.YtgohomcodjnfiaaGreatDoor

namespace Go.Proofs.YtgohomcodjnfiaaGreatDoor
open Go.RowKit
set_option linter.unusedVariables false
theorem look0 (n:ByteArray) (hn:n.size≤maxLen) (w:World):(Instr.lookup 48 (.map none) (.string n) true).run Tryz.prog w = .ok (.tuple #[zWE,.bool false]) w∧(Instr.lookup 48 (.map none) (.string n) false).run Tryz.prog w = .ok zWE w:=by
 have hx:keyOf Tryz.prog 9 (.string n)=some (.string n.data.toList):=WideMaps.keyOf_string_mk Tryz.underlying9 hn
 have hz:=zeroWE w
 rcases (strLaw).find w hx [] (by simp) with ⟨h1,_⟩ | ⟨j,e,_,h2,_⟩
 ·constructor<;>simp [Instr.lookup,run_underlying Tryz.underlying48,hz,Result.andThen,(strLaw).check w _ hx,h1]
 ·simp at h2
theorem implKnown0 (n:ByteArray) (hn:n.size≤maxLen) (w:World) :
  Calls Tryz.prog 63 #[.agg #[.slice none 0 0,.map none],.string n] w fun e w'=>e = .returned (.bool false)∧Below w.heap.size w w':=by
 have h2:=fun w=>(look0 n hn w).1
 unfold zWE at h2
 go_enter Tryz.func63,Tryz.ntmps63
 go_wp2
 go_ret
 exact⟨rfl,below_al2 _ _ _⟩
set_option maxRecDepth 100000 in
set_option maxHeartbeats 1000000 in
theorem implWayUp0 (n:ByteArray) (hn:n.size≤maxLen) (w:World) :
  Calls Tryz.prog 44 #[.agg #[.slice none 0 0,.map none],.string n] w fun e w'=>e = .returned (.slice none 0 0)∧Below w.heap.size w w':=by
 have HK:Hid (∀ w,Calls Tryz.prog 63 #[.agg #[.slice none 0 0,.map none],.string n] w fun e w'=>e = .returned (.bool false)∧Below w.heap.size w w'):=fun w=>implKnown0 n hn w
 go_enter Tryz.func44,Tryz.ntmps44
 go_wp2_with fail
 go_step3
 go_wp2_with fail
 go_step3
 go_wp2_with fail
 have x0:(w.alloc (.cells #[.slice none 0 0,.map none] 50)).cell? ⟨w.heap.size,0,none⟩=some (.slice none 0 0):=by simp [go_sem]
 have x1:(w.alloc (.cells #[.slice none 0 0,.map none] 50)).cell? ⟨w.heap.size,1,none⟩=some (.map none):=by simp [go_sem]
 have HBW:Hid (Below w.heap.size w (w.alloc (.cells #[.slice none 0 0,.map none] 50))):=below_al _ _
 generalize w.alloc (.cells #[.slice none 0 0,.map none] 50)=W at *
 go_loopw [1,5] (fun j1 j5 wr=>j1 = .string n∧j5 = .slice none 0 0∧wr=W) (fun _ _ _=>0)
 case atStart=>exact⟨rfl,rfl,rfl⟩
 case round =>
  obtain ⟨rfl,rfl,rfl⟩:=hrel
  go_wp2_with fail
  refine Calls.mono (HK.out _) ?_
  rintro e w1 ⟨rfl,hb1⟩
  have HB1:Hid (Below w.heap.size w w1):=HBW.out.trans (hb1.mono HBW.out.size)
  clear hb1
  go_wp2
  try rw [Exit.noGoto_ret]
  go_ret
  exact⟨rfl,HB1.out⟩
theorem implMake2 (L:List CTup) (v:Value) (w:World) (h:classR.slice.In w [v] L) (ht:Tab w) (hg:Glob w) :
  (rtB L=false∧Calls Tryz.prog 21 #[v] w fun e w'=>Below w.heap.size w w'∧e = .returned (.tuple #[.agg #[.slice none 0 0,.map none],.agg #[.int .i64 (wOut L).1,.int .i64 (wOut L).2]])) ∨
  (rtB L=true∧Right L∧Calls Tryz.prog 21 #[v] w fun e w'=>Below w.heap.size w w'∧∃ r E es ck,e = .returned (.tuple #[wdV v r,.agg #[.int .i64 (wOut L).1,.int .i64 (wOut L).2]])∧WmIs w' r E es ck∧E.map WE.c=allC L):=by
 cases hr:rtB L with
 | false =>
  refine .inl ⟨rfl,Calls.mono (implMakeWorld L v w h ht hg) ?_⟩
  rintro e w' ⟨h1,wv,rfl,h2,_⟩
  have:(wOut L).2 ≠ 0:=by unfold rtB at hr;simpa using hr
  rw [h2 this]
  exact⟨h1,rfl⟩
 | true =>
  refine .inr ⟨rfl,rt_right hr,Calls.mono (implMakeWorld L v w h ht hg) ?_⟩
  rintro e w' ⟨h1,wv,rfl,_,h3⟩
  have:(wOut L).2=0:=by unfold rtB at hr;simpa using hr
  obtain ⟨r,E,es,ck,rfl,h4,h5,_⟩:=h3 this
  exact⟨h1,r,E,es,ck,rfl,h4,h5⟩
theorem sub_eq {L:List CTup} {E:List WE} (hR:Right L) (h:E.map WE.c=allC L) (a b:ByteArray):subB E a b=sbC L a b:=by
 unfold subB sbC
 rw [← wyE hR.acy h a,List.any_map]
 rfl
theorem com_eq {L:List CTup} {E:List WE} (hR:Right L) (h:E.map WE.c=allC L) (b:ByteArray) (W:List WE):comB E b W=comL L b (W.map WE.c):=by
 induction W with
 | nil=>rfl
 | cons x t ih =>
  unfold comB
  rw [sub_eq hR h,ih]
  rfl
theorem com_size {L:List CTup} (hR:Right L) {b:ByteArray} (W:List CTup) (h:∀ c ∈ W,c ∈ allC L):(comL L b W).size≤20:=by
 induction W with
 | nil=>show tE.size≤20;decide
 | cons c t ih =>
  unfold comL
  split
  ·exact all_size hR.part c (h c List.mem_cons_self)
  ·exact ih fun d hd=>h d (List.mem_cons_of_mem _ hd)
theorem all_len' {E:List WE} {L:List CTup} (h:E.map WE.c=allC L) (hR:Right L):E.length≤100:=all_len h hR.1
end Go.Proofs.YtgohomcodjnfiaaGreatDoor
