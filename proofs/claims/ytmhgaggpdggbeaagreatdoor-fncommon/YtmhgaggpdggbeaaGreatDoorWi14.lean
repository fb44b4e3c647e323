import Derived.Test.YtmhgaggpdggbeaaGreatDoorWi9
import Derived.Test.YtmhgaggpdggbeaaGreatDoorWi12
import Derived.Test.YtmhgaggpdggbeaaGreatDoorWi10
import Derived.Test.YtmhgaggpdggbeaaGreatDoorWdT
namespace Go.Proofs.YtmhgaggpdggbeaaGreatDoor
open Go.RowKit
set_option maxRecDepth 20000
set_option linter.unusedVariables false

theorem nameB_le {n:ByteArray} (h:nameB n=true):n.size≤20:=by
 unfold nameB at h
 simp only [decide_eq_true_eq] at h
 omega
theorem bi_size:∀ b ∈ biC,(nmC b).size≤20:=by decide
theorem all_size {L:List CTup} (hp:Part L L.length):∀ c ∈ allC L,(nmC c).size≤20:=fun c hc=>by
 rcases List.mem_append.1 hc with k | k
 ·exact bi_size c k
 ·obtain ⟨i,hi,rfl⟩:=List.mem_iff_getElem.1 k
  exact nameB_le (hp.ok i hi hi).n
theorem all_len {E:List WE} {L:List CTup} (h:E.map WE.c=allC L) (hl:L.length≤10):E.length≤100:=by
 have:=congrArg List.length h
 have h8:biC.length=8:=rfl
 simp [allC,h8] at this
 omega
theorem implMakeWorld0 (L:List CTup) (v:Value) (w0 w:World) (hb0:Below w0.heap.size w0 w) (h:classR.slice.In w0 [v] L) (ht:Tab w) (hg:Glob w) :
  Calls Tryz.prog 41 #[v] w fun e w'=>Below w.heap.size w w'∧∃ wv,e = .returned (.tuple #[wv,.agg #[.int .i64 (wOut L).1,.int .i64 (wOut L).2]])∧((wOut L).2 ≠ 0→wv = .agg #[.slice none 0 0,.map none])∧((wOut L).2=0→∃ r E es ck,wv=wdV v r∧WmIs w' r E es ck∧E.map WE.c=allC L∧∀ y ∈ E,fieldR.slice.In w0 [y.vc] (fsC y.c)∧methR.slice.In w0 [y.vh] (msC y.c)):=by
 have hv:∃ a k c,v = .slice a k c:=by obtain ⟨a,cap,rfl,_⟩:=slice_open (by decide) h;exact⟨_,_,_,rfl⟩
 refine implMakeWorldIf L v w0 w hb0 h ht hg fun hl10 hp r E es ck c fa fc ma mc w' hc hwm hEm hf hm=>?_
 have:c ∈ E.map WE.c:=by rw [hEm];exact List.mem_append.2 (.inr hc)
 obtain ⟨x,hx,rfl⟩:=List.mem_map.1 this
 exact implMethodsFault L v r E es ck x fa fc ma mc w' hp hEm hc hwm hx hv (all_len hEm hl10) (fun y hy=>Nat.le_trans (all_size (hp.part (by omega)) y.c (by rw [← hEm];exact List.mem_map.2 ⟨y,hy,rfl⟩)) (by decide)) hm
theorem implMakeWorld (L:List CTup) (v:Value) (w:World) (h:classR.slice.In w [v] L) (ht:Tab w) (hg:Glob w) :
  Calls Tryz.prog 41 #[v] w fun e w'=>Below w.heap.size w w'∧∃ wv,e = .returned (.tuple #[wv,.agg #[.int .i64 (wOut L).1,.int .i64 (wOut L).2]])∧((wOut L).2 ≠ 0→wv = .agg #[.slice none 0 0,.map none])∧((wOut L).2=0→∃ r E es ck,wv=wdV v r∧WmIs w' r E es ck∧E.map WE.c=allC L∧∀ y ∈ E,fieldR.slice.In w [y.vc] (fsC y.c)∧methR.slice.In w [y.vh] (msC y.c)):=implMakeWorld0 L v w w (Below.refl _ _) h ht hg
end Go.Proofs.YtmhgaggpdggbeaaGreatDoor

namespace Go.Proofs.YtmhgaggpdggbeaaGreatDoor
open Go.RowKit
set_option linter.unusedVariables false
theorem look0 (n:ByteArray) (hn:n.size≤maxLen) (w:World):(Instr.lookup 70 (.map none) (.string n) true).run Tryz.prog w = .ok (.tuple #[zWE,.bool false]) w∧(Instr.lookup 70 (.map none) (.string n) false).run Tryz.prog w = .ok zWE w:=by
 have hx:keyOf Tryz.prog 9 (.string n)=some (.string n.data.toList):=WideMaps.keyOf_string_mk Tryz.underlying9 hn
 have hz:=zeroWE w
 rcases (strLaw).find w hx [] (by simp) with ⟨h1,_⟩ | ⟨j,e,_,h2,_⟩
 ·constructor<;>simp [Instr.lookup,run_underlying Tryz.underlying70,hz,Result.andThen,(strLaw).check w _ hx,h1]
 ·simp at h2
theorem implKnown0 (n:ByteArray) (hn:n.size≤maxLen) (w:World) :
  Calls Tryz.prog 71 #[.agg #[.slice none 0 0,.map none],.string n] w fun e w'=>e = .returned (.bool false)∧Below w.heap.size w w':=by
 have h2:=fun w=>(look0 n hn w).1
 unfold zWE at h2
 go_enter Tryz.func71,Tryz.ntmps71
 go_wp2
 go_ret
 exact⟨rfl,below_al2 _ _ _⟩
set_option maxRecDepth 100000 in
set_option maxHeartbeats 1000000 in
theorem implWayUp0 (n:ByteArray) (hn:n.size≤maxLen) (w:World) :
  Calls Tryz.prog 83 #[.agg #[.slice none 0 0,.map none],.string n] w fun e w'=>e = .returned (.slice none 0 0)∧Below w.heap.size w w':=by
 have HK:Hid (∀ w,Calls Tryz.prog 71 #[.agg #[.slice none 0 0,.map none],.string n] w fun e w'=>e = .returned (.bool false)∧Below w.heap.size w w'):=fun w=>implKnown0 n hn w
 go_enter Tryz.func83,Tryz.ntmps83
 go_wp2_with fail
 go_step3
 go_wp2_with fail
 go_step3
 go_wp2_with fail
 have x0:(w.alloc (.cells #[.slice none 0 0,.map none] 72)).cell? ⟨w.heap.size,0,none⟩=some (.slice none 0 0):=by simp [go_sem]
 have x1:(w.alloc (.cells #[.slice none 0 0,.map none] 72)).cell? ⟨w.heap.size,1,none⟩=some (.map none):=by simp [go_sem]
 have HBW:Hid (Below w.heap.size w (w.alloc (.cells #[.slice none 0 0,.map none] 72))):=below_al _ _
 generalize w.alloc (.cells #[.slice none 0 0,.map none] 72)=W at *
 go_loopw [1,5] (fun j1 j5 wr=>j1 = .string n∧j5 = .slice none 0 0∧wr=W) (fun _ _ _=>0)
 case atStart=>exact⟨rfl,rfl,rfl⟩
 case round =>
  obtain ⟨rfl,rfl,rfl⟩:=hrel
  go_wp2_with fail
  refine Calls.mono (HK.out _) ?_
  rintro e w1 ⟨rfl,hb1⟩
  have HB1:Hid (Below w.heap.size w w1):=HBW.out.trans (hb1.mono HBW.out.size)
  clear hb1
  go_wp2
  try rw [Exit.noGoto_ret]
  go_ret
  exact⟨rfl,HB1.out⟩
theorem implIsSub0 (a b:ByteArray) (ha:a.size≤maxLen) (w:World) :
  Calls Tryz.prog 55 #[.agg #[.slice none 0 0,.map none],.string a,.string b] w fun e w'=>e = .returned (.bool false)∧Below w.heap.size w w':=by
 have HW:Hid (∀ w,Calls Tryz.prog 83 #[.agg #[.slice none 0 0,.map none],.string a] w fun e w'=>e = .returned (.slice none 0 0)∧Below w.heap.size w w'):=fun w=>implWayUp0 a ha w
 go_enter Tryz.func55,Tryz.ntmps55
 go_wp2_with fail
 refine Calls.mono (HW.out _) ?_
 rintro e w1 ⟨rfl,hb1⟩
 have HB1:Hid (Below w.heap.size w w1):=(below_al _ _).trans (hb1.mono (by simp))
 clear hb1
 go_wp2_with fail
 go_loopw [13] (fun j13 wr=>j13 = .int .i64 0∧wr=w1) (fun _ _=>0)
 case atStart=>exact⟨rfl,rfl⟩
 case round =>
  obtain ⟨rfl,rfl⟩:=hrel
  go_wp2
  go_ret
  exact⟨rfl,HB1.out⟩
theorem implCommon0 (a b:ByteArray) (ha:a.size≤maxLen) (w:World) :
  Calls Tryz.prog 52 #[.agg #[.slice none 0 0,.map none],.string a,.string b] w fun e w'=>e = .returned (.string ⟨#[]⟩)∧Below w.heap.size w w':=by
 have HW:Hid (∀ w,Calls Tryz.prog 83 #[.agg #[.slice none 0 0,.map none],.string a] w fun e w'=>e = .returned (.slice none 0 0)∧Below w.heap.size w w'):=fun w=>implWayUp0 a ha w
 go_enter Tryz.func52,Tryz.ntmps52
 go_wp2_with fail
 refine Calls.mono (HW.out _) ?_
 rintro e w1 ⟨rfl,hb1⟩
 have HB1:Hid (Below w.heap.size w w1):=(below_al _ _).trans (hb1.mono (by simp))
 clear hb1
 go_wp2_with fail
 go_loopw [13] (fun j13 wr=>j13 = .int .i64 0∧wr=w1) (fun _ _=>0)
 case atStart=>exact⟨rfl,rfl⟩
 case round =>
  obtain ⟨rfl,rfl⟩:=hrel
  go_wp2
  go_ret
  exact⟨rfl,HB1.out⟩
theorem implMake2 (L:List CTup) (v:Value) (w:World) (h:classR.slice.In w [v] L) (ht:Tab w) (hg:Glob w) :
  (rtB L=false∧Calls Tryz.prog 41 #[v] w fun e w'=>Below w.heap.size w w'∧e = .returned (.tuple #[.agg #[.slice none 0 0,.map none],.agg #[.int .i64 (wOut L).1,.int .i64 (wOut L).2]])) ∨
  (rtB L=true∧Right L∧Calls Tryz.prog 41 #[v] w fun e w'=>Below w.heap.size w w'∧∃ r E es ck,e = .returned (.tuple #[wdV v r,.agg #[.int .i64 (wOut L).1,.int .i64 (wOut L).2]])∧WmIs w' r E es ck∧E.map WE.c=allC L):=by
 cases hr:rtB L with
 | false =>
  refine .inl ⟨rfl,Calls.mono (implMakeWorld L v w h ht hg) ?_⟩
  rintro e w' ⟨h1,wv,rfl,h2,_⟩
  have:(wOut L).2 ≠ 0:=by unfold rtB at hr;simpa using hr
  rw [h2 this]
  exact⟨h1,rfl⟩
 | true =>
  refine .inr ⟨rfl,rt_right hr,Calls.mono (implMakeWorld L v w h ht hg) ?_⟩
  rintro e w' ⟨h1,wv,rfl,_,h3⟩
  have:(wOut L).2=0:=by unfold rtB at hr;simpa using hr
  obtain ⟨r,E,es,ck,rfl,h4,h5,_⟩:=h3 this
  exact⟨h1,r,E,es,ck,rfl,h4,h5⟩
theorem sub_eq {L:List CTup} {E:List WE} (hR:Right L) (h:E.map WE.c=allC L) (a b:ByteArray):subB E a b=sbC L a b:=by
 unfold subB sbC
 rw [← wyE hR.acy h a,List.any_map]
 rfl
theorem com_eq {L:List CTup} {E:List WE} (hR:Right L) (h:E.map WE.c=allC L) (b:ByteArray) (W:List WE):comB E b W=comL L b (W.map WE.c):=by
 induction W with
 | nil=>rfl
 | cons x t ih =>
  unfold comB
  rw [sub_eq hR h,ih]
  rfl
theorem com_size {L:List CTup} (hR:Right L) {b:ByteArray} (W:List CTup) (h:∀ c ∈ W,c ∈ allC L):(comL L b W).size≤20:=by
 induction W with
 | nil=>show tE.size≤20;decide
 | cons c t ih =>
  unfold comL
  split
  ·exact all_size hR.part c (h c List.mem_cons_self)
  ·exact ih fun d hd=>h d (List.mem_cons_of_mem _ hd)
theorem all_len' {E:List WE} {L:List CTup} (h:E.map WE.c=allC L) (hR:Right L):E.length≤100:=all_len h hR.1
set_option maxRecDepth 100000 in
set_option maxHeartbeats 1000000 in
theorem implKnownOf (L:List CTup) (v:Value) (n:ByteArray) (w:World) (h:classR.slice.In w [v] L) (ht:Tab w) (hg:Glob w) (hn:n.size≤maxLen) :
  Calls Tryz.prog 36 #[v,.string n] w fun e w'=>e = .returned (.bool (knV L n))∧Below w.heap.size w w':=by
 obtain ⟨va,vcap,rfl,_⟩:=slice_open (by decide) h
 unfold knV
 rcases implMake2 L _ w h ht hg with ⟨hr,hm⟩ | ⟨hr,hR,hm⟩
 ·rw [hr]
  have HM:=(show Hid _ from hm)
  clear hm hr h ht hg
  generalize (wOut L).1=o1 at *
  generalize (wOut L).2=o2 at *
  go_enter Tryz.func36,Tryz.ntmps36
  go_wp2_with fail
  refine Calls.mono HM.out ?_
  rintro e w1 ⟨hb1,rfl⟩
  have HB1:Hid (Below w.heap.size w w1):=hb1
  clear hb1
  go_wp2_with fail
  refine Calls.mono (implKnown0 n hn _) ?_
  rintro e w2 ⟨rfl,hb2⟩
  have HB2:Hid (Below w.heap.size w w2):=((HB1.out.alloc HB1.out.size _).alloc (by have:=HB1.out.size;simp;omega) _).trans (hb2.mono (by have:=HB1.out.size;simp;omega))
  clear hb2
  go_wp2
  go_ret
  exact⟨rfl,HB2.out⟩
 ·rw [hr]
  have HM:=(show Hid _ from hm)
  clear hm hr h ht hg
  generalize (wOut L).1=o1 at *
  generalize (wOut L).2=o2 at *
  go_enter Tryz.func36,Tryz.ntmps36
  go_wp2_with fail
  refine Calls.mono HM.out ?_
  rintro e w1 ⟨hb1,r,E,es,ck,rfl,hwm,hE⟩
  have HB1:Hid (Below w.heap.size w w1):=hb1
  have HK:Hid (∀ w',Below w1.heap.size w1 w'→Calls Tryz.prog 71 #[.agg #[.slice va L.length vcap,.map (some r)],.string n] w' fun e w2=>e = .returned (.bool (knB L n))∧Below w'.heap.size w' w2):=fun w' hb=>by
   have:=implKnown (.slice va L.length vcap) r E es ck n w' (hwm.below hb) hn ⟨_,_,_,rfl⟩
   rw [isSomeE,hE] at this
   exact this
  clear hb1 hwm hE
  obtain ⟨q,hq⟩:∃ q,knB L n=q:=⟨_,rfl⟩
  have HQ:Hid (knB L n=q):=hq
  rw [hq] at HK
  clear hq
  unfold wdV
  go_wp2_with fail
  refine Calls.mono (HK.out _ (below_al2 _ _ _)) ?_
  rintro e w2 ⟨rfl,hb2⟩
  have HB2:Hid (Below w.heap.size w w2):=((HB1.out.alloc HB1.out.size _).alloc (by have:=HB1.out.size;simp;omega) _).trans (hb2.mono (by have:=HB1.out.size;simp;omega))
  clear hb2
  go_wp2
  go_ret
  exact⟨rB (show q=(true && knB L n) from by rw [HQ.out];rfl),HB2.out⟩
set_option maxRecDepth 100000 in
set_option maxHeartbeats 1000000 in
theorem implSuperOf (L:List CTup) (v:Value) (n:ByteArray) (w:World) (h:classR.slice.In w [v] L) (ht:Tab w) (hg:Glob w) (hn:n.size≤maxLen) :
  Calls Tryz.prog 35 #[v,.string n] w fun e w'=>e = .returned (.string (spV L n))∧Below w.heap.size w w':=by
 obtain ⟨va,vcap,rfl,_⟩:=slice_open (by decide) h
 unfold spV
 rcases implMake2 L _ w h ht hg with ⟨hr,hm⟩ | ⟨hr,hR,hm⟩
 ·rw [hr]
  have HM:=(show Hid _ from hm)
  clear hm hr h ht hg
  generalize (wOut L).1=o1 at *
  generalize (wOut L).2=o2 at *
  have hlk:=fun w=>(look0 n hn w).2
  unfold zWE at hlk
  have f0:=fieldWE0
  have f1:=fieldCl1
  go_enter Tryz.func35,Tryz.ntmps35
  go_wp2_with fail
  refine Calls.mono HM.out ?_
  rintro e w1 ⟨hb1,rfl⟩
  have HB1:Hid (Below w.heap.size w w1):=hb1
  clear hb1
  go_wp2_with fail
  refine Calls.mono (libClone _ _ (by decide)) ?_
  rintro e w2 ⟨rfl,hb2⟩
  have HB2:Hid (Below w.heap.size w w2):=((HB1.out.alloc HB1.out.size _).alloc (by have:=HB1.out.size;simp;omega) _).trans (hb2.mono (by have:=HB1.out.size;simp;omega))
  clear hb2
  go_wp2
  go_ret
  exact⟨rfl,HB2.out⟩
 ·rw [hr]
  have HM:=(show Hid _ from hm)
  clear hm hr h ht hg
  generalize (wOut L).1=o1 at *
  generalize (wOut L).2=o2 at *
  have f0:=fieldWE0
  have f1:=fieldCl1
  go_enter Tryz.func35,Tryz.ntmps35
  go_wp2_with fail
  refine Calls.mono HM.out ?_
  rintro e w1 ⟨hb1,r,E,es,ck,rfl,hwm,hE⟩
  have HB1:Hid (Below w.heap.size w w1):=hb1
  have hsp:=lkE E n
  rw [hE] at hsp
  have HRT:=(show Hid (Right L∧E.map WE.c=allC L) from ⟨hR,hE⟩)
  rcases hwm.look n hn with ⟨e1,_⟩ | ⟨x,hx,e0,e1,_⟩
  ·have HV:Hid (spS L n=⟨#[]⟩):=by show _=_;unfold spS;rw [← hsp,e1];rfl
   have HL:=(show Hid (∀ w',Below w1.heap.size w1 w'→(Instr.lookup 70 (.map (some r)) (.string n) false).run Tryz.prog w' = .ok zWE w') from fun w' hb=>by
    rcases (hwm.below hb).look n hn with ⟨_,_,k,_⟩ | ⟨x,_,_,k,_⟩
    ·exact k
    ·rw [e1] at k;cases k)
   unfold zWE at HL
   have hlk:=fun o1 o2=>HL.out _ (below_al2 w1 o1 o2)
   clear hb1 hwm hE hsp e1 HL
   unfold wdV
   go_wp2_with fail
   refine Calls.mono (libClone _ _ (by decide)) ?_
   rintro e w2 ⟨rfl,hb2⟩
   have HB2:Hid (Below w.heap.size w w2):=((HB1.out.alloc HB1.out.size _).alloc (by have:=HB1.out.size;simp;omega) _).trans (hb2.mono (by have:=HB1.out.size;simp;omega))
   clear hb2
   go_wp2
   go_ret
   exact⟨rS (show _=spS L n from HV.out.symm),HB2.out⟩
  ·have HV:Hid (spS L n=suC x.c):=by show _=_;unfold spS;rw [← hsp,e1];rfl
   have hsz:(suC x.c).size≤281474976710656:=by
    have hc:x.c ∈ allC L:=by rw [← hE];exact List.mem_map.2 ⟨x,hx,rfl⟩
    rcases su_known hR hc with k | k
    ·rw [k];decide
    ·have:=(kn_size hR k).1;omega
   have HL:=(show Hid (∀ w',Below w1.heap.size w1 w'→(Instr.lookup 70 (.map (some r)) (.string n) false).run Tryz.prog w' = .ok (weV x) w') from fun w' hb=>by
    rcases (hwm.below hb).look n hn with ⟨k,_⟩ | ⟨y,_,_,k,_,k2⟩
    ·rw [e1] at k;cases k
    ·rw [e1] at k;cases k;exact k2)
   unfold weV at HL
   have hlk:=fun o1 o2=>HL.out _ (below_al2 w1 o1 o2)
   clear hb1 hwm hE hsp e1 HL e0
   unfold wdV
   go_wp2_with fail
   refine Calls.mono (libClone _ _ hsz) ?_
   rintro e w2 ⟨rfl,hb2⟩
   have HB2:Hid (Below w.heap.size w w2):=((HB1.out.alloc HB1.out.size _).alloc (by have:=HB1.out.size;simp;omega) _).trans (hb2.mono (by have:=HB1.out.size;simp;omega))
   clear hb2
   go_wp2
   go_ret
   exact⟨rS (show _=spS L n from HV.out.symm),HB2.out⟩
set_option maxRecDepth 100000 in
set_option maxHeartbeats 1000000 in
theorem implIsSubOf (L:List CTup) (v:Value) (a b:ByteArray) (w:World) (h:classR.slice.In w [v] L) (ht:Tab w) (hg:Glob w) (ha:a.size≤maxLen) :
  Calls Tryz.prog 24 #[v,.string a,.string b] w fun e w'=>e = .returned (.bool (isV L a b))∧Below w.heap.size w w':=by
 obtain ⟨va,vcap,rfl,_⟩:=slice_open (by decide) h
 unfold isV
 rcases implMake2 L _ w h ht hg with ⟨hr,hm⟩ | ⟨hr,hR,hm⟩
 ·rw [hr]
  have HM:=(show Hid _ from hm)
  clear hm hr h ht hg
  generalize (wOut L).1=o1 at *
  generalize (wOut L).2=o2 at *
  go_enter Tryz.func24,Tryz.ntmps24
  go_wp2_with fail
  refine Calls.mono HM.out ?_
  rintro e w1 ⟨hb1,rfl⟩
  have HB1:Hid (Below w.heap.size w w1):=hb1
  clear hb1
  go_wp2_with fail
  refine Calls.mono (implIsSub0 a b ha _) ?_
  rintro e w2 ⟨rfl,hb2⟩
  have HB2:Hid (Below w.heap.size w w2):=((HB1.out.alloc HB1.out.size _).alloc (by have:=HB1.out.size;simp;omega) _).trans (hb2.mono (by have:=HB1.out.size;simp;omega))
  clear hb2
  go_wp2
  go_ret
  exact⟨rfl,HB2.out⟩
 ·rw [hr]
  have HM:=(show Hid _ from hm)
  clear hm hr h ht hg
  generalize (wOut L).1=o1 at *
  generalize (wOut L).2=o2 at *
  go_enter Tryz.func24,Tryz.ntmps24
  go_wp2_with fail
  refine Calls.mono HM.out ?_
  rintro e w1 ⟨hb1,r,E,es,ck,rfl,hwm,hE⟩
  have HB1:Hid (Below w.heap.size w w1):=hb1
  have HK:Hid (∀ w',Below w1.heap.size w1 w'→Calls Tryz.prog 55 #[.agg #[.slice va L.length vcap,.map (some r)],.string a,.string b] w' fun e w2=>e = .returned (.bool (sbC L a b))∧Below w'.heap.size w' w2):=fun w' hb=>by
   have:=implIsSubW (.slice va L.length vcap) r E es ck a b w' (hwm.below hb) ⟨_,_,_,rfl⟩ (all_len' hE hR) ha
   rw [sub_eq hR hE] at this
   exact this
  clear hb1 hwm hE
  obtain ⟨q,hq⟩:∃ q,sbC L a b=q:=⟨_,rfl⟩
  have HQ:Hid (sbC L a b=q):=hq
  rw [hq] at HK
  clear hq
  unfold wdV
  go_wp2_with fail
  refine Calls.mono (HK.out _ (below_al2 _ _ _)) ?_
  rintro e w2 ⟨rfl,hb2⟩
  have HB2:Hid (Below w.heap.size w w2):=((HB1.out.alloc HB1.out.size _).alloc (by have:=HB1.out.size;simp;omega) _).trans (hb2.mono (by have:=HB1.out.size;simp;omega))
  clear hb2
  go_wp2
  go_ret
  exact⟨rB (show q=(true && sbC L a b) from by rw [HQ.out];rfl),HB2.out⟩
set_option maxRecDepth 100000 in
set_option maxHeartbeats 1000000 in
theorem implCommonOf (L:List CTup) (v:Value) (a b:ByteArray) (w:World) (h:classR.slice.In w [v] L) (ht:Tab w) (hg:Glob w) (ha:a.size≤maxLen) (hb:b.size≤maxLen) :
  Calls Tryz.prog 22 #[v,.string a,.string b] w fun e w'=>e = .returned (.string (cmV L a b))∧Below w.heap.size w w':=by
 obtain ⟨va,vcap,rfl,_⟩:=slice_open (by decide) h
 unfold cmV
 rcases implMake2 L _ w h ht hg with ⟨hr,hm⟩ | ⟨hr,hR,hm⟩
 ·rw [hr]
  have HM:=(show Hid _ from hm)
  clear hm hr h ht hg
  generalize (wOut L).1=o1 at *
  generalize (wOut L).2=o2 at *
  go_enter Tryz.func22,Tryz.ntmps22
  go_wp2_with fail
  refine Calls.mono HM.out ?_
  rintro e w1 ⟨hb1,rfl⟩
  have HB1:Hid (Below w.heap.size w w1):=hb1
  clear hb1
  go_wp2_with fail
  refine Calls.mono (implCommon0 a b ha _) ?_
  rintro e w2 ⟨rfl,hb2⟩
  have HB2:Hid (Below w.heap.size w w2):=((HB1.out.alloc HB1.out.size _).alloc (by have:=HB1.out.size;simp;omega) _).trans (hb2.mono (by have:=HB1.out.size;simp;omega))
  clear hb2
  go_wp2_with fail
  refine Calls.mono (libClone _ _ (by decide)) ?_
  rintro e w3 ⟨rfl,hb3⟩
  have HB3:Hid (Below w.heap.size w w3):=HB2.out.trans (hb3.mono HB2.out.size)
  go_wp2
  go_ret
  exact⟨rfl,HB3.out⟩
 ·rw [hr]
  have HM:=(show Hid _ from hm)
  clear hm hr h ht hg
  generalize (wOut L).1=o1 at *
  generalize (wOut L).2=o2 at *
  go_enter Tryz.func22,Tryz.ntmps22
  go_wp2_with fail
  refine Calls.mono HM.out ?_
  rintro e w1 ⟨hb1,r,E,es,ck,rfl,hwm,hE⟩
  have HB1:Hid (Below w.heap.size w w1):=hb1
  have HK:Hid (∀ w',Below w1.heap.size w1 w'→Calls Tryz.prog 52 #[.agg #[.slice va L.length vcap,.map (some r)],.string a,.string b] w' fun e w2=>e = .returned (.string (comL L b (CH nmC suC (allC L) a)))∧Below w'.heap.size w' w2):=fun w' hb'=>by
   have:=implCommonW (.slice va L.length vcap) r E es ck a b w' (hwm.below hb') ⟨_,_,_,rfl⟩ (all_len' hE hR) ha hb
   rw [com_eq hR hE,wyE hR.acy hE] at this
   exact this
  have hsz:(comL L b (CH nmC suC (allC L) a)).size≤281474976710656:=Nat.le_trans (com_size hR _ (fun c hc=>CH_sub c hc)) (by decide)
  clear hb1 hwm hE
  obtain ⟨q,hq⟩:∃ q,comL L b (CH nmC suC (allC L) a)=q:=⟨_,rfl⟩
  have HQ:Hid (comL L b (CH nmC suC (allC L) a)=q):=hq
  rw [hq] at HK hsz
  clear hq
  unfold wdV
  go_wp2_with fail
  refine Calls.mono (HK.out _ (below_al2 _ _ _)) ?_
  rintro e w2 ⟨rfl,hb2⟩
  have HB2:Hid (Below w.heap.size w w2):=((HB1.out.alloc HB1.out.size _).alloc (by have:=HB1.out.size;simp;omega) _).trans (hb2.mono (by have:=HB1.out.size;simp;omega))
  clear hb2
  go_wp2_with fail
  refine Calls.mono (libClone _ _ hsz) ?_
  rintro e w3 ⟨rfl,hb3⟩
  have HB3:Hid (Below w.heap.size w w3):=HB2.out.trans (hb3.mono HB2.out.size)
  go_wp2
  go_ret
  exact⟨rS (show q=comL L b (CH nmC suC (allC L) a) from HQ.out.symm),HB3.out⟩
end Go.Proofs.YtmhgaggpdggbeaaGreatDoor
