import Derived.Test.YtlfmedfclgabdaaGreatDoorWi9
import Derived.Test.YtlfmedfclgabdaaGreatDoorWi12
import Derived.Test.YtlfmedfclgabdaaGreatDoorWi10
import Derived.Test.YtlfmedfclgabdaaGreatDoorWdT
/-
 The program's makeWorld and WorldCheck tell what wOut tells.
-/
namespace Go.Proofs.YtlfmedfclgabdaaGreatDoor
open Go.RowKit
set_option maxRecDepth 20000
set_option linter.unusedVariables false

theorem nameB_le {n : ByteArray} (h : nameB n = true) : n.size ≤ 20 := by
 unfold nameB at h
 simp only [decide_eq_true_eq] at h
 omega
theorem bi_size : ∀ b ∈ biC, (nmC b).size ≤ 20 := by decide
theorem all_size {L : List CTup} (hp : Part L L.length) : ∀ c ∈ allC L, (nmC c).size ≤ 20 := fun c hc => by
 rcases List.mem_append.1 hc with k | k
 ·exact bi_size c k
 ·obtain ⟨i, hi, rfl⟩ := List.mem_iff_getElem.1 k
  exact nameB_le (hp.ok i hi hi).n
theorem all_len {E : List WE} {L : List CTup} (h : E.map WE.c = allC L) (hl : L.length ≤ 10) : E.length ≤ 100 := by
 have := congrArg List.length h
 have h8 : biC.length = 8 := rfl
 simp [allC, h8] at this
 omega
theorem implMakeWorld0 (L : List CTup) (v : Value) (w0 w : World) (hb0 : Below w0.heap.size w0 w) (h : classR.slice.In w0 [v] L) (ht : Tab w) (hg : Glob w) :
  Calls Tryz.prog 59 #[v] w fun e w' => Below w.heap.size w w' ∧ ∃ wv, e = .returned (.tuple #[wv, .agg #[.int .i64 (wOut L).1, .int .i64 (wOut L).2]]) ∧ ((wOut L).2 ≠ 0 → wv = .agg #[.slice none 0 0, .map none]) ∧ ((wOut L).2 = 0 → ∃ r E es ck, wv = wdV v r ∧ WmIs w' r E es ck ∧ E.map WE.c = allC L ∧ ∀ y ∈ E, fieldR.slice.In w0 [y.vc] (fsC y.c) ∧ methR.slice.In w0 [y.vh] (msC y.c)) := by
 have hv : ∃ a k c, v = .slice a k c := by obtain ⟨a, cap, rfl, _⟩ := slice_open (by decide) h; exact ⟨_, _, _, rfl⟩
 refine implMakeWorldIf L v w0 w hb0 h ht hg fun hl10 hp r E es ck c fa fc ma mc w' hc hwm hEm hf hm => ?_
 have : c ∈ E.map WE.c := by rw [hEm]; exact List.mem_append.2 (.inr hc)
 obtain ⟨x, hx, rfl⟩ := List.mem_map.1 this
 exact implMethodsFault L v r E es ck x fa fc ma mc w' hp hEm hc hwm hx hv (all_len hEm hl10) (fun y hy => Nat.le_trans (all_size (hp.part (by omega)) y.c (by rw [← hEm]; exact List.mem_map.2 ⟨y, hy, rfl⟩)) (by decide)) hm
end Go.Proofs.YtlfmedfclgabdaaGreatDoor

/-
 Known, SuperOf, IsSub, CommonOf of the program.
-/
namespace Go.Proofs.YtlfmedfclgabdaaGreatDoor
open Go.RowKit
set_option linter.unusedVariables false
theorem look0 (n : ByteArray) (hn : n.size ≤ maxLen) (w : World) : (Instr.lookup 67 (.map none) (.string n) true).run Tryz.prog w = .ok (.tuple #[zWE, .bool false]) w ∧ (Instr.lookup 67 (.map none) (.string n) false).run Tryz.prog w = .ok zWE w := by
 have hx : keyOf Tryz.prog 9 (.string n) = some (.string n.data.toList) := WideMaps.keyOf_string_mk Tryz.underlying9 hn
 have hz := zeroWE w
 rcases (strLaw).find w hx [] (by simp) with ⟨h1, _⟩ | ⟨j, e, _, h2, _⟩
 ·constructor <;> simp [Instr.lookup, run_underlying Tryz.underlying67, hz, Result.andThen, (strLaw).check w _ hx, h1]
 ·simp at h2
theorem implKnown0 (n : ByteArray) (hn : n.size ≤ maxLen) (w : World) :
  Calls Tryz.prog 120 #[.agg #[.slice none 0 0, .map none], .string n] w fun e w' => e = .returned (.bool false) ∧ Below w.heap.size w w' := by
 have h2 := fun w => (look0 n hn w).1
 unfold zWE at h2
 go_enter Tryz.func120, Tryz.ntmps120
 go_wp2
 go_ret
 exact ⟨rfl, below_al2 _ _ _⟩
set_option maxRecDepth 100000 in
set_option maxHeartbeats 1000000 in
theorem implWayUp0 (n : ByteArray) (hn : n.size ≤ maxLen) (w : World) :
  Calls Tryz.prog 124 #[.agg #[.slice none 0 0, .map none], .string n] w fun e w' => e = .returned (.slice none 0 0) ∧ Below w.heap.size w w' := by
 have HK : Hid (∀ w, Calls Tryz.prog 120 #[.agg #[.slice none 0 0, .map none], .string n] w fun e w' => e = .returned (.bool false) ∧ Below w.heap.size w w') := fun w => implKnown0 n hn w
 go_enter Tryz.func124, Tryz.ntmps124
 go_wp2_with fail
 go_step3
 go_wp2_with fail
 go_step3
 go_wp2_with fail
 have x0 : (w.alloc (.cells #[.slice none 0 0, .map none] 69)).cell? ⟨w.heap.size, 0, none⟩ = some (.slice none 0 0) := by simp [go_sem]
 have x1 : (w.alloc (.cells #[.slice none 0 0, .map none] 69)).cell? ⟨w.heap.size, 1, none⟩ = some (.map none) := by simp [go_sem]
 have HBW : Hid (Below w.heap.size w (w.alloc (.cells #[.slice none 0 0, .map none] 69))) := below_al _ _
 generalize w.alloc (.cells #[.slice none 0 0, .map none] 69) = W at *
 go_loopw [1, 5] (fun j1 j5 wr => j1 = .string n ∧ j5 = .slice none 0 0 ∧ wr = W) (fun _ _ _ => 0)
 case atStart => exact ⟨rfl, rfl, rfl⟩
 case round =>
  obtain ⟨rfl, rfl, rfl⟩ := hrel
  go_wp2_with fail
  refine Calls.mono (HK.out _) ?_
  rintro e w1 ⟨rfl, hb1⟩
  have HB1 : Hid (Below w.heap.size w w1) := HBW.out.trans (hb1.mono HBW.out.size)
  clear hb1
  go_wp2
  try rw [Exit.noGoto_ret]
  go_ret
  exact ⟨rfl, HB1.out⟩
theorem implIsSub0 (a b : ByteArray) (ha : a.size ≤ maxLen) (w : World) :
  Calls Tryz.prog 168 #[.agg #[.slice none 0 0, .map none], .string a, .string b] w fun e w' => e = .returned (.bool false) ∧ Below w.heap.size w w' := by
 have HW : Hid (∀ w, Calls Tryz.prog 124 #[.agg #[.slice none 0 0, .map none], .string a] w fun e w' => e = .returned (.slice none 0 0) ∧ Below w.heap.size w w') := fun w => implWayUp0 a ha w
 go_enter Tryz.func168, Tryz.ntmps168
 go_wp2_with fail
 refine Calls.mono (HW.out _) ?_
 rintro e w1 ⟨rfl, hb1⟩
 have HB1 : Hid (Below w.heap.size w w1) := (below_al _ _).trans (hb1.mono (by simp))
 clear hb1
 go_wp2_with fail
 go_loopw [13] (fun j13 wr => j13 = .int .i64 0 ∧ wr = w1) (fun _ _ => 0)
 case atStart => exact ⟨rfl, rfl⟩
 case round =>
  obtain ⟨rfl, rfl⟩ := hrel
  go_wp2
  go_ret
  exact ⟨rfl, HB1.out⟩
theorem implCommon0 (a b : ByteArray) (ha : a.size ≤ maxLen) (w : World) :
  Calls Tryz.prog 139 #[.agg #[.slice none 0 0, .map none], .string a, .string b] w fun e w' => e = .returned (.string ⟨#[]⟩) ∧ Below w.heap.size w w' := by
 have HW : Hid (∀ w, Calls Tryz.prog 124 #[.agg #[.slice none 0 0, .map none], .string a] w fun e w' => e = .returned (.slice none 0 0) ∧ Below w.heap.size w w') := fun w => implWayUp0 a ha w
 go_enter Tryz.func139, Tryz.ntmps139
 go_wp2_with fail
 refine Calls.mono (HW.out _) ?_
 rintro e w1 ⟨rfl, hb1⟩
 have HB1 : Hid (Below w.heap.size w w1) := (below_al _ _).trans (hb1.mono (by simp))
 clear hb1
 go_wp2_with fail
 go_loopw [13] (fun j13 wr => j13 = .int .i64 0 ∧ wr = w1) (fun _ _ => 0)
 case atStart => exact ⟨rfl, rfl⟩
 case round =>
  obtain ⟨rfl, rfl⟩ := hrel
  go_wp2
  go_ret
  exact ⟨rfl, HB1.out⟩
theorem sub_eq {L : List CTup} {E : List WE} (hR : Right L) (h : E.map WE.c = allC L) (a b : ByteArray) : subB E a b = sbC L a b := by
 unfold subB sbC
 rw [← wyE hR.acy h a, List.any_map]
 rfl
theorem com_eq {L : List CTup} {E : List WE} (hR : Right L) (h : E.map WE.c = allC L) (b : ByteArray) (W : List WE) : comB E b W = comL L b (W.map WE.c) := by
 induction W with
 | nil => rfl
 | cons x t ih =>
  unfold comB
  rw [sub_eq hR h, ih]
  rfl
theorem com_size {L : List CTup} (hR : Right L) {b : ByteArray} (W : List CTup) (h : ∀ c ∈ W, c ∈ allC L) : (comL L b W).size ≤ 20 := by
 induction W with
 | nil => show tE.size ≤ 20; decide
 | cons c t ih =>
  unfold comL
  split
  ·exact all_size hR.part c (h c List.mem_cons_self)
  ·exact ih fun d hd => h d (List.mem_cons_of_mem _ hd)
theorem all_len' {E : List WE} {L : List CTup} (h : E.map WE.c = allC L) (hR : Right L) : E.length ≤ 100 := all_len h hR.1
end Go.Proofs.YtlfmedfclgabdaaGreatDoor
