import Derived.Test.YtgmlooemiokhfaiGreatDoorReadD
import Derived.Test.YtgmlooemiokhfaiGreatDoorAsHit
/-
  The contract of DescRead of the program: it tells what rdD tells, in a DescOut.
-/
namespace Go.Proofs.YtgmlooemiokhfaiGreatDoor
open Go.RowKit
set_option maxRecDepth 20000
set_option linter.unusedVariables false

def outV (v : Value) (q : ByteArray) (a c : Int) : Value := .agg #[v, .string q, .int .i64 a, .int .i64 c]

/-- What DescRead hands back. -/
def dvOut (s : ByteArray) (w w' : World) (e : Ending) : Prop :=
  if 20000 < s.size then e = .returned (outV (.slice none 0 0) ⟨#[]⟩ 0 2) else
  match rdD s with
  | .error k => e = .returned (outV (.slice none 0 0) ⟨#[]⟩ (k : Int) 3)
  | .ok (ps, q) => ∃ v, e = .returned (outV v q 0 0) ∧ w'.ownsRow w.heap.size 9 1 v ps.length (cellsOfS ps)

/-- The package's one variable. -/
def Glob (w : World) : Prop := w.cell? ⟨0, 0, none⟩ = some (.iface 239 (.agg #[.pointer (some ⟨2, 183, none⟩)]))

theorem Glob.mono {w w' : World} (h : Glob w) (hb : Below w.heap.size w w') : Glob w' := carry hb (World.block_lt_of_cell? _ _ h) h

theorem own_slice {w : World} {base : Nat} {e : TypeId} {v : Value} {n : Nat} {xs : List Value} (h : w.ownsRow base e 1 v n xs) : ∃ a cap, v = .slice a n cap := by
  rcases h.2 with ⟨rfl, h0⟩ | ⟨g, cap, cur, rfl, _⟩
  · exact ⟨none, 0, by rw [h0]⟩
  · exact ⟨_, _, rfl⟩

/-- What the blocks of errors.As leave as it was, and what the target holds. -/
theorem as_facts (w1 : World) (o : Obj) (k : Int) :
    Below w1.heap.size w1 (asW ((w1.alloc o).alloc (.cells #[.int .i64 0] 213)) (w1.heap.size + 1) k) ∧
    (asW ((w1.alloc o).alloc (.cells #[.int .i64 0] 213)) (w1.heap.size + 1) k).cell? ⟨w1.heap.size + 1, 0, none⟩ = some (.int .i64 k) := by
  unfold asW
  refine ⟨?_, ?_⟩
  · exact (((((((Below.refl _ _).alloc (Nat.le_refl _) _).alloc (by first | (simp; done) | (simp; omega)) _).alloc (by first | (simp; done) | (simp; omega)) _).alloc (by first | (simp; done) | (simp; omega)) _).alloc (by first | (simp; done) | (simp; omega)) _).alloc (by first | (simp; done) | (simp; omega)) _).setCell (by simp) _
  · refine World.cell?_setCell_same (u := .int .i64 0) _ _ _ ?_
    rw [World.cell?_alloc_lt _ _ _ (by first | (simp; done) | (simp; omega)), World.cell?_alloc_lt _ _ _ (by first | (simp; done) | (simp; omega)), World.cell?_alloc_lt _ _ _ (by first | (simp; done) | (simp; omega)), World.cell?_alloc_lt _ _ _ (by first | (simp; done) | (simp; omega))]
    simp [go_sem]

set_option maxHeartbeats 4000000 in
theorem implDescRead (s : ByteArray) (w : World) (hs : s.size ≤ maxLen) (hg : Glob w) :
    Calls Tryz.prog 137 #[.string s] w fun e w' => dvOut s w w' e ∧ Below w.heap.size w w' := by
  have HG : Hid (Glob w) := hg
  clear hg
  unfold maxLen at hs
  by_cases hbig : 20000 < s.size
  · have d0 : decide ((20000 : Int) < (s.size : Int)) = true := by simp; omega
    have HT : Hid (∀ w' e, dvOut s w w' e = (e = .returned (outV (.slice none 0 0) ⟨#[]⟩ 0 2))) := fun w' e => by unfold dvOut; rw [if_pos hbig]
    go_enter Tryz.func137, Tryz.ntmps137
    go_wp2
    refine bodyPost_ret (v := outV (.slice none 0 0) ⟨#[]⟩ 0 2) (by simp [results, Tryz.results137, go_sem, outV]) rfl ⟨?_, ?_⟩
    · rw [HT.out]
    · exact (Below.refl _ _).alloc (Nat.le_refl _) _
  · have d0 : decide ((20000 : Int) < (s.size : Int)) = false := by simp; omega
    have hrd := implReadDesc s
    have HRD : Hid (∀ w, s.size ≤ 20000 → Calls Tryz.prog 161 #[.string s] w fun e w' => rdOut (rdD s) w w' e ∧ Below w.heap.size w w') := hrd
    have HT : Hid (∀ w' e, dvOut s w w' e = match rdD s with
      | .error k => e = .returned (outV (.slice none 0 0) ⟨#[]⟩ (k : Int) 3)
      | .ok (ps, q) => ∃ v, e = .returned (outV v q 0 0) ∧ w'.ownsRow w.heap.size 9 1 v ps.length (cellsOfS ps)) := fun w' e => by unfold dvOut; rw [if_neg hbig]
    clear hrd
    generalize rdD s = r at *
    have HB0 : Hid (∀ o, Below w.heap.size w (w.alloc o)) := fun o => (Below.refl _ _).alloc (Nat.le_refl _) o
    go_enter Tryz.func137, Tryz.ntmps137
    go_wp2_with fail
    refine (HRD.out _ (by omega)).mono ?_
    rintro e w1 ⟨hout, hb1⟩
    have HB1 : Hid (Below w.heap.size w w1) := (HB0.out _).trans (hb1.mono (by simp))
    have hz1 : w.heap.size < w1.heap.size := by have := hb1.size; simp at this; omega
    have r0 : w1.cell? ⟨w.heap.size, 0, none⟩ = some (.slice none 0 0) := carry hb1 (by simp) (by simp [go_sem])
    have r1 : w1.cell? ⟨w.heap.size, 1, none⟩ = some (.string ⟨#[]⟩) := carry hb1 (by simp) (by simp [go_sem])
    have r2 : w1.cell? ⟨w.heap.size, 2, none⟩ = some (.int .i64 0) := carry hb1 (by simp) (by simp [go_sem])
    have r3 : w1.cell? ⟨w.heap.size, 3, none⟩ = some (.int .i64 0) := carry hb1 (by simp) (by simp [go_sem])
    have fr : ∀ j, w1.frozen? ⟨w.heap.size, j, none⟩ = false := fun j => carryF hb1 (by simp) (by simp [go_sem])
    have HG1 : Hid (Glob w1) := HG.out.mono HB1.out
    clear hb1
    rcases r with k | ⟨ps, q⟩
    · have hout' : e = .returned (.tuple #[.agg #[.slice none 0 0, .string ⟨#[]⟩], .iface 213 (.agg #[.int .i64 (k : Int)])]) := hout
      subst hout'
      clear hout
      go_wp2_with fail
      have hgW : ((w1.alloc (.cells #[.slice none 0 0, .string ⟨#[]⟩] 147)).alloc (.cells #[.int .i64 0] 213)).cell? ⟨0, 0, none⟩ = some (.iface 239 (.agg #[.pointer (some ⟨2, 183, none⟩)])) :=
        HG1.out.mono (((Below.refl _ _).alloc (Nat.le_refl _) _).alloc (by simp) _)
      obtain ⟨ha1, ha2⟩ := as_facts w1 (.cells #[.slice none 0 0, .string ⟨#[]⟩] 147) (k : Int)
      refine (as_hit (w1.heap.size + 1) (k : Int) (.int .i64 0) _ hgW (by simp [go_sem]) (by simp [go_sem])).mono ?_
      rintro e w2 ⟨rfl, hw2⟩
      rw [← hw2] at ha1 ha2
      replace r0 := carry ha1 hz1 r0
      replace r1 := carry ha1 hz1 r1
      replace r2 := carry ha1 hz1 r2
      replace r3 := carry ha1 hz1 r3
      replace fr : ∀ j, w2.frozen? ⟨w.heap.size, j, none⟩ = false := fun j => carryF ha1 hz1 (fr j)
      have HB2 : Hid (Below w.heap.size w w2) := HB1.out.trans (ha1.mono (by omega))
      clear hw2 ha1 hgW
      go_wp2
      refine bodyPost_ret (v := outV (.slice none 0 0) ⟨#[]⟩ (k : Int) 3) (by simp [results, Tryz.results137, go_sem, outV, r0, r1, r2, r3]) rfl ⟨?_, ?_⟩
      · rw [HT.out]
      · exact (((HB2.out.setCell (Nat.le_refl _) _).setCell (Nat.le_refl _) _).setCell (Nat.le_refl _) _).setCell (Nat.le_refl _) _
    · obtain ⟨v, hv, hown⟩ := hout
      subst hv
      obtain ⟨ad, cp, rfl⟩ := own_slice hown
      have HO : Hid (w1.ownsRow (w.heap.size + 1) 9 1 (.slice ad ps.length cp) ps.length (cellsOfS ps)) := hown.base_le (by simp)
      clear hown
      go_wp2_with fail
      refine (as_nil _ _).mono ?_
      rintro e w2 ⟨rfl, hw2⟩; subst w2
      go_wp2
      have hz2 : w.heap.size < w1.heap.size + 1 := by omega
      have hz3 : ¬ w.heap.size = w1.heap.size := by omega
      have hz4 : ¬ w.heap.size = w1.heap.size + 1 := by omega
      refine bodyPost_ret (v := outV (.slice ad ps.length cp) q 0 0) (by simp [results, Tryz.results137, go_sem, outV, r0, r1, r2, r3, hz1, hz2]) rfl ⟨?_, ?_⟩
      · rw [HT.out]
        refine ⟨_, rfl, ?_⟩
        exact (((owns_set (owns_set (owns_set (owns_set HO.out (by simp)) (by simp)) (by simp)) (by simp)).alloc _).alloc _).base_le (by omega)
      · exact (((((HB1.out.setCell (Nat.le_refl _) _).setCell (Nat.le_refl _) _).setCell (Nat.le_refl _) _).setCell (Nat.le_refl _) _).alloc (by simp; omega) _).alloc (by simp; omega) _
end Go.Proofs.YtgmlooemiokhfaiGreatDoor
