/-
  Slices of structs: what lies at a place.
-/
import Derived.Test.YtgmlooemiokhfajGreatDoorOpn
import Derived.Test.YtgmlooemiokhfajGreatDoorMeth3
namespace Go.Proofs.YtgmlooemiokhfajGreatDoor
open Go.RowKit
set_option maxRecDepth 20000
set_option linter.unusedVariables false

theorem slice_open {α : Type} {R : Rep α} (hk : 0 < R.k) {w : World} {v : Value} {xs : List α} (h : R.slice.In w [v] xs) :
    ∃ a cap, v = .slice a xs.length cap ∧ xs.length ≤ cap ∧ cap ≤ maxLen ∧ ∀ i (h : i < xs.length), ∃ b o, a = some ⟨b, o, none⟩ ∧ R.At w ⟨b, o, none⟩ i xs[i] := by
  obtain ⟨a, cap, e, h1, h2, h3⟩ := h
  cases e
  refine ⟨a, cap, rfl, h1, h2, fun i hi => ?_⟩
  obtain ⟨x, rfl, hx⟩ := h3 i hi
  obtain ⟨x0, e0, h0⟩ := h3 0 (by omega)
  cases e0
  obtain ⟨b, o, rfl⟩ := h0.plain hk
  exact ⟨b, o, rfl, hx⟩

theorem insAt {w : World} {b o i : Nat} {d : InsD} (h : insR.At w ⟨b, o, none⟩ i d) :
    w.cell? ⟨b, o + i * 5, none⟩ = some (.int .i64 d.1) ∧ w.cell? ⟨b, o + i * 5 + 1, none⟩ = some (.int .i64 d.2.1) ∧ w.cell? ⟨b, o + i * 5 + 2, none⟩ = some (.string d.2.2.1) ∧ w.cell? ⟨b, o + i * 5 + 3, none⟩ = some (.string d.2.2.2.1) ∧ w.cell? ⟨b, o + i * 5 + 4, none⟩ = some (.string d.2.2.2.2) ∧
    (-9223372036854775808 ≤ d.1 ∧ d.1 ≤ 9223372036854775807) ∧ (-9223372036854775808 ≤ d.2.1 ∧ d.2.1 ≤ 9223372036854775807) ∧ d.2.2.1.size ≤ maxLen ∧ d.2.2.2.1.size ≤ maxLen ∧ d.2.2.2.2.size ≤ maxLen := by
  obtain ⟨cs, hc, hin⟩ := h
  obtain ⟨_, _, rfl, ⟨rfl, q0⟩, ⟨_, _, rfl, ⟨rfl, q1⟩, ⟨_, _, rfl, ⟨rfl, s2⟩, ⟨_, _, rfl, ⟨rfl, s3⟩, ⟨rfl, s4⟩⟩⟩⟩⟩ := hin
  have hk : insR.k = 5 := rfl
  rw [hk] at hc
  have g0 := hc 0 (by omega)
  have g1 := hc 1 (by omega)
  have g2 := hc 2 (by omega)
  have g3 := hc 3 (by omega)
  have g4 := hc 4 (by omega)
  simp only [List.cons_append, List.nil_append, List.getElem?_cons_zero, List.getElem?_cons_succ, plain_add, ← Nat.add_assoc, Nat.add_zero] at g0 g1 g2 g3 g4
  exact ⟨g0, g1, g2, g3, g4, i64w q0, i64w q1, s2, s3, s4⟩

theorem handlerAt {w : World} {b o i : Nat} {d : HandlerD} (h : handlerR.At w ⟨b, o, none⟩ i d) :
    w.cell? ⟨b, o + i * 4, none⟩ = some (.int .i64 d.1) ∧ w.cell? ⟨b, o + i * 4 + 1, none⟩ = some (.int .i64 d.2.1) ∧ w.cell? ⟨b, o + i * 4 + 2, none⟩ = some (.int .i64 d.2.2.1) ∧ w.cell? ⟨b, o + i * 4 + 3, none⟩ = some (.string d.2.2.2) ∧ d.2.2.2.size ≤ maxLen := by
  obtain ⟨cs, hc, hin⟩ := h
  obtain ⟨_, _, rfl, ⟨rfl, q0⟩, ⟨_, _, rfl, ⟨rfl, q1⟩, ⟨_, _, rfl, ⟨rfl, q2⟩, ⟨rfl, s3⟩⟩⟩⟩ := hin
  have hk : handlerR.k = 4 := rfl
  rw [hk] at hc
  have g0 := hc 0 (by omega)
  have g1 := hc 1 (by omega)
  have g2 := hc 2 (by omega)
  have g3 := hc 3 (by omega)
  simp only [List.cons_append, List.nil_append, List.getElem?_cons_zero, List.getElem?_cons_succ, plain_add, ← Nat.add_assoc, Nat.add_zero] at g0 g1 g2 g3
  exact ⟨g0, g1, g2, g3, s3⟩

theorem fieldAt {w : World} {b o i : Nat} {d : FieldD} (h : fieldR.At w ⟨b, o, none⟩ i d) :
    w.cell? ⟨b, o + i * 3, none⟩ = some (.string d.1) ∧ w.cell? ⟨b, o + i * 3 + 1, none⟩ = some (.string d.2.1) ∧ w.cell? ⟨b, o + i * 3 + 2, none⟩ = some (.bool d.2.2) ∧ d.1.size ≤ maxLen ∧ d.2.1.size ≤ maxLen := by
  obtain ⟨cs, hc, hin⟩ := h
  obtain ⟨_, _, rfl, ⟨rfl, s0⟩, ⟨_, _, rfl, ⟨rfl, s1⟩, h2⟩⟩ := hin
  have h2' : _ = _ := h2
  subst h2'
  have hk : fieldR.k = 3 := rfl
  rw [hk] at hc
  have g0 := hc 0 (by omega)
  have g1 := hc 1 (by omega)
  have g2 := hc 2 (by omega)
  simp only [List.cons_append, List.nil_append, List.getElem?_cons_zero, List.getElem?_cons_succ, plain_add, ← Nat.add_assoc, Nat.add_zero] at g0 g1 g2
  exact ⟨g0, g1, g2, s0, s1⟩
end Go.Proofs.YtgmlooemiokhfajGreatDoor
