/-
  The contracts of the laws' own helpers on Descs (szDesc, toDesc, eqDesc).
-/
import Derived.Test.YtdoiphejockfhahDoorStrs
namespace Go.Proofs.YtdoiphejockfhahDoor
open Go.RowKit
set_option linter.unusedVariables false

def descV (a : Option Addr) (n cap : Nat) (r : ByteArray) : Value := .agg #[.slice a n cap, .string r]

set_option maxHeartbeats 1000000 in
theorem lawEqDesc (a b : Option Addr) (ca cb : Nat) (xs : List ByteArray) (r : ByteArray) (w : World) (ha : Strs w a ca xs) (hb : Strs w b cb xs) :
    Calls Tryd.prog 16 #[descV a xs.length ca r, descV b xs.length cb r] w fun e w' => e = .returned (.bool true) ∧ Below w.heap.size w w' := by
  have HA : Hid (Strs w a ca xs) := ha
  have HB : Hid (Strs w b cb xs) := hb
  clear ha hb
  unfold descV
  have hbb : (r.toList == r.toList) = true := by simp
  have HB0 : Hid (∀ o1 o2, Below w.heap.size w ((w.alloc o1).alloc o2)) := fun o1 o2 => ((Below.refl _ _).alloc (Nat.le_refl _) o1).alloc (by simp) o2
  go_enter Tryd.func16, Tryd.ntmps16
  go_wp2_with fail
  refine (lawEqStrs a b ca cb xs _ (HA.out.mono (HB0.out _ _)) (HB.out.mono (HB0.out _ _))).mono ?_
  rintro e w1 ⟨rfl, hb1⟩
  have HB1 : Hid (Below w.heap.size w w1) := (HB0.out _ _).trans (hb1.mono (by simp; omega))
  have c1 : w1.cell? ⟨w.heap.size, 1, none⟩ = some (.string r) := (hb1.cell (p := ⟨w.heap.size, 1, none⟩) (by simp; omega)).trans (by simp [go_sem])
  have p1 : w1.cell? ⟨w.heap.size + 1, 1, none⟩ = some (.string r) := (hb1.cell (p := ⟨w.heap.size + 1, 1, none⟩) (by simp)).trans (by simp [go_sem])
  clear hb1
  go_wp2
  go_ret
  exact ⟨rfl, HB1.out⟩
end Go.Proofs.YtdoiphejockfhahDoor
