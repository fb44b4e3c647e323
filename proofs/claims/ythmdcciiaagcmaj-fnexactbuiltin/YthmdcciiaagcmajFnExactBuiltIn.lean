/-
  The law FnExactBuiltIn returns true: the program's BuiltIn answers as the model's does, and what it hands back is its own memory, which a later call leaves alone. The law has no argument and no condition.
-/
import Derived.Test.YthmdcciiaagcmajRows
import Derived.WalkKit
import Derived.ProofKit
import Derived.OpenShut
import Derived.ShutString
import Derived.ChangeOld
import Derived.Below
import Derived.Test.YthmdcciiaagcmajBi
namespace Go.Proofs.Ythmdcciiaagcmaj.fnExactBuiltIn
open Go.ChangeShapes Go.WideShapes Go.ChangeAt Go.RowKit
open Go.ChangeMaps (open_string shut_string)
set_option linter.unusedVariables false

theorem own : ownKnob Try.prog.godebug = none := by kernel_rfl

set_option maxHeartbeats 4000000 in
theorem walk (w : World) :
    Calls Try.prog 3 #[] w fun e w' => e = .returned (.bool true) ∧ Below w.heap.size w w' := by
  have HS : Hid (∀ w, Calls Try.prog 4 #[] w fun e w' => Below w.heap.size w w' ∧ ∃ v, e = .returned v ∧ w'.ownsRow w.heap.size 9 1 v biN.length (sC biN)) := specBuiltIn
  have HP : Hid (∀ w, Calls Try.prog 5 #[] w fun e w' => Below w.heap.size w w' ∧ ∃ v, e = .returned v ∧ w'.ownsRow w.heap.size 9 1 v biN.length (sC biN)) := implBuiltIn
  have HSZ : Hid (∀ p ∈ biN, p.size ≤ maxLen) := biN_sz
  have h8 : biN.length ≤ 8 := Nat.le_refl _
  have h1 : 1 ≤ biN.length := by decide
  generalize biN = xs at *
  go_enter Try.func3, Try.ntmps3
  go_wp2_with fail
  refine (HS.out _).mono ?_
  rintro e w1 ⟨hb1, v1, rfl, ho1⟩
  obtain ⟨a1, c1, rfl, hs1, hl1, _⟩ := own_row ho1 HSZ.out
  have HB1 : Hid (Below w.heap.size w w1) := hb1
  have H1 := (show Hid (Strs w1 a1 c1 xs ∧ ∀ x, a1 = some x → x.block < w1.heap.size) from ⟨hs1, fun x e => (hl1 x e).2⟩)
  clear hb1 ho1 hs1 hl1
  go_wp2_with fail
  refine (HP.out _).mono ?_
  rintro e w2 ⟨hb2, v2, rfl, ho2⟩
  obtain ⟨a2, c2, rfl, hs2, hl2, hr2⟩ := own_row ho2 HSZ.out
  obtain ⟨g, f, rfl, hg1, hg2, hrow, hn, hcap⟩ := hr2.resolve_left (by omega)
  have hwz : w.heap.size ≤ w1.heap.size := HB1.out.size
  have HB2 : Hid (Below w.heap.size w w2) := HB1.out.trans (hb2.mono hwz)
  have H2 := (show Hid (Strs w2 a1 c1 xs ∧ ∀ x, a1 = some x → x.block ≠ g) from ⟨H1.out.1.mono hb2, fun x e => by have := H1.out.2 x e; omega⟩)
  have HR2 := (show Hid (w2.rowIs g 9 c2 f) from hrow)
  have HT2 := (show Hid (Strs w2 (some ⟨g, 0, none⟩) c2 xs) from hs2)
  clear hb2 ho2 hs2 hl2 hrow hr2 H1
  go_wp2_with fail
  refine (lawEqStrs (some ⟨g, 0, none⟩) a1 c2 c1 xs w2 HT2.out H2.out.1).mono ?_
  rintro e w3 ⟨rfl, hb3⟩
  have HB3 : Hid (Below w.heap.size w w3) := HB2.out.trans (hb3.mono HB2.out.size)
  have H3 := (show Hid (Strs w3 a1 c1 xs) from H2.out.1.mono hb3)
  have HR3 := (show Hid (w3.rowIs g 9 c2 f) from HR2.out.of_block (hb3.block g HR2.out.lt))
  clear hb3 HT2 HR2
  have hmk := lawMarkS g xs.length c2 1 f w3 HR3.out hn hcap (Nat.le_refl _) (by omega)
  have HMK := (show Hid (Calls Try.prog 7 #[.slice (some ⟨g, 0, none⟩) xs.length c2, .int .i64 1] w3 fun e w' => e = .returned (.int .i64 (1 + (xs.length : Int))) ∧ But g w3 w' ∧ w'.rowIs g 9 c2 (mkF 1 xs.length f)) from hmk)
  clear hmk
  go_wp2_with fail
  refine HMK.out.mono ?_
  rintro e w4 ⟨rfl, hbut, hrow4⟩
  have HB4 : Hid (Below w.heap.size w w4) := hbut.below HB3.out (by omega) (Nat.le_refl _)
  have H4 := (show Hid (Strs w4 a1 c1 xs) from strs_but H3.out hbut H2.out.2)
  have HR4 := (show Hid (w4.rowIs g 9 c2 (mkF 1 xs.length f)) from hrow4)
  clear hbut hrow4 HMK HR3 H3
  have hhd := fun w hr => lawHeldS g xs.length c2 1 f w hr hn hcap (Nat.le_refl _) (by omega)
  have HHD := (show Hid (∀ w, w.rowIs g 9 c2 (mkF 1 xs.length f) → Calls Try.prog 8 #[.slice (some ⟨g, 0, none⟩) xs.length c2, .int .i64 1] w fun e w' => e = .returned (.int .i64 (1 + (xs.length : Int))) ∧ Below w.heap.size w w') from hhd)
  clear hhd
  go_wp2_with fail
  refine (HHD.out w4 HR4.out).mono ?_
  rintro e w5 ⟨rfl, hb5⟩
  have HB5 : Hid (Below w.heap.size w w5) := HB4.out.trans (hb5.mono HB4.out.size)
  have H5 := (show Hid (Strs w5 a1 c1 xs) from H4.out.mono hb5)
  have HR5 := (show Hid (w5.rowIs g 9 c2 (mkF 1 xs.length f)) from HR4.out.of_block (hb5.block g HR4.out.lt))
  clear hb5 H4 HR4
  have t1 : decide (1 + (xs.length : Int) < 0) = false := by simp; omega
  have t2 : ((1 + (xs.length : Int)) == (1 + (xs.length : Int))) = true := by simp
  have t3 : ((1 + (xs.length : Int)) != (1 + (xs.length : Int))) = false := by simp
  go_wp2_with fail
  refine (HP.out _).mono ?_
  rintro e w6 ⟨hb6, v6, rfl, ho6⟩
  obtain ⟨a6, c6, rfl, hs6, _, _⟩ := own_row ho6 HSZ.out
  have HB6 : Hid (Below w.heap.size w w6) := HB5.out.trans (hb6.mono HB5.out.size)
  have H6 := (show Hid (Strs w6 a1 c1 xs) from H5.out.mono hb6)
  have HR6 := (show Hid (w6.rowIs g 9 c2 (mkF 1 xs.length f)) from HR5.out.of_block (hb6.block g HR5.out.lt))
  have HT6 := (show Hid (Strs w6 a6 c6 xs) from hs6)
  clear hb6 ho6 hs6 H5 HR5
  go_wp2_with fail
  refine (lawEqStrs a6 a1 c6 c1 xs w6 HT6.out H6.out).mono ?_
  rintro e w7 ⟨rfl, hb7⟩
  have HB7 : Hid (Below w.heap.size w w7) := HB6.out.trans (hb7.mono HB6.out.size)
  have HR7 := (show Hid (w7.rowIs g 9 c2 (mkF 1 xs.length f)) from HR6.out.of_block (hb7.block g HR6.out.lt))
  clear hb7 HR6 H6 HT6
  go_wp2_with fail
  refine (HHD.out w7 HR7.out).mono ?_
  rintro e w8 ⟨rfl, hb8⟩
  have HB8 : Hid (Below w.heap.size w w8) := HB7.out.trans (hb8.mono HB7.out.size)
  clear hb8 HR7
  go_wp2
  go_ret
  exact ⟨rfl, HB8.out⟩

set_option maxRecDepth 100000 in
theorem lifted (os : Os) (started : os.Started) (H : Type) (enc : TypeId × Value → H) :
    ReturnsInHanded {} Try.checked os 3 .any (Rows.fnExactBuiltInSpec.pre6 enc Try.prog Try.f3 Rows.fnExactBuiltInRow.domain false) (Rows.fnExactBuiltInSpec.post enc Try.prog Try.f3 false true false false) := by
  refine returnsInHanded_of_change (C := Try.checked) own started (by kernel_rfl) Try.func3
    (ChangeSpec.witness6 (enc := enc) (C := Try.checked) false ⟨#[], #[], []⟩ 8 (by kernel_rfl) (by kernel_rfl) (by kernel_rfl) (by kernel_rfl)) ?_
  intro W base args ds gs before hval0 hW hcnd _
  have hval : ∀ (j : Nat) t v, Try.f3.params[j]? = some t → args[j]? = some v → Value.okWide Try.prog W .any base t v := hval0
  have hW' := hW
  obtain ⟨p, q, hA0, hV, rfl, hfz, hnd⟩ := hW
  have hA : DataW.TrodAll enc Try.prog W 0 (fun _ => true) true Try.f3.params.toList args.toList ds p := hA0
  rw [Try.params3] at hA hval
  obtain ⟨hargs, rfl, rfl⟩ := trodAll_nil hA
  obtain rfl : args = #[] := by cases args; simp_all
  obtain ⟨rfl, rfl⟩ := trodVars_none hV
  clear hA0 hval0
  refine (walk  W ).mono fun e W' ⟨he, bel⟩ => ?_
  subst he
  exact ⟨_, rfl, _, _, _, [], _, [], hW', trodAll_mk1 (shut_bool Try.underlying4 _), trodAll_mk0, rfl, bel.frame _, fun h => by cases h⟩

theorem over : Rows.fnExactBuiltInRow.holds Try.pinned (OpenSpec.ofChange Rows.fnExactBuiltInSpec) :=
  OpenClaim.holds_of_wide 3 Try.f3 rfl rfl rfl rfl rfl rfl rfl ⟨rfl, rfl, rfl, rfl, rfl⟩ rfl rfl rfl rfl rfl (by kernel_rfl) Try.func3 (by kernel_rfl)
    (of_decide_eq_true (by kernel_rfl)) (by unfold Func.isWrapper; first | (rw [if_pos (by decide +kernel)]; kernel_rfl) | (rw [if_neg (by decide +kernel)]; exact ⟨rfl, rfl⟩))
    (fun os started H enc _ => lifted os started H enc)

end Go.Proofs.Ythmdcciiaagcmaj.fnExactBuiltIn
namespace Go.Proofs.Ythmdcciiaagcmaj
theorem fnExactBuiltIn_holds : Rows.FnExactBuiltInSaid := fnExactBuiltIn.over
#print axioms fnExactBuiltIn_holds
end Go.Proofs.Ythmdcciiaagcmaj
