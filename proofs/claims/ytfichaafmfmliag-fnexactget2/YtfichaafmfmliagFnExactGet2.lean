/-
  Whatever the text and the place, the law FnExactGet2 returns true: the program's Get2 answers as the model's Get2 does, and the arguments read as they did before. No condition.
-/
import Derived.Test.YtfichaafmfmliagRows
import Derived.WalkKit
import Derived.ProofKit
import Derived.OpenShut
import Derived.ShutString
import Derived.ChangeOld
import Derived.Below
import Derived.Test.YtfichaafmfmliagGet
namespace Go.Proofs.Ytfichaafmfmliag.fnExactGet2
open Go.ChangeShapes Go.WideShapes Go.ChangeAt Go.RowKit
open Go.ChangeMaps (open_string shut_string)
set_option linter.unusedVariables false

theorem own : ownKnob Try.prog.godebug = none := by kernel_rfl

set_option maxHeartbeats 1000000 in
theorem walk (a0 : ByteArray) (a1 : Int) (w : World) (w0 : a0.size ≤ maxLen) (w1 : (Lit.int .i64 a1).wf = true) :
    Calls Try.prog 3 #[.string a0, .int .i64 a1] w fun e w' => e = .returned (.bool true) ∧ Below w.heap.size w w' := by
  have ha : -9223372036854775808 ≤ a1 ∧ a1 ≤ 9223372036854775807 := by
    simpa [Lit.wf, IntKind.min, IntKind.max, IntKind.signed, IntKind.bits] using w1
  obtain ⟨N, A, C, hi0, hs0⟩ := get2_both a0 a1 w0 ha
  have hi : Hid (∀ w, Calls Try.prog 10 #[.string a0, .int .i64 a1] w fun e w' => e = .returned (numVal N A C) ∧ Below w.heap.size w w') := hi0
  have hs : Hid (∀ w, Calls Try.prog 9 #[.string a0, .int .i64 a1] w fun e w' => e = .returned (numVal N A C) ∧ Below w.heap.size w w') := specGet2_of a0 a1 N A C hs0
  clear hi0 hs0 w1 ha
  unfold maxLen at w0
  by_cases hbig : (1048576 : Int) < a0.size
  · go_enter Try.func3, Try.ntmps3
    go_wp2
    go_ret
    exact ⟨rfl, Below.refl _ _⟩
  · go_enter Try.func3, Try.ntmps3
    go_wp2_with fail
    refine (hs.out _).mono ?_
    rintro e w1 ⟨rfl, hb1⟩
    unfold numVal
    go_wp2_with fail
    refine (hi.out _).mono ?_
    rintro e w2 ⟨rfl, hb2⟩
    have k0 := kept hb2 0
    have k1 := kept hb2 1
    have k2 := kept hb2 2
    simp at k0 k1 k2
    obtain ⟨k0, f0⟩ := k0
    obtain ⟨k1, f1⟩ := k1
    obtain ⟨k2, f2⟩ := k2
    have hb := hb1.trans ((below_alloc hb2).mono hb1.size)
    have hz : w1.heap.size < w2.heap.size := by have := hb2.size; simp at this; omega
    clear hb2
    unfold numVal
    go_wp2_with fail
    refine (eqNum N A C _).mono ?_
    rintro e w3 ⟨rfl, hb3⟩
    go_wp2
    go_ret
    exact ⟨rfl, hb.trans ((below_alloc hb3).mono hb.size)⟩

set_option maxRecDepth 100000 in
theorem lifted (os : Os) (started : os.Started) (H : Type) (enc : TypeId × Value → H) :
    ReturnsInHanded {} Try.checked os 3 .any (Rows.fnExactGet2Spec.pre6 enc Try.prog Try.f3 Rows.fnExactGet2Row.domain false) (Rows.fnExactGet2Spec.post enc Try.prog Try.f3 false true false false) := by
  refine returnsInHanded_of_change (C := Try.checked) own started (by kernel_rfl) Try.func3
    (ChangeSpec.witness6 (enc := enc) (C := Try.checked) false ⟨#[], #[.string ⟨#[]⟩, .int .i64 0], []⟩ 8 (by kernel_rfl) (by kernel_rfl) (by kernel_rfl) (by kernel_rfl)) ?_
  intro W base args ds gs before hval0 hW hcnd _
  have hval : ∀ (j : Nat) t v, Try.f3.params[j]? = some t → args[j]? = some v → Value.okWide Try.prog W .any base t v := hval0
  have hW' := hW
  obtain ⟨p, q, hA0, hV, rfl, hfz, hnd⟩ := hW
  have hA : DataW.TrodAll enc Try.prog W 0 (fun _ => true) true Try.f3.params.toList args.toList ds p := hA0
  rw [Try.params3] at hA hval
  obtain ⟨v0, vs0, d0, ds0, p0, q0, hargs, rfl, rfl, h0, r0⟩ := trodAll_cons hA
  obtain ⟨v1, vs1, d1, ds1, p1, q1, rfl, rfl, rfl, h1, r1⟩ := trodAll_cons r0
  obtain ⟨rfl, rfl, rfl⟩ := trodAll_nil r1
  obtain rfl : args = #[v0, v1] := by cases args; simp_all
  obtain ⟨rfl, rfl⟩ := trodVars_none hV
  obtain ⟨a0, rfl, rfl, rfl, w0⟩ := open_string Try.underlying9 (hval 0 9 v0 rfl rfl) h0
  obtain ⟨a1, rfl, rfl, rfl, w1⟩ := open_int Try.underlying2 (hval 1 2 v1 rfl rfl) h1
  clear hA0 hval0
  refine (walk a0 a1 W w0 w1).mono fun e W' ⟨he, bel⟩ => ?_
  subst he
  exact ⟨_, rfl, _, _, _, [], _, [], hW', trodAll_mk1 (shut_bool Try.underlying4 _), (trodAll_cons_mk (shut_string Try.underlying9 w0) (trodAll_cons_mk (shut_int Try.underlying2 w1) trodAll_mk0)), rfl, bel.frame _, fun h => by cases h⟩

theorem over : Rows.fnExactGet2Row.holds Try.pinned (OpenSpec.ofChange Rows.fnExactGet2Spec) :=
  OpenClaim.holds_of_wide 3 Try.f3 rfl rfl rfl rfl rfl rfl rfl ⟨rfl, rfl, rfl, rfl, rfl⟩ rfl rfl rfl rfl rfl (by kernel_rfl) Try.func3 (by kernel_rfl)
    (of_decide_eq_true (by kernel_rfl)) (by unfold Func.isWrapper; first | (rw [if_pos (by decide +kernel)]; kernel_rfl) | (rw [if_neg (by decide +kernel)]; exact ⟨rfl, rfl⟩))
    (fun os started H enc _ => lifted os started H enc)

end Go.Proofs.Ytfichaafmfmliag.fnExactGet2
namespace Go.Proofs.Ytfichaafmfmliag
theorem fnExactGet2_holds : Rows.FnExactGet2Said := fnExactGet2.over
#print axioms fnExactGet2_holds
end Go.Proofs.Ytfichaafmfmliag
