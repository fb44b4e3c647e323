/-
  Whatever the bytes, the law FnNums returns true: numbers drawn from them are got back from the bytes that Put1, Put2 and Put4 tell of them, and of bytes that end too early nothing is got; the argument reads as it did before. No condition.
-/
import Derived.Test.YtfichaafmfmliaaRows
import Derived.WalkKit
import Derived.ProofKit
import Derived.OpenShut
import Derived.ShutString
import Derived.ChangeOld
import Derived.Below
import Derived.Test.YtfichaafmfmliaaDraw
import Derived.Test.YtfichaafmfmliaaNums
namespace Go.Proofs.Ytfichaafmfmliaa.fnNums
open Go.ChangeShapes Go.WideShapes Go.ChangeAt Go.RowKit
open Go.ChangeMaps (open_string shut_string)
set_option linter.unusedVariables false

theorem own : ownKnob Try.prog.godebug = none := by kernel_rfl
theorem laidOut : laidOutB Try.prog = true := by kernel_rfl

set_option maxHeartbeats 2000000 in
theorem walk (a0 : Option Addr) (len0 cap0 : Nat) (z0 : List Int) (w : World) (w0 : IsRow .u8 w a0 len0 cap0 z0) :
    Calls Try.prog 3 #[.slice a0 len0 cap0] w fun e w' => e = .returned (.bool true) ∧ Below w.heap.size w w' := by
  have HR : Hid (IsRow .u8 w a0 len0 cap0 z0) := w0
  clear w0
  by_cases hbig : (1048576 : Int) < len0
  · clear HR
    go_enter Try.func3, Try.ntmps3
    go_wp2
    go_ret
    exact ⟨rfl, Below.refl _ _⟩
  · go_enter Try.func3, Try.ntmps3
    go_wp2_with fail
    refine (drawPut4 _ _ _ z0 _ HR.out (by omega)).mono ?_
    rintro e w1 ⟨n, rfl, hf, hb1⟩
    obtain ⟨f0, f1⟩ := hf
    clear HR f0 f1
    by_cases h4 : -2147483648 ≤ n ∧ n ≤ 2147483647
    · have hs4 : (p4 n).size = 4 := by rw [p4_eq n h4, strOfNums_size]; rfl
      obtain ⟨i0, i1⟩ := h4
      have HB : Hid (Below w.heap.size w w1) := hb1
      have hfc := fieldCode
      clear hb1
      go_wp2_with fail
      refine (implPut4 _ _).mono ?_
      rintro e w2 ⟨rfl, hb2⟩
      have HB2 : Hid (Below w.heap.size w w2) := HB.out.trans (hb2.mono HB.out.size)
      clear HB hb2
      go_wp2_with fail
      refine (get4_back n ⟨i0, i1⟩ _ rfl _).mono ?_
      rintro e w3 ⟨rfl, hb3⟩
      have HB3 : Hid (Below w.heap.size w w3) := HB2.out.trans (hb3.mono HB2.out.size)
      clear HB2 hb3
      go_wp2_with fail
      refine (get4_short n ⟨i0, i1⟩ _).mono ?_
      rintro e w4 ⟨rfl, hb4⟩
      have HB4 : Hid (Below w.heap.size w w4) := HB3.out.trans (hb4.mono HB3.out.size)
      clear HB3 hb4
      by_cases h2 : 0 ≤ n ∧ n ≤ 65535
      · have hs2 : (p2 n).size = 2 := by rw [p2_eq n h2, strOfNums_size]; rfl
        obtain ⟨j0, j1⟩ := h2
        go_wp2_with fail
        refine (implPut2 _ _).mono ?_
        rintro e w5 ⟨rfl, hb5⟩
        have HB5 : Hid (Below w.heap.size w w5) := HB4.out.trans (hb5.mono HB4.out.size)
        clear HB4 hb5
        go_wp2_with fail
        refine (get2_back n ⟨j0, j1⟩ _ rfl _).mono ?_
        rintro e w6 ⟨rfl, hb6⟩
        have HB6 : Hid (Below w.heap.size w w6) := HB5.out.trans (hb6.mono HB5.out.size)
        clear HB5 hb6
        by_cases h1 : n ≤ 255
        · go_wp2_with fail
          refine (implPut1 _ _).mono ?_
          rintro e w7 ⟨rfl, hb7⟩
          have HB7 : Hid (Below w.heap.size w w7) := HB6.out.trans (hb7.mono HB6.out.size)
          clear HB6 hb7
          go_wp2_with fail
          refine (get1_back n ⟨j0, h1⟩ _).mono ?_
          rintro e w8 ⟨rfl, hb8⟩
          have HB8 : Hid (Below w.heap.size w w8) := HB7.out.trans (hb8.mono HB7.out.size)
          clear HB7 hb8
          go_wp2
          go_ret
          exact ⟨rfl, HB8.out⟩
        · have hp : Hid (p1 n = ⟨#[]⟩) := by show p1 n = ⟨#[]⟩; unfold p1; rw [if_neg (by omega)]
          have h1' : 255 < n := by omega
          clear h1
          go_wp2_with fail
          refine (implPut1 _ _).mono ?_
          rintro e w7 ⟨rfl, hb7⟩
          have HB7 : Hid (Below w.heap.size w w7) := HB6.out.trans (hb7.mono HB6.out.size)
          clear HB6 hb7
          rw [hp.out]
          go_wp2
          go_ret
          exact ⟨rfl, HB7.out⟩
      · have hp2 : Hid (p2 n = ⟨#[]⟩) := by show p2 n = ⟨#[]⟩; unfold p2; rw [if_neg h2]
        have hp : Hid (p1 n = ⟨#[]⟩) := by show p1 n = ⟨#[]⟩; unfold p1; rw [if_neg (by omega)]
        by_cases hneg : n < 0
        · have d0 : decide (0 ≤ n) = false := by simp; omega
          clear h2
          go_wp2_with fail
          refine (implPut2 _ _).mono ?_
          rintro e w5 ⟨rfl, hb5⟩
          have HB5 : Hid (Below w.heap.size w w5) := HB4.out.trans (hb5.mono HB4.out.size)
          clear HB4 hb5
          rw [hp2.out]
          go_wp2_with fail
          refine (implPut1 _ _).mono ?_
          rintro e w7 ⟨rfl, hb7⟩
          have HB7 : Hid (Below w.heap.size w w7) := HB5.out.trans (hb7.mono HB5.out.size)
          clear HB5 hb7
          rw [hp.out]
          go_wp2
          go_ret
          exact ⟨rfl, HB7.out⟩
        · have d0 : decide (0 ≤ n) = true := by simp; omega
          have d1 : decide (n ≤ 65535) = false := by simp; omega
          have d2 : decide (n < 0) = false := by simp; omega
          have d3 : decide (255 < n) = true := by simp; omega
          clear h2 hneg
          go_wp2_with fail
          refine (implPut2 _ _).mono ?_
          rintro e w5 ⟨rfl, hb5⟩
          have HB5 : Hid (Below w.heap.size w w5) := HB4.out.trans (hb5.mono HB4.out.size)
          clear HB4 hb5
          rw [hp2.out]
          go_wp2_with fail
          refine (implPut1 _ _).mono ?_
          rintro e w7 ⟨rfl, hb7⟩
          have HB7 : Hid (Below w.heap.size w w7) := HB5.out.trans (hb7.mono HB5.out.size)
          clear HB5 hb7
          rw [hp.out]
          go_wp2
          go_ret
          exact ⟨rfl, HB7.out⟩
    · have hp4 : Hid (p4 n = ⟨#[]⟩) := by show p4 n = ⟨#[]⟩; unfold p4; rw [if_neg h4]
      have hp2 : Hid (p2 n = ⟨#[]⟩) := by show p2 n = ⟨#[]⟩; unfold p2; rw [if_neg (by omega)]
      have hp : Hid (p1 n = ⟨#[]⟩) := by show p1 n = ⟨#[]⟩; unfold p1; rw [if_neg (by omega)]
      have HB1 : Hid (Below w.heap.size w w1) := hb1
      clear hb1
      by_cases hneg : n < -2147483648
      · have d0 : decide (-2147483648 ≤ n) = false := by simp; omega
        have d1 : decide (0 ≤ n) = false := by simp; omega
        have d2 : decide (n < 0) = true := by simp; omega
        clear h4 hneg
        go_wp2_with fail
        refine (implPut4 _ _).mono ?_
        rintro e w4 ⟨rfl, hb4⟩
        have HB4 : Hid (Below w.heap.size w w4) := HB1.out.trans (hb4.mono HB1.out.size)
        clear HB1 hb4
        rw [hp4.out]
        go_wp2_with fail
        refine (implPut2 _ _).mono ?_
        rintro e w5 ⟨rfl, hb5⟩
        have HB5 : Hid (Below w.heap.size w w5) := HB4.out.trans (hb5.mono HB4.out.size)
        clear HB4 hb5
        rw [hp2.out]
        go_wp2_with fail
        refine (implPut1 _ _).mono ?_
        rintro e w7 ⟨rfl, hb7⟩
        have HB7 : Hid (Below w.heap.size w w7) := HB5.out.trans (hb7.mono HB5.out.size)
        clear HB5 hb7
        rw [hp.out]
        go_wp2
        go_ret
        exact ⟨rfl, HB7.out⟩
      · have d0 : decide (-2147483648 ≤ n) = true := by simp; omega
        have d4 : decide (n ≤ 2147483647) = false := by simp; omega
        have d1 : decide (0 ≤ n) = true := by simp; omega
        have d5 : decide (n ≤ 65535) = false := by simp; omega
        have d2 : decide (n < 0) = false := by simp; omega
        have d3 : decide (255 < n) = true := by simp; omega
        clear h4 hneg
        go_wp2_with fail
        refine (implPut4 _ _).mono ?_
        rintro e w4 ⟨rfl, hb4⟩
        have HB4 : Hid (Below w.heap.size w w4) := HB1.out.trans (hb4.mono HB1.out.size)
        clear HB1 hb4
        rw [hp4.out]
        go_wp2_with fail
        refine (implPut2 _ _).mono ?_
        rintro e w5 ⟨rfl, hb5⟩
        have HB5 : Hid (Below w.heap.size w w5) := HB4.out.trans (hb5.mono HB4.out.size)
        clear HB4 hb5
        rw [hp2.out]
        go_wp2_with fail
        refine (implPut1 _ _).mono ?_
        rintro e w7 ⟨rfl, hb7⟩
        have HB7 : Hid (Below w.heap.size w w7) := HB5.out.trans (hb7.mono HB5.out.size)
        clear HB5 hb7
        rw [hp.out]
        go_wp2
        go_ret
        exact ⟨rfl, HB7.out⟩

set_option maxRecDepth 100000 in
theorem lifted (os : Os) (started : os.Started) (H : Type) (enc : TypeId × Value → H) :
    ReturnsInHanded {} Try.checked os 3 .any (Rows.fnNumsSpec.pre6 enc Try.prog Try.f3 Rows.fnNumsRow.domain false) (Rows.fnNumsSpec.post enc Try.prog Try.f3 false true false false) := by
  refine returnsInHanded_of_change (C := Try.checked) own started (by kernel_rfl) Try.func3
    (ChangeSpec.witness6 (enc := enc) (C := Try.checked) false ⟨#[], #[.slice none 0 0], []⟩ 8 (by kernel_rfl) (by kernel_rfl) (by kernel_rfl) (by kernel_rfl)) ?_
  intro W base args ds gs before hval0 hW hcnd _
  have hval : ∀ (j : Nat) t v, Try.f3.params[j]? = some t → args[j]? = some v → Value.okWide Try.prog W .any base t v := hval0
  have hW' := hW
  obtain ⟨p, q, hA0, hV, rfl, hfz, hnd⟩ := hW
  have hA : DataW.TrodAll enc Try.prog W 0 (fun _ => true) true Try.f3.params.toList args.toList ds p := hA0
  rw [Try.params3] at hA hval
  obtain ⟨v0, vs0, d0, ds0, p0, q0, hargs, rfl, rfl, h0, r0⟩ := trodAll_cons hA
  obtain ⟨rfl, rfl, rfl⟩ := trodAll_nil r0
  obtain rfl : args = #[v0] := by cases args; simp_all
  obtain ⟨rfl, rfl⟩ := trodVars_none hV
  obtain ⟨a0, len0, cap0, rfl⟩ := okWide_slice Try.underlying22 (hval 0 22 v0 rfl rfl)
  have k0 := h0
  have lt0 : ∀ x ∈ p0, x.block < W.heap.size := by obtain ⟨m, hm⟩ := k0; exact DataW.trod_lt m _ _ _ hm
  obtain ⟨z0, w0⟩ : ∃ zs, IsRow .u8 W a0 len0 cap0 zs := by
    obtain ⟨fuel, hf⟩ := h0
    rcases open_ints Try.underlying22 Try.underlying5 (by kernel_rfl) hf with ⟨hcs, _⟩ | ⟨x, l, c, zs, hcs, _, hl, hm, hz, _, hcell, hwz⟩
    · simp [Value.cells] at hcs
      obtain ⟨rfl, rfl, rfl⟩ := hcs
      exact ⟨[], .inl ⟨rfl, rfl, rfl, rfl⟩⟩
    · simp [Value.cells] at hcs
      obtain ⟨rfl, rfl, rfl⟩ := hcs
      exact ⟨zs, .inr ⟨_, rfl, hl, hm, by simpa using hz, hcell, hwz⟩⟩
  clear hA0 hval0
  refine (walk a0 len0 cap0 z0 W w0).mono fun e W' ⟨he, bel⟩ => ?_
  subst he
  exact ⟨_, rfl, _, _, _, [], _, [], hW', trodAll_mk1 (shut_bool Try.underlying4 _), (trodAll_cons_mk (Below.trod laidOut (by kernel_rfl) (of_decide_eq_true (by kernel_rfl)) k0 bel lt0) trodAll_mk0), rfl, bel.frame _, fun h => by cases h⟩

theorem over : Rows.fnNumsRow.holds Try.pinned (OpenSpec.ofChange Rows.fnNumsSpec) :=
  OpenClaim.holds_of_wide 3 Try.f3 rfl rfl rfl rfl rfl rfl rfl ⟨rfl, rfl, rfl, rfl, rfl⟩ rfl rfl rfl rfl rfl (by kernel_rfl) Try.func3 (by kernel_rfl)
    (of_decide_eq_true (by kernel_rfl)) (by unfold Func.isWrapper; first | (rw [if_pos (by decide +kernel)]; kernel_rfl) | (rw [if_neg (by decide +kernel)]; exact ⟨rfl, rfl⟩))
    (fun os started H enc _ => lifted os started H enc)

end Go.Proofs.Ytfichaafmfmliaa.fnNums
namespace Go.Proofs.Ytfichaafmfmliaa
theorem fnNums_holds : Rows.FnNumsSaid := fnNums.over
#print axioms fnNums_holds
end Go.Proofs.Ytfichaafmfmliaa
