/-
  Whatever the two slices of bytes, the law FnTexts returns true: texts drawn from them, put one behind the other, are got back one behind the other; the arguments read as they did before. No condition.
-/
import Derived.Test.YtfichaafmfmliaaRows
import Derived.WalkKit
import Derived.ProofKit
import Derived.OpenShut
import Derived.ShutString
import Derived.ChangeOld
import Derived.Below
import Derived.Test.YtfichaafmfmliaaWord
import Derived.Test.YtfichaafmfmliaaTexts
namespace Go.Proofs.Ytfichaafmfmliaa.fnTexts
open Go.ChangeShapes Go.WideShapes Go.ChangeAt Go.RowKit
open Go.ChangeMaps (open_string shut_string)
set_option linter.unusedVariables false

theorem own : ownKnob Try.prog.godebug = none := by kernel_rfl
theorem laidOut : laidOutB Try.prog = true := by kernel_rfl

set_option maxHeartbeats 4000000 in
theorem walk (a0 : Option Addr) (len0 cap0 : Nat) (z0 : List Int) (a1 : Option Addr) (len1 cap1 : Nat) (z1 : List Int) (w : World) (w0 : IsRow .u8 w a0 len0 cap0 z0) (w1 : IsRow .u8 w a1 len1 cap1 z1) :
    Calls Try.prog 4 #[.slice a0 len0 cap0, .slice a1 len1 cap1] w fun e w' => e = .returned (.bool true) ∧ Below w.heap.size w w' := by
  have HR : Hid (IsRow .u8 w a0 len0 cap0 z0 ∧ IsRow .u8 w a1 len1 cap1 z1) := ⟨w0, w1⟩
  clear w0 w1
  by_cases hbig : (1048576 : Int) < len0
  · have d0 : decide ((1048576 : Int) < len0) = true := by simpa using hbig
    clear HR hbig
    go_enter Try.func4, Try.ntmps4
    go_wp2
    go_ret
    exact ⟨rfl, Below.refl _ _⟩
  have d0 : decide ((1048576 : Int) < len0) = false := by simpa using hbig
  by_cases hbig1 : (1048576 : Int) < len1
  · have d1 : decide ((1048576 : Int) < len1) = true := by simpa using hbig1
    clear HR hbig hbig1
    go_enter Try.func4, Try.ntmps4
    go_wp2
    go_ret
    exact ⟨rfl, Below.refl _ _⟩
  have d1 : decide ((1048576 : Int) < len1) = false := by simpa using hbig1
  go_enter Try.func4, Try.ntmps4
  go_wp2_with fail
  refine (drawPutText _ _ _ z0 _ HR.out.1 (by omega)).mono ?_
  rintro e w1 ⟨a, rfl, ha, hb1⟩
  have HR1 : Hid (IsRow .u8 w1 a1 len1 cap1 z1) := HR.out.2.mono (fun x hx i hi => hb1.cell (by
    rcases HR.out.2 with ⟨h, _⟩ | ⟨y, hy, _, _, _, h4, _⟩
    · rw [h] at hx; cases hx
    · rw [hy] at hx; cases hx
      exact World.block_lt_of_cell? w _ (h4 i hi)))
  have HB1 : Hid (Below w.heap.size w w1) := hb1
  clear HR hb1
  go_wp2_with fail
  refine (drawPutText _ _ _ z1 _ HR1.out (by omega)).mono ?_
  rintro e w2 ⟨b, rfl, hb, hb2⟩
  have HB2 : Hid (Below w.heap.size w w2) := HB1.out.trans (hb2.mono HB1.out.size)
  clear HB1 HR1 hb2 hbig hbig1
  have hma : a.size ≤ maxLen := by unfold maxLen; omega
  have hmb : b.size ≤ maxLen := by unfold maxLen; omega
  by_cases hva : a.size ≤ 255 ∧ okB a = true
  · have ea : (putT a).toList.isEmpty = false := not_empty _ (by rw [putT_size a hva.1 hva.2]; omega)
    have sa : (putT a).size ≤ 256 := by rw [putT_size a hva.1 hva.2]; omega
    have HVA : Hid (a.size ≤ 255 ∧ okB a = true) := hva
    clear hva
    go_wp2_with fail
    refine (specPutText _ _ hma).mono ?_
    rintro e w3 ⟨rfl, hb3⟩
    have HB3 : Hid (Below w.heap.size w w3) := HB2.out.trans (hb3.mono HB2.out.size)
    clear HB2 hb3
    go_wp2_with fail
    refine (specPutText _ _ hmb).mono ?_
    rintro e w4 ⟨rfl, hb4⟩
    have HB4 : Hid (Below w.heap.size w w4) := HB3.out.trans (hb4.mono HB3.out.size)
    clear HB3 hb4
    by_cases hvb : b.size ≤ 255 ∧ okB b = true
    · have eb : (putT b).toList.isEmpty = false := not_empty _ (by rw [putT_size b hvb.1 hvb.2]; omega)
      have sb : (putT b).size ≤ 256 := by rw [putT_size b hvb.1 hvb.2]; omega
      have HVB : Hid (b.size ≤ 255 ∧ okB b = true) := hvb
      have HSZ : Hid (((putT a ++ putT b).size : Int) = 2 + (a.size : Int) + (b.size : Int)) := by
        show ((putT a ++ putT b).size : Int) = 2 + (a.size : Int) + (b.size : Int)
        rw [size_app, putT_size a HVA.out.1 HVA.out.2, putT_size b hvb.1 hvb.2]; omega
      clear hvb
      go_wp2_with fail
      refine (implPutText _ _ hma).mono ?_
      rintro e w5 ⟨rfl, hb5⟩
      have HB5 : Hid (Below w.heap.size w w5) := HB4.out.trans (hb5.mono HB4.out.size)
      clear HB4 hb5
      go_wp2_with fail
      refine (implPutText _ _ hmb).mono ?_
      rintro e w6 ⟨rfl, hb6⟩
      have HB6 : Hid (Below w.heap.size w w6) := HB5.out.trans (hb6.mono HB5.out.size)
      clear HB5 hb6
      go_wp2_with fail
      refine (getText_first a b HVA.out.1 HVA.out.2 HVB.out.1 HVB.out.2 _).mono ?_
      rintro e w7 ⟨rfl, hb7⟩
      have HB7 : Hid (Below w.heap.size w w7) := HB6.out.trans (hb7.mono HB6.out.size)
      clear HB6 hb7
      go_wp2_with fail
      refine (getText_next a b HVA.out.1 HVA.out.2 HVB.out.1 HVB.out.2 _).mono ?_
      rintro e w8 ⟨rfl, hb8⟩
      have k0 := kept hb8 0
      have k1 := kept hb8 1
      have k2 := kept hb8 2
      simp at k0 k1 k2
      obtain ⟨k0, f0⟩ := k0
      obtain ⟨k1, f1⟩ := k1
      obtain ⟨k2, f2⟩ := k2
      have hz8 : w7.heap.size < w8.heap.size := by have := hb8.size; simp at this; omega
      have HB8 : Hid (Below w.heap.size w w8) := HB7.out.trans ((below_alloc hb8).mono HB7.out.size)
      clear HB7 hb8
      have hEq : 2 + (a.size : Int) + (b.size : Int) = ((putT a).size : Int) + ((putT b).size : Int) := by
        rw [putT_size a HVA.out.1 HVA.out.2, putT_size b HVB.out.1 HVB.out.2]; omega
      go_wp2
      go_ret
      exact ⟨rfl, HB8.out.alloc HB8.out.size _⟩
    · have HPB : Hid (putT b = ⟨#[]⟩) := putT_no b hvb
      clear hvb
      rw [HPB.out]
      go_wp2_with fail
      refine (implPutText _ _ hma).mono ?_
      rintro e w5 ⟨rfl, hb5⟩
      have HB5 : Hid (Below w.heap.size w w5) := HB4.out.trans (hb5.mono HB4.out.size)
      clear HB4 hb5
      go_wp2_with fail
      refine (specPutText _ _ hma).mono ?_
      rintro e w6 ⟨rfl, hb6⟩
      have HB6 : Hid (Below w.heap.size w w6) := HB5.out.trans (hb6.mono HB5.out.size)
      clear HB5 hb6
      go_wp2
      go_ret
      exact ⟨rfl, HB6.out⟩
  · have HP : Hid (putT a = ⟨#[]⟩) := putT_no a hva
    clear hva
    go_wp2_with fail
    refine (specPutText _ _ hma).mono ?_
    rintro e w3 ⟨rfl, hb3⟩
    have HB3 : Hid (Below w.heap.size w w3) := HB2.out.trans (hb3.mono HB2.out.size)
    clear HB2 hb3
    rw [HP.out]
    go_wp2_with fail
    refine (implPutText _ _ hma).mono ?_
    rintro e w4 ⟨rfl, hb4⟩
    have HB4 : Hid (Below w.heap.size w w4) := HB3.out.trans (hb4.mono HB3.out.size)
    clear HB3 hb4
    rw [HP.out]
    go_wp2_with fail
    refine (specPutText _ _ hma).mono ?_
    rintro e w5 ⟨rfl, hb5⟩
    have HB5 : Hid (Below w.heap.size w w5) := HB4.out.trans (hb5.mono HB4.out.size)
    clear HB4 hb5
    rw [HP.out]
    go_wp2
    go_ret
    exact ⟨rfl, HB5.out⟩

set_option maxRecDepth 100000 in
theorem lifted (os : Os) (started : os.Started) (H : Type) (enc : TypeId × Value → H) :
    ReturnsInHanded {} Try.checked os 4 .any (Rows.fnTextsSpec.pre6 enc Try.prog Try.f4 Rows.fnTextsRow.domain false) (Rows.fnTextsSpec.post enc Try.prog Try.f4 false true false false) := by
  refine returnsInHanded_of_change (C := Try.checked) own started (by kernel_rfl) Try.func4
    (ChangeSpec.witness6 (enc := enc) (C := Try.checked) false ⟨#[], #[.slice none 0 0, .slice none 0 0], []⟩ 8 (by kernel_rfl) (by kernel_rfl) (by kernel_rfl) (by kernel_rfl)) ?_
  intro W base args ds gs before hval0 hW hcnd _
  have hval : ∀ (j : Nat) t v, Try.f4.params[j]? = some t → args[j]? = some v → Value.okWide Try.prog W .any base t v := hval0
  have hW' := hW
  obtain ⟨p, q, hA0, hV, rfl, hfz, hnd⟩ := hW
  have hA : DataW.TrodAll enc Try.prog W 0 (fun _ => true) true Try.f4.params.toList args.toList ds p := hA0
  rw [Try.params4] at hA hval
  obtain ⟨v0, vs0, d0, ds0, p0, q0, hargs, rfl, rfl, h0, r0⟩ := trodAll_cons hA
  obtain ⟨v1, vs1, d1, ds1, p1, q1, rfl, rfl, rfl, h1, r1⟩ := trodAll_cons r0
  obtain ⟨rfl, rfl, rfl⟩ := trodAll_nil r1
  obtain rfl : args = #[v0, v1] := by cases args; simp_all
  obtain ⟨rfl, rfl⟩ := trodVars_none hV
  obtain ⟨a0, len0, cap0, rfl⟩ := okWide_slice Try.underlying22 (hval 0 22 v0 rfl rfl)
  have k0 := h0
  have lt0 : ∀ x ∈ p0, x.block < W.heap.size := by obtain ⟨m, hm⟩ := k0; exact DataW.trod_lt m _ _ _ hm
  obtain ⟨z0, w0⟩ : ∃ zs, IsRow .u8 W a0 len0 cap0 zs := by
    obtain ⟨fuel, hf⟩ := h0
    rcases open_ints Try.underlying22 Try.underlying5 (by kernel_rfl) hf with ⟨hcs, _⟩ | ⟨x, l, c, zs, hcs, _, hl, hm, hz, _, hcell, hwz⟩
    · simp [Value.cells] at hcs
      obtain ⟨rfl, rfl, rfl⟩ := hcs
      exact ⟨[], .inl ⟨rfl, rfl, rfl, rfl⟩⟩
    · simp [Value.cells] at hcs
      obtain ⟨rfl, rfl, rfl⟩ := hcs
      exact ⟨zs, .inr ⟨_, rfl, hl, hm, by simpa using hz, hcell, hwz⟩⟩
  obtain ⟨a1, len1, cap1, rfl⟩ := okWide_slice Try.underlying22 (hval 1 22 v1 rfl rfl)
  have k1 := h1
  have lt1 : ∀ x ∈ p1, x.block < W.heap.size := by obtain ⟨m, hm⟩ := k1; exact DataW.trod_lt m _ _ _ hm
  obtain ⟨z1, w1⟩ : ∃ zs, IsRow .u8 W a1 len1 cap1 zs := by
    obtain ⟨fuel, hf⟩ := h1
    rcases open_ints Try.underlying22 Try.underlying5 (by kernel_rfl) hf with ⟨hcs, _⟩ | ⟨x, l, c, zs, hcs, _, hl, hm, hz, _, hcell, hwz⟩
    · simp [Value.cells] at hcs
      obtain ⟨rfl, rfl, rfl⟩ := hcs
      exact ⟨[], .inl ⟨rfl, rfl, rfl, rfl⟩⟩
    · simp [Value.cells] at hcs
      obtain ⟨rfl, rfl, rfl⟩ := hcs
      exact ⟨zs, .inr ⟨_, rfl, hl, hm, by simpa using hz, hcell, hwz⟩⟩
  clear hA0 hval0
  refine (walk a0 len0 cap0 z0 a1 len1 cap1 z1 W w0 w1).mono fun e W' ⟨he, bel⟩ => ?_
  subst he
  exact ⟨_, rfl, _, _, _, [], _, [], hW', trodAll_mk1 (shut_bool Try.underlying4 _), (trodAll_cons_mk (Below.trod laidOut (by kernel_rfl) (of_decide_eq_true (by kernel_rfl)) k0 bel lt0) (trodAll_cons_mk (Below.trod laidOut (by kernel_rfl) (of_decide_eq_true (by kernel_rfl)) k1 bel lt1) trodAll_mk0)), rfl, bel.frame _, fun h => by cases h⟩

theorem over : Rows.fnTextsRow.holds Try.pinned (OpenSpec.ofChange Rows.fnTextsSpec) :=
  OpenClaim.holds_of_wide 4 Try.f4 rfl rfl rfl rfl rfl rfl rfl ⟨rfl, rfl, rfl, rfl, rfl⟩ rfl rfl rfl rfl rfl (by kernel_rfl) Try.func4 (by kernel_rfl)
    (of_decide_eq_true (by kernel_rfl)) (by unfold Func.isWrapper; first | (rw [if_pos (by decide +kernel)]; kernel_rfl) | (rw [if_neg (by decide +kernel)]; exact ⟨rfl, rfl⟩))
    (fun os started H enc _ => lifted os started H enc)

end Go.Proofs.Ytfichaafmfmliaa.fnTexts
namespace Go.Proofs.Ytfichaafmfmliaa
theorem fnTexts_holds : Rows.FnTextsSaid := fnTexts.over
#print axioms fnTexts_holds
end Go.Proofs.Ytfichaafmfmliaa
