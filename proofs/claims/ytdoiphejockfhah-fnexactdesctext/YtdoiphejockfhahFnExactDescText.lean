/-
  Whatever the Desc, the law FnExactDescText returns true: the program's DescText answers as the model's does, and writes into no argument; the argument reads as it did before. No condition.
-/
import Derived.Test.YtdoiphejockfhahRows
import Derived.WalkKit
import Derived.ProofKit
import Derived.OpenShut
import Derived.ShutString
import Derived.ChangeOld
import Derived.Below
import Derived.Lib.SmallJoins
import Derived.Test.YtdoiphejockfhahDText
import Derived.Deep.RegionWith
namespace Go.Proofs.Ytdoiphejockfhah.fnExactDescText
open Go.ChangeShapes Go.WideShapes Go.ChangeAt Go.RowKit
open Go.ChangeMaps (open_string shut_string)
set_option linter.unusedVariables false

theorem own : ownKnob Try.prog.godebug = none := by kernel_rfl
theorem laidOut : laidOutB Try.prog = true := by kernel_rfl

theorem szD_small (xs : List ByteArray) (r : ByteArray) (h : ¬ szD xs r 1048576 < 0) : xs.length ≤ 1048576 := by
  unfold szD totS at h
  split at h
  · omega
  · omega

set_option maxHeartbeats 2000000 in
theorem walk (a : Option Addr) (cap : Nat) (xs : List ByteArray) (r : ByteArray) (w : World) (h : Strs w a cap xs) (hr : r.size ≤ maxLen) :
    Calls Try.prog 4 #[descV a xs.length cap r] w fun e w' => e = .returned (.bool true) ∧ Below w.heap.size w w' := by
  have HS : Hid (Strs w a cap xs) := h
  clear h
  have HB0 : Hid (∀ o, Below w.heap.size w (w.alloc o)) := fun o => (Below.refl _ _).alloc (Nat.le_refl _) o
  have hsm := szD_small xs r
  have HSM : Hid (¬ szD xs r 1048576 < 0 → xs.length ≤ 1048576) := hsm
  clear hsm
  obtain ⟨q, hq⟩ : ∃ q, dtS xs r = q := ⟨_, rfl⟩
  have HQ : Hid (dtS xs r = q) := hq
  clear hq
  by_cases hn : szD xs r 1048576 < 0
  · have d0 : decide (szD xs r 1048576 < 0) = true := by simpa using hn
    unfold descV
    go_enter Try.func4, Try.ntmps4
    go_wp2_with fail
    refine (lawSzDesc a cap xs r 1048576 _ (HS.out.mono (HB0.out _)) hr (by omega)).mono ?_
    rintro e w1 ⟨rfl, hb1⟩
    have HB1 : Hid (Below w.heap.size w w1) := (HB0.out _).trans (hb1.mono (by simp))
    clear hb1
    generalize szD xs r 1048576 = k at *
    go_wp2
    go_ret
    exact ⟨rfl, HB1.out⟩
  · have d0 : decide (szD xs r 1048576 < 0) = false := by simpa using hn
    have hxl := HSM.out hn
    clear HSM
    unfold descV
    go_enter Try.func4, Try.ntmps4
    go_wp2_with fail
    refine (lawSzDesc a cap xs r 1048576 _ (HS.out.mono (HB0.out _)) hr (by omega)).mono ?_
    rintro e w1 ⟨rfl, hb1⟩
    have HB1 : Hid (Below w.heap.size w w1) := (HB0.out _).trans (hb1.mono (by simp))
    have HX1 : Hid (Below (w.heap.size + 1) (w.alloc (.cells #[.slice a xs.length cap, .string r] 24)) w1) := hb1.mono (by simp)
    have c0 : w1.cell? ⟨w.heap.size, 0, none⟩ = some (.slice a xs.length cap) := (hb1.cell (p := ⟨w.heap.size, 0, none⟩) (by simp)).trans (by simp [go_sem])
    have c1 : w1.cell? ⟨w.heap.size, 1, none⟩ = some (.string r) := (hb1.cell (p := ⟨w.heap.size, 1, none⟩) (by simp)).trans (by simp [go_sem])
    have hz1 : w.heap.size < w1.heap.size := by have := hb1.size; simp at this; omega
    clear hb1
    generalize szD xs r 1048576 = k at *
    go_wp2_with fail
    refine (lawToDesc a cap xs r _ (HS.out.mono HB1.out) hxl).mono ?_
    rintro e w2 ⟨b2, hlb2, rfl, hb2, hrow2⟩
    have HT2 : Hid (Strs w2 (some ⟨b2, 0, none⟩) xs.length xs) := Strs.of_row hrow2 (Nat.le_refl _) (by unfold maxLen; omega) HS.out.size
    have HB2 : Hid (Below w.heap.size w w2) := HB1.out.trans (hb2.mono (by omega))
    replace c0 := carry hb2 hz1 c0
    replace c1 := carry hb2 hz1 c1
    have hz2 : w.heap.size < w2.heap.size := Nat.lt_of_lt_of_le hz1 hb2.size
    clear hb2 hrow2
    go_wp2_with fail
    refine (specDescText (some ⟨b2, 0, none⟩) xs.length xs r _ HT2.out hr).mono ?_
    rintro e w3 ⟨rfl, hb3⟩
    have HB3 : Hid (Below w.heap.size w w3) := HB2.out.trans (hb3.mono (by omega))
    replace c0 := carry hb3 hz2 c0
    replace c1 := carry hb3 hz2 c1
    have hz3 : w.heap.size < w3.heap.size := Nat.lt_of_lt_of_le hz2 hb3.size
    clear hb3
    rw [HQ.out]
    go_wp2_with fail
    refine (lawToDesc a cap xs r _ (HS.out.mono HB3.out) hxl).mono ?_
    rintro e w4 ⟨b4, hlb4, rfl, hb4, hrow4⟩
    have HB4 : Hid (Below w.heap.size w w4) := HB3.out.trans (hb4.mono (by omega))
    replace c0 := carry hb4 hz3 c0
    replace c1 := carry hb4 hz3 c1
    have hz4 : w.heap.size < w4.heap.size := Nat.lt_of_lt_of_le hz3 hb4.size
    have HT4 : Hid (∀ o, Strs (w4.alloc o) (some ⟨b4, 0, none⟩) xs.length xs) := fun o => Strs.of_row (hrow4.alloc o) (Nat.le_refl _) (by unfold maxLen; omega) HS.out.size
    have HB4' : Hid (∀ o, Below w.heap.size w (w4.alloc o)) := fun o => HB4.out.alloc (by omega) o
    clear hb4 hrow4
    unfold descV
    go_wp2_with fail
    refine (implDescText (some ⟨b4, 0, none⟩) xs.length xs r _ (HT4.out _) (.inr ⟨_, _, rfl⟩) hr).mono ?_
    rintro e w6 ⟨rfl, hb6⟩
    rw [HQ.out]
    have HB6 : Hid (Below w.heap.size w w6) := (HB4'.out _).trans (hb6.mono (by simp; omega))
    replace c0 : w6.cell? ⟨w.heap.size, 0, none⟩ = some (.slice a xs.length cap) := carry hb6 (by simp; omega) ((carry ((Below.refl w4.heap.size w4).alloc (Nat.le_refl _) _) hz4 c0))
    replace c1 : w6.cell? ⟨w.heap.size, 1, none⟩ = some (.string r) := carry hb6 (by simp; omega) ((carry ((Below.refl w4.heap.size w4).alloc (Nat.le_refl _) _) hz4 c1))
    have x0 : w6.cell? ⟨w4.heap.size, 0, none⟩ = some (.slice (some ⟨b4, 0, none⟩) xs.length xs.length) := carry hb6 (by simp) (by simp [go_sem])
    have x1 : w6.cell? ⟨w4.heap.size, 1, none⟩ = some (.string r) := carry hb6 (by simp) (by simp [go_sem])
    have hz6 : w.heap.size < w6.heap.size := by have := hb6.size; simp at this; omega
    have hz6' : w4.heap.size < w6.heap.size := by have := hb6.size; simp at this; omega
    have HT6 : Hid (Strs w6 (some ⟨b4, 0, none⟩) xs.length xs) := (HT4.out _).mono hb6
    clear hb6
    have dq : (q.toList == q.toList) = true := by simp
    go_wp2_with fail
    have HX6 : Hid (Strs w6 a cap xs) := HS.out.mono HB6.out
    go_region_with (first
      | (go_at_call 7; refine (lawToDescD a cap xs r w6 HX6.out hxl).mono ?_; rintro e w7 ⟨b7, rfl, hb7, hs7⟩; have y0 := carry hb7 hz6' x0; have y1 := carry hb7 hz6' x1; have HT7 : Hid (Strs w7 (some ⟨b7, 0, none⟩) xs.length xs) := hs7; have HU7 : Hid (Below w6.heap.size w6 w7) := hb7; clear hb7 hs7)
      | (go_at_call 9; refine (lawEqDesc _ _ _ _ xs r _ (HT6.out.mono HU7.out) HT7.out).mono ?_; rintro e w8 ⟨rfl, hb8⟩; have HB8 : Hid (Below w.heap.size w w8) := ((HB6.out.trans (HU7.out.mono (Nat.le_of_lt hz6))).trans (hb8.mono (Nat.le_trans (Nat.le_of_lt hz6) HU7.out.size))); clear hb8))
    all_goals
      go_wp2
      go_ret
      exact ⟨rfl, by first | exact HB8.out | exact HB8.out.drew | exact below_drewN HB8.out _⟩

set_option maxRecDepth 100000 in
theorem lifted (os : Os) (started : os.Started) (H : Type) (enc : TypeId × Value → H) :
    ReturnsInHanded {} Try.checked os 4 .any (Rows.fnExactDescTextSpec.pre6 enc Try.prog Try.f4 Rows.fnExactDescTextRow.domain false) (Rows.fnExactDescTextSpec.post enc Try.prog Try.f4 false true false false) := by
  refine returnsInHanded_of_change (C := Try.checked) own started (by kernel_rfl) Try.func4
    (ChangeSpec.witness6 (enc := enc) (C := Try.checked) false ⟨#[], #[.agg #[.slice none 0 0, .string ⟨#[]⟩]], []⟩ 8 (by kernel_rfl) (by kernel_rfl) (by kernel_rfl) (by kernel_rfl)) ?_
  intro W base args ds gs before hval0 hW hcnd _
  have hval : ∀ (j : Nat) t v, Try.f4.params[j]? = some t → args[j]? = some v → Value.okWide Try.prog W .any base t v := hval0
  have hW' := hW
  obtain ⟨p, q, hA0, hV, rfl, hfz, hnd⟩ := hW
  have hA : DataW.TrodAll enc Try.prog W 0 (fun _ => true) true Try.f4.params.toList args.toList ds p := hA0
  rw [Try.params4] at hA hval
  obtain ⟨v0, vs0, d0, ds0, p0, q0, hargs, rfl, rfl, h0, r0⟩ := trodAll_cons hA
  obtain ⟨rfl, rfl, rfl⟩ := trodAll_nil r0
  obtain rfl : args = #[v0] := by cases args; simp_all
  obtain ⟨rfl, rfl⟩ := trodVars_none hV
  have k0 := h0
  have lt0 : ∀ x ∈ p0, x.block < W.heap.size := by obtain ⟨m, hm⟩ := k0; exact DataW.trod_lt m _ _ _ hm
  obtain ⟨c0a, c0b, y0a, y0b, m0, rfl, rfl, rfl, hy0a, hy0b⟩ := Joins.open_agg2 Try.underlying24 (by kernel_rfl) (by kernel_rfl) (hval 0 24 v0 rfl rfl) h0
  obtain ⟨r0, e0, er0, wr0⟩ := DataW.trod_string Try.underlying9 hy0b
  simp only [List.cons.injEq, and_true] at e0
  obtain ⟨a0, cap0, xs0, ec0, w0⟩ := open_strs Try.underlying22 Try.underlying9 (by kernel_rfl) hy0a
  subst e0 ec0
  clear hA0 hval0
  refine (walk a0 cap0 xs0 r0 W w0 wr0).mono fun e W' ⟨he, bel⟩ => ?_
  subst he
  exact ⟨_, rfl, _, _, _, [], _, [], hW', trodAll_mk1 (shut_bool Try.underlying4 _), (trodAll_cons_mk (Below.trod laidOut (by kernel_rfl) (of_decide_eq_true (by kernel_rfl)) k0 bel lt0) trodAll_mk0), rfl, bel.frame _, fun h => by cases h⟩

theorem over : Rows.fnExactDescTextRow.holds Try.pinned (OpenSpec.ofChange Rows.fnExactDescTextSpec) :=
  OpenClaim.holds_of_wide 4 Try.f4 rfl rfl rfl rfl rfl rfl rfl ⟨rfl, rfl, rfl, rfl, rfl⟩ rfl rfl rfl rfl rfl (by kernel_rfl) Try.func4 (by kernel_rfl)
    (of_decide_eq_true (by kernel_rfl)) (by unfold Func.isWrapper; first | (rw [if_pos (by decide +kernel)]; kernel_rfl) | (rw [if_neg (by decide +kernel)]; exact ⟨rfl, rfl⟩))
    (fun os started H enc _ => lifted os started H enc)

end Go.Proofs.Ytdoiphejockfhah.fnExactDescText
namespace Go.Proofs.Ytdoiphejockfhah
theorem fnExactDescText_holds : Rows.FnExactDescTextSaid := fnExactDescText.over
#print axioms fnExactDescText_holds
end Go.Proofs.Ytdoiphejockfhah
