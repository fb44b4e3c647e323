/-
  Whatever the text, the law FnExactDescRead returns true: the program's DescRead answers as the model's does, field by field; what it hands back is its own memory, which a later call leaves alone; the argument reads as it did before. The one variable listed is errors.errorType, tied to the program's text by the card.
-/
import Derived.Test.YtdoiphejockfhahDoorRows
import Derived.Test.YtdoiphejockfhahDoorCards
import Derived.Test.YtdoiphejockfhahDoorTie
import Derived.WalkKit
import Derived.ProofKit
import Derived.OpenShut
import Derived.ShutString
import Derived.ChangeOld
import Derived.Below
import Derived.ChangeSame
import Derived.ChangeVars
import Derived.JoinedOf
import Derived.RowKit
import Derived.RowKitTokens
import Derived.LaidLaws
import Derived.LaidHandle
import Derived.Stop.Joined
import Derived.SevenTiedAt
import Derived.Test.YtdoiphejockfhahDoorDMark
namespace Go.Proofs.YtdoiphejockfhahDoor.fnExactDescRead
open Go.ChangeShapes Go.WideShapes Go.ChangeAt Go.RowKit
open Go.ChangeMaps (open_string shut_string)
set_option linter.unusedVariables false

theorem own : ownKnob Tryd.prog.godebug = none := by kernel_rfl
theorem et : Tryd.prog.globalNamed "errors.errorType" = some 0 := by kernel_rfl
theorem rt : (Tryd.prog.cutTypes.find? (·.1 == "internal/reflectlite.rtype")).map (·.2) = some 68 := by kernel_rfl
theorem oneRow : ((List.range 113).filter fun t => Tryd.prog.rowNamed t [101, 114, 114, 111, 114]) = [36] := by kernel_rfl
theorem typesSize : Tryd.prog.types.size = 113 := by kernel_rfl

theorem glob_of_laid {W : World} (h : laidMetH Tryd.prog Rows.fnExactDescReadRow.laid W) : Glob W := by
  have h' : laidMet Tryd.prog [] W ∧ handlesMet Tryd.prog Rows.fnExactDescReadRow.laid W := h
  obtain ⟨name, u, ty, e1, e2, e3, e4, e5⟩ := h'.2 _ (List.mem_singleton.2 rfl)
  have en : name = [101, 114, 114, 111, 114] := (Option.some.inj e1).symm
  subst en
  obtain rfl := Option.some.inj (rt.symm.trans e2)
  have hm : ty ∈ (List.range 113).filter fun t => Tryd.prog.rowNamed t [101, 114, 114, 111, 114] := List.mem_filter.2 ⟨List.mem_range.2 (by rw [← typesSize]; exact e3), e4⟩
  rw [oneRow] at hm
  obtain rfl := List.mem_singleton.1 hm
  have hh : typeHandle Tryd.prog 36 = .pointer (some ⟨1, 36, none⟩) := by kernel_rfl
  rw [hh] at e5
  simpa [Glob] using World.var?_cell et e5 0

noncomputable def laidWorld (os : Os) : World :=
  let w0 := World.holding Tryd.prog os ⟨#[], #[], []⟩
  { w0 with heap := w0.heap.modify 0 fun
      | .cells _ t frozen => .cells #[.iface 68 (.agg #[.pointer (some ⟨1, 36, none⟩)])] t frozen
      | o => o }
theorem laidWorld_met (os : Os) (args : Array Value) : laidMetH Tryd.prog Rows.fnExactDescReadRow.laid ((laidWorld os).forCall (fun _ _ => 0) ⟨#[], args, []⟩).memory :=
  laidMetH_of_parts (laidMet_nil _ _) (by kernel_rfl)

set_option maxHeartbeats 4000000 in
theorem walk (a0 : ByteArray) (w : World) (w0 : a0.size ≤ maxLen) (hg : Glob w) :
    Calls Tryd.prog 3 #[.string a0] w fun e w' => e = .returned (.bool true) ∧ Below w.heap.size w w' := by
  have hm := w0
  unfold maxLen at w0
  have HG : Hid (Glob w) := hg
  clear hg
  by_cases hbig : (1048576 : Int) < a0.size
  · go_enter Tryd.func3, Tryd.ntmps3
    go_wp2
    go_ret
    exact ⟨rfl, Below.refl _ _⟩
  · obtain ⟨h8, hsz⟩ := outD_all a0
    have HSZ : Hid (∀ p ∈ (outD a0).1, p.size ≤ maxLen) := fun p hp => Nat.le_trans (hsz p hp) hm
    clear hsz
    have HS : Hid (∀ w, Calls Tryd.prog 5 #[.string a0] w fun e w' => (∃ a cap, e = .returned (outV (.slice a (outD a0).1.length cap) (outD a0).2.1 (outD a0).2.2.1 (outD a0).2.2.2) ∧ w'.ownsRow w.heap.size 9 1 (.slice a (outD a0).1.length cap) (outD a0).1.length (cellsOfS (outD a0).1)) ∧ Below w.heap.size w w') :=
      fun w => (specDescRead a0 w hm).mono fun e w' ⟨h1, h2⟩ => ⟨dvOut_one h1, h2⟩
    have HP : Hid (∀ w, Glob w → Calls Tryd.prog 6 #[.string a0] w fun e w' => (∃ a cap, e = .returned (outV (.slice a (outD a0).1.length cap) (outD a0).2.1 (outD a0).2.2.1 (outD a0).2.2.2) ∧ w'.ownsRow w.heap.size 9 1 (.slice a (outD a0).1.length cap) (outD a0).1.length (cellsOfS (outD a0).1)) ∧ Below w.heap.size w w') :=
      fun w hg => (implDescRead a0 w hm hg).mono fun e w' ⟨h1, h2⟩ => ⟨dvOut_one h1, h2⟩
    generalize outD a0 = D at *
    obtain ⟨xs, q, A, C⟩ := D
    simp only at HS HP h8 HSZ
    go_enter Tryd.func3, Tryd.ntmps3
    go_wp2_with fail
    refine (HS.out _).mono ?_
    rintro e w1 ⟨⟨a1, c1, rfl, ho1⟩, hb1⟩
    have HB1 : Hid (Below w.heap.size w w1) := hb1
    have HO1 : Hid (w1.ownsRow w.heap.size 9 1 (.slice a1 xs.length c1) xs.length (cellsOfS xs)) := ho1
    clear hb1 ho1
    unfold outV
    go_wp2_with fail
    have HBA : Hid (∀ o, Below w1.heap.size w1 (w1.alloc o)) := fun o => (Below.refl _ _).alloc (Nat.le_refl _) o
    refine (HP.out _ ((HG.out.mono HB1.out).mono (HBA.out _))).mono ?_
    rintro e w2 ⟨⟨a2, c2, rfl, ho2⟩, hb2⟩
    have hz2 : w1.heap.size + 1 ≤ w2.heap.size := by have := hb2.size; simp at this; exact this
    have x0 : w2.cell? ⟨w1.heap.size, 0, none⟩ = some (.slice a1 xs.length c1) := carry hb2 (by simp) (by simp [go_sem])
    have x1 : w2.cell? ⟨w1.heap.size, 1, none⟩ = some (.string q) := carry hb2 (by simp) (by simp [go_sem])
    have x2 : w2.cell? ⟨w1.heap.size, 2, none⟩ = some (.int .i64 A) := carry hb2 (by simp) (by simp [go_sem])
    have x3 : w2.cell? ⟨w1.heap.size, 3, none⟩ = some (.int .i64 C) := carry hb2 (by simp) (by simp [go_sem])
    have hz1 : w.heap.size ≤ w1.heap.size := HB1.out.size
    have HS2 : Hid (Sit w (w2.alloc (.cells #[.slice a2 xs.length c2, .string q, .int .i64 A, .int .i64 C] 26)) w1.heap.size w2.heap.size a1 a2 c1 c2 xs q A C) := by
      have hba : Below w2.heap.size w2 (w2.alloc (.cells #[.slice a2 xs.length c2, .string q, .int .i64 A, .int .i64 C] 26)) := (Below.refl _ _).alloc (Nat.le_refl _) _
      have hb2' : Below w1.heap.size w1 w2 := (HBA.out _).trans (hb2.mono (by simp))
      exact ⟨(HB1.out.trans (hb2'.mono hz1)).trans (hba.mono (by omega)), by simp; omega, by simp, carry hba (by simp; omega) x0, carry hba (by simp; omega) x1, carry hba (by simp; omega) x2, carry hba (by simp; omega) x3, by simp [go_sem], by simp [go_sem], by simp [go_sem], by simp [go_sem], ((owns_strs HO1.out HSZ.out).mono hb2').mono hba⟩
    have HO2 : Hid (w2.ownsRow (w1.heap.size + 1) 9 1 (.slice a2 xs.length c2) xs.length (cellsOfS xs)) := ho2.base_le (by simp)
    have HNE : Hid (∀ g, a2 = some ⟨g, 0, none⟩ → w.heap.size ≤ g ∧ w1.heap.size ≠ g ∧ w2.heap.size ≠ g ∧ ∀ x, a1 = some x → x.block ≠ g) := by
      intro g e
      have h := owns_block HO2.out _ e
      simp only at h
      refine ⟨by omega, by omega, by omega, fun x ex => ?_⟩
      have h' := owns_block HO1.out x ex
      omega
    have HT2 : Hid (∀ o, Strs (w2.alloc o) a2 c2 xs) := fun o => (owns_strs HO2.out HSZ.out).mono ((Below.refl _ _).alloc (Nat.le_refl _) o)
    have HRP : Hid (∃ f, ∀ o, RowP (w2.alloc o) a2 xs.length c2 f) := by
      rcases owns_rowP HO2.out with h0 | ⟨g, f, e, _, hrow, h3⟩
      · exact ⟨fun _ => undef, fun o => .inl h0⟩
      · exact ⟨f, fun o => .inr ⟨g, e, hrow.alloc o, h3⟩⟩
    obtain ⟨f, hrp⟩ := HRP.out
    have HF : Hid (∀ o, RowP (w2.alloc o) a2 xs.length c2 f) := hrp
    clear hrp HRP hb2 ho2
    have z0 : ∀ o, (w2.alloc o).cell? ⟨w1.heap.size, 0, none⟩ = some (.slice a1 xs.length c1) := fun o => carry ((Below.refl _ _).alloc (Nat.le_refl _) o) (show w1.heap.size < w2.heap.size by omega) x0
    have z1 : ∀ o, (w2.alloc o).cell? ⟨w1.heap.size, 1, none⟩ = some (.string q) := fun o => carry ((Below.refl _ _).alloc (Nat.le_refl _) o) (show w1.heap.size < w2.heap.size by omega) x1
    have z2 : ∀ o, (w2.alloc o).cell? ⟨w1.heap.size, 2, none⟩ = some (.int .i64 A) := fun o => carry ((Below.refl _ _).alloc (Nat.le_refl _) o) (show w1.heap.size < w2.heap.size by omega) x2
    have z3 : ∀ o, (w2.alloc o).cell? ⟨w1.heap.size, 3, none⟩ = some (.int .i64 C) := fun o => carry ((Below.refl _ _).alloc (Nat.le_refl _) o) (show w1.heap.size < w2.heap.size by omega) x3
    clear x0 x1 x2 x3
    unfold outV
    go_wp2_with fail
    refine (lawEqOut a2 a1 c2 c1 xs q A C _ (HT2.out _) HS2.out.s1).mono ?_
    rintro e w3 ⟨rfl, hb3⟩
    have HS3 : Hid (Sit w w3 w1.heap.size w2.heap.size a1 a2 c1 c2 xs q A C) := HS2.out.mono hb3
    have HF3 : Hid (RowP w3 a2 xs.length c2 f) := (HF.out _).mono hb3
    obtain ⟨_, _, _, x0, x1, x2, x3, y0, y1, y2, y3, _⟩ := HS3.out
    clear hb3 HF HT2 HS2 z0 z1 z2 z3
    have hmk := lawMarkOut a2 xs.length c2 1 q A C f w3 HF3.out (Nat.le_refl _) (by omega)
    have HMK : Hid (Calls Tryd.prog 8 #[outV (.slice a2 xs.length c2) q A C, .int .i64 1] w3 fun e w' => e = .returned (.int .i64 (1 + (xs.length : Int))) ∧ Marked w3 w' a2 xs.length c2 1 f) := hmk
    clear hmk
    go_wp2_with fail
    refine HMK.out.mono ?_
    rintro e w4 ⟨rfl, hm4⟩
    have HS4 : Hid (Sit w w4 w1.heap.size w2.heap.size a1 a2 c1 c2 xs q A C) := HS3.out.mark hm4 HNE.out
    have HF4 : Hid (RowP w4 a2 xs.length c2 (mkF 1 xs.length f)) := hm4.row
    clear hm4 HS3 HF3 HMK x0 x1 x2 x3 y0 y1 y2 y3
    obtain ⟨_, _, _, x0, x1, x2, x3, y0, y1, y2, y3, _⟩ := HS4.out
    have hhd := lawHeldOut a2 xs.length c2 1 q A C f
    have HHD : Hid (∀ w, RowP w a2 xs.length c2 (mkF 1 xs.length f) → 1 ≤ 1 → 1 + xs.length ≤ 1000 → Calls Tryd.prog 9 #[outV (.slice a2 xs.length c2) q A C, .int .i64 1] w fun e w' => e = .returned (.int .i64 (1 + (xs.length : Int))) ∧ Below w.heap.size w w') := hhd
    clear hhd
    go_wp2_with fail
    refine (HHD.out w4 HF4.out (Nat.le_refl _) (by omega)).mono ?_
    rintro e w5 ⟨rfl, hb5⟩
    have HS5 : Hid (Sit w w5 w1.heap.size w2.heap.size a1 a2 c1 c2 xs q A C) := HS4.out.mono hb5
    have HF5 : Hid (RowP w5 a2 xs.length c2 (mkF 1 xs.length f)) := HF4.out.mono hb5
    clear hb5 HS4 HF4 x0 x1 x2 x3 y0 y1 y2 y3
    have t1 : decide (1 + (xs.length : Int) < 0) = false := by simp; omega
    have t2 : ((1 + (xs.length : Int)) == (1 + (xs.length : Int))) = true := by simp
    have t3 : ((1 + (xs.length : Int)) != (1 + (xs.length : Int))) = false := by simp
    go_wp2_with fail
    refine (HP.out _ (HG.out.mono HS5.out.b)).mono ?_
    rintro e w6 ⟨⟨a6, c6, rfl, ho6⟩, hb6⟩
    have HS6 : Hid (∀ o, Sit w (w6.alloc o) w1.heap.size w2.heap.size a1 a2 c1 c2 xs q A C) := fun o => (HS5.out.mono hb6).mono ((Below.refl _ _).alloc (Nat.le_refl _) o)
    have HF6 : Hid (∀ o, RowP (w6.alloc o) a2 xs.length c2 (mkF 1 xs.length f)) := fun o => (HF5.out.mono hb6).mono ((Below.refl _ _).alloc (Nat.le_refl _) o)
    have HT6 : Hid (∀ o, Strs (w6.alloc o) a6 c6 xs) := fun o => (owns_strs ho6 HSZ.out).mono ((Below.refl _ _).alloc (Nat.le_refl _) o)
    have z0 := fun o => (HS6.out o).x0
    have z1 := fun o => (HS6.out o).x1
    have z2 := fun o => (HS6.out o).x2
    have z3 := fun o => (HS6.out o).x3
    clear hb6 ho6 HS5 HF5
    unfold outV
    go_wp2_with fail
    refine (lawEqOut a6 a1 c6 c1 xs q A C _ (HT6.out _) (HS6.out _).s1).mono ?_
    rintro e w7 ⟨rfl, hb7⟩
    have HS7 : Hid (Sit w w7 w1.heap.size w2.heap.size a1 a2 c1 c2 xs q A C) := (HS6.out _).mono hb7
    have HF7 : Hid (RowP w7 a2 xs.length c2 (mkF 1 xs.length f)) := (HF6.out _).mono hb7
    clear hb7 HS6 HF6 HT6 z0 z1 z2 z3
    obtain ⟨_, _, _, x0, x1, x2, x3, y0, y1, y2, y3, _⟩ := HS7.out
    go_wp2_with fail
    refine (HHD.out w7 HF7.out (Nat.le_refl _) (by omega)).mono ?_
    rintro e w8 ⟨rfl, hb8⟩
    have HB8 : Hid (Below w.heap.size w w8) := HS7.out.b.trans (hb8.mono HS7.out.b.size)
    clear hb8 HS7 HF7 x0 x1 x2 x3 y0 y1 y2 y3
    go_wp2
    go_ret
    exact ⟨rfl, HB8.out⟩

set_option maxRecDepth 100000 in
theorem lifted (os : Os) (started : os.Started) (H : Type) (enc : TypeId × Value → H) :
    ReturnsInHanded {} Tryd.checked os 3 .any (fun w args => (Rows.fnExactDescReadSpec.pre enc Tryd.prog Tryd.f3 [] false w args ∧ laidMetH Tryd.prog Rows.fnExactDescReadRow.laid w) ∧ sizedMet enc Tryd.prog Tryd.f3 (OpenSpec.ofChange Rows.fnExactDescReadSpec) false w args)
      (Rows.fnExactDescReadSpec.post enc Tryd.prog Tryd.f3 false true false false) := by
  refine returnsInHanded_of_change_and (C := Tryd.checked) (X := fun w _ => laidMetH Tryd.prog Rows.fnExactDescReadRow.laid w) (fun _ _ _ hh h => h.of_heap hh) own started (by kernel_rfl) Tryd.func3
    (ChangeSpec.witness_at (enc := enc) (C := Tryd.checked) (os := os) (X := fun w _ => laidMetH Tryd.prog Rows.fnExactDescReadRow.laid w) false (laidWorld os) #[.string ⟨#[]⟩] 8 rfl (by kernel_rfl) (by kernel_rfl) (by kernel_rfl) (by kernel_rfl) (by kernel_rfl) (laidWorld_met os _)) ?_
  intro W base args ds gs before hval0 hW _ _ hL _
  have hval : ∀ (j : Nat) t v, Tryd.f3.params[j]? = some t → args[j]? = some v → Value.okWide Tryd.prog W .any base t v := hval0
  have hW' := hW
  obtain ⟨p, q, hA0, hV, rfl, hfz, hnd⟩ := hW
  have hA : DataW.TrodAll enc Tryd.prog W 0 (fun _ => true) true Tryd.f3.params.toList args.toList ds p := hA0
  rw [Tryd.params3] at hA hval
  obtain ⟨v0, vs0, d0, ds0, p0, q0, hargs, rfl, rfl, h0, r0⟩ := trodAll_cons hA
  obtain ⟨rfl, rfl, rfl⟩ := trodAll_nil r0
  obtain rfl : args = #[v0] := by cases args; simp_all
  obtain ⟨rfl, rfl⟩ := trodVars_none hV
  have hglob := glob_of_laid hL
  obtain ⟨a0, rfl, rfl, rfl, w0⟩ := open_string Tryd.underlying9 (hval 0 9 v0 rfl rfl) h0
  clear hA0 hval0
  refine (walk a0 W w0 hglob).mono fun e W' ⟨he, bel⟩ => ?_
  subst he
  exact ⟨_, rfl, _, _, _, [], _, [], hW', trodAll_mk1 (shut_bool Tryd.underlying4 _), (trodAll_cons_mk (shut_string Tryd.underlying9 w0) trodAll_mk0), rfl, bel.frame _, fun h => by cases h⟩

theorem over : Rows.fnExactDescReadRow.holds Tryd.pinned (OpenSpec.ofChange Rows.fnExactDescReadSpec) :=
  OpenClaim.holds_of_wide 3 Tryd.f3 rfl rfl rfl rfl rfl rfl rfl ⟨rfl, rfl, rfl, rfl, rfl⟩ rfl rfl rfl rfl rfl (by kernel_rfl) Tryd.func3 (by kernel_rfl)
    (of_decide_eq_true (by kernel_rfl)) (by unfold Func.isWrapper; first | (rw [if_pos (by decide +kernel)]; kernel_rfl) | (rw [if_neg (by decide +kernel)]; exact ⟨rfl, rfl⟩))
    (fun os started H enc _ => lifted os started H enc)

end Go.Proofs.YtdoiphejockfhahDoor.fnExactDescRead
namespace Go.Proofs.YtdoiphejockfhahDoor
theorem fnExactDescRead_holds : Rows.FnExactDescReadCardSaid :=
  Claim7.holds_tied_plain_at .later [] [.handle] true (true, "7592ea301bf1d64cbdd9cfd2320ebe6291f4e1df2f1647e57cf53eb65f7493ec") true
    fnExactDescRead.over (fun _ h => by cases h) (by kernel_rfl) (fun _ h => by cases h) fnExactDescRead_row_tie rfl ⟨rfl, rfl⟩ (by kernel_rfl) rfl
    (fun f fn hf hfn => by
      obtain rfl : f = 3 := Option.some.inj ((show Tryd.prog.funcNamed "loop.example/g00175/laws.FnExactDescRead" = some 3 by kernel_rfl).symm.trans hf) |>.symm
      obtain rfl : fn = Tryd.f3 := (Option.some.inj (Tryd.func3.symm.trans hfn)).symm
      exact ⟨by kernel_rfl, fun j t ht => by
        rw [Tryd.params3] at ht
        have h3 : t = 9 := by
          rcases j with _ | j
          · simpa using ht.symm
          · simp at ht
        subst h3
        exact (show Tryd.prog.wantsStandIn 9 = false by kernel_rfl)⟩)
    (by kernel_rfl)
#print axioms fnExactDescRead_holds
end Go.Proofs.YtdoiphejockfhahDoor
