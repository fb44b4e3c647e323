/-
  The contracts of TypeShown of the model and of the program: each tells what shT tells, at every type; the law's helpers on types.
-/
import Derived.Test.YtcfihaoofiagcaaDoorDec
import Derived.Test.YtcfihaoofiagcaaDoorLib
import Derived.Test.YtcfihaoofiagcaaDoorRep
import Derived.Lib.LaidTab
namespace Go.Proofs.YtcfihaoofiagcaaDoor
open Go.RowKit
set_option linter.unusedVariables false

def typeR : Rep (Int × ByteArray × Int) := Rep.int.pair (Rep.str.pair Rep.int)
theorem i64wT {n : Int} (h : (Lit.int .i64 n).wf = true) : -9223372036854775808 ≤ n ∧ n ≤ 9223372036854775807 := by
  unfold Lit.wf at h
  simp only [Bool.and_eq_true, decide_eq_true_eq] at h
  exact h
section
variable {H : Type} {enc : TypeId × Value → H} {base : Nat} {spare : Nat → Bool} {held : Bool}
theorem opensType : Opens Tryd.prog enc base spare held typeR 45 :=
  opens_struct3 (R0 := Rep.int) (R1 := Rep.str) (R2 := Rep.int) Tryd.underlying45 ⟨rfl, rfl, rfl⟩ ⟨by kernel_rfl, by kernel_rfl, by kernel_rfl⟩ (by kernel_rfl)
    (opens_int Tryd.underlying2) (opens_str Tryd.underlying9) (opens_int Tryd.underlying2)
end
theorem below_gr {w w' : World} (h : ∃ k os, w' = Sort.grow (w.drewN k) os) : Below w.heap.size w w' := by
  obtain ⟨k, os, rfl⟩ := h
  refine ⟨rfl, rfl, rfl, ?_, fun b hb => ?_⟩
  · show w.heap.size ≤ (w.heap ++ os).size
    simp
  · show (w.heap ++ os)[b]? = w.heap[b]?
    exact Array.getElem?_append_left hb
theorem tabBelow {P : Program} {w w' : World} {name : String} {k : IntKind} {zs : List Int} (h : Lib.TabIs P w name k zs) (hv : w'.var? P name = w.var? P name) : Lib.TabIs P w' name k zs := by
  unfold Lib.TabIs at h ⊢
  rw [hv]
  exact h
/-- What TypeShown tells. -/
def shT (k : Int) (c : ByteArray) (a : Int) : ByteArray := if k = 0 then ⟨#[116, 111, 112]⟩ else if k = 1 then ⟨#[105, 110, 116]⟩ else if k = 2 then ⟨#[110, 117, 108, 108]⟩ else if k = 3 then c else if k = 4 then ⟨#[105, 110, 116, 91, 93]⟩
  else if k = 5 then c ++ ⟨#[91, 93]⟩ else if k = 6 then (⟨#[110, 101, 119]⟩ : ByteArray) ++ c ++ ⟨#[64]⟩ ++ ⟨(Lib.itoa a).toArray⟩ else if k = 7 then ⟨#[116, 104, 105, 115]⟩ else ⟨#[]⟩
theorem itoa_len (a : Int) (h0 : -9223372036854775808 ≤ a) (h1 : a ≤ 9223372036854775807) : (Lib.itoa a).length ≤ 21 := by
  have h2 := dec_len 19 a.natAbs (by omega)
  by_cases hn : a < 0
  · rw [itoa_neg hn]; simp; omega
  · rw [itoa_pos hn]; omega
theorem lawSzType (k a : Int) (c : ByteArray) (left : Int) (w : World) (hc : c.size ≤ maxLen) (hl : 0 ≤ left ∧ left ≤ 1048576) :
    Calls Tryd.prog 16 #[.agg #[.int .i64 k, .string c, .int .i64 a], .int .i64 left] w fun e w' => e = .returned (.int .i64 (if left - (c.size : Int) < 0 then -1 else left - (c.size : Int))) ∧ Below w.heap.size w w' := by
  unfold maxLen at hc
  by_cases h : left - (c.size : Int) < 0
  · rw [if_pos h]
    have d0 : decide (left - (c.size : Int) < 0) = true := by simpa using h
    go_enter Tryd.func16, Tryd.ntmps16
    go_wp2
    go_ret
    exact ⟨rfl, below_al _ _⟩
  · rw [if_neg h]
    have d0 : decide (left - (c.size : Int) < 0) = false := by simpa using h
    go_enter Tryd.func16, Tryd.ntmps16
    go_wp2
    go_ret
    exact ⟨rfl, below_al _ _⟩
theorem lawToType (k a : Int) (c : ByteArray) (w : World) :
    Calls Tryd.prog 18 #[.agg #[.int .i64 k, .string c, .int .i64 a]] w fun e w' => e = .returned (.agg #[.int .i64 k, .string c, .int .i64 a]) ∧ Below w.heap.size w w' := by
  go_enter Tryd.func18, Tryd.ntmps18
  go_wp2
  refine bodyPost_ret (v := .agg #[.int .i64 k, .string c, .int .i64 a]) (by simp [results, Tryd.results18, go_sem]) rfl ⟨rfl, ?_⟩
  exact ((((Below.refl _ _).alloc (Nat.le_refl _) _).alloc (by simp) _).alloc (by simp; omega) _)
set_option maxHeartbeats 2000000 in
theorem specTypeShown (k a : Int) (c : ByteArray) (w : World) (hc : c.size ≤ 1048576) (h0 : -9223372036854775808 ≤ a) (h1 : a ≤ 9223372036854775807) :
    Calls Tryd.prog 10 #[.agg #[.int .i64 k, .string c, .int .i64 a]] w fun e w' => e = .returned (.string (shT k c a)) ∧ Below w.heap.size w w' := by
  by_cases k0 : k = 0
  · subst k0
    go_enter Tryd.func10, Tryd.ntmps10
    go_wp2
    go_ret
    exact ⟨rfl, below_al _ _⟩
  by_cases k1 : k = 1
  · subst k1
    go_enter Tryd.func10, Tryd.ntmps10
    go_wp2
    go_ret
    exact ⟨rfl, below_al _ _⟩
  by_cases k2 : k = 2
  · subst k2
    go_enter Tryd.func10, Tryd.ntmps10
    go_wp2
    go_ret
    exact ⟨rfl, below_al _ _⟩
  by_cases k3 : k = 3
  · subst k3
    go_enter Tryd.func10, Tryd.ntmps10
    go_wp2
    go_ret
    exact ⟨rfl, below_al _ _⟩
  by_cases k4 : k = 4
  · subst k4
    go_enter Tryd.func10, Tryd.ntmps10
    go_wp2
    go_ret
    exact ⟨rfl, below_al _ _⟩
  by_cases k5 : k = 5
  · subst k5
    go_enter Tryd.func10, Tryd.ntmps10
    go_wp2
    go_ret
    exact ⟨rfl, below_al _ _⟩
  by_cases k6 : k = 6
  · subst k6
    have hlen := itoa_len a h0 h1
    have HD : Hid (∀ w1, Below w.heap.size w w1 → Calls Tryd.prog 17 #[.int .i64 a] w1 fun e w2 => e = .returned (.string ⟨(Lib.itoa a).toArray⟩) ∧ Below w1.heap.size w1 w2) := fun w1 hb => specDec a w1 h0 h1
    have HT : Hid (shT 6 c a = (⟨#[110, 101, 119]⟩ : ByteArray) ++ c ++ ⟨#[64]⟩ ++ ⟨(Lib.itoa a).toArray⟩) := rfl
    generalize shT 6 c a = res at *
    generalize Lib.itoa a = t at *
    go_enter Tryd.func10, Tryd.ntmps10
    go_wp2_with fail
    have HW : Hid (Below w.heap.size w (w.alloc (.cells #[.int .i64 6, .string c, .int .i64 a] 36))) := below_al _ _
    have c1 : (w.alloc (.cells #[.int .i64 6, .string c, .int .i64 a] 36)).cell? ⟨w.heap.size, 1, none⟩ = some (.string c) := by simp [go_sem]
    have c2 : (w.alloc (.cells #[.int .i64 6, .string c, .int .i64 a] 36)).cell? ⟨w.heap.size, 2, none⟩ = some (.int .i64 a) := by simp [go_sem]
    have hz : w.heap.size < (w.alloc (.cells #[.int .i64 6, .string c, .int .i64 a] 36)).heap.size := by simp
    generalize w.alloc (.cells #[.int .i64 6, .string c, .int .i64 a] 36) = W at *
    go_region_with (go_at_call 17; refine (HD.out _ (by first | exact HW.out | exact HW.out.drew | exact below_drewN HW.out _)).mono ?_; rintro e w2 ⟨rfl, hb2⟩; have e1 : w2.cell? ⟨w.heap.size, 1, none⟩ = some (.string c) := carry hb2 hz c1; have HB2 : Hid (Below w.heap.size w w2) := HW.out.trans (((Below.refl _ _).drew.trans hb2).mono HW.out.size); clear hb2)
    all_goals
      go_wp2
      go_ret
      exact ⟨congrArg (fun b => Ending.returned (Value.string b)) HT.out.symm, HB2.out⟩
  by_cases k7 : k = 7
  · subst k7
    go_enter Tryd.func10, Tryd.ntmps10
    go_wp2
    go_ret
    exact ⟨rfl, below_al _ _⟩
  have d : ∀ i : Int, k ≠ i → (k == i) = false := fun i h => by simpa using h
  have d0 := d 0 k0
  have d1 := d 1 k1
  have d2 := d 2 k2
  have d3 := d 3 k3
  have d4 := d 4 k4
  have d5 := d 5 k5
  have d6 := d 6 k6
  have d7 := d 7 k7
  have HT : Hid (shT k c a = ⟨#[]⟩) := by
    show _ = _
    unfold shT
    rw [if_neg k0, if_neg k1, if_neg k2, if_neg k3, if_neg k4, if_neg k5, if_neg k6, if_neg k7]
  clear d k0 k1 k2 k3 k4 k5 k6 k7
  generalize shT k c a = res at *
  go_enter Tryd.func10, Tryd.ntmps10
  go_wp2
  go_ret
  exact ⟨congrArg (fun b => Ending.returned (Value.string b)) HT.out.symm, below_al _ _⟩
set_option maxHeartbeats 2000000 in
theorem implTypeShown (k a : Int) (c : ByteArray) (w : World) (hc : c.size ≤ 1048576) (h0 : -9223372036854775808 ≤ a) (h1 : a ≤ 9223372036854775807)
    (ht : ∀ w', Below w.heap.size w w' → Lib.TabIs Tryd.prog w' "internal/strconv.uint64pow10" .u64 Lib.pow10Tab) :
    Calls Tryd.prog 20 #[.agg #[.int .i64 k, .string c, .int .i64 a]] w fun e w' => e = .returned (.string (shT k c a)) ∧ Below w.heap.size w w' := by
  by_cases k0 : k = 0
  · subst k0
    go_enter Tryd.func20, Tryd.ntmps20
    go_wp2
    go_ret
    exact ⟨rfl, below_al _ _⟩
  by_cases k1 : k = 1
  · subst k1
    go_enter Tryd.func20, Tryd.ntmps20
    go_wp2
    go_ret
    exact ⟨rfl, below_al _ _⟩
  by_cases k2 : k = 2
  · subst k2
    go_enter Tryd.func20, Tryd.ntmps20
    go_wp2
    go_ret
    exact ⟨rfl, below_al _ _⟩
  by_cases k3 : k = 3
  · subst k3
    go_enter Tryd.func20, Tryd.ntmps20
    go_wp2_with fail
    refine (libClone _ _ (by omega)).mono ?_
    rintro e w1 ⟨rfl, hb1⟩
    have HB1 : Hid (Below w.heap.size w w1) := (below_al _ _).trans (hb1.mono (by simp))
    clear hb1
    go_wp2
    go_ret
    exact ⟨rfl, HB1.out⟩
  by_cases k4 : k = 4
  · subst k4
    go_enter Tryd.func20, Tryd.ntmps20
    go_wp2
    go_ret
    exact ⟨rfl, below_al _ _⟩
  by_cases k5 : k = 5
  · subst k5
    go_enter Tryd.func20, Tryd.ntmps20
    go_wp2
    go_ret
    exact ⟨rfl, below_al _ _⟩
  by_cases k6 : k = 6
  · subst k6
    have hlen := itoa_len a h0 h1
    have HD : Hid (∀ w1, Below w.heap.size w w1 → Calls Tryd.prog 26 #[.int .i64 a, .int .i64 10] w1 fun e w2 => e = .returned (.string ⟨(Lib.itoa a).toArray⟩) ∧ Below w1.heap.size w1 w2) := fun w1 hb => (Tryd.strconv_FormatInt_10 a h0 h1 w1 (ht w1 hb)).mono fun e w2 h => ⟨h.1, below_gr h.2⟩
    have HT : Hid (shT 6 c a = (⟨#[110, 101, 119]⟩ : ByteArray) ++ c ++ ⟨#[64]⟩ ++ ⟨(Lib.itoa a).toArray⟩) := rfl
    generalize shT 6 c a = res at *
    generalize Lib.itoa a = t at *
    go_enter Tryd.func20, Tryd.ntmps20
    go_wp2_with fail
    have HW : Hid (Below w.heap.size w (w.alloc (.cells #[.int .i64 6, .string c, .int .i64 a] 36))) := below_al _ _
    have c1 : (w.alloc (.cells #[.int .i64 6, .string c, .int .i64 a] 36)).cell? ⟨w.heap.size, 1, none⟩ = some (.string c) := by simp [go_sem]
    have c2 : (w.alloc (.cells #[.int .i64 6, .string c, .int .i64 a] 36)).cell? ⟨w.heap.size, 2, none⟩ = some (.int .i64 a) := by simp [go_sem]
    have hz : w.heap.size < (w.alloc (.cells #[.int .i64 6, .string c, .int .i64 a] 36)).heap.size := by simp
    generalize w.alloc (.cells #[.int .i64 6, .string c, .int .i64 a] 36) = W at *
    go_region_with (go_at_call 26; refine (HD.out _ (by first | exact HW.out | exact HW.out.drew | exact below_drewN HW.out _)).mono ?_; rintro e w2 ⟨rfl, hb2⟩; have e1 : w2.cell? ⟨w.heap.size, 1, none⟩ = some (.string c) := carry hb2 hz c1; have HB2 : Hid (Below w.heap.size w w2) := HW.out.trans (((Below.refl _ _).drew.trans hb2).mono HW.out.size); clear hb2)
    all_goals
      go_wp2
      go_ret
      exact ⟨congrArg (fun b => Ending.returned (Value.string b)) HT.out.symm, HB2.out⟩
  by_cases k7 : k = 7
  · subst k7
    go_enter Tryd.func20, Tryd.ntmps20
    go_wp2
    go_ret
    exact ⟨rfl, below_al _ _⟩
  have d : ∀ i : Int, k ≠ i → (k == i) = false := fun i h => by simpa using h
  have d0 := d 0 k0
  have d1 := d 1 k1
  have d2 := d 2 k2
  have d3 := d 3 k3
  have d4 := d 4 k4
  have d5 := d 5 k5
  have d6 := d 6 k6
  have d7 := d 7 k7
  have HT : Hid (shT k c a = ⟨#[]⟩) := by
    show _ = _
    unfold shT
    rw [if_neg k0, if_neg k1, if_neg k2, if_neg k3, if_neg k4, if_neg k5, if_neg k6, if_neg k7]
  clear d k0 k1 k2 k3 k4 k5 k6 k7
  generalize shT k c a = res at *
  go_enter Tryd.func20, Tryd.ntmps20
  go_wp2
  go_ret
  exact ⟨congrArg (fun b => Ending.returned (Value.string b)) HT.out.symm, below_al _ _⟩
end Go.Proofs.YtcfihaoofiagcaaDoor
