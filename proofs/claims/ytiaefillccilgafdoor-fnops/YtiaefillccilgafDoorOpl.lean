/-
  The ops' names are apart; an instruction that has nothing but its op; what DrawOpName draws.
-/
import Derived.Test.YtiaefillccilgafDoorIns4
import Derived.Test.YtiaefillccilgafDoorSrc
namespace Go.Proofs.YtiaefillccilgafDoor
open Go.RowKit
set_option linter.unusedVariables false

def nmL : List (List UInt8) := [[], [99, 111, 110, 115, 116], [110, 117, 108, 108], [108, 111, 97, 100], [115, 116, 111, 114, 101], [112, 111, 112], [100, 117, 112], [115, 119, 97, 112], [97, 100, 100], [115, 117, 98], [109, 117, 108], [100, 105, 118], [114, 101, 109], [97, 110, 100], [111, 114], [120, 111, 114], [115, 104, 108], [115, 104, 114], [117, 115, 104, 114], [103, 111, 116, 111], [105, 102, 101, 113], [105, 102, 108, 116], [105, 102, 115, 97, 109, 101], [105, 102, 108, 101, 115, 115], [105, 102, 110, 117, 108, 108], [105, 102, 105, 115], [114, 101, 116, 117, 114, 110], [105, 114, 101, 116, 117, 114, 110], [97, 114, 101, 116, 117, 114, 110], [116, 104, 114, 111, 119], [100, 117, 112, 50], [110, 101, 119], [103, 101, 116, 102, 105, 101, 108, 100], [112, 117, 116, 102, 105, 101, 108, 100], [103, 101, 116, 115, 116, 97, 116, 105, 99], [112, 117, 116, 115, 116, 97, 116, 105, 99], [99, 97, 108, 108], [99, 97, 108, 108, 115, 116, 97, 116, 105, 99], [99, 97, 108, 108, 115, 112, 101, 99, 105, 97, 108], [99, 97, 115, 116], [105, 115, 111, 102], [110, 101, 119, 108, 105, 115, 116], [103, 101, 116], [112, 117, 116], [115, 105, 122, 101]]
theorem nmS_list : (List.range 45).map (fun i : Nat => (nmS (i : Int)).data.toList) = nmL := by decide +kernel
theorem nmL_nodup : nmL.Nodup := by decide +kernel

theorem nmS_at (i : Nat) (hi : i < 45) : nmL[i]? = some (nmS (i : Int)).data.toList := by
  rw [← nmS_list, List.getElem?_map, List.getElem?_range hi]; rfl

theorem nmS_ne (i j : Nat) (hi : i < 45) (hj : j < 45) (h : i ≠ j) : ((nmS (i : Int)).toList == (nmS (j : Int)).toList) = false := by
  rw [ByteArray.toList_eq, ByteArray.toList_eq, beq_eq_false_iff_ne]
  intro e
  have h1 := nmS_at i hi
  have h2 := nmS_at j hj
  rw [e, ← h2] at h1
  have hl : nmL.length = 45 := by decide
  exact h ((List.getElem?_inj (by omega) nmL_nodup).1 h1)

theorem nmS_some (i : Nat) (hi : 1 ≤ i ∧ i < 45) : (nmS (i : Int)).toList.isEmpty = false := by
  have h := nmS_ne 0 i (by omega) hi.2 (by omega)
  rw [show nmS ((0 : Nat) : Int) = ⟨#[]⟩ by unfold nmS; rw [if_neg (by omega)], beq_eq_false_iff_ne, ByteArray.toList_eq, ByteArray.toList_eq] at h
  rw [ByteArray.toList_eq, List.isEmpty_eq_false_iff]
  exact fun e => h (by rw [e])

theorem nameB_none : nameB ⟨#[]⟩ = false := nameB_size _ (by decide)
theorem tyB_none : tyB ⟨#[]⟩ = false := by unfold tyB; rw [tyE_end ⟨#[]⟩ 0 (by decide)]; rfl
theorem emp_none : (⟨#[]⟩ : ByteArray).toList.isEmpty = true := by rw [ByteArray.toList_eq]; rfl

/-- Does an op's form ask for no name and no desc? -/
def aloneB (f : ByteArray) : Bool := f.toList.isEmpty || ((f.toList == [110]) || ((f.toList == [105]) || (f.toList == [116])))

theorem insOk_alone (op : Int) (h : 1 ≤ op ∧ op < 45) : insOk (fmS op) 0 ⟨#[]⟩ ⟨#[]⟩ ⟨#[]⟩ = aloneB (fmS op) := by
  have hx : fmS op ≠ ⟨#[33]⟩ := by
    obtain ⟨i, rfl⟩ : ∃ i : Nat, op = (i : Int) := ⟨op.toNat, by omega⟩
    have key : ∀ j : Fin 45, 1 ≤ j.val → fmS (j.val : Int) ≠ ⟨#[33]⟩ := by decide +kernel
    exact key ⟨i, by omega⟩ (by simp; omega)
  rcases fmS_cases op with h | h | h | h | h | h | h | h | h
  · rw [h, insOk_e]; unfold empB aloneB; rw [emp_none]; simp only [ByteArray.toList_eq]; rfl
  · rw [h, insOk_n]; unfold empB aloneB; rw [emp_none]; simp only [ByteArray.toList_eq]; rfl
  · rw [h, insOk_i]; unfold empB aloneB; rw [emp_none]; simp only [ByteArray.toList_eq]; rfl
  · rw [h, insOk_t]; unfold empB aloneB; rw [emp_none]; simp only [ByteArray.toList_eq]; rfl
  · rw [h, insOk_c, nameB_none]; unfold aloneB; simp only [ByteArray.toList_eq]; rfl
  · rw [h, insOk_y]; unfold itemB aloneB; rw [tyB_none, emp_none]; simp only [ByteArray.toList_eq]; rfl
  · rw [h, insOk_f, nameB_none]; unfold aloneB; simp only [ByteArray.toList_eq]; rfl
  · rw [h, insOk_m, nameB_none]; unfold aloneB; simp only [ByteArray.toList_eq]; rfl
  · exact absurd h hx

set_option maxHeartbeats 1000000 in
theorem drawOpName (a : Option Addr) (len cap : Nat) (zs : List Int) (w : World) (hr : IsRow .u8 w a len cap zs) (hl : len ≤ 1048576) :
    Calls Tryd.prog 4 #[.slice a len cap] w fun e w' => (∃ r : Int, e = .returned (.int .i64 r) ∧ -1 ≤ r ∧ r ≤ 46) ∧ Below w.heap.size w w' := by
  have HM : Hid (Calls Tryd.prog 9 #[.slice a len cap] w fun e w' => e = .returned (.pointer (some ⟨w.heap.size, 0, none⟩)) ∧ Src w' w.heap.size ∧ Below w.heap.size w w') := srcMake a len cap zs w hr hl
  clear hr hl
  go_enter Tryd.func4, Tryd.ntmps4
  go_wp2_with fail
  refine Calls.mono HM.out ?_
  rintro e w1 ⟨rfl, hs1, hb1⟩
  have HB1 : Hid (Below w.heap.size w w1) := hb1
  have HS1 : Hid (Src w1 w.heap.size) := hs1
  clear hb1 hs1
  go_wp2_with fail
  refine (srcN w.heap.size w1 48 (by omega) (by omega) HS1.out).mono ?_
  rintro e w2 ⟨r, rfl, hr, _, ho⟩
  have HB2 : Hid (Below w.heap.size w w2) := HB1.out.trans ho.below
  clear ho
  go_wp2
  go_ret
  exact ⟨⟨r - 1, rfl, by omega, by omega⟩, HB2.out⟩
end Go.Proofs.YtiaefillccilgafDoor
