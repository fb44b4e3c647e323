import Derived.Test.YtnenhhlgabghfaaGreatDoorMkC
import Derived.Test.YtnenhhlgabghfaaGreatDoorCR1
import Derived.Test.YtnenhhlgabghfaaGreatDoorTok
/-
 The model's ClassBytes and ClassSize.
-/
namespace Go.Proofs.YtnenhhlgabghfaaGreatDoor
open Go.RowKit
set_option maxRecDepth 20000
open Go.Lib (strCells)
set_option linter.unusedVariables false

theorem MkS.start {w : World} {t : TypeId} (mb : Nat) (hmb : mb = w.heap.size) : ∃ F, MkS mb (w.alloc (.cells #[.slice none 0 0, .slice none 0 0] t)) ([], []) F := by
 subst hmb
 have hb : (w.alloc (.cells #[.slice none 0 0, .slice none 0 0] t)).heap[w.heap.size]? = some (.cells #[.slice none 0 0, .slice none 0 0] t (0, 0)) := heap_alloc_new w _
 refine ⟨_, .slice none 0 0, .slice none 0 0, ⟨by simp [go_sem], by simp [go_sem], ?_, ?_, World.ownsRow_nil _ _ _ _, World.ownsRow_nil _ _ _ _, by simp⟩, rfl⟩
 ·unfold World.frozen?; rw [hb]; rfl
 ·unfold World.frozen?; rw [hb]; rfl
set_option maxHeartbeats 1000000 in
theorem specMade (m : ClsD) (vc vh : Value) (w : World) (hP : ClsP m) (hc : fieldR.slice.In w [vc] m.fields) (hh : methR.slice.In w [vh] m.meths) :
  Calls Tryz.prog 15 #[clsV m vc vh] w fun e w' => Below w.heap.size w w' ∧ ∃ mb F, e = .returned (.pointer (some ⟨mb, 0, none⟩)) ∧ w.heap.size ≤ mb ∧ MkS mb w' (madeS m) F := by
 have HC : Hid (∀ mb F w1, w.heap.size ≤ mb → Below w.heap.size w w1 → MkS mb w1 ([], []) F → Calls Tryz.prog 31 #[.pointer (some ⟨mb, 0, none⟩), clsV m vc vh] w1 fun e w' => e = .returned (.tuple #[]) ∧ ∃ F', MkS mb w' (tksS ([], []) (clsTok m)) F' ∧ Kept mb F w1 w' F') := fun mb F w1 hm hb h => specMkClass mb m vc vh w w1 F hb hm hc hh hP.fl hP.ml (clsP_lens m hP) h
 have HE : Hid (madeS m = tksS ([], []) (clsTok m)) := rfl
 obtain ⟨a, ca, rfl⟩ := slice_form hc
 obtain ⟨b, cb, rfl⟩ := slice_form hh
 clear hc hh hP
 generalize madeS m = ss at *
 generalize clsTok m = tk at *
 obtain ⟨nm, sup, fi, ab, fs, ms⟩ := m
 unfold clsV at *
 simp only at *
 obtain ⟨F0, hst⟩ := MkS.start (w := w.alloc (.cells #[.string nm, .string sup, .bool fi, .bool ab, .slice a fs.length ca, .slice b ms.length cb] 26)) (t := 55) (w.heap.size + 1) (by simp)
 have HST := (show Hid _ from hst)
 clear hst
 have HB : Hid (∀ o o', Below w.heap.size w ((w.alloc o).alloc o')) := fun o o' => ((Below.refl _ _).alloc (Nat.le_refl _) o).alloc (by simp) o'
 go_enter Tryz.func15, Tryz.ntmps15
 go_wp2_with fail
 refine Calls.mono (HC.out _ F0 _ (by omega) (HB.out _ _) HST.out) ?_
 rintro e w2 ⟨rfl, F2, hm2, hk2⟩
 have HX : Hid (MkS (w.heap.size + 1) w2 ss F2 ∧ Below w.heap.size w w2) := ⟨by rw [HE.out]; exact hm2, (HB.out _ _).trans (hk2.low.mono (by omega))⟩
 clear hm2 hk2
 go_wp2
 go_ret
 exact ⟨HX.out.2, _, F2, rfl, by omega, HX.out.1⟩

end Go.Proofs.YtnenhhlgabghfaaGreatDoor
