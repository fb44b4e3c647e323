import Derived.Test.YtlfmedfclgabdaaGreatDoorLb
/-
 The least type above two of the model: all but two with names.
-/
namespace Go.Proofs.YtlfmedfclgabdaaGreatDoor
open Go.RowKit
set_option maxRecDepth 20000
set_option linter.unusedVariables false
def nmK (k : Int) : Prop := k = 3 ∨ k = 5 ∨ k = 6
set_option maxRecDepth 100000 in
set_option maxHeartbeats 16000000 in
theorem specL06LubA (L : List CTup) (va : Option Addr) (n cap : Nat) (a b : TyD) (w : World) (ha : tkB L a.1 a.2.1 a.2.2 = true) (hb : tkB L b.1 b.2.1 b.2.2 = true) (hn : ¬ (nmK a.1 ∧ nmK b.1)) :
  Calls Tryz.prog 40 #[.slice va n cap, tvL a, tvL b] w fun e w' => e = .returned (tvL (flub L a b)) ∧ Below w.heap.size w w' := by
 obtain ⟨k, c, x⟩ := a
 obtain ⟨l, d, y⟩ := b
 have HB4 : Hid (∀ o1 o2 o3 o4, Below w.heap.size w ((((w.alloc o1).alloc o2).alloc o3).alloc o4)) := fun o1 o2 o3 o4 => (below_al3 w o1 o2 o3).alloc (by simp; omega) o4
 have HB5 : Hid (∀ o1 o2 o3 o4 o5, Below w.heap.size w (((((w.alloc o1).alloc o2).alloc o3).alloc o4).alloc o5)) := fun o1 o2 o3 o4 o5 => (HB4.out o1 o2 o3 o4).alloc (by simp; omega) o5
 have HB6 : Hid (∀ o1 o2 o3 o4 o5 o6, Below w.heap.size w ((((((w.alloc o1).alloc o2).alloc o3).alloc o4).alloc o5).alloc o6)) := fun o1 o2 o3 o4 o5 o6 => (HB5.out o1 o2 o3 o4 o5).alloc (by simp; omega) o6
 unfold nmK at hn
 rcases tk_cases ha with ⟨hk, hc, hx⟩ | ⟨hk, hc, hx⟩ | ⟨hk, hc, hx⟩ <;> rcases tk_cases hb with ⟨hl, hd, hy⟩ | ⟨hl, hd, hy⟩ | ⟨hl, hd, hy⟩
 all_goals clear ha hb
 all_goals simp only at hk hl hc hd hx hy hn
 all_goals first | (rcases hk with rfl | rfl | rfl | rfl | rfl) | (rcases hk with rfl | rfl) | subst hk
 all_goals first | (rcases hl with rfl | rfl | rfl | rfl | rfl) | (rcases hl with rfl | rfl) | subst hl
 all_goals first | (exfalso; apply hn; simp; done) | skip
 all_goals clear hn
 all_goals try subst hx
 all_goals try subst hy
 all_goals try subst hc
 all_goals try subst hd
 all_goals unfold tvL
 all_goals simp only
 all_goals
  unfold tE
  go_enter Tryz.func40, Tryz.ntmps40
  go_wp2
 all_goals exact bodyPost_ret (v := tvL (flub L (_, _, _) (_, _, _))) (by simp [results, Tryz.results40, go_sem, flub, obK, tvL, zT, objN, tE]) rfl ⟨rfl, by first | exact HB4.out _ _ _ _ | exact HB5.out _ _ _ _ _ | exact HB6.out _ _ _ _ _ _⟩
end Go.Proofs.YtlfmedfclgabdaaGreatDoor
