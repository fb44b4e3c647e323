/-
  The contracts of PutText and NameRight of the model and of the program and of what they call: each answers what putT and nameB tell, at every text.
-/
import Derived.Test.YtgmlooemiokhfajGreatDoorPut
import Derived.Test.YtgmlooemiokhfajGreatDoorGet
namespace Go.Proofs.YtgmlooemiokhfajGreatDoor
open Go.RowKit
set_option maxRecDepth 20000

/-- Each byte is 32 to 126. -/
def okB (s : ByteArray) : Bool := s.data.toList.all fun c => decide (32 ≤ c.toNat) && decide (c.toNat ≤ 126)

theorem mem_at (s : ByteArray) (c : UInt8) (h : c ∈ s.data.toList) : ∃ i, ∃ hi : i < s.size, s[i] = c := by
  obtain ⟨i, hi, e⟩ := List.mem_iff_getElem.1 h
  exact ⟨i, by simpa using hi, by rw [← e]; rfl⟩

theorem at_mem (s : ByteArray) (i : Nat) (hi : i < s.size) : s[i] ∈ s.data.toList :=
  List.mem_iff_getElem.2 ⟨i, by simpa using hi, rfl⟩

theorem okB_true (s : ByteArray) (h : ∀ i (hi : i < s.size), 32 ≤ s[i].toNat ∧ s[i].toNat ≤ 126) : okB s = true := by
  unfold okB
  rw [List.all_eq_true]
  intro c hc
  obtain ⟨i, hi, rfl⟩ := mem_at s c hc
  have := h i hi
  simp [this]

theorem okB_false (s : ByteArray) (i : Nat) (hi : i < s.size) (h : ¬ (32 ≤ s[i].toNat ∧ s[i].toNat ≤ 126)) : okB s = false := by
  unfold okB
  rw [List.all_eq_false]
  refine ⟨s[i], at_mem s i hi, ?_⟩
  simp
  intro h1
  omega

theorem below_iter (w : World) (s : ByteArray) (pos : Nat) : Below w.heap.size w (w.iter s pos) :=
  (Below.refl _ _).alloc (Nat.le_refl _) _

set_option maxHeartbeats 1000000 in
theorem specPlain (s : ByteArray) (w : World) (hs : s.size ≤ maxLen) :
    Calls Tryz.prog 75 #[.string s] w fun e w' => e = .returned (.bool (okB s)) ∧ w' = w := by
  unfold maxLen at hs
  go_enter Tryz.func75, Tryz.ntmps75
  go_wp2
  go_loop [3] (fun j => ∃ m : Nat, m ≤ s.size ∧ j = .int .i64 (m : Int) ∧ ∀ i (hi : i < s.size), i < m → 32 ≤ s[i].toNat ∧ s[i].toNat ≤ 126) (fun j => s.size - (intOf j).toNat)
  case atStart => exact ⟨0, Nat.zero_le _, rfl, fun i _ h => by omega⟩
  case round =>
    obtain ⟨m, hm, rfl, hall⟩ := hrel
    have HA : Hid (∀ i (hi : i < s.size), i < m → 32 ≤ s[i].toNat ∧ s[i].toNat ≤ 126) := hall
    clear hall
    by_cases hlt : m < s.size
    · by_cases hok : 32 ≤ s[m].toNat ∧ s[m].toNat ≤ 126
      · obtain ⟨h1, h2⟩ := hok
        have hx : Hid (32 ≤ s[m].toNat ∧ s[m].toNat ≤ 126) := ⟨h1, h2⟩
        have h3 : decide ((s[m].toNat : Int) < 32) = false := by simp; omega
        have h4 : decide ((126 : Int) < (s[m].toNat : Int)) = false := by simp; omega
        clear h1 h2
        go_wp2
        exact ⟨⟨m + 1, by omega, by go_num, fun i hi hl => by
          by_cases e : i = m
          · subst e; exact hx.out
          · exact HA.out i hi (by omega)⟩, by simp [intOf]; omega⟩
      · have hf : Hid (okB s = false) := okB_false s m hlt hok
        by_cases h1 : s[m].toNat < 32
        · have h3 : decide ((s[m].toNat : Int) < 32) = true := by simp; omega
          clear hok h1
          go_wp2
          go_ret
          exact ⟨by rw [hf.out]; rfl, rfl⟩
        · have h3 : decide ((s[m].toNat : Int) < 32) = false := by simp; omega
          have h4 : decide ((126 : Int) < (s[m].toNat : Int)) = true := by simp; omega
          clear hok h1
          go_wp2
          go_ret
          exact ⟨by rw [hf.out]; rfl, rfl⟩
    · have ht : Hid (okB s = true) := okB_true s (fun i hi => HA.out i hi (by omega))
      go_wp2
      go_ret
      exact ⟨by rw [ht.out]; rfl, rfl⟩

set_option maxHeartbeats 1000000 in
theorem implShown (s : ByteArray) (w : World) :
    Calls Tryz.prog 78 #[.string s] w fun e w' => e = .returned (.bool (okB s)) ∧ Below w.heap.size w w' := by
  go_enter Tryz.func78, Tryz.ntmps78
  go_wp2
  go_loopw [3] (fun _ w' => ∃ m : Nat, m ≤ s.size ∧ w' = w.iter s m ∧ ∀ i (hi : i < s.size), i < m → 32 ≤ s[i].toNat ∧ s[i].toNat ≤ 126) (fun _ w' => s.size - w'.iterPos w.heap.size)
  case atStart => exact ⟨0, Nat.zero_le _, rfl, fun i _ h => by omega⟩
  case round =>
    obtain ⟨m, hm, rfl, hall⟩ := hrel
    have HA : Hid (∀ i (hi : i < s.size), i < m → 32 ≤ s[i].toNat ∧ s[i].toNat ≤ 126) := hall
    clear hall
    by_cases hlt : m < s.size
    · by_cases hok : 32 ≤ s[m].toNat ∧ s[m].toNat ≤ 126
      · obtain ⟨h1, h2⟩ := hok
        have hx : Hid (32 ≤ s[m].toNat ∧ s[m].toNat ≤ 126) := ⟨h1, h2⟩
        have hnx : ∀ ty, (Instr.next (.pointer (some ⟨w.heap.size, 0, none⟩)) true ty).run Tryz.prog (w.iter s m) = _ := fun ty => run_next_ascii w s m ty hlt (by omega)
        have h3 : decide ((s[m].toNat : Int) < 32) = false := by simp; omega
        have h4 : decide ((126 : Int) < (s[m].toNat : Int)) = false := by simp; omega
        clear h1 h2
        go_wp2
        go_roundw
        case rel =>
          exact ⟨m + 1, by omega, rfl, fun i hi hl => by
            by_cases e : i = m
            · subst e; exact hx.out
            · exact HA.out i hi (by omega)⟩
        case measure => simp; omega
      · have hf : Hid (okB s = false) := okB_false s m hlt hok
        have hnx : ∀ ty, (Instr.next (.pointer (some ⟨w.heap.size, 0, none⟩)) true ty).run Tryz.prog (w.iter s m) = _ := fun ty => run_next_any w s m ty hlt
        by_cases h1 : s[m].toNat < 32
        · have h3 : decide ((s[m].toNat : Int) < 32) = true := by simp; omega
          clear hok h1
          go_wp2
          go_ret
          exact ⟨by rw [hf.out]; rfl, below_iter _ _ _⟩
        · have h3 : decide ((s[m].toNat : Int) < 32) = false := by simp; omega
          have h4 : decide ((126 : Int) < (s[m].toNat : Int)) = true := by simp; omega
          clear hok h1
          go_wp2
          go_ret
          exact ⟨by rw [hf.out]; rfl, below_iter _ _ _⟩
    · have ht : Hid (okB s = true) := okB_true s (fun i hi => HA.out i hi (by omega))
      have hnx : ∀ ty, (Instr.next (.pointer (some ⟨w.heap.size, 0, none⟩)) true ty).run Tryz.prog (w.iter s m) = _ := fun ty => run_next_end w s m ty hlt
      go_wp2
      go_ret
      exact ⟨by rw [ht.out]; rfl, below_iter _ _ _⟩
/-- What PutText tells of a text. -/
def putT (s : ByteArray) : ByteArray := if s.size ≤ 255 ∧ okB s = true then p1 s.size ++ s else ⟨#[]⟩

theorem p1_size (n : Int) : (p1 n).size ≤ 1 := by
  unfold p1; split
  · rw [strOfNums_size]; simp
  · simp [ByteArray.size]

set_option maxHeartbeats 1000000 in
theorem specPutText (s : ByteArray) (w : World) (hs : s.size ≤ maxLen) :
    Calls Tryz.prog 46 #[.string s] w fun e w' => e = .returned (.string (putT s)) ∧ Below w.heap.size w w' := by
  have hm := hs
  unfold maxLen at hs
  unfold putT
  by_cases h1 : s.size ≤ 255
  · have h2 : decide ((255 : Int) < (s.size : Int)) = false := by simp; omega
    cases hb : okB s
    · rw [if_neg (by simp)]
      have HB : Hid (okB s = false) := hb
      clear hb
      go_enter Tryz.func46, Tryz.ntmps46
      go_wp2_with fail
      refine (specPlain _ _ hm).mono ?_
      rintro e w1 ⟨rfl, rfl⟩
      rw [HB.out]
      go_wp2
      go_ret
      exact ⟨rfl, Below.refl _ _⟩
    · rw [if_pos (by exact ⟨h1, rfl⟩)]
      have HB : Hid (okB s = true) := hb
      clear hb
      go_enter Tryz.func46, Tryz.ntmps46
      go_wp2_with fail
      refine (specPlain _ _ hm).mono ?_
      rintro e w1 ⟨rfl, rfl⟩
      rw [HB.out]
      go_wp2_with fail
      refine (specPut1 _ _).mono ?_
      rintro e w1 ⟨rfl, hb1⟩
      have hp := p1_size (s.size : Int)
      go_wp2
      go_ret
      exact ⟨rfl, hb1⟩
  · have h2 : decide ((255 : Int) < (s.size : Int)) = true := by simp; omega
    rw [if_neg (by omega)]
    clear h1
    go_enter Tryz.func46, Tryz.ntmps46
    go_wp2
    go_ret
    exact ⟨rfl, Below.refl _ _⟩

set_option maxHeartbeats 1000000 in
theorem implPutText (s : ByteArray) (w : World) (hs : s.size ≤ maxLen) :
    Calls Tryz.prog 49 #[.string s] w fun e w' => e = .returned (.string (putT s)) ∧ Below w.heap.size w w' := by
  unfold maxLen at hs
  unfold putT
  by_cases h1 : s.size ≤ 255
  · have h2 : decide ((255 : Int) < (s.size : Int)) = false := by simp; omega
    cases hb : okB s
    · rw [if_neg (by simp)]
      have HB : Hid (okB s = false) := hb
      clear hb
      go_enter Tryz.func49, Tryz.ntmps49
      go_wp2_with fail
      refine (implShown _ _).mono ?_
      rintro e w1 ⟨rfl, hb1⟩
      rw [HB.out]
      go_wp2
      go_ret
      exact ⟨rfl, hb1⟩
    · rw [if_pos (by exact ⟨h1, rfl⟩)]
      have HB : Hid (okB s = true) := hb
      clear hb
      go_enter Tryz.func49, Tryz.ntmps49
      go_wp2_with fail
      refine (implShown _ _).mono ?_
      rintro e w1 ⟨rfl, hb1⟩
      rw [HB.out]
      go_wp2_with fail
      refine (implPut1 _ _).mono ?_
      rintro e w2 ⟨rfl, hb2⟩
      have hp := p1_size (s.size : Int)
      go_wp2
      go_ret
      exact ⟨rfl, hb1.trans (hb2.mono hb1.size)⟩
  · have h2 : decide ((255 : Int) < (s.size : Int)) = true := by simp; omega
    rw [if_neg (by omega)]
    clear h1
    go_enter Tryz.func49, Tryz.ntmps49
    go_wp2
    go_ret
    exact ⟨rfl, Below.refl _ _⟩

end Go.Proofs.YtgmlooemiokhfajGreatDoor
