import Derived.Test.YtnenhhlgabghfaaGreatDoorTok0
/-
 The program's buffer: a text that grows at its end, in memory.
-/
namespace Go.Proofs.YtnenhhlgabghfaaGreatDoor
open Go.RowKit
set_option maxRecDepth 20000
open Go.Lib (strCells)
set_option linter.unusedVariables false

/-- A buffer at block B (its first cell) holds the bytes bs. -/
structure BufAt (w : World) (B : Nat) (bs : List Int) (vb : Value) : Prop where
 c0 : w.cell? ⟨B, 0, none⟩ = some vb
 f0 : w.frozen? ⟨B, 0, none⟩ = false
 ob : w.ownsRow (B + 1) 5 1 vb bs.length (bC bs)
 lt : B < w.heap.size
structure BufKept (B : Nat) (w w' : World) (vb vb' : Value) : Prop where
 low : Below B w w'
 far : ∀ k, k < w.heap.size → k ≠ B → vb.ownBlock ≠ some k → w'.heap[k]? = w.heap[k]?
 side : ∀ j, j ≠ 0 → w'.cell? ⟨B, j, none⟩ = w.cell? ⟨B, j, none⟩
 fro : ∀ j, w'.frozen? ⟨B, j, none⟩ = w.frozen? ⟨B, j, none⟩
 lies : vb'.ownBlock = vb.ownBlock ∨ ∃ g, vb'.ownBlock = some g ∧ w.heap.size ≤ g
theorem BufAt.below {w w' : World} {B : Nat} {bs : List Int} {vb : Value} (h : BufAt w B bs vb) (hb : Below w.heap.size w w') : BufAt w' B bs vb :=
 ⟨(hb.cell h.lt).trans h.c0, (hb.frozen h.lt).trans h.f0, by
  refine ⟨h.ob.1, ?_⟩
  rcases h.ob.2 with k | ⟨g, cap, cur, h1, h2, h3, h4⟩
  ·exact .inl k
  ·exact .inr ⟨g, cap, cur, h1, h2, (hb.block g (Array.getElem?_eq_some_iff.1 h3).1).trans h3, h4⟩, Nat.lt_of_lt_of_le h.lt hb.size⟩
theorem BufKept.pre {B : Nat} {w w1 w' : World} {vb vb' : Value} (hB : B < w.heap.size) (hb : Below w.heap.size w w1) (h : BufKept B w1 w' vb vb') : BufKept B w w' vb vb' :=
 ⟨(hb.mono (Nat.le_of_lt hB)).trans h.low, fun k hk n1 n2 => (h.far k (Nat.lt_of_lt_of_le hk hb.size) n1 n2).trans (hb.block k hk), fun j hj => (h.side j hj).trans (hb.cell hB), fun j => (h.fro j).trans (hb.frozen hB), by
  rcases h.lies with e | ⟨g, e, hg⟩
  ·exact .inl e
  ·exact .inr ⟨g, e, Nat.le_trans hb.size hg⟩⟩
theorem BufKept.trans {B : Nat} {a b c : World} {v v1 v2 : Value} (hv : ∀ k, v1.ownBlock = some k → k < b.heap.size) (h : BufKept B a b v v1) (k : BufKept B b c v1 v2) : BufKept B a c v v2 :=
 ⟨h.low.trans k.low, fun i hi n1 n2 => (k.far i (Nat.lt_of_lt_of_le hi h.low.size) n1 (fun e => by
   rcases h.lies with e1 | ⟨g, e1, hg⟩
   ·exact n2 (e1.symm.trans e)
   ·rw [e1] at e; cases e; omega)).trans (h.far i hi n1 n2), fun j hj => (k.side j hj).trans (h.side j hj), fun j => (k.fro j).trans (h.fro j), by
  rcases k.lies with e | ⟨g, e, hg⟩
  ·rcases h.lies with e1 | ⟨g, e1, hg⟩
   ·exact .inl (e.trans e1)
   ·exact .inr ⟨g, e.trans e1, hg⟩
  ·exact .inr ⟨g, e, Nat.le_trans h.low.size hg⟩⟩
/-- Behind an append. -/
theorem BufAt.put {w w1 : World} {B : Nat} {bs more : List Int} {vb v' : Value} (h : BufAt w B bs vb) (hg : w.grownBy w1 vb.ownBlock)
  (hown : w1.ownsRow (B + 1) 5 1 v' (bs ++ more).length (bC (bs ++ more))) (hat : v'.ownBlock = vb.ownBlock ∨ v'.ownBlock = some w.heap.size) : BufAt (w1.setCell ⟨B, 0, none⟩ v') B (bs ++ more) v' ∧ BufKept B w (w1.setCell ⟨B, 0, none⟩ v') vb v' := by
 have hne : some B ≠ vb.ownBlock := fun e => by have := (h.ob.lt B e.symm).1; omega
 have hblk := hg.block B h.lt hne
 have k0 : w1.cell? ⟨B, 0, none⟩ = some vb := (World.cell?_of_block hblk).trans h.c0
 refine ⟨⟨World.cell?_setCell_same _ _ _ k0, ?_, owns_put hown (by simp), ?_⟩, ⟨?_, fun k hk n1 n2 => ?_, fun j hj => ?_, fun j => ?_, ?_⟩⟩
 ·rw [World.frozen?_setCell]; exact (World.frozen?_of_block hblk).trans h.f0
 ·have := hg.size; have := h.lt; simp [World.setCell]; omega
 ·refine Below.setCell (p := ⟨B, 0, none⟩) ?_ (Nat.le_refl B) _
  exact (Below.refl B w).grown hg (Nat.le_of_lt h.lt) (fun k hk => by have := (h.ob.lt k hk).1; omega)
 ·exact (Below.heap_setCell _ _ _ _ n1).trans (hg.block k hk (Ne.symm n2))
 ·rw [World.cell?_setCell_other _ _ _ _ (by intro e; cases e; exact hj rfl)]; exact World.cell?_of_block hblk
 ·rw [World.frozen?_setCell]; exact World.frozen?_of_block hblk
 ·rcases hat with e | e
  ·exact .inl e
  ·exact .inr ⟨_, e, Nat.le_refl _⟩

set_option maxHeartbeats 1000000 in
theorem implPut (B : Nat) (s : ByteArray) (bs : List Int) (vb : Value) (w : World) (h : BufAt w B bs vb) (hl : bs.length + s.size ≤ 10000000) :
  Calls Tryz.prog 74 #[.pointer (some ⟨B, 0, none⟩), .string s] w fun e w' => e = .returned (.tuple #[]) ∧ ∃ vb', BufAt w' B (bs ++ nums s) vb' ∧ BufKept B w w' vb vb' := by
 obtain ⟨i0, hi0, hz0, hz1, hz2⟩ := info_parts byteInfo
 have HI : Hid (Tryz.prog.info? 5 = some i0 ∧ i0.zero = some (.int .u8 0) ∧ i0.size = 1 ∧ i0.bytes = 1) := ⟨hi0, hz0, hz1, hz2⟩
 clear hi0 hz0 hz1 hz2
 have c0 := h.c0
 have hlt := h.lt
 have HM := (show Hid (BufAt w B bs vb) from h)
 have HO : Hid (∃ a cap, vb = .slice a bs.length cap) := by
  show ∃ a cap, _
  rcases h.ob.2 with ⟨e, h0⟩ | ⟨g, cap, cur, e, _⟩
  ·exact ⟨none, 0, by rw [e, h0]⟩
  ·exact ⟨_, _, e⟩
 clear h
 obtain ⟨a, cap, rfl⟩ := HO.out
 clear HO
 go_enter Tryz.func74, Tryz.ntmps74
 go_wp2_with (at_builtin; refine wpList_append_str_at _ rfl _ _ 22 9 rfl (B + 1) 5 i0 Tryz.underlying22 Tryz.underlying9 HI.out.1 HI.out.2.1 HI.out.2.2.1 HI.out.2.2.2 _ _ _ rfl HM.out.ob s rfl ?c3 ?c4 ?c5 ?_)
 case c3 => unfold maxLen; omega
 case c4 => omega
 case c5 => omega
 intro v' w4 hown hgrow hat
 have HW4 := (show Hid _ from HM.out.put (more := nums s) hgrow (by rw [← bC_append, ← strCells_nums, List.length_append, nums_length]; exact hown) hat)
 have hne : some B ≠ (Value.slice a bs.length cap).ownBlock := fun e => by have := (HM.out.ob.lt B e.symm).1; omega
 have k1 : w4.cell? ⟨B, 0, none⟩ = some (.slice a bs.length cap) := (hgrow.cell_far _ hlt hne).trans c0
 have z1 : w4.frozen? ⟨B, 0, none⟩ = false := (hgrow.frozen_far _ hlt hne).trans HM.out.f0
 have HVF : Hid (∃ g cp, v' = .slice g (bs.length + s.size) cp) := by
  show ∃ g cp, _
  rcases hown.2 with ⟨e, h0⟩ | ⟨g, cap, cur, e, _⟩
  ·exact ⟨none, 0, by rw [e, h0]⟩
  ·exact ⟨_, _, e⟩
 obtain ⟨g4, cp4, rfl⟩ := HVF.out
 clear hown hgrow hat HVF hne c0
 go_wp2
 refine bodyPost_end (v := .tuple #[]) (by simp [results, go_sem]) rfl ⟨rfl, _, HW4.out.1, HW4.out.2⟩

theorem nums_p1 (n : Int) : nums (p1 n) = p1l n := by
 unfold p1 p1l
 split
 ·next h =>
  have : (n.toNat % 256 : Nat) = n.toNat := by omega
  simp [nums, strOfNums_data, UInt8.toNat_ofNat', this]
  omega
 ·rfl
set_option maxHeartbeats 1000000 in
theorem implBuf1 (B : Nat) (n : Int) (bs : List Int) (vb : Value) (w : World) (h : BufAt w B bs vb) (hl : bs.length ≤ 5000000) :
  Calls Tryz.prog 60 #[.pointer (some ⟨B, 0, none⟩), .int .i64 n] w fun e w' => e = .returned (.tuple #[]) ∧ ∃ vb', BufAt w' B (bs ++ p1l n) vb' ∧ BufKept B w w' vb vb' := by
 have HP : Hid (∀ w, Calls Tryz.prog 75 #[.int .i64 n] w fun e w' => e = .returned (.string (p1 n)) ∧ Below w.heap.size w w') := fun w => implPut1 n w
 have hs : (p1 n).size ≤ 1 := by rw [← nums_length, nums_p1]; exact p1l_length n
 have HN : Hid (bs ++ nums (p1 n) = bs ++ p1l n) := by show _ = _; rw [nums_p1]
 have HM := (show Hid (BufAt w B bs vb) from h)
 clear h
 generalize p1 n = s at *
 go_enter Tryz.func60, Tryz.ntmps60
 go_wp2_with fail
 refine Calls.mono (HP.out _) ?_
 rintro e w1 ⟨rfl, hb1⟩
 have HB1 := (show Hid (Below w.heap.size w w1) from hb1)
 clear hb1
 go_wp2_with fail
 refine Calls.mono (implPut B s bs vb w1 (HM.out.below HB1.out) (by omega)) ?_
 rintro e w2 ⟨rfl, vb', h1, h2⟩
 have HX : Hid (BufAt w2 B (bs ++ p1l n) vb' ∧ BufKept B w w2 vb vb') := ⟨by rw [← HN.out]; exact h1, h2.pre HM.out.lt HB1.out⟩
 clear h1 h2
 go_wp2
 refine bodyPost_end (v := .tuple #[]) (by simp [results, go_sem]) rfl ⟨rfl, _, HX.out.1, HX.out.2⟩
set_option maxHeartbeats 1000000 in
theorem implBuf4 (B : Nat) (n : Int) (bs : List Int) (vb : Value) (w : World) (h : BufAt w B bs vb) (hl : bs.length ≤ 5000000) :
  Calls Tryz.prog 77 #[.pointer (some ⟨B, 0, none⟩), .int .i64 n] w fun e w' => e = .returned (.tuple #[]) ∧ ∃ vb', BufAt w' B (bs ++ nums (p4 n)) vb' ∧ BufKept B w w' vb vb' := by
 have HP : Hid (∀ w, Calls Tryz.prog 83 #[.int .i64 n] w fun e w' => e = .returned (.string (p4 n)) ∧ Below w.heap.size w w') := fun w => implPut4 n w
 have hs := p4_size n
 have HM := (show Hid (BufAt w B bs vb) from h)
 clear h
 generalize p4 n = s at *
 go_enter Tryz.func77, Tryz.ntmps77
 go_wp2_with fail
 refine Calls.mono (HP.out _) ?_
 rintro e w1 ⟨rfl, hb1⟩
 have HB1 := (show Hid (Below w.heap.size w w1) from hb1)
 clear hb1
 go_wp2_with fail
 refine Calls.mono (implPut B s bs vb w1 (HM.out.below HB1.out) (by omega)) ?_
 rintro e w2 ⟨rfl, vb', h1, h2⟩
 have HX : Hid (BufAt w2 B (bs ++ nums s) vb' ∧ BufKept B w w2 vb vb') := ⟨h1, h2.pre HM.out.lt HB1.out⟩
 clear h1 h2
 go_wp2
 refine bodyPost_end (v := .tuple #[]) (by simp [results, go_sem]) rfl ⟨rfl, _, HX.out.1, HX.out.2⟩

/-- Flags, the first one the lowest bit. -/
def flB (ls : List Bool) : Int := fl3 (ls.getD 0 false) (ls.getD 1 false) (ls.getD 2 false)
theorem flB1 (ls : List Bool) (h : 0 < ls.length) : flB (ls.take 1) = fl3 ls[0] false false := by
 match ls, h with
 | a :: r, _ => simp [flB]
theorem flB2 (ls : List Bool) (h : 1 < ls.length) : flB (ls.take 2) = fl3 ls[0] ls[1] false := by
 match ls, h with
 | a :: b :: r, _ => simp [flB]
theorem flB3 (ls : List Bool) (h : 2 < ls.length) : flB (ls.take 3) = fl3 ls[0] ls[1] ls[2] := by
 match ls, h with
 | a :: b :: c :: r, _ => simp [flB]
set_option maxHeartbeats 2000000 in
theorem implFlags (B tb : Nat) (ls : List Bool) (hn : ls.length ≤ 3) (bs : List Int) (vb : Value) (w : World) (h : BufAt w B bs vb) (hl : bs.length ≤ 5000000) (ht : ∀ j (hj : j < ls.length), w.cell? ⟨tb, j, none⟩ = some (.bool ls[j])) :
  Calls Tryz.prog 37 #[.pointer (some ⟨B, 0, none⟩), .slice (some ⟨tb, 0, none⟩) ls.length ls.length] w fun e w' => e = .returned (.tuple #[]) ∧ ∃ vb', BufAt w' B (bs ++ p1l (flB ls)) vb' ∧ BufKept B w w' vb vb' := by
 have HM := (show Hid (BufAt w B bs vb) from h)
 have HT := (show Hid (∀ j (hj : j < ls.length), w.cell? ⟨tb, j, none⟩ = some (.bool ls[j])) from ht)
 clear h ht
 have HP : Hid (∀ n, Calls Tryz.prog 60 #[.pointer (some ⟨B, 0, none⟩), .int .i64 n] w fun e w' => e = .returned (.tuple #[]) ∧ ∃ vb', BufAt w' B (bs ++ p1l n) vb' ∧ BufKept B w w' vb vb') := fun n => implBuf1 B n bs vb w HM.out hl
 have HF : Hid (flB (ls.take ls.length) = flB ls) := by show _ = _; rw [List.take_of_length_le (Nat.le_refl _)]
 go_enter Tryz.func37, Tryz.ntmps37
 go_wp2_with fail
 go_loopw [4, 5, 6, 9] (fun j4 j5 j6 j9 wr => ∃ i : Nat, wr = w ∧ i ≤ ls.length ∧ j9 = .int .i64 (i : Int) ∧ j4 = .int .i64 (flB (ls.take i))) (fun _ _ _ j9 _ => ls.length - (intOf j9).toNat)
 case atStart => exact ⟨0, rfl, Nat.zero_le _, rfl, rfl⟩
 case round =>
  obtain ⟨i, hwr, hi, rfl, rfl⟩ := hrel
  subst wr
  by_cases hlt : i < ls.length
  ·have hi3 : i = 0 ∨ i = 1 ∨ i = 2 := by omega
   rcases hi3 with rfl | rfl | rfl
   ·have hc := HT.out 0 hlt
    have HV : Hid (flB (ls.take (0 + 1)) = fl3 ls[0] false false) := flB1 ls hlt
    have hv0 : flB (ls.take 0) = 0 := rfl
    rw [hv0]
    generalize ls[0] = b0 at *
    cases b0
    ·go_wp2
     go_roundw
     case rel => exact ⟨0 + 1, by first | rfl | trivial, by omega, by go_num, by rw [HV.out]; rfl⟩
     case measure => simp [intOf]; omega
    ·go_wp2
     go_roundw
     case rel => exact ⟨0 + 1, by first | rfl | trivial, by omega, by go_num, by rw [HV.out]; rfl⟩
     case measure => simp [intOf]; omega
   ·have hc := HT.out 1 hlt
    have HV : Hid (flB (ls.take (1 + 1)) = fl3 ls[0] ls[1] false) := flB2 ls hlt
    have hv0 : flB (ls.take 1) = fl3 ls[0] false false := flB1 ls (by omega)
    rw [hv0]
    clear hv0
    generalize ls[0] = b0 at *
    generalize ls[1] = b1 at *
    have hf0 : fl3 false false false = 0 := rfl
    have hf1 : fl3 true false false = 1 := rfl
    cases b0 <;> cases b1 <;> simp only [hf0, hf1]
    all_goals
     go_wp2
     go_roundw
     case rel => exact ⟨1 + 1, by first | rfl | trivial, by omega, by go_num, by rw [HV.out]; rfl⟩
     case measure => simp [intOf]; omega
   ·have hc := HT.out 2 hlt
    have HV : Hid (flB (ls.take (2 + 1)) = fl3 ls[0] ls[1] ls[2]) := flB3 ls hlt
    have hv0 : flB (ls.take 2) = fl3 ls[0] ls[1] false := flB2 ls (by omega)
    rw [hv0]
    clear hv0
    generalize ls[0] = b0 at *
    generalize ls[1] = b1 at *
    generalize ls[2] = b2 at *
    have hf0 : fl3 false false false = 0 := rfl
    have hf1 : fl3 true false false = 1 := rfl
    have hf2 : fl3 false true false = 2 := rfl
    have hf3 : fl3 true true false = 3 := rfl
    cases b0 <;> cases b1 <;> cases b2 <;> simp only [hf0, hf1, hf2, hf3]
    all_goals
     go_wp2
     go_roundw
     case rel => exact ⟨2 + 1, by first | rfl | trivial, by omega, by go_num, by rw [HV.out]; rfl⟩
     case measure => simp [intOf]; omega
  ·obtain rfl : i = ls.length := by omega
   rw [HF.out]
   go_wp2_with fail
   refine Calls.mono (HP.out _) ?_
   rintro e w2 ⟨rfl, vb', h1, h2⟩
   have HX : Hid (BufAt w2 B (bs ++ p1l (flB ls)) vb' ∧ BufKept B w w2 vb vb') := ⟨h1, h2⟩
   clear h1 h2
   go_wp2
   refine bodyPost_end (v := .tuple #[]) (by simp [results, go_sem]) rfl ⟨rfl, _, HX.out.1, HX.out.2⟩
end Go.Proofs.YtnenhhlgabghfaaGreatDoor
