/-
  The contract of the program's GetText where it reads a text: it tells that piece and the place behind it.
-/
import Derived.Test.YtfichaafmfmliaaText
import Derived.WalkSpells
namespace Go.Proofs.Ytfichaafmfmliaa
open Go.RowKit

/-- The bytes of a text, made a slice and a text again. -/
theorem convBack (p : ByteArray) (W : World) (cap : Nat) (m : Nat × Nat) :
    (convert 22 9 (.slice (some ⟨W.heap.size, 0, none⟩) p.size cap)).run Try.prog (W.alloc (.cells (bytesRow p cap) 5 m)).drew = .ok (.string p) (W.alloc (.cells (bytesRow p cap) 5 m)).drew := by
  have h := run_convert_bytes_back (P := Try.prog) (W.alloc (.cells (bytesRow p cap) 5 m)).drew 22 9 5 ⟨W.heap.size, 0, none⟩ cap p.data.toList Try.underlying22 Try.underlying5 Try.underlying9 (by
    intro j hj
    have hp : (⟨W.heap.size, 0, none⟩ : Addr).add j = ⟨W.heap.size, j, none⟩ := by unfold Addr.add; split <;> simp_all
    rw [hp]
    show (W.alloc (.cells (bytesRow p cap) 5 m)).cell? ⟨W.heap.size, j, none⟩ = _
    rw [World.cell?_alloc_mark, bytesRow_at p cap j (by simpa using hj)]
    rfl)
  have e : p.data.toList.length = p.size := by simp
  rw [e] at h
  simpa using h

/-- A cell of an elder block, behind a block laid and a call that kept what was there. -/
theorem kept_far {w1 w2 : World} {o : Obj} {b : Nat} (h : Below (w1.alloc o).heap.size (w1.alloc o) w2) (hb : b < w1.heap.size) (j : Nat) :
    w2.cell? ⟨b, j, none⟩ = w1.cell? ⟨b, j, none⟩ ∧ w2.frozen? ⟨b, j, none⟩ = w1.frozen? ⟨b, j, none⟩ :=
  ⟨(below_alloc h).cell (p := ⟨b, j, none⟩) hb, (below_alloc h).frozen (p := ⟨b, j, none⟩) hb⟩

set_option maxHeartbeats 2000000 in
theorem implGetText_yes (s : ByteArray) (i n : Nat) (w : World) (hs : s.size ≤ 20000) (hi : i + 1 + n ≤ s.size) (hn : byt s i = n) (hok : okB (s.extract (i + 1) (i + 1 + n)) = true) :
    Calls Try.prog 15 #[.string s, .int .i64 i] w fun e w' => e = .returned (.agg #[.string (s.extract (i + 1) (i + 1 + n)), .int .i64 ((i : Int) + 1 + n), .int .i64 0]) ∧ Below w.heap.size w w' := by
  have hn2 := byt_bd s i
  have hn3 : n ≤ 255 := by omega
  have HB : Hid (be s i 1 = (n : Int)) := by show be s i 1 = n; simp [be, hn]
  have HG : Hid (gC n s.size ((i : Int) + 1) = 0) := by
    show gC n s.size ((i : Int) + 1) = 0
    unfold gC; rw [if_neg (by omega), if_neg (by omega), if_neg (by omega)]
  have HO : Hid (okB (s.extract (i + 1) (i + 1 + n)) = true) := hok
  clear hn hn2 hok
  go_enter Try.func15, Try.ntmps15
  go_wp2_with fail
  refine (implGet1_yes s i _ hs (by omega)).mono ?_
  rintro e w1 ⟨rfl, hb1⟩
  unfold numVal
  rw [HB.out]
  have k0 := kept hb1 0
  have k1 := kept hb1 1
  have k2 := kept hb1 2
  simp at k0 k1 k2
  obtain ⟨k0, f0⟩ := k0
  obtain ⟨k1, f1⟩ := k1
  obtain ⟨k2, f2⟩ := k2
  have hb := below_alloc hb1
  have HBW : Hid (Below w.heap.size w w1) := hb
  have hz : w.heap.size < w1.heap.size := by have := hb1.size; simp at this; omega
  clear hb1 hb
  go_wp2_with fail
  refine (implReach s _ _ _ (by unfold maxLen; omega) (by omega) (by omega)).mono ?_
  rintro e w2 ⟨rfl, rfl⟩
  rw [HG.out]
  generalize hp : s.extract (i + 1) (i + 1 + n) = p at HO
  have HP : Hid (s.extract (i + 1) (i + 1 + n) = p) := hp
  clear hp
  go_wp2_with fail
  rw [HP.out]
  refine (implShown _ _).mono ?_
  rintro e w3 ⟨rfl, hb3⟩
  rw [HO.out]
  have q0 := kept_far hb3 hz 0
  have q1 := kept_far hb3 hz 1
  have q2 := kept_far hb3 hz 2
  rw [k0, f0] at q0
  rw [k1, f1] at q1
  rw [k2, f2] at q2
  obtain ⟨q0, g0⟩ := q0
  obtain ⟨q1, g1⟩ := q1
  obtain ⟨q2, g2⟩ := q2
  have hz3 : w.heap.size < w3.heap.size := by have := (below_alloc hb3).size; omega
  have HBX : Hid (Below w.heap.size w w3) := HBW.out.trans ((below_alloc hb3).mono HBW.out.size)
  have hcv := fun (x : World) => run_bytes_of_string (P := Try.prog) x 9 22 5 p Try.underlying9 Try.underlying22 Try.underlying5
  have hcb := convBack p
  clear hb3 HBW k0 k1 k2 f0 f1 f2
  go_wp2
  refine bodyPost_ret (v := .agg #[.string p, .int .i64 ((i : Int) + 1 + n), .int .i64 0]) (by simp [results, Try.results15, go_sem, q0, q1, q2, hz3]) rfl ⟨by rw [HP.out], ?_⟩
  exact ((((HBX.out.setCell (Nat.le_refl _) _).setCell (Nat.le_refl _) _).setCell (Nat.le_refl _) _).alloc (by simp; omega) _).drew
end Go.Proofs.Ytfichaafmfmliaa
