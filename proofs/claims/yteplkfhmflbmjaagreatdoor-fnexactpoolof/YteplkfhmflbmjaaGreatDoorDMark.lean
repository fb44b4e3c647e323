import Derived.Test.YteplkfhmflbmjaaGreatDoorMarks
import Derived.Test.YteplkfhmflbmjaaGreatDoorSlots
/-
 The laws' own marks on Descs and DescOuts (markDescOut, heldDescOut), their comparison (eqDescOut), and what a DescOut of DescRead is made of.
-/
namespace Go.Proofs.YteplkfhmflbmjaaGreatDoor
open Go.RowKit
set_option maxRecDepth 20000
set_option linter.unusedVariables false

theorem But.pre {g : Nat} {a b c : World} (k : Below a.heap.size a b) (h : But g b c) : But g a c :=
 ⟨h.os.trans k.os, h.tape.trans k.tape, h.output.trans k.output, Nat.le_trans k.size h.size, fun i hi hg => (h.block i (Nat.lt_of_lt_of_le hi k.size) hg).trans (k.block i hi)⟩

/-- A row of one's own at a slice's head, or nothing. -/
def RowP (w : World) (a : Option Addr) (n cap : Nat) (f : Nat → Value) : Prop :=
 n = 0 ∨ ∃ g, a = some ⟨g, 0, none⟩ ∧ w.rowIs g 9 cap f ∧ n ≤ cap ∧ cap ≤ maxLen

theorem RowP.mono {w w' : World} {a : Option Addr} {n cap : Nat} {f : Nat → Value} (h : RowP w a n cap f) (hb : Below w.heap.size w w') : RowP w' a n cap f := by
 rcases h with h | ⟨g, h1, h2, h3⟩
 ·exact .inl h
 ·exact .inr ⟨g, h1, h2.of_block (hb.block g h2.lt), h3⟩

/-- What a marking leaves. -/
def Marked (w w' : World) (a : Option Addr) (n cap k : Nat) (f : Nat → Value) : Prop :=
 (n = 0 ∧ Below w.heap.size w w') ∨ ∃ g, a = some ⟨g, 0, none⟩ ∧ But g w w' ∧ w'.rowIs g 9 cap (mkF k n f) ∧ n ≤ cap ∧ cap ≤ maxLen

theorem Marked.pre {w w1 w2 : World} {a : Option Addr} {n cap k : Nat} {f : Nat → Value} (hb : Below w.heap.size w w1) (h : Marked w1 w2 a n cap k f) : Marked w w2 a n cap k f := by
 rcases h with ⟨h1, h2⟩ | ⟨g, h1, h2, h3⟩
 ·exact .inl ⟨h1, hb.trans (h2.mono hb.size)⟩
 ·exact .inr ⟨g, h1, h2.pre hb, h3⟩

theorem lawMarkP (a : Option Addr) (n cap k : Nat) (f : Nat → Value) (w : World) (h : RowP w a n cap f) (h1 : 1 ≤ k) (h2 : k + n ≤ 1000) :
  Calls Tryz.prog 12 #[.slice a n cap, .int .i64 (k : Int)] w fun e w' => e = .returned (.int .i64 ((k : Int) + n)) ∧ Marked w w' a n cap k f := by
 rcases h with rfl | ⟨g, rfl, hrow, hn, hcap⟩
 ·refine (lawMarkS0 a cap k w).mono ?_
  rintro e w' ⟨rfl, rfl⟩
  exact ⟨by simp, .inl ⟨rfl, Below.refl _ _⟩⟩
 ·refine (lawMarkS g n cap k f w hrow hn hcap h1 h2).mono ?_
  rintro e w' ⟨rfl, hb, hr⟩
  exact ⟨rfl, .inr ⟨g, rfl, hb, hr, hn, hcap⟩⟩

theorem lawHeldP (a : Option Addr) (n cap k : Nat) (f : Nat → Value) (w : World) (h : RowP w a n cap (mkF k n f)) (h1 : 1 ≤ k) (h2 : k + n ≤ 1000) :
  Calls Tryz.prog 13 #[.slice a n cap, .int .i64 (k : Int)] w fun e w' => e = .returned (.int .i64 ((k : Int) + n)) ∧ Below w.heap.size w w' := by
 rcases h with rfl | ⟨g, rfl, hrow, hn, hcap⟩
 ·refine (lawHeldS0 a cap k w).mono ?_
  rintro e w' ⟨rfl, rfl⟩
  exact ⟨by simp, Below.refl _ _⟩
 ·exact lawHeldS g n cap k f w hrow hn hcap h1 h2

theorem owns_strs {w : World} {base : Nat} {a : Option Addr} {cap : Nat} {xs : List ByteArray} (h : w.ownsRow base 9 1 (.slice a xs.length cap) xs.length (cellsOfS xs)) (hs : ∀ p ∈ xs, p.size ≤ maxLen) : Strs w a cap xs := by
 rcases h.2 with ⟨h1, h0⟩ | ⟨g, cp, cur, h1, h2, h3, h4, h5, h6⟩
 ·injection h1 with e1 e2 e3
  exact ⟨⟨by omega, by rw [e3]; simp [maxLen]⟩, fun m hm => by omega, hs⟩
 ·cases h1
  refine ⟨⟨h4, h5⟩, fun m hm => ⟨_, rfl, ?_⟩, hs⟩
  rw [add_own, h.cellAt m (by simpa using hm)]
  simp [cellsOfS, List.getD, List.getElem?_eq_getElem hm]

theorem owns_rowP {w : World} {base : Nat} {a : Option Addr} {n cap : Nat} {xs : List Value} (h : w.ownsRow base 9 1 (.slice a n cap) n xs) :
  n = 0 ∨ ∃ g f, a = some ⟨g, 0, none⟩ ∧ base ≤ g ∧ w.rowIs g 9 cap f ∧ n ≤ cap ∧ cap ≤ maxLen := by
 rcases h.2 with ⟨h1, h0⟩ | ⟨g, cp, cur, h1, h2, h3, h4, h5, h6⟩
 ·exact .inl h0
 ·cases h1
  refine .inr ⟨g, fun i => cur.getD i undef, rfl, h2, ?_, h4, h5⟩
  exact ⟨cur, h3, by omega, fun i hi => by
   have hc : i < cur.size := by omega
   rw [Array.getElem?_eq_getElem hc]
   simp [Array.getD, hc]⟩

theorem Strs.but {w w' : World} {a : Option Addr} {cap g : Nat} {xs : List ByteArray} (h : Strs w a cap xs) (hb : But g w w') (hne : ∀ x, a = some x → x.block ≠ g) : Strs w' a cap xs :=
 ⟨h.cap, fun m hm => by
  obtain ⟨x, e, hc⟩ := h.cell m hm
  exact ⟨x, e, hb.cell (World.block_lt_of_cell? _ _ hc) (by rw [add_blk]; exact hne x e) hc⟩, h.size⟩

/-- Two DescOuts in blocks t3 and t4, the first one's texts in memory. -/
structure Sit (w0 w : World) (t3 t4 : Nat) (a1 a2 : Option Addr) (c1 c2 : Nat) (xs : List ByteArray) (q : ByteArray) (A C : Int) : Prop where
 b : Below w0.heap.size w0 w
 lt3 : t3 < w.heap.size
 lt4 : t4 < w.heap.size
 x0 : w.cell? ⟨t3, 0, none⟩ = some (.slice a1 xs.length c1)
 x1 : w.cell? ⟨t3, 1, none⟩ = some (.string q)
 x2 : w.cell? ⟨t3, 2, none⟩ = some (.int .i64 A)
 x3 : w.cell? ⟨t3, 3, none⟩ = some (.int .i64 C)
 y0 : w.cell? ⟨t4, 0, none⟩ = some (.slice a2 xs.length c2)
 y1 : w.cell? ⟨t4, 1, none⟩ = some (.string q)
 y2 : w.cell? ⟨t4, 2, none⟩ = some (.int .i64 A)
 y3 : w.cell? ⟨t4, 3, none⟩ = some (.int .i64 C)
 s1 : Strs w a1 c1 xs

theorem Sit.mono {w0 w w' : World} {t3 t4 : Nat} {a1 a2 : Option Addr} {c1 c2 : Nat} {xs : List ByteArray} {q : ByteArray} {A C : Int} (h : Sit w0 w t3 t4 a1 a2 c1 c2 xs q A C) (hb : Below w.heap.size w w') : Sit w0 w' t3 t4 a1 a2 c1 c2 xs q A C :=
 ⟨h.b.trans (hb.mono h.b.size), Nat.lt_of_lt_of_le h.lt3 hb.size, Nat.lt_of_lt_of_le h.lt4 hb.size, carry hb h.lt3 h.x0, carry hb h.lt3 h.x1, carry hb h.lt3 h.x2, carry hb h.lt3 h.x3, carry hb h.lt4 h.y0, carry hb h.lt4 h.y1, carry hb h.lt4 h.y2, carry hb h.lt4 h.y3, h.s1.mono hb⟩

theorem Sit.mark {w0 w w' : World} {t3 t4 : Nat} {a1 a2 : Option Addr} {c1 c2 n cap k : Nat} {f : Nat → Value} {xs : List ByteArray} {q : ByteArray} {A C : Int} (h : Sit w0 w t3 t4 a1 a2 c1 c2 xs q A C) (hm : Marked w w' a2 n cap k f)
  (hne : ∀ g, a2 = some ⟨g, 0, none⟩ → w0.heap.size ≤ g ∧ t3 ≠ g ∧ t4 ≠ g ∧ ∀ x, a1 = some x → x.block ≠ g) : Sit w0 w' t3 t4 a1 a2 c1 c2 xs q A C := by
 rcases hm with ⟨_, hb⟩ | ⟨g, e, hb, _⟩
 ·exact h.mono hb
 ·obtain ⟨n1, n2, n3, n4⟩ := hne g e
  exact ⟨hb.below h.b n1 (Nat.le_refl _), Nat.lt_of_lt_of_le h.lt3 hb.size, Nat.lt_of_lt_of_le h.lt4 hb.size, hb.cell h.lt3 n2 h.x0, hb.cell h.lt3 n2 h.x1, hb.cell h.lt3 n2 h.x2, hb.cell h.lt3 n2 h.x3, hb.cell h.lt4 n3 h.y0, hb.cell h.lt4 n3 h.y1, hb.cell h.lt4 n3 h.y2, hb.cell h.lt4 n3 h.y3, h.s1.but hb n4⟩

theorem Marked.row {w w' : World} {a : Option Addr} {n cap k : Nat} {f : Nat → Value} (h : Marked w w' a n cap k f) : RowP w' a n cap (mkF k n f) := by
 rcases h with ⟨h, _⟩ | ⟨g, e, _, h2, h3⟩
 ·exact .inl h
 ·exact .inr ⟨g, e, h2, h3⟩

theorem owns_block {w : World} {base : Nat} {a : Option Addr} {n cap : Nat} {xs : List Value} (h : w.ownsRow base 9 1 (.slice a n cap) n xs) : ∀ x, a = some x → base ≤ x.block ∧ x.block < w.heap.size := by
 intro x e
 subst e
 exact h.lt x.block rfl
end Go.Proofs.YteplkfhmflbmjaaGreatDoor
