/-
  Lists of texts: what is told of one that lies in memory, and the contracts of the laws' own helpers on them (szStringS, toStringS, eqStringS).
-/
import Derived.Test.YtpjbhdoiffmgiaaDoorRows
import Derived.WalkKit
import Derived.ProofKit
import Derived.Below
import Derived.WalkLawsBesides
import Derived.BigQuiet
import Derived.Deep.QuietTactic
import Derived.RegionTactic
import Derived.BigRegion
import Derived.Deep.OwnRows
import Derived.Laws.IdiomStrings
import Derived.WalkSmall
import Derived.SliceStrings
namespace Go.Proofs.YtpjbhdoiffmgiaaDoor
open Go.RowKit
set_option linter.unusedVariables false

/-- The texts at a slice's head. -/
structure Strs (w : World) (a : Option Addr) (cap : Nat) (xs : List ByteArray) : Prop where
  cap : xs.length ≤ cap ∧ cap ≤ maxLen
  cell : ∀ m, m < xs.length → ∃ x, a = some x ∧ w.cell? (x.add m) = some (.string (xs.getD m ByteArray.empty))
  size : ∀ x ∈ xs, x.size ≤ maxLen

theorem add_blk (x : Addr) (i : Nat) : (x.add i).block = x.block := by unfold Addr.add; split <;> rfl
theorem add_own (b i : Nat) : (⟨b, 0, none⟩ : Addr).add i = ⟨b, i, none⟩ := by unfold Addr.add; split <;> simp_all

theorem Strs.mono {w w' : World} {a : Option Addr} {cap : Nat} {xs : List ByteArray} (h : Strs w a cap xs) (hb : Below w.heap.size w w') : Strs w' a cap xs :=
  ⟨h.cap, fun m hm => by
    obtain ⟨x, e, hc⟩ := h.cell m hm
    exact ⟨x, e, (hb.cell (World.block_lt_of_cell? _ _ hc)).trans hc⟩, h.size⟩

theorem Strs.at_size {w : World} {a : Option Addr} {cap : Nat} {xs : List ByteArray} (h : Strs w a cap xs) (m : Nat) : (xs.getD m ByteArray.empty).size ≤ maxLen := by
  rcases Nat.lt_or_ge m xs.length with hm | hm
  · refine h.size _ ?_
    rw [List.getD_eq_getElem?_getD, List.getElem?_eq_getElem hm]
    exact List.getElem_mem hm
  · rw [List.getD_eq_getElem?_getD, List.getElem?_eq_none hm]
    exact Nat.zero_le _

theorem open_strs {P : Program} {H : Type} {enc : TypeId × Value → H} {w : World} {base : Nat} {spare : Nat → Bool} {held : Bool} {t e : TypeId} {fuel : Nat} {c : Value} {y : DataW H × List MemPlace}
    (ht : P.underlying t = some (.slice e)) (he : P.underlying e = some .string) (hc : P.cellsOf e = 1) (h : DataW.trod enc P w base spare held fuel t [c] = some y) :
    ∃ a cap xs, c = .slice a xs.length cap ∧ Strs w a cap xs := by
  rcases Go.ChangeShapes.open_strings ht he hc h with ⟨hcs, _⟩ | ⟨a, len, cap, ss, hcs, _, hl, hm, hz, _, hcell, hws⟩
  · simp at hcs
    exact ⟨none, 0, [], by simp [hcs], ⟨⟨by simp, by simp [maxLen]⟩, fun m hm => by simp at hm, fun x hx => by simp at hx⟩⟩
  · simp at hcs
    have hss : len ≤ ss.length := by rw [hz]; split <;> omega
    have hlen : (ss.take len).length = len := by rw [List.length_take]; omega
    refine ⟨some a, cap, ss.take len, by rw [hcs, hlen], ⟨⟨by omega, hm⟩, fun m hm' => ⟨a, rfl, ?_⟩, fun x hx => hws x (List.mem_of_mem_take hx)⟩⟩
    rw [hcell m (by omega)]
    congr 2
    rw [List.getD_eq_getElem?_getD, List.getD_eq_getElem?_getD, List.getElem?_take_of_lt (by omega)]

theorem carry {B : Nat} {w w' : World} {p : Addr} {v : Option Value} (h : Below B w w') (hp : p.block < B) (hc : w.cell? p = v) : w'.cell? p = v := (h.cell hp).trans hc
theorem below_al (w : World) (o : Obj) : Below w.heap.size w (w.alloc o) := (Below.refl _ _).alloc (Nat.le_refl _) o
theorem owns_slice {w : World} {base e : Nat} {v : Value} {n : Nat} {xs : List Value} (h : w.ownsRow base e 1 v n xs) : ∃ a cap, v = .slice a n cap := by
  rcases h.2 with ⟨e, h0⟩ | ⟨g, cap, cur, e, _⟩
  · exact ⟨none, 0, by rw [e, h0]⟩
  · exact ⟨_, _, e⟩
theorem owns_below' {w w' : World} {base e : Nat} {v : Value} {n : Nat} {xs : List Value} (h : w.ownsRow base e 1 v n xs) (hb : Below w.heap.size w w') : w'.ownsRow base e 1 v n xs := by
  refine ⟨h.1, ?_⟩
  rcases h.2 with k | ⟨g, cap, cur, h1, h2, h3, h4⟩
  · exact .inl k
  · exact .inr ⟨g, cap, cur, h1, h2, (hb.block g (Array.getElem?_eq_some_iff.1 h3).1).trans h3, h4⟩
theorem carryF {B : Nat} {w w' : World} {p : Addr} {v : Bool} (h : Below B w w') (hp : p.block < B) (hc : w.frozen? p = v) : w'.frozen? p = v := (h.frozen hp).trans hc

/-- The value at a place of a row of texts. -/
def strAt (xs : List ByteArray) (i : Nat) : Value := .string (xs.getD i ByteArray.empty)

theorem Strs.of_row {w : World} {b : Nat} {t : TypeId} {xs : List ByteArray} {cap : Nat} (h : w.rowIs b t cap (strAt xs)) (hx : xs.length ≤ cap) (hcap : cap ≤ maxLen) (hs : ∀ x ∈ xs, x.size ≤ maxLen) :
    Strs w (some ⟨b, 0, none⟩) cap xs :=
  ⟨⟨hx, hcap⟩, fun m hm => ⟨_, rfl, by rw [add_own]; exact h.cell (Nat.lt_of_lt_of_le hm hx)⟩, hs⟩

def sumTo (xs : List ByteArray) (m : Nat) : Nat := ((xs.take m).map (·.size)).sum
def totS (xs : List ByteArray) : Nat := xs.length + sumTo xs xs.length
def szS (xs : List ByteArray) (left : Int) : Int := if left < (totS xs : Int) then -1 else left - (totS xs : Int)

theorem sumTo_succ (xs : List ByteArray) (m : Nat) (h : m < xs.length) : sumTo xs (m + 1) = sumTo xs m + (xs.getD m ByteArray.empty).size := by
  unfold sumTo
  rw [List.take_add_one, List.getElem?_eq_getElem h, List.getD_eq_getElem?_getD, List.getElem?_eq_getElem h]
  simp only [List.map_append, List.sum_append, Option.toList_some, List.map_cons, List.map_nil, List.sum_cons, List.sum_nil, Option.getD_some]
  omega
theorem sumTo_le (xs : List ByteArray) (m k : Nat) (h : m ≤ k) : sumTo xs m ≤ sumTo xs k := by
  induction k with
  | zero => rw [Nat.le_zero.1 h]; exact Nat.le_refl _
  | succ k ih =>
    rcases Nat.lt_or_ge m (k + 1) with hm | hm
    · refine Nat.le_trans (ih (by omega)) ?_
      rcases Nat.lt_or_ge k xs.length with hk | hk
      · rw [sumTo_succ xs k hk]; omega
      · unfold sumTo; rw [List.take_of_length_le hk, List.take_of_length_le (by omega)]; exact Nat.le_refl _
    · rw [show m = k + 1 by omega]; exact Nat.le_refl _

theorem infoStr : (Tryd.prog.info? 9).map (fun i => (i.zero, i.size, i.bytes)) = some (some (.string ⟨#[]⟩), 1, 16) := by kernel_rfl

/-- A row that is being filled: the first m texts stand. -/
structure Filling (w wr : World) (xs : List ByteArray) (m : Nat) : Prop where
  below : Below w.heap.size w wr
  size : wr.heap.size = w.heap.size + 1
  row : wr.rowIs w.heap.size 9 xs.length (fun i => if i < m then strAt xs i else .string ⟨#[]⟩)

theorem Filling.start (w : World) (xs : List ByteArray) : Filling w (w.alloc (.cells (madeCells #[.string ⟨#[]⟩] xs.length) 9)) xs 0 :=
  ⟨(Below.refl _ _).alloc (Nat.le_refl _) _, by simp, (World.rowIs_made w (.string ⟨#[]⟩) xs.length 9).congr (fun i _ => by simp)⟩
theorem Filling.step {w wr : World} {xs : List ByteArray} {m : Nat} (h : Filling w wr xs m) : Filling w (wr.setCell ⟨w.heap.size, m, none⟩ (.string (xs.getD m ByteArray.empty))) xs (m + 1) :=
  ⟨h.below.setCell (Nat.le_refl _) _, by simp [h.size], (h.row.set m _).congr (fun i _ => by
    by_cases e : i = m
    · subst e; simp [strAt]
    · simp only [if_neg e]
      by_cases hl : i < m
      · rw [if_pos hl, if_pos (by omega)]
      · rw [if_neg hl, if_neg (by omega)])⟩
theorem Filling.done {w wr : World} {xs : List ByteArray} (h : Filling w wr xs xs.length) : wr.rowIs w.heap.size 9 xs.length (strAt xs) :=
  h.row.congr (fun i hi => by rw [if_pos hi])

end Go.Proofs.YtpjbhdoiffmgiaaDoor
