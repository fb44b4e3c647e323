import Derived.Test.YteplkfhmflbmjaaGreatDoorPool
import Derived.Test.YteplkfhmflbmjaaGreatDoorMkX
import Derived.Test.YteplkfhmflbmjaaGreatDoorDMark
import Derived.Test.YteplkfhmflbmjaaGreatDoorMOpn
import Derived.Deep.RegionHeld3
/-
 PoolOf's law: what it carries along.
-/
namespace Go.Proofs.YteplkfhmflbmjaaGreatDoor
open Go.RowKit
set_option maxRecDepth 20000
set_option linter.unusedVariables false
theorem fieldSum_mem (ds : List FieldD) (i : Nat) (h : i < ds.length) : fieldB ds[i] ≤ fieldSum ds ds.length := by
 have h1 := fieldSum_succ ds i h
 have h2 := fieldSum_le ds (i + 1) h
 omega
theorem insSum_mem (ds : List InsD) (i : Nat) (h : i < ds.length) : insB ds[i] ≤ insSum ds ds.length := by
 have h1 := insSum_succ ds i h
 have h2 := insSum_le ds (i + 1) h
 omega
theorem handlerSum_mem (ds : List HandlerD) (i : Nat) (h : i < ds.length) : handlerB ds[i] ≤ handlerSum ds ds.length := by
 have h1 := handlerSum_succ ds i h
 have h2 := handlerSum_le ds (i + 1) h
 omega
theorem mSum_mem (ds : List MTup) (i : Nat) (h : i < ds.length) : methB (mD ds[i]) ≤ mSum ds ds.length := by
 have h1 := mSum_succ ds i h
 have h2 := mSum_le ds (i + 1) h
 omega
theorem cls_bound {m : ClsD} : ∀ p, Tok.t p ∈ clsTok m → p.size ≤ clsB m := by
 intro p hp
 unfold clsTok at hp
 simp only [List.mem_append, List.mem_cons, List.not_mem_nil, or_false, List.mem_flatMap, reduceCtorEq, false_or, Tok.t.injEq] at hp
 unfold clsB
 rcases hp with (rfl | rfl) | ⟨y, hy, hp⟩ | ⟨y, hy, hp⟩
 ·omega
 ·omega
 ·obtain ⟨i, hi, rfl⟩ := List.mem_iff_getElem.1 hy
  have h1 := fieldSum_mem m.fields i hi
  unfold fieldB at h1
  unfold fldTok at hp
  simp only [List.mem_cons, List.not_mem_nil, or_false, reduceCtorEq, Tok.t.injEq] at hp
  rcases hp with rfl | rfl <;> omega
 ·obtain ⟨i, hi, rfl⟩ := List.mem_iff_getElem.1 hy
  have h1 := mSum_mem m.meths i hi
  unfold methB at h1
  unfold mthTok at hp
  simp only [List.mem_append, List.mem_cons, List.not_mem_nil, or_false, List.mem_flatMap, reduceCtorEq, false_or, Tok.t.injEq] at hp
  rcases hp with (rfl | rfl) | ⟨q, hq, hp⟩ | ⟨q, hq, hp⟩
  ·omega
  ·omega
  ·obtain ⟨j, hj, rfl⟩ := List.mem_iff_getElem.1 hq
   have h2 := insSum_mem (mD m.meths[i]).code j hj
   unfold insB at h2
   unfold insTok insArg at hp
   rcases List.mem_cons.1 hp with hp | hp
   ·cases hp
   ·repeat' split at hp
    all_goals simp only [List.mem_cons, List.not_mem_nil, or_false, reduceCtorEq, Tok.t.injEq] at hp
    all_goals first
     | (subst hp; omega)
     | (rcases hp with rfl | rfl | rfl <;> omega)
  ·obtain ⟨j, hj, rfl⟩ := List.mem_iff_getElem.1 hq
   have h2 := handlerSum_mem (mD m.meths[i]).hands j hj
   unfold handlerB at h2
   unfold hanTok at hp
   simp only [List.mem_cons, List.not_mem_nil, or_false, reduceCtorEq, false_or, Tok.t.injEq] at hp
   subst hp
   omega
theorem made_bound {m : ClsD} : ∀ p ∈ (madeS m).1, p.size ≤ clsB m := fun p hp => by
 rcases tksS_mem (clsTok m) ([], []) p hp with h | h
 ·cases h
 ·exact cls_bound p h
theorem pool_all (m : ClsD) : (poolT m).length ≤ 200 ∧ ∀ p ∈ poolT m, p.size ≤ clsB m := by
 by_cases h : ClsP m ∧ (madeS m).1.length ≤ 200
 ·rw [poolT_yes h.1 h.2]; exact ⟨h.2, made_bound⟩
 ·rw [poolT_no h]; exact ⟨Nat.zero_le _, fun p hp => by cases hp⟩
/-- A Class's six cells in a block. -/
structure Cs (w : World) (b : Nat) (nm ds : ByteArray) (st ab : Bool) (u v : Value) : Prop where
 x0 : w.cell? ⟨b, 0, none⟩ = some (.string nm)
 x1 : w.cell? ⟨b, 1, none⟩ = some (.string ds)
 x2 : w.cell? ⟨b, 2, none⟩ = some (.bool st)
 x3 : w.cell? ⟨b, 3, none⟩ = some (.bool ab)
 x4 : w.cell? ⟨b, 4, none⟩ = some u
 x5 : w.cell? ⟨b, 5, none⟩ = some v
theorem Cs.of_block {w w' : World} {b : Nat} {nm ds : ByteArray} {st ab : Bool} {u v : Value} (h : Cs w b nm ds st ab u v) (hb : w'.heap[b]? = w.heap[b]?) : Cs w' b nm ds st ab u v :=
 have k : ∀ j, w'.cell? ⟨b, j, none⟩ = w.cell? ⟨b, j, none⟩ := fun j => World.cell?_of_block hb
 ⟨(k 0).trans h.x0, (k 1).trans h.x1, (k 2).trans h.x2, (k 3).trans h.x3, (k 4).trans h.x4, (k 5).trans h.x5⟩
theorem Cs.lt {w : World} {b : Nat} {nm ds : ByteArray} {st ab : Bool} {u v : Value} (h : Cs w b nm ds st ab u v) : b < w.heap.size := World.block_lt_of_cell? _ ⟨b, 0, none⟩ h.x0
theorem Cs.mono {w w' : World} {b : Nat} {nm ds : ByteArray} {st ab : Bool} {u v : Value} (h : Cs w b nm ds st ab u v) (hb : Below w.heap.size w w') : Cs w' b nm ds st ab u v := h.of_block (hb.block b h.lt)
theorem Strs.of_blocks {w w' : World} {a : Option Addr} {cap : Nat} {xs : List ByteArray} (h : Strs w a cap xs) (hb : ∀ x, a = some x → x.block < w.heap.size → w'.heap[x.block]? = w.heap[x.block]?) : Strs w' a cap xs :=
 ⟨h.cap, fun m hm => by
  obtain ⟨x, e, hc⟩ := h.cell m hm
  exact ⟨x, e, (World.cell?_of_block (by have := World.block_lt_of_cell? _ _ hc; rw [add_blk] at this ⊢; exact hb x e this)).trans hc⟩, h.size⟩
theorem Kin.low {B E : Nat} {w0 a b : World} (h : Kin B E a b) (h0 : Below w0.heap.size w0 a) (hB : w0.heap.size ≤ B) : Below w0.heap.size w0 b :=
 ⟨h.os.trans h0.os, h.tape.trans h0.tape, h.output.trans h0.output, Nat.le_trans h0.size h.size, fun k hk => (h.out k (Nat.lt_of_lt_of_le hk h0.size) (.inl (by omega))).trans (h0.block k hk)⟩
theorem RowP.of_blocks {w w' : World} {a : Option Addr} {n cap : Nat} {f : Nat → Value} (h : RowP w a n cap f) (hb : ∀ x, a = some x → x.block < w.heap.size → w'.heap[x.block]? = w.heap[x.block]?) : RowP w' a n cap f := by
 rcases h with h | ⟨g, e, h2, h3⟩
 ·exact .inl h
 ·exact .inr ⟨g, e, h2.of_block (hb _ e h2.lt), h3⟩
end Go.Proofs.YteplkfhmflbmjaaGreatDoor
