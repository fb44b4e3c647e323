import Derived.Test.YtlfmedfclgabdaaGreatDoorTKi
/-
 The lattice of the program in memory: what it keeps of what was asked of it.
-/
namespace Go.Proofs.YtlfmedfclgabdaaGreatDoor
open Go.RowKit
set_option maxRecDepth 20000
open Go.WideMaps (KeyLaw)
set_option linter.unusedVariables false
abbrev TyD := Int × ByteArray × Int
def tvL (t : TyD) : Value := .agg #[.int .i64 t.1, .string t.2.1, .int .i64 t.2.2]
structure twL (t : TyD) : Prop where
 k : (Lit.int .i64 t.1).wf = true
 c : t.2.1.size ≤ maxLen
 a : (Lit.int .i64 t.2.2).wf = true
noncomputable def tkT (L : List CTup) (t : TyD) : Bool := tkV L t.1 t.2.1 t.2.2
def zT : TyD := (0, tE, 0)
theorem zT_w : twL zT := ⟨rfl, by show 0 ≤ _; omega, rfl⟩
def obK (k : Int) : Bool := k == 2 || k == 3 || k == 4 || k == 5
/-- The least type above two known ones, as the program finds it. -/
noncomputable def flub (L : List CTup) (a b : TyD) : TyD :=
 if a = b then a else if (!obK a.1 || !obK b.1) = true then zT else if a.1 = 2 then b else if b.1 = 2 then a
 else if a.1 = b.1 then (a.1, comL L b.2.1 (CH nmC suC (allC L) a.2.1), 0) else (3, objN, 0)
noncomputable def lubT (L : List CTup) (a b : TyD) : TyD := if (tkT L a && tkT L b) = true then flub L a b else zT
theorem cell_put {w : World} {m : Nat} {O : Obj} {p : Addr} (h : p.block ≠ m) : (mapPut w m O).cell? p = w.cell? p := World.cell?_of_block (mapPut_other h)
theorem frozen_put {w : World} {m : Nat} {O : Obj} {p : Addr} (h : p.block ≠ m) : (mapPut w m O).frozen? p = w.frozen? p := World.frozen?_of_block (mapPut_other h)
def zAT : Value := .agg #[.bool false, .map none]
theorem zeroAT (w : World) : (zeroValue 149).run Tryz.prog w = .ok zAT w := by
 have h : (Tryz.prog.info? 149).map (fun i => i.zero) = some (some zAT) := by kernel_rfl
 cases hi : Tryz.prog.info? 149 with
 | none => rw [hi] at h; cases h
 | some i =>
  rw [hi] at h
  have hz : i.zero = some zAT := by simpa using h
  simp [zeroValue, typeInfo, hi, hz]
theorem zeroTy (w : World) : (zeroValue 30).run Tryz.prog w = .ok (tvL zT) w := by
 have h : (Tryz.prog.info? 30).map (fun i => i.zero) = some (some (tvL zT)) := by kernel_rfl
 cases hi : Tryz.prog.info? 30 with
 | none => rw [hi] at h; cases h
 | some i =>
  rw [hi] at h
  have hz : i.zero = some (tvL zT) := by simpa using h
  simp [zeroValue, typeInfo, hi, hz]
theorem key_ty {t : TyD} (h : twL t) : ∃ l, keyOf Tryz.prog 30 (tvL t) = some l := key_type t.1 t.2.2 t.2.1 h.c h.k h.a
theorem tvL_inj {t u : TyD} (h : tvL t = tvL u) : t = u := by
 obtain ⟨a, b, c⟩ := t
 obtain ⟨d, e, f⟩ := u
 unfold tvL at h
 simp at h
 obtain ⟨rfl, rfl, rfl⟩ := h
 rfl
/-- What one type's own map holds. -/
def LubAt (L : List CTup) (w : World) (mt : Nat) (t : TyD) : Prop :=
 ∃ ls lk, w.heap[mt]? = some (.map ls lk) ∧ ∀ l ∈ ls.toList, ∃ u, twL u ∧ l.key = tvL u ∧ l.val = tvL (lubT L t u)
/-- What the lattice holds: o tells whose a block is. -/
structure Lat (L : List CTup) (w : World) (m : Nat) (o : Nat → TyD) : Prop where
 at' : ∃ es ck, w.heap[m]? = some (.map es ck) ∧ ∀ e ∈ es.toList, ∃ t mt, twL t ∧ e.key = tvL t ∧ e.val = .agg #[.bool (tkT L t), .map (some mt)] ∧ m < mt ∧ o mt = t ∧ LubAt L w mt t
theorem Lat.below {L : List CTup} {w w' : World} {m : Nat} {o : Nat → TyD} (h : Lat L w m o) (hb : Below w.heap.size w w') : Lat L w' m o := by
 obtain ⟨es, ck, h1, h2⟩ := h.at'
 refine ⟨es, ck, (hb.block m (Array.getElem?_eq_some_iff.1 h1).1).trans h1, fun e he => ?_⟩
 obtain ⟨t, mt, a1, a2, a3, a4, a5, ls, lk, a6, a7⟩ := h2 e he
 exact ⟨t, mt, a1, a2, a3, a4, a5, ls, lk, (hb.block mt (Array.getElem?_eq_some_iff.1 a6).1).trans a6, a7⟩
theorem Lat.lt {L : List CTup} {w : World} {m : Nat} {o : Nat → TyD} (h : Lat L w m o) : m < w.heap.size := by
 obtain ⟨es, ck, h1, h2⟩ := h.at'
 exact (Array.getElem?_eq_some_iff.1 h1).1
theorem Lat.start {L : List CTup} {w : World} {m : Nat} (h : w.heap[m]? = some (.map #[] 0)) : Lat L w m (fun _ => zT) := ⟨_, _, h, by simp⟩
/-- A lookup of what was asked. -/
theorem Lat.look {L : List CTup} {w : World} {m : Nat} {o : Nat → TyD} (h : Lat L w m o) {t : TyD} (ht : twL t) :
  (∀ w', Below w.heap.size w w' → ∃ mt, m < mt ∧ o mt = t ∧ LubAt L w mt t ∧ (Instr.lookup 70 (.map (some m)) (tvL t) true).run Tryz.prog w' = .ok (.tuple #[.agg #[.bool (tkT L t), .map (some mt)], .bool true]) w') ∨
  (∃ OBJ : Value → Obj, (∀ w', Below w.heap.size w w' → (Instr.lookup 70 (.map (some m)) (tvL t) true).run Tryz.prog w' = .ok (.tuple #[zAT, .bool false]) w' ∧
   (∀ v, (Instr.mapUpdate 70 (.map (some m)) (tvL t) v).run Tryz.prog w' = .ok () (mapPut w' m (OBJ v)))) ∧
   ∀ (w' : World) (mt : Nat), w.heap.size ≤ mt → w'.heap[m]? = some (OBJ (.agg #[.bool (tkT L t), .map (some mt)])) → w'.heap[mt]? = some (.map #[] 0) → (∀ k, k < w.heap.size → k ≠ m → w'.heap[k]? = w.heap[k]?) → Lat L w' m (fun b => if b = mt then t else o b)) := by
 obtain ⟨es, ck, h1, h2⟩ := h.at'
 have hml := h.lt
 obtain ⟨l, hx⟩ := key_ty ht
 have hks : ∀ e ∈ es.toList, ∃ l, keyOf Tryz.prog 30 e.key = some l := fun e he => by
  obtain ⟨u, _, a1, a2, _⟩ := h2 e he
  rw [a2]
  exact key_ty a1
 by_cases hex : ∃ e ∈ es.toList, e.key = tvL t
 ·refine .inl fun w' hb => ?_
  have h1' := (hb.block m hml).trans h1
  rcases run_look1 typeLaw Tryz.underlying70 h1' hks hx (zeroAT w') with ⟨hno, hr, _⟩ | ⟨j, e, hj, hk, hr, _⟩
  ·obtain ⟨e, he, hk⟩ := hex
   exact absurd hk (hno e he)
  ·obtain ⟨u, mu, a1, a2, a3, a4, a5, ls, lk, a6, a7⟩ := h2 e (MapFrom.at_mem hj)
   obtain rfl := tvL_inj (a2.symm.trans hk)
   rw [a3] at hr
   exact ⟨mu, a4, a5, ⟨ls, lk, a6, a7⟩, hr⟩
 ·refine .inr ⟨fun v => .map (es.push { key := tvL t, val := v, born := ck }) (ck + 1), fun w' hb => ?_, fun w' mt hmt ha hb hc => ?_⟩
  ·have h1' := (hb.block m hml).trans h1
   refine ⟨?_, fun v => ?_⟩
   ·rcases run_look1 typeLaw Tryz.underlying70 h1' hks hx (zeroAT w') with ⟨hno, hr, _⟩ | ⟨j, e, hj, hk, hr, _⟩
    ·exact hr
    ·exact absurd ⟨e, MapFrom.at_mem hj, hk⟩ hex
   ·rcases run_upd typeLaw Tryz.underlying70 h1' hks hx v with ⟨_, hu⟩ | ⟨j, e, hj, hk, _⟩
    ·exact hu
    ·exact absurd ⟨e, MapFrom.at_mem hj, hk⟩ hex
  ·refine ⟨_, _, ha, fun e he => ?_⟩
   rw [Array.toList_push, List.mem_append, List.mem_singleton] at he
   rcases he with he | rfl
   ·obtain ⟨u, mu, a1, a2, a3, a4, a5, ls, lk, a6, a7⟩ := h2 e he
    have hlt := (Array.getElem?_eq_some_iff.1 a6).1
    refine ⟨u, mu, a1, a2, a3, a4, by rw [if_neg (by omega)]; exact a5, ls, lk, (hc mu hlt (by omega)).trans a6, a7⟩
   ·exact ⟨t, mt, ht, rfl, rfl, by omega, by rw [if_pos rfl], _, _, hb, by simp⟩
/-- A lookup of what lies above two. -/
theorem LubAt.look {L : List CTup} {w : World} {m mt : Nat} {o : Nat → TyD} {t : TyD} (h : LubAt L w mt t) (hL : Lat L w m o) (hmt : m < mt) (ho : o mt = t) {u : TyD} (hu : twL u) :
  (∀ w', Below w.heap.size w w' → (Instr.lookup 147 (.map (some mt)) (tvL u) true).run Tryz.prog w' = .ok (.tuple #[tvL (lubT L t u), .bool true]) w') ∨
  (∀ w', Below w.heap.size w w' → (Instr.lookup 147 (.map (some mt)) (tvL u) true).run Tryz.prog w' = .ok (.tuple #[tvL zT, .bool false]) w' ∧
   ∃ O, (Instr.mapUpdate 147 (.map (some mt)) (tvL u) (tvL (lubT L t u))).run Tryz.prog w' = .ok () (mapPut w' mt O) ∧ Lat L (mapPut w' mt O) m o) := by
 obtain ⟨ls, lk, h1, h2⟩ := h
 obtain ⟨l, hx⟩ := key_ty hu
 have hlt := (Array.getElem?_eq_some_iff.1 h1).1
 have hks : ∀ e ∈ ls.toList, ∃ l, keyOf Tryz.prog 30 e.key = some l := fun e he => by
  obtain ⟨u, a1, a2, _⟩ := h2 e he
  rw [a2]
  exact key_ty a1
 by_cases hex : ∃ e ∈ ls.toList, e.key = tvL u
 ·refine .inl fun w' hb => ?_
  have h1' := (hb.block mt hlt).trans h1
  rcases run_look1 typeLaw Tryz.underlying147 h1' hks hx (zeroTy w') with ⟨hno, hr, _⟩ | ⟨j, e, hj, hk, hr, _⟩
  ·obtain ⟨e, he, hk⟩ := hex
   exact absurd hk (hno e he)
  ·obtain ⟨x, a1, a2, a3⟩ := h2 e (MapFrom.at_mem hj)
   obtain rfl := tvL_inj (a2.symm.trans hk)
   rw [a3] at hr
   exact hr
 ·refine .inr fun w' hb => ?_
  have h1' := (hb.block mt hlt).trans h1
  refine ⟨?_, ?_⟩
  ·rcases run_look1 typeLaw Tryz.underlying147 h1' hks hx (zeroTy w') with ⟨hno, hr, _⟩ | ⟨j, e, hj, hk, hr, _⟩
   ·exact hr
   ·exact absurd ⟨e, MapFrom.at_mem hj, hk⟩ hex
  ·rcases run_upd typeLaw Tryz.underlying147 h1' hks hx (tvL (lubT L t u)) with ⟨_, hup⟩ | ⟨j, e, hj, hk, _⟩
   ·refine ⟨_, hup, ?_⟩
    obtain ⟨es, ck, b1, b2⟩ := (hL.below hb).at'
    refine ⟨es, ck, (mapPut_other (by omega)).trans b1, fun e he => ?_⟩
    obtain ⟨x, mx, a1, a2, a3, a4, a5, ys, yk, a6, a7⟩ := b2 e he
    by_cases hmx : mx = mt
    ·subst hmx
     obtain rfl : x = t := a5.symm.trans ho
     rw [h1'] at a6
     cases a6
     refine ⟨x, mx, a1, a2, a3, a4, a5, _, _, mapPut_at h1', fun y hy => ?_⟩
     rw [Array.toList_push, List.mem_append, List.mem_singleton] at hy
     rcases hy with hy | rfl
     ·exact a7 y hy
     ·exact ⟨u, hu, rfl, rfl⟩
    ·exact ⟨x, mx, a1, a2, a3, a4, a5, ys, yk, (mapPut_other hmx).trans a6, a7⟩
   ·exact absurd ⟨e, MapFrom.at_mem hj, hk⟩ hex
theorem LubAt.below {L : List CTup} {w w' : World} {mt : Nat} {t : TyD} (h : LubAt L w mt t) (hb : Below w.heap.size w w') : LubAt L w' mt t := by
 obtain ⟨ls, lk, a6, a7⟩ := h
 exact ⟨ls, lk, (hb.block mt (Array.getElem?_eq_some_iff.1 a6).1).trans a6, a7⟩
end Go.Proofs.YtlfmedfclgabdaaGreatDoor
