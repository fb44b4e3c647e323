import Derived.Test.YtnenhhlgabghfaaGreatDoorBuf
import Derived.Test.YtnenhhlgabghfaaGreatDoorMapU
/-
 The program's writer of a class: a buffer, a map of places by text, and the pool, in memory; what it tells of texts.
-/
namespace Go.Proofs.YtnenhhlgabghfaaGreatDoor
open Go.RowKit
set_option maxRecDepth 20000
open Go.WideMaps (KeyLaw)
set_option linter.unusedVariables false

theorem run_look {P : Program} {kt et mty : TypeId} (K : KeyLaw P kt) (hm : P.underlying mty = some (.map kt et)) {w : World} {r : Nat} {es : Array MapEntry} {clock : Nat} (hb : w.heap[r]? = some (.map es clock))
  (hks : ∀ e ∈ es.toList, ∃ l, keyOf P kt e.key = some l) {x : Value} {l : Lit} (hx : keyOf P kt x = some l) {z : Value} (hz : (zeroValue et).run P w = .ok z w) :
  ((∀ e ∈ es.toList, e.key ≠ x) ∧ (Instr.lookup mty (.map (some r)) x true).run P w = .ok (.tuple #[z, .bool false]) w) ∨
  (∃ (j : Nat) (e : MapEntry), es[j]? = some e ∧ e.key = x ∧ (Instr.lookup mty (.map (some r)) x true).run P w = .ok (.tuple #[e.val, .bool true]) w) := by
 rcases K.find w hx es.toList hks with ⟨h1, h2⟩ | ⟨j, e, h1, h2, h3⟩
 ·exact .inl ⟨h2, by simp [Instr.lookup, run_underlying hm, MapKept.run_getObj_map hb, K.check w _ hx, h1, hz, Result.andThen]⟩
 ·exact .inr ⟨j, e, by simpa using h2, h3, by simp [Instr.lookup, run_underlying hm, MapKept.run_getObj_map hb, K.check w _ hx, h1, Result.andThen]⟩

/-- A map that holds each text of the pool with its place. -/
structure MapIs (es : Array MapEntry) (ps : List ByteArray) : Prop where
 size : es.size = ps.length
 at' : ∀ i (h : i < ps.length), ∃ e, es[i]? = some e ∧ e.key = .string ps[i] ∧ e.val = .int .i64 (i : Int)
theorem MapIs.start : MapIs #[] [] := ⟨rfl, fun i h => absurd h (by simp)⟩
theorem MapIs.push {es : Array MapEntry} {ps : List ByteArray} (h : MapIs es ps) (t : ByteArray) (n : Int) (hn : n = (ps.length : Int)) (born : Nat) : MapIs (es.push { key := .string t, val := .int .i64 n, born := born }) (ps ++ [t]) := by
 refine ⟨by simp [h.size], fun i hi => ?_⟩
 simp at hi
 by_cases e : i < ps.length
 ·obtain ⟨x, h1, h2, h3⟩ := h.at' i e
  refine ⟨x, ?_, ?_, h3⟩
  ·rw [Array.getElem?_push, if_neg (by rw [h.size]; omega)]; exact h1
  ·rw [List.getElem_append_left e]; exact h2
 ·have e2 : i = ps.length := by omega
  subst e2
  refine ⟨{ key := .string t, val := .int .i64 n, born := born }, ?_, ?_, by rw [hn]⟩
  ·rw [Array.getElem?_push, if_pos h.size.symm]
  ·simp
theorem MapIs.keys {es : Array MapEntry} {ps : List ByteArray} (h : MapIs es ps) : ∀ e ∈ es.toList, ∃ i, ∃ hi : i < ps.length, e.key = .string ps[i] := fun e he => by
 rw [Array.mem_toList_iff, Array.mem_iff_getElem?] at he
 obtain ⟨i, hi⟩ := he
 have hl : i < es.size := (Array.getElem?_eq_some_iff.1 hi).1
 rw [h.size] at hl
 obtain ⟨x, h1, h2, _⟩ := h.at' i hl
 rw [hi] at h1
 cases h1
 exact ⟨i, hl, h2⟩

theorem text_ne' {a b : ByteArray} (h : a ≠ b) : (a.toList == b.toList) = false := by
 rw [ByteArray.toList_eq, ByteArray.toList_eq, beq_eq_false_iff_ne]
 exact fun e => h (WideShapes.bytes_inj e)
theorem text_eq' {a b : ByteArray} (h : a = b) : (a.toList == b.toList) = true := by rw [h]; simp
theorem plc_here {ps : List ByteArray} (hn : ps.Nodup) {i : Nat} (hi : i < ps.length) : plc ps ps[i] = i :=
 plc_at hi (text_eq' rfl) fun j hj hji => text_ne' fun e => by
  exact (List.pairwise_iff_getElem.1 hn) j i hj hi hji e
theorem mkPool_nodup {ps : List ByteArray} (hn : ps.Nodup) (t : ByteArray) : (mkPool ps t).Nodup := by
 unfold mkPool
 split
 ·exact hn
 ·next h =>
  rw [List.nodup_append]
  refine ⟨hn, by simp, fun a ha b hb e => h ?_⟩
  rw [List.mem_singleton] at hb
  obtain ⟨i, hi, rfl⟩ := List.mem_iff_getElem.1 ha
  subst hb
  subst e
  rw [plc_here hn hi]
  exact hi
theorem mkPool_size {ps : List ByteArray} {t : ByteArray} {n : Nat} (hs : ∀ p ∈ ps, p.size ≤ n) (ht : t.size ≤ n) : ∀ p ∈ mkPool ps t, p.size ≤ n := by
 unfold mkPool
 split
 ·exact hs
 ·intro p hp
  rcases List.mem_append.1 hp with h | h
  ·exact hs p h
  ·rw [List.mem_singleton] at h; subst h; exact ht

structure WrAt (w : World) (mr mb : Nat) (st : WS) (vp vb : Value) (es : Array MapEntry) (ck : Nat) : Prop where
 buf : BufAt w mb st.2 vb
 c1 : w.cell? ⟨mb, 1, none⟩ = some (.map (some mr))
 c2 : w.cell? ⟨mb, 2, none⟩ = some vp
 f2 : w.frozen? ⟨mb, 2, none⟩ = false
 op : w.ownsRow (mb + 1) 9 1 vp st.1.length (sC st.1)
 hm : w.heap[mr]? = some (.map es ck)
 mp : MapIs es st.1
 lt : mr < mb
 nd : st.1.Nodup
 sz : ∀ p ∈ st.1, p.size ≤ maxLen
def ownW (mr mb : Nat) (vp vb : Value) : Nat → Prop := fun k => k = mr ∨ k = mb ∨ vp.ownBlock = some k ∨ vb.ownBlock = some k
def WrS (mr mb : Nat) (w : World) (st : WS) (F : Nat → Prop) : Prop := ∃ vp vb es ck, WrAt w mr mb st vp vb es ck ∧ F = ownW mr mb vp vb

theorem owns_heap {w w' : World} {base e : Nat} {v : Value} {n : Nat} {xs : List Value} (h : w.ownsRow base e 1 v n xs) (hk : ∀ k, v.ownBlock = some k → w'.heap[k]? = w.heap[k]?) : w'.ownsRow base e 1 v n xs := by
 refine ⟨h.1, ?_⟩
 rcases h.2 with k | ⟨g, cap, cur, h1, h2, h3, h4⟩
 ·exact .inl k
 ·exact .inr ⟨g, cap, cur, h1, h2, (hk g (by rw [h1]; rfl)).trans h3, h4⟩
theorem WrAt.below {w w' : World} {mr mb : Nat} {st : WS} {vp vb : Value} {es : Array MapEntry} {ck : Nat} (h : WrAt w mr mb st vp vb es ck) (hb : Below w.heap.size w w') : WrAt w' mr mb st vp vb es ck :=
 ⟨h.buf.below hb, (hb.cell h.buf.lt).trans h.c1, (hb.cell h.buf.lt).trans h.c2, (hb.frozen h.buf.lt).trans h.f2, owns_heap h.op fun k hk => hb.block k (h.op.lt k hk).2, (hb.block mr (by have := h.lt; have := h.buf.lt; omega)).trans h.hm, h.mp, h.lt, h.nd, h.sz⟩
theorem WrS.below {w w' : World} {mr mb : Nat} {st : WS} {F : Nat → Prop} (h : WrS mr mb w st F) (hb : Below w.heap.size w w') : WrS mr mb w' st F := by
 obtain ⟨vp, vb, es, ck, h1, h2⟩ := h
 exact ⟨vp, vb, es, ck, h1.below hb, h2⟩
theorem WrS.own_lt {mr mb : Nat} {w : World} {st : WS} {F : Nat → Prop} (h : WrS mr mb w st F) : ∀ k, F k → k < w.heap.size := by
 obtain ⟨vp, vb, es, ck, h1, rfl⟩ := h
 have := h1.lt
 have := h1.buf.lt
 rintro k (e | e | e | e)
 ·omega
 ·omega
 ·exact (h1.op.lt k e).2
 ·exact (h1.buf.ob.lt k e).2
theorem WrS.mr_lt {mr mb : Nat} {w : World} {st : WS} {F : Nat → Prop} (h : WrS mr mb w st F) : mr < w.heap.size := by
 obtain ⟨vp, vb, es, ck, h1, rfl⟩ := h
 have := h1.lt
 have := h1.buf.lt
 omega
/-- Behind a call of the buffer's. -/
theorem WrAt.buffer {w w' : World} {mr mb : Nat} {st : WS} {vp vb vb' : Value} {es : Array MapEntry} {ck : Nat} {bs' : List Int} (h : WrAt w mr mb st vp vb es ck) (hb : BufAt w' mb bs' vb') (hk : BufKept mb w w' vb vb') :
  WrAt w' mr mb (st.1, bs') vp vb' es ck ∧ Kept mr (ownW mr mb vp vb) w w' (ownW mr mb vp vb') := by
 have hap := rows_apart h.op h.buf.ob (by decide)
 refine ⟨⟨hb, (hk.side 1 (by decide)).trans h.c1, (hk.side 2 (by decide)).trans h.c2, (hk.fro 2).trans h.f2, ?_, (hk.low.block mr h.lt).trans h.hm, h.mp, h.lt, h.nd, h.sz⟩, ⟨hk.low.mono (Nat.le_of_lt h.lt), fun k hlt hn => ?_⟩⟩
 ·refine owns_heap h.op fun k e => hk.far k (h.op.lt k e).2 ?_ ?_
  ·have := (h.op.lt k e).1; omega
  ·rcases hap with e1 | e1
   ·rw [e] at e1; cases e1
   ·exact fun e2 => e1 (e.trans e2.symm)
 ·have n1 : k ≠ mb := fun e => hn (.inr (.inl e))
  have n2 : vb.ownBlock ≠ some k := fun e => hn (.inr (.inr (.inr e)))
  refine ⟨hk.far k hlt n1 n2, ?_⟩
  rintro (e | e | e | e)
  ·exact hn (.inl e)
  ·exact n1 e
  ·exact hn (.inr (.inr (.inl e)))
  ·rcases hk.lies with e1 | ⟨g, e1, hg⟩
   ·exact n2 (e1.symm.trans e)
   ·rw [e1] at e; cases e; omega

theorem implW1 (mr mb : Nat) (n : Int) (st : WS) (F : Nat → Prop) (w : World) (h : WrS mr mb w st F) (hz : wz st ≤ 1000000) :
  Calls Tryz.prog 60 #[.pointer (some ⟨mb, 0, none⟩), .int .i64 n] w fun e w' => e = .returned (.tuple #[]) ∧ ∃ F', WrS mr mb w' (tkP st (.n n)) F' ∧ Kept mr F w w' F' := by
 obtain ⟨vp, vb, es, ck, h1, rfl⟩ := h
 unfold wz at hz
 refine (implBuf1 mb n st.2 vb w h1.buf (by omega)).mono ?_
 rintro e w' ⟨rfl, vb', h2, h3⟩
 obtain ⟨h4, h5⟩ := h1.buffer h2 h3
 exact ⟨rfl, _, ⟨vp, vb', es, ck, h4, rfl⟩, h5⟩
theorem implW4 (mr mb : Nat) (n : Int) (st : WS) (F : Nat → Prop) (w : World) (h : WrS mr mb w st F) (hz : wz st ≤ 1000000) :
  Calls Tryz.prog 77 #[.pointer (some ⟨mb, 0, none⟩), .int .i64 n] w fun e w' => e = .returned (.tuple #[]) ∧ ∃ F', WrS mr mb w' (tkP st (.r (p4 n))) F' ∧ Kept mr F w w' F' := by
 obtain ⟨vp, vb, es, ck, h1, rfl⟩ := h
 unfold wz at hz
 refine (implBuf4 mb n st.2 vb w h1.buf (by omega)).mono ?_
 rintro e w' ⟨rfl, vb', h2, h3⟩
 obtain ⟨h4, h5⟩ := h1.buffer h2 h3
 exact ⟨rfl, _, ⟨vp, vb', es, ck, h4, rfl⟩, h5⟩
theorem implWF (mr mb tb : Nat) (ls : List Bool) (hn : ls.length ≤ 3) (st : WS) (F : Nat → Prop) (w : World) (h : WrS mr mb w st F) (hz : wz st ≤ 1000000) (ht : ∀ j (hj : j < ls.length), w.cell? ⟨tb, j, none⟩ = some (.bool ls[j])) :
  Calls Tryz.prog 37 #[.pointer (some ⟨mb, 0, none⟩), .slice (some ⟨tb, 0, none⟩) ls.length ls.length] w fun e w' => e = .returned (.tuple #[]) ∧ ∃ F', WrS mr mb w' (tkP st (.n (flB ls))) F' ∧ Kept mr F w w' F' := by
 obtain ⟨vp, vb, es, ck, h1, rfl⟩ := h
 unfold wz at hz
 refine (implFlags mb tb ls hn st.2 vb w h1.buf (by omega) ht).mono ?_
 rintro e w' ⟨rfl, vb', h2, h3⟩
 obtain ⟨h4, h5⟩ := h1.buffer h2 h3
 exact ⟨rfl, _, ⟨vp, vb', es, ck, h4, rfl⟩, h5⟩

theorem zeroI64 (w : World) : (zeroValue 2).run Tryz.prog w = .ok (.int .i64 0) w := by
 have h : (Tryz.prog.info? 2).map (fun i => i.zero) = some (some (.int .i64 0)) := by kernel_rfl
 cases hi : Tryz.prog.info? 2 with
 | none => rw [hi] at h; cases h
 | some i =>
  rw [hi] at h
  have hz : i.zero = some (.int .i64 0) := by simpa using h
  simp [zeroValue, typeInfo, hi, hz]
/-- Where a text stands, by the map. -/
theorem WrAt.look {w : World} {mr mb : Nat} {st : WS} {vp vb : Value} {es : Array MapEntry} {ck : Nat} (h : WrAt w mr mb st vp vb es ck) (t : ByteArray) (ht : t.size ≤ maxLen) :
  (plc st.1 t < st.1.length ∧ (Instr.lookup 44 (.map (some mr)) (.string t) true).run Tryz.prog w = .ok (.tuple #[.int .i64 (plc st.1 t : Int), .bool true]) w) ∨
  (plc st.1 t = st.1.length ∧ (Instr.lookup 44 (.map (some mr)) (.string t) true).run Tryz.prog w = .ok (.tuple #[.int .i64 0, .bool false]) w ∧
   ∀ v, (Instr.mapUpdate 44 (.map (some mr)) (.string t) v).run Tryz.prog w = .ok () (mapPut w mr (.map (es.push { key := .string t, val := v, born := ck }) (ck + 1)))) := by
 have hks : ∀ e ∈ es.toList, ∃ l, keyOf Tryz.prog 9 e.key = some l := fun e he => by
  obtain ⟨i, hi, hk⟩ := h.mp.keys e he
  rw [hk]
  exact ⟨_, WideMaps.keyOf_string_mk Tryz.underlying9 (h.sz _ (List.getElem_mem hi))⟩
 have hx : keyOf Tryz.prog 9 (.string t) = some (.string t.data.toList) := WideMaps.keyOf_string_mk Tryz.underlying9 ht
 rcases run_look strLaw Tryz.underlying44 h.hm hks hx (zeroI64 w) with ⟨hno, hr⟩ | ⟨j, e, hj, hk, hr⟩
 ·refine .inr ⟨plc_none fun j hj => text_ne' fun e => ?_, hr, fun v => ?_⟩
  ·obtain ⟨x, h1, h2, _⟩ := h.mp.at' j hj
   refine hno x (MapFrom.at_mem h1) ?_
   rw [h2, e]
  ·rcases run_upd strLaw Tryz.underlying44 h.hm hks hx v with ⟨_, hu⟩ | ⟨j, e, hj, hk, hu⟩
   ·exact hu
   ·exact absurd hk (hno e (MapFrom.at_mem hj))
 ·have hl : j < st.1.length := by rw [← h.mp.size]; exact (Array.getElem?_eq_some_iff.1 hj).1
  obtain ⟨x, h1, h2, h3⟩ := h.mp.at' j hl
  rw [hj] at h1
  cases h1
  have e1 : st.1[j] = t := by rw [hk] at h2; exact (Value.string.inj h2).symm
  have e2 : plc st.1 t = j := by rw [← e1]; exact plc_here h.nd hl
  refine .inl ⟨by rw [e2]; exact hl, ?_⟩
  rw [hr, h3, e2]
end Go.Proofs.YtnenhhlgabghfaaGreatDoor
