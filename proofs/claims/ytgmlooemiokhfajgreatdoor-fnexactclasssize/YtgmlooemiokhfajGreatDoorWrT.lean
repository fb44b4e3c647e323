import Derived.Test.YtgmlooemiokhfajGreatDoorMapU
/-
  The program's writer of a class: a buffer, a map of places by text, and the pool, in memory; what it tells of texts.
-/
namespace Go.Proofs.YtgmlooemiokhfajGreatDoor
open Go.RowKit
set_option maxRecDepth 20000
open Go.WideMaps (KeyLaw)
set_option linter.unusedVariables false

theorem run_look {P : Program} {kt et mty : TypeId} (K : KeyLaw P kt) (hm : P.underlying mty = some (.map kt et)) {w : World} {r : Nat} {es : Array MapEntry} {clock : Nat} (hb : w.heap[r]? = some (.map es clock))
    (hks : ∀ e ∈ es.toList, ∃ l, keyOf P kt e.key = some l) {x : Value} {l : Lit} (hx : keyOf P kt x = some l) {z : Value} (hz : (zeroValue et).run P w = .ok z w) :
    ((∀ e ∈ es.toList, e.key ≠ x) ∧ (Instr.lookup mty (.map (some r)) x true).run P w = .ok (.tuple #[z, .bool false]) w) ∨
    (∃ (j : Nat) (e : MapEntry), es[j]? = some e ∧ e.key = x ∧ (Instr.lookup mty (.map (some r)) x true).run P w = .ok (.tuple #[e.val, .bool true]) w) := by
  rcases K.find w hx es.toList hks with ⟨h1, h2⟩ | ⟨j, e, h1, h2, h3⟩
  · exact .inl ⟨h2, by simp [Instr.lookup, run_underlying hm, MapKept.run_getObj_map hb, K.check w _ hx, h1, hz, Result.andThen]⟩
  · exact .inr ⟨j, e, by simpa using h2, h3, by simp [Instr.lookup, run_underlying hm, MapKept.run_getObj_map hb, K.check w _ hx, h1, Result.andThen]⟩

/-- A map that holds each text of the pool with its place. -/
structure MapIs (es : Array MapEntry) (ps : List ByteArray) : Prop where
  size : es.size = ps.length
  at' : ∀ i (h : i < ps.length), ∃ e, es[i]? = some e ∧ e.key = .string ps[i] ∧ e.val = .int .i64 (i : Int)
theorem MapIs.start : MapIs #[] [] := ⟨rfl, fun i h => absurd h (by simp)⟩
theorem MapIs.push {es : Array MapEntry} {ps : List ByteArray} (h : MapIs es ps) (t : ByteArray) (n : Int) (hn : n = (ps.length : Int)) (born : Nat) : MapIs (es.push { key := .string t, val := .int .i64 n, born := born }) (ps ++ [t]) := by
  refine ⟨by simp [h.size], fun i hi => ?_⟩
  simp at hi
  by_cases e : i < ps.length
  · obtain ⟨x, h1, h2, h3⟩ := h.at' i e
    refine ⟨x, ?_, ?_, h3⟩
    · rw [Array.getElem?_push, if_neg (by rw [h.size]; omega)]; exact h1
    · rw [List.getElem_append_left e]; exact h2
  · have e2 : i = ps.length := by omega
    subst e2
    refine ⟨{ key := .string t, val := .int .i64 n, born := born }, ?_, ?_, by rw [hn]⟩
    · rw [Array.getElem?_push, if_pos h.size.symm]
    · simp
theorem MapIs.keys {es : Array MapEntry} {ps : List ByteArray} (h : MapIs es ps) : ∀ e ∈ es.toList, ∃ i, ∃ hi : i < ps.length, e.key = .string ps[i] := fun e he => by
  rw [Array.mem_toList_iff, Array.mem_iff_getElem?] at he
  obtain ⟨i, hi⟩ := he
  have hl : i < es.size := (Array.getElem?_eq_some_iff.1 hi).1
  rw [h.size] at hl
  obtain ⟨x, h1, h2, _⟩ := h.at' i hl
  rw [hi] at h1
  cases h1
  exact ⟨i, hl, h2⟩

theorem text_ne' {a b : ByteArray} (h : a ≠ b) : (a.toList == b.toList) = false := by
  rw [ByteArray.toList_eq, ByteArray.toList_eq, beq_eq_false_iff_ne]
  exact fun e => h (WideShapes.bytes_inj e)
theorem text_eq' {a b : ByteArray} (h : a = b) : (a.toList == b.toList) = true := by rw [h]; simp
theorem plc_here {ps : List ByteArray} (hn : ps.Nodup) {i : Nat} (hi : i < ps.length) : plc ps ps[i] = i :=
  plc_at hi (text_eq' rfl) fun j hj hji => text_ne' fun e => by
    exact (List.pairwise_iff_getElem.1 hn) j i hj hi hji e
theorem mkPool_nodup {ps : List ByteArray} (hn : ps.Nodup) (t : ByteArray) : (mkPool ps t).Nodup := by
  unfold mkPool
  split
  · exact hn
  · next h =>
    rw [List.nodup_append]
    refine ⟨hn, by simp, fun a ha b hb e => h ?_⟩
    rw [List.mem_singleton] at hb
    obtain ⟨i, hi, rfl⟩ := List.mem_iff_getElem.1 ha
    subst hb
    subst e
    rw [plc_here hn hi]
    exact hi
theorem mkPool_size {ps : List ByteArray} {t : ByteArray} {n : Nat} (hs : ∀ p ∈ ps, p.size ≤ n) (ht : t.size ≤ n) : ∀ p ∈ mkPool ps t, p.size ≤ n := by
  unfold mkPool
  split
  · exact hs
  · intro p hp
    rcases List.mem_append.1 hp with h | h
    · exact hs p h
    · rw [List.mem_singleton] at h; subst h; exact ht

structure WrAt (w : World) (mr mb : Nat) (st : WS) (vp vb : Value) (es : Array MapEntry) (ck : Nat) : Prop where
  buf : BufAt w mb st.2 vb
  c1 : w.cell? ⟨mb, 1, none⟩ = some (.map (some mr))
  c2 : w.cell? ⟨mb, 2, none⟩ = some vp
  f2 : w.frozen? ⟨mb, 2, none⟩ = false
  op : w.ownsRow (mb + 1) 9 1 vp st.1.length (sC st.1)
  hm : w.heap[mr]? = some (.map es ck)
  mp : MapIs es st.1
  lt : mr < mb
  nd : st.1.Nodup
  sz : ∀ p ∈ st.1, p.size ≤ maxLen
def ownW (mr mb : Nat) (vp vb : Value) : Nat → Prop := fun k => k = mr ∨ k = mb ∨ vp.ownBlock = some k ∨ vb.ownBlock = some k
def WrS (mr mb : Nat) (w : World) (st : WS) (F : Nat → Prop) : Prop := ∃ vp vb es ck, WrAt w mr mb st vp vb es ck ∧ F = ownW mr mb vp vb

theorem owns_heap {w w' : World} {base e : Nat} {v : Value} {n : Nat} {xs : List Value} (h : w.ownsRow base e 1 v n xs) (hk : ∀ k, v.ownBlock = some k → w'.heap[k]? = w.heap[k]?) : w'.ownsRow base e 1 v n xs := by
  refine ⟨h.1, ?_⟩
  rcases h.2 with k | ⟨g, cap, cur, h1, h2, h3, h4⟩
  · exact .inl k
  · exact .inr ⟨g, cap, cur, h1, h2, (hk g (by rw [h1]; rfl)).trans h3, h4⟩
theorem WrAt.below {w w' : World} {mr mb : Nat} {st : WS} {vp vb : Value} {es : Array MapEntry} {ck : Nat} (h : WrAt w mr mb st vp vb es ck) (hb : Below w.heap.size w w') : WrAt w' mr mb st vp vb es ck :=
  ⟨h.buf.below hb, (hb.cell h.buf.lt).trans h.c1, (hb.cell h.buf.lt).trans h.c2, (hb.frozen h.buf.lt).trans h.f2, owns_heap h.op fun k hk => hb.block k (h.op.lt k hk).2, (hb.block mr (by have := h.lt; have := h.buf.lt; omega)).trans h.hm, h.mp, h.lt, h.nd, h.sz⟩
theorem WrS.below {w w' : World} {mr mb : Nat} {st : WS} {F : Nat → Prop} (h : WrS mr mb w st F) (hb : Below w.heap.size w w') : WrS mr mb w' st F := by
  obtain ⟨vp, vb, es, ck, h1, h2⟩ := h
  exact ⟨vp, vb, es, ck, h1.below hb, h2⟩
theorem WrS.own_lt {mr mb : Nat} {w : World} {st : WS} {F : Nat → Prop} (h : WrS mr mb w st F) : ∀ k, F k → k < w.heap.size := by
  obtain ⟨vp, vb, es, ck, h1, rfl⟩ := h
  have := h1.lt
  have := h1.buf.lt
  rintro k (e | e | e | e)
  · omega
  · omega
  · exact (h1.op.lt k e).2
  · exact (h1.buf.ob.lt k e).2
theorem WrS.mr_lt {mr mb : Nat} {w : World} {st : WS} {F : Nat → Prop} (h : WrS mr mb w st F) : mr < w.heap.size := by
  obtain ⟨vp, vb, es, ck, h1, rfl⟩ := h
  have := h1.lt
  have := h1.buf.lt
  omega
/-- Behind a call of the buffer's. -/
theorem WrAt.buffer {w w' : World} {mr mb : Nat} {st : WS} {vp vb vb' : Value} {es : Array MapEntry} {ck : Nat} {bs' : List Int} (h : WrAt w mr mb st vp vb es ck) (hb : BufAt w' mb bs' vb') (hk : BufKept mb w w' vb vb') :
    WrAt w' mr mb (st.1, bs') vp vb' es ck ∧ Kept mr (ownW mr mb vp vb) w w' (ownW mr mb vp vb') := by
  have hap := rows_apart h.op h.buf.ob (by decide)
  refine ⟨⟨hb, (hk.side 1 (by decide)).trans h.c1, (hk.side 2 (by decide)).trans h.c2, (hk.fro 2).trans h.f2, ?_, (hk.low.block mr h.lt).trans h.hm, h.mp, h.lt, h.nd, h.sz⟩, ⟨hk.low.mono (Nat.le_of_lt h.lt), fun k hlt hn => ?_⟩⟩
  · refine owns_heap h.op fun k e => hk.far k (h.op.lt k e).2 ?_ ?_
    · have := (h.op.lt k e).1; omega
    · rcases hap with e1 | e1
      · rw [e] at e1; cases e1
      · exact fun e2 => e1 (e.trans e2.symm)
  · have n1 : k ≠ mb := fun e => hn (.inr (.inl e))
    have n2 : vb.ownBlock ≠ some k := fun e => hn (.inr (.inr (.inr e)))
    refine ⟨hk.far k hlt n1 n2, ?_⟩
    rintro (e | e | e | e)
    · exact hn (.inl e)
    · exact n1 e
    · exact hn (.inr (.inr (.inl e)))
    · rcases hk.lies with e1 | ⟨g, e1, hg⟩
      · exact n2 (e1.symm.trans e)
      · rw [e1] at e; cases e; omega

theorem implW1 (mr mb : Nat) (n : Int) (st : WS) (F : Nat → Prop) (w : World) (h : WrS mr mb w st F) (hz : wz st ≤ 1000000) :
    Calls Tryz.prog 48 #[.pointer (some ⟨mb, 0, none⟩), .int .i64 n] w fun e w' => e = .returned (.tuple #[]) ∧ ∃ F', WrS mr mb w' (tkP st (.n n)) F' ∧ Kept mr F w w' F' := by
  obtain ⟨vp, vb, es, ck, h1, rfl⟩ := h
  unfold wz at hz
  refine (implBuf1 mb n st.2 vb w h1.buf (by omega)).mono ?_
  rintro e w' ⟨rfl, vb', h2, h3⟩
  obtain ⟨h4, h5⟩ := h1.buffer h2 h3
  exact ⟨rfl, _, ⟨vp, vb', es, ck, h4, rfl⟩, h5⟩
theorem implW4 (mr mb : Nat) (n : Int) (st : WS) (F : Nat → Prop) (w : World) (h : WrS mr mb w st F) (hz : wz st ≤ 1000000) :
    Calls Tryz.prog 112 #[.pointer (some ⟨mb, 0, none⟩), .int .i64 n] w fun e w' => e = .returned (.tuple #[]) ∧ ∃ F', WrS mr mb w' (tkP st (.r (p4 n))) F' ∧ Kept mr F w w' F' := by
  obtain ⟨vp, vb, es, ck, h1, rfl⟩ := h
  unfold wz at hz
  refine (implBuf4 mb n st.2 vb w h1.buf (by omega)).mono ?_
  rintro e w' ⟨rfl, vb', h2, h3⟩
  obtain ⟨h4, h5⟩ := h1.buffer h2 h3
  exact ⟨rfl, _, ⟨vp, vb', es, ck, h4, rfl⟩, h5⟩
theorem implWF (mr mb tb : Nat) (ls : List Bool) (hn : ls.length ≤ 3) (st : WS) (F : Nat → Prop) (w : World) (h : WrS mr mb w st F) (hz : wz st ≤ 1000000) (ht : ∀ j (hj : j < ls.length), w.cell? ⟨tb, j, none⟩ = some (.bool ls[j])) :
    Calls Tryz.prog 68 #[.pointer (some ⟨mb, 0, none⟩), .slice (some ⟨tb, 0, none⟩) ls.length ls.length] w fun e w' => e = .returned (.tuple #[]) ∧ ∃ F', WrS mr mb w' (tkP st (.n (flB ls))) F' ∧ Kept mr F w w' F' := by
  obtain ⟨vp, vb, es, ck, h1, rfl⟩ := h
  unfold wz at hz
  refine (implFlags mb tb ls hn st.2 vb w h1.buf (by omega) ht).mono ?_
  rintro e w' ⟨rfl, vb', h2, h3⟩
  obtain ⟨h4, h5⟩ := h1.buffer h2 h3
  exact ⟨rfl, _, ⟨vp, vb', es, ck, h4, rfl⟩, h5⟩

theorem zeroI64 (w : World) : (zeroValue 2).run Tryz.prog w = .ok (.int .i64 0) w := by
  have h : (Tryz.prog.info? 2).map (fun i => i.zero) = some (some (.int .i64 0)) := by kernel_rfl
  cases hi : Tryz.prog.info? 2 with
  | none => rw [hi] at h; cases h
  | some i =>
    rw [hi] at h
    have hz : i.zero = some (.int .i64 0) := by simpa using h
    simp [zeroValue, typeInfo, hi, hz]
/-- Where a text stands, by the map. -/
theorem WrAt.look {w : World} {mr mb : Nat} {st : WS} {vp vb : Value} {es : Array MapEntry} {ck : Nat} (h : WrAt w mr mb st vp vb es ck) (t : ByteArray) (ht : t.size ≤ maxLen) :
    (plc st.1 t < st.1.length ∧ (Instr.lookup 55 (.map (some mr)) (.string t) true).run Tryz.prog w = .ok (.tuple #[.int .i64 (plc st.1 t : Int), .bool true]) w) ∨
    (plc st.1 t = st.1.length ∧ (Instr.lookup 55 (.map (some mr)) (.string t) true).run Tryz.prog w = .ok (.tuple #[.int .i64 0, .bool false]) w ∧
      ∀ v, (Instr.mapUpdate 55 (.map (some mr)) (.string t) v).run Tryz.prog w = .ok () (mapPut w mr (.map (es.push { key := .string t, val := v, born := ck }) (ck + 1)))) := by
  have hks : ∀ e ∈ es.toList, ∃ l, keyOf Tryz.prog 9 e.key = some l := fun e he => by
    obtain ⟨i, hi, hk⟩ := h.mp.keys e he
    rw [hk]
    exact ⟨_, WideMaps.keyOf_string_mk Tryz.underlying9 (h.sz _ (List.getElem_mem hi))⟩
  have hx : keyOf Tryz.prog 9 (.string t) = some (.string t.data.toList) := WideMaps.keyOf_string_mk Tryz.underlying9 ht
  rcases run_look strLaw Tryz.underlying55 h.hm hks hx (zeroI64 w) with ⟨hno, hr⟩ | ⟨j, e, hj, hk, hr⟩
  · refine .inr ⟨plc_none fun j hj => text_ne' fun e => ?_, hr, fun v => ?_⟩
    · obtain ⟨x, h1, h2, _⟩ := h.mp.at' j hj
      refine hno x (MapFrom.at_mem h1) ?_
      rw [h2, e]
    · rcases run_upd strLaw Tryz.underlying55 h.hm hks hx v with ⟨_, hu⟩ | ⟨j, e, hj, hk, hu⟩
      · exact hu
      · exact absurd hk (hno e (MapFrom.at_mem hj))
  · have hl : j < st.1.length := by rw [← h.mp.size]; exact (Array.getElem?_eq_some_iff.1 hj).1
    obtain ⟨x, h1, h2, h3⟩ := h.mp.at' j hl
    rw [hj] at h1
    cases h1
    have e1 : st.1[j] = t := by rw [hk] at h2; exact (Value.string.inj h2).symm
    have e2 : plc st.1 t = j := by rw [← e1]; exact plc_here h.nd hl
    refine .inl ⟨by rw [e2]; exact hl, ?_⟩
    rw [hr, h3, e2]
end Go.Proofs.YtgmlooemiokhfajGreatDoor

/-
  The program's writer tells texts by their places (tell).
-/
namespace Go.Proofs.YtgmlooemiokhfajGreatDoor
open Go.RowKit
set_option maxRecDepth 20000
set_option linter.unusedVariables false

/-- Behind a new text: the map and the pool have it. -/
theorem WrAt.grow {w w4 : World} {mr mb : Nat} {st : WS} {vp vb v' : Value} {es : Array MapEntry} {ck : Nat} (h : WrAt w mr mb st vp vb es ck) (t : ByteArray) (ht : t.size ≤ maxLen) (hp : plc st.1 t = st.1.length) (o : Obj)
    (hg : ((mapPut w mr (.map (es.push { key := .string t, val := .int .i64 (st.1.length : Int), born := ck }) (ck + 1))).alloc o).grownBy w4 vp.ownBlock)
    (hown : w4.ownsRow (mb + 1) 9 1 v' (st.1 ++ [t]).length (sC (st.1 ++ [t]))) (hat : v'.ownBlock = vp.ownBlock ∨ v'.ownBlock = some (w.heap.size + 1)) :
    WrAt (w4.setCell ⟨mb, 2, none⟩ v') mr mb (st.1 ++ [t], st.2) v' vb (es.push { key := .string t, val := .int .i64 (st.1.length : Int), born := ck }) (ck + 1) ∧ Kept mr (ownW mr mb vp vb) w (w4.setCell ⟨mb, 2, none⟩ v') (ownW mr mb v' vb) := by
  have hlt := h.lt
  have hmb := h.buf.lt
  have hsz : ((mapPut w mr (.map (es.push { key := .string t, val := .int .i64 (st.1.length : Int), born := ck }) (ck + 1))).alloc o).heap.size = w.heap.size + 1 := by simp [mapPut_size]
  have hfar : ∀ k, k < w.heap.size → k ≠ mr → vp.ownBlock ≠ some k → w4.heap[k]? = w.heap[k]? := fun k hk n1 n2 => by
    rw [hg.block k (by rw [hsz]; omega) (Ne.symm n2), Below.heap_alloc _ _ _ (by rw [mapPut_size]; exact hk), mapPut_other n1]
  have hmr : w4.heap[mr]? = some (.map (es.push { key := .string t, val := .int .i64 (st.1.length : Int), born := ck }) (ck + 1)) := by
    rw [hg.block mr (by rw [hsz]; omega) (fun e => by have := (h.op.lt mr e.symm).1; omega), Below.heap_alloc _ _ _ (by rw [mapPut_size]; omega)]
    exact mapPut_at h.hm
  have nmb : vp.ownBlock ≠ some mb := fun e => by have := (h.op.lt mb e).1; omega
  have hblk : w4.heap[mb]? = w.heap[mb]? := hfar mb hmb (by omega) nmb
  have k2 : w4.cell? ⟨mb, 2, none⟩ = some vp := (World.cell?_of_block hblk).trans h.c2
  have hap := rows_apart h.buf.ob h.op (by decide)
  have hsize : w.heap.size ≤ w4.heap.size := by have := hg.size; rw [hsz] at this; omega
  have hs2 : (w4.setCell ⟨mb, 2, none⟩ v').heap.size = w4.heap.size := by simp [World.setCell]
  have hpool : mkPool st.1 t = st.1 ++ [t] := by unfold mkPool; rw [if_neg (by omega)]
  refine ⟨⟨⟨?_, ?_, ?_, ?_⟩, ?_, ?_, ?_, owns_put hown (by simp), ?_, h.mp.push t _ rfl ck, h.lt, ?_, ?_⟩, ⟨⟨hg.os, hg.tape, hg.output, by rw [hs2]; exact hsize, fun k hk => ?_⟩, fun k hk hn => ?_⟩⟩
  · rw [World.cell?_setCell_other _ _ _ _ (by intro e; cases e)]; exact (World.cell?_of_block hblk).trans h.buf.c0
  · rw [World.frozen?_setCell]; exact (World.frozen?_of_block hblk).trans h.buf.f0
  · refine owns_put (owns_heap h.buf.ob fun k e => hfar k (h.buf.ob.lt k e).2 ?_ ?_) (by simp)
    · have := (h.buf.ob.lt k e).1; omega
    · rcases hap with e1 | e1
      · rw [e] at e1; cases e1
      · exact fun e2 => e1 (e.trans e2.symm)
  · rw [hs2]; omega
  · rw [World.cell?_setCell_other _ _ _ _ (by intro e; cases e)]; exact (World.cell?_of_block hblk).trans h.c1
  · exact World.cell?_setCell_same _ _ _ k2
  · rw [World.frozen?_setCell]; exact (World.frozen?_of_block hblk).trans h.f2
  · rw [Below.heap_setCell _ _ _ _ (by simp; omega)]; exact hmr
  · have := mkPool_nodup h.nd t; rw [hpool] at this; exact this
  · have := mkPool_size h.sz ht; rw [hpool] at this; exact this
  · rw [Below.heap_setCell _ _ _ _ (by simp; omega)]; exact hfar k (by omega) (by omega) (fun e => by have := (h.op.lt k e).1; omega)
  · have n0 : k ≠ mr := fun e => hn (.inl e)
    have n1 : k ≠ mb := fun e => hn (.inr (.inl e))
    have n2 : vp.ownBlock ≠ some k := fun e => hn (.inr (.inr (.inl e)))
    refine ⟨?_, ?_⟩
    · rw [Below.heap_setCell _ _ _ _ (by simpa using n1)]; exact hfar k hk n0 n2
    · rintro (e | e | e | e)
      · exact n0 e
      · exact n1 e
      · rcases hat with e1 | e1
        · exact n2 (e1.symm.trans e)
        · rw [e1] at e; cases e; omega
      · exact hn (.inr (.inr (.inr e)))

theorem tksP_take {α : Type} (f : α → Tok) (xs : List α) (i : Nat) (h : i < xs.length) (st : WS) : tksP st ((xs.take (i + 1)).map f) = tkP (tksP st ((xs.take i).map f)) (f xs[i]) := by
  have e : xs.take (i + 1) = xs.take i ++ [xs[i]] := by rw [List.take_add_one, List.getElem?_eq_getElem h]; rfl
  rw [e, List.map_append, tksP_app]
  rfl

set_option maxHeartbeats 2000000 in
theorem implTell (mr mb tb : Nat) (ts : List ByteArray) (hn : ts.length ≤ 3) (hs : ∀ t ∈ ts, t.size ≤ maxLen) (st : WS) (F : Nat → Prop) (w : World) (h : WrS mr mb w st F) (hz : wz st ≤ 900000) (hbox : Box F w tb (sC ts)) :
    Calls Tryz.prog 67 #[.pointer (some ⟨mb, 0, none⟩), .slice (some ⟨tb, 0, none⟩) ts.length ts.length] w fun e w' => e = .returned (.tuple #[]) ∧ ∃ F', WrS mr mb w' (tksP st (ts.map .t)) F' ∧ Kept mr F w w' F' := by
  obtain ⟨i0, hi0, hz0, hz1, hz2⟩ := info_parts infoStr
  have HI : Hid (Tryz.prog.info? 9 = some i0 ∧ i0.zero = some (.string ⟨#[]⟩) ∧ i0.size = 1 ∧ i0.bytes = 16) := ⟨hi0, hz0, hz1, hz2⟩
  clear hi0 hz0 hz1 hz2
  have HS : Hid (∀ i (h : i < ts.length), ts[i].size ≤ maxLen) := fun i h => hs _ (List.getElem_mem h)
  have H0 := (show Hid (WrS mr mb w st F) from h)
  have HBX := (show Hid (Box F w tb (sC ts)) from hbox)
  have HZ : Hid (∀ i, wz (tksP st ((ts.take i).map .t)) ≤ 900006) := fun i => by
    have h1 := tksP_wz ((ts.take i).map .t) st
    have h2 : wt ((ts.take i).map Tok.t) = (ts.take i).length := by
      generalize ts.take i = l
      induction l with
      | nil => rfl
      | cons a l ih => rw [List.map_cons, wt_cons, ih]; simp [wt1]; omega
    have h3 : (ts.take i).length ≤ 3 := by simp; omega
    omega
  have HEnd : Hid (tksP st ((ts.take ts.length).map .t) = tksP st (ts.map .t)) := by show _ = _; rw [List.take_of_length_le (Nat.le_refl _)]
  have HTk : Hid (∀ i (h : i < ts.length), tksP st ((ts.take (i + 1)).map .t) = tkP (tksP st ((ts.take i).map .t)) (.t ts[i])) := fun i h => tksP_take .t ts i h st
  have HP : Hid (∀ n st F w, WrS mr mb w st F → wz st ≤ 1000000 → Calls Tryz.prog 48 #[.pointer (some ⟨mb, 0, none⟩), .int .i64 n] w fun e w' => e = .returned (.tuple #[]) ∧ ∃ F', WrS mr mb w' (tkP st (.n n)) F' ∧ Kept mr F w w' F') := fun n st F w h hz => implW1 mr mb n st F w h hz
  clear h hz hbox hs
  go_enter Tryz.func67, Tryz.ntmps67
  go_wp2_with fail
  go_loopw [5, 6, 7, 10] (fun j5 j6 j7 j10 wr => ∃ i : Nat, i ≤ ts.length ∧ j10 = .int .i64 (i : Int) ∧ ∃ Fr, WrS mr mb wr (tksP st ((ts.take i).map .t)) Fr ∧ Kept mr F w wr Fr ∧ Box Fr wr tb (sC ts)) (fun _ _ _ j10 _ => ts.length - (intOf j10).toNat)
  case atStart => exact ⟨0, Nat.zero_le _, rfl, F, H0.out, Kept.refl _ _ _, HBX.out⟩
  case round =>
    obtain ⟨i, hi, rfl, F1, hw, hk, hb⟩ := hrel
    have HK1 := (show Hid (Kept mr F w wr F1) from hk)
    have HB1 := (show Hid (Box F1 wr tb (sC ts)) from hb)
    have HZ1 := (show Hid _ from HZ.out i)
    by_cases hlt : i < ts.length
    · have hc : wr.cell? ⟨tb, i, none⟩ = some (.string ts[i]) := hb.cells i _ (by rw [sC, List.getElem?_map, List.getElem?_eq_getElem hlt]; rfl)
      have hc2 : wr.cell? ⟨tb, 0 + i, none⟩ = some (.string ts[i]) := by rw [Nat.zero_add]; exact hc
      have hc3 : wr.cell? ⟨tb, 0 + i * 1, none⟩ = some (.string ts[i]) := by rw [Nat.mul_one]; exact hc2
      have HN := (show Hid _ from HTk.out i hlt)
      have hts := HS.out i hlt
      generalize ts[i] = t at *
      generalize tksP st ((ts.take i).map .t) = s1 at *
      obtain ⟨vp, vb, es, ck, hat, hF⟩ := hw
      have HW := (show Hid (WrAt wr mr mb s1 vp vb es ck) from hat)
      have c1 := hat.c1
      have c2 := hat.c2
      have hlook := hat.look t hts
      clear hat hk hb
      have HO : Hid (∃ a cap, vp = .slice a s1.1.length cap) := by
        show ∃ a cap, _
        rcases HW.out.op.2 with ⟨e, h0⟩ | ⟨g, cap, cur, e, _⟩
        · exact ⟨none, 0, by rw [e, h0]⟩
        · exact ⟨_, _, e⟩
      obtain ⟨a, cap, rfl⟩ := HO.out
      clear HO
      rcases hlook with ⟨hp, hlk⟩ | ⟨hp, hlk, hup⟩
      · have HE : Hid (tkP s1 (.n (plc s1.1 t : Int)) = tkP s1 (.t t)) := by
          show (s1.1, s1.2 ++ p1l (plc s1.1 t : Int)) = (mkPool s1.1 t, s1.2 ++ p1l (plc s1.1 t : Int))
          unfold mkPool; rw [if_pos hp]
        generalize (plc s1.1 t) = pl at *
        go_wp2_with fail
        refine Calls.mono (HP.out _ s1 F1 wr ⟨_, _, _, _, HW.out, hF⟩ (by have := HZ1.out; omega)) ?_
        rintro e w2 ⟨rfl, F2, hm2, hk2⟩
        have HX : Hid (WrS mr mb w2 (tkP s1 (.t t)) F2 ∧ Kept mr F w w2 F2 ∧ Box F2 w2 tb (sC ts)) := ⟨by rw [← HE.out]; exact hm2, HK1.out.trans hk2, hk2.box HB1.out⟩
        clear hm2 hk2
        go_wp2
        go_roundw
        case rel => exact ⟨i + 1, by omega, by go_num, F2, by rw [HN.out]; exact HX.out.1, HX.out.2.1, HX.out.2.2⟩
        case measure => simp [intOf]; omega
      · have hupd := hup (.int .i64 (s1.1.length : Int))
        clear hup
        have HG := (show Hid _ from fun (o : Obj) (w4 : World) (v' : Value) => HW.out.grow (w4 := w4) (v' := v') t hts hp o)
        have HE : Hid (tkP (s1.1 ++ [t], s1.2) (.n (s1.1.length : Int)) = tkP s1 (.t t)) := by
          show (s1.1 ++ [t], s1.2 ++ p1l (s1.1.length : Int)) = (mkPool s1.1 t, s1.2 ++ p1l (plc s1.1 t : Int))
          unfold mkPool; rw [if_neg (by omega), hp]
        have hmb := HW.out.buf.lt
        have hne : some mb ≠ (Value.slice a s1.1.length cap).ownBlock := fun e => by have := (HW.out.op.lt mb e.symm).1; omega
        have HSz : Hid ((mapPut wr mr (.map (es.push { key := .string t, val := .int .i64 (s1.1.length : Int), born := ck }) (ck + 1))).heap.size = wr.heap.size) := mapPut_size _ _ _
        have hbl : (mapPut wr mr (.map (es.push { key := .string t, val := .int .i64 (s1.1.length : Int), born := ck }) (ck + 1))).heap[mb]? = wr.heap[mb]? := mapPut_other (by have := HW.out.lt; omega)
        have HOu : Hid ((mapPut wr mr (.map (es.push { key := .string t, val := .int .i64 (s1.1.length : Int), born := ck }) (ck + 1))).ownsRow (mb + 1) 9 1 (.slice a s1.1.length cap) s1.1.length (sC s1.1)) :=
          owns_heap HW.out.op fun k e => mapPut_other (by have := (HW.out.op.lt k e).1; have := HW.out.lt; omega)
        generalize mapPut wr mr (.map (es.push { key := .string t, val := .int .i64 (s1.1.length : Int), born := ck }) (ck + 1)) = wu at *
        have hmu : mb < wu.heap.size := by rw [HSz.out]; exact hmb
        have c2u : wu.cell? ⟨mb, 2, none⟩ = some (.slice a s1.1.length cap) := (World.cell?_of_block hbl).trans c2
        have f2u : wu.frozen? ⟨mb, 2, none⟩ = false := (World.frozen?_of_block hbl).trans HW.out.f2
        have hz1 := HZ1.out
        unfold wz at hz1
        go_wp2_with (at_builtin; refine wpList_append_lies _ rfl _ _ 27 rfl (mb + 1) 9 i0 (.string ⟨#[]⟩) 1 16 Tryz.underlying27 HI.out.1 HI.out.2.1 HI.out.2.2.1 HI.out.2.2.2 rfl (by decide) _ _ _ rfl (HOu.out.alloc _) ⟨wu.heap.size, 0, none⟩ 1 1 [.string t] rfl rfl (splNews wu t) ?c2 (by decide) ?c3 ?c4 ?c5 (wu.heap.size + 1) ?c6 ?_)
        case c2 => intro u hu; simp at hu; subst hu; rfl
        case c3 => unfold maxLen; omega
        case c4 => omega
        case c5 => simp; omega
        case c6 => simp
        intro g cp w4 hown hgrow hat _
        rw [sC_snoc] at hown
        have hlen : (s1.1 ++ [t]).length = s1.1.length + 1 := by simp
        have hown2 : w4.ownsRow (mb + 1) 9 1 (.slice (some ⟨g, 0, none⟩) (s1.1.length + 1) cp) (s1.1 ++ [t]).length (sC (s1.1 ++ [t])) := by rw [hlen]; exact hown
        have HX := (show Hid _ from HG.out _ w4 (.slice (some ⟨g, 0, none⟩) (s1.1.length + 1) cp) hgrow hown2 (by rcases hat with e | e; exact .inl e.symm; exact .inr (by rw [e, HSz.out]; rfl)))
        have k2 : w4.cell? ⟨mb, 2, none⟩ = some (.slice a s1.1.length cap) := (hgrow.cell_far _ (by simp; omega) hne).trans ((World.cell?_of_block (Below.heap_alloc _ _ _ (by simp; omega))).trans c2u)
        have z2 : w4.frozen? ⟨mb, 2, none⟩ = false := (hgrow.frozen_far _ (by simp; omega) hne).trans ((World.frozen?_of_block (Below.heap_alloc _ _ _ (by simp; omega))).trans f2u)
        have hF2 : Hid (F1 = ownW mr mb (.slice a s1.1.length cap) vb) := hF
        clear hown hown2 hgrow hat hlen HG hF
        go_wp2_with fail
        refine Calls.mono (HP.out _ (s1.1 ++ [t], s1.2) _ _ ⟨_, _, _, _, HX.out.1, rfl⟩ (by unfold wz; simp; omega)) ?_
        rintro e w5 ⟨rfl, F5, hm5, hk5⟩
        have HY : Hid (WrS mr mb w5 (tkP s1 (.t t)) F5 ∧ Kept mr F w w5 F5 ∧ Box F5 w5 tb (sC ts)) := by
          have hk := HX.out.2
          rw [← hF2.out] at hk
          exact ⟨by rw [← HE.out]; exact hm5, (HK1.out.trans hk).trans hk5, hk5.box (hk.box HB1.out)⟩
        clear hm5 hk5 HX
        go_wp2
        go_roundw
        case rel => exact ⟨i + 1, by omega, by go_num, F5, by rw [HN.out]; exact HY.out.1, HY.out.2.1, HY.out.2.2⟩
        case measure => simp [intOf]; omega
    · obtain rfl : i = ts.length := by omega
      rw [HEnd.out] at hw
      have HW := (show Hid (WrS mr mb wr (tksP st (ts.map .t)) F1) from hw)
      clear hw hk hb
      go_wp2
      refine bodyPost_end (v := .tuple #[]) (by simp [results, go_sem]) rfl ⟨rfl, F1, HW.out, HK1.out⟩
end Go.Proofs.YtgmlooemiokhfajGreatDoor
