import Derived.Test.YtnenhhlgabghfaaGreatDoorWr
/-
 The program's writer tells texts by their places (tell).
-/
namespace Go.Proofs.YtnenhhlgabghfaaGreatDoor
open Go.RowKit
set_option maxRecDepth 20000
set_option linter.unusedVariables false

/-- Behind a new text: the map and the pool have it. -/
theorem WrAt.grow {w w4 : World} {mr mb : Nat} {st : WS} {vp vb v' : Value} {es : Array MapEntry} {ck : Nat} (h : WrAt w mr mb st vp vb es ck) (t : ByteArray) (ht : t.size ≤ maxLen) (hp : plc st.1 t = st.1.length) (o : Obj)
  (hg : ((mapPut w mr (.map (es.push { key := .string t, val := .int .i64 (st.1.length : Int), born := ck }) (ck + 1))).alloc o).grownBy w4 vp.ownBlock)
  (hown : w4.ownsRow (mb + 1) 9 1 v' (st.1 ++ [t]).length (sC (st.1 ++ [t]))) (hat : v'.ownBlock = vp.ownBlock ∨ v'.ownBlock = some (w.heap.size + 1)) :
  WrAt (w4.setCell ⟨mb, 2, none⟩ v') mr mb (st.1 ++ [t], st.2) v' vb (es.push { key := .string t, val := .int .i64 (st.1.length : Int), born := ck }) (ck + 1) ∧ Kept mr (ownW mr mb vp vb) w (w4.setCell ⟨mb, 2, none⟩ v') (ownW mr mb v' vb) := by
 have hlt := h.lt
 have hmb := h.buf.lt
 have hsz : ((mapPut w mr (.map (es.push { key := .string t, val := .int .i64 (st.1.length : Int), born := ck }) (ck + 1))).alloc o).heap.size = w.heap.size + 1 := by simp [mapPut_size]
 have hfar : ∀ k, k < w.heap.size → k ≠ mr → vp.ownBlock ≠ some k → w4.heap[k]? = w.heap[k]? := fun k hk n1 n2 => by
  rw [hg.block k (by rw [hsz]; omega) (Ne.symm n2), Below.heap_alloc _ _ _ (by rw [mapPut_size]; exact hk), mapPut_other n1]
 have hmr : w4.heap[mr]? = some (.map (es.push { key := .string t, val := .int .i64 (st.1.length : Int), born := ck }) (ck + 1)) := by
  rw [hg.block mr (by rw [hsz]; omega) (fun e => by have := (h.op.lt mr e.symm).1; omega), Below.heap_alloc _ _ _ (by rw [mapPut_size]; omega)]
  exact mapPut_at h.hm
 have nmb : vp.ownBlock ≠ some mb := fun e => by have := (h.op.lt mb e).1; omega
 have hblk : w4.heap[mb]? = w.heap[mb]? := hfar mb hmb (by omega) nmb
 have k2 : w4.cell? ⟨mb, 2, none⟩ = some vp := (World.cell?_of_block hblk).trans h.c2
 have hap := rows_apart h.buf.ob h.op (by decide)
 have hsize : w.heap.size ≤ w4.heap.size := by have := hg.size; rw [hsz] at this; omega
 have hs2 : (w4.setCell ⟨mb, 2, none⟩ v').heap.size = w4.heap.size := by simp [World.setCell]
 have hpool : mkPool st.1 t = st.1 ++ [t] := by unfold mkPool; rw [if_neg (by omega)]
 refine ⟨⟨⟨?_, ?_, ?_, ?_⟩, ?_, ?_, ?_, owns_put hown (by simp), ?_, h.mp.push t _ rfl ck, h.lt, ?_, ?_⟩, ⟨⟨hg.os, hg.tape, hg.output, by rw [hs2]; exact hsize, fun k hk => ?_⟩, fun k hk hn => ?_⟩⟩
 ·rw [World.cell?_setCell_other _ _ _ _ (by intro e; cases e)]; exact (World.cell?_of_block hblk).trans h.buf.c0
 ·rw [World.frozen?_setCell]; exact (World.frozen?_of_block hblk).trans h.buf.f0
 ·refine owns_put (owns_heap h.buf.ob fun k e => hfar k (h.buf.ob.lt k e).2 ?_ ?_) (by simp)
  ·have := (h.buf.ob.lt k e).1; omega
  ·rcases hap with e1 | e1
   ·rw [e] at e1; cases e1
   ·exact fun e2 => e1 (e.trans e2.symm)
 ·rw [hs2]; omega
 ·rw [World.cell?_setCell_other _ _ _ _ (by intro e; cases e)]; exact (World.cell?_of_block hblk).trans h.c1
 ·exact World.cell?_setCell_same _ _ _ k2
 ·rw [World.frozen?_setCell]; exact (World.frozen?_of_block hblk).trans h.f2
 ·rw [Below.heap_setCell _ _ _ _ (by simp; omega)]; exact hmr
 ·have := mkPool_nodup h.nd t; rw [hpool] at this; exact this
 ·have := mkPool_size h.sz ht; rw [hpool] at this; exact this
 ·rw [Below.heap_setCell _ _ _ _ (by simp; omega)]; exact hfar k (by omega) (by omega) (fun e => by have := (h.op.lt k e).1; omega)
 ·have n0 : k ≠ mr := fun e => hn (.inl e)
  have n1 : k ≠ mb := fun e => hn (.inr (.inl e))
  have n2 : vp.ownBlock ≠ some k := fun e => hn (.inr (.inr (.inl e)))
  refine ⟨?_, ?_⟩
  ·rw [Below.heap_setCell _ _ _ _ (by simpa using n1)]; exact hfar k hk n0 n2
  ·rintro (e | e | e | e)
   ·exact n0 e
   ·exact n1 e
   ·rcases hat with e1 | e1
    ·exact n2 (e1.symm.trans e)
    ·rw [e1] at e; cases e; omega
   ·exact hn (.inr (.inr (.inr e)))

theorem tksP_take {α : Type} (f : α → Tok) (xs : List α) (i : Nat) (h : i < xs.length) (st : WS) : tksP st ((xs.take (i + 1)).map f) = tkP (tksP st ((xs.take i).map f)) (f xs[i]) := by
 have e : xs.take (i + 1) = xs.take i ++ [xs[i]] := by rw [List.take_add_one, List.getElem?_eq_getElem h]; rfl
 rw [e, List.map_append, tksP_app]
 rfl

set_option maxHeartbeats 2000000 in
theorem implTell (mr mb tb : Nat) (ts : List ByteArray) (hn : ts.length ≤ 3) (hs : ∀ t ∈ ts, t.size ≤ maxLen) (st : WS) (F : Nat → Prop) (w : World) (h : WrS mr mb w st F) (hz : wz st ≤ 900000) (hbox : Box F w tb (sC ts)) :
  Calls Tryz.prog 36 #[.pointer (some ⟨mb, 0, none⟩), .slice (some ⟨tb, 0, none⟩) ts.length ts.length] w fun e w' => e = .returned (.tuple #[]) ∧ ∃ F', WrS mr mb w' (tksP st (ts.map .t)) F' ∧ Kept mr F w w' F' := by
 obtain ⟨i0, hi0, hz0, hz1, hz2⟩ := info_parts infoStr
 have HI : Hid (Tryz.prog.info? 9 = some i0 ∧ i0.zero = some (.string ⟨#[]⟩) ∧ i0.size = 1 ∧ i0.bytes = 16) := ⟨hi0, hz0, hz1, hz2⟩
 clear hi0 hz0 hz1 hz2
 have HS : Hid (∀ i (h : i < ts.length), ts[i].size ≤ maxLen) := fun i h => hs _ (List.getElem_mem h)
 have H0 := (show Hid (WrS mr mb w st F) from h)
 have HBX := (show Hid (Box F w tb (sC ts)) from hbox)
 have HZ : Hid (∀ i, wz (tksP st ((ts.take i).map .t)) ≤ 900006) := fun i => by
  have h1 := tksP_wz ((ts.take i).map .t) st
  have h2 : wt ((ts.take i).map Tok.t) = (ts.take i).length := by
   generalize ts.take i = l
   induction l with
   | nil => rfl
   | cons a l ih => rw [List.map_cons, wt_cons, ih]; simp [wt1]; omega
  have h3 : (ts.take i).length ≤ 3 := by simp; omega
  omega
 have HEnd : Hid (tksP st ((ts.take ts.length).map .t) = tksP st (ts.map .t)) := by show _ = _; rw [List.take_of_length_le (Nat.le_refl _)]
 have HTk : Hid (∀ i (h : i < ts.length), tksP st ((ts.take (i + 1)).map .t) = tkP (tksP st ((ts.take i).map .t)) (.t ts[i])) := fun i h => tksP_take .t ts i h st
 have HP : Hid (∀ n st F w, WrS mr mb w st F → wz st ≤ 1000000 → Calls Tryz.prog 60 #[.pointer (some ⟨mb, 0, none⟩), .int .i64 n] w fun e w' => e = .returned (.tuple #[]) ∧ ∃ F', WrS mr mb w' (tkP st (.n n)) F' ∧ Kept mr F w w' F') := fun n st F w h hz => implW1 mr mb n st F w h hz
 clear h hz hbox hs
 go_enter Tryz.func36, Tryz.ntmps36
 go_wp2_with fail
 go_loopw [5, 6, 7, 10] (fun j5 j6 j7 j10 wr => ∃ i : Nat, i ≤ ts.length ∧ j10 = .int .i64 (i : Int) ∧ ∃ Fr, WrS mr mb wr (tksP st ((ts.take i).map .t)) Fr ∧ Kept mr F w wr Fr ∧ Box Fr wr tb (sC ts)) (fun _ _ _ j10 _ => ts.length - (intOf j10).toNat)
 case atStart => exact ⟨0, Nat.zero_le _, rfl, F, H0.out, Kept.refl _ _ _, HBX.out⟩
 case round =>
  obtain ⟨i, hi, rfl, F1, hw, hk, hb⟩ := hrel
  have HK1 := (show Hid (Kept mr F w wr F1) from hk)
  have HB1 := (show Hid (Box F1 wr tb (sC ts)) from hb)
  have HZ1 := (show Hid _ from HZ.out i)
  by_cases hlt : i < ts.length
  ·have hc : wr.cell? ⟨tb, i, none⟩ = some (.string ts[i]) := hb.cells i _ (by rw [sC, List.getElem?_map, List.getElem?_eq_getElem hlt]; rfl)
   have hc2 : wr.cell? ⟨tb, 0 + i, none⟩ = some (.string ts[i]) := by rw [Nat.zero_add]; exact hc
   have hc3 : wr.cell? ⟨tb, 0 + i * 1, none⟩ = some (.string ts[i]) := by rw [Nat.mul_one]; exact hc2
   have HN := (show Hid _ from HTk.out i hlt)
   have hts := HS.out i hlt
   generalize ts[i] = t at *
   generalize tksP st ((ts.take i).map .t) = s1 at *
   obtain ⟨vp, vb, es, ck, hat, hF⟩ := hw
   have HW := (show Hid (WrAt wr mr mb s1 vp vb es ck) from hat)
   have c1 := hat.c1
   have c2 := hat.c2
   have hlook := hat.look t hts
   clear hat hk hb
   have HO : Hid (∃ a cap, vp = .slice a s1.1.length cap) := by
    show ∃ a cap, _
    rcases HW.out.op.2 with ⟨e, h0⟩ | ⟨g, cap, cur, e, _⟩
    ·exact ⟨none, 0, by rw [e, h0]⟩
    ·exact ⟨_, _, e⟩
   obtain ⟨a, cap, rfl⟩ := HO.out
   clear HO
   rcases hlook with ⟨hp, hlk⟩ | ⟨hp, hlk, hup⟩
   ·have HE : Hid (tkP s1 (.n (plc s1.1 t : Int)) = tkP s1 (.t t)) := by
     show (s1.1, s1.2 ++ p1l (plc s1.1 t : Int)) = (mkPool s1.1 t, s1.2 ++ p1l (plc s1.1 t : Int))
     unfold mkPool; rw [if_pos hp]
    generalize (plc s1.1 t) = pl at *
    go_wp2_with fail
    refine Calls.mono (HP.out _ s1 F1 wr ⟨_, _, _, _, HW.out, hF⟩ (by have := HZ1.out; omega)) ?_
    rintro e w2 ⟨rfl, F2, hm2, hk2⟩
    have HX : Hid (WrS mr mb w2 (tkP s1 (.t t)) F2 ∧ Kept mr F w w2 F2 ∧ Box F2 w2 tb (sC ts)) := ⟨by rw [← HE.out]; exact hm2, HK1.out.trans hk2, hk2.box HB1.out⟩
    clear hm2 hk2
    go_wp2
    go_roundw
    case rel => exact ⟨i + 1, by omega, by go_num, F2, by rw [HN.out]; exact HX.out.1, HX.out.2.1, HX.out.2.2⟩
    case measure => simp [intOf]; omega
   ·have hupd := hup (.int .i64 (s1.1.length : Int))
    clear hup
    have HG := (show Hid _ from fun (o : Obj) (w4 : World) (v' : Value) => HW.out.grow (w4 := w4) (v' := v') t hts hp o)
    have HE : Hid (tkP (s1.1 ++ [t], s1.2) (.n (s1.1.length : Int)) = tkP s1 (.t t)) := by
     show (s1.1 ++ [t], s1.2 ++ p1l (s1.1.length : Int)) = (mkPool s1.1 t, s1.2 ++ p1l (plc s1.1 t : Int))
     unfold mkPool; rw [if_neg (by omega), hp]
    have hmb := HW.out.buf.lt
    have hne : some mb ≠ (Value.slice a s1.1.length cap).ownBlock := fun e => by have := (HW.out.op.lt mb e.symm).1; omega
    have HSz : Hid ((mapPut wr mr (.map (es.push { key := .string t, val := .int .i64 (s1.1.length : Int), born := ck }) (ck + 1))).heap.size = wr.heap.size) := mapPut_size _ _ _
    have hbl : (mapPut wr mr (.map (es.push { key := .string t, val := .int .i64 (s1.1.length : Int), born := ck }) (ck + 1))).heap[mb]? = wr.heap[mb]? := mapPut_other (by have := HW.out.lt; omega)
    have HOu : Hid ((mapPut wr mr (.map (es.push { key := .string t, val := .int .i64 (s1.1.length : Int), born := ck }) (ck + 1))).ownsRow (mb + 1) 9 1 (.slice a s1.1.length cap) s1.1.length (sC s1.1)) :=
     owns_heap HW.out.op fun k e => mapPut_other (by have := (HW.out.op.lt k e).1; have := HW.out.lt; omega)
    generalize mapPut wr mr (.map (es.push { key := .string t, val := .int .i64 (s1.1.length : Int), born := ck }) (ck + 1)) = wu at *
    have hmu : mb < wu.heap.size := by rw [HSz.out]; exact hmb
    have c2u : wu.cell? ⟨mb, 2, none⟩ = some (.slice a s1.1.length cap) := (World.cell?_of_block hbl).trans c2
    have f2u : wu.frozen? ⟨mb, 2, none⟩ = false := (World.frozen?_of_block hbl).trans HW.out.f2
    have hz1 := HZ1.out
    unfold wz at hz1
    go_wp2_with (at_builtin; refine wpList_append_lies _ rfl _ _ 28 rfl (mb + 1) 9 i0 (.string ⟨#[]⟩) 1 16 Tryz.underlying28 HI.out.1 HI.out.2.1 HI.out.2.2.1 HI.out.2.2.2 rfl (by decide) _ _ _ rfl (HOu.out.alloc _) ⟨wu.heap.size, 0, none⟩ 1 1 [.string t] rfl rfl (splNews wu t) ?c2 (by decide) ?c3 ?c4 ?c5 (wu.heap.size + 1) ?c6 ?_)
    case c2 => intro u hu; simp at hu; subst hu; rfl
    case c3 => unfold maxLen; omega
    case c4 => omega
    case c5 => simp; omega
    case c6 => simp
    intro g cp w4 hown hgrow hat _
    rw [sC_snoc] at hown
    have hlen : (s1.1 ++ [t]).length = s1.1.length + 1 := by simp
    have hown2 : w4.ownsRow (mb + 1) 9 1 (.slice (some ⟨g, 0, none⟩) (s1.1.length + 1) cp) (s1.1 ++ [t]).length (sC (s1.1 ++ [t])) := by rw [hlen]; exact hown
    have HX := (show Hid _ from HG.out _ w4 (.slice (some ⟨g, 0, none⟩) (s1.1.length + 1) cp) hgrow hown2 (by rcases hat with e | e; exact .inl e.symm; exact .inr (by rw [e, HSz.out]; rfl)))
    have k2 : w4.cell? ⟨mb, 2, none⟩ = some (.slice a s1.1.length cap) := (hgrow.cell_far _ (by simp; omega) hne).trans ((World.cell?_of_block (Below.heap_alloc _ _ _ (by simp; omega))).trans c2u)
    have z2 : w4.frozen? ⟨mb, 2, none⟩ = false := (hgrow.frozen_far _ (by simp; omega) hne).trans ((World.frozen?_of_block (Below.heap_alloc _ _ _ (by simp; omega))).trans f2u)
    have hF2 : Hid (F1 = ownW mr mb (.slice a s1.1.length cap) vb) := hF
    clear hown hown2 hgrow hat hlen HG hF
    go_wp2_with fail
    refine Calls.mono (HP.out _ (s1.1 ++ [t], s1.2) _ _ ⟨_, _, _, _, HX.out.1, rfl⟩ (by unfold wz; simp; omega)) ?_
    rintro e w5 ⟨rfl, F5, hm5, hk5⟩
    have HY : Hid (WrS mr mb w5 (tkP s1 (.t t)) F5 ∧ Kept mr F w w5 F5 ∧ Box F5 w5 tb (sC ts)) := by
     have hk := HX.out.2
     rw [← hF2.out] at hk
     exact ⟨by rw [← HE.out]; exact hm5, (HK1.out.trans hk).trans hk5, hk5.box (hk.box HB1.out)⟩
    clear hm5 hk5 HX
    go_wp2
    go_roundw
    case rel => exact ⟨i + 1, by omega, by go_num, F5, by rw [HN.out]; exact HY.out.1, HY.out.2.1, HY.out.2.2⟩
    case measure => simp [intOf]; omega
  ·obtain rfl : i = ts.length := by omega
   rw [HEnd.out] at hw
   have HW := (show Hid (WrS mr mb wr (tksP st (ts.map .t)) F1) from hw)
   clear hw hk hb
   go_wp2
   refine bodyPost_end (v := .tuple #[]) (by simp [results, go_sem]) rfl ⟨rfl, F1, HW.out, HK1.out⟩
end Go.Proofs.YtnenhhlgabghfaaGreatDoor
