import Derived.Test.YtnenhhlgabghfaaGreatDoorSplit
import Derived.Laws.OwnMore
import Derived.Deep.AppendLies
import Derived.Lib.AppendStr
/-
 The model's maker of a class's bytes: a pool of texts and bytes, in memory.
-/
namespace Go.Proofs.YtnenhhlgabghfaaGreatDoor
open Go.RowKit
set_option maxRecDepth 20000
set_option linter.unusedVariables false

def bC (bs : List Int) : List Value := bs.map (Value.int .u8)
theorem bC_snoc (bs : List Int) (y : Int) : bC bs ++ [.int .u8 y] = bC (bs ++ [y]) := by simp [bC]

/-- What a maker's call leaves as it was: all below the maker, and all that isn't its own. -/
structure Kept (mb : Nat) (F : Nat → Prop) (w w' : World) (F' : Nat → Prop) : Prop where
 low : Below mb w w'
 far : ∀ k, k < w.heap.size → ¬ F k → w'.heap[k]? = w.heap[k]? ∧ ¬ F' k
theorem Kept.refl (mb : Nat) (F : Nat → Prop) (w : World) : Kept mb F w w F := ⟨Below.refl _ _, fun _ _ h => ⟨rfl, h⟩⟩
theorem Kept.trans {mb : Nat} {F F' F'' : Nat → Prop} {a b c : World} (h : Kept mb F a b F') (k : Kept mb F' b c F'') : Kept mb F a c F'' :=
 ⟨h.low.trans k.low, fun i hi hn => ⟨((k.far i (Nat.lt_of_lt_of_le hi h.low.size) (h.far i hi hn).2).1).trans (h.far i hi hn).1, (k.far i (Nat.lt_of_lt_of_le hi h.low.size) (h.far i hi hn).2).2⟩⟩
theorem Kept.of_below {mb : Nat} {F : Nat → Prop} {w w' : World} (hm : mb ≤ w.heap.size) (h : Below w.heap.size w w') : Kept mb F w w' F :=
 ⟨h.mono hm, fun k hk hn => ⟨h.block k hk, hn⟩⟩
theorem Kept.cell {mb : Nat} {F F' : Nat → Prop} {w w' : World} (h : Kept mb F w w' F') {k i : Nat} {s : Option Nat} {v : Value} (hk : k < w.heap.size) (hn : ¬ F k) (hc : w.cell? ⟨k, i, none⟩ = some v) : w'.cell? ⟨k, i, none⟩ = some v :=
 (World.cell?_of_block (h.far k hk hn).1).trans hc
def own (mb : Nat) (vp vb : Value) : Nat → Prop := fun k => k = mb ∨ vp.ownBlock = some k ∨ vb.ownBlock = some k

/-- A maker at block mb: its pool's texts and its bytes. -/
structure MkAt (w : World) (mb : Nat) (ps : List ByteArray) (bs : List Int) (vp vb : Value) : Prop where
 c0 : w.cell? ⟨mb, 0, none⟩ = some vp
 c1 : w.cell? ⟨mb, 1, none⟩ = some vb
 f0 : w.frozen? ⟨mb, 0, none⟩ = false
 f1 : w.frozen? ⟨mb, 1, none⟩ = false
 op : w.ownsRow (mb + 1) 9 1 vp ps.length (sC ps)
 ob : w.ownsRow (mb + 1) 5 1 vb bs.length (bC bs)
 lt : mb < w.heap.size

/-- Two rows of other types lie apart. -/
theorem rows_apart {w : World} {base e e' n n' : Nat} {v v' : Value} {xs xs' : List Value} (h : w.ownsRow base e 1 v n xs) (h' : w.ownsRow base e' 1 v' n' xs') (hne : e ≠ e') : v.ownBlock = none ∨ v.ownBlock ≠ v'.ownBlock := by
 rcases h.2 with ⟨rfl, _⟩ | ⟨g, cap, cur, rfl, _, hg, _⟩
 ·exact .inl rfl
 ·rcases h'.2 with ⟨rfl, _⟩ | ⟨g', cap', cur', rfl, _, hg', _⟩
  ·exact .inr (by intro e; cases e)
  ·refine .inr fun e => ?_
   have eg : g = g' := by simpa [Value.ownBlock] using e
   subst eg
   rw [hg] at hg'
   cases hg'
   exact hne rfl

theorem MkAt.below {w w' : World} {mb : Nat} {ps : List ByteArray} {bs : List Int} {vp vb : Value} (h : MkAt w mb ps bs vp vb) (hb : Below w.heap.size w w') : MkAt w' mb ps bs vp vb :=
 ⟨(hb.cell h.lt).trans h.c0, (hb.cell h.lt).trans h.c1, (hb.frozen h.lt).trans h.f0, (hb.frozen h.lt).trans h.f1, by
  refine ⟨h.op.1, ?_⟩
  rcases h.op.2 with k | ⟨g, cap, cur, h1, h2, h3, h4⟩
  ·exact .inl k
  ·exact .inr ⟨g, cap, cur, h1, h2, (hb.block g (Array.getElem?_eq_some_iff.1 h3).1).trans h3, h4⟩, by
  refine ⟨h.ob.1, ?_⟩
  rcases h.ob.2 with k | ⟨g, cap, cur, h1, h2, h3, h4⟩
  ·exact .inl k
  ·exact .inr ⟨g, cap, cur, h1, h2, (hb.block g (Array.getElem?_eq_some_iff.1 h3).1).trans h3, h4⟩, Nat.lt_of_lt_of_le h.lt hb.size⟩

theorem owns_put {w : World} {base e : Nat} {v u : Value} {n : Nat} {xs : List Value} {a : Addr} (h : w.ownsRow base e 1 v n xs) (ha : a.block < base) : (w.setCell a u).ownsRow base e 1 v n xs := by
 refine ⟨h.1, ?_⟩
 rcases h.2 with h | ⟨g, cap, cur, h1, h2, h3, h4⟩
 ·exact .inl h
 ·exact .inr ⟨g, cap, cur, h1, h2, (Below.heap_setCell _ _ _ _ (by omega)).trans h3, h4⟩

/-- Behind an append to the bytes. -/
theorem MkAt.bytes {w w1 : World} {mb : Nat} {ps : List ByteArray} {bs more : List Int} {vp vb v' : Value} (h : MkAt w mb ps bs vp vb) (hg : w.grownBy w1 vb.ownBlock)
  (hown : w1.ownsRow (mb + 1) 5 1 v' (bs ++ more).length (bC (bs ++ more))) (hat : v'.ownBlock = vb.ownBlock ∨ v'.ownBlock = some w.heap.size) : MkAt (w1.setCell ⟨mb, 1, none⟩ v') mb ps (bs ++ more) vp v' ∧ Kept mb (own mb vp vb) w (w1.setCell ⟨mb, 1, none⟩ v') (own mb vp v') := by
 have hne : some mb ≠ vb.ownBlock := fun e => by have := (h.ob.lt mb e.symm).1; omega
 have hblk := hg.block mb h.lt hne
 have k0 : w1.cell? ⟨mb, 0, none⟩ = some vp := (World.cell?_of_block hblk).trans h.c0
 have k1 : w1.cell? ⟨mb, 1, none⟩ = some vb := (World.cell?_of_block hblk).trans h.c1
 refine ⟨⟨?_, ?_, ?_, ?_, ?_, ?_, ?_⟩, ?_⟩
 ·rw [World.cell?_setCell_other _ _ _ _ (by intro e; cases e)]; exact k0
 ·exact World.cell?_setCell_same _ _ _ k1
 ·rw [World.frozen?_setCell]; exact (World.frozen?_of_block hblk).trans h.f0
 ·rw [World.frozen?_setCell]; exact (World.frozen?_of_block hblk).trans h.f1
 ·exact owns_put (h.op.kept hg (rows_apart h.op h.ob (by decide))) (by simp)
 ·exact owns_put hown (by simp)
 ·have := hg.size; have := h.lt; simp [World.setCell]; omega
 ·refine ⟨?_, fun k hk hn => ?_⟩
  ·refine Below.setCell (p := ⟨mb, 1, none⟩) ?_ (Nat.le_refl mb) _
   exact (Below.refl mb w).grown hg (Nat.le_of_lt h.lt) (fun k hk => by have := (h.ob.lt k hk).1; omega)
  ·have n0 : k ≠ mb := fun e => hn (.inl e)
   have n2 : vb.ownBlock ≠ some k := fun e => hn (.inr (.inr e))
   refine ⟨(Below.heap_setCell _ _ _ _ n0).trans (hg.block k hk (Ne.symm n2)), ?_⟩
   rintro (e | e | e)
   ·exact n0 e
   ·exact hn (.inr (.inl e))
   ·rcases hat with ha | ha
    ·exact n2 (ha.symm.trans e)
    ·rw [ha] at e; cases e; omega

theorem byteInfo : (Tryz.prog.info? 5).map (fun i => (i.zero, i.size, i.bytes)) = some (some (.int .u8 0), 1, 1) := by kernel_rfl

theorem byteNews (w : World) (y : Int) : ∀ j u, [Value.int .u8 y][j]? = some u → (w.alloc (.cells #[.int .u8 y] 5)).cell? ((⟨w.heap.size, 0, none⟩ : Addr).add j) = some u := by
 intro j u hj
 match j, hj with
 | 0, hj => simp at hj; subst hj; simp [Addr.add]

theorem MkAt.alloc {w : World} {mb : Nat} {ps : List ByteArray} {bs : List Int} {vp vb : Value} (h : MkAt w mb ps bs vp vb) (o : Obj) : MkAt (w.alloc o) mb ps bs vp vb := h.below ((Below.refl _ _).alloc (Nat.le_refl _) o)

set_option maxHeartbeats 1000000 in
theorem specMkNum (mb : Nat) (n : Int) (ps : List ByteArray) (bs : List Int) (vp vb : Value) (w : World) (h : MkAt w mb ps bs vp vb) (hl : bs.length ≤ 1000000) :
  Calls Tryz.prog 48 #[.pointer (some ⟨mb, 0, none⟩), .int .i64 n] w fun e w' => e = .returned (.tuple #[]) ∧ ∃ vb', MkAt w' mb ps (bs ++ [n % 256]) vp vb' ∧ Kept mb (own mb vp vb) w w' (own mb vp vb') := by
 obtain ⟨i0, hi0, hz0, hz1, hz2⟩ := info_parts byteInfo
 have HI : Hid (Tryz.prog.info? 5 = some i0 ∧ i0.zero = some (.int .u8 0) ∧ i0.size = 1 ∧ i0.bytes = 1) := ⟨hi0, hz0, hz1, hz2⟩
 clear hi0 hz0 hz1 hz2
 have c0 := h.c0
 have c1 := h.c1
 have hlt := h.lt
 have HM := (show Hid (MkAt w mb ps bs vp vb) from h)
 have HO : Hid (∃ a cap, vb = .slice a bs.length cap) := by
  show ∃ a cap, _
  rcases h.ob.2 with ⟨e, h0⟩ | ⟨g, cap, cur, e, _⟩
  ·exact ⟨none, 0, by rw [e, h0]⟩
  ·exact ⟨_, _, e⟩
 clear h
 obtain ⟨a, cap, rfl⟩ := HO.out
 clear HO
 go_enter Tryz.func48, Tryz.ntmps48
 go_wp2_with (at_builtin; refine wpList_append_lies _ rfl _ _ 22 rfl (mb + 1) 5 i0 (.int .u8 0) 1 1 Tryz.underlying22 HI.out.1 HI.out.2.1 HI.out.2.2.1 HI.out.2.2.2 rfl (by decide) _ _ _ rfl ((HM.out.alloc _).ob) ⟨w.heap.size, 0, none⟩ 1 1 [.int .u8 _] rfl rfl (byteNews w _) ?c2 (by decide) ?c3 ?c4 ?c5 _ rfl ?_)
 case c2 => intro u hu; simp at hu; subst hu; rfl
 case c3 => unfold maxLen; omega
 case c4 => omega
 case c5 => simp; omega
 intro g cp w4 hown' hgrow hat _
 rw [bC_snoc] at hown'
 have hlen : (bs ++ [n % 256]).length = bs.length + 1 := by simp
 rw [← hlen] at hown'
 obtain ⟨hm2, hb2⟩ := (HM.out.alloc _).bytes hgrow hown' (by rcases hat with h | h; exact .inl h.symm; exact .inr (by rw [h]; simp [Value.ownBlock]))
 have hne : some mb ≠ (Value.slice a bs.length cap).ownBlock := fun e => by have := (HM.out.ob.lt mb e.symm).1; omega
 have hblk : w4.heap[mb]? = w.heap[mb]? := (hgrow.block mb (by simp; omega) hne).trans (Below.heap_alloc _ _ _ hlt)
 have k1 : w4.cell? ⟨mb, 1, none⟩ = some (.slice a bs.length cap) := (World.cell?_of_block hblk).trans c1
 have z1 : w4.frozen? ⟨mb, 1, none⟩ = false := (World.frozen?_of_block hblk).trans HM.out.f1
 have HX := (show Hid (_ ∧ _) from ⟨hm2, (Kept.of_below (Nat.le_of_lt hlt) ((Below.refl _ w).alloc (Nat.le_refl _) _)).trans hb2⟩)
 clear hm2 hb2 hown' hgrow hblk hne c0 c1 hat
 rw [hlen] at HX
 go_wp2
 refine bodyPost_end (v := .tuple #[]) (by simp [results, go_sem]) rfl ⟨rfl, _, HX.out.1, HX.out.2⟩

/-- Behind an append to the pool. -/
theorem MkAt.pool {w w1 : World} {mb : Nat} {ps more : List ByteArray} {bs : List Int} {vp vb v' : Value} (h : MkAt w mb ps bs vp vb) (hg : w.grownBy w1 vp.ownBlock)
  (hown : w1.ownsRow (mb + 1) 9 1 v' (ps ++ more).length (sC (ps ++ more))) (hat : v'.ownBlock = vp.ownBlock ∨ v'.ownBlock = some w.heap.size) : MkAt (w1.setCell ⟨mb, 0, none⟩ v') mb (ps ++ more) bs v' vb ∧ Kept mb (own mb vp vb) w (w1.setCell ⟨mb, 0, none⟩ v') (own mb v' vb) := by
 have hne : some mb ≠ vp.ownBlock := fun e => by have := (h.op.lt mb e.symm).1; omega
 have hblk := hg.block mb h.lt hne
 have k0 : w1.cell? ⟨mb, 0, none⟩ = some vp := (World.cell?_of_block hblk).trans h.c0
 have k1 : w1.cell? ⟨mb, 1, none⟩ = some vb := (World.cell?_of_block hblk).trans h.c1
 refine ⟨⟨?_, ?_, ?_, ?_, ?_, ?_, ?_⟩, ?_⟩
 ·exact World.cell?_setCell_same _ _ _ k0
 ·rw [World.cell?_setCell_other _ _ _ _ (by intro e; cases e)]; exact k1
 ·rw [World.frozen?_setCell]; exact (World.frozen?_of_block hblk).trans h.f0
 ·rw [World.frozen?_setCell]; exact (World.frozen?_of_block hblk).trans h.f1
 ·exact owns_put hown (by simp)
 ·exact owns_put (h.ob.kept hg (rows_apart h.ob h.op (by decide))) (by simp)
 ·have := hg.size; have := h.lt; simp [World.setCell]; omega
 ·refine ⟨?_, fun k hk hn => ?_⟩
  ·refine Below.setCell (p := ⟨mb, 0, none⟩) ?_ (Nat.le_refl mb) _
   exact (Below.refl mb w).grown hg (Nat.le_of_lt h.lt) (fun k hk => by have := (h.op.lt k hk).1; omega)
  ·have n0 : k ≠ mb := fun e => hn (.inl e)
   have n2 : vp.ownBlock ≠ some k := fun e => hn (.inr (.inl e))
   refine ⟨(Below.heap_setCell _ _ _ _ n0).trans (hg.block k hk (Ne.symm n2)), ?_⟩
   rintro (e | e | e)
   ·exact n0 e
   ·rcases hat with ha | ha
    ·exact n2 (ha.symm.trans e)
    ·rw [ha] at e; cases e; omega
   ·exact hn (.inr (.inr e))

/-- A text's place in the pool, or the pool's end. -/
def plc (ps : List ByteArray) (t : ByteArray) : Nat := ps.findIdx (fun x => x.toList == t.toList)
theorem plc_at {ps : List ByteArray} {t : ByteArray} {i : Nat} (hi : i < ps.length) (h : (ps[i].toList == t.toList) = true) (hb : ∀ j (hj : j < ps.length), j < i → (ps[j].toList == t.toList) = false) : plc ps t = i := by
 unfold plc
 refine (List.findIdx_eq hi).2 ⟨h, fun j hj => hb j (by omega) hj⟩
theorem plc_none {ps : List ByteArray} {t : ByteArray} (hb : ∀ j (hj : j < ps.length), (ps[j].toList == t.toList) = false) : plc ps t = ps.length := by
 unfold plc
 rw [List.findIdx_eq_length]
 intro x hx
 obtain ⟨j, hj, rfl⟩ := List.mem_iff_getElem.1 hx
 exact hb j hj
def mkPool (ps : List ByteArray) (t : ByteArray) : List ByteArray := if plc ps t < ps.length then ps else ps ++ [t]

set_option maxHeartbeats 2000000 in
theorem specMkText (mb : Nat) (t : ByteArray) (ps : List ByteArray) (bs : List Int) (vp vb : Value) (w : World) (h : MkAt w mb ps bs vp vb) (hl : bs.length ≤ 1000000) (hp : ps.length ≤ 1000000) :
  Calls Tryz.prog 47 #[.pointer (some ⟨mb, 0, none⟩), .string t] w fun e w' => e = .returned (.tuple #[]) ∧ ∃ vp' vb', MkAt w' mb (mkPool ps t) (bs ++ [(plc ps t : Int) % 256]) vp' vb' ∧ Kept mb (own mb vp vb) w w' (own mb vp' vb') := by
 obtain ⟨i0, hi0, hz0, hz1, hz2⟩ := info_parts infoStr
 have HI : Hid (Tryz.prog.info? 9 = some i0 ∧ i0.zero = some (.string ⟨#[]⟩) ∧ i0.size = 1 ∧ i0.bytes = 16) := ⟨hi0, hz0, hz1, hz2⟩
 clear hi0 hz0 hz1 hz2
 have HM := (show Hid (MkAt w mb ps bs vp vb) from h)
 have HO : Hid (∃ a cap, vp = .slice a ps.length cap) := by
  show ∃ a cap, _
  rcases h.op.2 with ⟨e, h0⟩ | ⟨g, cap, cur, e, _⟩
  ·exact ⟨none, 0, by rw [e, h0]⟩
  ·exact ⟨_, _, e⟩
 have c0 := h.c0
 have hlt := h.lt
 clear h
 obtain ⟨a, cap, rfl⟩ := HO.out
 clear HO
 have HNum : Hid (∀ n ps bs vp vb w, MkAt w mb ps bs vp vb → bs.length ≤ 1000000 → Calls Tryz.prog 48 #[.pointer (some ⟨mb, 0, none⟩), .int .i64 n] w fun e w' => e = .returned (.tuple #[]) ∧ ∃ vb', MkAt w' mb ps (bs ++ [n % 256]) vp vb' ∧ Kept mb (own mb vp vb) w w' (own mb vp vb')) := fun n ps bs vp vb w h hl => specMkNum mb n ps bs vp vb w h hl
 go_enter Tryz.func47, Tryz.ntmps47
 go_wp2_with fail
 go_loopw [4] (fun j4 wr => ∃ i : Nat, wr = w ∧ i ≤ ps.length ∧ j4 = .int .i64 (i : Int) ∧ ∀ j (hj : j < ps.length), j < i → (ps[j].toList == t.toList) = false) (fun j4 _ => ps.length - (intOf j4).toNat)
 case atStart => exact ⟨0, rfl, Nat.zero_le _, rfl, fun j hj hj0 => by omega⟩
 case round =>
  obtain ⟨i, hwr, hi, rfl, hb⟩ := hrel
  subst wr
  have HD := (show Hid (∀ j (hj : j < ps.length), j < i → (ps[j].toList == t.toList) = false) from hb)
  clear hb
  by_cases hlt2 : i < ps.length
  ·obtain ⟨g, cp, e, _, _⟩ := HM.out.op.form (by omega)
   cases e
   have hcell : w.cell? ⟨g, i, none⟩ = some (.string ps[i]) := by
    rw [HM.out.op.cellAt i (by omega), sC, List.getElem?_map, List.getElem?_eq_getElem hlt2]; rfl
   cases heq : (ps[i].toList == t.toList)
   ·have HDn : Hid (∀ j (hj : j < ps.length), j < i + 1 → (ps[j].toList == t.toList) = false) := fun j hj hj1 => by
     by_cases e : j = i
     ·subst e; exact heq
     ·exact HD.out j hj (by omega)
    generalize ps[i] = pi at *
    go_wp2
    go_roundw
    case rel => exact ⟨i + 1, by first | rfl | trivial, by omega, by go_num, HDn.out⟩
    case measure => simp [intOf]; omega
   ·have HP : Hid (plc ps t = i) := plc_at hlt2 heq (fun j hj hji => HD.out j hj hji)
    generalize ps[i] = pi at *
    go_wp2_with fail
    refine Calls.mono (HNum.out _ ps bs _ vb w HM.out hl) ?_
    rintro e w1 ⟨rfl, vb', hm, hb1⟩
    have HX : Hid (∃ vp' vb', MkAt w1 mb (mkPool ps t) (bs ++ [(plc ps t : Int) % 256]) vp' vb' ∧ Kept mb (own mb (.slice (some ⟨g, 0, none⟩) ps.length cap) vb) w w1 (own mb vp' vb')) := by
     have e1 : mkPool ps t = ps := by unfold mkPool; rw [HP.out, if_pos hlt2]
     rw [e1, HP.out]
     exact ⟨_, vb', hm, hb1⟩
    clear hm hb1
    go_wp2
    exact bodyPost_ret (v := .tuple #[]) (by simp [results, go_sem]) rfl ⟨rfl, HX.out⟩
  ·obtain rfl : i = ps.length := by omega
   have HP : Hid (plc ps t = ps.length) := plc_none (fun j hj => HD.out j hj hj)
   go_wp2_with (at_builtin; refine wpList_append_lies _ rfl _ _ 28 rfl (mb + 1) 9 i0 (.string ⟨#[]⟩) 1 16 Tryz.underlying28 HI.out.1 HI.out.2.1 HI.out.2.2.1 HI.out.2.2.2 rfl (by decide) _ _ _ rfl ((HM.out.alloc _).op) ⟨w.heap.size, 0, none⟩ 1 1 [.string t] rfl rfl (splNews w t) ?c2 (by decide) ?c3 ?c4 ?c5 _ rfl ?_)
   case c2 => intro u hu; simp at hu; subst hu; rfl
   case c3 => unfold maxLen; omega
   case c4 => omega
   case c5 => simp; omega
   intro g cp w4 hown' hgrow hat _
   rw [sC_snoc] at hown'
   have hlen : (ps ++ [t]).length = ps.length + 1 := by simp
   rw [← hlen] at hown'
   obtain ⟨hm2, hb2⟩ := (HM.out.alloc _).pool hgrow hown' (by rcases hat with h | h; exact .inl h.symm; exact .inr (by rw [h]; simp [Value.ownBlock]))
   have hne : some mb ≠ (Value.slice a ps.length cap).ownBlock := fun e => by have := (HM.out.op.lt mb e.symm).1; omega
   have hblk : w4.heap[mb]? = w.heap[mb]? := (hgrow.block mb (by simp; omega) hne).trans (Below.heap_alloc _ _ _ hlt)
   have k0 : w4.cell? ⟨mb, 0, none⟩ = some (.slice a ps.length cap) := (World.cell?_of_block hblk).trans c0
   have z0 : w4.frozen? ⟨mb, 0, none⟩ = false := (World.frozen?_of_block hblk).trans HM.out.f0
   have HX := (show Hid (_ ∧ _) from ⟨hm2, (Kept.of_below (Nat.le_of_lt hlt) ((Below.refl _ w).alloc (Nat.le_refl _) _)).trans hb2⟩)
   clear hm2 hb2 hown' hgrow hblk hne c0 hat
   rw [hlen] at HX
   clear hlen
   go_wp2_with fail
   refine Calls.mono (HNum.out _ (ps ++ [t]) bs _ vb _ HX.out.1 hl) ?_
   rintro e w5 ⟨rfl, vb', hm5, hb5⟩
   have HY : Hid (∃ vp' vb', MkAt w5 mb (mkPool ps t) (bs ++ [(plc ps t : Int) % 256]) vp' vb' ∧ Kept mb (own mb (.slice a ps.length cap) vb) w w5 (own mb vp' vb')) := by
    have e1 : mkPool ps t = ps ++ [t] := by unfold mkPool; rw [HP.out, if_neg (by omega)]
    rw [e1, HP.out]
    exact ⟨_, vb', hm5, HX.out.2.trans hb5⟩
   clear hm5 hb5
   go_wp2
   refine bodyPost_end (v := .tuple #[]) (by simp [results, go_sem]) rfl ⟨rfl, HY.out⟩
end Go.Proofs.YtnenhhlgabghfaaGreatDoor
