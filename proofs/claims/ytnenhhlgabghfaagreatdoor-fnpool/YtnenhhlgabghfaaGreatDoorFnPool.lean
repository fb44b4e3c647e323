/-
 Whatever the code, the law FnPool returns true: the pool of the drawn class, if that is right, has no text twice, begins with its name and its super, and has each method's name; else it is empty; the argument and the program's table read as they did before. The variables listed are errors.errorType and the program's table opTable, both tied to the program's text by the card.
-/
import Derived.Test.YtnenhhlgabghfaaGreatDoorRows
import Derived.Test.YtnenhhlgabghfaaGreatDoorCards
import Derived.Test.YtnenhhlgabghfaaGreatDoorTie
import Derived.WalkKit
import Derived.ProofKit
import Derived.OpenShut
import Derived.ShutString
import Derived.ChangeOld
import Derived.Below
import Derived.Carry
import Derived.OpenVars
import Derived.ChangeSame
import Derived.ChangeVars
import Derived.JoinedOf
import Derived.RowKit
import Derived.RowKitTokens
import Derived.LaidLaws
import Derived.LaidHandle
import Derived.LaidMore
import Derived.Stop.Joined
import Derived.SevenTiedAt
import Derived.Test.YtnenhhlgabghfaaGreatDoorPoD
namespace Go.Proofs.YtnenhhlgabghfaaGreatDoor.fnPool
open Go.ChangeShapes Go.WideShapes Go.ChangeAt Go.RowKit
open Go.ChangeMaps (open_string shut_string)
set_option linter.unusedVariables false

theorem own : ownKnob Tryz.prog.godebug = none := by kernel_rfl
theorem laidOut : laidOutB Tryz.prog = true := by kernel_rfl
theorem ot : Tryz.prog.globalNamed "loop.example/g00175/impl.opTable" = some 1 := by kernel_rfl
theorem otT : (Tryz.prog.globals[1]?).map (·.type) = some 150 := by kernel_rfl
theorem c1 : Tryz.prog.cellsOf 135 = 2 := by kernel_rfl
theorem c2 : Tryz.prog.cellsOf 9 = 1 := by kernel_rfl

theorem tab_datum {H : Type} : (Rows.laid_loop_example_g00175_impl_opTable : DataW H) = .agg ((List.range 45).map fun i : Nat => .agg [.lit (.string (nmS (i : Int)).data.toList), .lit (.string (fmS (i : Int)).data.toList)]) := by kernel_rfl

theorem bytes_of {a b : ByteArray} (h : a.data.toList = b.data.toList) : a = b := by
 obtain ⟨⟨x⟩⟩ := a
 obtain ⟨⟨y⟩⟩ := b
 simp at h
 rw [h]

theorem tab_of_data {W : World} (h : laidMet Tryz.prog [("loop.example/g00175/impl.opTable", Rows.laid_loop_example_g00175_impl_opTable)] W) : Tab W := by
 obtain ⟨ps, ⟨g, t, cs, fuel, p, q, hg, ht, hvar, hd, _, _⟩, _⟩ := h
 obtain rfl := Option.some.inj (ot.symm.trans hg)
 obtain rfl := Option.some.inj (otT.symm.trans ht)
 rw [tab_datum] at hd
 obtain ⟨xs, m, _, hx, hlen, hn, hel⟩ := DataW.trod_array Tryz.underlying150 hd
 simp only [Prod.mk.injEq, DataW.agg.injEq] at hx
 intro i hi
 have h1 := hel i hi
 rw [c1] at h1
 have h2 : (xs.map (·.1))[i]? = some (.agg [.lit (.string (nmS (i : Int)).data.toList), .lit (.string (fmS (i : Int)).data.toList)]) := by
  rw [← hx.1, List.getElem?_map, List.getElem?_range hi]; rfl
 rw [List.getElem?_map] at h2
 obtain ⟨y, hy, hy2⟩ := Option.map_eq_some_iff.1 h2
 rw [hy] at h1
 obtain ⟨ys, k, _, hys, hcl, hyl, hfs⟩ := DataW.trod_struct Tryz.underlying135 h1
 have e0 := hfs 0 _ rfl
 have e1 := hfs 1 _ rfl
 have hyl2 : ys.length = 2 := hyl
 match ys, hyl2, hys, e0, e1 with
 | [y0, y1], _, hys, e0, e1 =>
  simp only [List.getElem?_cons_zero, List.getElem?_cons_succ] at e0 e1
  obtain ⟨s0, k0, d0, _⟩ := DataW.trod_string Tryz.underlying9 e0
  obtain ⟨s1, k1, d1, _⟩ := DataW.trod_string Tryz.underlying9 e1
  rw [hys] at hy2
  simp only [List.map_cons, List.map_nil, DataW.agg.injEq, List.cons.injEq, and_true] at hy2
  rw [d0, d1] at hy2
  simp only [DataW.lit.injEq, Lit.string.injEq] at hy2
  have q0 : s0 = nmS (i : Int) := bytes_of hy2.1
  have q1 : s1 = fmS (i : Int) := bytes_of hy2.2
  subst q0 q1
  have r0 := congrArg (fun l : List Value => l[0]?) k0
  have r1 := congrArg (fun l : List Value => l[0]?) k1
  have z0 : Tryz.prog.cellsOf (9) = 1 := c2
  constructor
  ·have := World.var?_cell hg hvar (2 * i)
   rw [this, ← Array.getElem?_toList]
   simpa [List.getElem?_take, List.getElem?_drop, c2, Nat.mul_comm] using r0
  ·have := World.var?_cell hg hvar (2 * i + 1)
   rw [this, ← Array.getElem?_toList]
   simpa [List.getElem?_take, List.getElem?_drop, c2, Nat.mul_comm] using r1

theorem et : Tryz.prog.globalNamed "errors.errorType" = some 0 := by kernel_rfl
theorem rt : (Tryz.prog.cutTypes.find? (·.1 == "internal/reflectlite.rtype")).map (·.2) = some 153 := by kernel_rfl
theorem oneRow : ((List.range 193).filter fun t => Tryz.prog.rowNamed t [101, 114, 114, 111, 114]) = [117] := by kernel_rfl
theorem typesSize : Tryz.prog.types.size = 193 := by kernel_rfl
theorem both_of_laid {W : World} (h : laidMetH Tryz.prog Rows.fnPoolRow.laid W) : Tab W ∧ Glob W := by
 have h' : laidMet Tryz.prog [("loop.example/g00175/impl.opTable", Rows.laid_loop_example_g00175_impl_opTable)] W ∧ handlesMet Tryz.prog [("errors.errorType", Rows.laid_errors_errorType)] W := h
 refine ⟨tab_of_data h'.1, ?_⟩
 obtain ⟨name, u, ty, e1, e2, e3, e4, e5⟩ := h'.2 _ (List.mem_singleton.2 rfl)
 have en : name = [101, 114, 114, 111, 114] := (Option.some.inj e1).symm
 subst en
 obtain rfl := Option.some.inj (rt.symm.trans e2)
 have hm : ty ∈ (List.range 193).filter fun t => Tryz.prog.rowNamed t [101, 114, 114, 111, 114] := List.mem_filter.2 ⟨List.mem_range.2 (by rw [← typesSize]; exact e3), e4⟩
 rw [oneRow] at hm
 obtain rfl := List.mem_singleton.1 hm
 have hh : typeHandle Tryz.prog 117 = .pointer (some ⟨2, 117, none⟩) := by kernel_rfl
 rw [hh] at e5
 simpa [Glob] using World.var?_cell et e5 0

noncomputable def laidWorld (os : Os) : World :=
 let w0 := World.holding Tryz.prog os ⟨#[], #[], []⟩
 { w0 with heap := (w0.heap.modify 0 fun
   | .cells _ t frozen => .cells #[.iface 153 (.agg #[.pointer (some ⟨2, 117, none⟩)])] t frozen
   | o => o).modify 1 fun
   | .cells _ t frozen => .cells ((List.range 90).map fun j : Nat => .string (if j % 2 = 0 then nmS ((j / 2 : Nat) : Int) else fmS ((j / 2 : Nat) : Int))).toArray t frozen
   | o => o }
theorem laidWorld_met (os : Os) (args : Array Value) : laidMetH Tryz.prog Rows.fnPoolRow.laid ((laidWorld os).forCall (fun _ _ => 0) ⟨#[], args, []⟩).memory :=
 laidMetH_of_parts (laidMet_of_run' 8 (by kernel_rfl) (by kernel_rfl)) (by kernel_rfl)

theorem nsz {p : ByteArray} (hp : p ∈ ⟨#[65]⟩ :: ⟨#[79, 98, 106, 101, 99, 116]⟩ :: U) : p.size ≤ 100 := by
 rcases List.mem_cons.1 hp with rfl | hp
 ·decide
 ·rcases List.mem_cons.1 hp with rfl | hp
  ·decide
  ·exact U_small _ hp
theorem nml {n : Nat} (h : n ≤ 100) : n ≤ maxLen := by unfold maxLen; omega
theorem tot_le (ms ps : List ByteArray) : ∀ i, tot ms ps i ≤ i * ms.length
 | 0 => by simp [tot]
 | i + 1 => by
  have h1 := tot_le ms ps i
  have e : tot ms ps (i + 1) = tot ms ps i + (match ps[i]? with | some t => hits ms t ms.length | none => 0) := rfl
  rw [e, Nat.add_mul]
  split
  ·next t _ => have h2 := hits_le ms t ms.length; omega
  ·omega
theorem tot_step {ms ps : List ByteArray} {i : Nat} (h : i < ps.length) : tot ms ps (i + 1) = tot ms ps i + hits ms ps[i] ms.length := by
 have e : tot ms ps (i + 1) = tot ms ps i + (match ps[i]? with | some t => hits ms t ms.length | none => 0) := rfl
 rw [e, List.getElem?_eq_getElem h]
set_option maxHeartbeats 4000000 in
theorem walk (a0 : Option Addr) (len0 cap0 : Nat) (z0 : List Int) (w : World) (w0 : IsRow .u8 w a0 len0 cap0 z0) (ht : Tab w) (hg : Glob w) :
  Calls Tryz.prog 3 #[.slice a0 len0 cap0] w fun e w' => e = .returned (.bool true) ∧ Below w.heap.size w w' := by
 have HT := (show Hid (Tab w) from ht)
 have HG := (show Hid (Glob w) from hg)
 clear ht hg
 have hcap : len0 ≤ maxLen := by
  rcases w0 with ⟨_, h, _, _⟩ | ⟨x, _, h1, h2, _⟩
  ·rw [h]; unfold maxLen; omega
  ·omega
 unfold maxLen at hcap
 by_cases hbig : (1048576 : Int) < len0
 ·go_enter Tryz.func3, Tryz.ntmps3
  go_wp2
  go_ret
  exact ⟨rfl, Below.refl _ _⟩
 have HD := (show Hid _ from drawPoolOf a0 len0 cap0 z0 w w0 (by omega))
 clear w0
 have db : decide ((1048576 : Int) < len0) = false := by simpa using hbig
 go_enter Tryz.func3, Tryz.ntmps3
 go_wp2_with fail
 refine Calls.mono HD.out ?_
 rintro e w1 ⟨c, vf, vm, rfl, ho, hw, hb1⟩
 have HB1 : Hid (Below w.heap.size w w1) := hb1
 have HF : Hid (fieldR.slice.In w1 [vf] (cOf c).fields) := hw.fld ho
 have HM : Hid (methR.slice.In w1 [vm] (cOf c).meths) := hw.met ho
 have HR : Hid (w1.ownsRow w.heap.size 34 9 vm c.ms.length (c.ms.flatMap cMt)) := hw.m
 obtain ⟨tp, tc, rfl⟩ := own_sn hw.f
 obtain ⟨up, uc, rfl⟩ := own_sn hw.m
 have HO : Hid (okC ⟨#[65]⟩ ⟨#[79, 98, 106, 101, 99, 116]⟩ c) := ho
 have hml : c.ms.length ≤ 3 := ho.nm'
 clear ho hw hb1 HD
 have HB2 : Hid (Below w1.heap.size w1 (w1.alloc (.cells #[.string c.nm, .string c.su, .bool c.fi, .bool c.ab, .slice tp c.fs.length tc, .slice up c.ms.length uc] 26))) := lit_below
 have HX2 : Hid (∀ w', Below (w1.alloc (.cells #[.string c.nm, .string c.su, .bool c.fi, .bool c.ab, .slice tp c.fs.length tc, .slice up c.ms.length uc] 26)).heap.size (w1.alloc (.cells #[.string c.nm, .string c.su, .bool c.fi, .bool c.ab, .slice tp c.fs.length tc, .slice up c.ms.length uc] 26)) w' → w'.cell? ⟨w1.heap.size, 0, none⟩ = some (.string c.nm) ∧ w'.cell? ⟨w1.heap.size, 1, none⟩ = some (.string c.su) ∧ w'.cell? ⟨w1.heap.size, 2, none⟩ = some (.bool c.fi) ∧ w'.cell? ⟨w1.heap.size, 3, none⟩ = some (.bool c.ab) ∧ w'.cell? ⟨w1.heap.size, 4, none⟩ = some (.slice tp c.fs.length tc) ∧ w'.cell? ⟨w1.heap.size, 5, none⟩ = some (.slice up c.ms.length uc)) := fun w' hb => ⟨carry hb (by simp) (by simp [go_sem]), carry hb (by simp) (by simp [go_sem]), carry hb (by simp) (by simp [go_sem]), carry hb (by simp) (by simp [go_sem]), carry hb (by simp) (by simp [go_sem]), carry hb (by simp) (by simp [go_sem])⟩
 go_wp2_with fail
 generalize w1.alloc (.cells #[.string c.nm, .string c.su, .bool c.fi, .bool c.ab, .slice tp c.fs.length tc, .slice up c.ms.length uc] 26) = w2 at *
 have hz2 : w1.heap.size < w2.heap.size := by have h := HX2.out w2 (Below.refl _ _); exact World.block_lt_of_cell? _ ⟨w1.heap.size, 0, none⟩ h.1
 have HIN : Hid (∀ w', Below w2.heap.size w2 w' → fieldR.slice.In w' [.slice tp c.fs.length tc] (cOf c).fields ∧ methR.slice.In w' [.slice up c.ms.length uc] (cOf c).meths) := fun w' hb => ⟨fieldR.slice.mono _ _ _ _ (HB2.out.trans (hb.mono HB2.out.size)) HF.out, methR.slice.mono _ _ _ _ (HB2.out.trans (hb.mono HB2.out.size)) HM.out⟩
 have HBW : Hid (Below w.heap.size w w2) := HB1.out.trans (HB2.out.mono HB1.out.size)
 have s0 : (cOf c).name.size ≤ maxLen := nml (nsz HO.out.nm)
 have s1 : (cOf c).super.size ≤ maxLen := nml (nsz HO.out.su)
 refine Calls.mono (implPoolOf (cOf c) (.slice tp c.fs.length tc) (.slice up c.ms.length uc) w2 s0 s1 (HIN.out _ (Below.refl _ _)).1 (HIN.out _ (Below.refl _ _)).2 (HT.out.mono HBW.out) (HG.out.mono HBW.out) (fun p hp => Nat.le_trans (nsz (made_U HO.out p hp)) (by omega))) ?_
 rintro e w3 ⟨hb3, v, rfl, hown⟩
 have HB3 : Hid (Below w2.heap.size w2 w3) := hb3
 have HBW3 : Hid (Below w.heap.size w w3) := HBW.out.trans (hb3.mono HBW.out.size)
 rcases clsOk_cases (cOf c) with ⟨hq, hP⟩ | ⟨hq, hP⟩
 ·have HQ := (show Hid (clsOk (cOf c) = true) from hq)
  have HPE := (show Hid (poolT (cOf c) = (madeS (cOf c)).1) from poolT_yes hP (made_200 HO.out))
  rw [HPE.out] at hown
  obtain ⟨r, hr⟩ := made_two (m := cOf c) hP.ne
  have HN := (show Hid ((madeS (cOf c)).1.Nodup) from made_nodup (cOf c))
  have HMN : Hid (∀ x ∈ c.ms.map (fun x => MT.nm x.1), x ∈ (madeS (cOf c)).1) := fun x hx => by
   obtain ⟨y, hy, rfl⟩ := List.mem_map.1 hx
   exact made_names (cOf c) (mOf y.1) (List.mem_map.2 ⟨y, hy, rfl⟩)
  have h200 := made_200 HO.out
  have HSP : Hid (∀ w', Below w2.heap.size w2 w' → Calls Tryz.prog 7 #[clsV (cOf c) (.slice tp c.fs.length tc) (.slice up c.ms.length uc)] w' fun e w4 => Below w'.heap.size w' w4 ∧ ∃ a cap, e = .returned (.slice a (madeS (cOf c)).1.length cap)) := fun w' hb => (specPoolOf (cOf c) _ _ w' s0 s1 (HIN.out _ hb).1 (HIN.out _ hb).2).mono fun e w4 h => by
   obtain ⟨h1, v, rfl, h3⟩ := h
   rw [HPE.out] at h3
   obtain ⟨a, cap, rfl⟩ := own_sn h3
   exact ⟨h1, a, cap, rfl⟩
  have HSR : Hid (Calls Tryz.prog 6 #[clsV (cOf c) (.slice tp c.fs.length tc) (.slice up c.ms.length uc)] w3 fun e w4 => e = .returned (.bool true) ∧ Below w3.heap.size w3 w4) := (specClassRight (cOf c) _ _ w3 s0 s1 (HIN.out _ hb3).1 (HIN.out _ hb3).2).mono fun e w4 h => ⟨by rw [h.1, HQ.out], h.2⟩
  generalize (madeS (cOf c)).1 = ps at *
  clear hq hP HQ HPE HF HM HT HG s0 s1 hb3
  rcases hown.2 with ⟨rfl, h0⟩ | ⟨g, cap, cur, rfl, hgb, hgc, hcp, hcm, hcs, hct⟩
  ·rw [hr] at h0
   simp at h0
  have HC : Hid (∀ i (h : i < ps.length), w3.cell? ⟨g, i, none⟩ = some (.string ps[i])) := fun i h => by
   rw [hown.cellAt i (by omega)]
   simp [sC, List.getElem?_eq_getElem h]
  have hgl : g < w3.heap.size := (Array.getElem?_eq_some_iff.1 hgc).1
  clear hown hgb hgc hcm hcs hct
  have hlen2 : 2 ≤ ps.length := by rw [hr]; simp
  have e0 : ps[0]'(by omega) = c.nm := by simp only [hr]; rfl
  have e1 : ps[1]'(by omega) = c.su := by simp only [hr]; rfl
  clear hr
  have HX : Hid (∀ w', Below w3.heap.size w3 w' → w'.cell? ⟨w1.heap.size, 0, none⟩ = some (.string c.nm) ∧ w'.cell? ⟨w1.heap.size, 1, none⟩ = some (.string c.su) ∧ w'.cell? ⟨w1.heap.size, 2, none⟩ = some (.bool c.fi) ∧ w'.cell? ⟨w1.heap.size, 3, none⟩ = some (.bool c.ab) ∧ w'.cell? ⟨w1.heap.size, 4, none⟩ = some (.slice tp c.fs.length tc) ∧ w'.cell? ⟨w1.heap.size, 5, none⟩ = some (.slice up c.ms.length uc)) := fun w' hb => HX2.out w' (HB3.out.trans (hb.mono HB3.out.size))
  obtain ⟨x0, x1, x2, x3, x4, x5⟩ := HX.out w3 (Below.refl _ _)
  go_wp2_with fail
  refine Calls.mono HSR.out ?_
  rintro e w4 ⟨rfl, hb4⟩
  have HB4 : Hid (Below w3.heap.size w3 w4) := hb4
  have HBW4 : Hid (Below w.heap.size w w4) := HBW3.out.trans (hb4.mono HBW3.out.size)
  clear hb4 HSR x0 x1 x2 x3 x4 x5
  have HC4 : Hid (∀ w', Below w3.heap.size w3 w' → ∀ i (h : i < ps.length), w'.cell? ⟨g, i, none⟩ = some (.string ps[i])) := fun w' hb i h => carry hb hgl (HC.out i h)
  go_upto_region 7 with fail
  have HS7 : Hid (∀ w', Below w3.heap.size w3 w' → w'.cell? ⟨g, 0, none⟩ = some (.string c.nm) ∧ w'.cell? ⟨g, 1, none⟩ = some (.string c.su) ∧ w'.cell? ⟨w1.heap.size, 0, none⟩ = some (.string c.nm) ∧ w'.cell? ⟨w1.heap.size, 1, none⟩ = some (.string c.su) ∧ w'.cell? ⟨w1.heap.size, 2, none⟩ = some (.bool c.fi) ∧ w'.cell? ⟨w1.heap.size, 3, none⟩ = some (.bool c.ab) ∧ w'.cell? ⟨w1.heap.size, 4, none⟩ = some (.slice tp c.fs.length tc) ∧ w'.cell? ⟨w1.heap.size, 5, none⟩ = some (.slice up c.ms.length uc)) := fun w' hb => ⟨by rw [HC4.out w' hb 0 (by omega), e0], by rw [HC4.out w' hb 1 (by omega), e1], HX.out w' hb⟩
  have HB5 : Hid (Below w3.heap.size w3 w4.drew) := HB4.out.trans ((Below.refl _ _).drew.mono HB4.out.size)
  refine wp_region_held_drew (S := fun w' => w'.cell? ⟨g, 0, none⟩ = some (.string c.nm) ∧ w'.cell? ⟨g, 1, none⟩ = some (.string c.su) ∧ w'.cell? ⟨w1.heap.size, 0, none⟩ = some (.string c.nm) ∧ w'.cell? ⟨w1.heap.size, 1, none⟩ = some (.string c.su) ∧ w'.cell? ⟨w1.heap.size, 2, none⟩ = some (.bool c.fi) ∧ w'.cell? ⟨w1.heap.size, 3, none⟩ = some (.bool c.ab) ∧ w'.cell? ⟨w1.heap.size, 4, none⟩ = some (.slice tp c.fs.length tc) ∧ w'.cell? ⟨w1.heap.size, 5, none⟩ = some (.slice up c.ms.length uc)) (by kernel_rfl) (HS7.out _ HB5.out) (fun hHeld => ?_)
  refine wpAnyH_take (i := 0) rfl (by kernel_rfl) (by kernel_rfl) (by kernel_rfl) (fun _ _ _ h => h) (.inl ⟨by kernel_rfl, by intro w hSw; (try dsimp only at hSw); go_simp; try with_reducible rfl⟩) hHeld ?_
  (try simp only [Act.put, List.getElem_toArray, List.getElem_cons_zero, List.setIfInBounds_toArray, List.set_cons_zero, List.set_cons_succ])
  refine wpAnyH_take (i := 1) rfl (by kernel_rfl) (by kernel_rfl) (by kernel_rfl) (fun _ _ _ h => h) (.inl ⟨by kernel_rfl, by intro w hSw; (try dsimp only at hSw); go_simp; try with_reducible rfl⟩) hHeld ?_
  (try simp only [Act.put, List.getElem_toArray, List.getElem_cons_zero, List.getElem_cons_succ, List.setIfInBounds_toArray, List.set_cons_zero, List.set_cons_succ])
  refine wpAnyH_take (i := 2) (v := .bool false) rfl (by kernel_rfl) (by kernel_rfl) (by kernel_rfl) (fun _ _ _ h => h) (.inl ⟨by kernel_rfl, by intro w hSw; (try dsimp only at hSw); go_simp; (try simp) <;> omega⟩) hHeld ?_
  (try simp only [Act.put, List.getElem_toArray, List.getElem_cons_zero, List.getElem_cons_succ, List.setIfInBounds_toArray, List.set_cons_zero, List.set_cons_succ])
  refine wpAnyH_take (i := 3) rfl (by kernel_rfl) (by kernel_rfl) (by kernel_rfl) (fun _ _ _ h => h) (.inl ⟨by kernel_rfl, by intro w hSw; (try dsimp only at hSw); go_simp; try with_reducible rfl⟩) hHeld ?_
  (try simp only [Act.put, List.getElem_toArray, List.getElem_cons_zero, List.getElem_cons_succ, List.setIfInBounds_toArray, List.set_cons_zero, List.set_cons_succ])
  refine wpAnyH_take (i := 4) rfl (by kernel_rfl) (by kernel_rfl) (by kernel_rfl) (fun _ _ _ h => h) (.inl ⟨by kernel_rfl, by intro w hSw; (try dsimp only at hSw); go_simp; try with_reducible rfl⟩) hHeld ?_
  (try simp only [Act.put, List.getElem_toArray, List.getElem_cons_zero, List.getElem_cons_succ, List.setIfInBounds_toArray, List.set_cons_zero, List.set_cons_succ])
  refine wpAnyH_take (i := 5) rfl (by kernel_rfl) (by kernel_rfl) (by kernel_rfl) (fun _ _ _ h => h) (.inl ⟨by kernel_rfl, by intro w hSw; (try dsimp only at hSw); go_simp; rw [if_pos (by omega)]⟩) hHeld ?_
  (try simp only [Act.put, List.getElem_toArray, List.getElem_cons_zero, List.getElem_cons_succ, List.setIfInBounds_toArray, List.set_cons_zero, List.set_cons_succ])
  refine wpAnyH_take (i := 6) rfl (by kernel_rfl) (by kernel_rfl) (by kernel_rfl) (fun _ _ _ h => h) (.inl ⟨by kernel_rfl, by intro w hSw; (try dsimp only at hSw); go_simp; try with_reducible rfl⟩) hHeld ?_
  (try simp only [Act.put, List.getElem_toArray, List.getElem_cons_zero, List.getElem_cons_succ, List.setIfInBounds_toArray, List.set_cons_zero, List.set_cons_succ])
  refine wpAnyH_take (i := 7) rfl (by kernel_rfl) (by kernel_rfl) (by kernel_rfl) (fun _ _ _ h => h) (.inl ⟨by kernel_rfl, by intro w hSw; (try dsimp only at hSw); go_simp; try with_reducible rfl⟩) hHeld ?_
  (try simp only [Act.put, List.getElem_toArray, List.getElem_cons_zero, List.getElem_cons_succ, List.setIfInBounds_toArray, List.set_cons_zero, List.set_cons_succ])
  refine wpAnyH_take (i := 8) rfl (by kernel_rfl) (by kernel_rfl) (by kernel_rfl) (fun _ _ _ h => h) (.inl ⟨by kernel_rfl, by intro w hSw; (try dsimp only at hSw); go_simp; try with_reducible rfl⟩) hHeld ?_
  (try simp only [Act.put, List.getElem_toArray, List.getElem_cons_zero, List.getElem_cons_succ, List.setIfInBounds_toArray, List.set_cons_zero, List.set_cons_succ])
  refine wpAnyH_take (i := 9) (v := .bool false) rfl (by kernel_rfl) (by kernel_rfl) (by kernel_rfl) (fun _ _ _ h => h) (.inl ⟨by kernel_rfl, by intro w hSw; (try dsimp only at hSw); go_simp; skip⟩) hHeld ?_
  (try simp only [Act.put, List.getElem_toArray, List.getElem_cons_zero, List.getElem_cons_succ, List.setIfInBounds_toArray, List.set_cons_zero, List.set_cons_succ])
  refine wpAnyH_take (i := 10) rfl (by kernel_rfl) (by kernel_rfl) (by kernel_rfl) (fun _ _ _ h => h) (.inl ⟨by kernel_rfl, by intro w hSw; (try dsimp only at hSw); go_simp; try with_reducible rfl⟩) hHeld ?_
  (try simp only [Act.put, List.getElem_toArray, List.getElem_cons_zero, List.getElem_cons_succ, List.setIfInBounds_toArray, List.set_cons_zero, List.set_cons_succ])
  refine wpAnyH_take (i := 11) rfl (by kernel_rfl) (by kernel_rfl) (by kernel_rfl) (fun _ _ _ h => h) (.inl ⟨by kernel_rfl, by intro w hSw; (try dsimp only at hSw); go_simp; try with_reducible rfl⟩) hHeld ?_
  (try simp only [Act.put, List.getElem_toArray, List.getElem_cons_zero, List.getElem_cons_succ, List.setIfInBounds_toArray, List.set_cons_zero, List.set_cons_succ])
  refine wpAnyH_take (i := 12) rfl (by kernel_rfl) (by kernel_rfl) (by kernel_rfl) (fun _ _ _ h => h) (.inl ⟨by kernel_rfl, by intro w hSw; (try dsimp only at hSw); go_simp; try with_reducible rfl⟩) hHeld ?_
  (try simp only [Act.put, List.getElem_toArray, List.getElem_cons_zero, List.getElem_cons_succ, List.setIfInBounds_toArray, List.set_cons_zero, List.set_cons_succ])
  refine wpAnyH_take (i := 13) rfl (by kernel_rfl) (by kernel_rfl) (by kernel_rfl) (fun _ _ _ h => h) (.inl ⟨by kernel_rfl, by intro w hSw; (try dsimp only at hSw); go_simp; rw [if_pos (by omega)]⟩) hHeld ?_
  (try simp only [Act.put, List.getElem_toArray, List.getElem_cons_zero, List.getElem_cons_succ, List.setIfInBounds_toArray, List.set_cons_zero, List.set_cons_succ])
  refine wpAnyH_take (i := 14) rfl (by kernel_rfl) (by kernel_rfl) (by kernel_rfl) (fun _ _ _ h => h) (.inl ⟨by kernel_rfl, by intro w hSw; (try dsimp only at hSw); go_simp; try with_reducible rfl⟩) hHeld ?_
  (try simp only [Act.put, List.getElem_toArray, List.getElem_cons_zero, List.getElem_cons_succ, List.setIfInBounds_toArray, List.set_cons_zero, List.set_cons_succ])
  refine wpAnyH_take (i := 15) rfl (by kernel_rfl) (by kernel_rfl) (by kernel_rfl) (fun _ _ _ h => h) (.inl ⟨by kernel_rfl, by intro w hSw; (try dsimp only at hSw); go_simp; try with_reducible rfl⟩) hHeld ?_
  (try simp only [Act.put, List.getElem_toArray, List.getElem_cons_zero, List.getElem_cons_succ, List.setIfInBounds_toArray, List.set_cons_zero, List.set_cons_succ])
  refine wpAnyH_take (i := 16) rfl (by kernel_rfl) (by kernel_rfl) (by kernel_rfl) (fun _ _ _ h => h) (.inl ⟨by kernel_rfl, by intro w hSw; (try dsimp only at hSw); go_simp; try with_reducible rfl⟩) hHeld ?_
  (try simp only [Act.put, List.getElem_toArray, List.getElem_cons_zero, List.getElem_cons_succ, List.setIfInBounds_toArray, List.set_cons_zero, List.set_cons_succ])
  refine wpAnyH_take (i := 17) (v := .bool false) rfl (by kernel_rfl) (by kernel_rfl) (by kernel_rfl) (fun _ _ _ h => h) (.inl ⟨by kernel_rfl, by intro w hSw; (try dsimp only at hSw); go_simp; skip⟩) hHeld ?_
  (try simp only [Act.put, List.getElem_toArray, List.getElem_cons_zero, List.getElem_cons_succ, List.setIfInBounds_toArray, List.set_cons_zero, List.set_cons_succ])
  refine wpAnyH_take (i := 18) rfl (by kernel_rfl) (by kernel_rfl) (by kernel_rfl) (fun _ _ _ h => h) (.inl ⟨by kernel_rfl, by intro w hSw; (try dsimp only at hSw); go_simp; try with_reducible rfl⟩) hHeld ?_
  (try simp only [Act.put, List.getElem_toArray, List.getElem_cons_zero, List.getElem_cons_succ, List.setIfInBounds_toArray, List.set_cons_zero, List.set_cons_succ])
  refine wpAnyH_take (i := 19) rfl (by kernel_rfl) (by kernel_rfl) (by kernel_rfl) (fun _ _ _ h => h) (.inl ⟨by kernel_rfl, by intro w hSw; (try dsimp only at hSw); go_simp; try with_reducible rfl⟩) hHeld ?_
  (try simp only [Act.put, List.getElem_toArray, List.getElem_cons_zero, List.getElem_cons_succ, List.setIfInBounds_toArray, List.set_cons_zero, List.set_cons_succ])
  refine wpAnyH_take (i := 20) rfl (by kernel_rfl) (by kernel_rfl) (by kernel_rfl) (fun _ _ _ h => h) (.inl ⟨by kernel_rfl, by intro w hSw; (try dsimp only at hSw); go_simp; try with_reducible rfl⟩) hHeld ?_
  (try simp only [Act.put, List.getElem_toArray, List.getElem_cons_zero, List.getElem_cons_succ, List.setIfInBounds_toArray, List.set_cons_zero, List.set_cons_succ])
  refine wpAnyH_take (i := 21) rfl (by kernel_rfl) (by kernel_rfl) (by kernel_rfl) (fun _ _ _ h => h) (.inl ⟨by kernel_rfl, by intro w hSw; (try dsimp only at hSw); go_simp; try with_reducible rfl⟩) hHeld ?_
  (try simp only [Act.put, List.getElem_toArray, List.getElem_cons_zero, List.getElem_cons_succ, List.setIfInBounds_toArray, List.set_cons_zero, List.set_cons_succ])
  refine wpAnyH_take (i := 22) rfl (by kernel_rfl) (by kernel_rfl) (by kernel_rfl) (fun _ _ _ h => h) (.inl ⟨by kernel_rfl, by intro w hSw; (try dsimp only at hSw); go_simp; try with_reducible rfl⟩) hHeld ?_
  (try simp only [Act.put, List.getElem_toArray, List.getElem_cons_zero, List.getElem_cons_succ, List.setIfInBounds_toArray, List.set_cons_zero, List.set_cons_succ])
  refine wpAnyH_ready (rs := [23]) (by kernel_rfl) (by simp) ?_
  refine AllReadyH.cons rfl (fun K hK => ?_) AllReadyH.nil
  simp only [List.getElem_toArray, List.getElem_cons_zero, List.getElem_cons_succ]
  go_simp
  refine Calls.mono (HSP.out _ (HB3.out.trans (HB5.out.mono HB3.out.size))) ?_
  rintro e w5 ⟨hb5, a5, c5, rfl⟩
  have HB6 : Hid (Below w3.heap.size w3 w5) := HB5.out.trans (hb5.mono HB5.out.size)
  clear hb5
  refine hK.out _ _ (HS7.out _ HB6.out) (fun hHeld => ?_)
  clear hK K
  (try simp only [Act.put, List.getElem_toArray, List.getElem_cons_zero, List.getElem_cons_succ, List.setIfInBounds_toArray, List.set_cons_zero, List.set_cons_succ])
  refine wpAnyH_take (i := 24) rfl (by kernel_rfl) (by kernel_rfl) (by kernel_rfl) (fun _ _ _ h => h) (.inl ⟨by kernel_rfl, by intro w hSw; (try dsimp only at hSw); go_simp; try with_reducible rfl⟩) hHeld ?_
  (try simp only [Act.put, List.getElem_toArray, List.getElem_cons_zero, List.getElem_cons_succ, List.setIfInBounds_toArray, List.set_cons_zero, List.set_cons_succ])
  refine wpAnyH_take (i := 25) (v := .bool false) rfl (by kernel_rfl) (by kernel_rfl) (by kernel_rfl) (fun _ _ _ h => h) (.inl ⟨by kernel_rfl, by intro w hSw; (try dsimp only at hSw); go_simp; skip⟩) hHeld ?_
  (try simp only [Act.put, List.getElem_toArray, List.getElem_cons_zero, List.getElem_cons_succ, List.setIfInBounds_toArray, List.set_cons_zero, List.set_cons_succ])
  refine wpAnyH_take (i := 26) rfl (by kernel_rfl) (by kernel_rfl) (by kernel_rfl) (fun _ _ _ h => h) (.inl ⟨by kernel_rfl, by intro w hSw; (try dsimp only at hSw); go_simp; try with_reducible rfl⟩) hHeld ?_
  (try simp only [Act.put, List.getElem_toArray, List.getElem_cons_zero, List.getElem_cons_succ, List.setIfInBounds_toArray, List.set_cons_zero, List.set_cons_succ])
  refine wpAnyH_done (by kernel_rfl) ?_ _
  go_wp2_with fail
  have HBW6 : Hid (Below w.heap.size w w5) := HBW3.out.trans (HB6.out.mono HBW3.out.size)
  have HNM : Hid (∀ m (h : m < c.ms.length), ∃ gm, up = some ⟨gm, 0, none⟩ ∧ ∀ w', Below w3.heap.size w3 w' → w'.cell? ⟨gm, m * 9, none⟩ = some (.string (MT.nm c.ms[m].1))) := fun m h => by
   have hR := HR.out
   rcases hR.2 with ⟨h1, h0⟩ | ⟨gm, cap, cur, h1, hgb, hgc, _⟩
   ·omega
   ·injection h1 with e1 e2 e3
    subst e1
    subst e3
    have hc := hR.cellAt (m * 9) (by omega)
    have hf := flat_get c.ms (c := cMt) (k := 9) (fun x _ => rfl) m h 0 (by omega)
    rw [Nat.add_zero] at hf
    rw [hf] at hc
    have hl : gm < w1.heap.size := (Array.getElem?_eq_some_iff.1 hgc).1
    exact ⟨gm, rfl, fun w' hb => carry (HB2.out.trans ((HB3.out.trans (hb.mono HB3.out.size)).mono HB2.out.size)) hl hc⟩
  obtain ⟨msn, hmsn⟩ : ∃ l, c.ms.map (fun x => MT.nm x.1) = l := ⟨_, rfl⟩
  have HMS : Hid (msn.length = c.ms.length ∧ ∀ m (h : m < c.ms.length), msn[m]? = some (MT.nm c.ms[m].1)) := by rw [← hmsn]; exact ⟨by simp, fun m h => by simp [h]⟩
  rw [hmsn] at HMN
  have HTA : Hid (tot msn ps ps.length = c.ms.length) := (tot_all HN.out HMN.out).trans HMS.out.1
  have HTL : Hid (∀ i, tot msn ps i ≤ i * 3) := fun i => Nat.le_trans (tot_le msn ps i) (Nat.mul_le_mul_left _ (by rw [HMS.out.1]; exact hml))
  clear hmsn e0 e1 HS7 HR HIN HX2 hcp HMN hHeld
  go_loopw [5, 6] (fun h j wr => ∃ k : Nat, k ≤ ps.length ∧ j = .int .i64 (k : Int) ∧ h = .int .i64 ((tot msn ps k : Nat) : Int) ∧ Below w5.heap.size w5 wr) (fun h j _ => 300 - (intOf j).toNat)
  case atStart => exact ⟨0, by omega, rfl, rfl, Below.refl _ _⟩
  case round =>
   obtain ⟨k, hk, rfl, rfl, hb⟩ := hrel
   have HBr : Hid (Below w5.heap.size w5 wr) := hb
   clear hb
   by_cases hlt : k < ps.length
   ·obtain ⟨pk, hpk⟩ : ∃ t, ps[k] = t := ⟨_, rfl⟩
    have htk := HTL.out k
    have HTS : Hid (tot msn ps (k + 1) = tot msn ps k + hits msn pk msn.length) := by show _ = _; rw [tot_step hlt, hpk]
    have HHL : Hid (∀ m, hits msn pk m ≤ m) := hits_le msn pk
    have HPK : Hid (∀ w', Below w3.heap.size w3 w' → w'.cell? ⟨g, k, none⟩ = some (.string pk)) := fun w' hb => by rw [HC4.out w' hb k hlt, hpk]
    have HNE : Hid (∀ m (h : m < k), ((ps[m]'(by omega)).toList == pk.toList) = false) := fun m h => text_ne' fun e => by
     rw [← hpk] at e
     exact (List.pairwise_iff_getElem.1 HN.out) m k (by omega) hlt h e
    go_wp2_with fail
    go_loopw [7] (fun j wr => ∃ m : Nat, m ≤ k ∧ j = .int .i64 (m : Int) ∧ Below w5.heap.size w5 wr) (fun j _ => 300 - (intOf j).toNat)
    case atStart => exact ⟨0, by omega, rfl, HBr.out⟩
    case round =>
     obtain ⟨m, hm, rfl, hb⟩ := hrel
     have HB7 : Hid (Below w5.heap.size w5 wr) := hb
     clear hb HBr
     by_cases hmk : m < k
     ·have c1 := HC4.out wr (HB6.out.trans (HB7.out.mono HB6.out.size)) m (by omega)
      have c2 := HPK.out wr (HB6.out.trans (HB7.out.mono HB6.out.size))
      have hne := HNE.out m hmk
      have hmi : (m : Int) < ps.length := by omega
      have hki : (k : Int) < ps.length := by omega
      obtain ⟨pm, hpm⟩ : ∃ t, ps[m]'(by omega) = t := ⟨_, rfl⟩
      rw [hpm] at c1 hne
      clear hpm hpk
      go_upto_region 16 with fail
      refine wp_region_held_drew (S := fun w' => w'.cell? ⟨g, m, none⟩ = some (.string pm) ∧ w'.cell? ⟨g, k, none⟩ = some (.string pk)) (by kernel_rfl) ⟨c1, c2⟩ (fun hHeld => ?_)
      refine wpAnyH_take (i := 0) rfl (by kernel_rfl) (by kernel_rfl) (by kernel_rfl) (fun _ _ _ h => h) (.inl ⟨by kernel_rfl, by intro w hSw; (try dsimp only at hSw); go_simp; try with_reducible rfl⟩) hHeld ?_
      (try simp only [Act.put, List.getElem_toArray, List.getElem_cons_zero, List.setIfInBounds_toArray, List.set_cons_zero, List.set_cons_succ])
      refine wpAnyH_take (i := 1) rfl (by kernel_rfl) (by kernel_rfl) (by kernel_rfl) (fun _ _ _ h => h) (.inl ⟨by kernel_rfl, by intro w hSw; (try dsimp only at hSw); go_simp; try with_reducible rfl⟩) hHeld ?_
      (try simp only [Act.put, List.getElem_toArray, List.getElem_cons_zero, List.getElem_cons_succ, List.setIfInBounds_toArray, List.set_cons_zero, List.set_cons_succ])
      refine wpAnyH_take (i := 2) rfl (by kernel_rfl) (by kernel_rfl) (by kernel_rfl) (fun _ _ _ h => h) (.inl ⟨by kernel_rfl, by intro w hSw; (try dsimp only at hSw); go_simp; try with_reducible rfl⟩) hHeld ?_
      (try simp only [Act.put, List.getElem_toArray, List.getElem_cons_zero, List.getElem_cons_succ, List.setIfInBounds_toArray, List.set_cons_zero, List.set_cons_succ])
      refine wpAnyH_take (i := 3) rfl (by kernel_rfl) (by kernel_rfl) (by kernel_rfl) (fun _ _ _ h => h) (.inl ⟨by kernel_rfl, by intro w hSw; (try dsimp only at hSw); go_simp; try with_reducible rfl⟩) hHeld ?_
      (try simp only [Act.put, List.getElem_toArray, List.getElem_cons_zero, List.getElem_cons_succ, List.setIfInBounds_toArray, List.set_cons_zero, List.set_cons_succ])
      refine wpAnyH_take (i := 4) rfl (by kernel_rfl) (by kernel_rfl) (by kernel_rfl) (fun _ _ _ h => h) (.inl ⟨by kernel_rfl, by intro w hSw; (try dsimp only at hSw); go_simp; try with_reducible rfl⟩) hHeld ?_
      (try simp only [Act.put, List.getElem_toArray, List.getElem_cons_zero, List.getElem_cons_succ, List.setIfInBounds_toArray, List.set_cons_zero, List.set_cons_succ])
      refine wpAnyH_take (i := 5) rfl (by kernel_rfl) (by kernel_rfl) (by kernel_rfl) (fun _ _ _ h => h) (.inl ⟨by kernel_rfl, by intro w hSw; (try dsimp only at hSw); go_simp; try with_reducible rfl⟩) hHeld ?_
      (try simp only [Act.put, List.getElem_toArray, List.getElem_cons_zero, List.getElem_cons_succ, List.setIfInBounds_toArray, List.set_cons_zero, List.set_cons_succ])
      refine wpAnyH_take (i := 6) rfl (by kernel_rfl) (by kernel_rfl) (by kernel_rfl) (fun _ _ _ h => h) (.inl ⟨by kernel_rfl, by intro w hSw; (try dsimp only at hSw); go_simp; try with_reducible rfl⟩) hHeld ?_
      (try simp only [Act.put, List.getElem_toArray, List.getElem_cons_zero, List.getElem_cons_succ, List.setIfInBounds_toArray, List.set_cons_zero, List.set_cons_succ])
      refine wpAnyH_take (i := 7) rfl (by kernel_rfl) (by kernel_rfl) (by kernel_rfl) (fun _ _ _ h => h) (.inl ⟨by kernel_rfl, by intro w hSw; (try dsimp only at hSw); go_simp; try with_reducible rfl⟩) hHeld ?_
      (try simp only [Act.put, List.getElem_toArray, List.getElem_cons_zero, List.getElem_cons_succ, List.setIfInBounds_toArray, List.set_cons_zero, List.set_cons_succ])
      refine wpAnyH_take (i := 8) (v := .bool false) rfl (by kernel_rfl) (by kernel_rfl) (by kernel_rfl) (fun _ _ _ h => h) (.inl ⟨by kernel_rfl, by intro w hSw; (try dsimp only at hSw); go_simp; (try simp [hne])⟩) hHeld ?_
      (try simp only [Act.put, List.getElem_toArray, List.getElem_cons_zero, List.getElem_cons_succ, List.setIfInBounds_toArray, List.set_cons_zero, List.set_cons_succ])
      refine wpAnyH_done (by kernel_rfl) ?_ _
      go_wp2
      go_roundw
      case rel => exact ⟨m + 1, by omega, by congr 1, HB7.out.trans ((Below.refl _ _).drew.mono HB7.out.size)⟩
      case measure => simp [intOf]; omega
     ·go_wp2_with fail
      go_loopw [5, 8] (fun h j wr => ∃ m : Nat, m ≤ c.ms.length ∧ j = .int .i64 (m : Int) ∧ h = .int .i64 ((tot msn ps k + hits msn pk m : Nat) : Int) ∧ Below w5.heap.size w5 wr) (fun h j _ => 300 - (intOf j).toNat)
      case atStart => exact ⟨0, by omega, rfl, by simp [hits], HB7.out⟩
      case round =>
       obtain ⟨m, hm2, rfl, rfl, hb⟩ := hrel
       have HB8 : Hid (Below w5.heap.size w5 wr) := hb
       have HB8' : Hid (Below w3.heap.size w3 wr) := HB6.out.trans (hb.mono HB6.out.size)
       clear hb HB7
       obtain ⟨x0, x1, x2, x3, x4, x5⟩ := HX.out wr HB8'.out
       clear x0 x1 x2 x3 x4
       have hh := HHL.out m
       by_cases hmm : m < c.ms.length
       ·obtain ⟨gm, rfl, hgm⟩ := HNM.out m hmm
        have c1 := hgm wr HB8'.out
        have c2 := HPK.out wr HB8'.out
        have hs := (show Hid (hits msn pk (m + 1) = hits msn pk m + if msn[m]? = some pk then 1 else 0) from hits_s msn pk m)
        have hms := (show Hid _ from HMS.out.2 m hmm)
        obtain ⟨nm, hnm⟩ : ∃ t, MT.nm c.ms[m].1 = t := ⟨_, rfl⟩
        rw [hnm] at c1 hms
        clear hnm hgm
        have hmi : (m : Int) < c.ms.length := by omega
        have hki : (k : Int) < ps.length := by omega
        by_cases he : nm = pk
        ·have hq : (nm.toList == pk.toList) = true := text_eq' he
         have HS2 : Hid (hits msn pk (m + 1) = hits msn pk m + 1) := by show _ = _; rw [hs.out, hms.out, if_pos (by rw [he])]
         clear hs hms he hpk
         go_upto_region 21 with fail
         refine wp_region_held_drew (S := fun w' => w'.cell? ⟨w1.heap.size, 5, none⟩ = some (.slice (some ⟨gm, 0, none⟩) c.ms.length uc) ∧ w'.cell? ⟨gm, m * 9, none⟩ = some (.string nm) ∧ w'.cell? ⟨g, k, none⟩ = some (.string pk)) (by kernel_rfl) ⟨x5, c1, c2⟩ (fun hHeld => ?_)
         refine wpAnyH_take (i := 0) rfl (by kernel_rfl) (by kernel_rfl) (by kernel_rfl) (fun _ _ _ h => h) (.inl ⟨by kernel_rfl, by intro w hSw; (try dsimp only at hSw); go_simp; try with_reducible rfl⟩) hHeld ?_
         (try simp only [Act.put, List.getElem_toArray, List.getElem_cons_zero, List.setIfInBounds_toArray, List.set_cons_zero, List.set_cons_succ])
         refine wpAnyH_take (i := 1) rfl (by kernel_rfl) (by kernel_rfl) (by kernel_rfl) (fun _ _ _ h => h) (.inl ⟨by kernel_rfl, by intro w hSw; (try dsimp only at hSw); go_simp; try with_reducible rfl⟩) hHeld ?_
         (try simp only [Act.put, List.getElem_toArray, List.getElem_cons_zero, List.getElem_cons_succ, List.setIfInBounds_toArray, List.set_cons_zero, List.set_cons_succ])
         refine wpAnyH_take (i := 2) rfl (by kernel_rfl) (by kernel_rfl) (by kernel_rfl) (fun _ _ _ h => h) (.inl ⟨by kernel_rfl, by intro w hSw; (try dsimp only at hSw); go_simp; try with_reducible rfl⟩) hHeld ?_
         (try simp only [Act.put, List.getElem_toArray, List.getElem_cons_zero, List.getElem_cons_succ, List.setIfInBounds_toArray, List.set_cons_zero, List.set_cons_succ])
         refine wpAnyH_take (i := 3) rfl (by kernel_rfl) (by kernel_rfl) (by kernel_rfl) (fun _ _ _ h => h) (.inl ⟨by kernel_rfl, by intro w hSw; (try dsimp only at hSw); go_simp; try with_reducible rfl⟩) hHeld ?_
         (try simp only [Act.put, List.getElem_toArray, List.getElem_cons_zero, List.getElem_cons_succ, List.setIfInBounds_toArray, List.set_cons_zero, List.set_cons_succ])
         refine wpAnyH_take (i := 4) rfl (by kernel_rfl) (by kernel_rfl) (by kernel_rfl) (fun _ _ _ h => h) (.inl ⟨by kernel_rfl, by intro w hSw; (try dsimp only at hSw); go_simp; try with_reducible rfl⟩) hHeld ?_
         (try simp only [Act.put, List.getElem_toArray, List.getElem_cons_zero, List.getElem_cons_succ, List.setIfInBounds_toArray, List.set_cons_zero, List.set_cons_succ])
         refine wpAnyH_take (i := 5) rfl (by kernel_rfl) (by kernel_rfl) (by kernel_rfl) (fun _ _ _ h => h) (.inl ⟨by kernel_rfl, by intro w hSw; (try dsimp only at hSw); go_simp; try with_reducible rfl⟩) hHeld ?_
         (try simp only [Act.put, List.getElem_toArray, List.getElem_cons_zero, List.getElem_cons_succ, List.setIfInBounds_toArray, List.set_cons_zero, List.set_cons_succ])
         refine wpAnyH_take (i := 6) rfl (by kernel_rfl) (by kernel_rfl) (by kernel_rfl) (fun _ _ _ h => h) (.inl ⟨by kernel_rfl, by intro w hSw; (try dsimp only at hSw); go_simp; try with_reducible rfl⟩) hHeld ?_
         (try simp only [Act.put, List.getElem_toArray, List.getElem_cons_zero, List.getElem_cons_succ, List.setIfInBounds_toArray, List.set_cons_zero, List.set_cons_succ])
         refine wpAnyH_take (i := 7) rfl (by kernel_rfl) (by kernel_rfl) (by kernel_rfl) (fun _ _ _ h => h) (.inl ⟨by kernel_rfl, by intro w hSw; (try dsimp only at hSw); go_simp; try with_reducible rfl⟩) hHeld ?_
         (try simp only [Act.put, List.getElem_toArray, List.getElem_cons_zero, List.getElem_cons_succ, List.setIfInBounds_toArray, List.set_cons_zero, List.set_cons_succ])
         refine wpAnyH_take (i := 8) rfl (by kernel_rfl) (by kernel_rfl) (by kernel_rfl) (fun _ _ _ h => h) (.inl ⟨by kernel_rfl, by intro w hSw; (try dsimp only at hSw); go_simp; try with_reducible rfl⟩) hHeld ?_
         (try simp only [Act.put, List.getElem_toArray, List.getElem_cons_zero, List.getElem_cons_succ, List.setIfInBounds_toArray, List.set_cons_zero, List.set_cons_succ])
         refine wpAnyH_take (i := 9) rfl (by kernel_rfl) (by kernel_rfl) (by kernel_rfl) (fun _ _ _ h => h) (.inl ⟨by kernel_rfl, by intro w hSw; (try dsimp only at hSw); go_simp; try with_reducible rfl⟩) hHeld ?_
         (try simp only [Act.put, List.getElem_toArray, List.getElem_cons_zero, List.getElem_cons_succ, List.setIfInBounds_toArray, List.set_cons_zero, List.set_cons_succ])
         refine wpAnyH_take (i := 10) (v := .bool true) rfl (by kernel_rfl) (by kernel_rfl) (by kernel_rfl) (fun _ _ _ h => h) (.inl ⟨by kernel_rfl, by intro w hSw; (try dsimp only at hSw); go_simp; (try simp [hq])⟩) hHeld ?_
         (try simp only [Act.put, List.getElem_toArray, List.getElem_cons_zero, List.getElem_cons_succ, List.setIfInBounds_toArray, List.set_cons_zero, List.set_cons_succ])
         refine wpAnyH_done (by kernel_rfl) ?_ _
         go_wp2
         go_roundw
         case rel => exact ⟨m + 1, by omega, by congr 1, by rw [HS2.out]; congr 1, HB8.out.trans ((Below.refl _ _).drew.mono HB8.out.size)⟩
         case measure => simp [intOf]; omega
        ·have hq : (nm.toList == pk.toList) = false := text_ne' he
         have HS2 : Hid (hits msn pk (m + 1) = hits msn pk m) := by show _ = _; rw [hs.out, hms.out, if_neg (by simpa using he)]; rfl
         clear hs hms he hpk
         go_upto_region 21 with fail
         refine wp_region_held_drew (S := fun w' => w'.cell? ⟨w1.heap.size, 5, none⟩ = some (.slice (some ⟨gm, 0, none⟩) c.ms.length uc) ∧ w'.cell? ⟨gm, m * 9, none⟩ = some (.string nm) ∧ w'.cell? ⟨g, k, none⟩ = some (.string pk)) (by kernel_rfl) ⟨x5, c1, c2⟩ (fun hHeld => ?_)
         refine wpAnyH_take (i := 0) rfl (by kernel_rfl) (by kernel_rfl) (by kernel_rfl) (fun _ _ _ h => h) (.inl ⟨by kernel_rfl, by intro w hSw; (try dsimp only at hSw); go_simp; try with_reducible rfl⟩) hHeld ?_
         (try simp only [Act.put, List.getElem_toArray, List.getElem_cons_zero, List.setIfInBounds_toArray, List.set_cons_zero, List.set_cons_succ])
         refine wpAnyH_take (i := 1) rfl (by kernel_rfl) (by kernel_rfl) (by kernel_rfl) (fun _ _ _ h => h) (.inl ⟨by kernel_rfl, by intro w hSw; (try dsimp only at hSw); go_simp; try with_reducible rfl⟩) hHeld ?_
         (try simp only [Act.put, List.getElem_toArray, List.getElem_cons_zero, List.getElem_cons_succ, List.setIfInBounds_toArray, List.set_cons_zero, List.set_cons_succ])
         refine wpAnyH_take (i := 2) rfl (by kernel_rfl) (by kernel_rfl) (by kernel_rfl) (fun _ _ _ h => h) (.inl ⟨by kernel_rfl, by intro w hSw; (try dsimp only at hSw); go_simp; try with_reducible rfl⟩) hHeld ?_
         (try simp only [Act.put, List.getElem_toArray, List.getElem_cons_zero, List.getElem_cons_succ, List.setIfInBounds_toArray, List.set_cons_zero, List.set_cons_succ])
         refine wpAnyH_take (i := 3) rfl (by kernel_rfl) (by kernel_rfl) (by kernel_rfl) (fun _ _ _ h => h) (.inl ⟨by kernel_rfl, by intro w hSw; (try dsimp only at hSw); go_simp; try with_reducible rfl⟩) hHeld ?_
         (try simp only [Act.put, List.getElem_toArray, List.getElem_cons_zero, List.getElem_cons_succ, List.setIfInBounds_toArray, List.set_cons_zero, List.set_cons_succ])
         refine wpAnyH_take (i := 4) rfl (by kernel_rfl) (by kernel_rfl) (by kernel_rfl) (fun _ _ _ h => h) (.inl ⟨by kernel_rfl, by intro w hSw; (try dsimp only at hSw); go_simp; try with_reducible rfl⟩) hHeld ?_
         (try simp only [Act.put, List.getElem_toArray, List.getElem_cons_zero, List.getElem_cons_succ, List.setIfInBounds_toArray, List.set_cons_zero, List.set_cons_succ])
         refine wpAnyH_take (i := 5) rfl (by kernel_rfl) (by kernel_rfl) (by kernel_rfl) (fun _ _ _ h => h) (.inl ⟨by kernel_rfl, by intro w hSw; (try dsimp only at hSw); go_simp; try with_reducible rfl⟩) hHeld ?_
         (try simp only [Act.put, List.getElem_toArray, List.getElem_cons_zero, List.getElem_cons_succ, List.setIfInBounds_toArray, List.set_cons_zero, List.set_cons_succ])
         refine wpAnyH_take (i := 6) rfl (by kernel_rfl) (by kernel_rfl) (by kernel_rfl) (fun _ _ _ h => h) (.inl ⟨by kernel_rfl, by intro w hSw; (try dsimp only at hSw); go_simp; try with_reducible rfl⟩) hHeld ?_
         (try simp only [Act.put, List.getElem_toArray, List.getElem_cons_zero, List.getElem_cons_succ, List.setIfInBounds_toArray, List.set_cons_zero, List.set_cons_succ])
         refine wpAnyH_take (i := 7) rfl (by kernel_rfl) (by kernel_rfl) (by kernel_rfl) (fun _ _ _ h => h) (.inl ⟨by kernel_rfl, by intro w hSw; (try dsimp only at hSw); go_simp; try with_reducible rfl⟩) hHeld ?_
         (try simp only [Act.put, List.getElem_toArray, List.getElem_cons_zero, List.getElem_cons_succ, List.setIfInBounds_toArray, List.set_cons_zero, List.set_cons_succ])
         refine wpAnyH_take (i := 8) rfl (by kernel_rfl) (by kernel_rfl) (by kernel_rfl) (fun _ _ _ h => h) (.inl ⟨by kernel_rfl, by intro w hSw; (try dsimp only at hSw); go_simp; try with_reducible rfl⟩) hHeld ?_
         (try simp only [Act.put, List.getElem_toArray, List.getElem_cons_zero, List.getElem_cons_succ, List.setIfInBounds_toArray, List.set_cons_zero, List.set_cons_succ])
         refine wpAnyH_take (i := 9) rfl (by kernel_rfl) (by kernel_rfl) (by kernel_rfl) (fun _ _ _ h => h) (.inl ⟨by kernel_rfl, by intro w hSw; (try dsimp only at hSw); go_simp; try with_reducible rfl⟩) hHeld ?_
         (try simp only [Act.put, List.getElem_toArray, List.getElem_cons_zero, List.getElem_cons_succ, List.setIfInBounds_toArray, List.set_cons_zero, List.set_cons_succ])
         refine wpAnyH_take (i := 10) (v := .bool false) rfl (by kernel_rfl) (by kernel_rfl) (by kernel_rfl) (fun _ _ _ h => h) (.inl ⟨by kernel_rfl, by intro w hSw; (try dsimp only at hSw); go_simp; (try simp [hq])⟩) hHeld ?_
         (try simp only [Act.put, List.getElem_toArray, List.getElem_cons_zero, List.getElem_cons_succ, List.setIfInBounds_toArray, List.set_cons_zero, List.set_cons_succ])
         refine wpAnyH_done (by kernel_rfl) ?_ _
         go_wp2
         go_roundw
         case rel => exact ⟨m + 1, by omega, by congr 1, by rw [HS2.out], HB8.out.trans ((Below.refl _ _).drew.mono HB8.out.size)⟩
         case measure => simp [intOf]; omega
       ·go_wp2_with fail
        go_roundw
        case rel => exact ⟨k + 1, by omega, by congr 1, by rw [HTS.out, HMS.out.1, (show m = c.ms.length by omega)], HB8.out⟩
        case measure => simp [intOf]; omega
   ·obtain rfl : k = ps.length := by omega
    obtain ⟨x0, x1, x2, x3, x4, x5⟩ := HX.out wr (HB6.out.trans (HBr.out.mono HB6.out.size))
    rw [HTA.out]
    clear x0 x1 x2 x3 x4
    go_wp2
    go_ret
    exact ⟨by simp, HBW6.out.trans (HBr.out.mono HBW6.out.size)⟩
 ·have HQ := (show Hid (clsOk (cOf c) = false) from hq)
  have HSR : Hid (Calls Tryz.prog 6 #[clsV (cOf c) (.slice tp c.fs.length tc) (.slice up c.ms.length uc)] w3 fun e w4 => e = .returned (.bool false) ∧ Below w3.heap.size w3 w4) := (specClassRight (cOf c) _ _ w3 s0 s1 (HIN.out _ hb3).1 (HIN.out _ hb3).2).mono fun e w4 h => ⟨by rw [h.1, HQ.out], h.2⟩
  have hp0 : poolT (cOf c) = [] := poolT_no fun h => hP h.1
  rw [hp0] at hown
  obtain ⟨pp, pc, rfl⟩ := own_sn hown
  obtain ⟨x0, x1, x2, x3, x4, x5⟩ := HX2.out w3 HB3.out
  clear hown hp0 HQ hq hP
  go_wp2_with fail
  refine Calls.mono HSR.out ?_
  rintro e w4 ⟨rfl, hb4⟩
  have HBW4 : Hid (Below w.heap.size w w4) := HBW3.out.trans (hb4.mono HBW3.out.size)
  clear hb4 HSR x0 x1 x2 x3 x4 x5
  go_wp2
  go_ret
  exact ⟨by simp, HBW4.out⟩

set_option maxRecDepth 100000 in
theorem lifted (os : Os) (started : os.Started) (H : Type) (enc : TypeId × Value → H) :
  ReturnsInHanded {} Tryz.checked os 3 .any (fun w args => (Rows.fnPoolSpec.pre enc Tryz.prog Tryz.f3 [] false w args ∧ laidMetH Tryz.prog Rows.fnPoolRow.laid w) ∧ sizedMet enc Tryz.prog Tryz.f3 (OpenSpec.ofChange Rows.fnPoolSpec) false w args)
   (Rows.fnPoolSpec.post enc Tryz.prog Tryz.f3 false true false false) := by
 refine returnsInHanded_of_change_and (C := Tryz.checked) (X := fun w _ => laidMetH Tryz.prog Rows.fnPoolRow.laid w) (fun _ _ _ hh h => h.of_heap hh) own started (by kernel_rfl) Tryz.func3
  (ChangeSpec.witness_at (enc := enc) (C := Tryz.checked) (os := os) (X := fun w _ => laidMetH Tryz.prog Rows.fnPoolRow.laid w) false (laidWorld os) #[.slice none 0 0] 8 rfl (by kernel_rfl) (by kernel_rfl) (by kernel_rfl) (by kernel_rfl) (by kernel_rfl) (laidWorld_met os _)) ?_
 intro W base args ds gs before hval0 hW _ _ hL _
 have hval : ∀ (j : Nat) t v, Tryz.f3.params[j]? = some t → args[j]? = some v → Value.okWide Tryz.prog W .any base t v := hval0
 have hW' := hW
 obtain ⟨p, q, hA0, hV0, rfl, hfz, hnd⟩ := hW
 have hA : DataW.TrodAll enc Tryz.prog W 0 (fun _ => true) true Tryz.f3.params.toList args.toList ds p := hA0
 have hV : DataW.TrodVars enc Tryz.prog W (fun _ => true) ["loop.example/g00175/impl.opTable"] gs q := hV0
 rw [Tryz.params3] at hA hval
 obtain ⟨v0, vs0, d0, ds0, p0, q0, hargs, rfl, rfl, h0, r0⟩ := trodAll_cons hA
 obtain ⟨rfl, rfl, rfl⟩ := trodAll_nil r0
 obtain rfl : args = #[v0] := by cases args; simp_all
 have hVk := hV
 obtain ⟨vg, vt, vcs, vfuel, vd, vp, rfl, _, _, _, _, rfl⟩ := trodVars_one hV
 obtain ⟨htab, hglob⟩ := both_of_laid hL
 obtain ⟨a0, len0, cap0, rfl⟩ := okWide_slice Tryz.underlying22 (hval 0 22 v0 rfl rfl)
 have k0 := h0
 have lt0 : ∀ x ∈ p0, x.block < W.heap.size := by obtain ⟨m, hm⟩ := k0; exact DataW.trod_lt m _ _ _ hm
 obtain ⟨z0, w0⟩ : ∃ zs, IsRow .u8 W a0 len0 cap0 zs := by
  obtain ⟨fuel, hf⟩ := h0
  rcases open_ints Tryz.underlying22 Tryz.underlying5 (by kernel_rfl) hf with ⟨hcs, _⟩ | ⟨x, l, c, zs, hcs, _, hl, hm, hz, _, hcell, hwz⟩
  ·simp [Value.cells] at hcs
   obtain ⟨rfl, rfl, rfl⟩ := hcs
   exact ⟨[], .inl ⟨rfl, rfl, rfl, rfl⟩⟩
  ·simp [Value.cells] at hcs
   obtain ⟨rfl, rfl, rfl⟩ := hcs
   exact ⟨zs, .inr ⟨_, rfl, hl, hm, by simpa using hz, hcell, hwz⟩⟩
 clear hA0 hval0
 refine (walk a0 len0 cap0 z0 W w0 htab hglob).mono fun e W' ⟨he, bel⟩ => ?_
 subst he
 exact ⟨_, rfl, _, _, _, [], _, _, hW', trodAll_mk1 (shut_bool Tryz.underlying4 _), (trodAll_cons_mk (Below.trod laidOut (by kernel_rfl) (of_decide_eq_true (by kernel_rfl)) k0 bel lt0) trodAll_mk0), Below.trodVars laidOut bel (by kernel_rfl) hVk, bel.frame _, fun h => by cases h⟩

theorem over : Rows.fnPoolRow.holds Tryz.pinned (OpenSpec.ofChange Rows.fnPoolSpec) :=
 OpenClaim.holds_of_wide 3 Tryz.f3 rfl rfl rfl rfl rfl rfl rfl ⟨rfl, rfl, rfl, rfl, rfl⟩ rfl rfl rfl rfl rfl (by kernel_rfl) Tryz.func3 (by kernel_rfl)
  (of_decide_eq_true (by kernel_rfl)) (by unfold Func.isWrapper; first | (rw [if_pos (by decide +kernel)]; kernel_rfl) | (rw [if_neg (by decide +kernel)]; exact ⟨rfl, rfl⟩))
  (fun os started H enc _ => lifted os started H enc)

end Go.Proofs.YtnenhhlgabghfaaGreatDoor.fnPool
namespace Go.Proofs.YtnenhhlgabghfaaGreatDoor
theorem fnPool_holds : Rows.FnPoolCardSaid :=
 Claim7.holds_tied_plain_at .later [] [.handle, .data] true (true, "331bdfa9e9b10e587e212e593b937b5952e23c1003471fadab8a21d8d107df59") true
  fnPool.over (fun _ h => by cases h) (by kernel_rfl) (fun _ h => by cases h) fnPool_row_tie rfl ⟨rfl, rfl⟩ (by kernel_rfl) rfl
  (fun f fn hf hfn => by
   obtain rfl : f = 3 := Option.some.inj ((show Tryz.prog.funcNamed "loop.example/g00175/laws.FnPool" = some 3 by kernel_rfl).symm.trans hf) |>.symm
   obtain rfl : fn = Tryz.f3 := (Option.some.inj (Tryz.func3.symm.trans hfn)).symm
   exact ⟨by kernel_rfl, fun j t ht => by
    rw [Tryz.params3] at ht
    rcases j with _ | j
    ·obtain rfl : t = 22 := by simpa using ht.symm
     exact (show Tryz.prog.wantsStandIn 22 = false by kernel_rfl)
    ·skip
     simp at ht⟩)
  (by kernel_rfl)
#print axioms fnPool_holds
end Go.Proofs.YtnenhhlgabghfaaGreatDoor
