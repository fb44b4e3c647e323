/-
 Whatever the code, the law FnFindMethod returns true: a method that is found in a drawn list of classes that is a right world stands in a class on which the one asked for stands, with that name and desc, and in none between; the argument and the program's table read as they did before. The variables listed are errors.errorType and the program's table opTable, both tied to the program's text by the card.
-/
import Derived.Test.YtmhgaggpdggbeaaGreatDoorRows
import Derived.Test.YtmhgaggpdggbeaaGreatDoorCards
import Derived.Test.YtmhgaggpdggbeaaGreatDoorTie
import Derived.WalkKit
import Derived.ProofKit
import Derived.OpenShut
import Derived.ShutString
import Derived.ChangeOld
import Derived.Below
import Derived.Carry
import Derived.OpenVars
import Derived.ChangeSame
import Derived.ChangeVars
import Derived.JoinedOf
import Derived.RowKit
import Derived.RowKitTokens
import Derived.LaidLaws
import Derived.LaidHandle
import Derived.LaidMore
import Derived.Stop.Joined
import Derived.SevenTiedAt
import Derived.Test.YtmhgaggpdggbeaaGreatDoorVdW
import Derived.Test.YtmhgaggpdggbeaaGreatDoorVdD
namespace Go.Proofs.YtmhgaggpdggbeaaGreatDoor.fnFindMethod
open Go.ChangeShapes Go.WideShapes Go.ChangeAt Go.RowKit
open Go.ChangeMaps (open_string shut_string)
set_option linter.unusedVariables false

theorem own : ownKnob Tryz.prog.godebug = none := by kernel_rfl
theorem laidOut : laidOutB Tryz.prog = true := by kernel_rfl
theorem ot : Tryz.prog.globalNamed "loop.example/g00175/impl.opTable" = some 1 := by kernel_rfl
theorem otT : (Tryz.prog.globals[1]?).map (·.type) = some 234 := by kernel_rfl
theorem c1 : Tryz.prog.cellsOf 232 = 2 := by kernel_rfl
theorem c2 : Tryz.prog.cellsOf 9 = 1 := by kernel_rfl

theorem tab_datum {H : Type} : (Rows.laid_loop_example_g00175_impl_opTable : DataW H) = .agg ((List.range 45).map fun i : Nat => .agg [.lit (.string (nmS (i : Int)).data.toList), .lit (.string (fmS (i : Int)).data.toList)]) := by kernel_rfl

theorem bytes_of {a b : ByteArray} (h : a.data.toList = b.data.toList) : a = b := by
 obtain ⟨⟨x⟩⟩ := a
 obtain ⟨⟨y⟩⟩ := b
 simp at h
 rw [h]

theorem tab_of_data {W : World} (h : laidMet Tryz.prog [("loop.example/g00175/impl.opTable", Rows.laid_loop_example_g00175_impl_opTable)] W) : Tab W := by
 obtain ⟨ps, ⟨g, t, cs, fuel, p, q, hg, ht, hvar, hd, _, _⟩, _⟩ := h
 obtain rfl := Option.some.inj (ot.symm.trans hg)
 obtain rfl := Option.some.inj (otT.symm.trans ht)
 rw [tab_datum] at hd
 obtain ⟨xs, m, _, hx, hlen, hn, hel⟩ := DataW.trod_array Tryz.underlying234 hd
 simp only [Prod.mk.injEq, DataW.agg.injEq] at hx
 intro i hi
 have h1 := hel i hi
 rw [c1] at h1
 have h2 : (xs.map (·.1))[i]? = some (.agg [.lit (.string (nmS (i : Int)).data.toList), .lit (.string (fmS (i : Int)).data.toList)]) := by
  rw [← hx.1, List.getElem?_map, List.getElem?_range hi]; rfl
 rw [List.getElem?_map] at h2
 obtain ⟨y, hy, hy2⟩ := Option.map_eq_some_iff.1 h2
 rw [hy] at h1
 obtain ⟨ys, k, _, hys, hcl, hyl, hfs⟩ := DataW.trod_struct Tryz.underlying232 h1
 have e0 := hfs 0 _ rfl
 have e1 := hfs 1 _ rfl
 have hyl2 : ys.length = 2 := hyl
 match ys, hyl2, hys, e0, e1 with
 | [y0, y1], _, hys, e0, e1 =>
  simp only [List.getElem?_cons_zero, List.getElem?_cons_succ] at e0 e1
  obtain ⟨s0, k0, d0, _⟩ := DataW.trod_string Tryz.underlying9 e0
  obtain ⟨s1, k1, d1, _⟩ := DataW.trod_string Tryz.underlying9 e1
  rw [hys] at hy2
  simp only [List.map_cons, List.map_nil, DataW.agg.injEq, List.cons.injEq, and_true] at hy2
  rw [d0, d1] at hy2
  simp only [DataW.lit.injEq, Lit.string.injEq] at hy2
  have q0 : s0 = nmS (i : Int) := bytes_of hy2.1
  have q1 : s1 = fmS (i : Int) := bytes_of hy2.2
  subst q0 q1
  have r0 := congrArg (fun l : List Value => l[0]?) k0
  have r1 := congrArg (fun l : List Value => l[0]?) k1
  have z0 : Tryz.prog.cellsOf (9) = 1 := c2
  constructor
  ·have := World.var?_cell hg hvar (2 * i)
   rw [this, ← Array.getElem?_toList]
   simpa [List.getElem?_take, List.getElem?_drop, c2, Nat.mul_comm] using r0
  ·have := World.var?_cell hg hvar (2 * i + 1)
   rw [this, ← Array.getElem?_toList]
   simpa [List.getElem?_take, List.getElem?_drop, c2, Nat.mul_comm] using r1

theorem et : Tryz.prog.globalNamed "errors.errorType" = some 0 := by kernel_rfl
theorem rt : (Tryz.prog.cutTypes.find? (·.1 == "internal/reflectlite.rtype")).map (·.2) = some 218 := by kernel_rfl
theorem oneRow : ((List.range 263).filter fun t => Tryz.prog.rowNamed t [101, 114, 114, 111, 114]) = [185] := by kernel_rfl
theorem typesSize : Tryz.prog.types.size = 263 := by kernel_rfl
theorem both_of_laid {W : World} (h : laidMetH Tryz.prog Rows.fnFindMethodRow.laid W) : Tab W ∧ Glob W := by
 have h' : laidMet Tryz.prog [("loop.example/g00175/impl.opTable", Rows.laid_loop_example_g00175_impl_opTable)] W ∧ handlesMet Tryz.prog [("errors.errorType", Rows.laid_errors_errorType)] W := h
 refine ⟨tab_of_data h'.1, ?_⟩
 obtain ⟨name, u, ty, e1, e2, e3, e4, e5⟩ := h'.2 _ (List.mem_singleton.2 rfl)
 have en : name = [101, 114, 114, 111, 114] := (Option.some.inj e1).symm
 subst en
 obtain rfl := Option.some.inj (rt.symm.trans e2)
 have hm : ty ∈ (List.range 263).filter fun t => Tryz.prog.rowNamed t [101, 114, 114, 111, 114] := List.mem_filter.2 ⟨List.mem_range.2 (by rw [← typesSize]; exact e3), e4⟩
 rw [oneRow] at hm
 obtain rfl := List.mem_singleton.1 hm
 have hh : typeHandle Tryz.prog 185 = .pointer (some ⟨2, 185, none⟩) := by kernel_rfl
 rw [hh] at e5
 simpa [Glob] using World.var?_cell et e5 0

noncomputable def laidWorld (os : Os) : World :=
 let w0 := World.holding Tryz.prog os ⟨#[], #[], []⟩
 { w0 with heap := (w0.heap.modify 0 fun
   | .cells _ t frozen => .cells #[.iface 218 (.agg #[.pointer (some ⟨2, 185, none⟩)])] t frozen
   | o => o).modify 1 fun
   | .cells _ t frozen => .cells ((List.range 90).map fun j : Nat => .string (if j % 2 = 0 then nmS ((j / 2 : Nat) : Int) else fmS ((j / 2 : Nat) : Int))).toArray t frozen
   | o => o }
theorem laidWorld_met (os : Os) (args : Array Value) : laidMetH Tryz.prog Rows.fnFindMethodRow.laid ((laidWorld os).forCall (fun _ _ => 0) ⟨#[], args, []⟩).memory :=
 laidMetH_of_parts (laidMet_of_run' 8 (by kernel_rfl) (by kernel_rfl)) (by kernel_rfl)

theorem tkI (i : Nat) {P : Program} {ops : Array Oper} {Q : Exit → Act → World → Prop} {md : Region.Mode} {S : World → Prop} {oi : Oper} {v : Value} {fuel : Nat} {listed : Array Bool} {a : Act} {w : World} (hi : ops[i]? = some oi)
  (hy : ∀ w, S w → (execOp a.eval oi).run P w = .ok (.value v) w) (hS : S w) (h : wpAnyH P md ops Q S fuel (listed.setIfInBounds i true) (a.put oi.dst v) w)
  (hs : Region.noSelect ops = true := by kernel_rfl) (hf : Region.free md ops listed i = true := by kernel_rfl) (hr : (Region.ready md ops listed).contains i = true := by kernel_rfl)
  (hQ : ∀ c a w, Q (.panic c) (a.put oi.dst v) w → Q (.panic c) a w := by exact fun _ _ _ h => h) (hw : Region.wanted oi (yielded ops a.tmps) = true := by kernel_rfl) : wpAnyH P md ops Q S (fuel + 1) listed a w :=
 wpAnyH_take hi hs hf hr hQ (.inl ⟨hw, hy⟩) hS h
theorem tkO (i : Nat) {P : Program} {ops : Array Oper} {Q : Exit → Act → World → Prop} {md : Region.Mode} {S : World → Prop} {oi : Oper} {fuel : Nat} {listed : Array Bool} {a : Act} {w : World} (hi : ops[i]? = some oi)
  (hS : S w) (h : wpAnyH P md ops Q S fuel (listed.setIfInBounds i true) (a.put oi.dst undef) w)
  (hs : Region.noSelect ops = true := by kernel_rfl) (hf : Region.free md ops listed i = true := by kernel_rfl) (hr : (Region.ready md ops listed).contains i = true := by kernel_rfl)
  (hQ : ∀ c a w, Q (.panic c) (a.put oi.dst undef) w → Q (.panic c) a w := by exact fun _ _ _ h => h) (hw : Region.wanted oi (yielded ops a.tmps) = false := by kernel_rfl) : wpAnyH P md ops Q S (fuel + 1) listed a w :=
 wpAnyH_take hi hs hf hr hQ (.inr ⟨hw, rfl⟩) hS h
set_option maxRecDepth 20000 in
set_option maxHeartbeats 16000000 in
theorem walk (a0 : Option Addr) (len0 cap0 : Nat) (z0 : List Int) (w : World) (w0 : IsRow .u8 w a0 len0 cap0 z0) (ht : Tab w) (hg : Glob w) :
  Calls Tryz.prog 6 #[.slice a0 len0 cap0] w fun e w' => e = .returned (.bool true) ∧ Below w.heap.size w w' := by
 have HT := (show Hid (Tab w) from ht)
 have HG := (show Hid (Glob w) from hg)
 clear ht hg
 have hcap : len0 ≤ maxLen := by
  rcases w0 with ⟨_, h, _, _⟩ | ⟨x, _, h1, h2, _⟩
  ·rw [h]; unfold maxLen; omega
  ·omega
 unfold maxLen at hcap
 by_cases hb0 : (1048576 : Int) < len0
 ·go_enter Tryz.func6, Tryz.ntmps6
  go_wp2
  go_ret
  exact ⟨rfl, Below.refl _ _⟩
 have d0 : decide ((1048576 : Int) < len0) = false := by simpa using hb0
 have HD := (show Hid _ from drawFindMethod a0 len0 cap0 z0 w w0 (by omega))
 clear w0
 go_enter Tryz.func6, Tryz.ntmps6
 go_wp2_with fail
 refine Calls.mono HD.out ?_
 rintro e w3 ⟨p, L, k, cc, cl, n, d, rfl, hcl, hn, hd, hin, hb3⟩
 have HB3 : Hid (Below w.heap.size w w3) := hb3
 have HI3 := (show Hid (classR.slice.In w3 [.slice p k cc] L) from hin)
 obtain ⟨_, _, ep, hk1, hk2, hat⟩ := slice_open (by decide) hin
 cases ep
 unfold maxLen at hk2
 have HX : Hid (∀ w', Below w3.heap.size w3 w' → ∀ i (hi : i < L.length), ∃ b o ma mc, p = some ⟨b, o, none⟩ ∧ w'.cell? ⟨b, o + i * 6, none⟩ = some (.string (nmC L[i])) ∧ w'.cell? ⟨b, o + i * 6 + 5, none⟩ = some (.slice ma (msC L[i]).length mc) ∧ (msC L[i]).length ≤ maxLen ∧ methR.slice.In w' [.slice ma (msC L[i]).length mc] (msC L[i])) := fun w' hb i hi => by
  obtain ⟨b, o, e, hx⟩ := hat i hi
  obtain ⟨vc, vh, g0, _, _, _, _, g5, _, _, _, h5⟩ := classAt (hx.mono hb)
  obtain ⟨ma, mc, rfl, hl1, hl2, _⟩ := slice_open (by decide) h5
  exact ⟨b, o, ma, mc, e, g0, g5, by omega, h5⟩
 clear hin hb3 HD hat
 have sm : ∀ {n : Nat}, n ≤ 1000 → n ≤ maxLen := fun {n} h => by unfold maxLen; omega
 have B3 : Hid (Below w3.heap.size w3 w3) := Below.refl _ _
 have HFi : Hid (∀ w', Below w3.heap.size w3 w' → Calls Tryz.prog 26 #[.slice p L.length cc, .string cl, .string n, .string d] w' fun e w2 => e = .returned (fdV (fmV L cl n d)) ∧ Below w'.heap.size w' w2) := fun w' hb' => implFindMethodOf L _ cl n d w' (classR.slice.mono _ _ _ _ hb' HI3.out) (HT.out.mono (HB3.out.trans (hb'.mono HB3.out.size))) (HG.out.mono (HB3.out.trans (hb'.mono HB3.out.size))) (sm hcl) (sm hn) (sm hd)
 have HFs : Hid (∀ w', Below w3.heap.size w3 w' → Calls Tryz.prog 27 #[.slice p L.length cc, .string cl, .string n, .string d] w' fun e w2 => e = .returned (fdV (fmV L cl n d)) ∧ Below w'.heap.size w' w2) := fun w' hb' => specFindMethodOf L _ cl n d w' (classR.slice.mono _ _ _ _ hb' HI3.out) (sm hcl) (sm hn) (sm hd)
 have HWs : Hid (∀ w', Below w3.heap.size w3 w' → Calls Tryz.prog 28 #[.slice p L.length cc] w' fun e w2 => e = .returned (.agg #[.int .i64 (wOut L).1, .int .i64 (wOut L).2]) ∧ Below w'.heap.size w' w2) := fun w' hb' => specWorldCheck L _ w' (classR.slice.mono _ _ _ _ hb' HI3.out)
 have HIs : Hid (∀ w' x y, x.size ≤ maxLen → Below w3.heap.size w3 w' → Calls Tryz.prog 24 #[.slice p L.length cc, .string x, .string y] w' fun e w2 => e = .returned (.bool (isV L x y)) ∧ Below w'.heap.size w' w2) := fun w' x y hx hb' => implIsSubOf L _ x y w' (classR.slice.mono _ _ _ _ hb' HI3.out) (HT.out.mono (HB3.out.trans (hb'.mono HB3.out.size))) (HG.out.mono (HB3.out.trans (hb'.mono HB3.out.size))) hx
 have hend : ∀ w', Below w3.heap.size w3 w' → Below w.heap.size w w' := fun w' h => HB3.out.trans (h.mono HB3.out.size)
 have HEnd := (show Hid _ from hend)
 have hfl := fun o1 o2 w => fieldWO1 (.int .i64 o1) (.int .i64 o2) w
 have HOK : Hid ((wOut L).2 = 0 → (fmV L cl n d).2.2 = 0 → 0 ≤ (fmV L cl n d).2.1 → isV L cl (fmV L cl n d).1 = true ∧ ∀ i (hi : i < L.length), (nmC L[i]).size ≤ maxLen ∧ ∀ j (hj : j < (msC L[i]).length), (mD (msC L[i])[j]).name = n → (mD (msC L[i])[j]).desc = d →
   (nmC L[i] = (fmV L cl n d).1 → (j : Int) = (fmV L cl n d).2.1) ∧ (nmC L[i] ≠ (fmV L cl n d).1 → isV L cl (nmC L[i]) = true → isV L (nmC L[i]) (fmV L cl n d).1 = false)) := fun e0 e2 e1 => by
  have hr : rtB L = true := by unfold rtB; simpa using e0
  have hR := rt_right hr
  have eI : ∀ x y, isV L x y = sbC L x y := fun x y => by unfold isV; rw [hr, Bool.true_and]
  have ev : fmV L cl n d = fmL L cl n d := by
   have h10 := hR.1
   unfold fmV
   rw [if_neg (by omega), if_pos hr]
  rw [ev] at e1 e2 ⊢
  simp only [eI]
  obtain ⟨q1, q2⟩ := found_ok hR e2 e1
  exact ⟨q1, fun i hi => ⟨Nat.le_trans (all_size hR.part _ (List.mem_append_right _ (List.getElem_mem hi))) (by decide), q2 i hi⟩⟩
 generalize fmV L cl n d = fd at *
 obtain ⟨f0, f1, f2⟩ := fd
 unfold fdV at HFi HFs
 dsimp only at HFi HFs HOK
 generalize (wOut L).1 = o1 at *
 generalize (wOut L).2 = o2 at *
 have df : (f0.toList == f0.toList) = true := by simp
 clear HT HG HI3 hend
 go_wp2_with fail
 refine Calls.mono (HFi.out _ B3.out) ?_
 rintro e w4 ⟨rfl, hb4⟩
 have B4 : Hid (Below w3.heap.size w3 w4) := hb4
 have hz4 : w3.heap.size ≤ w4.heap.size := hb4.size
 clear hb4
 go_upto_region 5 with fail
 have HRC : Hid (∀ w', Below (w4.alloc (.cells #[.string f0, .int .i64 f1, .int .i64 f2] 34)).heap.size (w4.alloc (.cells #[.string f0, .int .i64 f1, .int .i64 f2] 34)) w' → w'.cell? ⟨w4.heap.size, 0, none⟩ = some (.string f0) ∧ w'.cell? ⟨w4.heap.size, 1, none⟩ = some (.int .i64 f1) ∧ w'.cell? ⟨w4.heap.size, 2, none⟩ = some (.int .i64 f2)) := fun w' hb => ⟨carry hb (by simp) (by simp [go_sem]), carry hb (by simp) (by simp [go_sem]), carry hb (by simp) (by simp [go_sem])⟩
 have B4a : Hid (Below w3.heap.size w3 (w4.alloc (.cells #[.string f0, .int .i64 f1, .int .i64 f2] 34))) := B4.out.alloc hz4 _
 have hz4a : w4.heap.size < (w4.alloc (.cells #[.string f0, .int .i64 f1, .int .i64 f2] 34)).heap.size := by simp
 generalize w4.alloc (.cells #[.string f0, .int .i64 f1, .int .i64 f2] 34) = X at *
 refine wp_region_held_drew (S := fun w' => w'.cell? ⟨w4.heap.size, 0, none⟩ = some (.string f0) ∧ w'.cell? ⟨w4.heap.size, 1, none⟩ = some (.int .i64 f1) ∧ w'.cell? ⟨w4.heap.size, 2, none⟩ = some (.int .i64 f2)) (by kernel_rfl) (HRC.out _ (Below.refl _ _).drew) (fun hHeld => ?_)
 refine tkI 0 rfl (by intro w hSw; (try dsimp only at hSw); go_simp; try with_reducible rfl) hHeld ?_
 (try simp only [Act.put, List.getElem_toArray, List.getElem_cons_zero, List.setIfInBounds_toArray, List.set_cons_zero, List.set_cons_succ])
 refine tkI 1 rfl (by intro w hSw; (try dsimp only at hSw); go_simp; try with_reducible rfl) hHeld ?_
 (try simp only [Act.put, List.getElem_toArray, List.getElem_cons_zero, List.getElem_cons_succ, List.setIfInBounds_toArray, List.set_cons_zero, List.set_cons_succ])
 refine tkI 2 rfl (by intro w hSw; (try dsimp only at hSw); go_simp; try with_reducible rfl) hHeld ?_
 (try simp only [Act.put, List.getElem_toArray, List.getElem_cons_zero, List.getElem_cons_succ, List.setIfInBounds_toArray, List.set_cons_zero, List.set_cons_succ])
 refine tkI 3 rfl (by intro w hSw; (try dsimp only at hSw); go_simp; try with_reducible rfl) hHeld ?_
 (try simp only [Act.put, List.getElem_toArray, List.getElem_cons_zero, List.getElem_cons_succ, List.setIfInBounds_toArray, List.set_cons_zero, List.set_cons_succ])
 refine tkI 4 rfl (by intro w hSw; (try dsimp only at hSw); go_simp; try with_reducible rfl) hHeld ?_
 (try simp only [Act.put, List.getElem_toArray, List.getElem_cons_zero, List.getElem_cons_succ, List.setIfInBounds_toArray, List.set_cons_zero, List.set_cons_succ])
 refine wpAnyH_ready (rs := [5]) (by kernel_rfl) (by simp) ?_
 refine AllReadyH.cons rfl (fun K hK => ?_) AllReadyH.nil
 simp only [List.getElem_toArray, List.getElem_cons_zero, List.getElem_cons_succ]
 go_simp
 refine Calls.mono (HFs.out _ (B4a.out.trans ((Below.refl _ _).drew.mono B4a.out.size))) ?_
 rintro e w5 ⟨rfl, hb5⟩
 have hB5 : Below X.heap.size X w5 := (Below.refl _ _).drew.trans hb5
 refine hK.out _ _ (HRC.out _ hB5) (fun hHeld => ?_)
 clear hK K
 (try simp only [Act.put, List.getElem_toArray, List.getElem_cons_zero, List.getElem_cons_succ, List.setIfInBounds_toArray, List.set_cons_zero, List.set_cons_succ])
 refine tkI 6 rfl (by intro w hSw; (try dsimp only at hSw); go_simp; try with_reducible rfl) hHeld ?_
 (try simp only [Act.put, List.getElem_toArray, List.getElem_cons_zero, List.getElem_cons_succ, List.setIfInBounds_toArray, List.set_cons_zero, List.set_cons_succ])
 refine wpAnyH_done (by kernel_rfl) ?_ _
 have B5 : Hid (Below w3.heap.size w3 w5) := B4a.out.trans (hB5.mono B4a.out.size)
 have HR5 : Hid (∀ w', Below w5.heap.size w5 w' → w'.cell? ⟨w4.heap.size, 0, none⟩ = some (.string f0) ∧ w'.cell? ⟨w4.heap.size, 1, none⟩ = some (.int .i64 f1) ∧ w'.cell? ⟨w4.heap.size, 2, none⟩ = some (.int .i64 f2)) := fun w' hb => HRC.out _ (hB5.trans (hb.mono hB5.size))
 have hz5 : w4.heap.size < w5.heap.size := Nat.lt_of_lt_of_le hz4a hB5.size
 clear hHeld hb5 hB5 HRC B4a
 go_wp2_with fail
 refine Calls.mono (HWs.out _ B5.out) ?_
 rintro e w6 ⟨rfl, hb6⟩
 have B6 : Hid (Below w3.heap.size w3 w6) := B5.out.trans (hb6.mono B5.out.size)
 obtain ⟨y0, y1, y2⟩ := HR5.out _ hb6
 have HR6 : Hid (∀ w', Below w6.heap.size w6 w' → w'.cell? ⟨w4.heap.size, 0, none⟩ = some (.string f0) ∧ w'.cell? ⟨w4.heap.size, 1, none⟩ = some (.int .i64 f1) ∧ w'.cell? ⟨w4.heap.size, 2, none⟩ = some (.int .i64 f2)) := fun w' hb => HR5.out _ (hb6.trans (hb.mono hb6.size))
 clear hb6 HR5
 by_cases e0 : ¬ o2 = 0
 ·have q1 : (o2 != 0) = true := by simpa using e0
  have q2 : (o2 == 0) = false := by simpa using e0
  go_wp2
  go_ret
  exact ⟨rfl, HEnd.out _ B6.out⟩
 obtain rfl : o2 = 0 := by omega
 by_cases e2 : ¬ f2 = 0
 ·have q1 : (f2 != 0) = true := by simpa using e2
  have q2 : (f2 == 0) = false := by simpa using e2
  go_wp2
  go_ret
  exact ⟨rfl, HEnd.out _ B6.out⟩
 have HE2 : Hid (f2 = 0) := by show _ = _; omega
 have q3 : (f2 != 0) = false := by simp [HE2.out]
 have q4 : (f2 == 0) = true := by simp [HE2.out]
 clear e2
 by_cases e1 : f1 < 0
 ·go_wp2
  go_ret
  exact ⟨rfl, HEnd.out _ B6.out⟩
 have d1 : decide (f1 < 0) = false := decide_eq_false e1
 obtain ⟨g1, g2⟩ := HOK.out rfl HE2.out (by omega)
 have HG1 := (show Hid (isV L cl f0 = true) from g1)
 have HG2 := (show Hid _ from g2)
 clear HOK g1 g2 e0 HFi HFs HWs
 go_wp2_with fail
 refine Calls.mono (HIs.out _ cl f0 (sm hcl) B6.out) ?_
 rintro e w7 ⟨rfl, hb7⟩
 rw [HG1.out]
 have B7 : Hid (Below w3.heap.size w3 w7) := B6.out.trans (hb7.mono B6.out.size)
 have HR7 : Hid (∀ w', Below w7.heap.size w7 w' → w'.cell? ⟨w4.heap.size, 0, none⟩ = some (.string f0) ∧ w'.cell? ⟨w4.heap.size, 1, none⟩ = some (.int .i64 f1) ∧ w'.cell? ⟨w4.heap.size, 2, none⟩ = some (.int .i64 f2)) := fun w' hb => HR6.out _ (hb7.trans (hb.mono hb7.size))
 clear hb7 HR6 y0 y1 y2
 go_wp2_with fail
 go_loopw [8] (fun j8 wr => ∃ i : Nat, i ≤ L.length ∧ j8 = .int .i64 (i : Int) ∧ Below w7.heap.size w7 wr) (fun j8 _ => L.length - (intOf j8).toNat)
 case atStart => exact ⟨0, Nat.zero_le _, rfl, Below.refl _ _⟩
 case round =>
  obtain ⟨i, hi, rfl, hbi⟩ := hrel
  have HB8 : Hid (Below w7.heap.size w7 wr) := hbi
  clear hbi
  by_cases hil : i < L.length
  ·have hiI : (i : Int) < (L.length : Int) := by omega
   obtain ⟨b, o, _, _, rfl, _⟩ := HX.out _ B7.out i hil
   have HXi : Hid (∀ w', Below w7.heap.size w7 w' → ∃ ma mc, w'.cell? ⟨b, o + i * 6, none⟩ = some (.string (nmC L[i])) ∧ w'.cell? ⟨b, o + i * 6 + 5, none⟩ = some (.slice ma (msC L[i]).length mc) ∧ (msC L[i]).length ≤ maxLen ∧ methR.slice.In w' [.slice ma (msC L[i]).length mc] (msC L[i])) := fun w' hb => by
    obtain ⟨b', o', ma, mc, e, h⟩ := HX.out w' (B7.out.trans (hb.mono B7.out.size)) i hil
    cases e
    exact ⟨ma, mc, h⟩
   obtain ⟨hnz, hm2⟩ := HG2.out i hil
   obtain ⟨ms, hms⟩ : ∃ ms, msC L[i] = ms := ⟨_, rfl⟩
   obtain ⟨cn, hcn⟩ : ∃ cn, nmC L[i] = cn := ⟨_, rfl⟩
   have HM2 : Hid (∀ j (hj : j < ms.length), (mD ms[j]).name = n → (mD ms[j]).desc = d → (cn = f0 → (j : Int) = f1) ∧ (cn ≠ f0 → isV L cl cn = true → isV L cn f0 = false)) := by subst hms; subst hcn; exact hm2
   rw [hms, hcn] at HXi
   rw [hcn] at hnz
   clear hm2 hms hcn
   go_wp2_with fail
   obtain ⟨xo, hxo⟩ : ∃ xo, wr = xo := ⟨_, rfl⟩
   subst wr
   go_loopw [9] (fun j9 wr => ∃ j : Nat, j ≤ ms.length ∧ j9 = .int .i64 (j : Int) ∧ Below w7.heap.size w7 wr) (fun j9 _ => ms.length - (intOf j9).toNat)
   case atStart => exact ⟨0, Nat.zero_le _, rfl, HB8.out⟩
   case round =>
    obtain ⟨j, hj, rfl, hbj⟩ := hrel
    have HB9 : Hid (Below w7.heap.size w7 wr) := hbj
    obtain ⟨ma, mc, g0, g5, hml, hin⟩ := HXi.out wr hbj
    unfold maxLen at hml
    clear hbj
    by_cases hjl : j < ms.length
    ·have hjI : (j : Int) < (ms.length : Int) := by omega
     obtain ⟨_, _, e', hl1, hl2, hat⟩ := slice_open (by decide) hin
     cases e'
     obtain ⟨mb, mo, rfl, hx⟩ := hat j hjl
     obtain ⟨vc, vh, q0, q1, q2, q3, q4, q5, q6, q7, q8, _, _, _, _, h7, h8⟩ := methAt hx
     obtain ⟨ip, ic, rfl⟩ := slice_form h7
     obtain ⟨jp, jc, rfl⟩ := slice_form h8
     have hZ := HM2.out j hjl
     obtain ⟨md, hmd⟩ : ∃ md, mD ms[j] = md := ⟨_, rfl⟩
     rw [hmd] at q0 q1 q2 q3 q4 q5 q6 q7 q8 hZ
     clear hmd h7 h8 hx hat hin
     have HZ := (show Hid _ from hZ)
     clear hZ
     have hwr : w7.heap.size ≤ wr.heap.size := HB9.out.size
     have HBa : Hid (∀ O, Below w7.heap.size w7 (wr.alloc O)) := fun O => HB9.out.alloc hwr O
     have HS : Hid (∀ w', Below (wr.alloc (.cells #[.string md.name, .string md.desc, .bool md.static, .bool md.abs, .bool md.fin, .int .i64 md.stack, .int .i64 md.locals, .slice ip md.code.length ic, .slice jp md.hands.length jc] 55)).heap.size (wr.alloc (.cells #[.string md.name, .string md.desc, .bool md.static, .bool md.abs, .bool md.fin, .int .i64 md.stack, .int .i64 md.locals, .slice ip md.code.length ic, .slice jp md.hands.length jc] 55)) w' → w'.cell? ⟨b, o + i * 6, none⟩ = some (.string cn) ∧ w'.cell? ⟨w4.heap.size, 0, none⟩ = some (.string f0) ∧ w'.cell? ⟨w4.heap.size, 1, none⟩ = some (.int .i64 f1) ∧ w'.cell? ⟨w4.heap.size, 2, none⟩ = some (.int .i64 f2)) := fun w' hb => by
      have hB := (HBa.out (.cells #[.string md.name, .string md.desc, .bool md.static, .bool md.abs, .bool md.fin, .int .i64 md.stack, .int .i64 md.locals, .slice ip md.code.length ic, .slice jp md.hands.length jc] 55)).trans (hb.mono (HBa.out _).size)
      obtain ⟨_, _, h0, _⟩ := HXi.out w' hB
      exact ⟨h0, HR7.out w' hB⟩
     by_cases e1 : md.name = n
     ·have t1 := tx_eq e1
      by_cases e2 : md.desc = d
      ·have t2 := tx_eq e2
       obtain ⟨za, zb⟩ := HZ.out e1 e2
       have HZB := (show Hid _ from zb)
       clear zb HZ e1 e2
       have HY : Hid (Below w7.heap.size w7 (wr.alloc (.cells #[.string md.name, .string md.desc, .bool md.static, .bool md.abs, .bool md.fin, .int .i64 md.stack, .int .i64 md.locals, .slice ip md.code.length ic, .slice jp md.hands.length jc] 55))) := HBa.out _
       by_cases ef : cn = f0
       ·have t3 : (cn.toList == f0.toList) = true := tx_eq ef
        have hjf : (j : Int) = f1 := za ef
        have d3 : ((j : Int) == f1) = true := by simpa using hjf
        have d4 : ((j : Int) != f1) = false := by simp [hjf]
        clear za ef hjf
        go_upto_region 19 with fail
        generalize wr.alloc (.cells #[.string md.name, .string md.desc, .bool md.static, .bool md.abs, .bool md.fin, .int .i64 md.stack, .int .i64 md.locals, .slice ip md.code.length ic, .slice jp md.hands.length jc] 55) = Y at *
        refine wp_region_held_drew (S := fun w' => w'.cell? ⟨b, o + i * 6, none⟩ = some (.string cn) ∧ w'.cell? ⟨w4.heap.size, 0, none⟩ = some (.string f0) ∧ w'.cell? ⟨w4.heap.size, 1, none⟩ = some (.int .i64 f1) ∧ w'.cell? ⟨w4.heap.size, 2, none⟩ = some (.int .i64 f2)) (by kernel_rfl) (HS.out _ (Below.refl _ _).drew) (fun hHeld => ?_)
        refine tkI 0 rfl (by intro w hSw; (try dsimp only at hSw); go_simp; try with_reducible rfl) hHeld ?_
        (try simp only [Act.put, List.getElem_toArray, List.getElem_cons_zero, List.setIfInBounds_toArray, List.set_cons_zero, List.set_cons_succ])
        refine tkI 1 rfl (by intro w hSw; (try dsimp only at hSw); go_simp; try with_reducible rfl) hHeld ?_
        (try simp only [Act.put, List.getElem_toArray, List.getElem_cons_zero, List.getElem_cons_succ, List.setIfInBounds_toArray, List.set_cons_zero, List.set_cons_succ])
        refine tkI 2 rfl (by intro w hSw; (try dsimp only at hSw); go_simp; try with_reducible rfl) hHeld ?_
        (try simp only [Act.put, List.getElem_toArray, List.getElem_cons_zero, List.getElem_cons_succ, List.setIfInBounds_toArray, List.set_cons_zero, List.set_cons_succ])
        refine tkI 3 rfl (by intro w hSw; (try dsimp only at hSw); go_simp; try with_reducible rfl) hHeld ?_
        (try simp only [Act.put, List.getElem_toArray, List.getElem_cons_zero, List.getElem_cons_succ, List.setIfInBounds_toArray, List.set_cons_zero, List.set_cons_succ])
        refine tkI 4 rfl (by intro w hSw; (try dsimp only at hSw); go_simp; try with_reducible rfl) hHeld ?_
        (try simp only [Act.put, List.getElem_toArray, List.getElem_cons_zero, List.getElem_cons_succ, List.setIfInBounds_toArray, List.set_cons_zero, List.set_cons_succ])
        refine tkI 5 rfl (by intro w hSw; (try dsimp only at hSw); go_simp; try with_reducible rfl) hHeld ?_
        (try simp only [Act.put, List.getElem_toArray, List.getElem_cons_zero, List.getElem_cons_succ, List.setIfInBounds_toArray, List.set_cons_zero, List.set_cons_succ])
        refine tkI 6 rfl (by intro w hSw; (try dsimp only at hSw); go_simp; try with_reducible rfl) hHeld ?_
        (try simp only [Act.put, List.getElem_toArray, List.getElem_cons_zero, List.getElem_cons_succ, List.setIfInBounds_toArray, List.set_cons_zero, List.set_cons_succ])
        refine tkI 7 rfl (by intro w hSw; (try dsimp only at hSw); go_simp; try with_reducible rfl) hHeld ?_
        (try simp only [Act.put, List.getElem_toArray, List.getElem_cons_zero, List.getElem_cons_succ, List.setIfInBounds_toArray, List.set_cons_zero, List.set_cons_succ])
        refine tkI 8 rfl (by intro w hSw; (try dsimp only at hSw); go_simp; try with_reducible rfl) hHeld ?_
        (try simp only [Act.put, List.getElem_toArray, List.getElem_cons_zero, List.getElem_cons_succ, List.setIfInBounds_toArray, List.set_cons_zero, List.set_cons_succ])
        refine tkI 9 rfl (by intro w hSw; (try dsimp only at hSw); go_simp; try with_reducible rfl) hHeld ?_
        (try simp only [Act.put, List.getElem_toArray, List.getElem_cons_zero, List.getElem_cons_succ, List.setIfInBounds_toArray, List.set_cons_zero, List.set_cons_succ])
        refine tkI 10 rfl (by intro w hSw; (try dsimp only at hSw); go_simp; try with_reducible rfl) hHeld ?_
        (try simp only [Act.put, List.getElem_toArray, List.getElem_cons_zero, List.getElem_cons_succ, List.setIfInBounds_toArray, List.set_cons_zero, List.set_cons_succ])
        refine tkI 11 rfl (by intro w hSw; (try dsimp only at hSw); go_simp; try with_reducible rfl) hHeld ?_
        (try simp only [Act.put, List.getElem_toArray, List.getElem_cons_zero, List.getElem_cons_succ, List.setIfInBounds_toArray, List.set_cons_zero, List.set_cons_succ])
        refine tkI 12 rfl (by intro w hSw; (try dsimp only at hSw); go_simp; try with_reducible rfl) hHeld ?_
        (try simp only [Act.put, List.getElem_toArray, List.getElem_cons_zero, List.getElem_cons_succ, List.setIfInBounds_toArray, List.set_cons_zero, List.set_cons_succ])
        refine tkI 13 rfl (by intro w hSw; (try dsimp only at hSw); go_simp; try with_reducible rfl) hHeld ?_
        (try simp only [Act.put, List.getElem_toArray, List.getElem_cons_zero, List.getElem_cons_succ, List.setIfInBounds_toArray, List.set_cons_zero, List.set_cons_succ])
        refine wpAnyH_done (by kernel_rfl) ?_ _
        clear hHeld
        have HS2 : Hid (∀ w', Below Y.drew.heap.size Y.drew w' → w'.cell? ⟨b, o + i * 6, none⟩ = some (.string cn) ∧ w'.cell? ⟨w4.heap.size, 0, none⟩ = some (.string f0) ∧ w'.cell? ⟨w4.heap.size, 1, none⟩ = some (.int .i64 f1) ∧ w'.cell? ⟨w4.heap.size, 2, none⟩ = some (.int .i64 f2)) := fun w' hb => HS.out w' ((Below.refl _ _).drew.trans hb)
        have HY2 : Hid (Below w7.heap.size w7 Y.drew) := HY.out.trans ((Below.refl _ _).drew.mono HY.out.size)
        go_upto_region 21 with fail
        generalize Y.drew = Z at *
        refine wp_region_held_drew (S := fun w' => w'.cell? ⟨b, o + i * 6, none⟩ = some (.string cn) ∧ w'.cell? ⟨w4.heap.size, 0, none⟩ = some (.string f0) ∧ w'.cell? ⟨w4.heap.size, 1, none⟩ = some (.int .i64 f1) ∧ w'.cell? ⟨w4.heap.size, 2, none⟩ = some (.int .i64 f2)) (by kernel_rfl) (HS2.out _ (Below.refl _ _).drew) (fun hHeld => ?_)
        refine tkI 0 rfl (by intro w hSw; (try dsimp only at hSw); go_simp; try with_reducible rfl) hHeld ?_
        (try simp only [Act.put, List.getElem_toArray, List.getElem_cons_zero, List.setIfInBounds_toArray, List.set_cons_zero, List.set_cons_succ])
        refine tkI 1 rfl (by intro w hSw; (try dsimp only at hSw); go_simp; try with_reducible rfl) hHeld ?_
        (try simp only [Act.put, List.getElem_toArray, List.getElem_cons_zero, List.getElem_cons_succ, List.setIfInBounds_toArray, List.set_cons_zero, List.set_cons_succ])
        refine tkI 2 rfl (by intro w hSw; (try dsimp only at hSw); go_simp; try with_reducible rfl) hHeld ?_
        (try simp only [Act.put, List.getElem_toArray, List.getElem_cons_zero, List.getElem_cons_succ, List.setIfInBounds_toArray, List.set_cons_zero, List.set_cons_succ])
        refine tkI 3 rfl (by intro w hSw; (try dsimp only at hSw); go_simp; try with_reducible rfl) hHeld ?_
        (try simp only [Act.put, List.getElem_toArray, List.getElem_cons_zero, List.getElem_cons_succ, List.setIfInBounds_toArray, List.set_cons_zero, List.set_cons_succ])
        refine tkI 4 rfl (by intro w hSw; (try dsimp only at hSw); go_simp; try with_reducible rfl) hHeld ?_
        (try simp only [Act.put, List.getElem_toArray, List.getElem_cons_zero, List.getElem_cons_succ, List.setIfInBounds_toArray, List.set_cons_zero, List.set_cons_succ])
        refine tkI 5 rfl (by intro w hSw; (try dsimp only at hSw); go_simp; try with_reducible rfl) hHeld ?_
        (try simp only [Act.put, List.getElem_toArray, List.getElem_cons_zero, List.getElem_cons_succ, List.setIfInBounds_toArray, List.set_cons_zero, List.set_cons_succ])
        refine tkI 6 rfl (by intro w hSw; (try dsimp only at hSw); go_simp; try with_reducible rfl) hHeld ?_
        (try simp only [Act.put, List.getElem_toArray, List.getElem_cons_zero, List.getElem_cons_succ, List.setIfInBounds_toArray, List.set_cons_zero, List.set_cons_succ])
        refine tkI 7 rfl (by intro w hSw; (try dsimp only at hSw); go_simp; try with_reducible rfl) hHeld ?_
        (try simp only [Act.put, List.getElem_toArray, List.getElem_cons_zero, List.getElem_cons_succ, List.setIfInBounds_toArray, List.set_cons_zero, List.set_cons_succ])
        refine tkI 8 rfl (by intro w hSw; (try dsimp only at hSw); go_simp; try with_reducible rfl) hHeld ?_
        (try simp only [Act.put, List.getElem_toArray, List.getElem_cons_zero, List.getElem_cons_succ, List.setIfInBounds_toArray, List.set_cons_zero, List.set_cons_succ])
        refine tkO 9 rfl hHeld ?_
        refine tkO 10 rfl hHeld ?_
        refine tkO 11 rfl hHeld ?_
        refine tkO 12 rfl hHeld ?_
        refine tkO 13 rfl hHeld ?_
        refine tkO 14 rfl hHeld ?_
        refine tkO 15 rfl hHeld ?_
        refine tkO 16 rfl hHeld ?_
        (try simp only [Act.put, List.getElem_toArray, List.getElem_cons_zero, List.getElem_cons_succ, List.setIfInBounds_toArray, List.set_cons_zero, List.set_cons_succ])
        refine tkI 17 rfl (by intro w hSw; (try dsimp only at hSw); go_simp; try with_reducible rfl) hHeld ?_
        (try simp only [Act.put, List.getElem_toArray, List.getElem_cons_zero, List.getElem_cons_succ, List.setIfInBounds_toArray, List.set_cons_zero, List.set_cons_succ])
        refine tkI 18 rfl (by intro w hSw; (try dsimp only at hSw); go_simp; try with_reducible rfl) hHeld ?_
        (try simp only [Act.put, List.getElem_toArray, List.getElem_cons_zero, List.getElem_cons_succ, List.setIfInBounds_toArray, List.set_cons_zero, List.set_cons_succ])
        refine tkO 19 rfl hHeld ?_
        refine tkO 20 rfl hHeld ?_
        refine tkO 21 rfl hHeld ?_
        refine tkO 22 rfl hHeld ?_
        refine tkO 23 rfl hHeld ?_
        refine tkO 24 rfl hHeld ?_
        refine tkO 25 rfl hHeld ?_
        refine tkO 26 rfl hHeld ?_
        refine tkO 27 rfl hHeld ?_
        (try simp only [Act.put, List.getElem_toArray, List.getElem_cons_zero, List.getElem_cons_succ, List.setIfInBounds_toArray, List.set_cons_zero, List.set_cons_succ])
        refine tkI 28 rfl (by intro w hSw; (try dsimp only at hSw); go_simp; try with_reducible rfl) hHeld ?_
        (try simp only [Act.put, List.getElem_toArray, List.getElem_cons_zero, List.getElem_cons_succ, List.setIfInBounds_toArray, List.set_cons_zero, List.set_cons_succ])
        refine wpAnyH_done (by kernel_rfl) ?_ _
        clear hHeld
        go_wp2
        go_roundw
        case rel => exact ⟨j + 1, by omega, by go_num, HY2.out.trans ((Below.refl _ _).drew.mono HY2.out.size)⟩
        case measure => simp [intOf]; omega
       ·have t3 : (cn.toList == f0.toList) = false := tx_ne ef
        have hzb := HZB.out ef
        have HZC := (show Hid _ from hzb)
        clear za ef hzb HZB
        go_upto_region 19 with fail
        generalize wr.alloc (.cells #[.string md.name, .string md.desc, .bool md.static, .bool md.abs, .bool md.fin, .int .i64 md.stack, .int .i64 md.locals, .slice ip md.code.length ic, .slice jp md.hands.length jc] 55) = Y at *
        refine wp_region_held_drew (S := fun w' => w'.cell? ⟨b, o + i * 6, none⟩ = some (.string cn) ∧ w'.cell? ⟨w4.heap.size, 0, none⟩ = some (.string f0) ∧ w'.cell? ⟨w4.heap.size, 1, none⟩ = some (.int .i64 f1) ∧ w'.cell? ⟨w4.heap.size, 2, none⟩ = some (.int .i64 f2)) (by kernel_rfl) (HS.out _ (Below.refl _ _).drew) (fun hHeld => ?_)
        refine tkI 0 rfl (by intro w hSw; (try dsimp only at hSw); go_simp; try with_reducible rfl) hHeld ?_
        (try simp only [Act.put, List.getElem_toArray, List.getElem_cons_zero, List.setIfInBounds_toArray, List.set_cons_zero, List.set_cons_succ])
        refine tkI 1 rfl (by intro w hSw; (try dsimp only at hSw); go_simp; try with_reducible rfl) hHeld ?_
        (try simp only [Act.put, List.getElem_toArray, List.getElem_cons_zero, List.getElem_cons_succ, List.setIfInBounds_toArray, List.set_cons_zero, List.set_cons_succ])
        refine tkI 2 rfl (by intro w hSw; (try dsimp only at hSw); go_simp; try with_reducible rfl) hHeld ?_
        (try simp only [Act.put, List.getElem_toArray, List.getElem_cons_zero, List.getElem_cons_succ, List.setIfInBounds_toArray, List.set_cons_zero, List.set_cons_succ])
        refine tkI 3 rfl (by intro w hSw; (try dsimp only at hSw); go_simp; try with_reducible rfl) hHeld ?_
        (try simp only [Act.put, List.getElem_toArray, List.getElem_cons_zero, List.getElem_cons_succ, List.setIfInBounds_toArray, List.set_cons_zero, List.set_cons_succ])
        refine tkI 4 rfl (by intro w hSw; (try dsimp only at hSw); go_simp; try with_reducible rfl) hHeld ?_
        (try simp only [Act.put, List.getElem_toArray, List.getElem_cons_zero, List.getElem_cons_succ, List.setIfInBounds_toArray, List.set_cons_zero, List.set_cons_succ])
        refine tkI 5 rfl (by intro w hSw; (try dsimp only at hSw); go_simp; try with_reducible rfl) hHeld ?_
        (try simp only [Act.put, List.getElem_toArray, List.getElem_cons_zero, List.getElem_cons_succ, List.setIfInBounds_toArray, List.set_cons_zero, List.set_cons_succ])
        refine tkI 6 rfl (by intro w hSw; (try dsimp only at hSw); go_simp; try with_reducible rfl) hHeld ?_
        (try simp only [Act.put, List.getElem_toArray, List.getElem_cons_zero, List.getElem_cons_succ, List.setIfInBounds_toArray, List.set_cons_zero, List.set_cons_succ])
        refine tkI 7 rfl (by intro w hSw; (try dsimp only at hSw); go_simp; try with_reducible rfl) hHeld ?_
        (try simp only [Act.put, List.getElem_toArray, List.getElem_cons_zero, List.getElem_cons_succ, List.setIfInBounds_toArray, List.set_cons_zero, List.set_cons_succ])
        refine tkI 8 rfl (by intro w hSw; (try dsimp only at hSw); go_simp; try with_reducible rfl) hHeld ?_
        (try simp only [Act.put, List.getElem_toArray, List.getElem_cons_zero, List.getElem_cons_succ, List.setIfInBounds_toArray, List.set_cons_zero, List.set_cons_succ])
        refine tkO 9 rfl hHeld ?_
        refine tkO 10 rfl hHeld ?_
        refine tkO 11 rfl hHeld ?_
        refine tkO 12 rfl hHeld ?_
        (try simp only [Act.put, List.getElem_toArray, List.getElem_cons_zero, List.getElem_cons_succ, List.setIfInBounds_toArray, List.set_cons_zero, List.set_cons_succ])
        refine tkI 13 rfl (by intro w hSw; (try dsimp only at hSw); go_simp; try with_reducible rfl) hHeld ?_
        (try simp only [Act.put, List.getElem_toArray, List.getElem_cons_zero, List.getElem_cons_succ, List.setIfInBounds_toArray, List.set_cons_zero, List.set_cons_succ])
        refine wpAnyH_done (by kernel_rfl) ?_ _
        clear hHeld
        have HS2 : Hid (∀ w', Below Y.drew.heap.size Y.drew w' → w'.cell? ⟨b, o + i * 6, none⟩ = some (.string cn) ∧ w'.cell? ⟨w4.heap.size, 0, none⟩ = some (.string f0) ∧ w'.cell? ⟨w4.heap.size, 1, none⟩ = some (.int .i64 f1) ∧ w'.cell? ⟨w4.heap.size, 2, none⟩ = some (.int .i64 f2)) := fun w' hb => HS.out w' ((Below.refl _ _).drew.trans hb)
        have HY2 : Hid (Below w7.heap.size w7 Y.drew) := HY.out.trans ((Below.refl _ _).drew.mono HY.out.size)
        go_upto_region 21 with fail
        generalize Y.drew = Z at *
        refine wp_region_held_drew (S := fun w' => w'.cell? ⟨b, o + i * 6, none⟩ = some (.string cn) ∧ w'.cell? ⟨w4.heap.size, 0, none⟩ = some (.string f0) ∧ w'.cell? ⟨w4.heap.size, 1, none⟩ = some (.int .i64 f1) ∧ w'.cell? ⟨w4.heap.size, 2, none⟩ = some (.int .i64 f2)) (by kernel_rfl) (HS2.out _ (Below.refl _ _).drew) (fun hHeld => ?_)
        refine tkI 0 rfl (by intro w hSw; (try dsimp only at hSw); go_simp; try with_reducible rfl) hHeld ?_
        (try simp only [Act.put, List.getElem_toArray, List.getElem_cons_zero, List.setIfInBounds_toArray, List.set_cons_zero, List.set_cons_succ])
        refine tkI 1 rfl (by intro w hSw; (try dsimp only at hSw); go_simp; try with_reducible rfl) hHeld ?_
        (try simp only [Act.put, List.getElem_toArray, List.getElem_cons_zero, List.getElem_cons_succ, List.setIfInBounds_toArray, List.set_cons_zero, List.set_cons_succ])
        refine tkI 2 rfl (by intro w hSw; (try dsimp only at hSw); go_simp; try with_reducible rfl) hHeld ?_
        (try simp only [Act.put, List.getElem_toArray, List.getElem_cons_zero, List.getElem_cons_succ, List.setIfInBounds_toArray, List.set_cons_zero, List.set_cons_succ])
        refine tkI 3 rfl (by intro w hSw; (try dsimp only at hSw); go_simp; try with_reducible rfl) hHeld ?_
        (try simp only [Act.put, List.getElem_toArray, List.getElem_cons_zero, List.getElem_cons_succ, List.setIfInBounds_toArray, List.set_cons_zero, List.set_cons_succ])
        refine tkI 4 rfl (by intro w hSw; (try dsimp only at hSw); go_simp; try with_reducible rfl) hHeld ?_
        (try simp only [Act.put, List.getElem_toArray, List.getElem_cons_zero, List.getElem_cons_succ, List.setIfInBounds_toArray, List.set_cons_zero, List.set_cons_succ])
        refine tkI 5 rfl (by intro w hSw; (try dsimp only at hSw); go_simp; try with_reducible rfl) hHeld ?_
        (try simp only [Act.put, List.getElem_toArray, List.getElem_cons_zero, List.getElem_cons_succ, List.setIfInBounds_toArray, List.set_cons_zero, List.set_cons_succ])
        refine tkI 6 rfl (by intro w hSw; (try dsimp only at hSw); go_simp; try with_reducible rfl) hHeld ?_
        (try simp only [Act.put, List.getElem_toArray, List.getElem_cons_zero, List.getElem_cons_succ, List.setIfInBounds_toArray, List.set_cons_zero, List.set_cons_succ])
        refine tkI 7 rfl (by intro w hSw; (try dsimp only at hSw); go_simp; try with_reducible rfl) hHeld ?_
        (try simp only [Act.put, List.getElem_toArray, List.getElem_cons_zero, List.getElem_cons_succ, List.setIfInBounds_toArray, List.set_cons_zero, List.set_cons_succ])
        refine tkI 8 rfl (by intro w hSw; (try dsimp only at hSw); go_simp; try with_reducible rfl) hHeld ?_
        (try simp only [Act.put, List.getElem_toArray, List.getElem_cons_zero, List.getElem_cons_succ, List.setIfInBounds_toArray, List.set_cons_zero, List.set_cons_succ])
        refine tkI 9 rfl (by intro w hSw; (try dsimp only at hSw); go_simp; try with_reducible rfl) hHeld ?_
        (try simp only [Act.put, List.getElem_toArray, List.getElem_cons_zero, List.getElem_cons_succ, List.setIfInBounds_toArray, List.set_cons_zero, List.set_cons_succ])
        refine tkI 10 rfl (by intro w hSw; (try dsimp only at hSw); go_simp; try with_reducible rfl) hHeld ?_
        (try simp only [Act.put, List.getElem_toArray, List.getElem_cons_zero, List.getElem_cons_succ, List.setIfInBounds_toArray, List.set_cons_zero, List.set_cons_succ])
        refine tkI 11 rfl (by intro w hSw; (try dsimp only at hSw); go_simp; try with_reducible rfl) hHeld ?_
        (try simp only [Act.put, List.getElem_toArray, List.getElem_cons_zero, List.getElem_cons_succ, List.setIfInBounds_toArray, List.set_cons_zero, List.set_cons_succ])
        refine tkI 12 rfl (by intro w hSw; (try dsimp only at hSw); go_simp; try with_reducible rfl) hHeld ?_
        (try simp only [Act.put, List.getElem_toArray, List.getElem_cons_zero, List.getElem_cons_succ, List.setIfInBounds_toArray, List.set_cons_zero, List.set_cons_succ])
        refine tkI 13 rfl (by intro w hSw; (try dsimp only at hSw); go_simp; try with_reducible rfl) hHeld ?_
        (try simp only [Act.put, List.getElem_toArray, List.getElem_cons_zero, List.getElem_cons_succ, List.setIfInBounds_toArray, List.set_cons_zero, List.set_cons_succ])
        refine tkI 14 rfl (by intro w hSw; (try dsimp only at hSw); go_simp; try with_reducible rfl) hHeld ?_
        (try simp only [Act.put, List.getElem_toArray, List.getElem_cons_zero, List.getElem_cons_succ, List.setIfInBounds_toArray, List.set_cons_zero, List.set_cons_succ])
        refine tkI 15 rfl (by intro w hSw; (try dsimp only at hSw); go_simp; try with_reducible rfl) hHeld ?_
        (try simp only [Act.put, List.getElem_toArray, List.getElem_cons_zero, List.getElem_cons_succ, List.setIfInBounds_toArray, List.set_cons_zero, List.set_cons_succ])
        refine wpAnyH_ready (rs := [16]) (by kernel_rfl) (by simp) ?_
        refine AllReadyH.cons rfl (fun K hK => ?_) AllReadyH.nil
        simp only [List.getElem_toArray, List.getElem_cons_zero, List.getElem_cons_succ]
        go_simp
        refine Calls.mono (HIs.out _ cl cn (sm hcl) (B7.out.trans ((HY2.out.trans ((Below.refl _ _).drew.mono HY2.out.size)).mono B7.out.size))) ?_
        rintro e w10 ⟨rfl, hb10⟩
        have hB10 : Below Z.heap.size Z w10 := (Below.refl _ _).drew.trans hb10
        have HB10 : Hid (Below w7.heap.size w7 w10) := HY2.out.trans (hB10.mono HY2.out.size)
        cases hv : isV L cl cn with
        | false =>
         refine hK.out _ _ (HS2.out _ hB10) (fun hHeld => ?_)
         clear hK K
         (try simp only [Act.put, List.getElem_toArray, List.getElem_cons_zero, List.getElem_cons_succ, List.setIfInBounds_toArray, List.set_cons_zero, List.set_cons_succ])
         refine tkI 17 rfl (by intro w hSw; (try dsimp only at hSw); go_simp; try with_reducible rfl) hHeld ?_
         (try simp only [Act.put, List.getElem_toArray, List.getElem_cons_zero, List.getElem_cons_succ, List.setIfInBounds_toArray, List.set_cons_zero, List.set_cons_succ])
         refine tkI 18 rfl (by intro w hSw; (try dsimp only at hSw); go_simp; try with_reducible rfl) hHeld ?_
         (try simp only [Act.put, List.getElem_toArray, List.getElem_cons_zero, List.getElem_cons_succ, List.setIfInBounds_toArray, List.set_cons_zero, List.set_cons_succ])
         refine tkO 19 rfl hHeld ?_
         refine tkO 20 rfl hHeld ?_
         refine tkO 21 rfl hHeld ?_
         refine tkO 22 rfl hHeld ?_
         refine tkO 23 rfl hHeld ?_
         refine tkO 24 rfl hHeld ?_
         refine tkO 25 rfl hHeld ?_
         refine tkO 26 rfl hHeld ?_
         refine tkO 27 rfl hHeld ?_
         (try simp only [Act.put, List.getElem_toArray, List.getElem_cons_zero, List.getElem_cons_succ, List.setIfInBounds_toArray, List.set_cons_zero, List.set_cons_succ])
         refine tkI 28 rfl (by intro w hSw; (try dsimp only at hSw); go_simp; try with_reducible rfl) hHeld ?_
         (try simp only [Act.put, List.getElem_toArray, List.getElem_cons_zero, List.getElem_cons_succ, List.setIfInBounds_toArray, List.set_cons_zero, List.set_cons_succ])
         refine wpAnyH_done (by kernel_rfl) ?_ _
         clear hHeld hb10 hB10
         go_wp2
         go_roundw
         case rel => exact ⟨j + 1, by omega, by go_num, HB10.out⟩
         case measure => simp [intOf]; omega
        | true =>
         have hv2 := HZC.out hv
         refine hK.out _ _ (HS2.out _ hB10) (fun hHeld => ?_)
         clear hK K
         (try simp only [Act.put, List.getElem_toArray, List.getElem_cons_zero, List.getElem_cons_succ, List.setIfInBounds_toArray, List.set_cons_zero, List.set_cons_succ])
         refine tkI 17 rfl (by intro w hSw; (try dsimp only at hSw); go_simp; try with_reducible rfl) hHeld ?_
         (try simp only [Act.put, List.getElem_toArray, List.getElem_cons_zero, List.getElem_cons_succ, List.setIfInBounds_toArray, List.set_cons_zero, List.set_cons_succ])
         refine tkI 18 rfl (by intro w hSw; (try dsimp only at hSw); go_simp; try with_reducible rfl) hHeld ?_
         (try simp only [Act.put, List.getElem_toArray, List.getElem_cons_zero, List.getElem_cons_succ, List.setIfInBounds_toArray, List.set_cons_zero, List.set_cons_succ])
         refine tkI 19 rfl (by intro w hSw; (try dsimp only at hSw); go_simp; try with_reducible rfl) hHeld ?_
         (try simp only [Act.put, List.getElem_toArray, List.getElem_cons_zero, List.getElem_cons_succ, List.setIfInBounds_toArray, List.set_cons_zero, List.set_cons_succ])
         refine tkI 20 rfl (by intro w hSw; (try dsimp only at hSw); go_simp; try with_reducible rfl) hHeld ?_
         (try simp only [Act.put, List.getElem_toArray, List.getElem_cons_zero, List.getElem_cons_succ, List.setIfInBounds_toArray, List.set_cons_zero, List.set_cons_succ])
         refine tkI 21 rfl (by intro w hSw; (try dsimp only at hSw); go_simp; try with_reducible rfl) hHeld ?_
         (try simp only [Act.put, List.getElem_toArray, List.getElem_cons_zero, List.getElem_cons_succ, List.setIfInBounds_toArray, List.set_cons_zero, List.set_cons_succ])
         refine tkI 22 rfl (by intro w hSw; (try dsimp only at hSw); go_simp; try with_reducible rfl) hHeld ?_
         (try simp only [Act.put, List.getElem_toArray, List.getElem_cons_zero, List.getElem_cons_succ, List.setIfInBounds_toArray, List.set_cons_zero, List.set_cons_succ])
         refine tkI 23 rfl (by intro w hSw; (try dsimp only at hSw); go_simp; try with_reducible rfl) hHeld ?_
         (try simp only [Act.put, List.getElem_toArray, List.getElem_cons_zero, List.getElem_cons_succ, List.setIfInBounds_toArray, List.set_cons_zero, List.set_cons_succ])
         refine tkI 24 rfl (by intro w hSw; (try dsimp only at hSw); go_simp; try with_reducible rfl) hHeld ?_
         (try simp only [Act.put, List.getElem_toArray, List.getElem_cons_zero, List.getElem_cons_succ, List.setIfInBounds_toArray, List.set_cons_zero, List.set_cons_succ])
         refine tkI 25 rfl (by intro w hSw; (try dsimp only at hSw); go_simp; try with_reducible rfl) hHeld ?_
         (try simp only [Act.put, List.getElem_toArray, List.getElem_cons_zero, List.getElem_cons_succ, List.setIfInBounds_toArray, List.set_cons_zero, List.set_cons_succ])
         refine tkI 26 rfl (by intro w hSw; (try dsimp only at hSw); go_simp; try with_reducible rfl) hHeld ?_
         (try simp only [Act.put, List.getElem_toArray, List.getElem_cons_zero, List.getElem_cons_succ, List.setIfInBounds_toArray, List.set_cons_zero, List.set_cons_succ])
         refine wpAnyH_ready (rs := [27]) (by kernel_rfl) (by simp) ?_
         refine AllReadyH.cons rfl (fun K hK => ?_) AllReadyH.nil
         simp only [List.getElem_toArray, List.getElem_cons_zero, List.getElem_cons_succ]
         go_simp
         refine Calls.mono (HIs.out _ cn f0 hnz (B7.out.trans (HB10.out.mono B7.out.size))) ?_
         rintro e w11 ⟨rfl, hb11⟩
         rw [hv2]
         have hB11 : Below Z.heap.size Z w11 := hB10.trans (hb11.mono hB10.size)
         have HB11 : Hid (Below w7.heap.size w7 w11) := HB10.out.trans (hb11.mono HB10.out.size)
         refine hK.out _ _ (HS2.out _ hB11) (fun hHeld => ?_)
         clear hK K
         (try simp only [Act.put, List.getElem_toArray, List.getElem_cons_zero, List.getElem_cons_succ, List.setIfInBounds_toArray, List.set_cons_zero, List.set_cons_succ])
         refine tkI 28 rfl (by intro w hSw; (try dsimp only at hSw); go_simp; try with_reducible rfl) hHeld ?_
         (try simp only [Act.put, List.getElem_toArray, List.getElem_cons_zero, List.getElem_cons_succ, List.setIfInBounds_toArray, List.set_cons_zero, List.set_cons_succ])
         refine wpAnyH_done (by kernel_rfl) ?_ _
         clear hHeld hb10 hB10 hb11 hB11
         go_wp2
         go_roundw
         case rel => exact ⟨j + 1, by omega, by go_num, HB11.out⟩
         case measure => simp [intOf]; omega
      ·have t2 := tx_ne e2
       clear e1 e2 HZ
       go_wp2
       go_roundw
       case rel => exact ⟨j + 1, by omega, by go_num, HBa.out _⟩
       case measure => simp [intOf]; omega
     ·have t1 := tx_ne e1
      clear e1 HZ
      go_wp2
      go_roundw
      case rel => exact ⟨j + 1, by omega, by go_num, HBa.out _⟩
      case measure => simp [intOf]; omega
    ·obtain rfl : j = ms.length := by omega
     clear hin
     go_wp2
     go_roundw
     case rel => exact ⟨i + 1, by omega, by go_num, HB9.out⟩
     case measure => simp [intOf]; omega
  ·obtain rfl : i = L.length := by omega
   go_wp2
   go_ret
   exact ⟨rfl, HEnd.out _ (B7.out.trans (HB8.out.mono B7.out.size))⟩

set_option maxRecDepth 100000 in
theorem lifted (os : Os) (started : os.Started) (H : Type) (enc : TypeId × Value → H) :
  ReturnsInHanded {} Tryz.checked os 6 .any (fun w args => (Rows.fnFindMethodSpec.pre enc Tryz.prog Tryz.f6 [] false w args ∧ laidMetH Tryz.prog Rows.fnFindMethodRow.laid w) ∧ sizedMet enc Tryz.prog Tryz.f6 (OpenSpec.ofChange Rows.fnFindMethodSpec) false w args)
   (Rows.fnFindMethodSpec.post enc Tryz.prog Tryz.f6 false true false false) := by
 refine returnsInHanded_of_change_and (C := Tryz.checked) (X := fun w _ => laidMetH Tryz.prog Rows.fnFindMethodRow.laid w) (fun _ _ _ hh h => h.of_heap hh) own started (by kernel_rfl) Tryz.func6
  (ChangeSpec.witness_at (enc := enc) (C := Tryz.checked) (os := os) (X := fun w _ => laidMetH Tryz.prog Rows.fnFindMethodRow.laid w) false (laidWorld os) #[.slice none 0 0] 8 rfl (by kernel_rfl) (by kernel_rfl) (by kernel_rfl) (by kernel_rfl) (by kernel_rfl) (laidWorld_met os _)) ?_
 intro W base args ds gs before hval0 hW _ _ hL _
 have hval : ∀ (j : Nat) t v, Tryz.f6.params[j]? = some t → args[j]? = some v → Value.okWide Tryz.prog W .any base t v := hval0
 have hW' := hW
 obtain ⟨p, q, hA0, hV0, rfl, hfz, hnd⟩ := hW
 have hA : DataW.TrodAll enc Tryz.prog W 0 (fun _ => true) true Tryz.f6.params.toList args.toList ds p := hA0
 have hV : DataW.TrodVars enc Tryz.prog W (fun _ => true) ["loop.example/g00175/impl.opTable"] gs q := hV0
 rw [Tryz.params6] at hA hval
 obtain ⟨v0, vs0, d0, ds0, p0, q0, hargs, rfl, rfl, h0, r0⟩ := trodAll_cons hA
 obtain ⟨rfl, rfl, rfl⟩ := trodAll_nil r0
 obtain rfl : args = #[v0] := by cases args; simp_all
 have hVk := hV
 obtain ⟨vg, vt, vcs, vfuel, vd, vp, rfl, _, _, _, _, rfl⟩ := trodVars_one hV
 obtain ⟨htab, hglob⟩ := both_of_laid hL
 obtain ⟨a0, len0, cap0, rfl⟩ := okWide_slice Tryz.underlying38 (hval 0 38 v0 rfl rfl)
 have k0 := h0
 have lt0 : ∀ x ∈ p0, x.block < W.heap.size := by obtain ⟨m, hm⟩ := k0; exact DataW.trod_lt m _ _ _ hm
 obtain ⟨z0, w0⟩ : ∃ zs, IsRow .u8 W a0 len0 cap0 zs := by
  obtain ⟨fuel, hf⟩ := h0
  rcases open_ints Tryz.underlying38 Tryz.underlying5 (by kernel_rfl) hf with ⟨hcs, _⟩ | ⟨x, l, c, zs, hcs, _, hl, hm, hz, _, hcell, hwz⟩
  ·simp [Value.cells] at hcs
   obtain ⟨rfl, rfl, rfl⟩ := hcs
   exact ⟨[], .inl ⟨rfl, rfl, rfl, rfl⟩⟩
  ·simp [Value.cells] at hcs
   obtain ⟨rfl, rfl, rfl⟩ := hcs
   exact ⟨zs, .inr ⟨_, rfl, hl, hm, by simpa using hz, hcell, hwz⟩⟩
 clear hA0 hval0
 refine (walk a0 len0 cap0 z0 W w0 htab hglob).mono fun e W' ⟨he, bel⟩ => ?_
 subst he
 exact ⟨_, rfl, _, _, _, [], _, _, hW', trodAll_mk1 (shut_bool Tryz.underlying4 _), (trodAll_cons_mk (Below.trod laidOut (by kernel_rfl) (of_decide_eq_true (by kernel_rfl)) k0 bel lt0) trodAll_mk0), Below.trodVars laidOut bel (by kernel_rfl) hVk, bel.frame _, fun h => by cases h⟩

theorem over : Rows.fnFindMethodRow.holds Tryz.pinned (OpenSpec.ofChange Rows.fnFindMethodSpec) :=
 OpenClaim.holds_of_wide 6 Tryz.f6 rfl rfl rfl rfl rfl rfl rfl ⟨rfl, rfl, rfl, rfl, rfl⟩ rfl rfl rfl rfl rfl (by kernel_rfl) Tryz.func6 (by kernel_rfl)
  (of_decide_eq_true (by kernel_rfl)) (by unfold Func.isWrapper; first | (rw [if_pos (by decide +kernel)]; kernel_rfl) | (rw [if_neg (by decide +kernel)]; exact ⟨rfl, rfl⟩))
  (fun os started H enc _ => lifted os started H enc)

end Go.Proofs.YtmhgaggpdggbeaaGreatDoor.fnFindMethod
namespace Go.Proofs.YtmhgaggpdggbeaaGreatDoor
theorem fnFindMethod_holds : Rows.FnFindMethodCardSaid :=
 Claim7.holds_tied_plain_at .later [] [.handle, .data] true (true, "a9a61ffc67ae99f45bc6445069b36beb30fb85df5e4a4fc939723e9fa45922a0") true
  fnFindMethod.over (fun _ h => by cases h) (by kernel_rfl) (fun _ h => by cases h) fnFindMethod_row_tie rfl ⟨rfl, rfl⟩ (by kernel_rfl) rfl
  (fun f fn hf hfn => by
   obtain rfl : f = 6 := Option.some.inj ((show Tryz.prog.funcNamed "loop.example/g00175/laws.FnFindMethod" = some 6 by kernel_rfl).symm.trans hf) |>.symm
   obtain rfl : fn = Tryz.f6 := (Option.some.inj (Tryz.func6.symm.trans hfn)).symm
   exact ⟨by kernel_rfl, fun j t ht => by
    rw [Tryz.params6] at ht
    rcases j with _ | j
    ·obtain rfl : t = 38 := by simpa using ht.symm
     exact (show Tryz.prog.wantsStandIn 38 = false by kernel_rfl)
    ·skip
     simp at ht⟩)
  (by kernel_rfl)
#print axioms fnFindMethod_holds
end Go.Proofs.YtmhgaggpdggbeaaGreatDoor
