/-
  Whatever the op, the law FnExactFlowJumps returns true: the program's FlowJumps answers as the model's does. The one variable listed is the program's table opTable, tied to the program's text by the card.
-/
import Derived.Test.YtpjbhdoiffmgiaaDoorRows
import Derived.Test.YtpjbhdoiffmgiaaDoorCards
import Derived.Test.YtpjbhdoiffmgiaaDoorTie
import Derived.WalkKit
import Derived.ProofKit
import Derived.OpenShut
import Derived.ShutString
import Derived.ChangeOld
import Derived.Below
import Derived.Carry
import Derived.OpenVars
import Derived.ChangeSame
import Derived.ChangeVars
import Derived.JoinedOf
import Derived.RowKit
import Derived.RowKitTokens
import Derived.LaidLaws
import Derived.LaidHandle
import Derived.LaidMore
import Derived.Stop.Joined
import Derived.SevenTiedAt
import Derived.Test.YtpjbhdoiffmgiaaDoorJumps
namespace Go.Proofs.YtpjbhdoiffmgiaaDoor.fnExactFlowJumps
open Go.ChangeShapes Go.WideShapes Go.ChangeAt Go.RowKit
open Go.ChangeMaps (open_string shut_string)
set_option linter.unusedVariables false

theorem own : ownKnob Tryd.prog.godebug = none := by kernel_rfl
theorem laidOut : laidOutB Tryd.prog = true := by kernel_rfl
theorem ot : Tryd.prog.globalNamed "loop.example/g00175/impl.opTable" = some 0 := by kernel_rfl
theorem otT : (Tryd.prog.globals[0]?).map (·.type) = some 31 := by kernel_rfl
theorem c1 : Tryd.prog.cellsOf 28 = 2 := by kernel_rfl
theorem c2 : Tryd.prog.cellsOf 9 = 1 := by kernel_rfl

theorem tab_datum {H : Type} : (Rows.laid_loop_example_g00175_impl_opTable : DataW H) = .agg ((List.range 45).map fun i : Nat => .agg [.lit (.string (nmS (i : Int)).data.toList), .lit (.string (fmS (i : Int)).data.toList)]) := by kernel_rfl

theorem bytes_of {a b : ByteArray} (h : a.data.toList = b.data.toList) : a = b := by
  obtain ⟨⟨x⟩⟩ := a
  obtain ⟨⟨y⟩⟩ := b
  simp at h
  rw [h]

theorem tab_of_data {W : World} (h : laidMet Tryd.prog [("loop.example/g00175/impl.opTable", Rows.laid_loop_example_g00175_impl_opTable)] W) : Tab W := by
  obtain ⟨ps, ⟨g, t, cs, fuel, p, q, hg, ht, hvar, hd, _, _⟩, _⟩ := h
  obtain rfl := Option.some.inj (ot.symm.trans hg)
  obtain rfl := Option.some.inj (otT.symm.trans ht)
  rw [tab_datum] at hd
  obtain ⟨xs, m, _, hx, hlen, hn, hel⟩ := DataW.trod_array Tryd.underlying31 hd
  simp only [Prod.mk.injEq, DataW.agg.injEq] at hx
  intro i hi
  have h1 := hel i hi
  rw [c1] at h1
  have h2 : (xs.map (·.1))[i]? = some (.agg [.lit (.string (nmS (i : Int)).data.toList), .lit (.string (fmS (i : Int)).data.toList)]) := by
    rw [← hx.1, List.getElem?_map, List.getElem?_range hi]; rfl
  rw [List.getElem?_map] at h2
  obtain ⟨y, hy, hy2⟩ := Option.map_eq_some_iff.1 h2
  rw [hy] at h1
  obtain ⟨ys, k, _, hys, hcl, hyl, hfs⟩ := DataW.trod_struct Tryd.underlying28 h1
  have e0 := hfs 0 _ rfl
  have e1 := hfs 1 _ rfl
  have hyl2 : ys.length = 2 := hyl
  match ys, hyl2, hys, e0, e1 with
  | [y0, y1], _, hys, e0, e1 =>
    simp only [List.getElem?_cons_zero, List.getElem?_cons_succ] at e0 e1
    obtain ⟨s0, k0, d0, _⟩ := DataW.trod_string Tryd.underlying9 e0
    obtain ⟨s1, k1, d1, _⟩ := DataW.trod_string Tryd.underlying9 e1
    rw [hys] at hy2
    simp only [List.map_cons, List.map_nil, DataW.agg.injEq, List.cons.injEq, and_true] at hy2
    rw [d0, d1] at hy2
    simp only [DataW.lit.injEq, Lit.string.injEq] at hy2
    have q0 : s0 = nmS (i : Int) := bytes_of hy2.1
    have q1 : s1 = fmS (i : Int) := bytes_of hy2.2
    subst q0 q1
    have r0 := congrArg (fun l : List Value => l[0]?) k0
    have r1 := congrArg (fun l : List Value => l[0]?) k1
    have z0 : Tryd.prog.cellsOf (9) = 1 := c2
    constructor
    · have := World.var?_cell hg hvar (2 * i)
      rw [this, ← Array.getElem?_toList]
      simpa [List.getElem?_take, List.getElem?_drop, c2, Nat.mul_comm] using r0
    · have := World.var?_cell hg hvar (2 * i + 1)
      rw [this, ← Array.getElem?_toList]
      simpa [List.getElem?_take, List.getElem?_drop, c2, Nat.mul_comm] using r1

theorem both_of_laid {W : World} (h : laidMetH Tryd.prog Rows.fnExactFlowJumpsRow.laid W) : Tab W ∧ True := ⟨tab_of_data h, trivial⟩

noncomputable def laidWorld (os : Os) : World :=
  let w0 := World.holding Tryd.prog os ⟨#[], #[], []⟩
  { w0 with heap := w0.heap.modify 0 fun
      | .cells _ t frozen => .cells ((List.range 90).map fun j : Nat => .string (if j % 2 = 0 then nmS ((j / 2 : Nat) : Int) else fmS ((j / 2 : Nat) : Int))).toArray t frozen
      | o => o }
theorem laidWorld_met (os : Os) (args : Array Value) : laidMetH Tryd.prog Rows.fnExactFlowJumpsRow.laid ((laidWorld os).forCall (fun _ _ => 0) ⟨#[], args, []⟩).memory :=
  laidMetH_of_parts (laidMet_of_run' 8 (by kernel_rfl) (by kernel_rfl)) (by kernel_rfl)

set_option maxHeartbeats 400000 in
theorem walk (a0 : Int) (w : World) (w0 : (Lit.int .i64 a0).wf = true) (ht : Tab w) :
    Calls Tryd.prog 3 #[.int .i64 a0] w fun e w' => e = .returned (.bool true) ∧ Below w.heap.size w w' := by
  have hr := i64_of_wf w0
  have hs := specFlowJumps a0 w hr
  have hi : ∀ w, Tab w → Calls Tryd.prog 5 #[.int .i64 a0] w fun e w' => e = .returned (.bool (jmpB a0)) ∧ Below w.heap.size w w' := fun w h => implFlowJumps a0 w h
  have HS := (show Hid (Calls _ _ _ _ _) from hs)
  have HI := (show Hid (∀ w, Tab w → Calls _ _ _ _ _) from hi)
  have HT := (show Hid (Tab w) from ht)
  clear hs hi ht hr w0
  generalize jmpB a0 = f at *
  go_enter Tryd.func3, Tryd.ntmps3
  go_wp2_with fail
  refine Calls.mono HS.out ?_
  rintro e w1 ⟨rfl, hb1⟩
  have HB1 : Hid (Below w.heap.size w w1) := hb1
  clear hb1
  go_wp2_with fail
  refine Calls.mono (HI.out w1 (HT.out.mono HB1.out)) ?_
  rintro e w2 ⟨rfl, hb2⟩
  have HB2 : Hid (Below w.heap.size w w2) := HB1.out.trans (hb2.mono HB1.out.size)
  clear hb2
  cases f
  · go_wp2
    go_ret
    exact ⟨rfl, HB2.out⟩
  · go_wp2
    go_ret
    exact ⟨rfl, HB2.out⟩

set_option maxRecDepth 100000 in
theorem lifted (os : Os) (started : os.Started) (H : Type) (enc : TypeId × Value → H) :
    ReturnsInHanded {} Tryd.checked os 3 .any (fun w args => (Rows.fnExactFlowJumpsSpec.pre enc Tryd.prog Tryd.f3 [] false w args ∧ laidMetH Tryd.prog Rows.fnExactFlowJumpsRow.laid w) ∧ sizedMet enc Tryd.prog Tryd.f3 (OpenSpec.ofChange Rows.fnExactFlowJumpsSpec) false w args)
      (Rows.fnExactFlowJumpsSpec.post enc Tryd.prog Tryd.f3 false true false false) := by
  refine returnsInHanded_of_change_and (C := Tryd.checked) (X := fun w _ => laidMetH Tryd.prog Rows.fnExactFlowJumpsRow.laid w) (fun _ _ _ hh h => h.of_heap hh) own started (by kernel_rfl) Tryd.func3
    (ChangeSpec.witness_at (enc := enc) (C := Tryd.checked) (os := os) (X := fun w _ => laidMetH Tryd.prog Rows.fnExactFlowJumpsRow.laid w) false (laidWorld os) #[.int .i64 0] 8 rfl (by kernel_rfl) (by kernel_rfl) (by kernel_rfl) (by kernel_rfl) (by kernel_rfl) (laidWorld_met os _)) ?_
  intro W base args ds gs before hval0 hW _ _ hL _
  have hval : ∀ (j : Nat) t v, Tryd.f3.params[j]? = some t → args[j]? = some v → Value.okWide Tryd.prog W .any base t v := hval0
  have hW' := hW
  obtain ⟨p, q, hA0, hV0, rfl, hfz, hnd⟩ := hW
  have hA : DataW.TrodAll enc Tryd.prog W 0 (fun _ => true) true Tryd.f3.params.toList args.toList ds p := hA0
  have hV : DataW.TrodVars enc Tryd.prog W (fun _ => true) ["loop.example/g00175/impl.opTable"] gs q := hV0
  rw [Tryd.params3] at hA hval
  obtain ⟨v0, vs0, d0, ds0, p0, q0, hargs, rfl, rfl, h0, r0⟩ := trodAll_cons hA
  obtain ⟨rfl, rfl, rfl⟩ := trodAll_nil r0
  obtain rfl : args = #[v0] := by cases args; simp_all
  have hVk := hV
  obtain ⟨vg, vt, vcs, vfuel, vd, vp, rfl, _, _, _, _, rfl⟩ := trodVars_one hV
  obtain ⟨htab, hglob⟩ := both_of_laid hL
  obtain ⟨a0, rfl, rfl, rfl, w0⟩ := open_int Tryd.underlying2 (hval 0 2 v0 rfl rfl) h0
  clear hA0 hval0
  refine (walk a0 W w0 htab).mono fun e W' ⟨he, bel⟩ => ?_
  subst he
  exact ⟨_, rfl, _, _, _, [], _, _, hW', trodAll_mk1 (shut_bool Tryd.underlying4 _), (trodAll_cons_mk (shut_int Tryd.underlying2 w0) trodAll_mk0), Below.trodVars laidOut bel (by kernel_rfl) hVk, bel.frame _, fun h => by cases h⟩

theorem over : Rows.fnExactFlowJumpsRow.holds Tryd.pinned (OpenSpec.ofChange Rows.fnExactFlowJumpsSpec) :=
  OpenClaim.holds_of_wide 3 Tryd.f3 rfl rfl rfl rfl rfl rfl rfl ⟨rfl, rfl, rfl, rfl, rfl⟩ rfl rfl rfl rfl rfl (by kernel_rfl) Tryd.func3 (by kernel_rfl)
    (of_decide_eq_true (by kernel_rfl)) (by unfold Func.isWrapper; first | (rw [if_pos (by decide +kernel)]; kernel_rfl) | (rw [if_neg (by decide +kernel)]; exact ⟨rfl, rfl⟩))
    (fun os started H enc _ => lifted os started H enc)

end Go.Proofs.YtpjbhdoiffmgiaaDoor.fnExactFlowJumps
namespace Go.Proofs.YtpjbhdoiffmgiaaDoor
theorem fnExactFlowJumps_holds : Rows.FnExactFlowJumpsCardSaid :=
  Claim7.holds_tied_plain_at .later [] [.data] true (true, "1d5b16016bfc79b9f655bf75eaf620d3ddd1083a47356111890fc71dc512df03") false
    fnExactFlowJumps.over (fun _ h => by cases h) (by kernel_rfl) (fun _ h => by cases h) fnExactFlowJumps_row_tie rfl ⟨rfl, rfl⟩ (by kernel_rfl) rfl
    (fun f fn hf hfn => by
      obtain rfl : f = 3 := Option.some.inj ((show Tryd.prog.funcNamed "loop.example/g00175/laws.FnExactFlowJumps" = some 3 by kernel_rfl).symm.trans hf) |>.symm
      obtain rfl : fn = Tryd.f3 := (Option.some.inj (Tryd.func3.symm.trans hfn)).symm
      exact ⟨by kernel_rfl, fun j t ht => by
        rw [Tryd.params3] at ht
        rcases j with _ | j
        · obtain rfl : t = 2 := by simpa using ht.symm
          exact (show Tryd.prog.wantsStandIn 2 = false by kernel_rfl)
        · skip
          simp at ht⟩)
    (by kernel_rfl)
#print axioms fnExactFlowJumps_holds
end Go.Proofs.YtpjbhdoiffmgiaaDoor
