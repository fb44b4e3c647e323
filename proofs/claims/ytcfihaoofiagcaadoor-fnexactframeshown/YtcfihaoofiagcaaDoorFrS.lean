/-
  FrameShown of the model and of the program.
-/
import Derived.Test.YtcfihaoofiagcaaDoorFr
import Derived.ArgAppend
import Derived.Deep.Upon
import Derived.Laws.AppendOwnNone
namespace Go.Proofs.YtcfihaoofiagcaaDoor
open Go.RowKit
set_option linter.unusedVariables false

theorem tyOpen {w : World} {v : Value} {xs : List TypeD} (h : typeR.slice.In w [v] xs) :
    ∃ a cap, v = .slice a xs.length cap ∧ xs.length ≤ cap ∧ cap ≤ maxLen ∧ ∀ i (h : i < xs.length), ∃ b o, a = some ⟨b, o, none⟩ ∧ typeR.At w ⟨b, o, none⟩ i xs[i] := by
  obtain ⟨a, cap, e, h1, h2, h3⟩ := h
  cases e
  refine ⟨a, cap, rfl, h1, h2, fun i hi => ?_⟩
  obtain ⟨x, rfl, hx⟩ := h3 i hi
  obtain ⟨x0, e0, h0⟩ := h3 0 (by omega)
  cases e0
  obtain ⟨b, o, rfl⟩ := h0.plain (by decide)
  exact ⟨b, o, rfl, hx⟩
theorem tyAt {w : World} {b o i : Nat} {d : TypeD} (h : typeR.At w ⟨b, o, none⟩ i d) :
    w.cell? ⟨b, o + i * 3, none⟩ = some (.int .i64 d.1) ∧ w.cell? ⟨b, o + i * 3 + 1, none⟩ = some (.string d.2.1) ∧ w.cell? ⟨b, o + i * 3 + 2, none⟩ = some (.int .i64 d.2.2) ∧ d.2.1.size ≤ maxLen ∧ (-9223372036854775808 ≤ d.2.2 ∧ d.2.2 ≤ 9223372036854775807) := by
  obtain ⟨cs, hc, hin⟩ := h
  obtain ⟨_, _, rfl, ⟨rfl, q0⟩, ⟨_, _, rfl, ⟨rfl, s1⟩, ⟨rfl, q2⟩⟩⟩ := hin
  have hk : typeR.k = 3 := rfl
  rw [hk] at hc
  have g0 := hc 0 (by omega)
  have g1 := hc 1 (by omega)
  have g2 := hc 2 (by omega)
  simp only [List.cons_append, List.nil_append, List.getElem?_cons_zero, List.getElem?_cons_succ, plain_add, ← Nat.add_assoc, Nat.add_zero] at g0 g1 g2
  exact ⟨g0, g1, g2, s1, i64wT q2⟩
def shD (d : TypeD) : ByteArray := shT d.1 d.2.1 d.2.2
theorem shD_size (d : TypeD) (h : -9223372036854775808 ≤ d.2.2 ∧ d.2.2 ≤ 9223372036854775807) : (shD d).size ≤ d.2.1.size + 25 := by
  unfold shD shT
  have hl := itoa_len d.2.2 h.1 h.2
  have e3 : (⟨#[110, 101, 119]⟩ : ByteArray).size = 3 := rfl
  have e1 : (⟨#[64]⟩ : ByteArray).size = 1 := rfl
  have e2 : (⟨#[91, 93]⟩ : ByteArray).size = 2 := rfl
  have e9 : (⟨(Lib.itoa d.2.2).toArray⟩ : ByteArray).size = (Lib.itoa d.2.2).length := rfl
  repeat' split
  all_goals first
    | (simp only [ByteArray.size_append, e1, e2, e3, e9]; omega)
    | omega
    | (show 3 ≤ _; omega)
    | (show 4 ≤ _; omega)
    | (show 5 ≤ _; omega)
    | (show 0 ≤ _; omega)
def stT (S : List TypeD) (m : Nat) : ByteArray := (S.take m).foldl (fun t d => t ++ shD d ++ ⟨#[32]⟩) ⟨#[]⟩
def loT (t0 : ByteArray) (L : List TypeD) (m : Nat) : ByteArray := (L.take m).foldl (fun t d => t ++ ⟨#[32]⟩ ++ shD d) t0
/-- What FrameShown tells. -/
def frT (S L : List TypeD) : ByteArray := if 400 < S.length ∨ 400 < L.length then ⟨#[]⟩ else loT (stT S S.length ++ ⟨#[124]⟩) L L.length
theorem stT_succ (S : List TypeD) (m : Nat) (h : m < S.length) : stT S (m + 1) = stT S m ++ shD S[m] ++ ⟨#[32]⟩ := by
  unfold stT
  rw [List.take_add_one, List.getElem?_eq_getElem h]
  simp only [Option.toList_some, List.foldl_append, List.foldl_cons, List.foldl_nil]
theorem loT_succ (t0 : ByteArray) (S : List TypeD) (m : Nat) (h : m < S.length) : loT t0 S (m + 1) = loT t0 S m ++ ⟨#[32]⟩ ++ shD S[m] := by
  unfold loT
  rw [List.take_add_one, List.getElem?_eq_getElem h]
  simp only [Option.toList_some, List.foldl_append, List.foldl_cons, List.foldl_nil]
theorem one32 : (⟨#[32]⟩ : ByteArray).size = 1 := rfl
theorem one124 : (⟨#[124]⟩ : ByteArray).size = 1 := rfl
theorem stT_size (S : List TypeD) (hi : ∀ d ∈ S, -9223372036854775808 ≤ d.2.2 ∧ d.2.2 ≤ 9223372036854775807) (m : Nat) (h : m ≤ S.length) : (stT S m).size ≤ tySum S m + 26 * m := by
  induction m with
  | zero => show 0 ≤ _; omega
  | succ m ih =>
    rw [stT_succ S m h, tySum_succ S m h, ByteArray.size_append, ByteArray.size_append, one32]
    have := ih (by omega)
    have := shD_size S[m] (hi _ (List.getElem_mem h))
    unfold tyBk
    omega
theorem loT_size (t0 : ByteArray) (S : List TypeD) (hi : ∀ d ∈ S, -9223372036854775808 ≤ d.2.2 ∧ d.2.2 ≤ 9223372036854775807) (m : Nat) (h : m ≤ S.length) : (loT t0 S m).size ≤ t0.size + tySum S m + 26 * m := by
  induction m with
  | zero => show t0.size ≤ _; omega
  | succ m ih =>
    rw [loT_succ t0 S m h, tySum_succ S m h, ByteArray.size_append, ByteArray.size_append, one32]
    have := ih (by omega)
    have := shD_size S[m] (hi _ (List.getElem_mem h))
    unfold tyBk
    omega
set_option maxHeartbeats 4000000 in
theorem specFrameShown (S L : List TypeD) (vs vl : Value) (w : World) (hs : typeR.slice.In w [vs] S) (hl : typeR.slice.In w [vl] L) (hz : tyB S + tyB L ≤ 1048576) :
    Calls Tryd.prog 5 #[.agg #[vs, vl]] w fun e w' => e = .returned (.string (frT S L)) ∧ Below w.heap.size w w' := by
  obtain ⟨aS, cS, rfl, hS1, hS2, hSA⟩ := tyOpen hs
  obtain ⟨aL, cL, rfl, hL1, hL2, hLA⟩ := tyOpen hl
  clear hs hl
  unfold maxLen at hS2 hL2
  have HSA := (show Hid _ from hSA)
  have HLA := (show Hid _ from hLA)
  have hiS : ∀ d ∈ S, -9223372036854775808 ≤ d.2.2 ∧ d.2.2 ≤ 9223372036854775807 := fun d hd => by
    obtain ⟨i, hi, rfl⟩ := List.mem_iff_getElem.1 hd
    obtain ⟨b, o, _, hx⟩ := hSA i hi
    exact (tyAt hx).2.2.2.2
  have hiL : ∀ d ∈ L, -9223372036854775808 ≤ d.2.2 ∧ d.2.2 ≤ 9223372036854775807 := fun d hd => by
    obtain ⟨i, hi, rfl⟩ := List.mem_iff_getElem.1 hd
    obtain ⟨b, o, _, hx⟩ := hLA i hi
    exact (tyAt hx).2.2.2.2
  clear hSA hLA
  have HB0 : Hid (∀ o, Below w.heap.size w (w.alloc o)) := fun o => below_al w o
  by_cases b1 : 400 < S.length
  · have d1 : decide ((400 : Int) < S.length) = true := by simp; omega
    have HT : Hid (⟨#[]⟩ = frT S L) := by show _ = _; unfold frT; rw [if_pos (.inl b1)]
    clear hiS hiL hz
    go_enter Tryd.func5, Tryd.ntmps5
    go_wp2
    go_ret
    exact ⟨congrArg (fun b => Ending.returned (Value.string b)) HT.out, HB0.out _⟩
  have d1 : decide ((400 : Int) < S.length) = false := by simp; omega
  by_cases b2 : 400 < L.length
  · have d2 : decide ((400 : Int) < L.length) = true := by simp; omega
    have HT : Hid (⟨#[]⟩ = frT S L) := by show _ = _; unfold frT; rw [if_pos (.inr b2)]
    clear hiS hiL hz
    go_enter Tryd.func5, Tryd.ntmps5
    go_wp2
    go_ret
    exact ⟨congrArg (fun b => Ending.returned (Value.string b)) HT.out, HB0.out _⟩
  have d2 : decide ((400 : Int) < L.length) = false := by simp; omega
  have HT : Hid (loT (stT S S.length ++ ⟨#[124]⟩) L L.length = frT S L) := by show _ = _; unfold frT; rw [if_neg (by omega)]
  have HZS : Hid (∀ i, i ≤ S.length → (stT S i).size ≤ 1060000) := fun i hi => by
    have := stT_size S hiS i hi
    have := tySum_le S i hi
    unfold tyB at hz
    omega
  have HZL : Hid (∀ i, i ≤ L.length → (loT (stT S S.length ++ ⟨#[124]⟩) L i).size ≤ 2200000) := fun i hi => by
    have h1 := HZS.out S.length (Nat.le_refl _)
    have h2 := loT_size (stT S S.length ++ ⟨#[124]⟩) L hiL i hi
    have h3 := tySum_le L i hi
    rw [ByteArray.size_append, one124] at h2
    unfold tyB at hz
    omega
  have HCS : Hid (∀ i (h : i < S.length), (S[i]).2.1.size ≤ 1048576) := fun i h => by
    have h1 := tySum_succ S i h
    have h2 := tySum_le S (i + 1) h
    unfold tyB at hz
    unfold tyBk at h1
    omega
  have HCL : Hid (∀ i (h : i < L.length), (L[i]).2.1.size ≤ 1048576) := fun i h => by
    have h1 := tySum_succ L i h
    have h2 := tySum_le L (i + 1) h
    unfold tyB at hz
    unfold tyBk at h1
    omega
  have HIS := (show Hid _ from hiS)
  have HIL := (show Hid _ from hiL)
  clear hiS hiL hz
  go_enter Tryd.func5, Tryd.ntmps5
  go_wp2_with fail
  have x0 : (w.alloc (.cells #[.slice aS S.length cS, .slice aL L.length cL] 29)).cell? ⟨w.heap.size, 0, none⟩ = some (.slice aS S.length cS) := by simp [go_sem]
  have x1 : (w.alloc (.cells #[.slice aS S.length cS, .slice aL L.length cL] 29)).cell? ⟨w.heap.size, 1, none⟩ = some (.slice aL L.length cL) := by simp [go_sem]
  have HBW := (show Hid _ from HB0.out (.cells #[.slice aS S.length cS, .slice aL L.length cL] 29))
  have hzW : w.heap.size < (w.alloc (.cells #[.slice aS S.length cS, .slice aL L.length cL] 29)).heap.size := by simp
  generalize w.alloc (.cells #[.slice aS S.length cS, .slice aL L.length cL] 29) = W at *
  have HX1 := (show Hid _ from x1)
  go_loopw [3, 4] (fun j3 j4 wr => ∃ i : Nat, i ≤ S.length ∧ j4 = .int .i64 (i : Int) ∧ j3 = .string (stT S i) ∧ Below W.heap.size W wr) (fun _ j4 _ => S.length - (intOf j4).toNat)
  case atStart => exact ⟨0, Nat.zero_le _, rfl, rfl, Below.refl _ _⟩
  case round =>
    obtain ⟨i, hi, rfl, rfl, hb⟩ := hrel
    have HBr : Hid (Below W.heap.size W wr) := hb
    have HBr2 : Hid (Below w.heap.size w wr) := HBW.out.trans (hb.mono HBW.out.size)
    replace x0 := carry hb hzW x0
    replace x1 := carry hb hzW x1
    have hzi := HZS.out i hi
    clear hb
    by_cases hlt : i < S.length
    · obtain ⟨b, o, rfl, hx⟩ := HSA.out i hlt
      obtain ⟨g0, g1, g2, _, _⟩ := tyAt (hx.mono HBr2.out)
      have HSU := (show Hid _ from stT_succ S i hlt)
      have hcs := HCS.out i hlt
      have his := HIS.out _ (List.getElem_mem hlt)
      clear hx
      obtain ⟨T2, hT2⟩ : ∃ T, stT S (i + 1) = T := ⟨_, rfl⟩
      rw [hT2] at HSU
      have HT2 := (show Hid _ from hT2)
      clear hT2
      generalize S[i] = d at *
      have hds := shD_size d his
      obtain ⟨tk, tc, ta⟩ := d
      simp only at g0 g1 g2 hcs his
      have HTS : Hid (∀ w, Calls Tryd.prog 10 #[.agg #[.int .i64 tk, .string tc, .int .i64 ta]] w fun e w' => e = .returned (.string (shD (tk, tc, ta))) ∧ Below w.heap.size w w') := fun w => specTypeShown tk ta tc w hcs his.1 his.2
      generalize shD (tk, tc, ta) = sh at *
      generalize stT S i = T1 at *
      clear his
      go_wp2_with fail
      refine (HTS.out _).mono ?_
      rintro e w1 ⟨rfl, hb1⟩
      have HB1 : Hid (Below W.heap.size W w1) := HBr.out.trans (hb1.mono HBr.out.size)
      clear hb1
      go_wp2
      go_roundw
      case rel => exact ⟨i + 1, by omega, by go_num, congrArg Value.string (HSU.out.symm.trans HT2.out.symm), HB1.out⟩
      case measure => simp [intOf]; omega
    · obtain rfl : i = S.length := by omega
      have hzL0 := HZL.out 0 (Nat.zero_le _)
      have HL0 : Hid (loT (stT S S.length ++ ⟨#[124]⟩) L 0 = stT S S.length ++ ⟨#[124]⟩) := rfl
      generalize stT S S.length = T0 at *
      have HLS : Hid (∀ m (h : m < L.length), loT (T0 ++ ⟨#[124]⟩) L (m + 1) = loT (T0 ++ ⟨#[124]⟩) L m ++ ⟨#[32]⟩ ++ shD L[m]) := fun m h => loT_succ _ L m h
      obtain ⟨lf, hlf⟩ : ∃ f : Nat → ByteArray, ∀ m, loT (T0 ++ ⟨#[124]⟩) L m = f m := ⟨_, fun _ => rfl⟩
      simp only [hlf] at HLS HZL HT HL0
      clear HSA HCS HIS HZS
      go_wp2_with fail
      go_loopw [3, 5] (fun j3 j5 wr => ∃ i : Nat, i ≤ L.length ∧ j5 = .int .i64 (i : Int) ∧ j3 = .string (lf i) ∧ Below W.heap.size W wr) (fun _ j5 _ => L.length - (intOf j5).toNat)
      case atStart => exact ⟨0, Nat.zero_le _, rfl, by rw [HL0.out], HBr.out⟩
      case round =>
        obtain ⟨i, hi, rfl, rfl, hb⟩ := hrel
        have HBs : Hid (Below W.heap.size W wr) := hb
        have HBs2 : Hid (Below w.heap.size w wr) := HBW.out.trans (hb.mono HBW.out.size)
        have x1' := carry hb hzW HX1.out
        have hzi := HZL.out i hi
        clear hb
        by_cases hlt : i < L.length
        · obtain ⟨b, o, rfl, hx⟩ := HLA.out i hlt
          obtain ⟨g0, g1, g2, _, _⟩ := tyAt (hx.mono HBs2.out)
          have HSU := (show Hid _ from HLS.out i hlt)
          have hcs := HCL.out i hlt
          have his := HIL.out _ (List.getElem_mem hlt)
          clear hx
          obtain ⟨T2, hT2⟩ : ∃ T, lf (i + 1) = T := ⟨_, rfl⟩
          rw [hT2] at HSU
          have HT2 := (show Hid _ from hT2)
          clear hT2
          generalize L[i] = d at *
          have hds := shD_size d his
          obtain ⟨tk, tc, ta⟩ := d
          simp only at g0 g1 g2 hcs his
          have HTS : Hid (∀ w, Calls Tryd.prog 10 #[.agg #[.int .i64 tk, .string tc, .int .i64 ta]] w fun e w' => e = .returned (.string (shD (tk, tc, ta))) ∧ Below w.heap.size w w') := fun w => specTypeShown tk ta tc w hcs his.1 his.2
          generalize shD (tk, tc, ta) = sh at *
          generalize lf i = T1 at *
          clear his
          go_wp2_with fail
          refine (HTS.out _).mono ?_
          rintro e w1 ⟨rfl, hb1⟩
          have HB1 : Hid (Below W.heap.size W w1) := HBs.out.trans (hb1.mono HBs.out.size)
          clear hb1
          go_wp2
          go_roundw
          case rel => exact ⟨i + 1, by omega, by go_num, congrArg Value.string (HSU.out.symm.trans HT2.out.symm), HB1.out⟩
          case measure => simp [intOf]; omega
        · obtain rfl : i = L.length := by omega
          go_wp2
          go_ret
          exact ⟨congrArg (fun b => Ending.returned (Value.string b)) HT.out, HBs2.out⟩
end Go.Proofs.YtcfihaoofiagcaaDoor
