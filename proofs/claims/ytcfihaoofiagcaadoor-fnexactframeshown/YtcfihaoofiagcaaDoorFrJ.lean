/- FrameShown of the program -/
import Derived.Test.YtcfihaoofiagcaaDoorFrI
import Derived.Deep.RegionHeld3
import Derived.Lib.SmallJoins
namespace Go.Proofs.YtcfihaoofiagcaaDoor
open Go.RowKit
set_option linter.unusedVariables false
theorem ic_cons2 (sep a b : List UInt8) (t : List (List UInt8)) : sep.intercalate (a :: b :: t) = a ++ sep ++ sep.intercalate (b :: t) := by
  simp [List.intercalate, List.intersperse]
theorem ic_left (sep b : List UInt8) (cs ls : List (List UInt8)) : sep.intercalate (ls ++ b :: cs) = (ls.map fun x => x ++ sep).flatten ++ sep.intercalate (b :: cs) := by
  induction ls with
  | nil => rfl
  | cons a ls ih =>
    obtain ⟨y, t, e⟩ : ∃ y t, ls ++ b :: cs = y :: t := by
      cases ls with
      | nil => exact ⟨b, cs, rfl⟩
      | cons x xs => exact ⟨x, xs ++ b :: cs, rfl⟩
    rw [List.cons_append, e, ic_cons2, ← e, ih]
    simp [List.append_assoc]
theorem ic_right (sep : List UInt8) (cs : List (List UInt8)) : ∀ b, sep.intercalate (b :: cs) = b ++ (cs.map fun x => sep ++ x).flatten := by
  induction cs with
  | nil => intro b; simp [List.intercalate, List.intersperse]
  | cons c cs ih =>
    intro b
    rw [ic_cons2, ih c]
    simp [List.append_assoc]
theorem stT_list (S : List TypeD) (m : Nat) (h : m ≤ S.length) : (stT S m).data.toList = ((S.take m).map fun d => (shD d).data.toList ++ [32]).flatten := by
  induction m with
  | zero => rfl
  | succ m ih =>
    rw [stT_succ S m h, List.take_add_one, List.getElem?_eq_getElem h]
    simp only [Option.toList_some, List.map_append, List.map_cons, List.map_nil, List.flatten_append, ByteArray.data_append, Array.toList_append, ih (by omega)]
    simp
theorem loT_list (t0 : ByteArray) (S : List TypeD) (m : Nat) (h : m ≤ S.length) : (loT t0 S m).data.toList = t0.data.toList ++ ((S.take m).map fun d => [32] ++ (shD d).data.toList).flatten := by
  induction m with
  | zero => simp [loT]
  | succ m ih =>
    rw [loT_succ t0 S m h, List.take_add_one, List.getElem?_eq_getElem h]
    simp only [Option.toList_some, List.map_append, List.map_cons, List.map_nil, List.flatten_append, ByteArray.data_append, Array.toList_append, ih (by omega)]
    simp
theorem fr_join (S L : List TypeD) : (⟨(Lib.join ((S.map shD ++ ([⟨#[124]⟩] : List ByteArray) ++ L.map shD).map fun x : ByteArray => x.data.toList) (⟨#[32]⟩ : ByteArray).data.toList).toArray⟩ : ByteArray) = loT (stT S S.length ++ ⟨#[124]⟩) L L.length := by
  apply WideShapes.bytes_inj
  rw [loT_list _ _ _ (Nat.le_refl _), List.take_length]
  have e : (S.map shD ++ ([⟨#[124]⟩] : List ByteArray) ++ L.map shD).map (fun x : ByteArray => x.data.toList) = (S.map fun d => (shD d).data.toList) ++ [124] :: (L.map fun d => (shD d).data.toList) := by simp; rfl
  show ([32] : List UInt8).intercalate _ = _
  rw [e, ic_left, ic_right]
  simp [stT_list S S.length (Nat.le_refl _)]
  rfl
theorem RowS.nil (w : World) : RowS w (.slice none 0 0) [] := ⟨none, 0, rfl, by simp, by simp [maxLen], fun _ => rfl, fun j x hx => by simp at hx⟩
def barS : ByteArray := ⟨#[124]⟩
theorem RowS.one (w : World) (y : ByteArray) : RowS (w.alloc (.cells #[.string y] 9)) (.slice (some ⟨w.heap.size, 0, none⟩) 1 1) [y] := by
  refine ⟨_, 1, rfl, by simp, by simp [maxLen], (by intro h; cases h), fun j x hx => ⟨_, rfl, ?_⟩⟩
  match j with
  | 0 =>
    simp at hx
    subst hx
    simp [go_sem]
  | j + 1 => simp at hx
theorem libJoinRow (v : Value) (xs : List ByteArray) (sep : ByteArray) (w : World) (h : RowS w v xs) (hne : xs ≠ []) (hN : xs.length ≤ 140737488355328) (hl : (Lib.join (xs.map fun x : ByteArray => x.data.toList) sep.data.toList).length ≤ 140737488355328) :
    Calls Tryd.prog 14 #[v, .string sep] w fun e w' => e = .returned (.string ⟨(Lib.join (xs.map fun x : ByteArray => x.data.toList) sep.data.toList).toArray⟩) ∧ Below w.heap.size w w' := by
  obtain ⟨ao, cap, rfl, h1, h2, h3, h4⟩ := h
  have hpos : 0 < xs.length := List.length_pos_iff.2 hne
  obtain ⟨g, rfl, hc⟩ := h4 0 xs[0] (List.getElem?_eq_getElem hpos)
  refine Tryd.strings_Join g 0 cap xs sep w (fun j x hx => ?_) (World.block_lt_of_cell? _ _ hc) hN h1 hl
  obtain ⟨g', e, hc'⟩ := h4 j x hx
  cases e
  rw [Nat.zero_add]
  exact hc'
set_option maxHeartbeats 4000000 in
theorem implFrameShown (S L : List TypeD) (vs vl : Value) (w : World) (hs : typeR.slice.In w [vs] S) (hl : typeR.slice.In w [vl] L) (hz : tyB S + tyB L ≤ 1048576) (ht : ∀ w', Below w.heap.size w w' → Lib.TabIs Tryd.prog w' "internal/strconv.uint64pow10" .u64 Lib.pow10Tab) :
    Calls Tryd.prog 7 #[.agg #[vs, vl]] w fun e w' => e = .returned (.string (frT S L)) ∧ Below w.heap.size w w' := by
  have HS1 : Hid (S.length ≤ 400 → ∀ w', Below w.heap.size w w' → Calls Tryd.prog 13 #[vs] w' fun e w2 => ∃ u, e = .returned u ∧ RowS w2 u (S.map shD) ∧ Below w'.heap.size w' w2) := fun hn w' hb => implShownTypes S vs w' (typeR.slice.mono _ _ _ _ hb hs) (by omega) hn (fun w2 hb2 => ht w2 (hb.trans (hb2.mono hb.size)))
  have HL1 : Hid (L.length ≤ 400 → ∀ w', Below w.heap.size w w' → Calls Tryd.prog 13 #[vl] w' fun e w2 => ∃ u, e = .returned u ∧ RowS w2 u (L.map shD) ∧ Below w'.heap.size w' w2) := fun hn w' hb => implShownTypes L vl w' (typeR.slice.mono _ _ _ _ hb hl) (by omega) hn (fun w2 hb2 => ht w2 (hb.trans (hb2.mono hb.size)))
  obtain ⟨aS, cS, rfl, hS1, hS2, hSA⟩ := tyOpen hs
  obtain ⟨aL, cL, rfl, hL1, hL2, hLA⟩ := tyOpen hl
  have hiS : ∀ d ∈ S, -9223372036854775808 ≤ d.2.2 ∧ d.2.2 ≤ 9223372036854775807 := fun d hd => by
    obtain ⟨i, hi, rfl⟩ := List.mem_iff_getElem.1 hd
    obtain ⟨b, o, _, hx⟩ := hSA i hi
    exact (tyAt hx).2.2.2.2
  have hiL : ∀ d ∈ L, -9223372036854775808 ≤ d.2.2 ∧ d.2.2 ≤ 9223372036854775807 := fun d hd => by
    obtain ⟨i, hi, rfl⟩ := List.mem_iff_getElem.1 hd
    obtain ⟨b, o, _, hx⟩ := hLA i hi
    exact (tyAt hx).2.2.2.2
  clear hs hl hSA hLA ht
  unfold maxLen at hS2 hL2
  have HB0 : Hid (∀ o, Below w.heap.size w (w.alloc o)) := fun o => below_al w o
  by_cases b1 : 400 < S.length
  · have d1 : decide ((400 : Int) < S.length) = true := by simp; omega
    have HT : Hid (⟨#[]⟩ = frT S L) := by show _ = _; unfold frT; rw [if_pos (.inl b1)]
    clear hz HS1 HL1 hiS hiL
    go_enter Tryd.func7, Tryd.ntmps7
    go_wp2
    go_ret
    exact ⟨congrArg (fun b => Ending.returned (Value.string b)) HT.out, HB0.out _⟩
  have d1 : decide ((400 : Int) < S.length) = false := by simp; omega
  by_cases b2 : 400 < L.length
  · have d2 : decide ((400 : Int) < L.length) = true := by simp; omega
    have HT : Hid (⟨#[]⟩ = frT S L) := by show _ = _; unfold frT; rw [if_pos (.inr b2)]
    clear hz HS1 HL1 hiS hiL
    go_enter Tryd.func7, Tryd.ntmps7
    go_wp2
    go_ret
    exact ⟨congrArg (fun b => Ending.returned (Value.string b)) HT.out, HB0.out _⟩
  have d2 : decide ((400 : Int) < L.length) = false := by simp; omega
  have HS := (show Hid _ from HS1.out (by omega))
  have HL := (show Hid _ from HL1.out (by omega))
  have HW : Hid (∀ va vb xs ys w', RowS w' va xs → RowS w' vb ys → xs.length + ys.length ≤ 100000 → Calls Tryd.prog 12 #[va, vb] w' fun e w2 => ∃ v, e = .returned v ∧ RowS w2 v (xs ++ ys) ∧ Below w'.heap.size w' w2) := fun va vb xs ys w' h1 h2 h3 => implWith va vb xs ys w' h1 h2 h3
  have HT : Hid (loT (stT S S.length ++ ⟨#[124]⟩) L L.length = frT S L) := by show _ = _; unfold frT; rw [if_neg (by omega)]
  have hsz : (loT (stT S S.length ++ ⟨#[124]⟩) L L.length).size ≤ 2200000 := by
    have h0 := stT_size S hiS S.length (Nat.le_refl _)
    have h1 := tySum_le S S.length (Nat.le_refl _)
    have h2 := loT_size (stT S S.length ++ ⟨#[124]⟩) L hiL L.length (Nat.le_refl _)
    rw [ByteArray.size_append, one124] at h2
    unfold tyB at hz
    omega
  have HJn : Hid (∀ w' v, RowS w' v (S.map shD ++ [⟨#[124]⟩] ++ L.map shD) → Calls Tryd.prog 14 #[v, .string ⟨#[32]⟩] w' fun e w2 => e = .returned (.string (frT S L)) ∧ Below w'.heap.size w' w2) := fun w' v h => by
    have hl : (Lib.join ((S.map shD ++ ([⟨#[124]⟩] : List ByteArray) ++ L.map shD).map fun x : ByteArray => x.data.toList) (⟨#[32]⟩ : ByteArray).data.toList).length ≤ 140737488355328 := by
      have e := congrArg ByteArray.size (fr_join S L)
      have e2 : (⟨(Lib.join ((S.map shD ++ ([⟨#[124]⟩] : List ByteArray) ++ L.map shD).map fun x : ByteArray => x.data.toList) (⟨#[32]⟩ : ByteArray).data.toList).toArray⟩ : ByteArray).size = (Lib.join ((S.map shD ++ ([⟨#[124]⟩] : List ByteArray) ++ L.map shD).map fun x : ByteArray => x.data.toList) (⟨#[32]⟩ : ByteArray).data.toList).length := by simp [ByteArray.size]
      omega
    refine (libJoinRow v _ ⟨#[32]⟩ w' h (by simp) (by simp; omega) hl).mono ?_
    rintro e w2 ⟨rfl, hb⟩
    exact ⟨by rw [fr_join, HT.out], hb⟩
  have hnS : S.length ≤ 400 := by omega
  have hnL : L.length ≤ 400 := by omega
  clear b1 b2 HS1 HL1 hz hiS hiL hsz HT
  go_enter Tryd.func7, Tryd.ntmps7
  go_wp2_with fail
  have x0 : (w.alloc (.cells #[.slice aS S.length cS, .slice aL L.length cL] 29)).cell? ⟨w.heap.size, 0, none⟩ = some (.slice aS S.length cS) := by simp [go_sem]
  have x1 : (w.alloc (.cells #[.slice aS S.length cS, .slice aL L.length cL] 29)).cell? ⟨w.heap.size, 1, none⟩ = some (.slice aL L.length cL) := by simp [go_sem]
  have HBW := (show Hid _ from HB0.out (.cells #[.slice aS S.length cS, .slice aL L.length cL] 29))
  have hzW : w.heap.size < (w.alloc (.cells #[.slice aS S.length cS, .slice aL L.length cL] 29)).heap.size := by simp
  generalize w.alloc (.cells #[.slice aS S.length cS, .slice aL L.length cL] 29) = W at *
  have hzW2 : w.heap.size ≤ W.heap.size := Nat.le_of_lt hzW
  have xa0 : ∀ o, (W.alloc o).cell? ⟨w.heap.size, 0, none⟩ = some (.slice aS S.length cS) := fun o => carry (below_al W o) hzW x0
  have xa1 : ∀ o, (W.alloc o).cell? ⟨w.heap.size, 1, none⟩ = some (.slice aL L.length cL) := fun o => carry (below_al W o) hzW x1
  have hlS : (S.map shD).length ≤ 400 := by rw [List.length_map]; exact hnS
  have hlL : (L.map shD).length ≤ 400 := by rw [List.length_map]; exact hnL
  have HSt : Hid (∀ w', Below W.heap.size W w' → Calls Tryd.prog 13 #[.slice aS S.length cS] w' fun e w2 => ∃ u, e = .returned u ∧ RowS w2 u (S.map shD) ∧ Below w'.heap.size w' w2) := fun w' hb => HS.out w' (HBW.out.trans (hb.mono hzW2))
  have HLt : Hid (∀ w', Below W.heap.size W w' → Calls Tryd.prog 13 #[.slice aL L.length cL] w' fun e w2 => ∃ u, e = .returned u ∧ RowS w2 u (L.map shD) ∧ Below w'.heap.size w' w2) := fun w' hb => HL.out w' (HBW.out.trans (hb.mono hzW2))
  have HSX : Hid (∀ w', Below W.heap.size W w' → w'.cell? ⟨w.heap.size, 0, none⟩ = some (.slice aS S.length cS) ∧ w'.cell? ⟨w.heap.size, 1, none⟩ = some (.slice aL L.length cL) ∧ Below W.heap.size W w') := fun w' hb => ⟨carry hb hzW x0, carry hb hzW x1, hb⟩
  clear xa0 xa1 HS HL
  go_region_held3 (fun w' => w'.cell? ⟨w.heap.size, 0, none⟩ = some (.slice aS S.length cS) ∧ w'.cell? ⟨w.heap.size, 1, none⟩ = some (.slice aL L.length cL) ∧ Below W.heap.size W w')
    (first | exact HSX.out _ (Below.refl _ _) | exact HSX.out _ (Below.refl _ _).drew | exact HSX.out _ ((Below.refl _ _).drew.alloc (Nat.le_refl _) _) | (go_split_ands; first | exact HSX.out _ hB5x | exact HSX.out _ hB4x | exact HSX.out _ hB3x | exact HSX.out _ hB2x | exact HSX.out _ hB1x | exact HSX.out _ (hB2x.alloc hB2x.size _) | exact HSX.out _ (hB1x.alloc hB1x.size _)))
    (first
    | (go_at_call_of 13 aS; refine (HSt.out _ (by first | exact (Below.refl _ _).drew | exact (Below.refl _ _).drew.alloc (Nat.le_refl _) _)).mono ?_; rintro e w1 ⟨u1, rfl, hr1, hb1⟩; have hB1x : Below W.heap.size W w1 := by first | exact (Below.refl _ _).drew.trans hb1 | exact ((Below.refl _ _).drew.alloc (Nat.le_refl _) _).trans (hb1.mono (by simp)))
    | (go_at_call_of 12 (Value.slice none 0 0); refine (HW.out _ _ [] (S.map shD) _ (RowS.nil _) (by first | exact hr1 | exact hr1.mono (below_al _ _)) (by simp only [List.length_nil]; omega)).mono ?_; rintro e w2 ⟨u2, rfl, hr2, hb2⟩; have hB2x : Below W.heap.size W w2 := by first | exact hB1x.trans (hb2.mono hB1x.size) | exact (hB1x.alloc hB1x.size _).trans (hb2.mono (by have := hB1x.size; simp; omega)))
    | (go_at_call_of 12 u2; refine (HW.out _ _ (S.map shD) [⟨#[124]⟩] _ (by first | exact hr2 | exact hr2.mono (below_al _ _)) (by first | exact RowS.one w2 _ | exact (RowS.one w1 _).mono hb2 | exact ((RowS.one W.drew _).mono hb1).mono hb2) (by simp only [List.length_singleton]; omega)).mono ?_; rintro e w3 ⟨u3, rfl, hr3, hb3⟩; have hB3x : Below W.heap.size W w3 := by first | exact hB2x.trans (hb3.mono hB2x.size) | exact (hB2x.alloc hB2x.size _).trans (hb3.mono (by have := hB2x.size; simp; omega)))
    | (go_at_call_of 13 aL; refine (HLt.out _ hB3x).mono ?_; rintro e w4 ⟨u4, rfl, hr4, hb4⟩; have hB4x : Below W.heap.size W w4 := hB3x.trans (hb4.mono hB3x.size))
    | (go_at_call_of 12 u3; refine (HW.out _ _ _ _ _ (hr3.mono hb4) hr4 (by rw [List.length_append, List.length_singleton]; omega)).mono ?_; rintro e w5 ⟨u5, rfl, hr5, hb5⟩; have hB5x : Below W.heap.size W w5 := hB4x.trans (hb5.mono hB4x.size)))
  all_goals
    have HB5 : Hid (Below w.heap.size w w5) := HBW.out.trans (hB5x.mono hzW2)
    have HR5 : Hid (RowS w5 u5 (S.map shD ++ [⟨#[124]⟩] ++ L.map shD)) := hr5
    clear hr1 hr2 hr3 hr4 hr5 hb1 hb2 hb3 hb4 hb5 hB1x hB2x hB3x hB4x hB5x HSX HSt HLt HW
    go_wp2_with fail
    refine (HJn.out _ _ HR5.out).mono ?_
    rintro e w6 ⟨rfl, hb6⟩
    have HB6 : Hid (Below w.heap.size w w6) := HB5.out.trans (hb6.mono HB5.out.size)
    clear hb6
    go_wp2
    go_ret
    exact ⟨rfl, HB6.out⟩
end Go.Proofs.YtcfihaoofiagcaaDoor
