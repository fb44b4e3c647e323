/-
  FrameRight of the program: a row's all, by the lattice's typeKnown.
-/
import Derived.Test.YtdlhgjadobefgaaGreatDoorLaT
import Derived.Test.YtdlhgjadobefgaaGreatDoorFr
import Derived.Deep.RegionHeld3
namespace Go.Proofs.YtdlhgjadobefgaaGreatDoor
open Go.RowKit
set_option maxRecDepth 20000
set_option linter.unusedVariables false

theorem ryOpen {w : World} {v : Value} {xs : List TyD} (h : typeR.slice.In w [v] xs) :
    ∃ a cap, v = .slice a xs.length cap ∧ xs.length ≤ cap ∧ cap ≤ maxLen ∧ ∀ i (h : i < xs.length), ∃ b o, a = some ⟨b, o, none⟩ ∧ typeR.At w ⟨b, o, none⟩ i xs[i] := by
  obtain ⟨a, cap, e, h1, h2, h3⟩ := h
  cases e
  refine ⟨a, cap, rfl, h1, h2, fun i hi => ?_⟩
  obtain ⟨x, rfl, hx⟩ := h3 i hi
  obtain ⟨x0, e0, h0⟩ := h3 0 (by omega)
  cases e0
  obtain ⟨b, o, rfl⟩ := h0.plain (by decide)
  exact ⟨b, o, rfl, hx⟩
theorem ryAt {w : World} {b o i : Nat} {d : TyD} (h : typeR.At w ⟨b, o, none⟩ i d) :
    w.cell? ⟨b, o + i * 3, none⟩ = some (.int .i64 d.1) ∧ w.cell? ⟨b, o + i * 3 + 1, none⟩ = some (.string d.2.1) ∧ w.cell? ⟨b, o + i * 3 + 2, none⟩ = some (.int .i64 d.2.2) ∧ twL d := by
  obtain ⟨cs, hc, hin⟩ := h
  obtain ⟨_, _, rfl, ⟨rfl, q0⟩, ⟨_, _, rfl, ⟨rfl, s1⟩, ⟨rfl, q2⟩⟩⟩ := hin
  have hk : typeR.k = 3 := rfl
  rw [hk] at hc
  have g0 := hc 0 (by omega)
  have g1 := hc 1 (by omega)
  have g2 := hc 2 (by omega)
  simp only [List.cons_append, List.nil_append, List.getElem?_cons_zero, List.getElem?_cons_succ, plain_add, ← Nat.add_assoc, Nat.add_zero] at g0 g1 g2
  exact ⟨g0, g1, g2, ⟨q0, s1, q2⟩⟩
theorem all_take {α : Type} (p : α → Bool) (S : List α) (i : Nat) (h : i < S.length) : (S.take (i + 1)).all p = ((S.take i).all p && p S[i]) := by
  rw [List.take_add_one, List.getElem?_eq_getElem h, List.all_append]
  simp
set_option maxHeartbeats 2000000 in
theorem implAll (L : List CTup) (lv rv : Value) (m : Nat) (S : List TyD) (v : Value) (w0 w : World) (hS : typeR.slice.In w0 [v] S) (hm : w0.heap.size ≤ m) (h0 : Below w0.heap.size w0 w) (hV : LatV L lv rv m w) :
    Calls Tryz.prog 75 #[v, .func (.func 40) #[laV L lv rv m] #[]] w fun e w' => e = .returned (.bool (S.all (tkT L))) ∧ Below m w w' ∧ LatV L lv rv m w' ∧ Only w w' := by
  obtain ⟨aS, cS, rfl, hS1, hS2, hSA⟩ := ryOpen hS
  clear hS
  unfold maxLen at hS2
  have HSA := (show Hid _ from hSA)
  have H0 := (show Hid (w0.heap.size ≤ m ∧ Below w0.heap.size w0 w) from ⟨hm, h0⟩)
  have HV0 := (show Hid _ from hV)
  have HT : Hid (∀ w' t, LatV L lv rv m w' → twL t → Calls Tryz.prog 40 #[laV L lv rv m, tvL t] w' fun e w2 => e = .returned (.bool (tkT L t)) ∧ Below m w' w2 ∧ LatV L lv rv m w2 ∧ Only w' w2) := fun w' t h1 h2 => implTypeKnownV L lv rv m t w' h1 h2
  have HmL : Hid (∀ w', LatV L lv rv m w' → m < w'.heap.size) := fun w' h => by obtain ⟨o, hl⟩ := h.hl; exact hl.lt
  obtain ⟨LV, hLV⟩ : ∃ x, laV L lv rv m = x := ⟨_, rfl⟩
  rw [hLV] at HT ⊢
  clear hSA hm h0 hV hLV
  go_enter Tryz.func75, Tryz.ntmps75
  go_wp2_with fail
  go_loopw [9] (fun j9 wr => ∃ i : Nat, i ≤ S.length ∧ j9 = .int .i64 (i : Int) ∧ (S.take i).all (tkT L) = true ∧ Below m w wr ∧ LatV L lv rv m wr ∧ Only w wr) (fun j9 _ => S.length - (intOf j9).toNat)
  case atStart => exact ⟨0, Nat.zero_le _, rfl, rfl, Below.refl _ _, HV0.out, Only.of_below (Below.refl _ _)⟩
  case round =>
    obtain ⟨i, hi, rfl, hall, hb, hv, hon⟩ := hrel
    have HBr := (show Hid (Below m w wr) from hb)
    have HVr := (show Hid _ from hv)
    have HOr := (show Hid _ from hon)
    have HAr := (show Hid _ from hall)
    have hmr := HmL.out wr hv
    clear hb hv hon hall
    by_cases hlt : i < S.length
    · obtain ⟨b, o, rfl, hx⟩ := HSA.out i hlt
      obtain ⟨g0, g1, g2, htw⟩ := ryAt (hx.mono (H0.out.2.trans (HBr.out.mono H0.out.1)))
      have HN := (show Hid _ from all_take (tkT L) S i hlt)
      have HTw := (show Hid (twL S[i]) from htw)
      have HF : Hid (tkT L S[i] = false → S.all (tkT L) = false) := fun h => by
        rw [List.all_eq_false]
        exact ⟨S[i], List.getElem_mem hlt, by simp [h]⟩
      clear hx htw
      generalize S[i] = d at *
      obtain ⟨tk, tc, ta⟩ := d
      simp only at g0 g1 g2
      have HT1 := (show Hid _ from fun w' (h : LatV L lv rv m w') => HT.out w' (tk, tc, ta) h HTw.out)
      simp only [tvL] at HT1
      cases hq : tkT L (tk, tc, ta)
      · have HF2 : Hid (S.all (tkT L) = false) := HF.out hq
        rw [hq] at HT1
        clear hq HN HF
        go_wp2_with fail
        refine (HT1.out _ (HVr.out.below (below_al wr _))).mono ?_
        rintro e w1 ⟨rfl, hb1, hv1, ho1⟩
        have HX : Hid (Below m w w1 ∧ LatV L lv rv m w1 ∧ Only w w1) := ⟨(HBr.out.alloc (Nat.le_of_lt hmr) _).trans hb1, hv1, (HOr.out.trans (Only.of_below (below_al wr _))).trans ho1⟩
        clear hb1 hv1 ho1
        go_wp2
        go_ret
        exact ⟨congrArg (fun b => Ending.returned (Value.bool b)) HF2.out.symm, HX.out⟩
      · rw [hq] at HT1 HN
        clear hq HF
        go_wp2_with fail
        refine (HT1.out _ (HVr.out.below (below_al wr _))).mono ?_
        rintro e w1 ⟨rfl, hb1, hv1, ho1⟩
        have HX : Hid (Below m w w1 ∧ LatV L lv rv m w1 ∧ Only w w1) := ⟨(HBr.out.alloc (Nat.le_of_lt hmr) _).trans hb1, hv1, (HOr.out.trans (Only.of_below (below_al wr _))).trans ho1⟩
        clear hb1 hv1 ho1
        go_wp2
        go_roundw
        case rel => exact ⟨i + 1, by omega, by go_num, by rw [HN.out, HAr.out]; rfl, HX.out⟩
        case measure => simp [intOf]; omega
    · obtain rfl : i = S.length := by omega
      have HZ : Hid (S.all (tkT L) = true) := by have := HAr.out; rwa [List.take_length] at this
      go_wp2
      go_ret
      exact ⟨congrArg (fun b => Ending.returned (Value.bool b)) HZ.out.symm, HBr.out, HVr.out, HOr.out⟩
/-- Is a frame right, in these classes? -/
def kb (L : List CTup) (t : TyD) : Bool := tkB L t.1 t.2.1 t.2.2
def f7B (L : List CTup) (S Lc : List TyD) : Bool := decide (S.length ≤ 16) && (decide (Lc.length ≤ 16) && (S.all (kb L) && Lc.all (kb L)))
noncomputable def frB (L : List CTup) (S Lc : List TyD) : Bool := rtB L && f7B L S Lc
theorem all_kb {L : List CTup} (h : rtB L = true) (S : List TyD) : S.all (tkT L) = S.all (kb L) := by
  congr 1
  funext t
  unfold tkT tkV kb
  rw [h, Bool.true_and]
set_option maxHeartbeats 4000000 in
theorem implFrameRightL (L : List CTup) (lv rv : Value) (m : Nat) (S Lc : List TyD) (vs vl : Value) (w0 w : World) (hS : typeR.slice.In w0 [vs] S) (hL : typeR.slice.In w0 [vl] Lc) (hm : w0.heap.size ≤ m) (h0 : Below w0.heap.size w0 w) (hV : LatV L lv rv m w) :
    Calls Tryz.prog 49 #[laV L lv rv m, .agg #[vs, vl]] w fun e w' => e = .returned (.bool (frB L S Lc)) ∧ Below m w w' := by
  have HA : Hid (∀ w', Below w0.heap.size w0 w' → LatV L lv rv m w' → Calls Tryz.prog 75 #[vs, .func (.func 40) #[laV L lv rv m] #[]] w' fun e w2 => e = .returned (.bool (S.all (tkT L))) ∧ Below m w' w2 ∧ LatV L lv rv m w2 ∧ Only w' w2) := fun w' h1 h2 => implAll L lv rv m S vs w0 w' hS hm h1 h2
  have HA2 : Hid (∀ w', Below w0.heap.size w0 w' → LatV L lv rv m w' → Calls Tryz.prog 75 #[vl, .func (.func 40) #[laV L lv rv m] #[]] w' fun e w2 => e = .returned (.bool (Lc.all (tkT L))) ∧ Below m w' w2 ∧ LatV L lv rv m w2 ∧ Only w' w2) := fun w' h1 h2 => implAll L lv rv m Lc vl w0 w' hL hm h1 h2
  obtain ⟨aS, cS, rfl, hS1, hS2, _⟩ := ryOpen hS
  obtain ⟨aL, cL, rfl, hL1, hL2, _⟩ := ryOpen hL
  have hmlt : m < w.heap.size := by obtain ⟨o, hl⟩ := hV.hl; exact hl.lt
  have H0 := (show Hid (w0.heap.size ≤ m ∧ Below w0.heap.size w0 w) from ⟨hm, h0⟩)
  have HV0 := (show Hid (∀ w', Below w.heap.size w w' → LatV L lv rv m w') from fun w' hb => hV.below hb)
  obtain ⟨la, lk, lc, rfl⟩ := hV.hlv
  obtain ⟨r, rfl⟩ := hV.hrv
  clear hS hL hm h0 hV
  unfold maxLen at hS2 hL2
  simp only [laV] at HA HA2 ⊢
  have HFr : Hid (frB L S Lc = (rtB L && (decide (S.length ≤ 16) && (decide (Lc.length ≤ 16) && (S.all (kb L) && Lc.all (kb L)))))) := rfl
  cases hr : rtB L
  · have HZ : Hid (frB L S Lc = false) := by show _ = _; rw [HFr.out, hr]; rfl
    clear HA HA2 HV0 hr HFr
    go_enter Tryz.func49, Tryz.ntmps49
    go_wp2
    go_ret
    exact ⟨congrArg (fun b => Ending.returned (Value.bool b)) HZ.out.symm, (below_al2 w _ _).mono (Nat.le_of_lt hmlt)⟩
  rw [hr] at HA HA2
  by_cases b1 : 16 < S.length
  · have d1 : decide ((16 : Int) < S.length) = true := by simp; omega
    have HZ : Hid (frB L S Lc = false) := by show _ = _; rw [HFr.out, hr, decide_eq_false (show ¬ S.length ≤ 16 by omega)]; rfl
    clear HA HA2 HV0 hr HFr
    go_enter Tryz.func49, Tryz.ntmps49
    go_wp2
    go_ret
    exact ⟨congrArg (fun b => Ending.returned (Value.bool b)) HZ.out.symm, (below_al2 w _ _).mono (Nat.le_of_lt hmlt)⟩
  have d1 : decide ((16 : Int) < S.length) = false := by simp; omega
  by_cases b2 : 16 < Lc.length
  · have d2 : decide ((16 : Int) < Lc.length) = true := by simp; omega
    have HZ : Hid (frB L S Lc = false) := by show _ = _; rw [HFr.out, hr, decide_eq_false (show ¬ Lc.length ≤ 16 by omega)]; simp
    clear HA HA2 HV0 hr HFr
    go_enter Tryz.func49, Tryz.ntmps49
    go_wp2
    go_ret
    exact ⟨congrArg (fun b => Ending.returned (Value.bool b)) HZ.out.symm, (below_al2 w _ _).mono (Nat.le_of_lt hmlt)⟩
  have d2 : decide ((16 : Int) < Lc.length) = false := by simp; omega
  have HZ : Hid (frB L S Lc = (S.all (tkT L) && Lc.all (tkT L))) := by
    show _ = _
    rw [HFr.out, hr, decide_eq_true (show S.length ≤ 16 by omega), decide_eq_true (show Lc.length ≤ 16 by omega), all_kb hr, all_kb hr]
    rfl
  clear hr HFr b1 b2
  have q0 : ((w.alloc (.cells #[.slice la lk lc, .map r, .bool true, .map (some m)] 74)).alloc (.cells #[.slice aS S.length cS, .slice aL Lc.length cL] 45)).cell? ⟨w.heap.size, 0, none⟩ = some (.slice la lk lc) := by simp [go_sem]
  have q1 : ((w.alloc (.cells #[.slice la lk lc, .map r, .bool true, .map (some m)] 74)).alloc (.cells #[.slice aS S.length cS, .slice aL Lc.length cL] 45)).cell? ⟨w.heap.size, 1, none⟩ = some (.map r) := by simp [go_sem]
  have q2 : ((w.alloc (.cells #[.slice la lk lc, .map r, .bool true, .map (some m)] 74)).alloc (.cells #[.slice aS S.length cS, .slice aL Lc.length cL] 45)).cell? ⟨w.heap.size, 2, none⟩ = some (.bool true) := by simp [go_sem]
  have q3 : ((w.alloc (.cells #[.slice la lk lc, .map r, .bool true, .map (some m)] 74)).alloc (.cells #[.slice aS S.length cS, .slice aL Lc.length cL] 45)).cell? ⟨w.heap.size, 3, none⟩ = some (.map (some m)) := by simp [go_sem]
  have q4 : ((w.alloc (.cells #[.slice la lk lc, .map r, .bool true, .map (some m)] 74)).alloc (.cells #[.slice aS S.length cS, .slice aL Lc.length cL] 45)).cell? ⟨w.heap.size + 1, 1, none⟩ = some (.slice aL Lc.length cL) := by simp [go_sem]
  have HQ := (show Hid (_ ∧ _ ∧ _ ∧ _ ∧ _) from ⟨q0, q1, q2, q3, q4⟩)
  clear q0 q1 q2 q3 q4
  have HBa : Hid (∀ o1 o2, Below w0.heap.size w0 ((w.alloc o1).alloc o2)) := fun o1 o2 => H0.out.2.trans ((below_al2 w o1 o2).mono H0.out.2.size)
  go_enter Tryz.func49, Tryz.ntmps49
  go_wp2_with fail
  refine (HA.out _ (HBa.out _ _) (HV0.out _ (below_al2 w _ _))).mono ?_
  rintro e w1 ⟨rfl, hb1, hv1, ho1⟩
  have x0 := ho1.cell HQ.out.1
  have x1 := ho1.cell HQ.out.2.1
  have x2 := ho1.cell HQ.out.2.2.1
  have x3 := ho1.cell HQ.out.2.2.2.1
  have x4 := ho1.cell HQ.out.2.2.2.2
  have HB1 : Hid (Below m w w1) := ((below_al2 w _ _).mono (Nat.le_of_lt hmlt)).trans hb1
  have HW1 : Hid (Below w0.heap.size w0 w1) := (HBa.out _ _).trans (hb1.mono H0.out.1)
  have HV1 := (show Hid _ from hv1)
  clear hb1 hv1 ho1
  cases hq : S.all (tkT L)
  · have HZ2 : Hid (frB L S Lc = false) := by show _ = _; rw [HZ.out, hq]; rfl
    clear HZ hq HA HA2
    go_wp2
    go_ret
    exact ⟨congrArg (fun b => Ending.returned (Value.bool b)) HZ2.out.symm, HB1.out⟩
  · have HZ2 : Hid (frB L S Lc = Lc.all (tkT L)) := by show _ = _; rw [HZ.out, hq]; rfl
    clear HZ hq HA
    go_wp2_with fail
    refine (HA2.out _ HW1.out HV1.out).mono ?_
    rintro e w2 ⟨rfl, hb2, hv2, ho2⟩
    have HB2 : Hid (Below m w w2) := HB1.out.trans hb2
    clear hb2 hv2 ho2
    go_wp2
    go_ret
    exact ⟨congrArg (fun b => Ending.returned (Value.bool b)) HZ2.out.symm, HB2.out⟩
set_option maxHeartbeats 4000000 in
theorem specL07Frame (L : List CTup) (v : Value) (S Lc : List TyD) (vs vl : Value) (w : World) (h : classR.slice.In w [v] L) (hs : typeR.slice.In w [vs] S) (hl : typeR.slice.In w [vl] Lc) :
    Calls Tryz.prog 47 #[v, .agg #[vs, vl]] w fun e w' => e = .returned (.bool (f7B L S Lc)) ∧ Below w.heap.size w w' := by
  have HK : Hid (∀ w' (t : TyD), Below w.heap.size w w' → twL t → Calls Tryz.prog 37 #[v, .agg #[.int .i64 t.1, .string t.2.1, .int .i64 t.2.2]] w' fun e w2 => e = .returned (.bool (kb L t)) ∧ Below w'.heap.size w' w2) := fun w' t hb ht => specL06Known L v t.1 t.2.2 t.2.1 w' (classR.slice.mono _ _ _ _ hb h) ht.c
  obtain ⟨va, vcap, rfl, _⟩ := slice_open (by decide) h
  obtain ⟨aS, cS, rfl, hS1, hS2, hSA⟩ := ryOpen hs
  obtain ⟨aL, cL, rfl, hL1, hL2, hLA⟩ := ryOpen hl
  have HSA := (show Hid _ from hSA)
  have HLA := (show Hid _ from hLA)
  have HFr : Hid (f7B L S Lc = (decide (S.length ≤ 16) && (decide (Lc.length ≤ 16) && (S.all (kb L) && Lc.all (kb L))))) := rfl
  clear h hs hl hSA hLA
  unfold maxLen at hS2 hL2
  have HB0 : Hid (∀ o, Below w.heap.size w (w.alloc o)) := fun o => below_al w o
  by_cases b1 : 16 < S.length
  · have d1 : decide ((16 : Int) < S.length) = true := by simp; omega
    have HZ : Hid (f7B L S Lc = false) := by show _ = _; rw [HFr.out, decide_eq_false (show ¬ S.length ≤ 16 by omega)]; rfl
    clear HFr
    go_enter Tryz.func47, Tryz.ntmps47
    go_wp2
    go_ret
    exact ⟨congrArg (fun b => Ending.returned (Value.bool b)) HZ.out.symm, HB0.out _⟩
  have d1 : decide ((16 : Int) < S.length) = false := by simp; omega
  by_cases b2 : 16 < Lc.length
  · have d2 : decide ((16 : Int) < Lc.length) = true := by simp; omega
    have HZ : Hid (f7B L S Lc = false) := by show _ = _; rw [HFr.out, decide_eq_false (show ¬ Lc.length ≤ 16 by omega)]; simp
    clear HFr
    go_enter Tryz.func47, Tryz.ntmps47
    go_wp2
    go_ret
    exact ⟨congrArg (fun b => Ending.returned (Value.bool b)) HZ.out.symm, HB0.out _⟩
  have d2 : decide ((16 : Int) < Lc.length) = false := by simp; omega
  have HZ : Hid (f7B L S Lc = (S.all (kb L) && Lc.all (kb L))) := by
    show _ = _
    rw [HFr.out, decide_eq_true (show S.length ≤ 16 by omega), decide_eq_true (show Lc.length ≤ 16 by omega)]
    rfl
  clear HFr
  go_enter Tryz.func47, Tryz.ntmps47
  go_wp2_with fail
  have x0 : (w.alloc (.cells #[.slice aS S.length cS, .slice aL Lc.length cL] 45)).cell? ⟨w.heap.size, 0, none⟩ = some (.slice aS S.length cS) := by simp [go_sem]
  have x1 : (w.alloc (.cells #[.slice aS S.length cS, .slice aL Lc.length cL] 45)).cell? ⟨w.heap.size, 1, none⟩ = some (.slice aL Lc.length cL) := by simp [go_sem]
  have HBW := (show Hid _ from HB0.out (.cells #[.slice aS S.length cS, .slice aL Lc.length cL] 45))
  have hzW : w.heap.size < (w.alloc (.cells #[.slice aS S.length cS, .slice aL Lc.length cL] 45)).heap.size := by simp
  generalize w.alloc (.cells #[.slice aS S.length cS, .slice aL Lc.length cL] 45) = W at *
  have HX1 := (show Hid _ from x1)
  go_loopw [5] (fun j5 wr => ∃ i : Nat, i ≤ S.length ∧ j5 = .int .i64 (i : Int) ∧ (S.take i).all (kb L) = true ∧ Below W.heap.size W wr) (fun j5 _ => S.length - (intOf j5).toNat)
  case atStart => exact ⟨0, Nat.zero_le _, rfl, rfl, Below.refl _ _⟩
  case round =>
    obtain ⟨i, hi, rfl, hall, hb⟩ := hrel
    have HBr : Hid (Below W.heap.size W wr) := hb
    have HBr2 : Hid (Below w.heap.size w wr) := HBW.out.trans (hb.mono HBW.out.size)
    have HAr := (show Hid _ from hall)
    replace x0 := carry hb hzW x0
    replace x1 := carry hb hzW x1
    clear hb hall
    by_cases hlt : i < S.length
    · obtain ⟨b, o, rfl, hx⟩ := HSA.out i hlt
      obtain ⟨g0, g1, g2, htw⟩ := ryAt (hx.mono HBr2.out)
      have HN := (show Hid _ from all_take (kb L) S i hlt)
      have HF : Hid (kb L S[i] = false → S.all (kb L) = false) := fun h => by
        rw [List.all_eq_false]
        exact ⟨S[i], List.getElem_mem hlt, by simp [h]⟩
      have HK1 := (show Hid _ from HK.out wr S[i] HBr2.out htw)
      clear hx htw
      generalize S[i] = d at *
      obtain ⟨tk, tc, ta⟩ := d
      simp only at g0 g1 g2 HK1
      cases hq : kb L (tk, tc, ta)
      · have HF2 : Hid (f7B L S Lc = false) := by show _ = _; rw [HZ.out, HF.out hq]; rfl
        rw [hq] at HK1
        clear hq HN HF
        go_wp2_with fail
        refine Calls.mono HK1.out ?_
        rintro e w1 ⟨rfl, hb1⟩
        have HB1 : Hid (Below w.heap.size w w1) := HBr2.out.trans (hb1.mono HBr2.out.size)
        clear hb1
        go_wp2
        go_ret
        exact ⟨congrArg (fun b => Ending.returned (Value.bool b)) HF2.out.symm, HB1.out⟩
      · rw [hq] at HK1 HN
        clear hq HF
        go_wp2_with fail
        refine Calls.mono HK1.out ?_
        rintro e w1 ⟨rfl, hb1⟩
        have HB1 : Hid (Below W.heap.size W w1) := HBr.out.trans (hb1.mono HBr.out.size)
        clear hb1
        go_wp2
        go_roundw
        case rel => exact ⟨i + 1, by omega, by go_num, by rw [HN.out, HAr.out]; rfl, HB1.out⟩
        case measure => simp [intOf]; omega
    · obtain rfl : i = S.length := by omega
      have HZ1 : Hid (f7B L S Lc = Lc.all (kb L)) := by
        have := HAr.out
        rw [List.take_length] at this
        show _ = _
        rw [HZ.out, this]
        rfl
      clear HSA HAr HZ
      go_wp2_with fail
      go_loopw [6] (fun j6 wr => ∃ i : Nat, i ≤ Lc.length ∧ j6 = .int .i64 (i : Int) ∧ (Lc.take i).all (kb L) = true ∧ Below W.heap.size W wr) (fun j6 _ => Lc.length - (intOf j6).toNat)
      case atStart => exact ⟨0, Nat.zero_le _, rfl, rfl, HBr.out⟩
      case round =>
        obtain ⟨i, hi, rfl, hall, hb⟩ := hrel
        have HBs : Hid (Below W.heap.size W wr) := hb
        have HBs2 : Hid (Below w.heap.size w wr) := HBW.out.trans (hb.mono HBW.out.size)
        have HAs := (show Hid _ from hall)
        have x1' := carry hb hzW HX1.out
        clear hb hall
        by_cases hlt : i < Lc.length
        · obtain ⟨b, o, rfl, hx⟩ := HLA.out i hlt
          obtain ⟨g0, g1, g2, htw⟩ := ryAt (hx.mono HBs2.out)
          have HN := (show Hid _ from all_take (kb L) Lc i hlt)
          have HF : Hid (kb L Lc[i] = false → Lc.all (kb L) = false) := fun h => by
            rw [List.all_eq_false]
            exact ⟨Lc[i], List.getElem_mem hlt, by simp [h]⟩
          have HK1 := (show Hid _ from HK.out wr Lc[i] HBs2.out htw)
          clear hx htw
          generalize Lc[i] = d at *
          obtain ⟨tk, tc, ta⟩ := d
          simp only at g0 g1 g2 HK1
          cases hq : kb L (tk, tc, ta)
          · have HF2 : Hid (f7B L S Lc = false) := by show _ = _; rw [HZ1.out, HF.out hq]
            rw [hq] at HK1
            clear hq HN HF
            go_wp2_with fail
            refine Calls.mono HK1.out ?_
            rintro e w1 ⟨rfl, hb1⟩
            have HB1 : Hid (Below w.heap.size w w1) := HBs2.out.trans (hb1.mono HBs2.out.size)
            clear hb1
            go_wp2
            go_ret
            exact ⟨congrArg (fun b => Ending.returned (Value.bool b)) HF2.out.symm, HB1.out⟩
          · rw [hq] at HK1 HN
            clear hq HF
            go_wp2_with fail
            refine Calls.mono HK1.out ?_
            rintro e w1 ⟨rfl, hb1⟩
            have HB1 : Hid (Below W.heap.size W w1) := HBs.out.trans (hb1.mono HBs.out.size)
            clear hb1
            go_wp2
            go_roundw
            case rel => exact ⟨i + 1, by omega, by go_num, by rw [HN.out, HAs.out]; rfl, HB1.out⟩
            case measure => simp [intOf]; omega
        · obtain rfl : i = Lc.length := by omega
          have HZ2 : Hid (f7B L S Lc = true) := by
            have := HAs.out
            rw [List.take_length] at this
            show _ = _
            rw [HZ1.out, this]
          go_wp2
          go_ret
          exact ⟨congrArg (fun b => Ending.returned (Value.bool b)) HZ2.out.symm, HBs2.out⟩
set_option maxHeartbeats 1000000 in
theorem specFrameRight (L : List CTup) (v : Value) (S Lc : List TyD) (vs vl : Value) (w : World) (h : classR.slice.In w [v] L) (hs : typeR.slice.In w [vs] S) (hl : typeR.slice.In w [vl] Lc) :
    Calls Tryz.prog 22 #[v, .agg #[vs, vl]] w fun e w' => e = .returned (.bool (frB L S Lc)) ∧ Below w.heap.size w w' := by
  have HRt : Hid (∀ w', Below w.heap.size w w' → Calls Tryz.prog 36 #[v] w' fun e w2 => e = .returned (.bool (rtB L)) ∧ Below w'.heap.size w' w2) := fun w' hb => specRight L v w' (classR.slice.mono _ _ _ _ hb h)
  have HK : Hid (∀ w', Below w.heap.size w w' → Calls Tryz.prog 47 #[v, .agg #[vs, vl]] w' fun e w2 => e = .returned (.bool (f7B L S Lc)) ∧ Below w'.heap.size w' w2) := fun w' hb => specL07Frame L v S Lc vs vl w' (classR.slice.mono _ _ _ _ hb h) (typeR.slice.mono _ _ _ _ hb hs) (typeR.slice.mono _ _ _ _ hb hl)
  obtain ⟨va, vcap, rfl, _⟩ := slice_open (by decide) h
  obtain ⟨aS, cS, rfl⟩ := ty_form hs
  obtain ⟨aL, cL, rfl⟩ := ty_form hl
  clear h hs hl
  unfold frB
  generalize f7B L S Lc = q at *
  generalize rtB L = r at *
  cases r
  · go_enter Tryz.func22, Tryz.ntmps22
    go_wp2_with fail
    refine Calls.mono (HRt.out _ (below_al _ _)) ?_
    rintro e w1 ⟨rfl, hb1⟩
    have HB1 : Hid (Below w.heap.size w w1) := (below_al _ _).trans (hb1.mono (by simp))
    clear hb1
    go_wp2
    go_ret
    exact ⟨rfl, HB1.out⟩
  · cases q
    all_goals
      go_enter Tryz.func22, Tryz.ntmps22
      go_wp2_with fail
      refine Calls.mono (HRt.out _ (below_al _ _)) ?_
      rintro e w1 ⟨rfl, hb1⟩
      have x0 : w1.cell? ⟨w.heap.size, 0, none⟩ = some (.slice aS S.length cS) := carry hb1 (by simp) (by simp [go_sem])
      have x1 : w1.cell? ⟨w.heap.size, 1, none⟩ = some (.slice aL Lc.length cL) := carry hb1 (by simp) (by simp [go_sem])
      have HB1 : Hid (Below w.heap.size w w1) := (below_al _ _).trans (hb1.mono (by simp))
      clear hb1
      go_wp2_with fail
      refine Calls.mono (HK.out _ HB1.out) ?_
      rintro e w2 ⟨rfl, hb2⟩
      have HB2 : Hid (Below w.heap.size w w2) := HB1.out.trans (hb2.mono HB1.out.size)
      clear hb2
      go_wp2
      go_ret
      exact ⟨rfl, HB2.out⟩
set_option maxHeartbeats 2000000 in
theorem implFrameRight (L : List CTup) (v : Value) (S Lc : List TyD) (vs vl : Value) (w : World) (h : classR.slice.In w [v] L) (hs : typeR.slice.In w [vs] S) (hl : typeR.slice.In w [vl] Lc) (htb : Tab w) (hg : Glob w) :
    Calls Tryz.prog 24 #[v, .agg #[vs, vl]] w fun e w' => e = .returned (.bool (frB L S Lc)) ∧ Below w.heap.size w w' := by
  have HM : Hid (∀ w', Below w.heap.size w w' → Calls Tryz.prog 39 #[v] w' fun e w2 => Below w'.heap.size w' w2 ∧ ∃ lv rv m, w'.heap.size ≤ m ∧ e = .returned (.agg #[lv, rv, .bool (rtB L), .map (some m)]) ∧ LatV L lv rv m w2) := fun w' hb => implMakeLattice L v w' (classR.slice.mono _ _ _ _ hb h) (htb.mono hb) (hg.mono hb)
  have HT : Hid (∀ lv rv m w', w.heap.size ≤ m → Below w.heap.size w w' → LatV L lv rv m w' → Calls Tryz.prog 49 #[.agg #[lv, rv, .bool (rtB L), .map (some m)], .agg #[vs, vl]] w' fun e w2 => e = .returned (.bool (frB L S Lc)) ∧ Below m w' w2) := fun lv rv m w' h1 h2 h3 => implFrameRightL L lv rv m S Lc vs vl w w' hs hl h1 h2 h3
  obtain ⟨va, vcap, rfl, _⟩ := slice_open (by decide) h
  obtain ⟨aS, cS, rfl⟩ := ty_form hs
  obtain ⟨aL, cL, rfl⟩ := ty_form hl
  generalize frB L S Lc = res at *
  clear h hs hl htb hg
  go_enter Tryz.func24, Tryz.ntmps24
  go_wp2_with fail
  have x0 : (w.alloc (.cells #[.slice aS S.length cS, .slice aL Lc.length cL] 45)).cell? ⟨w.heap.size, 0, none⟩ = some (.slice aS S.length cS) := by simp [go_sem]
  have x1 : (w.alloc (.cells #[.slice aS S.length cS, .slice aL Lc.length cL] 45)).cell? ⟨w.heap.size, 1, none⟩ = some (.slice aL Lc.length cL) := by simp [go_sem]
  have HW : Hid (Below w.heap.size w (w.alloc (.cells #[.slice aS S.length cS, .slice aL Lc.length cL] 45))) := below_al _ _
  have hz : w.heap.size < (w.alloc (.cells #[.slice aS S.length cS, .slice aL Lc.length cL] 45)).heap.size := by simp
  generalize w.alloc (.cells #[.slice aS S.length cS, .slice aL Lc.length cL] 45) = W at *
  go_region_with (first
    | (go_at_call 39; refine (HM.out _ (by first | exact HW.out | exact HW.out.drew | exact below_drewN HW.out _)).mono ?_; rintro e w1 ⟨hb1, lv, rv, m, hmw, rfl, hv1⟩; have y0 : w1.cell? ⟨w.heap.size, 0, none⟩ = some (.slice aS S.length cS) := carry hb1 hz x0; have y1 : w1.cell? ⟨w.heap.size, 1, none⟩ = some (.slice aL Lc.length cL) := carry hb1 hz x1; have HB1 : Hid (Below w.heap.size w w1) := HW.out.trans (((Below.refl _ _).drew.trans hb1).mono HW.out.size); have HMw : Hid (w.heap.size ≤ m) := Nat.le_trans HW.out.size hmw; have HV1 := (show Hid _ from hv1); clear hb1 hv1 hmw)
    | (go_at_call 49; refine (HT.out _ _ _ _ HMw.out HB1.out HV1.out).mono ?_; rintro e w2 ⟨rfl, hb2⟩; have HB2 : Hid (Below w.heap.size w w2) := HB1.out.trans (hb2.mono HMw.out); clear hb2))
  all_goals
    go_wp2
    go_ret
    exact ⟨rfl, HB2.out⟩
end Go.Proofs.YtdlhgjadobefgaaGreatDoor
