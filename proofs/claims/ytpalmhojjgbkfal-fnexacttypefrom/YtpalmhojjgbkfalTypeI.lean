/-
  The contracts of l02Type of the model at whatever place, and of typeEnd of the program: each tells what tyE tells, at every text and place.
-/
import Derived.Test.YtpalmhojjgbkfalType
namespace Go.Proofs.Ytpalmhojjgbkfal
open Go.RowKit
set_option linter.unusedVariables false

set_option maxHeartbeats 1000000 in
theorem specTypeE (s : ByteArray) (i : Nat) (w : World) (hs : s.size ≤ maxLen) (hi : i ≤ s.size) :
    Calls Try.prog 22 #[.string s, .int .i64 (i : Int), .bool false] w fun e w' => e = .returned (tyV (tyE s i)) ∧ w' = w := by
  by_cases h1 : byt s i = 91
  · have hlt : i < s.size := byt_in s i (by rw [h1]; decide)
    have hm := hs
    unfold maxLen at hs
    have d0 : decide ((s.size : Int) ≤ (i : Int)) = false := by simp; omega
    have hb := byt_eq s i hlt
    have d1 : ((s[i].toNat : Int) == 73) = false := by rw [hb, h1]; rfl
    have d2 : ((s[i].toNat : Int) == 91) = true := by rw [hb, h1]; rfl
    have HT : Hid (tyE s i = tyO s (i + 1)) := by show _ = _; unfold tyE; rw [if_pos h1]
    clear hb h1
    go_enter Try.func22, Try.ntmps22
    go_wp2_with fail
    refine (specTypeO s (i + 1) true _ hm (by omega) (fun _ => rfl)).mono ?_
    rintro e w1 ⟨rfl, rfl⟩
    unfold tyV
    go_wp2
    go_ret2
    exact ⟨congrArg Ending.returned (by rw [HT.out]; rfl), rfl⟩
  · have e : tyE s i = tyO s i := by unfold tyE; rw [if_neg h1]
    rw [e]
    exact specTypeO s i false w hs hi (fun h => absurd h h1)
/-- The frame: 57 slots, none deferred; slots 0, 1, 6 are told. -/
def teFr (s : ByteArray) (i f : Nat) (a : Act) : Prop :=
  a.defers = [] ∧ a.tmps.size = 57 ∧ a.tmps.getD 0 undef = .string s ∧ a.tmps.getD 1 undef = .int .i64 (i : Int) ∧ a.tmps.getD 6 undef = .int .i64 (f : Int)

theorem teFr_open {s : ByteArray} {i f : Nat} {a : Act} (h : teFr s i f a) : ∃ u2 u3 u4 u5 u7 u8 u9 u10 u11 u12 u13 u14 u15 u16 u17 u18 u19 u20 u21 u22 u23 u24 u25 u26 u27 u28 u29 u30 u31 u32 u33 u34 u35 u36 u37 u38 u39 u40 u41 u42 u43 u44 u45 u46 u47 u48 u49 u50 u51 u52 u53 u54 u55 u56 : Value, a = { tmps := #[(.string s), (.int .i64 (i : Int)), u2, u3, u4, u5, (.int .i64 (f : Int)), u7, u8, u9, u10, u11, u12, u13, u14, u15, u16, u17, u18, u19, u20, u21, u22, u23, u24, u25, u26, u27, u28, u29, u30, u31, u32, u33, u34, u35, u36, u37, u38, u39, u40, u41, u42, u43, u44, u45, u46, u47, u48, u49, u50, u51, u52, u53, u54, u55, u56], defers := [] } := by
  obtain ⟨⟨us⟩, ds⟩ := a
  obtain ⟨h1, h2, g0, g1, g6⟩ := h
  have k0 : us.length = 57 := h2
  clear h2
  cases h1
  obtain ⟨x0, us0, rfl, k1⟩ := peel k0
  obtain ⟨x1, us1, rfl, k2⟩ := peel k1
  obtain ⟨u2, us2, rfl, k3⟩ := peel k2
  obtain ⟨u3, us3, rfl, k4⟩ := peel k3
  obtain ⟨u4, us4, rfl, k5⟩ := peel k4
  obtain ⟨u5, us5, rfl, k6⟩ := peel k5
  obtain ⟨x6, us6, rfl, k7⟩ := peel k6
  obtain ⟨u7, us7, rfl, k8⟩ := peel k7
  obtain ⟨u8, us8, rfl, k9⟩ := peel k8
  obtain ⟨u9, us9, rfl, k10⟩ := peel k9
  obtain ⟨u10, us10, rfl, k11⟩ := peel k10
  obtain ⟨u11, us11, rfl, k12⟩ := peel k11
  obtain ⟨u12, us12, rfl, k13⟩ := peel k12
  obtain ⟨u13, us13, rfl, k14⟩ := peel k13
  obtain ⟨u14, us14, rfl, k15⟩ := peel k14
  obtain ⟨u15, us15, rfl, k16⟩ := peel k15
  obtain ⟨u16, us16, rfl, k17⟩ := peel k16
  obtain ⟨u17, us17, rfl, k18⟩ := peel k17
  obtain ⟨u18, us18, rfl, k19⟩ := peel k18
  obtain ⟨u19, us19, rfl, k20⟩ := peel k19
  obtain ⟨u20, us20, rfl, k21⟩ := peel k20
  obtain ⟨u21, us21, rfl, k22⟩ := peel k21
  obtain ⟨u22, us22, rfl, k23⟩ := peel k22
  obtain ⟨u23, us23, rfl, k24⟩ := peel k23
  obtain ⟨u24, us24, rfl, k25⟩ := peel k24
  obtain ⟨u25, us25, rfl, k26⟩ := peel k25
  obtain ⟨u26, us26, rfl, k27⟩ := peel k26
  obtain ⟨u27, us27, rfl, k28⟩ := peel k27
  obtain ⟨u28, us28, rfl, k29⟩ := peel k28
  obtain ⟨u29, us29, rfl, k30⟩ := peel k29
  obtain ⟨u30, us30, rfl, k31⟩ := peel k30
  obtain ⟨u31, us31, rfl, k32⟩ := peel k31
  obtain ⟨u32, us32, rfl, k33⟩ := peel k32
  obtain ⟨u33, us33, rfl, k34⟩ := peel k33
  obtain ⟨u34, us34, rfl, k35⟩ := peel k34
  obtain ⟨u35, us35, rfl, k36⟩ := peel k35
  obtain ⟨u36, us36, rfl, k37⟩ := peel k36
  obtain ⟨u37, us37, rfl, k38⟩ := peel k37
  obtain ⟨u38, us38, rfl, k39⟩ := peel k38
  obtain ⟨u39, us39, rfl, k40⟩ := peel k39
  obtain ⟨u40, us40, rfl, k41⟩ := peel k40
  obtain ⟨u41, us41, rfl, k42⟩ := peel k41
  obtain ⟨u42, us42, rfl, k43⟩ := peel k42
  obtain ⟨u43, us43, rfl, k44⟩ := peel k43
  obtain ⟨u44, us44, rfl, k45⟩ := peel k44
  obtain ⟨u45, us45, rfl, k46⟩ := peel k45
  obtain ⟨u46, us46, rfl, k47⟩ := peel k46
  obtain ⟨u47, us47, rfl, k48⟩ := peel k47
  obtain ⟨u48, us48, rfl, k49⟩ := peel k48
  obtain ⟨u49, us49, rfl, k50⟩ := peel k49
  obtain ⟨u50, us50, rfl, k51⟩ := peel k50
  obtain ⟨u51, us51, rfl, k52⟩ := peel k51
  obtain ⟨u52, us52, rfl, k53⟩ := peel k52
  obtain ⟨u53, us53, rfl, k54⟩ := peel k53
  obtain ⟨u54, us54, rfl, k55⟩ := peel k54
  obtain ⟨u55, us55, rfl, k56⟩ := peel k55
  obtain ⟨u56, us56, rfl, k57⟩ := peel k56
  obtain rfl := List.length_eq_zero_iff.1 k57
  obtain rfl : x0 = .string s := g0
  obtain rfl : x1 = .int .i64 (i : Int) := g1
  obtain rfl : x6 = .int .i64 (f : Int) := g6
  exact ⟨u2, u3, u4, u5, u7, u8, u9, u10, u11, u12, u13, u14, u15, u16, u17, u18, u19, u20, u21, u22, u23, u24, u25, u26, u27, u28, u29, u30, u31, u32, u33, u34, u35, u36, u37, u38, u39, u40, u41, u42, u43, u44, u45, u46, u47, u48, u49, u50, u51, u52, u53, u54, u55, u56, rfl⟩

/-- What holds at each label of typeEnd, r being what is to be told. -/
def teJ (s : ByteArray) (r : Bool × Nat) (l : Nat) (a : Act) : Prop :=
  (l = 0 ∧ ∃ i f, teFr s i f a ∧ i < s.size ∧ r = (true, i + 1)) ∨
  (l = 1 ∧ ∃ i, teFr s i i a ∧ i ≤ s.size ∧ r = tyL s i) ∨
  (l = 2 ∧ ∃ i f, teFr s i f a ∧ i ≤ s.size ∧ r = (false, i)) ∨
  (l = 3 ∧ ∃ i f, teFr s i f a ∧ f < i ∧ i ≤ f + 20 ∧ i ≤ s.size ∧ r = tyR s f (f + 20 - i) i)

def teM (l : Nat) (a : Act) : Nat :=
  if l = 1 then 100 else if l = 3 then 1 + ((intOf (a.tmps.getD 6 undef)).toNat + 20 - (intOf (a.tmps.getD 1 undef)).toNat) else 0

/-- What typeEnd hands back. -/
def teV (r : Bool × Nat) : Value := .tuple #[.int .i64 (if r.1 = true then (r.2 : Int) else 0), if r.1 = true then .nilIface else .iface 37 (.agg #[.int .i64 (r.2 : Int)])]

theorem tyR_semi (s : ByteArray) (f k i : Nat) (h : byt s i = 59) : tyR s f k i = (true, i + 1) := by
  have hn : nbI (byt s i) (decide (i = f)) = false := by rw [h]; cases decide (i = f) <;> decide
  unfold tyR; rw [nmRun_off s f k i hn, if_pos h]
theorem nb_behind (s : ByteArray) (f i : Nat) (h : f < i) : nbI (byt s i) (decide (i = f)) = (ltrI (byt s i) || digI (byt s i)) := by
  unfold nbI; simp [show ¬ i = f by omega]
theorem tyR_on (s : ByteArray) (f k i : Nat) (hf : f < i) (h : (ltrI (byt s i) || digI (byt s i)) = true) : tyR s f (k + 1) i = tyR s f k (i + 1) := by
  unfold tyR; rw [nmRun_on s f k i (by rw [nb_behind s f i hf]; exact h)]
theorem tyR_off (s : ByteArray) (f k i : Nat) (hf : f < i) (h : (ltrI (byt s i) || digI (byt s i)) = false) (h2 : byt s i ≠ 59) : tyR s f k i = (false, i) := by
  unfold tyR; rw [nmRun_off s f k i (by rw [nb_behind s f i hf]; exact h), if_neg h2]
theorem tyR_none (s : ByteArray) (f i : Nat) (h2 : byt s i ≠ 59) : tyR s f 0 i = (false, i) := by
  unfold tyR nmRun; rw [if_neg h2]
theorem tyL_no (s : ByteArray) (f : Nat) (h : ltrI (byt s f) = false) : tyL s f = (false, f) := by
  unfold tyL nbI; simp [h]
theorem tyL_on (s : ByteArray) (f : Nat) (h : ltrI (byt s f) = true) : tyL s f = tyR s f 19 (f + 1) := by
  unfold tyL nbI; simp [h]
theorem dig_ltr (n : Int) (h : digI n = true) : ltrI n = false := by
  unfold digI at h; unfold ltrI; simp at h ⊢; omega
theorem teM_01 (a b : Act) : teM 0 a < teM 1 b := by simp [teM]
theorem teM_21 (a b : Act) : teM 2 a < teM 1 b := by simp [teM]
theorem teM_03 (a b : Act) : teM 0 a < teM 3 b := by simp [teM]; omega
theorem teV_ok (k : Nat) : teV (true, k + 1) = .tuple #[.int .i64 ((k : Int) + 1), .nilIface] := rfl
theorem teV_yes (k : Nat) : teV (true, k) = .tuple #[.int .i64 (k : Int), .nilIface] := rfl
theorem teV_no (k : Nat) : teV (false, k) = .tuple #[.int .i64 0, .iface 37 (.agg #[.int .i64 (k : Int)])] := rfl

set_option maxHeartbeats 4000000 in
theorem implTypeEnd (s : ByteArray) (i : Nat) (w : World) (hs : s.size ≤ maxLen) (hi : i ≤ s.size) :
    Calls Try.prog 12 #[.string s, .int .i64 (i : Int)] w fun e w' => e = .returned (teV (tyE s i)) ∧ w' = w := by
  have hm := hs
  unfold maxLen at hs
  go_enter Try.func12, Try.ntmps12
  go_wp2_with fail
  refine wp_scope_labels (fun l a' w' => w' = w ∧ teJ s (tyE s i) l a') (fun l a' _ => teM l a') ?_ ?_
  · by_cases h91 : byt s i = 91
    · have d0 : (byt s i == 91) = true := by rw [h91]; rfl
      have hlt0 : i < s.size := byt_in s _ (by rw [h91]; decide)
      have HE : Hid (tyE s i = tyO s (i + 1)) := by show _ = _; unfold tyE; rw [if_pos h91]
      clear h91
      have hbA := byt_bd s (i + 1)
      by_cases h73 : byt s (i + 1) = 73
      · have d1 : (byt s (i + 1) == 73) = true := by rw [h73]; rfl
        have hlt : i + 1 < s.size := byt_in s _ (by rw [h73]; decide)
        have HF : Hid (tyE s i = (true, i + 1 + 1)) := HE.out.trans (by unfold tyO; rw [if_pos h73])
        clear h73 HE
        go_wp2_with fail
        refine (implByteAt s (i) _ hm (by omega)).mono ?_
        rintro e w1 ⟨rfl, hw1⟩; subst hw1
        go_wp2_with fail
        refine (implByteAt s (i + 1) _ hm (by omega)).mono ?_
        rintro e w1 ⟨rfl, hw1⟩; subst hw1
        go_wp2_with fail
        go_step3
        show _ = _ ∧ teJ _ _ _ _
        exact ⟨rfl, .inl ⟨rfl, i + 1, 0, ⟨rfl, rfl, rfl, by go_num, by go_num⟩, hlt, HF.out⟩⟩
      · have d1 : (byt s (i + 1) == 73) = false := by rw [beq_eq_false_iff_ne]; exact h73
        by_cases h76 : byt s (i + 1) = 76
        · have d2 : (byt s (i + 1) == 76) = true := by rw [h76]; rfl
          have hlt : i + 1 < s.size := byt_in s _ (by rw [h76]; decide)
          have HF : Hid (tyE s i = tyL s (i + 1 + 1)) := HE.out.trans (by unfold tyO; rw [if_neg h73, if_pos h76])
          clear h73 h76 HE
          go_wp2_with fail
          refine (implByteAt s (i) _ hm (by omega)).mono ?_
          rintro e w1 ⟨rfl, hw1⟩; subst hw1
          go_wp2_with fail
          refine (implByteAt s (i + 1) _ hm (by omega)).mono ?_
          rintro e w1 ⟨rfl, hw1⟩; subst hw1
          go_wp2_with fail
          go_step3
          show _ = _ ∧ teJ _ _ _ _
          exact ⟨rfl, .inr (.inl ⟨rfl, i + 1 + 1, ⟨rfl, rfl, rfl, by go_num, by go_num⟩, by omega, HF.out⟩)⟩
        · have d2 : (byt s (i + 1) == 76) = false := by rw [beq_eq_false_iff_ne]; exact h76
          have HF : Hid (tyE s i = (false, i + 1)) := HE.out.trans (by unfold tyO; rw [if_neg h73, if_neg h76])
          clear h73 h76 HE
          go_wp2_with fail
          refine (implByteAt s (i) _ hm (by omega)).mono ?_
          rintro e w1 ⟨rfl, hw1⟩; subst hw1
          go_wp2_with fail
          refine (implByteAt s (i + 1) _ hm (by omega)).mono ?_
          rintro e w1 ⟨rfl, hw1⟩; subst hw1
          go_wp2_with fail
          go_step3
          show _ = _ ∧ teJ _ _ _ _
          exact ⟨rfl, .inr (.inr (.inl ⟨rfl, i + 1, 0, ⟨rfl, rfl, rfl, by go_num, by go_num⟩, by omega, HF.out⟩))⟩
    · have d0 : (byt s i == 91) = false := by rw [beq_eq_false_iff_ne]; exact h91
      have HE : Hid (tyE s i = tyO s i) := by show _ = _; unfold tyE; rw [if_neg h91]
      clear h91
      have hbA := byt_bd s (i)
      by_cases h73 : byt s (i) = 73
      · have d1 : (byt s (i) == 73) = true := by rw [h73]; rfl
        have hlt : i < s.size := byt_in s _ (by rw [h73]; decide)
        have HF : Hid (tyE s i = (true, i + 1)) := HE.out.trans (by unfold tyO; rw [if_pos h73])
        clear h73 HE
        go_wp2_with fail
        refine (implByteAt s (i) _ hm (by omega)).mono ?_
        rintro e w1 ⟨rfl, hw1⟩; subst hw1
        go_wp2_with fail
        refine (implByteAt s (i) _ hm (by omega)).mono ?_
        rintro e w1 ⟨rfl, hw1⟩; subst hw1
        go_wp2_with fail
        go_step3
        show _ = _ ∧ teJ _ _ _ _
        exact ⟨rfl, .inl ⟨rfl, i, 0, ⟨rfl, rfl, rfl, by go_num, by go_num⟩, hlt, HF.out⟩⟩
      · have d1 : (byt s (i) == 73) = false := by rw [beq_eq_false_iff_ne]; exact h73
        by_cases h76 : byt s (i) = 76
        · have d2 : (byt s (i) == 76) = true := by rw [h76]; rfl
          have hlt : i < s.size := byt_in s _ (by rw [h76]; decide)
          have HF : Hid (tyE s i = tyL s (i + 1)) := HE.out.trans (by unfold tyO; rw [if_neg h73, if_pos h76])
          clear h73 h76 HE
          go_wp2_with fail
          refine (implByteAt s (i) _ hm (by omega)).mono ?_
          rintro e w1 ⟨rfl, hw1⟩; subst hw1
          go_wp2_with fail
          refine (implByteAt s (i) _ hm (by omega)).mono ?_
          rintro e w1 ⟨rfl, hw1⟩; subst hw1
          go_wp2_with fail
          go_step3
          show _ = _ ∧ teJ _ _ _ _
          exact ⟨rfl, .inr (.inl ⟨rfl, i + 1, ⟨rfl, rfl, rfl, by go_num, by go_num⟩, by omega, HF.out⟩)⟩
        · have d2 : (byt s (i) == 76) = false := by rw [beq_eq_false_iff_ne]; exact h76
          have HF : Hid (tyE s i = (false, i)) := HE.out.trans (by unfold tyO; rw [if_neg h73, if_neg h76])
          clear h73 h76 HE
          go_wp2_with fail
          refine (implByteAt s (i) _ hm (by omega)).mono ?_
          rintro e w1 ⟨rfl, hw1⟩; subst hw1
          go_wp2_with fail
          refine (implByteAt s (i) _ hm (by omega)).mono ?_
          rintro e w1 ⟨rfl, hw1⟩; subst hw1
          go_wp2_with fail
          go_step3
          show _ = _ ∧ teJ _ _ _ _
          exact ⟨rfl, .inr (.inr (.inl ⟨rfl, i, 0, ⟨rfl, rfl, rfl, by go_num, by go_num⟩, by omega, HF.out⟩))⟩
  · rintro l a' w' ⟨hww, hJ⟩
    subst hww
    rcases hJ with ⟨rfl, k, f, hf, hk, hr⟩ | ⟨rfl, k, hf, hk, hr⟩ | ⟨rfl, k, f, hf, hk, hr⟩ | ⟨rfl, k, f, hf, h1, h2, h3, hr⟩
    · obtain ⟨_, _, _, _, _, _, _, _, _, _, _, _, _, _, _, _, _, _, _, _, _, _, _, _, _, _, _, _, _, _, _, _, _, _, _, _, _, _, _, _, _, _, _, _, _, _, _, _, _, _, _, _, _, _, rfl⟩ := teFr_open hf
      refine ⟨_, rfl, ?_⟩
      have HF : Hid (teV (tyE s i) = teV (true, k + 1)) := congrArg teV hr
      clear hr
      go_wp2
      rw [jumps_ret]
      go_ret2
      exact ⟨congrArg Ending.returned (HF.out.trans (teV_ok _)).symm, rfl⟩
    · obtain ⟨_, _, _, _, _, _, _, _, _, _, _, _, _, _, _, _, _, _, _, _, _, _, _, _, _, _, _, _, _, _, _, _, _, _, _, _, _, _, _, _, _, _, _, _, _, _, _, _, _, _, _, _, _, _, rfl⟩ := teFr_open hf
      refine ⟨_, rfl, ?_⟩
      have hbd := byt_bd s k
      cases hd : digI (byt s k)
      · cases hl : ltrI (byt s k)
        · have HF : Hid (tyE s i = (false, k)) := hr.trans (tyL_no s k hl)
          have HD : Hid (digI (byt s k) = false) := hd
          have HN : Hid ((ltrI (byt s k) || digI (byt s k)) = false) := by show _ = _; rw [hd, hl]; rfl
          clear hd hl hr
          go_wp2_with fail
          refine (implByteAt s (k) _ hm (by omega)).mono ?_
          rintro e w1 ⟨rfl, hw1⟩; subst hw1
          go_wp2_with fail
          refine (implDigit _ _ (by omega)).mono ?_
          rintro e w1 ⟨rfl, hw1⟩; subst hw1
          rw [HD.out]
          go_wp2_with fail
          refine (implByteAt s (k) _ hm (by omega)).mono ?_
          rintro e w1 ⟨rfl, hw1⟩; subst hw1
          go_wp2_with fail
          refine (implNameByte _ _ (by omega)).mono ?_
          rintro e w1 ⟨rfl, hw1⟩; subst hw1
          rw [HN.out]
          go_wp2_with fail
          go_step3
          show (_ = _ ∧ teJ _ _ _ _) ∧ _ < _
          exact ⟨⟨rfl, .inr (.inr (.inl ⟨rfl, k, k, ⟨rfl, rfl, rfl, by go_num, by go_num⟩, by omega, HF.out⟩))⟩, teM_21 _ _⟩
        · have hlt : k < s.size := nb_in s _ true (by unfold nbI; simp [hl])
          have HR : Hid (tyE s i = tyR s k 19 (k + 1)) := hr.trans (tyL_on s k hl)
          have HD : Hid (digI (byt s k) = false) := hd
          have HN : Hid ((ltrI (byt s k) || digI (byt s k)) = true) := by show _ = _; rw [hl]; rfl
          clear hd hl hr
          have hbI := byt_bd s (k + 1)
          by_cases h59 : byt s (k + 1) = 59
          · have dd : (byt s (k + 1) == 59) = true := by rw [h59]; rfl
            have hlt : k + 1 < s.size := byt_in s _ (by rw [h59]; decide)
            have HF : Hid (tyE s i = (true, k + 1 + 1)) := HR.out.trans (tyR_semi s _ _ _ h59)
            clear h59 HR
            go_wp2_with fail
            refine (implByteAt s (k) _ hm (by omega)).mono ?_
            rintro e w1 ⟨rfl, hw1⟩; subst hw1
            go_wp2_with fail
            refine (implDigit _ _ (by omega)).mono ?_
            rintro e w1 ⟨rfl, hw1⟩; subst hw1
            rw [HD.out]
            go_wp2_with fail
            refine (implByteAt s (k) _ hm (by omega)).mono ?_
            rintro e w1 ⟨rfl, hw1⟩; subst hw1
            go_wp2_with fail
            refine (implNameByte _ _ (by omega)).mono ?_
            rintro e w1 ⟨rfl, hw1⟩; subst hw1
            rw [HN.out]
            go_wp2_with fail
            go_step3
            go_wp2_with fail
            refine (implByteAt s (k + 1) _ hm (by omega)).mono ?_
            rintro e w1 ⟨rfl, hw1⟩; subst hw1
            go_wp2_with fail
            go_step3
            show (_ = _ ∧ teJ _ _ _ _) ∧ _ < _
            exact ⟨⟨rfl, .inl ⟨rfl, k + 1, k, ⟨rfl, rfl, rfl, by go_num, by go_num⟩, hlt, HF.out⟩⟩, teM_01 _ _⟩
          · have dd : (byt s (k + 1) == 59) = false := by rw [beq_eq_false_iff_ne]; exact h59
            by_cases hlim : k + 1 < k + 20
            · have dl : decide (((k + 1 : Nat) : Int) - (k : Int) < 20) = true := by simp; omega
              have dl2 : ((k + 1 : Nat) : Int) - (k : Int) < 20 := by omega
              cases hn : (ltrI (byt s (k + 1)) || digI (byt s (k + 1)))
              · have HF : Hid (teV (tyE s i) = teV (false, k + 1)) := congrArg teV (HR.out.trans (tyR_off s _ _ _ (by omega) hn h59))
                have HM : Hid ((ltrI (byt s (k + 1)) || digI (byt s (k + 1))) = false) := hn
                clear h59 HR hn
                go_wp2_with fail
                refine (implByteAt s (k) _ hm (by omega)).mono ?_
                rintro e w1 ⟨rfl, hw1⟩; subst hw1
                go_wp2_with fail
                refine (implDigit _ _ (by omega)).mono ?_
                rintro e w1 ⟨rfl, hw1⟩; subst hw1
                rw [HD.out]
                go_wp2_with fail
                refine (implByteAt s (k) _ hm (by omega)).mono ?_
                rintro e w1 ⟨rfl, hw1⟩; subst hw1
                go_wp2_with fail
                refine (implNameByte _ _ (by omega)).mono ?_
                rintro e w1 ⟨rfl, hw1⟩; subst hw1
                rw [HN.out]
                go_wp2_with fail
                go_step3
                go_wp2_with fail
                refine (implByteAt s (k + 1) _ hm (by omega)).mono ?_
                rintro e w1 ⟨rfl, hw1⟩; subst hw1
                go_wp2_with fail
                refine (implByteAt s (k + 1) _ hm (by omega)).mono ?_
                rintro e w1 ⟨rfl, hw1⟩; subst hw1
                go_wp2_with fail
                refine (implNameByte _ _ (by omega)).mono ?_
                rintro e w1 ⟨rfl, hw1⟩; subst hw1
                rw [HM.out]
                go_wp2_with fail
                go_step3
                go_wp2
                rw [jumps_ret]
                go_ret2
                exact ⟨congrArg Ending.returned (HF.out.trans (teV_no _)).symm, rfl⟩
              · have hlt : k + 1 < s.size := nb_in s _ false (by unfold nbI; simpa using hn)
                have HF : Hid (tyE s i = tyR s (k) (k + 20 - (k + 1 + 1)) (k + 1 + 1)) := by
                  show _ = _
                  rw [HR.out, show 19 = (k + 20 - (k + 1 + 1)) + 1 by omega]
                  exact tyR_on s _ _ _ (by omega) hn
                have HM : Hid ((ltrI (byt s (k + 1)) || digI (byt s (k + 1))) = true) := hn
                clear h59 HR hn
                go_wp2_with fail
                refine (implByteAt s (k) _ hm (by omega)).mono ?_
                rintro e w1 ⟨rfl, hw1⟩; subst hw1
                go_wp2_with fail
                refine (implDigit _ _ (by omega)).mono ?_
                rintro e w1 ⟨rfl, hw1⟩; subst hw1
                rw [HD.out]
                go_wp2_with fail
                refine (implByteAt s (k) _ hm (by omega)).mono ?_
                rintro e w1 ⟨rfl, hw1⟩; subst hw1
                go_wp2_with fail
                refine (implNameByte _ _ (by omega)).mono ?_
                rintro e w1 ⟨rfl, hw1⟩; subst hw1
                rw [HN.out]
                go_wp2_with fail
                go_step3
                go_wp2_with fail
                refine (implByteAt s (k + 1) _ hm (by omega)).mono ?_
                rintro e w1 ⟨rfl, hw1⟩; subst hw1
                go_wp2_with fail
                refine (implByteAt s (k + 1) _ hm (by omega)).mono ?_
                rintro e w1 ⟨rfl, hw1⟩; subst hw1
                go_wp2_with fail
                refine (implNameByte _ _ (by omega)).mono ?_
                rintro e w1 ⟨rfl, hw1⟩; subst hw1
                rw [HM.out]
                go_wp2_with fail
                go_step3
                show (_ = _ ∧ teJ _ _ _ _) ∧ _ < _
                exact ⟨⟨rfl, .inr (.inr (.inr ⟨rfl, k + 1 + 1, k, ⟨rfl, rfl, rfl, by go_num, by go_num⟩, by omega, by omega, by omega, HF.out⟩))⟩, by simp [teM, intOf]; omega⟩
            · exact absurd (by omega) hlim
      · have HF : Hid (tyE s i = (false, k)) := hr.trans (tyL_no s k (dig_ltr _ hd))
        have HD : Hid (digI (byt s k) = true) := hd
        clear hd hr
        go_wp2_with fail
        refine (implByteAt s (k) _ hm (by omega)).mono ?_
        rintro e w1 ⟨rfl, hw1⟩; subst hw1
        go_wp2_with fail
        refine (implDigit _ _ (by omega)).mono ?_
        rintro e w1 ⟨rfl, hw1⟩; subst hw1
        rw [HD.out]
        go_wp2_with fail
        go_step3
        show (_ = _ ∧ teJ _ _ _ _) ∧ _ < _
        exact ⟨⟨rfl, .inr (.inr (.inl ⟨rfl, k, k, ⟨rfl, rfl, rfl, by go_num, by go_num⟩, by omega, HF.out⟩))⟩, teM_21 _ _⟩
    · obtain ⟨_, _, _, _, _, _, _, _, _, _, _, _, _, _, _, _, _, _, _, _, _, _, _, _, _, _, _, _, _, _, _, _, _, _, _, _, _, _, _, _, _, _, _, _, _, _, _, _, _, _, _, _, _, _, rfl⟩ := teFr_open hf
      refine ⟨_, rfl, ?_⟩
      have HF : Hid (teV (tyE s i) = teV (false, k)) := congrArg teV hr
      clear hr
      go_wp2
      rw [jumps_ret]
      go_ret2
      exact ⟨congrArg Ending.returned (HF.out.trans (teV_no _)).symm, rfl⟩
    · obtain ⟨_, _, _, _, _, _, _, _, _, _, _, _, _, _, _, _, _, _, _, _, _, _, _, _, _, _, _, _, _, _, _, _, _, _, _, _, _, _, _, _, _, _, _, _, _, _, _, _, _, _, _, _, _, _, rfl⟩ := teFr_open hf
      refine ⟨_, rfl, ?_⟩
      have HR : Hid (tyE s i = tyR s f (f + 20 - k) k) := hr
      clear hr
      have hbI := byt_bd s (k)
      by_cases h59 : byt s (k) = 59
      · have dd : (byt s (k) == 59) = true := by rw [h59]; rfl
        have hlt : k < s.size := byt_in s _ (by rw [h59]; decide)
        have HF : Hid (tyE s i = (true, k + 1)) := HR.out.trans (tyR_semi s _ _ _ h59)
        clear h59 HR
        go_wp2_with fail
        refine (implByteAt s (k) _ hm (by omega)).mono ?_
        rintro e w1 ⟨rfl, hw1⟩; subst hw1
        go_wp2_with fail
        go_step3
        show (_ = _ ∧ teJ _ _ _ _) ∧ _ < _
        exact ⟨⟨rfl, .inl ⟨rfl, k, f, ⟨rfl, rfl, rfl, by go_num, by go_num⟩, hlt, HF.out⟩⟩, teM_03 _ _⟩
      · have dd : (byt s (k) == 59) = false := by rw [beq_eq_false_iff_ne]; exact h59
        by_cases hlim : k < f + 20
        · have dl : decide (((k : Nat) : Int) - (f : Int) < 20) = true := by simp; omega
          have dl2 : ((k : Nat) : Int) - (f : Int) < 20 := by omega
          cases hn : (ltrI (byt s (k)) || digI (byt s (k)))
          · have HF : Hid (teV (tyE s i) = teV (false, k)) := congrArg teV (HR.out.trans (tyR_off s _ _ _ (by omega) hn h59))
            have HM : Hid ((ltrI (byt s (k)) || digI (byt s (k))) = false) := hn
            clear h59 HR hn
            go_wp2_with fail
            refine (implByteAt s (k) _ hm (by omega)).mono ?_
            rintro e w1 ⟨rfl, hw1⟩; subst hw1
            go_wp2_with fail
            refine (implByteAt s (k) _ hm (by omega)).mono ?_
            rintro e w1 ⟨rfl, hw1⟩; subst hw1
            go_wp2_with fail
            refine (implNameByte _ _ (by omega)).mono ?_
            rintro e w1 ⟨rfl, hw1⟩; subst hw1
            rw [HM.out]
            go_wp2_with fail
            go_step3
            go_wp2
            rw [jumps_ret]
            go_ret2
            exact ⟨congrArg Ending.returned (HF.out.trans (teV_no _)).symm, rfl⟩
          · have hlt : k < s.size := nb_in s _ false (by unfold nbI; simpa using hn)
            have HF : Hid (tyE s i = tyR s (f) (f + 20 - (k + 1)) (k + 1)) := by
              show _ = _
              rw [HR.out, show f + 20 - k = (f + 20 - (k + 1)) + 1 by omega]
              exact tyR_on s _ _ _ (by omega) hn
            have HM : Hid ((ltrI (byt s (k)) || digI (byt s (k))) = true) := hn
            clear h59 HR hn
            go_wp2_with fail
            refine (implByteAt s (k) _ hm (by omega)).mono ?_
            rintro e w1 ⟨rfl, hw1⟩; subst hw1
            go_wp2_with fail
            refine (implByteAt s (k) _ hm (by omega)).mono ?_
            rintro e w1 ⟨rfl, hw1⟩; subst hw1
            go_wp2_with fail
            refine (implNameByte _ _ (by omega)).mono ?_
            rintro e w1 ⟨rfl, hw1⟩; subst hw1
            rw [HM.out]
            go_wp2_with fail
            go_step3
            show (_ = _ ∧ teJ _ _ _ _) ∧ _ < _
            exact ⟨⟨rfl, .inr (.inr (.inr ⟨rfl, k + 1, f, ⟨rfl, rfl, rfl, by go_num, by go_num⟩, by omega, by omega, by omega, HF.out⟩))⟩, by simp [teM, intOf]; omega⟩
        · have dl : decide (((k : Nat) : Int) - (f : Int) < 20) = false := by simp; omega
          have dl2 : ¬ ((k : Nat) : Int) - (f : Int) < 20 := by omega
          have HF : Hid (teV (tyE s i) = teV (false, k)) := by
            show _ = _
            rw [HR.out, show f + 20 - k = 0 by omega, tyR_none s _ _ h59]
          clear h59 HR
          go_wp2_with fail
          refine (implByteAt s (k) _ hm (by omega)).mono ?_
          rintro e w1 ⟨rfl, hw1⟩; subst hw1
          go_wp2_with fail
          go_step3
          go_wp2
          rw [jumps_ret]
          go_ret2
          exact ⟨congrArg Ending.returned (HF.out.trans (teV_no _)).symm, rfl⟩
end Go.Proofs.Ytpalmhojjgbkfal
