import Derived.Test.YtgmlooemiokhfaiGreatDoorMkC
import Derived.Test.YtgmlooemiokhfaiGreatDoorCR1
import Derived.Test.YtgmlooemiokhfaiGreatDoorTok
/-
  The model's ClassBytes and ClassSize.
-/
namespace Go.Proofs.YtgmlooemiokhfaiGreatDoor
open Go.RowKit
set_option maxRecDepth 20000
open Go.Lib (strCells)
set_option linter.unusedVariables false

theorem MkS.start {w : World} {t : TypeId} (mb : Nat) (hmb : mb = w.heap.size) : ∃ F, MkS mb (w.alloc (.cells #[.slice none 0 0, .slice none 0 0] t)) ([], []) F := by
  subst hmb
  have hb : (w.alloc (.cells #[.slice none 0 0, .slice none 0 0] t)).heap[w.heap.size]? = some (.cells #[.slice none 0 0, .slice none 0 0] t (0, 0)) := heap_alloc_new w _
  refine ⟨_, .slice none 0 0, .slice none 0 0, ⟨by simp [go_sem], by simp [go_sem], ?_, ?_, World.ownsRow_nil _ _ _ _, World.ownsRow_nil _ _ _ _, by simp⟩, rfl⟩
  · unfold World.frozen?; rw [hb]; rfl
  · unfold World.frozen?; rw [hb]; rfl
theorem owns_slice {w : World} {base e : Nat} {v : Value} {n : Nat} {xs : List Value} (h : w.ownsRow base e 1 v n xs) : ∃ a cap, v = .slice a n cap := by
  rcases h.2 with ⟨e, h0⟩ | ⟨g, cap, cur, e, _⟩
  · exact ⟨none, 0, by rw [e, h0]⟩
  · exact ⟨_, _, e⟩
theorem owns_below' {w w' : World} {base e : Nat} {v : Value} {n : Nat} {xs : List Value} (h : w.ownsRow base e 1 v n xs) (hb : Below w.heap.size w w') : w'.ownsRow base e 1 v n xs := by
  refine ⟨h.1, ?_⟩
  rcases h.2 with k | ⟨g, cap, cur, h1, h2, h3, h4⟩
  · exact .inl k
  · exact .inr ⟨g, cap, cur, h1, h2, (hb.block g (Array.getElem?_eq_some_iff.1 h3).1).trans h3, h4⟩

theorem conv_owned {w : World} {base g n cap : Nat} {xs : List Int} (h : w.ownsRow base 5 1 (.slice (some ⟨g, 0, none⟩) n cap) n (bC xs)) (hn : xs.length = n) :
    (convert 59 9 (.slice (some ⟨g, 0, none⟩) n cap)).run Tryz.prog w = .ok (.string (strOfNums xs)) w := by
  subst hn
  refine run_convert_bytes_arg (P := Tryz.prog) w 59 5 Tryz.underlying59 Tryz.underlying5 g 0 _ _ xs rfl ?_ 9 Tryz.underlying9
  intro i hi
  have hc := h.cellAt i (by omega)
  simp only [Nat.zero_add]
  rw [hc, bC, List.getElem?_map, List.getElem?_eq_getElem hi]
  simp [List.getD, List.getElem?_eq_getElem hi]
set_option maxHeartbeats 1000000 in
theorem specMade (m : ClsD) (vc vh : Value) (w : World) (hP : ClsP m) (hc : fieldR.slice.In w [vc] m.fields) (hh : methR.slice.In w [vh] m.meths) :
    Calls Tryz.prog 29 #[clsV m vc vh] w fun e w' => Below w.heap.size w w' ∧ ∃ mb F, e = .returned (.pointer (some ⟨mb, 0, none⟩)) ∧ w.heap.size ≤ mb ∧ MkS mb w' (madeS m) F := by
  have HC : Hid (∀ mb F w1, w.heap.size ≤ mb → Below w.heap.size w w1 → MkS mb w1 ([], []) F → Calls Tryz.prog 61 #[.pointer (some ⟨mb, 0, none⟩), clsV m vc vh] w1 fun e w' => e = .returned (.tuple #[]) ∧ ∃ F', MkS mb w' (tksS ([], []) (clsTok m)) F' ∧ Kept mb F w1 w' F') := fun mb F w1 hm hb h => specMkClass mb m vc vh w w1 F hb hm hc hh hP.fl hP.ml (clsP_lens m hP) h
  have HE : Hid (madeS m = tksS ([], []) (clsTok m)) := rfl
  obtain ⟨a, ca, rfl⟩ := slice_form hc
  obtain ⟨b, cb, rfl⟩ := slice_form hh
  clear hc hh hP
  generalize madeS m = ss at *
  generalize clsTok m = tk at *
  obtain ⟨nm, sup, fi, ab, fs, ms⟩ := m
  unfold clsV at *
  simp only at *
  obtain ⟨F0, hst⟩ := MkS.start (w := w.alloc (.cells #[.string nm, .string sup, .bool fi, .bool ab, .slice a fs.length ca, .slice b ms.length cb] 31)) (t := 61) (w.heap.size + 1) (by simp)
  have HST := (show Hid _ from hst)
  clear hst
  have HB : Hid (∀ o o', Below w.heap.size w ((w.alloc o).alloc o')) := fun o o' => ((Below.refl _ _).alloc (Nat.le_refl _) o).alloc (by simp) o'
  go_enter Tryz.func29, Tryz.ntmps29
  go_wp2_with fail
  refine Calls.mono (HC.out _ F0 _ (by omega) (HB.out _ _) HST.out) ?_
  rintro e w2 ⟨rfl, F2, hm2, hk2⟩
  have HX : Hid (MkS (w.heap.size + 1) w2 ss F2 ∧ Below w.heap.size w w2) := ⟨by rw [HE.out]; exact hm2, (HB.out _ _).trans (hk2.low.mono (by omega))⟩
  clear hm2 hk2
  go_wp2
  go_ret
  exact ⟨HX.out.2, _, F2, rfl, by omega, HX.out.1⟩

set_option maxHeartbeats 4000000 in
theorem specClassBytes (m : ClsD) (vc vh : Value) (w : World) (s0 : m.name.size ≤ maxLen) (s1 : m.super.size ≤ maxLen) (hc : fieldR.slice.In w [vc] m.fields) (hh : methR.slice.In w [vh] m.meths) :
    Calls Tryz.prog 11 #[clsV m vc vh] w fun e w' => e = .returned (.string (clsT m)) ∧ Below w.heap.size w w' := by
  have HR : Hid (∀ o, Calls Tryz.prog 28 #[clsV m vc vh] (w.alloc o) fun e w2 => e = .returned (.bool (clsOk m)) ∧ Below (w.alloc o).heap.size (w.alloc o) w2) := fun o => specClassRight m vc vh (w.alloc o) s0 s1 (fieldR.slice.mono _ _ _ _ ((Below.refl _ _).alloc (Nat.le_refl _) _) hc) (methR.slice.mono _ _ _ _ ((Below.refl _ _).alloc (Nat.le_refl _) _) hh)
  have HB0 : Hid (∀ o, Below w.heap.size w (w.alloc o)) := fun o => (Below.refl _ _).alloc (Nat.le_refl _) _
  obtain ⟨a, ca, rfl⟩ := slice_form hc
  obtain ⟨b, cb, rfl⟩ := slice_form hh
  rcases clsOk_cases m with ⟨hq, hP⟩ | ⟨hq, hP⟩
  · have HMd : Hid (∀ w1, Below w.heap.size w w1 → Calls Tryz.prog 29 #[clsV m (.slice a m.fields.length ca) (.slice b m.meths.length cb)] w1 fun e w' => Below w1.heap.size w1 w' ∧ ∃ mb F, e = .returned (.pointer (some ⟨mb, 0, none⟩)) ∧ w1.heap.size ≤ mb ∧ MkS mb w' (madeS m) F) := fun w1 hb => specMade m _ _ w1 hP (fieldR.slice.mono _ _ _ _ hb hc) (methR.slice.mono _ _ _ _ hb hh)
    have HT : Hid ((madeS m).1.length ≤ 200 → bytesOf (madeS m) = clsT m) := fun h => (clsT_yes hP h).symm
    have HN : Hid (200 < (madeS m).1.length → (⟨#[]⟩ : ByteArray) = clsT m) := fun h => (clsT_no fun k => by omega).symm
    have HSz : Hid (∀ i (h : i < (madeS m).1.length), (madeS m).1[i].size ≤ maxLen) := fun i h => made_sizes s0 s1 hc hh _ (List.getElem_mem h)
    have hpos := made_pos m
    have HWz : Hid (wz (madeS m) ≤ 10000) := by
      have h1 := tksS_wz (clsTok m) ([], [])
      have h2 := clsTok_wt m hP.fl hP.ml (clsP_lens m hP)
      have h3 : wz (([], []) : WS) = 0 := rfl
      show wz (tksS ([], []) (clsTok m)) ≤ 10000
      omega
    generalize madeS m = ss at *
    generalize clsT m = res at *
    rw [hq] at HR
    clear hc hh s0 s1 hP hq
    have hwz := HWz.out
    unfold wz at hwz
    obtain ⟨nm, sup, fi, ab, fs, ms⟩ := m
    unfold clsV at *
    simp only at *
    obtain ⟨i0, hi0, hz0, hz1, hz2⟩ := info_parts byteInfo
    have HI : Hid (Tryz.prog.info? 5 = some i0 ∧ i0.zero = some (.int .u8 0) ∧ i0.size = 1 ∧ i0.bytes = 1) := ⟨hi0, hz0, hz1, hz2⟩
    clear hi0 hz0 hz1 hz2
    go_enter Tryz.func11, Tryz.ntmps11
    go_wp2_with fail
    refine Calls.mono (HR.out _) ?_
    rintro e w1 ⟨rfl, hb1⟩
    have x0 : w1.cell? ⟨w.heap.size, 0, none⟩ = some (.string nm) := carry hb1 (by simp) (by simp [go_sem])
    have x1 : w1.cell? ⟨w.heap.size, 1, none⟩ = some (.string sup) := carry hb1 (by simp) (by simp [go_sem])
    have x2 : w1.cell? ⟨w.heap.size, 2, none⟩ = some (.bool fi) := carry hb1 (by simp) (by simp [go_sem])
    have x3 : w1.cell? ⟨w.heap.size, 3, none⟩ = some (.bool ab) := carry hb1 (by simp) (by simp [go_sem])
    have x4 : w1.cell? ⟨w.heap.size, 4, none⟩ = some (.slice a fs.length ca) := carry hb1 (by simp) (by simp [go_sem])
    have x5 : w1.cell? ⟨w.heap.size, 5, none⟩ = some (.slice b ms.length cb) := carry hb1 (by simp) (by simp [go_sem])
    have hz1 : w.heap.size < w1.heap.size := by have := hb1.size; simp at this; omega
    have HB1 : Hid (Below w.heap.size w w1) := (HB0.out _).trans (hb1.mono (by simp))
    clear hb1
    go_wp2_with fail
    refine Calls.mono (HMd.out _ HB1.out) ?_
    rintro e w2 ⟨hb2, mb, F2, rfl, hmb, hm2⟩
    have HB2 : Hid (Below w.heap.size w w2) := HB1.out.trans (hb2.mono HB1.out.size)
    clear hb2 x0 x1 x2 x3 x4 x5
    obtain ⟨vp, vb, hma, hF2⟩ := hm2
    obtain ⟨pa, pc, rfl⟩ := owns_slice hma.op
    obtain ⟨ga, gc, rfl, _, _⟩ := hma.ob.form hpos
    have c0 := hma.c0
    have hlt := hma.lt
    have HMA := (show Hid (MkAt w2 mb ss.1 ss.2 (.slice pa ss.1.length pc) (.slice (some ⟨ga, 0, none⟩) ss.2.length gc)) from hma)
    clear hma hF2
    by_cases h200 : 200 < ss.1.length
    · have d : decide ((200 : Int) < (ss.1.length : Int)) = true := by simp; omega
      have HN2 := (show Hid _ from HN.out h200)
      go_wp2
      go_ret
      exact ⟨congrArg (fun b => Ending.returned (Value.string b)) HN2.out, HB2.out⟩
    · have d : decide ((200 : Int) < (ss.1.length : Int)) = false := by simp; omega
      have HT2 : Hid (strOfNums ([67, 70, 1, (ss.1.length : Int)] ++ poolNums ss.1 ++ ss.2) = res) := HT.out (by omega)
      have hmod : (ss.1.length : Int) % 256 = (ss.1.length : Int) := by omega
      have HO0 : Hid (∀ (x : Int), (w2.alloc (.cells #[.int .u8 67, .int .u8 70, .int .u8 1, .int .u8 x] 5)).ownsRow w2.heap.size 5 1 (.slice (some ⟨w2.heap.size, 0, none⟩) 4 4) 4 (bC [67, 70, 1, x])) := fun x => World.ownsRow_lit w2 #[.int .u8 67, .int .u8 70, .int .u8 1, .int .u8 x] 4 (Nat.le_refl _) (by unfold maxLen; omega) rfl
      have HPn : Hid (∀ i, (poolNums (ss.1.take i)).length ≤ 51200) := fun i => by
        have h1 := poolNums_length (ss.1.take i)
        have h2 : (ss.1.take i).length ≤ 200 := by simp; omega
        omega
      go_wp2_with fail
      go_loopw [4, 5] (fun j4 j5 wr => ∃ i : Nat, i ≤ ss.1.length ∧ j5 = .int .i64 (i : Int) ∧ Below w2.heap.size w2 wr ∧ wr.ownsRow w2.heap.size 5 1 j4 ([67, 70, 1, (ss.1.length : Int)] ++ poolNums (ss.1.take i)).length (bC ([67, 70, 1, (ss.1.length : Int)] ++ poolNums (ss.1.take i)))) (fun _ j5 _ => ss.1.length - (intOf j5).toNat)
      case atStart => exact ⟨0, Nat.zero_le _, rfl, (Below.refl _ _).alloc (Nat.le_refl _) _, by simpa [poolNums] using HO0.out _⟩
      case round =>
        obtain ⟨i, hi, rfl, hb, hown⟩ := hrel
        have HBr := (show Hid (Below w2.heap.size w2 wr) from hb)
        have HMr := (show Hid _ from HMA.out.below hb)
        have hmr : mb < wr.heap.size := HMr.out.lt
        have cr0 := HMr.out.c0
        have cr1 := HMr.out.c1
        obtain ⟨ba, bc, rfl⟩ := owns_slice hown
        have HOw := (show Hid _ from hown)
        have hpn := HPn.out i
        clear hb hown
        by_cases hlt2 : i < ss.1.length
        · obtain ⟨g, cp, e, _, _⟩ := HMr.out.op.form (by omega)
          cases e
          have hcell : wr.cell? ⟨g, i, none⟩ = some (.string ss.1[i]) := by
            rw [HMr.out.op.cellAt i (by omega), sC, List.getElem?_map, List.getElem?_eq_getElem hlt2]; rfl
          have hcell2 : wr.cell? ⟨g, 0 + i, none⟩ = some (.string ss.1[i]) := by rw [Nat.zero_add]; exact hcell
          have hcell3 : wr.cell? ⟨g, 0 + i * 1, none⟩ = some (.string ss.1[i]) := by rw [Nat.mul_one]; exact hcell2
          have HTk : Hid ([67, 70, 1, (ss.1.length : Int)] ++ poolNums (ss.1.take (i + 1)) = ([67, 70, 1, (ss.1.length : Int)] ++ poolNums (ss.1.take i)) ++ nums (putT ss.1[i])) := by show _ = _; rw [poolNums_take _ _ hlt2, List.append_assoc]
          have HPt : Hid (∀ w, Calls Tryz.prog 30 #[.string ss.1[i]] w fun e w' => e = .returned (.string (putT ss.1[i])) ∧ Below w.heap.size w w') := fun w => specPutText ss.1[i] w (HSz.out i hlt2)
          have hps := putT_size ss.1[i]
          have hll : ([67, 70, 1, (ss.1.length : Int)] ++ poolNums (ss.1.take i)).length ≤ 60000 := by simp; omega
          generalize ss.1[i] = t at *
          generalize putT t = s at *
          generalize [67, 70, 1, (ss.1.length : Int)] ++ poolNums (ss.1.take i) = L at *
          obtain ⟨wq, hwq⟩ : ∃ x : World, x = wr := ⟨_, rfl⟩
          subst wr
          go_wp2_with fail
          refine Calls.mono (HPt.out _) ?_
          rintro e w3 ⟨rfl, hb3⟩
          have HB3 : Hid (Below w2.heap.size w2 w3) := HBr.out.trans (hb3.mono HBr.out.size)
          have HO3 := (show Hid _ from owns_below' HOw.out hb3)
          have cr0' := (HMr.out.below hb3).c0
          have hw3 : w2.heap.size ≤ w3.heap.size := HB3.out.size
          clear hb3
          go_wp2_with (at_builtin; refine wpList_append_str_at _ rfl _ _ 59 9 rfl w2.heap.size 5 i0 Tryz.underlying59 Tryz.underlying9 HI.out.1 HI.out.2.1 HI.out.2.2.1 HI.out.2.2.2 _ _ _ rfl HO3.out s rfl ?c3 ?c4 ?c5 ?_)
          case c3 => unfold maxLen; omega
          case c4 => omega
          case c5 => omega
          intro v' w4 hown4 hgrow hat
          have HB4 : Hid (Below w2.heap.size w2 w4) := HB3.out.grown hgrow hw3 (fun k hk => (World.ownsRow.lt (show w3.ownsRow w2.heap.size 5 1 (.slice ba L.length bc) L.length (bC L) from HO3.out) k hk).1)
          have HX4 : Hid (w4.ownsRow w2.heap.size 5 1 v' (L ++ nums s).length (bC (L ++ nums s))) := by
            rw [← bC_append, ← strCells_nums, List.length_append, nums_length]; exact hown4
          have cr4 := (HMA.out.below HB4.out).c0
          obtain ⟨g4, cp4, rfl⟩ := owns_slice hown4
          clear hown4 hgrow hat
          go_wp2
          go_roundw
          case rel => exact ⟨i + 1, by omega, by go_num, HB4.out, by rw [HTk.out]; exact HX4.out⟩
          case measure => simp [intOf]; omega
        · obtain rfl : i = ss.1.length := by omega
          rw [List.take_of_length_le (Nat.le_refl _)] at HOw hpn
          have hll : ([67, 70, 1, (ss.1.length : Int)] ++ poolNums ss.1).length ≤ 60000 := by simp; omega
          have HLL : Hid (0 < ([67, 70, 1, (ss.1.length : Int)] ++ poolNums ss.1).length) := by show _ < _; simp
          rw [List.take_of_length_le (Nat.le_refl _)]
          generalize [67, 70, 1, (ss.1.length : Int)] ++ poolNums ss.1 = L at *
          have hr2 : w2.heap.size ≤ wr.heap.size := HBr.out.size
          have HNews : Hid (∀ j u, (bC ss.2)[j]? = some u → wr.cell? ((⟨ga, 0, none⟩ : Addr).add j) = some u) := HMr.out.ob.cells rfl
          have HOne : Hid (∀ u ∈ bC ss.2, u.oneCell' = true) := fun u hu => by
            obtain ⟨x, _, rfl⟩ := List.mem_map.1 hu
            rfl
          go_wp2_with (at_builtin; refine wpList_append_lies _ rfl _ _ 59 rfl w2.heap.size 5 i0 (.int .u8 0) 1 1 Tryz.underlying59 HI.out.1 HI.out.2.1 HI.out.2.2.1 HI.out.2.2.2 rfl (by decide) _ _ _ rfl HOw.out ⟨ga, 0, none⟩ ss.2.length gc (bC ss.2) rfl (by rw [bC_length, Nat.mul_one]) HNews.out HOne.out hpos ?c3 ?c4 ?c5 _ rfl ?_)
          case c3 => unfold maxLen; omega
          case c4 => omega
          case c5 => omega
          intro g cp w5 hown5 hgrow hat hg5
          have HB5 : Hid (Below w.heap.size w w5) := HB2.out.trans ((HBr.out.grown hgrow hr2 (fun k hk => (World.ownsRow.lt (show wr.ownsRow w2.heap.size 5 1 (.slice ba L.length bc) L.length (bC L) from HOw.out) k hk).1)).mono HB2.out.size)
          rw [bC_append] at hown5
          have hconv : (convert 59 9 (.slice (some ⟨g, 0, none⟩) (L.length + ss.2.length) cp)).run Tryz.prog w5 = .ok (.string (strOfNums (L ++ ss.2))) w5 := by
            exact conv_owned hown5 (by simp)
          have HT3 : Hid (strOfNums (L ++ ss.2) = res) := HT2.out
          clear hown5 hgrow hat HT2
          generalize strOfNums (L ++ ss.2) = rr at *
          go_wp2
          go_ret
          exact ⟨congrArg (fun b => Ending.returned (Value.string b)) HT3.out, HB5.out⟩
  · have HN : Hid ((⟨#[]⟩ : ByteArray) = clsT m) := (clsT_no fun k => hP k.1).symm
    generalize clsT m = res at *
    rw [hq] at HR
    clear hc hh s0 s1 hP hq
    obtain ⟨nm, sup, fi, ab, fs, ms⟩ := m
    unfold clsV at *
    simp only at *
    go_enter Tryz.func11, Tryz.ntmps11
    go_wp2_with fail
    refine Calls.mono (HR.out _) ?_
    rintro e w1 ⟨rfl, hb1⟩
    have HB1 : Hid (Below w.heap.size w w1) := (HB0.out _).trans (hb1.mono (by simp))
    clear hb1
    go_wp2
    go_ret
    exact ⟨congrArg (fun b => Ending.returned (Value.string b)) HN.out, HB1.out⟩
end Go.Proofs.YtgmlooemiokhfaiGreatDoor
