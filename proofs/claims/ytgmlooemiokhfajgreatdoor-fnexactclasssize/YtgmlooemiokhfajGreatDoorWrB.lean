import Derived.Test.YtgmlooemiokhfajGreatDoorWrC
import Derived.Test.YtgmlooemiokhfajGreatDoorMkB
/-
  The program's ClassBytes and ClassSize, and the model's ClassSize.
-/
namespace Go.Proofs.YtgmlooemiokhfajGreatDoor
open Go.RowKit
set_option maxRecDepth 20000
open Go.Lib (strCells)
set_option linter.unusedVariables false

theorem BufAt.start {w : World} {t : TypeId} : BufAt (w.alloc (.cells #[.slice none 0 0] t)) w.heap.size [] (.slice none 0 0) := by
  have hb : (w.alloc (.cells #[.slice none 0 0] t)).heap[w.heap.size]? = some (.cells #[.slice none 0 0] t (0, 0)) := heap_alloc_new w _
  refine ⟨by simp [go_sem], ?_, World.ownsRow_nil _ _ _ _, by simp⟩
  unfold World.frozen?; rw [hb]; rfl
theorem head_nums : nums ⟨#[67, 70, 1]⟩ = [67, 70, 1] := by simp [nums]
theorem below_of_buf {B : Nat} {W w w' : World} {vb vb' : Value} (h : Below W.heap.size W w) (hB : B = W.heap.size) (k : BufKept B w w' vb vb') : Below W.heap.size W w' := h.trans (hB ▸ k.low)

set_option maxHeartbeats 4000000 in
theorem implClassBytes (m : ClsD) (vc vh : Value) (w : World) (s0 : m.name.size ≤ maxLen) (s1 : m.super.size ≤ maxLen) (hc : fieldR.slice.In w [vc] m.fields) (hh : methR.slice.In w [vh] m.meths) (ht : Tab w) (hg : Glob w) :
    Calls Tryz.prog 30 #[clsV m vc vh] w fun e w' => e = .returned (.string (clsT m)) ∧ Below w.heap.size w w' := by
  have HR : Hid (∀ o, Calls Tryz.prog 22 #[clsV m vc vh] (w.alloc o) fun e w' => Below (w.alloc o).heap.size (w.alloc o) w' ∧
      ((ClsP m ∧ (madeS m).1.length ≤ 200 ∧ ∃ mr mb F, e = .returned (.tuple #[.pointer (some ⟨mb, 0, none⟩), .bool true]) ∧ (w.alloc o).heap.size ≤ mr ∧ WrS mr mb w' (madeS m) F) ∨
       (¬ (ClsP m ∧ (madeS m).1.length ≤ 200) ∧ e = .returned (.tuple #[.pointer none, .bool false])))) := fun o => implWrite m vc vh (w.alloc o) s0 s1 (fieldR.slice.mono _ _ _ _ (below_al _ _) hc) (methR.slice.mono _ _ _ _ (below_al _ _) hh) (ht.mono (below_al _ _)) (hg.mono (below_al _ _))
  have HB0 : Hid (∀ o, Below w.heap.size w (w.alloc o)) := fun o => below_al _ _
  have HT : Hid (ClsP m → (madeS m).1.length ≤ 200 → bytesOf (madeS m) = clsT m) := fun h k => (clsT_yes h k).symm
  have HN : Hid (¬ (ClsP m ∧ (madeS m).1.length ≤ 200) → (⟨#[]⟩ : ByteArray) = clsT m) := fun h => (clsT_no h).symm
  have hpos := made_pos m
  have HWz : Hid (ClsP m → wz (madeS m) ≤ 10000) := fun hP => by
    have h1 := tksS_wz (clsTok m) ([], [])
    have h2 := clsTok_wt m hP.fl hP.ml (clsP_lens m hP)
    have h3 : wz (([], []) : WS) = 0 := rfl
    show wz (tksS ([], []) (clsTok m)) ≤ 10000
    omega
  obtain ⟨a, ca, rfl⟩ := slice_form hc
  obtain ⟨b, cb, rfl⟩ := slice_form hh
  generalize madeS m = ss at *
  generalize clsT m = res at *
  generalize ClsP m = prop at *
  clear hc hh s0 s1 ht hg
  obtain ⟨nm, sup, fi, ab, fs, ms⟩ := m
  unfold clsV at *
  simp only at *
  go_enter Tryz.func30, Tryz.ntmps30
  go_wp2_with fail
  refine Calls.mono (HR.out _) ?_
  rintro e w1 ⟨hb1, ⟨hP, h200, mr, mb, F, rfl, hmr, hws⟩ | ⟨hno, rfl⟩⟩
  case inr =>
    have HN2 := (show Hid _ from HN.out hno)
    have HB1 : Hid (Below w.heap.size w w1) := (HB0.out _).trans (hb1.mono (by simp))
    clear hb1 hno
    go_wp2
    go_ret
    exact ⟨congrArg (fun b => Ending.returned (Value.string b)) HN2.out, HB1.out⟩
  case inl =>
    have HB1 : Hid (Below w.heap.size w w1) := (HB0.out _).trans (hb1.mono (by simp))
    have HT2 : Hid (strOfNums ([67, 70, 1, (ss.1.length : Int)] ++ poolNums ss.1 ++ ss.2) = res) := HT.out hP h200
    have hwz := HWz.out hP
    unfold wz at hwz
    have hw1 : w.heap.size < w1.heap.size := by have := hb1.size; simp at this; omega
    clear hb1 HT HN HWz HR hP
    obtain ⟨vp, vb, es, ck, hwa, hF⟩ := hws
    obtain ⟨pa, pc, rfl⟩ := owns_slice hwa.op
    obtain ⟨ga, gc, rfl, _, _⟩ := hwa.buf.ob.form hpos
    have hml := hwa.buf.lt
    have HWA := (show Hid (WrAt w1 mr mb ss (.slice pa ss.1.length pc) (.slice (some ⟨ga, 0, none⟩) ss.2.length gc) es ck) from hwa)
    clear hwa hF
    have HBf0 : Hid (BufAt (w1.alloc (.cells #[.slice none 0 0] 54)) w1.heap.size [] (.slice none 0 0)) := BufAt.start
    have HPut : Hid (∀ s bs vb w2, BufAt w2 w1.heap.size bs vb → bs.length + s.size ≤ 10000000 → Calls Tryz.prog 47 #[.pointer (some ⟨w1.heap.size, 0, none⟩), .string s] w2 fun e w' => e = .returned (.tuple #[]) ∧ ∃ vb', BufAt w' w1.heap.size (bs ++ nums s) vb' ∧ BufKept w1.heap.size w2 w' vb vb') := fun s bs vb w2 h hl => implPut w1.heap.size s bs vb w2 h hl
    have HPut1 : Hid (∀ n bs vb w2, BufAt w2 w1.heap.size bs vb → bs.length ≤ 5000000 → Calls Tryz.prog 48 #[.pointer (some ⟨w1.heap.size, 0, none⟩), .int .i64 n] w2 fun e w' => e = .returned (.tuple #[]) ∧ ∃ vb', BufAt w' w1.heap.size (bs ++ p1l n) vb' ∧ BufKept w1.heap.size w2 w' vb vb') := fun n bs vb w2 h hl => implBuf1 w1.heap.size n bs vb w2 h hl
    have HPt : Hid (∀ i (h : i < ss.1.length) w, Calls Tryz.prog 49 #[.string ss.1[i]] w fun e w' => e = .returned (.string (putT ss.1[i])) ∧ Below w.heap.size w w') := fun i h w => implPutText ss.1[i] w (HWA.out.sz _ (List.getElem_mem h))
    have HPn : Hid (∀ i, (poolNums (ss.1.take i)).length ≤ 51200) := fun i => by
      have h1 := poolNums_length (ss.1.take i)
      have h2 : (ss.1.take i).length ≤ 200 := by simp; omega
      omega
    have HH : Hid (∀ l : List Int, ([] ++ nums ⟨#[67, 70, 1]⟩) ++ p1l (ss.1.length : Int) = [67, 70, 1, (ss.1.length : Int)]) := fun l => by
      rw [head_nums]
      unfold p1l
      rw [if_pos (by omega)]
      rfl
    go_wp2_with fail
    refine Calls.mono (HPut.out _ _ _ _ HBf0.out (by simp [ByteArray.size])) ?_
    rintro e w2 ⟨rfl, vb2, h2, k2⟩
    have HU2 := (show Hid (BufAt w2 w1.heap.size ([] ++ nums ⟨#[67, 70, 1]⟩) vb2) from h2)
    have HB2 : Hid (Below w1.heap.size w1 w2) := below_of_buf (below_al _ _) rfl k2
    clear h2 k2 HBf0
    have c2 := (HWA.out.below HB2.out).c2
    go_wp2_with fail
    refine Calls.mono (HPut1.out _ _ _ _ HU2.out (by simp [head_nums])) ?_
    rintro e w3 ⟨rfl, vb3, h3, k3⟩
    have HU3 : Hid (BufAt w3 w1.heap.size [67, 70, 1, (ss.1.length : Int)] vb3) := by have h := h3; rw [HH.out []] at h; exact h
    have HB3 : Hid (Below w1.heap.size w1 w3) := below_of_buf HB2.out rfl k3
    clear h3 k3 HU2 c2
    have c2 := (HWA.out.below HB3.out).c2
    go_wp2_with fail
    go_loopw [27] (fun j27 wr => ∃ i : Nat, i ≤ ss.1.length ∧ j27 = .int .i64 (i : Int) ∧ Below w1.heap.size w1 wr ∧ ∃ vb, BufAt wr w1.heap.size ([67, 70, 1, (ss.1.length : Int)] ++ poolNums (ss.1.take i)) vb) (fun j27 _ => ss.1.length - (intOf j27).toNat)
    case atStart => exact ⟨0, Nat.zero_le _, rfl, HB3.out, vb3, by simpa [poolNums] using HU3.out⟩
    case round =>
      obtain ⟨i, hi, rfl, hb, vbr, hbuf⟩ := hrel
      have HBr := (show Hid (Below w1.heap.size w1 wr) from hb)
      have HWr := (show Hid _ from HWA.out.below hb)
      have hpn := HPn.out i
      clear hb
      by_cases hlt2 : i < ss.1.length
      · have HUr := (show Hid (BufAt wr w1.heap.size ([67, 70, 1, (ss.1.length : Int)] ++ poolNums (ss.1.take i)) vbr) from hbuf)
        clear hbuf
        obtain ⟨g, cp, e, _, _⟩ := HWr.out.op.form (by omega)
        cases e
        have hcell : wr.cell? ⟨g, i, none⟩ = some (.string ss.1[i]) := by
          rw [HWr.out.op.cellAt i (by omega), sC, List.getElem?_map, List.getElem?_eq_getElem hlt2]; rfl
        have hcell2 : wr.cell? ⟨g, 0 + i, none⟩ = some (.string ss.1[i]) := by rw [Nat.zero_add]; exact hcell
        have hcell3 : wr.cell? ⟨g, 0 + i * 1, none⟩ = some (.string ss.1[i]) := by rw [Nat.mul_one]; exact hcell2
        have HTk : Hid ([67, 70, 1, (ss.1.length : Int)] ++ poolNums (ss.1.take (i + 1)) = ([67, 70, 1, (ss.1.length : Int)] ++ poolNums (ss.1.take i)) ++ nums (putT ss.1[i])) := by show _ = _; rw [poolNums_take _ _ hlt2, List.append_assoc]
        have HPti := (show Hid _ from HPt.out i hlt2)
        have hps := putT_size ss.1[i]
        have hll : ([67, 70, 1, (ss.1.length : Int)] ++ poolNums (ss.1.take i)).length ≤ 60000 := by simp; omega
        generalize ss.1[i] = t at *
        generalize putT t = s at *
        generalize [67, 70, 1, (ss.1.length : Int)] ++ poolNums (ss.1.take i) = L at *
        go_wp2_with fail
        refine Calls.mono (HPti.out _) ?_
        rintro e w4 ⟨rfl, hb4⟩
        have HB4 : Hid (Below w1.heap.size w1 w4) := HBr.out.trans (hb4.mono HBr.out.size)
        have HU4 := (show Hid _ from HUr.out.below hb4)
        clear hb4
        go_wp2_with fail
        refine Calls.mono (HPut.out _ _ _ _ HU4.out (by omega)) ?_
        rintro e w5 ⟨rfl, vb5, h5, k5⟩
        have HU5 := (show Hid (BufAt w5 w1.heap.size (L ++ nums s) vb5) from h5)
        have HB5 : Hid (Below w1.heap.size w1 w5) := below_of_buf HB4.out rfl k5
        clear h5 k5
        go_wp2
        go_roundw
        case rel => exact ⟨i + 1, by omega, by go_num, HB5.out, vb5, by rw [HTk.out]; exact HU5.out⟩
        case measure => simp [intOf]; omega
      · obtain rfl : i = ss.1.length := by omega
        rw [List.take_of_length_le (Nat.le_refl _)] at hbuf hpn
        have HUr := (show Hid (BufAt wr w1.heap.size ([67, 70, 1, (ss.1.length : Int)] ++ poolNums ss.1) vbr) from hbuf)
        have hll : ([67, 70, 1, (ss.1.length : Int)] ++ poolNums ss.1).length ≤ 60000 := by simp; omega
        have HT3 : Hid (strOfNums (([67, 70, 1, (ss.1.length : Int)] ++ poolNums ss.1) ++ nums (strOfNums ss.2)) = res) := by show _ = _; rw [strOfNums_nums]; exact HT2.out
        have HLL : Hid (0 < ([67, 70, 1, (ss.1.length : Int)] ++ poolNums ss.1).length) := by show _ < _; simp
        clear hbuf HT2
        generalize [67, 70, 1, (ss.1.length : Int)] ++ poolNums ss.1 = L at *
        have cw := HWr.out.buf.c0
        have hconv : (convert 45 9 (.slice (some ⟨ga, 0, none⟩) ss.2.length gc)).run Tryz.prog wr = .ok (.string (strOfNums ss.2)) wr := conv_owned HWr.out.buf.ob rfl
        have hss : (strOfNums ss.2).size = ss.2.length := strOfNums_size _
        go_wp2_with fail
        refine Calls.mono (HPut.out _ _ _ _ HUr.out (by omega)) ?_
        rintro e w6 ⟨rfl, vb6, h6, k6⟩
        have HB6 : Hid (Below w.heap.size w w6) := HB1.out.trans ((below_of_buf HBr.out rfl k6).mono (Nat.le_of_lt hw1))
        obtain ⟨g6, cp6, rfl, _, _⟩ := h6.ob.form (by rw [List.length_append]; have := HLL.out; omega)
        have c6 := h6.c0
        have hconv6 := conv_owned h6.ob rfl
        have HT4 : Hid (strOfNums (L ++ nums (strOfNums ss.2)) = res) := HT3.out
        clear h6 k6 HT3 hconv
        generalize L ++ nums (strOfNums ss.2) = LL at *
        generalize strOfNums LL = rr at *
        go_wp2
        go_ret
        exact ⟨congrArg (fun b => Ending.returned (Value.string b)) HT4.out, HB6.out⟩
set_option maxHeartbeats 400000 in
theorem implClassSize (m : ClsD) (vc vh : Value) (w : World) (s0 : m.name.size ≤ maxLen) (s1 : m.super.size ≤ maxLen) (hc : fieldR.slice.In w [vc] m.fields) (hh : methR.slice.In w [vh] m.meths) (ht : Tab w) (hg : Glob w) :
    Calls Tryz.prog 15 #[clsV m vc vh] w fun e w' => e = .returned (.int .i64 ((clsT m).size : Int)) ∧ Below w.heap.size w w' := by
  have HR : Hid (∀ o, Calls Tryz.prog 30 #[clsV m vc vh] (w.alloc o) fun e w2 => e = .returned (.string (clsT m)) ∧ Below (w.alloc o).heap.size (w.alloc o) w2) := fun o => implClassBytes m vc vh (w.alloc o) s0 s1 (fieldR.slice.mono _ _ _ _ (below_al _ _) hc) (methR.slice.mono _ _ _ _ (below_al _ _) hh) (ht.mono (below_al _ _)) (hg.mono (below_al _ _))
  have HB0 : Hid (∀ o, Below w.heap.size w (w.alloc o)) := fun o => below_al _ _
  obtain ⟨a, ca, rfl⟩ := slice_form hc
  obtain ⟨b, cb, rfl⟩ := slice_form hh
  generalize clsT m = res at *
  clear hc hh s0 s1 ht hg
  obtain ⟨nm, sup, fi, ab, fs, ms⟩ := m
  unfold clsV at *
  simp only at *
  go_enter Tryz.func15, Tryz.ntmps15
  go_wp2_with fail
  refine Calls.mono (HR.out _) ?_
  rintro e w1 ⟨rfl, hb1⟩
  have HB1 : Hid (Below w.heap.size w w1) := (HB0.out _).trans (hb1.mono (by simp))
  clear hb1
  go_wp2
  go_ret
  exact ⟨rfl, HB1.out⟩
set_option maxHeartbeats 400000 in
theorem specClassSize (m : ClsD) (vc vh : Value) (w : World) (s0 : m.name.size ≤ maxLen) (s1 : m.super.size ≤ maxLen) (hc : fieldR.slice.In w [vc] m.fields) (hh : methR.slice.In w [vh] m.meths) :
    Calls Tryz.prog 14 #[clsV m vc vh] w fun e w' => e = .returned (.int .i64 ((clsT m).size : Int)) ∧ Below w.heap.size w w' := by
  have HR : Hid (∀ o, Calls Tryz.prog 29 #[clsV m vc vh] (w.alloc o) fun e w2 => e = .returned (.string (clsT m)) ∧ Below (w.alloc o).heap.size (w.alloc o) w2) := fun o => specClassBytes m vc vh (w.alloc o) s0 s1 (fieldR.slice.mono _ _ _ _ (below_al _ _) hc) (methR.slice.mono _ _ _ _ (below_al _ _) hh)
  have HB0 : Hid (∀ o, Below w.heap.size w (w.alloc o)) := fun o => below_al _ _
  obtain ⟨a, ca, rfl⟩ := slice_form hc
  obtain ⟨b, cb, rfl⟩ := slice_form hh
  generalize clsT m = res at *
  clear hc hh s0 s1
  obtain ⟨nm, sup, fi, ab, fs, ms⟩ := m
  unfold clsV at *
  simp only at *
  go_enter Tryz.func14, Tryz.ntmps14
  go_wp2_with fail
  refine Calls.mono (HR.out _) ?_
  rintro e w1 ⟨rfl, hb1⟩
  have HB1 : Hid (Below w.heap.size w w1) := (HB0.out _).trans (hb1.mono (by simp))
  clear hb1
  go_wp2
  go_ret
  exact ⟨rfl, HB1.out⟩
end Go.Proofs.YtgmlooemiokhfajGreatDoor
