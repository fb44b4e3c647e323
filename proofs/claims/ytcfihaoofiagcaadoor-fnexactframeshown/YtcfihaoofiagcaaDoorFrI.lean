/-
  FrameShown of the program: rows of texts (first, with), shownTypes, strings.Join.
-/
import Derived.Test.YtcfihaoofiagcaaDoorFrS
import Derived.Test.YtcfihaoofiagcaaDoorStrs
import Derived.Test.YtcfihaoofiagcaaDoorShelf
namespace Go.Proofs.YtcfihaoofiagcaaDoor
open Go.RowKit
set_option linter.unusedVariables false

/-- A row of texts, told by its cells. -/
def RowS (w : World) (v : Value) (xs : List ByteArray) : Prop :=
  ∃ ao cap, v = .slice ao xs.length cap ∧ xs.length ≤ cap ∧ cap ≤ maxLen ∧ (ao = none → cap = 0) ∧ ∀ j x, xs[j]? = some x → ∃ g, ao = some ⟨g, 0, none⟩ ∧ w.cell? ⟨g, j, none⟩ = some (.string x)
theorem RowS.mono {w w' : World} {v : Value} {xs : List ByteArray} (h : RowS w v xs) (hb : Below w.heap.size w w') : RowS w' v xs := by
  obtain ⟨ao, cap, rfl, h1, h2, h3, h4⟩ := h
  refine ⟨ao, cap, rfl, h1, h2, h3, fun j x hx => ?_⟩
  obtain ⟨g, e, hc⟩ := h4 j x hx
  exact ⟨g, e, (hb.cell (World.block_lt_of_cell? _ _ hc)).trans hc⟩
theorem RowS.of_own {w : World} {base e : Nat} {v : Value} {xs : List ByteArray} (h : w.ownsRow base e 1 v xs.length (xs.map .string)) : RowS w v xs := by
  rcases h.2 with ⟨e1, e2⟩ | ⟨g, cap, cur, e, _, hb, hle, hcm, hsz, htk⟩
  · obtain rfl : xs = [] := by simpa using e2
    exact ⟨none, 0, e1, by simp, by simp [maxLen], fun _ => rfl, fun j x hx => by simp at hx⟩
  · refine ⟨_, cap, e, hle, hcm, (by intro h; cases h), fun j x hx => ⟨g, rfl, ?_⟩⟩
    have hj : j < xs.length := (List.getElem?_eq_some_iff.1 hx).1
    rw [e] at h
    rw [h.cellAt j (by omega), List.getElem?_map, hx]
    rfl
theorem run_append_two {P : Program} (w : World) (t u ty e : TypeId) (ht : P.underlying t = some (.slice e)) (hu : P.underlying u = some (.slice e)) (ao xo : Option Addr) (n c m d : Nat) : (Builtin.append_ #[t, u] ty #[.slice ao n c, .slice xo m d]).run P w = (Builtin.append_ #[t, t] ty #[.slice ao n c, .slice xo m d]).run P w := by
  unfold Builtin.append_
  simp [run_underlying ht, run_underlying hu]
theorem run_append_zero {P : Program} (w : World) (t ty e : TypeId) (i : TypeInfo) (ht : P.underlying t = some (.slice e)) (hi : P.info? e = some i) (ao xo : Option Addr) (n c : Nat) :
    (Builtin.append_ #[t, t] ty #[.slice ao n n, .slice xo 0 c]).run P w = .ok (.slice ao n n) w := by
  unfold Builtin.append_
  cases xo <;> cases ao <;> simp [run_underlying ht, sizeOf, typeInfo, hi, Builtin.lenOf, Builtin.firstCells, loadCells, loadCellsFrom, storeCells, Result.andThen]
theorem RowS.full {w : World} {ao : Option Addr} {ca : Nat} {xs : List ByteArray} (h : RowS w (.slice ao xs.length ca) xs) : RowS w (.slice ao xs.length xs.length) xs := by
  obtain ⟨a, cap, e, h1, h2, h3, h4⟩ := h
  cases e
  exact ⟨ao, xs.length, rfl, Nat.le_refl _, by omega, fun e => by have := h3 e; omega, h4⟩
theorem run_append_row {P : Program} (w : World) (t u ty e : TypeId) (i : TypeInfo) (z : Value) (ht : P.underlying t = some (.slice e)) (hu : P.underlying u = some (.slice e)) (hi : P.info? e = some i) (hz : i.zero = some z) (hs : i.size = 1) (hby : i.bytes = 16) (hzs : z.cells.size = 1)
    (ao bo : Option Addr) (ca cb : Nat) (xs ys : List ByteArray) (ha : RowS w (.slice ao xs.length ca) xs) (hb : RowS w (.slice bo ys.length cb) ys) (h63 : xs.length + ys.length ≤ 100000) :
    ∃ v' w', (Builtin.append_ #[t, u] ty #[.slice ao xs.length xs.length, .slice bo ys.length cb]).run P w = .ok v' w' ∧ RowS w' v' (xs ++ ys) ∧ Below w.heap.size w w' := by
  rw [run_append_two w t u ty e ht hu]
  have haf := ha.full
  by_cases hy : ys = []
  · subst hy
    refine ⟨_, _, run_append_zero w t ty e i ht hi ao bo xs.length cb, ?_, Below.refl _ _⟩
    rw [List.append_nil]
    exact haf
  · have hpos : 0 < ys.length := List.length_pos_iff.2 hy
    obtain ⟨a', ca', e1, _, _, a3, a4⟩ := ha
    cases e1
    obtain ⟨b', cb', e2, _, _, b3, b4⟩ := hb
    cases e2
    obtain ⟨g, rfl, _⟩ := b4 0 ys[0] (List.getElem?_eq_getElem hpos)
    have hnews : ∀ j u, (ys.map Value.string)[j]? = some u → w.cell? ((⟨g, 0, none⟩ : Addr).add j) = some u := fun j u hj => by
      rw [List.getElem?_map] at hj
      obtain ⟨y, hy1, rfl⟩ := Option.map_eq_some_iff.1 hj
      obtain ⟨g', e3, hc⟩ := b4 j y hy1
      cases e3
      rw [add_own]
      exact hc
    have h1 : ∀ u ∈ ys.map Value.string, u.oneCell' = true := fun u hu => by
      obtain ⟨y, _, rfl⟩ := List.mem_map.1 hu
      rfl
    have hfin : ∀ v' w', w'.ownsRow w.heap.size e 1 v' (xs.length + ys.length) (xs.map Value.string ++ ys.map Value.string) → w.grownBy w' none → RowS w' v' (xs ++ ys) ∧ Below w.heap.size w w' := fun v' w' ho hg => by
      rw [← List.map_append, ← List.length_append] at ho
      exact ⟨RowS.of_own ho, (Below.refl _ _).grown hg (Nat.le_refl _) (fun k hk => by cases hk)⟩
    rcases ao with _ | ad
    · obtain rfl : xs = [] := List.eq_nil_of_length_eq_zero (by have := a3 rfl; omega)
      obtain ⟨v', w', hr, h2, h3, _⟩ := run_append_own (P := P) w w.heap.size t ty e i z 1 16 ht hi hz hs hby hzs (by decide) (.slice none 0 0) 0 [] (World.ownsRow_nil w _ e 1) ⟨g, 0, none⟩ ys.length cb (ys.map Value.string) (by simp) hnews h1 (by simp at h63; unfold maxLen; omega) (by simp at h63; omega) (Nat.le_refl _)
      exact ⟨v', w', hr, hfin v' w' (by simpa using h2) h3⟩
    · have holds : ∀ j u, (xs.map Value.string)[j]? = some u → w.cell? (ad.add j) = some u := fun j u hj => by
        rw [List.getElem?_map] at hj
        obtain ⟨y, hy1, rfl⟩ := Option.map_eq_some_iff.1 hj
        obtain ⟨g', e3, hc⟩ := a4 j y hy1
        cases e3
        rw [add_own]
        exact hc
      obtain ⟨v', w', hr, h2, h3⟩ := run_append_arg_grows (P := P) w t ty e i z 1 16 ht hi hz hs hby hzs (by decide) ad xs.length xs.length (xs.map Value.string) (by simp) holds ⟨g, 0, none⟩ ys.length cb (ys.map Value.string) (by simp) hnews (by omega) (by unfold maxLen; omega) (by omega)
      exact ⟨v', w', hr, hfin v' w' h2 h3⟩
theorem wpList_append_row {P : Program} (w : World) {ops : Array Oper} {rest : List Oper} {o : Oper} {a : Act} {Q : Exit → Act → World → Prop}
    (hg : o.guard = none) (s x : Operand) (t u : TypeId) (hop : o.op = Op.call { callee := Callee.builtin Builtin.append, args := #[s, x], argTypes := #[t, u] })
    (e : TypeId) (i : TypeInfo) (z : Value) (ht : P.underlying t = some (.slice e)) (hu : P.underlying u = some (.slice e)) (hi : P.info? e = some i) (hz : i.zero = some z) (hsz : i.size = 1) (hby : i.bytes = 16) (hzs : z.cells.size = 1)
    (ao bo : Option Addr) (ca cb : Nat) (xs ys : List ByteArray) (hs : a.eval s = .slice ao xs.length xs.length) (hx : a.eval x = .slice bo ys.length cb) (ha : RowS w (.slice ao xs.length ca) xs) (hb : RowS w (.slice bo ys.length cb) ys) (h63 : xs.length + ys.length ≤ 100000)
    (hK : ∀ v' w', RowS w' v' (xs ++ ys) → Below w.heap.size w w' → wpList P ops Q rest (a.put o.dst v') w') :
    wpList P ops Q (o :: rest) a w := by
  refine wpList_plain hg fun K hK' => ?_
  obtain ⟨v', w', hrun, r1, r2⟩ := run_append_row (P := P) w t u o.type e i z ht hu hi hz hsz hby hzs ao bo ca cb xs ys ha hb h63
  unfold Oper.wp
  simp [execOp, hop, resolve, invoke, builtin, hs, hx, hrun, Result.andThen]
  exact hK' _ _ (hK v' w' r1 r2)
theorem implFirst (a : Option Addr) (n c : Nat) (w : World) (h : n ≤ c) (hc : c ≤ maxLen) :
    Calls Tryd.prog 19 #[.slice a n c, .int .i64 (n : Int)] w fun e w' => e = .returned (.slice a n n) ∧ w' = w := by
  unfold maxLen at hc
  go_enter Tryd.func19, Tryd.ntmps19
  go_wp2
  go_ret
  exact ⟨rfl, rfl⟩
set_option maxHeartbeats 1000000 in
theorem implWith (va vb : Value) (xs ys : List ByteArray) (w : World) (ha : RowS w va xs) (hb : RowS w vb ys) (h63 : xs.length + ys.length ≤ 100000) :
    Calls Tryd.prog 12 #[va, vb] w fun e w' => ∃ v, e = .returned v ∧ RowS w' v (xs ++ ys) ∧ Below w.heap.size w w' := by
  obtain ⟨ao, ca, rfl, a1, a2, a3, a4⟩ := ha
  obtain ⟨bo, cb, rfl, b1, b2, b3, b4⟩ := hb
  have HA : Hid (RowS w (.slice ao xs.length ca) xs) := ⟨ao, ca, rfl, a1, a2, a3, a4⟩
  have HB : Hid (RowS w (.slice bo ys.length cb) ys) := ⟨bo, cb, rfl, b1, b2, b3, b4⟩
  have HF : Hid (∀ w', Calls Tryd.prog 19 #[.slice ao xs.length ca, .int .i64 (xs.length : Int)] w' fun e w2 => e = .returned (.slice ao xs.length xs.length) ∧ w2 = w') := fun w' => implFirst ao xs.length ca w' a1 a2
  obtain ⟨i0, hi0, hz0, hz1, hz2⟩ := info_parts infoStr
  have HI : Hid (Tryd.prog.info? 9 = some i0 ∧ i0.zero = some (.string ⟨#[]⟩) ∧ i0.size = 1 ∧ i0.bytes = 16) := ⟨hi0, hz0, hz1, hz2⟩
  clear hi0 hz0 hz1 hz2 a3 a4 b3 b4
  unfold maxLen at a2 b2
  go_enter Tryd.func12, Tryd.ntmps12
  go_wp2_with fail
  refine (HF.out _).mono ?_
  rintro e w1 ⟨rfl, hw1⟩
  subst w1
  go_wp2_with (at_builtin; refine wpList_append_row _ rfl _ _ 39 38 rfl 9 i0 (.string ⟨#[]⟩) Tryd.underlying39 Tryd.underlying38 HI.out.1 HI.out.2.1 HI.out.2.2.1 HI.out.2.2.2 rfl ao bo ca cb xs ys rfl rfl HA.out HB.out h63 ?_)
  intro v' w' hr hb
  have HR := (show Hid (_ ∧ _) from ⟨hr, hb⟩)
  clear hr hb
  go_wp2
  go_ret
  exact ⟨v', rfl, HR.out.1, HR.out.2⟩
theorem rowNews (w : World) (y : ByteArray) : ∀ j u, [Value.string y][j]? = some u → (w.alloc (.cells #[.string y] 9)).cell? ((⟨w.heap.size, 0, none⟩ : Addr).add j) = some u := by
  intro j u hj
  match j with
  | 0 =>
    simp at hj
    subst hj
    rw [add_own]
    simp [go_sem]
  | j + 1 => simp at hj
set_option maxHeartbeats 2000000 in
theorem implShownTypes (S : List TypeD) (v : Value) (w : World) (hs : typeR.slice.In w [v] S) (hz : tyB S ≤ 1048576) (hn : S.length ≤ 400) (ht : ∀ w', Below w.heap.size w w' → Lib.TabIs Tryd.prog w' "internal/strconv.uint64pow10" .u64 Lib.pow10Tab) :
    Calls Tryd.prog 13 #[v] w fun e w' => ∃ u, e = .returned u ∧ RowS w' u (S.map shD) ∧ Below w.heap.size w w' := by
  obtain ⟨aS, cS, rfl, hS1, hS2, hSA⟩ := tyOpen hs
  clear hs
  unfold maxLen at hS2
  have HSA := (show Hid _ from hSA)
  have HCS : Hid (∀ i (h : i < S.length), (S[i]).2.1.size ≤ 1048576) := fun i h => by
    have h1 := tySum_succ S i h
    have h2 := tySum_le S (i + 1) h
    unfold tyB at hz
    unfold tyBk at h1
    omega
  have HTb := (show Hid _ from ht)
  have HL1 : Hid (∀ i (h : i < S.length), (S.take (i + 1)).map shD = (S.take i).map shD ++ [shD S[i]]) := fun i h => by
    have e : S.take (i + 1) = S.take i ++ [S[i]] := by rw [List.take_add_one, List.getElem?_eq_getElem h]; rfl
    rw [e, List.map_append]; rfl
  obtain ⟨i0, hi0, hz0, hz1, hz2⟩ := info_parts infoStr
  have HI : Hid (Tryd.prog.info? 9 = some i0 ∧ i0.zero = some (.string ⟨#[]⟩) ∧ i0.size = 1 ∧ i0.bytes = 16) := ⟨hi0, hz0, hz1, hz2⟩
  clear hi0 hz0 hz1 hz2 hSA ht hz
  go_enter Tryd.func13, Tryd.ntmps13
  go_wp2_with fail
  go_loopw [3, 8] (fun j3 j8 wr => ∃ i : Nat, i ≤ S.length ∧ j8 = .int .i64 (i : Int) ∧ Below w.heap.size w wr ∧ wr.ownsRow w.heap.size 9 1 j3 ((S.take i).map shD).length (((S.take i).map shD).map Value.string)) (fun _ j8 _ => S.length - (intOf j8).toNat)
  case atStart => exact ⟨0, Nat.zero_le _, rfl, Below.refl _ _, World.ownsRow_nil _ _ _ _⟩
  case round =>
    obtain ⟨i, hi, rfl, hb, hown⟩ := hrel
    have HBr : Hid (Below w.heap.size w wr) := hb
    have hWr : w.heap.size ≤ wr.heap.size := hb.size
    obtain ⟨ta, tc, rfl⟩ := owns_slice hown
    have HOw := (show Hid (wr.ownsRow w.heap.size 9 1 (.slice ta ((S.take i).map shD).length tc) ((S.take i).map shD).length (((S.take i).map shD).map Value.string)) from hown)
    have hacc : ((S.take i).map shD).length ≤ 400 := by simp; omega
    clear hb hown
    by_cases hlt : i < S.length
    · obtain ⟨b, o, rfl, hx⟩ := HSA.out i hlt
      obtain ⟨g0, g1, g2, _, his⟩ := tyAt (hx.mono HBr.out)
      have hcs := HCS.out i hlt
      have HNx := (show Hid _ from HL1.out i hlt)
      obtain ⟨acc2, hacc2⟩ : ∃ x, (S.take (i + 1)).map shD = x := ⟨_, rfl⟩
      rw [hacc2] at HNx
      have HAc2 := (show Hid _ from hacc2)
      clear hacc2 hx
      generalize (S.take i).map shD = acc at *
      generalize S[i] = d at *
      obtain ⟨tk, tc', ta'⟩ := d
      simp only at g0 g1 g2 hcs his
      have HTS : Hid (∀ w', Below w.heap.size w w' → Calls Tryd.prog 20 #[.agg #[.int .i64 tk, .string tc', .int .i64 ta']] w' fun e w2 => e = .returned (.string (shD (tk, tc', ta'))) ∧ Below w'.heap.size w' w2) := fun w' hb => implTypeShown tk ta' tc' w' hcs his.1 his.2 (fun w2 hb2 => HTb.out w2 (hb.trans (hb2.mono hb.size)))
      generalize shD (tk, tc', ta') = sh at *
      clear his
      go_wp2_with fail
      refine (HTS.out _ (HBr.out.alloc hWr _)).mono ?_
      rintro e w1 ⟨rfl, hb1⟩
      have HB1 : Hid (Below w.heap.size w w1) := (HBr.out.alloc hWr _).trans (hb1.mono (by simp; omega))
      have HO1 := (show Hid (w1.ownsRow w.heap.size 9 1 (.slice ta acc.length tc) acc.length (acc.map Value.string)) from owns_below' (HOw.out.alloc _) hb1)
      have hW1 : w.heap.size ≤ w1.heap.size := HB1.out.size
      clear hb1
      go_wp2_with (at_builtin; refine wpList_append_own _ rfl _ _ 38 rfl w.heap.size 9 i0 (.string ⟨#[]⟩) 1 16 Tryd.underlying38 HI.out.1 HI.out.2.1 HI.out.2.2.1 HI.out.2.2.2 rfl (by decide) (.slice ta acc.length tc) acc.length (acc.map Value.string) rfl (HO1.out.alloc _) ⟨w1.heap.size, 0, none⟩ 1 1 [.string sh] rfl rfl (rowNews w1 sh) ?c2 ?c3 ?c4 ?c5 ?_)
      case c2 => intro u hu; simp at hu; subst hu; rfl
      case c3 => unfold maxLen; omega
      case c4 => omega
      case c5 => simp; omega
      intro v' w4 hown' hgrow _
      have hbx : Below w.heap.size w w4 := (HB1.out.alloc hW1 _).grown hgrow (by simp; omega) (fun k hk => (HO1.out.lt k hk).1)
      have e2 : acc.map Value.string ++ [Value.string sh] = acc2.map Value.string := by rw [HNx.out, List.map_append]; rfl
      have hlen2 : acc.length + 1 = acc2.length := by rw [HNx.out]; simp
      rw [e2, hlen2] at hown'
      have HX := (show Hid (_ ∧ _) from ⟨hown', hbx⟩)
      clear hown' hbx hgrow HOw HO1 e2 hlen2
      go_wp2
      go_roundw
      case rel => exact ⟨i + 1, by omega, by go_num, HX.out.2, by rw [HAc2.out]; exact HX.out.1⟩
      case measure => simp [intOf]; omega
    · obtain rfl : i = S.length := by omega
      rw [List.take_length] at HOw hacc
      go_wp2
      go_ret
      exact ⟨_, rfl, RowS.of_own (by simpa using HOw.out), HBr.out⟩
end Go.Proofs.YtcfihaoofiagcaaDoor
