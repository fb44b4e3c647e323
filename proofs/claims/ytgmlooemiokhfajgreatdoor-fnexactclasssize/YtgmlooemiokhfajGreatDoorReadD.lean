/-
  The contract of readDesc of the program: it hands back what rdD tells, or an error with its place.
-/
import Derived.Test.YtgmlooemiokhfajGreatDoorReadF
namespace Go.Proofs.YtgmlooemiokhfajGreatDoor
open Go.RowKit
set_option maxRecDepth 20000
set_option linter.unusedVariables false

set_option maxRecDepth 8000 in
set_option maxHeartbeats 8000000 in
theorem implReadDesc (s : ByteArray) (w : World) (hs : s.size ≤ 20000) :
    Calls Tryz.prog 114 #[.string s] w fun e w' => rdOut (rdD s) w w' e ∧ Below w.heap.size w w' := by
  have hm : s.size ≤ maxLen := by unfold maxLen; omega
  obtain ⟨i0, hi0, hz0, hz1, hz2⟩ := info_parts infoStr
  have HI : Hid (Tryz.prog.info? 9 = some i0 ∧ i0.zero = some (.string ⟨#[]⟩) ∧ i0.size = 1 ∧ i0.bytes = 16) := ⟨hi0, hz0, hz1, hz2⟩
  clear hi0 hz0 hz1 hz2
  go_enter Tryz.func114, Tryz.ntmps114
  go_wp2_with fail
  refine wp_scope_labels2 (rdJ s w) (fun l a' _ => rdM s l a') ?_ ?_
  · rintro l a' wr hJ
    rcases hJ with ⟨rfl, i, ps, v, hf, hi, hst, hr⟩ | ⟨rfl, i, ps, v, hf, hi, hst, hr⟩ | ⟨rfl, i, ps, v, hf, hi, hst, h8, hr⟩
    · obtain ⟨_, _, _, _, _, _, _, _, _, _, _, _, _, _, _, _, _, _, _, _, _, _, _, _, _, _, _, _, _, _, _, _, _, _, _, _, _, _, _, _, _, _, _, _, _, _, _, _, _, _, _, _, _, _, _, _, _, _, _, _, _, _, _, _, _, _, _, rfl⟩ := rdFr_open hf
      refine ⟨_, rfl, ?_⟩
      obtain ⟨r0, r1, d1, fr, fd⟩ := hst.cells
      have HB : Hid (Below w.heap.size w wr) := hst.below
      have HF : Hid (rdD s = .error i) := hr
      clear hr hst
      go_wp2
      rw [jumps_ret]
      refine bodyPost_ret (v := .tuple #[.agg #[.slice none 0 0, .string ⟨#[]⟩], .iface 163 (.agg #[.int .i64 (i : Int)])]) (by simp [results, Tryz.results114, go_sem, r0, r1]) rfl ⟨?_, ?_⟩
      · rw [HF.out]; rfl
      · exact (HB.out.setCell (Nat.le_refl _) _).setCell (Nat.le_refl _) _
    · obtain ⟨_, _, _, _, _, _, _, _, _, _, _, _, _, _, _, _, _, _, _, _, _, _, _, _, _, _, _, _, _, _, _, _, _, _, _, _, _, _, _, _, _, _, _, _, _, _, _, _, _, _, _, _, _, _, _, _, _, _, _, _, _, _, _, _, _, _, _, rfl⟩ := rdFr_open hf
      refine ⟨_, rfl, ?_⟩
      obtain ⟨r0, r1, d1, fr, fd⟩ := hst.cells
      obtain ⟨ad, cp, hv⟩ := hst.form
      subst hv
      have d0 := hst.d0
      have hsz := hst.size
      have HST : Hid (RdSt w (rdW w) wr ps (.slice ad ps.length cp)) := hst
      have HB : Hid (Below w.heap.size w wr) := hst.below
      have hge := reE_ge s i
      have hle := reE_le s i hi
      obtain ⟨⟨b, n⟩, hq⟩ : ∃ r, reE s i = r := ⟨_, rfl⟩
      have HQ : Hid (reE s i = (b, n)) := hq
      rw [hq] at hge hle
      have HR : Hid (rdD s = if b = true then (if n = s.size then .ok (ps, s.extract i n) else .error n) else .error n) := by
        show _ = _
        rw [hr]; unfold rdRs; rw [hq]
      clear hr hst hq
      have hge' : i ≤ n := hge
      have hle' : n ≤ s.size := hle
      clear hge hle
      cases b
      · have HF : Hid (rdD s = .error n) := HR.out
        clear HR
        go_wp2_with fail
        refine (implResultEnd s i _ hm hi).mono ?_
        rintro e w1 ⟨rfl, hw1⟩; subst w1
        rw [HQ.out, teV_no]
        go_wp2
        rw [jumps_ret]
        refine bodyPost_ret (v := .tuple #[.agg #[.slice none 0 0, .string ⟨#[]⟩], .iface 163 (.agg #[.int .i64 (n : Int)])]) (by simp [results, Tryz.results114, go_sem, r0, r1]) rfl ⟨?_, ?_⟩
        · rw [HF.out]; rfl
        · exact (HB.out.setCell (Nat.le_refl _) _).setCell (Nat.le_refl _) _
      · have hsl : ∀ w : World, (Instr.slice 9 (.string s) (some (.int .i64 (i : Int))) (some (.int .i64 (n : Int))) none).run Tryz.prog w = .ok (.string (s.extract i n)) w := by
          intro w
          have h := run_slice_string (P := Tryz.prog) w 9 s .i64 .i64 (i : Int) (n : Int) Tryz.underlying9 (by omega) (by omega) (by omega)
          simpa using h
        have hys : (s.extract i n).size ≤ 20000 := by rw [ByteArray.size_extract]; omega
        have HR2 : Hid (rdD s = if n = s.size then .ok (ps, s.extract i n) else .error n) := HR.out
        clear HR
        generalize s.extract i n = y at *
        by_cases hend : n = s.size
        · have HF : Hid (rdD s = .ok (ps, y)) := by show _ = _; rw [HR2.out, if_pos hend]
          have dn : ((n : Int) == (s.size : Int)) = true := by rw [beq_iff_eq]; omega
          clear HR2 hend
          go_wp2_with fail
          refine (implResultEnd s i _ hm hi).mono ?_
          rintro e w1 ⟨rfl, hw1⟩; subst w1
          rw [HQ.out, teV_yes]
          go_wp2_with fail
          refine (libClone y _ (by omega)).mono ?_
          rintro e wa ⟨rfl, hba⟩
          have HB2 : Hid (Below w.heap.size w wa) := HB.out.trans (hba.mono (by omega))
          have HO : Hid (wa.ownsRow (w.heap.size + 2) 9 1 (.slice ad ps.length cp) ps.length (cellsOfS ps)) := owns_below HST.out.own hba
          replace d0 := carry hba (by simp; omega) d0
          replace d1 := carry hba (by simp; omega) d1
          replace r0 := carry hba (by simp; omega) r0
          replace r1 := carry hba (by simp; omega) r1
          replace fr : ∀ j, wa.frozen? ⟨w.heap.size, j, none⟩ = false := fun j => carryF hba (by simp; omega) (fr j)
          replace fd : ∀ j, wa.frozen? ⟨w.heap.size + 1, j, none⟩ = false := fun j => carryF hba (by simp; omega) (fd j)
          clear hba HST
          go_wp2
          rw [jumps_ret]
          refine bodyPost_ret (v := .tuple #[.agg #[.slice ad ps.length cp, .string y], .nilIface]) (by simp [results, Tryz.results114, go_sem, r0, r1]) rfl ⟨?_, ?_⟩
          · rw [HF.out]
            refine ⟨.slice ad ps.length cp, rfl, ?_⟩
            exact (owns_set (owns_set (owns_set HO.out (by simp)) (by simp)) (by simp)).base_le (by omega)
          · exact ((HB2.out.setCell (by simp) _).setCell (Nat.le_refl _) _).setCell (Nat.le_refl _) _
        · have HF : Hid (rdD s = .error n) := by show _ = _; rw [HR2.out, if_neg hend]
          have dn : ((n : Int) == (s.size : Int)) = false := by rw [beq_eq_false_iff_ne]; omega
          clear HR2 hend
          go_wp2_with fail
          refine (implResultEnd s i _ hm hi).mono ?_
          rintro e w1 ⟨rfl, hw1⟩; subst w1
          rw [HQ.out, teV_yes]
          go_wp2_with fail
          refine (libClone y _ (by omega)).mono ?_
          rintro e wa ⟨rfl, hba⟩
          have HB2 : Hid (Below w.heap.size w wa) := HB.out.trans (hba.mono (by omega))
          have HO : Hid (wa.ownsRow (w.heap.size + 2) 9 1 (.slice ad ps.length cp) ps.length (cellsOfS ps)) := owns_below HST.out.own hba
          replace d0 := carry hba (by simp; omega) d0
          replace d1 := carry hba (by simp; omega) d1
          replace r0 := carry hba (by simp; omega) r0
          replace r1 := carry hba (by simp; omega) r1
          replace fr : ∀ j, wa.frozen? ⟨w.heap.size, j, none⟩ = false := fun j => carryF hba (by simp; omega) (fr j)
          replace fd : ∀ j, wa.frozen? ⟨w.heap.size + 1, j, none⟩ = false := fun j => carryF hba (by simp; omega) (fd j)
          clear hba HST
          go_wp2_with fail
          go_step3
          go_wp2
          rw [jumps_ret]
          refine bodyPost_ret (v := .tuple #[.agg #[.slice none 0 0, .string ⟨#[]⟩], .iface 163 (.agg #[.int .i64 (n : Int)])]) (by simp [results, Tryz.results114, go_sem, r0, r1]) rfl ⟨?_, ?_⟩
          · rw [HF.out]; rfl
          · exact ((HB2.out.setCell (by simp) _).setCell (Nat.le_refl _) _).setCell (Nat.le_refl _) _
    · obtain ⟨_, _, _, _, _, _, _, _, _, _, _, _, _, _, _, _, _, _, _, _, _, _, _, _, _, _, _, _, _, _, _, _, _, _, _, _, _, _, _, _, _, _, _, _, _, _, _, _, _, _, _, _, _, _, _, _, _, _, _, _, _, _, _, _, _, _, _, rfl⟩ := rdFr_open hf
      refine ⟨_, rfl, ?_⟩
      obtain ⟨r0, r1, d1, fr, fd⟩ := hst.cells
      have d0 := hst.d0
      have hsz := hst.size
      have HST : Hid (RdSt w (rdW w) wr ps v) := hst
      have HB : Hid (Below w.heap.size w wr) := hst.below
      by_cases h41 : byt s i = 41
      · have dd : (byt s i == 41) = true := by rw [h41]; rfl
        have hlt : i < s.size := byt_in s i (by rw [h41]; decide)
        have HF : Hid (rdD s = rdRs s (i + 1) ps) := hr.trans (rdFrom_close s _ i ps h41)
        clear hr hst h41
        go_wp2_with fail
        refine (implByteAt s i _ hm hi).mono ?_
        rintro e w1 ⟨rfl, hw1⟩; subst w1
        go_wp2_with fail
        go_step3
        show rdJ _ _ _ _ _ ∧ _ < _
        exact ⟨.inr (.inl ⟨rfl, i + 1, ps, v, ⟨rfl, rfl, rfl, rfl, rfl, by go_num⟩, by omega, HST.out, HF.out⟩), rdM_1 _ _ _⟩
      · have dd : (byt s i == 41) = false := by rw [beq_eq_false_iff_ne]; exact h41
        obtain ⟨ad, cp, hv⟩ := hst.form
        subst hv
        by_cases hfull : ps.length = 8
        · have d8 : ((ps.length : Int) == 8) = true := by rw [beq_iff_eq]; omega
          have HF : Hid (rdD s = .error i) := by
            show _ = _
            rw [hr, hfull]; exact rdFrom_full s i ps h41
          clear hr hst h41
          go_wp2_with fail
          refine (implByteAt s i _ hm hi).mono ?_
          rintro e w1 ⟨rfl, hw1⟩; subst w1
          go_wp2_with fail
          go_step3
          show rdJ _ _ _ _ _ ∧ _ < _
          exact ⟨.inl ⟨rfl, i, ps, _, ⟨rfl, rfl, rfl, rfl, rfl, by go_num⟩, by omega, HST.out, HF.out⟩, rdM_0 _ _ _⟩
        · have d8 : ((ps.length : Int) == 8) = false := by rw [beq_eq_false_iff_ne]; omega
          obtain ⟨k, hk⟩ : ∃ k, 8 - ps.length = k + 1 := ⟨7 - ps.length, by omega⟩
          obtain ⟨⟨b, n⟩, hq⟩ : ∃ r, tyE s i = r := ⟨_, rfl⟩
          have HQ : Hid (tyE s i = (b, n)) := hq
          have hle := tyE_le s i hi
          rw [hq] at hle
          have hle' : n ≤ s.size := hle
          cases b
          · have HF : Hid (rdD s = .error n) := by
              show _ = _
              rw [hr, hk]; exact rdFrom_no s k i n ps h41 hq
            clear hr hst h41 hq hle
            go_wp2_with fail
            refine (implByteAt s i _ hm hi).mono ?_
            rintro e w1 ⟨rfl, hw1⟩; subst w1
            go_wp2_with fail
            refine (implTypeEnd s i _ hm hi).mono ?_
            rintro e w1 ⟨rfl, hw1⟩; subst w1
            rw [HQ.out, teV_no]
            go_wp2
            rw [jumps_ret]
            refine bodyPost_ret (v := .tuple #[.agg #[.slice none 0 0, .string ⟨#[]⟩], .iface 163 (.agg #[.int .i64 (n : Int)])]) (by simp [results, Tryz.results114, go_sem, r0, r1]) rfl ⟨?_, ?_⟩
            · rw [HF.out]; rfl
            · exact (HB.out.setCell (Nat.le_refl _) _).setCell (Nat.le_refl _) _
          · have hgt := tyE_gt s i n hq
            have HF : Hid (rdD s = rdFrom s (8 - (ps ++ [s.extract i n]).length) n (ps ++ [s.extract i n])) := by
              show _ = _
              rw [hr, hk, rdFrom_on s k i n ps h41 hq]
              congr 1
              simp; omega
            have hsl : ∀ w : World, (Instr.slice 9 (.string s) (some (.int .i64 (i : Int))) (some (.int .i64 (n : Int))) none).run Tryz.prog w = .ok (.string (s.extract i n)) w := by
              intro w
              have h := run_slice_string (P := Tryz.prog) w 9 s .i64 .i64 (i : Int) (n : Int) Tryz.underlying9 (by omega) (by omega) (by omega)
              simpa using h
            have hys : (s.extract i n).size ≤ 20000 := by rw [ByteArray.size_extract]; omega
            clear hr hst h41 hq hle
            generalize s.extract i n = y at *
            go_wp2_with fail
            refine (implByteAt s i _ hm hi).mono ?_
            rintro e w1 ⟨rfl, hw1⟩; subst w1
            go_wp2_with fail
            refine (implTypeEnd s i _ hm hi).mono ?_
            rintro e w1 ⟨rfl, hw1⟩; subst w1
            rw [HQ.out, teV_yes]
            go_wp2_with fail
            have fd0 := fd 0
            have hlt1 : w.heap.size + 1 < wr.heap.size := by omega
            have HNE : Hid (∀ b, b < w.heap.size + 2 → some b ≠ (Value.slice ad ps.length cp).ownBlock) := fun b hb2 e => by
              have := (HST.out.own.lt b e.symm).1
              omega
            go_region_law (first
              | (refine step_append_lies _ (by rfl) _ _ _ (by rfl) (w.heap.size + 2) 9 i0 _ 1 16 Tryz.underlying27 HI.out.1 HI.out.2.1 HI.out.2.2.1 HI.out.2.2.2 rfl (by omega) (.slice ad ps.length cp) ps.length (cellsOfS ps) (by rfl) ((owns_below (w := wr) HST.out.own HBA.out).alloc _) ⟨wa.heap.size, 0, none⟩ 1 1 [.string y] (by rfl) (by rfl) (World.news_of_block (cs := #[.string y]) (t := 9) (fr := (0, 0)) (heap_alloc_new wa _)) (by simp [Value.oneCell']) (by omega) (by unfold maxLen; omega) (by omega) (by have := HBA.out.size; simp; omega) (wa.heap.size + 1) (by simp) ?_; intro g cap w1 hown1 hgrow hat hlt; have d01 : w1.cell? ⟨w.heap.size + 1, 0, none⟩ = some (.slice ad ps.length cp) := (hgrow.cell_far _ (by have := HBA.out.size; simp; omega) (HNE.out _ (by simp))).trans (d0b _); have f01 : w1.frozen? ⟨w.heap.size + 1, 0, none⟩ = false := (hgrow.frozen_far _ (by have := HBA.out.size; simp; omega) (HNE.out _ (by simp))).trans (carryF ((Below.refl _ _).alloc (Nat.le_refl _) _) (Nat.lt_of_lt_of_le hlt1 HBA.out.size) (carryF HBA.out hlt1 fd0)); have HNX : Hid (RdSt w (rdW w) (w1.setCell ⟨w.heap.size + 1, 0, none⟩ (.slice (some ⟨g, 0, none⟩) (ps.length + 1) cap)) (ps ++ [y]) (.slice (some ⟨g, 0, none⟩) (ps.length + 1) cap)) := HST.out.step HBA.out hgrow hown1; clear hown1 hgrow hat hlt)
              | (go_simp; go_at_call 23; refine (libClone y _ (by omega)).mono ?_; rintro e wa ⟨rfl, hba⟩; have d0a := carry hba hlt1 d0; have d0b : ∀ o, (wa.alloc o).cell? ⟨w.heap.size + 1, 0, none⟩ = some (.slice ad ps.length cp) := fun o => carry ((Below.refl _ _).alloc (Nat.le_refl _) o) (Nat.lt_of_lt_of_le hlt1 hba.size) d0a; have hba' : Below wr.heap.size wr wa := (Below.refl _ _).drew.trans hba; have HBA : Hid (Below wr.heap.size wr wa) := hba'; clear hba hba'; simp only []))
            all_goals
              go_wp2_with fail
              go_step3
              show rdJ _ _ _ _ _ ∧ _ < _
              exact ⟨.inr (.inr ⟨rfl, n, ps ++ [y], _, ⟨rfl, rfl, rfl, rfl, rfl, by go_num⟩, by omega, HNX.out, by simp; omega, HF.out⟩), by simp [rdM, intOf]; omega⟩
  · intro hfall
    have HFALL : Hid _ := hfall
    clear hfall
    have hba := implByteAt s 0
    have HBA : Hid (∀ (w : World), s.size ≤ maxLen → 0 ≤ s.size → Calls Tryz.prog 113 #[.string s, .int .i64 0] w fun e w' => e = .returned (.int .u8 (byt s 0)) ∧ w' = w) := hba
    clear hba
    have HST : Hid (RdSt w (rdW w) (rdW w) [] (.slice none 0 0)) := RdSt.start w
    by_cases h40 : byt s 0 = 40
    · have dd : (byt s 0 == 40) = true := by rw [h40]; rfl
      have hlt : 0 < s.size := byt_in s 0 (by rw [h40]; decide)
      have HF : Hid (rdD s = rdFrom s 8 1 []) := by show _ = _; unfold rdD; rw [if_pos h40]
      clear h40
      go_wp2_with fail
      refine (HBA.out _ hm (Nat.zero_le _)).mono ?_
      rintro e w1 ⟨rfl, hw1⟩; subst w1
      go_wp2_with fail
      go_step3
      simp only [Exit.then]
      rename_i hKK
      refine hKK _ _ ?_
      refine HFALL.out 2 _ _ _ rfl ?_
      exact .inr (.inr ⟨rfl, 1, [], _, ⟨rfl, rfl, rfl, rfl, rfl, rfl⟩, by omega, HST.out, by simp, HF.out⟩)
    · have dd : (byt s 0 == 40) = false := by rw [beq_eq_false_iff_ne]; exact h40
      have HF : Hid (rdD s = .error 0) := by show _ = _; unfold rdD; rw [if_neg h40]
      clear h40
      go_wp2_with fail
      refine (HBA.out _ hm (Nat.zero_le _)).mono ?_
      rintro e w1 ⟨rfl, hw1⟩; subst w1
      go_wp2_with fail
      go_step3
      show rdJ _ _ _ _ _
      exact .inl ⟨rfl, 0, [], _, ⟨rfl, rfl, rfl, rfl, rfl, rfl⟩, Nat.zero_le _, HST.out, HF.out⟩
end Go.Proofs.YtgmlooemiokhfajGreatDoor
