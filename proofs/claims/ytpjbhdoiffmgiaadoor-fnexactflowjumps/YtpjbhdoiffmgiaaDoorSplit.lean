/-
  The contract of l01Split of the model: the pieces between the separators.
-/
import Derived.Test.YtpjbhdoiffmgiaaDoorGet
import Derived.Test.YtpjbhdoiffmgiaaDoorStrs
import Derived.Laws.AppendOwn
import Derived.OwnWalk
namespace Go.Proofs.YtpjbhdoiffmgiaaDoor
open Go.RowKit
set_option linter.unusedVariables false

/-- The pieces from place i on, k bytes being left; the piece at hand begins at f. -/
def spl (t : ByteArray) (c : Int) : Nat → Nat → Nat → List ByteArray → List ByteArray
  | 0, _, f, acc => acc ++ [t.extract f t.size]
  | k + 1, i, f, acc => if byt t i = c then spl t c k (i + 1) (i + 1) (acc ++ [t.extract f i]) else spl t c k (i + 1) f acc

def sC (ps : List ByteArray) : List Value := ps.map Value.string

theorem sC_snoc (ps : List ByteArray) (y : ByteArray) : sC ps ++ [.string y] = sC (ps ++ [y]) := by simp [sC]

theorem splNews (w : World) (y : ByteArray) : ∀ j u, [Value.string y][j]? = some u → (w.alloc (.cells #[.string y] 9)).cell? ((⟨w.heap.size, 0, none⟩ : Addr).add j) = some u := by
  intro j u hj
  match j, hj with
  | 0, hj => simp at hj; subst hj; simp [Addr.add]

set_option maxHeartbeats 4000000 in
theorem specSplit (t : ByteArray) (c : Int) (w : World) (ht : t.size ≤ 1048576) (hc : 0 ≤ c ∧ c ≤ 255) :
    Calls Tryd.prog 9 #[.string t, .int .u8 c] w fun e w' => ∃ v, e = .returned v ∧ w'.ownsRow w.heap.size 9 1 v (spl t c t.size 0 0 []).length (sC (spl t c t.size 0 0 [])) ∧ Below w.heap.size w w' := by
  obtain ⟨i0, hi0, hz0, hz1, hz2⟩ := info_parts infoStr
  have HI : Hid (Tryd.prog.info? 9 = some i0 ∧ i0.zero = some (.string ⟨#[]⟩) ∧ i0.size = 1 ∧ i0.bytes = 16) := ⟨hi0, hz0, hz1, hz2⟩
  clear hi0 hz0 hz1 hz2
  go_enter Tryd.func9, Tryd.ntmps9
  go_wp2_with fail
  have hown0 : (w.alloc (.cells #[] 9)).ownsRow w.heap.size 9 1 (.slice (some ⟨w.heap.size, 0, none⟩) 0 0) 0 [] := World.ownsRow_made w #[] 0 (Nat.le_refl _) (Nat.zero_le _) rfl
  have HO : Hid ((w.alloc (.cells #[] 9)).ownsRow w.heap.size 9 1 (.slice (some ⟨w.heap.size, 0, none⟩) 0 0) 0 []) := hown0
  clear hown0
  go_loopw [5, 6, 7] (fun j5 j6 j7 wr => ∃ (i f : Nat) (acc : List ByteArray), i ≤ t.size ∧ f ≤ i ∧ acc.length ≤ i ∧ j7 = .int .i64 (i : Int) ∧ j6 = .int .i64 (f : Int) ∧ wr.ownsRow w.heap.size 9 1 j5 acc.length (sC acc) ∧ Below w.heap.size w wr ∧ spl t c (t.size - i) i f acc = spl t c t.size 0 0 []) (fun _ _ j7 _ => t.size - (intOf j7).toNat)
  case atStart => exact ⟨0, 0, [], Nat.zero_le _, Nat.le_refl _, Nat.le_refl _, rfl, rfl, HO.out, (Below.refl _ _).alloc (Nat.le_refl _) _, rfl⟩
  case round =>
    obtain ⟨i, f, acc, hi, hf, hacc, rfl, rfl, hown, hbel, hspl⟩ := hrel
    clear HO
    have hsw : w.heap.size ≤ wr.heap.size := hbel.size
    have HR := (show Hid (_ ∧ _) from ⟨hown, hbel⟩)
    have HS : Hid (spl t c (t.size - i) i f acc = spl t c t.size 0 0 []) := hspl
    clear hown hbel hspl
    by_cases hlt : i < t.size
    · have hby := byt_eq t i hlt
      obtain ⟨k, hk⟩ : ∃ k, t.size - i = k + 1 := ⟨t.size - i - 1, by omega⟩
      have hk2 : t.size - (i + 1) = k := by omega
      by_cases heq : byt t i = c
      · have dd : ((t[i].toNat : Int) == c) = true := by rw [hby, heq]; simp
        have HN : Hid (spl t c (t.size - (i + 1)) (i + 1) (i + 1) (acc ++ [t.extract f i]) = spl t c t.size 0 0 []) := by
          show _ = _
          rw [← HS.out, hk, hk2, spl, if_pos heq]
        have hsl : ∀ w : World, (Instr.slice 9 (.string t) (some (.int .i64 (f : Int))) (some (.int .i64 (i : Int))) none).run Tryd.prog w = .ok (.string (t.extract f i)) w := by
          intro w
          have h := run_slice_string (P := Tryd.prog) w 9 t .i64 .i64 (f : Int) (i : Int) Tryd.underlying9 (by omega) (by omega) (by omega)
          simpa using h
        clear hby heq HS hk hk2
        generalize t.extract f i = y at *
        go_wp2_with (at_builtin; refine wpList_append_own _ rfl _ _ 24 rfl w.heap.size 9 i0 (.string ⟨#[]⟩) 1 16 Tryd.underlying24 HI.out.1 HI.out.2.1 HI.out.2.2.1 HI.out.2.2.2 rfl (by decide) _ _ _ rfl (HR.out.1.alloc _) ⟨wr.heap.size, 0, none⟩ 1 1 [.string y] rfl rfl (splNews wr y) ?c2 ?c3 ?c4 ?c5 ?_)
        case c2 => intro u hu; simp at hu; subst hu; rfl
        case c3 => unfold maxLen; omega
        case c4 => omega
        case c5 => simp; omega
        intro v' w4 hown' hgrow _
        rw [sC_snoc] at hown'
        have hbx : Below w.heap.size w w4 := (HR.out.2.alloc hsw _).grown hgrow (by simp; omega) (fun k hk => by have := (HR.out.1.lt k hk).1; omega)
        have HX := (show Hid (_ ∧ _) from ⟨hown', hbx⟩)
        clear hown' hbx hgrow HR
        go_wp2
        go_roundw
        case rel => exact ⟨i + 1, i + 1, acc ++ [y], by omega, by omega, by simp; omega, by go_num, by go_num, by simpa using HX.out.1, HX.out.2, HN.out⟩
        case measure => simp [intOf]; omega
      · have dd : ((t[i].toNat : Int) == c) = false := by rw [hby, beq_eq_false_iff_ne]; exact heq
        have HN : Hid (spl t c (t.size - (i + 1)) (i + 1) f acc = spl t c t.size 0 0 []) := by
          show _ = _
          rw [← HS.out, hk, hk2, spl, if_neg heq]
        clear hby heq HS hk hk2
        go_wp2
        go_roundw
        case rel => exact ⟨i + 1, f, acc, by omega, by omega, by omega, by go_num, by go_num, HR.out.1, HR.out.2, HN.out⟩
        case measure => simp [intOf]; omega
    · have HN : Hid (spl t c t.size 0 0 [] = acc ++ [t.extract f t.size]) := by
        show _ = _
        rw [← HS.out, show t.size - i = 0 by omega, spl]
      have hsl : ∀ w : World, (Instr.slice 9 (.string t) (some (.int .i64 (f : Int))) none none).run Tryd.prog w = .ok (.string (t.extract f t.size)) w := by
        intro w
        rw [run_slice_string_from_if (P := Tryd.prog) w 9 t .i64 (f : Int) Tryd.underlying9, if_pos (by omega)]
        simp
      clear HS
      generalize t.extract f t.size = y at *
      go_wp2_with (at_builtin; refine wpList_append_own _ rfl _ _ 24 rfl w.heap.size 9 i0 (.string ⟨#[]⟩) 1 16 Tryd.underlying24 HI.out.1 HI.out.2.1 HI.out.2.2.1 HI.out.2.2.2 rfl (by decide) _ _ _ rfl (HR.out.1.alloc _) ⟨wr.heap.size, 0, none⟩ 1 1 [.string y] rfl rfl (splNews wr y) ?c2 ?c3 ?c4 ?c5 ?_)
      case c2 => intro u hu; simp at hu; subst hu; rfl
      case c3 => unfold maxLen; omega
      case c4 => omega
      case c5 => simp; omega
      intro v' w4 hown' hgrow _
      rw [sC_snoc, ← HN.out] at hown'
      have hbx : Below w.heap.size w w4 := (HR.out.2.alloc hsw _).grown hgrow (by simp; omega) (fun k hk => by have := (HR.out.1.lt k hk).1; omega)
      have hlen : (spl t c t.size 0 0 []).length = acc.length + 1 := by rw [HN.out]; simp
      rw [← hlen] at hown'
      have HX := (show Hid (_ ∧ _) from ⟨hown', hbx⟩)
      clear hown' hbx hgrow HR hlen
      go_wp2
      go_ret
      exact ⟨_, rfl, HX.out.1, HX.out.2⟩
end Go.Proofs.YtpjbhdoiffmgiaaDoor
