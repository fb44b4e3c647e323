/-
  The draws of texts over the source: pick, word and DrawPutText: each tells a short text, and changes nothing that was there.
-/
import Derived.Test.YtfichaafmfmliaaDraw
import Derived.Laws.BytesArg
namespace Go.Proofs.Ytfichaafmfmliaa
open Go.RowKit

set_option maxHeartbeats 1000000 in
theorem srcPick (b g n : Nat) (L : List ByteArray) (w : World) (hn : L.length = n) (h1 : 1 < n) (h2 : n ≤ 1000) (hS : Src w b) (hg : g ≠ b)
    (hc : ∀ j, j < n → w.cell? ⟨g, j, none⟩ = some (.string (L.getD j ⟨#[]⟩))) :
    Calls Try.prog 27 #[.pointer (some ⟨b, 0, none⟩), .slice (some ⟨g, 0, none⟩) n n] w fun e w' => ∃ t, e = .returned (.string t) ∧ t ∈ L ∧ Src w' b ∧ Only b w w' := by
  have HC : Hid (∀ j, j < n → w.cell? ⟨g, j, none⟩ = some (.string (L.getD j ⟨#[]⟩))) := hc
  have HL : Hid (∀ j, j < n → L.getD j ⟨#[]⟩ ∈ L) := fun j hj => by
    have hj' : j < L.length := by omega
    simp [List.getD, List.getElem?_eq_getElem hj']
  clear hc
  go_enter Try.func27, Try.ntmps27
  go_wp2_with fail
  refine (srcN b _ n (by omega) (by omega) hS).mono ?_
  rintro e w1 ⟨r, rfl, ⟨r0, r1⟩, hS1, hO⟩
  obtain ⟨j, rfl⟩ := Int.eq_ofNat_of_zero_le r0
  have hj : j < n := by omega
  have hcell : w1.cell? ⟨g, j, none⟩ = some (.string (L.getD j ⟨#[]⟩)) := (hO.cell (p := ⟨g, j, none⟩) hg).trans (HC.out j hj)
  have hq := HL.out j hj
  generalize L.getD j ⟨#[]⟩ = q at hcell hq
  have HX : Hid (q ∈ L ∧ Src w1 b ∧ Only b w w1) := ⟨hq, hS1, hO⟩
  clear hS hS1 hO HC HL hq
  go_wp2
  go_ret
  exact ⟨_, rfl, HX.out⟩

def wordsA : List ByteArray := [⟨#[]⟩, ⟨#[49, 97]⟩, ⟨#[97, 32, 98]⟩, ⟨#[97, 98, 99, 100, 101, 102, 103, 104, 105, 106, 107, 108, 109, 110, 111, 112, 113, 114, 115, 116]⟩, ⟨#[97, 98, 99, 100, 101, 102, 103, 104, 105, 106, 107, 108, 109, 110, 111, 112, 113, 114, 115, 116, 117]⟩, ⟨#[10]⟩, ⟨#[255]⟩]
def wordsB : List ByteArray := [⟨#[65]⟩, ⟨#[66]⟩, ⟨#[79, 98, 106, 101, 99, 116]⟩, ⟨#[120, 36, 49]⟩, ⟨#[114, 117, 110]⟩, ⟨#[102]⟩, ⟨#[109, 97, 105, 110]⟩]

theorem words_short : ∀ t, (t ∈ wordsA ∨ t ∈ wordsB) → t.size ≤ 100 := by
  intro t h
  simp only [wordsA, wordsB, List.mem_cons, List.not_mem_nil, or_false] at h
  rcases h with (h | h | h | h | h | h | h) | h | h | h | h | h | h | h <;> subst h <;> decide

set_option maxHeartbeats 2000000 in
theorem srcWord (b : Nat) (w : World) (hS : Src w b) :
    Calls Try.prog 22 #[.pointer (some ⟨b, 0, none⟩)] w fun e w' => ∃ t, e = .returned (.string t) ∧ (t ∈ wordsA ∨ t ∈ wordsB) ∧ Src w' b ∧ Kept b w w' := by
  go_enter Try.func22, Try.ntmps22
  go_wp2_with fail
  refine (srcOne b _ 30 (by decide) (by decide) hS).mono ?_
  rintro e w1 ⟨r, rfl, hS1, hO1⟩
  have HK1 : Hid (Kept b w w1) := hO1.kept
  have hlt := hS1.lt
  have HS1 : Hid (Src w1 b) := hS1
  clear hS hS1 hO1
  cases r
  · go_wp2_with fail
    refine (srcPick b w1.heap.size 7 wordsB _ rfl (by decide) (by decide) (HS1.out.keep lit_below) (by omega) ?_).mono ?_
    · intro j hj
      rw [World.cell?_alloc_mark]
      match j, hj with
      | 0, _ | 1, _ | 2, _ | 3, _ | 4, _ | 5, _ | 6, _ => rfl
    rintro e w2 ⟨t, rfl, ht, hS2, hO2⟩
    have HX : Hid ((t ∈ wordsA ∨ t ∈ wordsB) ∧ Src w2 b ∧ Kept b w w2) := ⟨.inr ht, hS2, HK1.out.trans ((kept_alloc b w1 _).trans hO2.kept)⟩
    clear ht hS2 hO2 HK1 HS1
    go_wp2
    go_ret
    exact ⟨_, rfl, HX.out⟩
  · go_wp2_with fail
    refine (srcPick b w1.heap.size 7 wordsA _ rfl (by decide) (by decide) (HS1.out.keep lit_below) (by omega) ?_).mono ?_
    · intro j hj
      rw [World.cell?_alloc_mark]
      match j, hj with
      | 0, _ | 1, _ | 2, _ | 3, _ | 4, _ | 5, _ | 6, _ => rfl
    rintro e w2 ⟨t, rfl, ht, hS2, hO2⟩
    have HX : Hid ((t ∈ wordsA ∨ t ∈ wordsB) ∧ Src w2 b ∧ Kept b w w2) := ⟨.inl ht, hS2, HK1.out.trans ((kept_alloc b w1 _).trans hO2.kept)⟩
    clear ht hS2 hO2 HK1 HS1
    go_wp2
    go_ret
    exact ⟨_, rfl, HX.out⟩

theorem infoByte : (Try.prog.info? 5).map (fun i => (i.zero, i.size, i.bytes)) = some (some (.int .u8 0), 1, 1) := by kernel_rfl

theorem own_form {w : World} {base n : Nat} {e : TypeId} {v : Value} {xs : List Value} (h : w.ownsRow base e 1 v n xs) (hn : 0 < n) :
    ∃ g cap, v = .slice (some ⟨g, 0, none⟩) n cap ∧ ∀ j, j < n → w.cell? ⟨g, j, none⟩ = xs[j]? := by
  rcases h.2 with ⟨_, h0⟩ | ⟨g, cap, cur, rfl, _, _⟩
  · omega
  · exact ⟨g, cap, rfl, fun j hj => h.cellAt j (by omega)⟩

set_option maxHeartbeats 4000000 in
theorem drawPutText (a : Option Addr) (len cap : Nat) (zs : List Int) (w : World) (hr : IsRow .u8 w a len cap zs) (hl : len ≤ 1048576) :
    Calls Try.prog 12 #[.slice a len cap] w fun e w' => ∃ t, e = .returned (.string t) ∧ t.size ≤ 300 ∧ Below w.heap.size w w' := by
  obtain ⟨i0, hi, hz0, hz1, hz2⟩ := info_parts infoByte
  have HI : Hid (Try.prog.info? 5 = some i0 ∧ i0.zero = some (.int .u8 0) ∧ i0.size = 1 ∧ i0.bytes = 1) := ⟨hi, hz0, hz1, hz2⟩
  clear hi hz0 hz1 hz2
  go_enter Try.func12, Try.ntmps12
  go_wp2_with fail
  refine (srcMake a len cap zs _ hr hl).mono ?_
  rintro e w1 ⟨rfl, hS1, hb1⟩
  clear hr hl
  go_wp2_with fail
  refine (srcOne _ _ 20 (by decide) (by decide) hS1).mono ?_
  rintro e w2 ⟨r, rfl, hS2, hO2⟩
  have hB2 : Below w.heap.size w w2 := hb1.trans hO2.below
  have HS2 : Hid (Src w2 w.heap.size) := hS2
  have HB2 : Hid (Below w.heap.size w w2) := hB2
  clear hS1 hb1 hS2 hO2 hB2
  cases r
  · go_wp2_with fail
    refine (srcWord _ _ HS2.out).mono ?_
    rintro e w3 ⟨t, rfl, ht, _, hK⟩
    have HX : Hid (t.size ≤ 300 ∧ Below w.heap.size w w3) := ⟨by have := words_short t ht; omega, hK.below HB2.out HB2.out.size⟩
    clear ht hK
    go_wp2
    go_ret
    exact ⟨_, rfl, HX.out⟩
  · go_wp2_with fail
    refine (srcN _ _ 4 (by decide) (by decide) (HS2.out.keep lit_below)).mono ?_
    rintro e w3 ⟨r, rfl, ⟨r0, r1⟩, hS3, hO3⟩
    have hle : w.heap.size ≤ w2.heap.size := HB2.out.size
    have hlt : w.heap.size < w2.heap.size := HS2.out.lt
    have hown0 : w3.ownsRow w2.heap.size 5 1 (.slice (some ⟨w2.heap.size, 0, none⟩) 0 0) 0 [] := by
      refine ⟨rfl, .inr ⟨w2.heap.size, 0, #[], rfl, Nat.le_refl _, (hO3.block _ (by omega)).trans ?_, Nat.le_refl _, Nat.zero_le _, rfl, rfl⟩⟩
      show (w2.heap.push (.cells #[] 5))[w2.heap.size]? = _
      simp
    have hB3 : Below w.heap.size w w3 := Kept.below HB2.out hle ((kept_alloc _ w2 _).trans hO3.kept)
    have hs3 : w2.heap.size ≤ w3.heap.size := by have := hO3.size; simp at this; omega
    obtain ⟨k, rfl⟩ := Int.eq_ofNat_of_zero_le r0
    have HO : Hid (w3.ownsRow w2.heap.size 5 1 (.slice (some ⟨w2.heap.size, 0, none⟩) 0 0) 0 [] ∧ Below w.heap.size w w3) := ⟨hown0, hB3⟩
    clear hS3 hO3 hown0 hB3 HS2 HB2
    go_wp2_with fail
    go_loopw [4, 5] (fun v j wr => ∃ m n : Nat, n + m = 253 + k ∧ j = .int .i64 (m : Int) ∧ wr.ownsRow w2.heap.size 5 1 v n (List.replicate n (.int .u8 97)) ∧ Below w.heap.size w wr ∧ w2.heap.size ≤ wr.heap.size) (fun _ j _ => (intOf j).toNat)
    case atStart => exact ⟨253 + k, 0, by omega, by simp, HO.out.1, HO.out.2, hs3⟩
    case round =>
      obtain ⟨m, n, hmn, rfl, hown, hbw, hsw⟩ := hrel
      have HR := (show Hid (_ ∧ _) from ⟨hown, hbw⟩)
      clear HO hown hbw
      by_cases hm : 0 < m
      · go_wp2_with (at_builtin; refine wpList_append_own _ rfl _ _ 22 rfl w2.heap.size 5 i0 (.int .u8 0) 1 1 Try.underlying22 HI.out.1 HI.out.2.1 HI.out.2.2.1 HI.out.2.2.2 rfl (by decide) _ _ _ rfl (HR.out.1.alloc _) ⟨wr.heap.size, 0, none⟩ 1 1 [.int .u8 97] rfl rfl ?c1 ?c2 ?c3 ?c4 ?c5 ?_)
        case c1 =>
          intro j u hj
          match j, hj with
          | 0, hj => simp at hj; subst hj; simp [Addr.add]
        case c2 => intro u hu; simp at hu; subst hu; rfl
        case c3 => unfold maxLen; omega
        case c4 => omega
        case c5 => simp; omega
        intro v' w4 hown' hgrow _
        have hrow : List.replicate n (Value.int .u8 97) ++ [Value.int .u8 97] = List.replicate (n + 1) (Value.int .u8 97) := by rw [List.replicate_succ']
        rw [hrow] at hown'
        have hbx : Below w.heap.size w w4 := (HR.out.2.alloc (by omega) _).grown hgrow (by simp; omega) (fun k hk => by have := (HR.out.1.lt k hk).1; omega)
        have hsx : w2.heap.size ≤ w4.heap.size := by have := hgrow.size; simp at this; omega
        have HX := (show Hid (_ ∧ _) from ⟨hown', hbx⟩)
        clear hown' hgrow hrow hbx HR
        go_wp2
        go_roundw
        case rel => exact ⟨m - 1, n + 1, by omega, by congr 1; omega, HX.out.1, HX.out.2, hsx⟩
        case measure => simp [intOf]; omega
      · obtain ⟨g, cp, hv, hcells⟩ := own_form HR.out.1 (by omega)
        subst hv
        have hcv := run_convert_bytes_arg (P := Try.prog) wr 22 5 Try.underlying22 Try.underlying5 g 0 n cp (List.replicate n 97) (by simp) (fun i hi => by
          rw [Nat.zero_add, hcells i hi]
          simp [List.getD, hi]) 9 Try.underlying9
        have hsz : (strOfNums (List.replicate n 97)).size ≤ 300 := by rw [strOfNums_size]; simp; omega
        generalize strOfNums (List.replicate n 97) = q at *
        have HX : Hid (q.size ≤ 300 ∧ Below w.heap.size w wr) := ⟨hsz, HR.out.2⟩
        clear hcells HR hsz
        go_wp2
        go_ret
        exact ⟨_, rfl, HX.out⟩
end Go.Proofs.Ytfichaafmfmliaa
