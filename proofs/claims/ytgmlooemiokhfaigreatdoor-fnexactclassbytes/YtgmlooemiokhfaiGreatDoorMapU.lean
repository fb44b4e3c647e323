import Derived.Test.YtgmlooemiokhfaiGreatDoorMk
import Derived.Test.YtgmlooemiokhfaiGreatDoorOpF
import Derived.Test.YtgmlooemiokhfaiGreatDoorFlat
import Derived.DeepKeys3
import Derived.StringKeys
import Derived.WideKeyMaps
import Derived.Carry
import Derived.WideLaws
/-
  What a class's bytes tell, one thing behind the other; what a maker holds behind them; appending a string's bytes, and where the row lies.
-/
namespace Go.Proofs.YtgmlooemiokhfaiGreatDoor
open Go.RowKit
set_option maxRecDepth 20000
open Go.Lib (strCells)
set_option linter.unusedVariables false
/-- Appending a string's bytes: the new slice lies in the old row, or in a new block. -/
theorem run_append_str_at {P : Program} (w : World) (base : Nat) (t u ty e : TypeId) (i : TypeInfo) (ht : P.underlying t = some (.slice e)) (hu : P.underlying u = some .string) (hi : P.info? e = some i) (hz : i.zero = some (.int .u8 0))
    (hsize : i.size = 1) (hby : i.bytes = 1) (v : Value) (n : Nat) (xs : List Value) (hown : w.ownsRow base e 1 v n xs) (s : ByteArray)
    (h63 : n + s.size ≤ maxLen) (hbytes : n + s.size ≤ 140737488355328) (hbase : base ≤ w.heap.size) :
    ∃ v' w', (Builtin.append_ #[t, u] ty #[v, .string s]).run P w = .ok v' w' ∧ w'.ownsRow base e 1 v' (n + s.size) (xs ++ strCells s) ∧ w.grownBy w' v.ownBlock ∧
      (v'.ownBlock = v.ownBlock ∨ v'.ownBlock = some w.heap.size) := by
  obtain ⟨v', w', hr, h2, h3, h4⟩ := Lib.run_append_own_string (P := P) w base t u ty e i ht hu hi hz hsize hby v n xs hown s h63 hbytes hbase
  refine ⟨v', w', hr, h2, h3, ?_⟩
  have hxl : xs.length = n := by simpa using hown.1
  unfold maxLen at h63
  rcases hown.2 with ⟨rfl, rfl⟩ | ⟨g, cap, cur, rfl, hbg, hg, hnc, hcm, hcs, htake⟩
  · by_cases hm : s.size = 0
    · have e0 := h4.2 ⟨rfl, hm⟩
      subst e0
      exact .inl rfl
    · have hr2 := run_append_nil_string (P := P) w t u ty e i (.int .u8 0) ht hu hi hz s (by omega) (by omega) (by rw [hby]; omega)
      rw [hr] at hr2
      cases hr2
      exact .inr rfl
  · by_cases hroom : n + s.size ≤ cap
    · have hcs' : cur.size = cap := by simpa using hcs
      have hr2 := Lib.run_append_room_string (P := P) w t u ty e i ht hu hi hsize g n cap cur hg s hroom (by omega)
      rw [hr] at hr2
      cases hr2
      exact .inl rfl
    · have holds : ∀ j u, xs[j]? = some u → w.cell? ((⟨g, 0, none⟩ : Addr).add j) = some u := hown.cells (g := g) rfl
      have hr2 := Lib.run_append_grow_string (P := P) w t u ty e i (.int .u8 0) ht hu hi hz ⟨g, 0, none⟩ n cap xs (by rw [hsize]; simpa using hxl) holds s (by omega) (by omega) (by rw [hby]; exact growslice_fits (by omega) (by omega))
      rw [hr] at hr2
      cases hr2
      exact .inr rfl

theorem wp_append_str_at {P : Program} (w : World) {o : Oper} {a : Act} {K : Act → World → Prop} {Q : Exit → Act → World → Prop} (sl x : Operand) (t u : TypeId)
    (ho : o.op = .call { callee := .builtin .append, args := #[sl, x], argTypes := #[t, u] })
    (base : Nat) (e : TypeId) (i : TypeInfo) (ht : P.underlying t = some (.slice e)) (hu : P.underlying u = some .string) (hi : P.info? e = some i) (hz : i.zero = some (.int .u8 0))
    (hsize : i.size = 1) (hby : i.bytes = 1)
    (v : Value) (n : Nat) (xs : List Value) (hs : a.eval sl = v) (hown : w.ownsRow base e 1 v n xs) (s : ByteArray) (hx : a.eval x = .string s)
    (h63 : n + s.size ≤ maxLen) (hbytes : n + s.size ≤ 140737488355328) (hbase : base ≤ w.heap.size)
    (h : ∀ v' w', w'.ownsRow base e 1 v' (n + s.size) (xs ++ strCells s) → w.grownBy w' v.ownBlock → (v'.ownBlock = v.ownBlock ∨ v'.ownBlock = some w.heap.size) → K (a.put o.dst v') w') : o.wp P a w K Q := by
  obtain ⟨v', w', hr, h2, h3, h4⟩ := run_append_str_at (P := P) w base t u o.type e i ht hu hi hz hsize hby v n xs hown s h63 hbytes hbase
  unfold Oper.wp execOp
  simp only [ho, resolve, invoke, builtin, Sem.run_bind, Sem.run_pure, Result.andThen_ok, List.map_toArray, List.map_cons, List.map_nil, hs, hx, hr]
  exact h v' w' h2 h3 h4

theorem wpList_append_str_at {P : Program} (w : World) {ops : Array Oper} {rest : List Oper} {o : Oper} {a : Act} {Q : Exit → Act → World → Prop} (hgd : o.guard = none) (sl x : Operand) (t u : TypeId)
    (ho : o.op = .call { callee := .builtin .append, args := #[sl, x], argTypes := #[t, u] })
    (base : Nat) (e : TypeId) (i : TypeInfo) (ht : P.underlying t = some (.slice e)) (hu : P.underlying u = some .string) (hi : P.info? e = some i) (hz : i.zero = some (.int .u8 0))
    (hsize : i.size = 1) (hby : i.bytes = 1)
    (v : Value) (n : Nat) (xs : List Value) (hs : a.eval sl = v) (hown : w.ownsRow base e 1 v n xs) (s : ByteArray) (hx : a.eval x = .string s)
    (h63 : n + s.size ≤ maxLen) (hbytes : n + s.size ≤ 140737488355328) (hbase : base ≤ w.heap.size)
    (h : ∀ v' w', w'.ownsRow base e 1 v' (n + s.size) (xs ++ strCells s) → w.grownBy w' v.ownBlock → (v'.ownBlock = v.ownBlock ∨ v'.ownBlock = some w.heap.size) → wpList P ops Q rest (a.put o.dst v') w') : wpList P ops Q (o :: rest) a w :=
  wpList_plain hgd fun _ hK => wp_append_str_at w sl x t u ho base e i ht hu hi hz hsize hby v n xs hs hown s hx h63 hbytes hbase fun v' w' h2 h3 h4 => hK _ _ (h v' w' h2 h3 h4)

theorem step_append_str_at {P : Program} (w : World) {ops : Array Oper} {o : Oper} {a : Act} {K : Act → World → Prop} {Q : Exit → Act → World → Prop} {E : Prop} (hgd : o.guard = none) (sl x : Operand) (t u : TypeId)
    (ho : o.op = .call { callee := .builtin .append, args := #[sl, x], argTypes := #[t, u] })
    (base : Nat) (e : TypeId) (i : TypeInfo) (ht : P.underlying t = some (.slice e)) (hu : P.underlying u = some .string) (hi : P.info? e = some i) (hz : i.zero = some (.int .u8 0))
    (hsize : i.size = 1) (hby : i.bytes = 1)
    (v : Value) (n : Nat) (xs : List Value) (hs : a.eval sl = v) (hown : w.ownsRow base e 1 v n xs) (s : ByteArray) (hx : a.eval x = .string s)
    (h63 : n + s.size ≤ maxLen) (hbytes : n + s.size ≤ 140737488355328) (hbase : base ≤ w.heap.size)
    (h : ∀ v' w', w'.ownsRow base e 1 v' (n + s.size) (xs ++ strCells s) → w.grownBy w' v.ownBlock → (v'.ownBlock = v.ownBlock ∨ v'.ownBlock = some w.heap.size) → K (a.put o.dst v') w') :
    if Region.wanted o (yielded ops a.tmps) = true then Oper.wp P o a w K Q else E := by
  have hw : Region.wanted o (yielded ops a.tmps) = true := by simp [Region.wanted, hgd]
  rw [if_pos hw]
  exact wp_append_str_at w sl x t u ho base e i ht hu hi hz hsize hby v n xs hs hown s hx h63 hbytes hbase h

/-- A text's bytes, as numbers. -/
def nums (s : ByteArray) : List Int := s.data.toList.map fun b => (b.toNat : Int)
theorem strCells_nums (s : ByteArray) : strCells s = bC (nums s) := by simp [strCells, bC, nums]
theorem nums_length (s : ByteArray) : (nums s).length = s.size := by rw [nums, List.length_map, Array.length_toList]; rfl
theorem bC_append (a b : List Int) : bC a ++ bC b = bC (a ++ b) := by simp [bC]
theorem bC_length (a : List Int) : (bC a).length = a.length := by simp [bC]

inductive Tok where
  | n (x : Int)
  | r (s : ByteArray)
  | t (s : ByteArray)

abbrev WS := List ByteArray × List Int
def p1l (n : Int) : List Int := if 0 ≤ n ∧ n ≤ 255 then [n] else []
def tkS (st : WS) : Tok → WS
  | .n x => (st.1, st.2 ++ [x % 256])
  | .r s => (st.1, st.2 ++ nums s)
  | .t s => (mkPool st.1 s, st.2 ++ [(plc st.1 s : Int) % 256])
def tkP (st : WS) : Tok → WS
  | .n x => (st.1, st.2 ++ p1l x)
  | .r s => (st.1, st.2 ++ nums s)
  | .t s => (mkPool st.1 s, st.2 ++ p1l (plc st.1 s : Int))
def tksS (st : WS) (l : List Tok) : WS := l.foldl tkS st
def tksP (st : WS) (l : List Tok) : WS := l.foldl tkP st
theorem tksS_app (st : WS) (a b : List Tok) : tksS st (a ++ b) = tksS (tksS st a) b := by simp [tksS]
theorem tksP_app (st : WS) (a b : List Tok) : tksP st (a ++ b) = tksP (tksP st a) b := by simp [tksP]
theorem tksS_one (st : WS) (t : Tok) : tksS st [t] = tkS st t := rfl
theorem tksP_one (st : WS) (t : Tok) : tksP st [t] = tkP st t := rfl
theorem tksS_cons (st : WS) (t : Tok) (l : List Tok) : tksS st (t :: l) = tksS (tkS st t) l := rfl
theorem tksP_cons (st : WS) (t : Tok) (l : List Tok) : tksP st (t :: l) = tksP (tkP st t) l := rfl

def wt1 : Tok → Nat
  | .n _ => 1
  | .r s => s.size + 1
  | .t _ => 1
def wt (l : List Tok) : Nat := (l.map wt1).sum
theorem wt_app (a b : List Tok) : wt (a ++ b) = wt a + wt b := by simp [wt]
theorem wt_cons (a : Tok) (b : List Tok) : wt (a :: b) = wt1 a + wt b := by simp [wt]
theorem wt_nil : wt [] = 0 := rfl
/-- How much a maker holds. -/
def wz (st : WS) : Nat := st.1.length + st.2.length
theorem mkPool_length (ps : List ByteArray) (t : ByteArray) : ps.length ≤ (mkPool ps t).length ∧ (mkPool ps t).length ≤ ps.length + 1 := by
  unfold mkPool; split <;> simp
theorem p1l_length (n : Int) : (p1l n).length ≤ 1 := by unfold p1l; split <;> simp
theorem tkS_wz (st : WS) (t : Tok) : wz (tkS st t) ≤ wz st + 2 * wt1 t := by
  cases t with
  | n x => simp [tkS, wz, wt1]; omega
  | r s => simp [tkS, wz, wt1, nums_length]; omega
  | t s => have := mkPool_length st.1 s; simp [tkS, wz, wt1]; omega
theorem tkP_wz (st : WS) (t : Tok) : wz (tkP st t) ≤ wz st + 2 * wt1 t := by
  cases t with
  | n x => have := p1l_length x; simp [tkP, wz, wt1]; omega
  | r s => simp [tkP, wz, wt1, nums_length]; omega
  | t s => have := mkPool_length st.1 s; have := p1l_length (plc st.1 s : Int); simp [tkP, wz, wt1]; omega
theorem tksS_wz (l : List Tok) : ∀ st, wz (tksS st l) ≤ wz st + 2 * wt l := by
  induction l with
  | nil => intro st; simp [tksS, wt]
  | cons t l ih => intro st; rw [tksS_cons, wt_cons]; have := ih (tkS st t); have := tkS_wz st t; omega
theorem tksP_wz (l : List Tok) : ∀ st, wz (tksP st l) ≤ wz st + 2 * wt l := by
  induction l with
  | nil => intro st; simp [tksP, wt]
  | cons t l ih => intro st; rw [tksP_cons, wt_cons]; have := ih (tkP st t); have := tkP_wz st t; omega
theorem wt_flat {α : Type} (f : α → List Tok) (K : Nat) : ∀ l : List α, (∀ x ∈ l, wt (f x) ≤ K) → wt (l.flatMap f) ≤ l.length * K := by
  intro l
  induction l with
  | nil => intro _; simp [wt]
  | cons x l ih =>
    intro h
    rw [List.flatMap_cons, wt_app]
    have h1 := h x (by simp)
    have h2 := ih fun y hy => h y (by simp [hy])
    simp only [List.length_cons, Nat.add_mul, Nat.one_mul]
    omega

/-- The pool does not hang on the bytes. -/
theorem tks_pool (l : List Tok) : ∀ a b : WS, a.1 = b.1 → (tksS a l).1 = (tksP b l).1 := by
  induction l with
  | nil => intro a b h; exact h
  | cons t l ih =>
    intro a b h
    rw [tksS_cons, tksP_cons]
    refine ih _ _ ?_
    cases t with
    | n x => exact h
    | r s => exact h
    | t s => simp only [tkS, tkP, h]
theorem tksS_pool_le (l : List Tok) : ∀ a : WS, a.1.length ≤ (tksS a l).1.length := by
  induction l with
  | nil => intro a; exact Nat.le_refl _
  | cons t l ih =>
    intro a
    rw [tksS_cons]
    refine Nat.le_trans ?_ (ih _)
    cases t with
    | n x => exact Nat.le_refl _
    | r s => exact Nat.le_refl _
    | t s => exact (mkPool_length a.1 s).1
def numOk : Tok → Prop
  | .n x => 0 ≤ x ∧ x ≤ 255
  | _ => True
theorem plc_le (ps : List ByteArray) (t : ByteArray) : plc ps t ≤ ps.length := by unfold plc; exact List.findIdx_le_length
/-- Where no number is too great and the pool ends small, both makers hold the same. -/
theorem tks_same (l : List Tok) : ∀ a : WS, (∀ t ∈ l, numOk t) → (tksS a l).1.length ≤ 255 → tksP a l = tksS a l := by
  induction l with
  | nil => intro a _ _; rfl
  | cons t l ih =>
    intro a hn hl
    have e : tkP a t = tkS a t := by
      have h0 := hn t (by simp)
      rw [tksS_cons] at hl
      have h1 := Nat.le_trans (tksS_pool_le l (tkS a t)) hl
      cases t with
      | n x =>
        have h2 : 0 ≤ x ∧ x ≤ 255 := h0
        have : x % 256 = x := by omega
        simp only [tkP, tkS, p1l, if_pos h2, this]
      | r s => rfl
      | t s =>
        have h3 : (plc a.1 s : Int) ≤ 255 := by
          have := plc_le a.1 s
          have h4 : (mkPool a.1 s).length ≤ 255 := h1
          unfold mkPool at h4
          split at h4
          · omega
          · simp at h4; omega
        have : (plc a.1 s : Int) % 256 = (plc a.1 s : Int) := by omega
        simp only [tkP, tkS, p1l, if_pos (show 0 ≤ (plc a.1 s : Int) ∧ (plc a.1 s : Int) ≤ 255 from ⟨by omega, h3⟩), this]
    rw [tksP_cons, tksS_cons, e]
    exact ih _ (fun t ht => hn t (by simp [ht])) (by rw [tksS_cons] at hl; exact hl)

/-- What an instruction tells behind its Op. -/
def insArg (f : ByteArray) (a : Int) (c n d : ByteArray) : List Tok :=
  if f = ⟨#[110]⟩ then [.r (p4 a)]
  else if f = ⟨#[105]⟩ then [.n a]
  else if f = ⟨#[116]⟩ then [.n a]
  else if f = ⟨#[99]⟩ then [.t c]
  else if f = ⟨#[121]⟩ then [.t d]
  else if f = ⟨#[102]⟩ then [.t c, .t n, .t d]
  else if f = ⟨#[109]⟩ then [.t c, .t n, .t d]
  else []
theorem insArg_e (a : Int) (c n d : ByteArray) : insArg ⟨#[]⟩ a c n d = [] := by unfold insArg; rfl
theorem insArg_x (a : Int) (c n d : ByteArray) : insArg ⟨#[33]⟩ a c n d = [] := by unfold insArg; rfl
theorem insArg_n (a : Int) (c n d : ByteArray) : insArg ⟨#[110]⟩ a c n d = [.r (p4 a)] := by unfold insArg; rfl
theorem insArg_i (a : Int) (c n d : ByteArray) : insArg ⟨#[105]⟩ a c n d = [.n a] := by unfold insArg; rfl
theorem insArg_t (a : Int) (c n d : ByteArray) : insArg ⟨#[116]⟩ a c n d = [.n a] := by unfold insArg; rfl
theorem insArg_c (a : Int) (c n d : ByteArray) : insArg ⟨#[99]⟩ a c n d = [.t c] := by unfold insArg; rfl
theorem insArg_y (a : Int) (c n d : ByteArray) : insArg ⟨#[121]⟩ a c n d = [.t d] := by unfold insArg; rfl
theorem insArg_f (a : Int) (c n d : ByteArray) : insArg ⟨#[102]⟩ a c n d = [.t c, .t n, .t d] := by unfold insArg; rfl
theorem insArg_m (a : Int) (c n d : ByteArray) : insArg ⟨#[109]⟩ a c n d = [.t c, .t n, .t d] := by unfold insArg; rfl
def insTok (x : InsD) : List Tok := .n x.1 :: insArg (fmS x.1) x.2.1 x.2.2.1 x.2.2.2.1 x.2.2.2.2
def hanTok (x : HandlerD) : List Tok := [.n x.1, .n x.2.1, .n x.2.2.1, .t x.2.2.2]
def fl3 (a b c : Bool) : Int := (if a then 1 else 0) + (if b then 2 else 0) + (if c then 4 else 0)
def fldTok (x : FieldD) : List Tok := [.t x.1, .t x.2.1, .n (fl3 x.2.2 false false)]
theorem p4_size (n : Int) : (p4 n).size ≤ 4 := by
  unfold p4
  split
  · rw [strOfNums_size]; exact Nat.le_refl 4
  · decide
theorem insTok_wt (x : InsD) : wt (insTok x) ≤ 6 := by
  unfold insTok
  rw [wt_cons]
  have h4 := p4_size x.2.1
  unfold insArg
  repeat' split
  all_goals simp [wt, wt1]
  all_goals omega
theorem hanTok_wt (x : HandlerD) : wt (hanTok x) ≤ 4 := by simp [hanTok, wt, wt1]
theorem fldTok_wt (x : FieldD) : wt (fldTok x) ≤ 3 := by simp [fldTok, wt, wt1]

/-- A block that is no maker's own: its cells. -/
structure Box (F : Nat → Prop) (w : World) (k : Nat) (cs : List Value) : Prop where
  lt : k < w.heap.size
  no : ¬ F k
  cells : ∀ j v, cs[j]? = some v → w.cell? ⟨k, j, none⟩ = some v
theorem Kept.box {mb k : Nat} {F F' : Nat → Prop} {w w' : World} {cs : List Value} (h : Kept mb F w w' F') (b : Box F w k cs) : Box F' w' k cs :=
  ⟨Nat.lt_of_lt_of_le b.lt h.low.size, (h.far k b.lt b.no).2, fun j v hj => (World.cell?_of_block (h.far k b.lt b.no).1).trans (b.cells j v hj)⟩
theorem Box.below {k : Nat} {F : Nat → Prop} {w w' : World} {cs : List Value} (b : Box F w k cs) (h : Below w.heap.size w w') : Box F w' k cs :=
  ⟨Nat.lt_of_lt_of_le b.lt h.size, b.no, fun j v hj => (World.cell?_of_block (h.block k b.lt)).trans (b.cells j v hj)⟩
theorem box_new {F : Nat → Prop} {w : World} {t : TypeId} (cs : List Value) (hF : ∀ k, F k → k < w.heap.size) : Box F (w.alloc (.cells cs.toArray t)) w.heap.size cs :=
  ⟨by simp, fun h => Nat.lt_irrefl _ (hF _ h), fun j v hj => by
    have hb : (w.alloc (.cells cs.toArray t)).heap[w.heap.size]? = some (.cells cs.toArray t (0, 0)) := heap_alloc_new w _
    have := World.news_of_block hb j v hj
    rwa [plain_add, Nat.zero_add] at this⟩

theorem wz_n (st : WS) (x : Int) : wz (tkS st (.n x)) ≤ wz st + 2 := tkS_wz st (.n x)
theorem wz_t (st : WS) (s : ByteArray) : wz (tkS st (.t s)) ≤ wz st + 2 := tkS_wz st (.t s)
theorem wzP_n (st : WS) (x : Int) : wz (tkP st (.n x)) ≤ wz st + 2 := tkP_wz st (.n x)
/-- The model's maker holds st; F: its own blocks. -/
def MkS (mb : Nat) (w : World) (st : WS) (F : Nat → Prop) : Prop := ∃ vp vb, MkAt w mb st.1 st.2 vp vb ∧ F = own mb vp vb
theorem MkS.below {mb : Nat} {w w' : World} {st : WS} {F : Nat → Prop} (h : MkS mb w st F) (hb : Below w.heap.size w w') : MkS mb w' st F := by
  obtain ⟨vp, vb, h1, h2⟩ := h
  exact ⟨vp, vb, h1.below hb, h2⟩
theorem MkS.own_lt {mb : Nat} {w : World} {st : WS} {F : Nat → Prop} (h : MkS mb w st F) : ∀ k, F k → k < w.heap.size := by
  obtain ⟨vp, vb, h1, rfl⟩ := h
  rintro k (e | e | e)
  · rw [e]; exact h1.lt
  · exact (h1.op.lt k e).2
  · exact (h1.ob.lt k e).2
theorem MkS.mb_lt {mb : Nat} {w : World} {st : WS} {F : Nat → Prop} (h : MkS mb w st F) : mb < w.heap.size := by
  obtain ⟨vp, vb, h1, rfl⟩ := h
  exact h1.lt

theorem specNumT (mb : Nat) (n : Int) (st : WS) (F : Nat → Prop) (w : World) (h : MkS mb w st F) (hz : wz st ≤ 1000000) :
    Calls Tryz.prog 108 #[.pointer (some ⟨mb, 0, none⟩), .int .i64 n] w fun e w' => e = .returned (.tuple #[]) ∧ ∃ F', MkS mb w' (tkS st (.n n)) F' ∧ Kept mb F w w' F' := by
  obtain ⟨vp, vb, h1, rfl⟩ := h
  unfold wz at hz
  refine (specMkNum mb n st.1 st.2 vp vb w h1 (by omega)).mono ?_
  rintro e w' ⟨rfl, vb', h2, h3⟩
  exact ⟨rfl, _, ⟨vp, vb', h2, rfl⟩, h3⟩
theorem specTextT (mb : Nat) (t : ByteArray) (st : WS) (F : Nat → Prop) (w : World) (h : MkS mb w st F) (hz : wz st ≤ 1000000) :
    Calls Tryz.prog 107 #[.pointer (some ⟨mb, 0, none⟩), .string t] w fun e w' => e = .returned (.tuple #[]) ∧ ∃ F', MkS mb w' (tkS st (.t t)) F' ∧ Kept mb F w w' F' := by
  obtain ⟨vp, vb, h1, rfl⟩ := h
  unfold wz at hz
  refine (specMkText mb t st.1 st.2 vp vb w h1 (by omega) (by omega)).mono ?_
  rintro e w' ⟨rfl, vp', vb', h2, h3⟩
  exact ⟨rfl, _, ⟨vp', vb', h2, rfl⟩, h3⟩
set_option maxHeartbeats 400000 in
theorem specFlags (a b c : Bool) (w : World) :
    Calls Tryz.prog 109 #[.bool a, .bool b, .bool c] w fun e w' => e = .returned (.int .i64 (fl3 a b c)) ∧ w' = w := by
  cases a <;> cases b <;> cases c
  all_goals
    go_enter Tryz.func109, Tryz.ntmps109
    go_wp2
    go_ret
    exact ⟨rfl, rfl⟩
end Go.Proofs.YtgmlooemiokhfaiGreatDoor

/-
  The program's buffer: a text that grows at its end, in memory.
-/
namespace Go.Proofs.YtgmlooemiokhfaiGreatDoor
open Go.RowKit
set_option maxRecDepth 20000
open Go.Lib (strCells)
set_option linter.unusedVariables false

/-- A buffer at block B (its first cell) holds the bytes bs. -/
structure BufAt (w : World) (B : Nat) (bs : List Int) (vb : Value) : Prop where
  c0 : w.cell? ⟨B, 0, none⟩ = some vb
  f0 : w.frozen? ⟨B, 0, none⟩ = false
  ob : w.ownsRow (B + 1) 5 1 vb bs.length (bC bs)
  lt : B < w.heap.size
structure BufKept (B : Nat) (w w' : World) (vb vb' : Value) : Prop where
  low : Below B w w'
  far : ∀ k, k < w.heap.size → k ≠ B → vb.ownBlock ≠ some k → w'.heap[k]? = w.heap[k]?
  side : ∀ j, j ≠ 0 → w'.cell? ⟨B, j, none⟩ = w.cell? ⟨B, j, none⟩
  fro : ∀ j, w'.frozen? ⟨B, j, none⟩ = w.frozen? ⟨B, j, none⟩
  lies : vb'.ownBlock = vb.ownBlock ∨ ∃ g, vb'.ownBlock = some g ∧ w.heap.size ≤ g
theorem BufAt.below {w w' : World} {B : Nat} {bs : List Int} {vb : Value} (h : BufAt w B bs vb) (hb : Below w.heap.size w w') : BufAt w' B bs vb :=
  ⟨(hb.cell h.lt).trans h.c0, (hb.frozen h.lt).trans h.f0, by
    refine ⟨h.ob.1, ?_⟩
    rcases h.ob.2 with k | ⟨g, cap, cur, h1, h2, h3, h4⟩
    · exact .inl k
    · exact .inr ⟨g, cap, cur, h1, h2, (hb.block g (Array.getElem?_eq_some_iff.1 h3).1).trans h3, h4⟩, Nat.lt_of_lt_of_le h.lt hb.size⟩
theorem BufKept.pre {B : Nat} {w w1 w' : World} {vb vb' : Value} (hB : B < w.heap.size) (hb : Below w.heap.size w w1) (h : BufKept B w1 w' vb vb') : BufKept B w w' vb vb' :=
  ⟨(hb.mono (Nat.le_of_lt hB)).trans h.low, fun k hk n1 n2 => (h.far k (Nat.lt_of_lt_of_le hk hb.size) n1 n2).trans (hb.block k hk), fun j hj => (h.side j hj).trans (hb.cell hB), fun j => (h.fro j).trans (hb.frozen hB), by
    rcases h.lies with e | ⟨g, e, hg⟩
    · exact .inl e
    · exact .inr ⟨g, e, Nat.le_trans hb.size hg⟩⟩
theorem BufKept.trans {B : Nat} {a b c : World} {v v1 v2 : Value} (hv : ∀ k, v1.ownBlock = some k → k < b.heap.size) (h : BufKept B a b v v1) (k : BufKept B b c v1 v2) : BufKept B a c v v2 :=
  ⟨h.low.trans k.low, fun i hi n1 n2 => (k.far i (Nat.lt_of_lt_of_le hi h.low.size) n1 (fun e => by
      rcases h.lies with e1 | ⟨g, e1, hg⟩
      · exact n2 (e1.symm.trans e)
      · rw [e1] at e; cases e; omega)).trans (h.far i hi n1 n2), fun j hj => (k.side j hj).trans (h.side j hj), fun j => (k.fro j).trans (h.fro j), by
    rcases k.lies with e | ⟨g, e, hg⟩
    · rcases h.lies with e1 | ⟨g, e1, hg⟩
      · exact .inl (e.trans e1)
      · exact .inr ⟨g, e.trans e1, hg⟩
    · exact .inr ⟨g, e, Nat.le_trans h.low.size hg⟩⟩
/-- Behind an append. -/
theorem BufAt.put {w w1 : World} {B : Nat} {bs more : List Int} {vb v' : Value} (h : BufAt w B bs vb) (hg : w.grownBy w1 vb.ownBlock)
    (hown : w1.ownsRow (B + 1) 5 1 v' (bs ++ more).length (bC (bs ++ more))) (hat : v'.ownBlock = vb.ownBlock ∨ v'.ownBlock = some w.heap.size) : BufAt (w1.setCell ⟨B, 0, none⟩ v') B (bs ++ more) v' ∧ BufKept B w (w1.setCell ⟨B, 0, none⟩ v') vb v' := by
  have hne : some B ≠ vb.ownBlock := fun e => by have := (h.ob.lt B e.symm).1; omega
  have hblk := hg.block B h.lt hne
  have k0 : w1.cell? ⟨B, 0, none⟩ = some vb := (World.cell?_of_block hblk).trans h.c0
  refine ⟨⟨World.cell?_setCell_same _ _ _ k0, ?_, owns_put hown (by simp), ?_⟩, ⟨?_, fun k hk n1 n2 => ?_, fun j hj => ?_, fun j => ?_, ?_⟩⟩
  · rw [World.frozen?_setCell]; exact (World.frozen?_of_block hblk).trans h.f0
  · have := hg.size; have := h.lt; simp [World.setCell]; omega
  · refine Below.setCell (p := ⟨B, 0, none⟩) ?_ (Nat.le_refl B) _
    exact (Below.refl B w).grown hg (Nat.le_of_lt h.lt) (fun k hk => by have := (h.ob.lt k hk).1; omega)
  · exact (Below.heap_setCell _ _ _ _ n1).trans (hg.block k hk (Ne.symm n2))
  · rw [World.cell?_setCell_other _ _ _ _ (by intro e; cases e; exact hj rfl)]; exact World.cell?_of_block hblk
  · rw [World.frozen?_setCell]; exact World.frozen?_of_block hblk
  · rcases hat with e | e
    · exact .inl e
    · exact .inr ⟨_, e, Nat.le_refl _⟩

set_option maxHeartbeats 1000000 in
theorem implPut (B : Nat) (s : ByteArray) (bs : List Int) (vb : Value) (w : World) (h : BufAt w B bs vb) (hl : bs.length + s.size ≤ 10000000) :
    Calls Tryz.prog 32 #[.pointer (some ⟨B, 0, none⟩), .string s] w fun e w' => e = .returned (.tuple #[]) ∧ ∃ vb', BufAt w' B (bs ++ nums s) vb' ∧ BufKept B w w' vb vb' := by
  obtain ⟨i0, hi0, hz0, hz1, hz2⟩ := info_parts byteInfo
  have HI : Hid (Tryz.prog.info? 5 = some i0 ∧ i0.zero = some (.int .u8 0) ∧ i0.size = 1 ∧ i0.bytes = 1) := ⟨hi0, hz0, hz1, hz2⟩
  clear hi0 hz0 hz1 hz2
  have c0 := h.c0
  have hlt := h.lt
  have HM := (show Hid (BufAt w B bs vb) from h)
  have HO : Hid (∃ a cap, vb = .slice a bs.length cap) := by
    show ∃ a cap, _
    rcases h.ob.2 with ⟨e, h0⟩ | ⟨g, cap, cur, e, _⟩
    · exact ⟨none, 0, by rw [e, h0]⟩
    · exact ⟨_, _, e⟩
  clear h
  obtain ⟨a, cap, rfl⟩ := HO.out
  clear HO
  go_enter Tryz.func32, Tryz.ntmps32
  go_wp2_with (at_builtin; refine wpList_append_str_at _ rfl _ _ 59 9 rfl (B + 1) 5 i0 Tryz.underlying59 Tryz.underlying9 HI.out.1 HI.out.2.1 HI.out.2.2.1 HI.out.2.2.2 _ _ _ rfl HM.out.ob s rfl ?c3 ?c4 ?c5 ?_)
  case c3 => unfold maxLen; omega
  case c4 => omega
  case c5 => omega
  intro v' w4 hown hgrow hat
  have HW4 := (show Hid _ from HM.out.put (more := nums s) hgrow (by rw [← bC_append, ← strCells_nums, List.length_append, nums_length]; exact hown) hat)
  have hne : some B ≠ (Value.slice a bs.length cap).ownBlock := fun e => by have := (HM.out.ob.lt B e.symm).1; omega
  have k1 : w4.cell? ⟨B, 0, none⟩ = some (.slice a bs.length cap) := (hgrow.cell_far _ hlt hne).trans c0
  have z1 : w4.frozen? ⟨B, 0, none⟩ = false := (hgrow.frozen_far _ hlt hne).trans HM.out.f0
  have HVF : Hid (∃ g cp, v' = .slice g (bs.length + s.size) cp) := by
    show ∃ g cp, _
    rcases hown.2 with ⟨e, h0⟩ | ⟨g, cap, cur, e, _⟩
    · exact ⟨none, 0, by rw [e, h0]⟩
    · exact ⟨_, _, e⟩
  obtain ⟨g4, cp4, rfl⟩ := HVF.out
  clear hown hgrow hat HVF hne c0
  go_wp2
  refine bodyPost_end (v := .tuple #[]) (by simp [results, go_sem]) rfl ⟨rfl, _, HW4.out.1, HW4.out.2⟩

theorem nums_p1 (n : Int) : nums (p1 n) = p1l n := by
  unfold p1 p1l
  split
  · next h =>
    have : (n.toNat % 256 : Nat) = n.toNat := by omega
    simp [nums, strOfNums_data, UInt8.toNat_ofNat', this]
    omega
  · rfl
set_option maxHeartbeats 1000000 in
theorem implBuf1 (B : Nat) (n : Int) (bs : List Int) (vb : Value) (w : World) (h : BufAt w B bs vb) (hl : bs.length ≤ 5000000) :
    Calls Tryz.prog 33 #[.pointer (some ⟨B, 0, none⟩), .int .i64 n] w fun e w' => e = .returned (.tuple #[]) ∧ ∃ vb', BufAt w' B (bs ++ p1l n) vb' ∧ BufKept B w w' vb vb' := by
  have HP : Hid (∀ w, Calls Tryz.prog 65 #[.int .i64 n] w fun e w' => e = .returned (.string (p1 n)) ∧ Below w.heap.size w w') := fun w => implPut1 n w
  have hs : (p1 n).size ≤ 1 := by rw [← nums_length, nums_p1]; exact p1l_length n
  have HN : Hid (bs ++ nums (p1 n) = bs ++ p1l n) := by show _ = _; rw [nums_p1]
  have HM := (show Hid (BufAt w B bs vb) from h)
  clear h
  generalize p1 n = s at *
  go_enter Tryz.func33, Tryz.ntmps33
  go_wp2_with fail
  refine Calls.mono (HP.out _) ?_
  rintro e w1 ⟨rfl, hb1⟩
  have HB1 := (show Hid (Below w.heap.size w w1) from hb1)
  clear hb1
  go_wp2_with fail
  refine Calls.mono (implPut B s bs vb w1 (HM.out.below HB1.out) (by omega)) ?_
  rintro e w2 ⟨rfl, vb', h1, h2⟩
  have HX : Hid (BufAt w2 B (bs ++ p1l n) vb' ∧ BufKept B w w2 vb vb') := ⟨by rw [← HN.out]; exact h1, h2.pre HM.out.lt HB1.out⟩
  clear h1 h2
  go_wp2
  refine bodyPost_end (v := .tuple #[]) (by simp [results, go_sem]) rfl ⟨rfl, _, HX.out.1, HX.out.2⟩
set_option maxHeartbeats 1000000 in
theorem implBuf4 (B : Nat) (n : Int) (bs : List Int) (vb : Value) (w : World) (h : BufAt w B bs vb) (hl : bs.length ≤ 5000000) :
    Calls Tryz.prog 166 #[.pointer (some ⟨B, 0, none⟩), .int .i64 n] w fun e w' => e = .returned (.tuple #[]) ∧ ∃ vb', BufAt w' B (bs ++ nums (p4 n)) vb' ∧ BufKept B w w' vb vb' := by
  have HP : Hid (∀ w, Calls Tryz.prog 177 #[.int .i64 n] w fun e w' => e = .returned (.string (p4 n)) ∧ Below w.heap.size w w') := fun w => implPut4 n w
  have hs := p4_size n
  have HM := (show Hid (BufAt w B bs vb) from h)
  clear h
  generalize p4 n = s at *
  go_enter Tryz.func166, Tryz.ntmps166
  go_wp2_with fail
  refine Calls.mono (HP.out _) ?_
  rintro e w1 ⟨rfl, hb1⟩
  have HB1 := (show Hid (Below w.heap.size w w1) from hb1)
  clear hb1
  go_wp2_with fail
  refine Calls.mono (implPut B s bs vb w1 (HM.out.below HB1.out) (by omega)) ?_
  rintro e w2 ⟨rfl, vb', h1, h2⟩
  have HX : Hid (BufAt w2 B (bs ++ nums s) vb' ∧ BufKept B w w2 vb vb') := ⟨h1, h2.pre HM.out.lt HB1.out⟩
  clear h1 h2
  go_wp2
  refine bodyPost_end (v := .tuple #[]) (by simp [results, go_sem]) rfl ⟨rfl, _, HX.out.1, HX.out.2⟩

/-- Flags, the first one the lowest bit. -/
def flB (ls : List Bool) : Int := fl3 (ls.getD 0 false) (ls.getD 1 false) (ls.getD 2 false)
theorem flB1 (ls : List Bool) (h : 0 < ls.length) : flB (ls.take 1) = fl3 ls[0] false false := by
  match ls, h with
  | a :: r, _ => simp [flB]
theorem flB2 (ls : List Bool) (h : 1 < ls.length) : flB (ls.take 2) = fl3 ls[0] ls[1] false := by
  match ls, h with
  | a :: b :: r, _ => simp [flB]
theorem flB3 (ls : List Bool) (h : 2 < ls.length) : flB (ls.take 3) = fl3 ls[0] ls[1] ls[2] := by
  match ls, h with
  | a :: b :: c :: r, _ => simp [flB]
set_option maxHeartbeats 2000000 in
theorem implFlags (B tb : Nat) (ls : List Bool) (hn : ls.length ≤ 3) (bs : List Int) (vb : Value) (w : World) (h : BufAt w B bs vb) (hl : bs.length ≤ 5000000) (ht : ∀ j (hj : j < ls.length), w.cell? ⟨tb, j, none⟩ = some (.bool ls[j])) :
    Calls Tryz.prog 112 #[.pointer (some ⟨B, 0, none⟩), .slice (some ⟨tb, 0, none⟩) ls.length ls.length] w fun e w' => e = .returned (.tuple #[]) ∧ ∃ vb', BufAt w' B (bs ++ p1l (flB ls)) vb' ∧ BufKept B w w' vb vb' := by
  have HM := (show Hid (BufAt w B bs vb) from h)
  have HT := (show Hid (∀ j (hj : j < ls.length), w.cell? ⟨tb, j, none⟩ = some (.bool ls[j])) from ht)
  clear h ht
  have HP : Hid (∀ n, Calls Tryz.prog 33 #[.pointer (some ⟨B, 0, none⟩), .int .i64 n] w fun e w' => e = .returned (.tuple #[]) ∧ ∃ vb', BufAt w' B (bs ++ p1l n) vb' ∧ BufKept B w w' vb vb') := fun n => implBuf1 B n bs vb w HM.out hl
  have HF : Hid (flB (ls.take ls.length) = flB ls) := by show _ = _; rw [List.take_of_length_le (Nat.le_refl _)]
  go_enter Tryz.func112, Tryz.ntmps112
  go_wp2_with fail
  go_loopw [4, 5, 6, 9] (fun j4 j5 j6 j9 wr => ∃ i : Nat, wr = w ∧ i ≤ ls.length ∧ j9 = .int .i64 (i : Int) ∧ j4 = .int .i64 (flB (ls.take i))) (fun _ _ _ j9 _ => ls.length - (intOf j9).toNat)
  case atStart => exact ⟨0, rfl, Nat.zero_le _, rfl, rfl⟩
  case round =>
    obtain ⟨i, hwr, hi, rfl, rfl⟩ := hrel
    subst wr
    by_cases hlt : i < ls.length
    · have hi3 : i = 0 ∨ i = 1 ∨ i = 2 := by omega
      rcases hi3 with rfl | rfl | rfl
      · have hc := HT.out 0 hlt
        have HV : Hid (flB (ls.take (0 + 1)) = fl3 ls[0] false false) := flB1 ls hlt
        have hv0 : flB (ls.take 0) = 0 := rfl
        rw [hv0]
        generalize ls[0] = b0 at *
        cases b0
        · go_wp2
          go_roundw
          case rel => exact ⟨0 + 1, by first | rfl | trivial, by omega, by go_num, by rw [HV.out]; rfl⟩
          case measure => simp [intOf]; omega
        · go_wp2
          go_roundw
          case rel => exact ⟨0 + 1, by first | rfl | trivial, by omega, by go_num, by rw [HV.out]; rfl⟩
          case measure => simp [intOf]; omega
      · have hc := HT.out 1 hlt
        have HV : Hid (flB (ls.take (1 + 1)) = fl3 ls[0] ls[1] false) := flB2 ls hlt
        have hv0 : flB (ls.take 1) = fl3 ls[0] false false := flB1 ls (by omega)
        rw [hv0]
        clear hv0
        generalize ls[0] = b0 at *
        generalize ls[1] = b1 at *
        have hf0 : fl3 false false false = 0 := rfl
        have hf1 : fl3 true false false = 1 := rfl
        cases b0 <;> cases b1 <;> simp only [hf0, hf1]
        all_goals
          go_wp2
          go_roundw
          case rel => exact ⟨1 + 1, by first | rfl | trivial, by omega, by go_num, by rw [HV.out]; rfl⟩
          case measure => simp [intOf]; omega
      · have hc := HT.out 2 hlt
        have HV : Hid (flB (ls.take (2 + 1)) = fl3 ls[0] ls[1] ls[2]) := flB3 ls hlt
        have hv0 : flB (ls.take 2) = fl3 ls[0] ls[1] false := flB2 ls (by omega)
        rw [hv0]
        clear hv0
        generalize ls[0] = b0 at *
        generalize ls[1] = b1 at *
        generalize ls[2] = b2 at *
        have hf0 : fl3 false false false = 0 := rfl
        have hf1 : fl3 true false false = 1 := rfl
        have hf2 : fl3 false true false = 2 := rfl
        have hf3 : fl3 true true false = 3 := rfl
        cases b0 <;> cases b1 <;> cases b2 <;> simp only [hf0, hf1, hf2, hf3]
        all_goals
          go_wp2
          go_roundw
          case rel => exact ⟨2 + 1, by first | rfl | trivial, by omega, by go_num, by rw [HV.out]; rfl⟩
          case measure => simp [intOf]; omega
    · obtain rfl : i = ls.length := by omega
      rw [HF.out]
      go_wp2_with fail
      refine Calls.mono (HP.out _) ?_
      rintro e w2 ⟨rfl, vb', h1, h2⟩
      have HX : Hid (BufAt w2 B (bs ++ p1l (flB ls)) vb' ∧ BufKept B w w2 vb vb') := ⟨h1, h2⟩
      clear h1 h2
      go_wp2
      refine bodyPost_end (v := .tuple #[]) (by simp [results, go_sem]) rfl ⟨rfl, _, HX.out.1, HX.out.2⟩
end Go.Proofs.YtgmlooemiokhfaiGreatDoor

/-
  A map's update and its length, at keys that are texts or pairs of texts; what the number of its entries tells of the keys.
-/
namespace Go.Proofs.YtgmlooemiokhfaiGreatDoor
open Go.RowKit
set_option maxRecDepth 20000
open Go.WideMaps (KeyLaw)
set_option linter.unusedVariables false

/-- A block written anew. -/
def mapPut (w : World) (r : Nat) (o : Obj) : World := { w with heap := w.heap.setIfInBounds r o }

theorem mapPut_at {w : World} {r : Nat} {o o' : Obj} (hb : w.heap[r]? = some o) : (mapPut w r o').heap[r]? = some o' := (MapKept.heap_set hb).1
theorem mapPut_other {w : World} {r k : Nat} {o' : Obj} (h : k ≠ r) : (mapPut w r o').heap[k]? = w.heap[k]? := by
  unfold mapPut
  simp [Ne.symm h]
theorem mapPut_size (w : World) (r : Nat) (o : Obj) : (mapPut w r o).heap.size = w.heap.size := by unfold mapPut; simp
theorem mapPut_below {B r : Nat} {a w : World} (h : Below B a w) (hr : B ≤ r) (o : Obj) : Below B a (mapPut w r o) :=
  h.trans ⟨rfl, rfl, rfl, by rw [mapPut_size]; exact Nat.le_refl _, fun k hk => mapPut_other (by omega)⟩

theorem run_upd {P : Program} {kt et mty : TypeId} (K : KeyLaw P kt) (hm : P.underlying mty = some (.map kt et)) {w : World} {r : Nat} {es : Array MapEntry} {clock : Nat} (hb : w.heap[r]? = some (.map es clock))
    (hks : ∀ e ∈ es.toList, ∃ l, keyOf P kt e.key = some l) {x : Value} {l : Lit} (hx : keyOf P kt x = some l) (val : Value) :
    ((∀ e ∈ es.toList, e.key ≠ x) ∧ (Instr.mapUpdate mty (.map (some r)) x val).run P w = .ok () (mapPut w r (.map (es.push { key := x, val := val, born := clock }) (clock + 1)))) ∨
    (∃ j e, es[j]? = some e ∧ e.key = x ∧ (Instr.mapUpdate mty (.map (some r)) x val).run P w = .ok () (mapPut w r (.map (es.modify j fun e => { e with key := x, val := val }) clock))) := by
  have hc := K.check w false hx
  rcases K.find w hx es.toList hks with ⟨h1, h2⟩ | ⟨j, e, h1, h2, h3⟩
  · refine .inl ⟨h2, ?_⟩
    simp [Instr.mapUpdate, run_underlying hm, MapKept.run_getObj_map hb, hc, h1, MapKept.run_setObj_map _ hb, Result.andThen, mapPut]
  · have hj : es[j]? = some e := by simpa using h2
    refine .inr ⟨j, e, hj, h3, ?_⟩
    have hst := K.stays w hx
    simp [Instr.mapUpdate, run_underlying hm, MapKept.run_getObj_map hb, hc, h1, hj, h3, hst, MapKept.run_setObj_map _ hb, Result.andThen, mapPut]

/-- A map that was written at the first i keys. -/
structure KInv (ks : List Value) (i : Nat) (es : Array MapEntry) : Prop where
  keys : ∀ v, (∃ e ∈ es.toList, e.key = v) ↔ v ∈ ks.take i
  le : es.size ≤ i
  eq : es.size = i ↔ (ks.take i).Nodup

theorem KInv.start (ks : List Value) : KInv ks 0 #[] := ⟨by simp, by simp, by simp⟩
theorem KInv.new {ks : List Value} {i : Nat} {es : Array MapEntry} (h : KInv ks i es) (hi : i < ks.length) (hn : ∀ e ∈ es.toList, e.key ≠ ks[i]) (val : Value) (born : Nat) : KInv ks (i + 1) (es.push { key := ks[i], val := val, born := born }) := by
  have ht : ks.take (i + 1) = ks.take i ++ [ks[i]] := by rw [List.take_add_one, List.getElem?_eq_getElem hi]; rfl
  have hnot : ks[i] ∉ ks.take i := fun hm => by
    obtain ⟨e, he, hk⟩ := (h.keys _).2 hm
    exact hn e he hk
  refine ⟨fun v => ?_, by simp; have := h.le; omega, ?_⟩
  · rw [ht, List.mem_append, ← h.keys v]
    simp only [Array.toList_push, List.mem_append, List.mem_singleton]
    constructor
    · rintro ⟨e, he | rfl, hk⟩
      · exact .inl ⟨e, he, hk⟩
      · exact .inr hk.symm
    · rintro (⟨e, he, hk⟩ | rfl)
      · exact ⟨e, .inl he, hk⟩
      · exact ⟨_, .inr rfl, rfl⟩
  · rw [ht, List.nodup_append, ← h.eq]
    simp only [Array.size_push]
    constructor
    · intro e
      refine ⟨by omega, by simp, fun a ha b hb e2 => ?_⟩
      rw [List.mem_singleton] at hb
      subst hb
      exact hnot (e2 ▸ ha)
    · intro e; omega
theorem KInv.old {ks : List Value} {i : Nat} {es : Array MapEntry} (h : KInv ks i es) (hi : i < ks.length) {j : Nat} {e : MapEntry} (hj : es[j]? = some e) (hk : e.key = ks[i]) (val : Value) : KInv ks (i + 1) (es.modify j fun e => { e with key := ks[i], val := val }) := by
  have ht : ks.take (i + 1) = ks.take i ++ [ks[i]] := by rw [List.take_add_one, List.getElem?_eq_getElem hi]; rfl
  have hem : e ∈ es.toList := MapFrom.at_mem hj
  have hin : ks[i] ∈ ks.take i := (h.keys _).1 ⟨e, hem, hk⟩
  refine ⟨fun v => ?_, by simp; have := h.le; omega, ?_⟩
  · rw [ht, List.mem_append, List.mem_singleton]
    constructor
    · rintro ⟨e', he', hv⟩
      rcases MapFrom.mem_modify he' with he' | ⟨e2, _, rfl⟩
      · exact .inl ((h.keys v).1 ⟨e', he', hv⟩)
      · exact .inr hv.symm
    · rintro (hv | rfl)
      · obtain ⟨e', he', hk'⟩ := (h.keys v).2 hv
        rw [Array.mem_toList_iff, Array.mem_iff_getElem?] at he'
        obtain ⟨n, hn⟩ := he'
        by_cases hjn : n = j
        · subst hjn
          rw [hj] at hn
          cases hn
          refine ⟨{ e with key := ks[i], val := val }, ?_, by rw [← hk', hk]⟩
          rw [Array.mem_toList_iff, Array.mem_iff_getElem?]
          exact ⟨n, by rw [Array.getElem?_modify, if_pos rfl, hj]; rfl⟩
        · refine ⟨e', ?_, hk'⟩
          rw [Array.mem_toList_iff, Array.mem_iff_getElem?]
          exact ⟨n, by rw [Array.getElem?_modify, if_neg (by omega), hn]⟩
      · refine ⟨{ e with key := ks[i], val := val }, ?_, rfl⟩
        rw [Array.mem_toList_iff, Array.mem_iff_getElem?]
        exact ⟨j, by rw [Array.getElem?_modify, if_pos rfl, hj]; rfl⟩
  · rw [ht, List.nodup_append]
    simp only [Array.size_modify]
    constructor
    · intro e2; have := h.le; omega
    · intro e2; exact absurd rfl (e2.2.2 ks[i] hin ks[i] (by simp))

theorem strLaw : KeyLaw Tryz.prog 9 := WideMaps.string_law Tryz.underlying9
theorem pairLaw : KeyLaw Tryz.prog 139 := deep_law (m := 3) (by omega) (by kernel_rfl) (by kernel_rfl) (by kernel_rfl)
theorem key_pair (a b : ByteArray) (ha : a.size ≤ maxLen) (hb : b.size ≤ maxLen) : ∃ l, keyOf Tryz.prog 139 (.agg #[.string a, .string b]) = some l := by
  have h1 : Tryz.prog.keyType 139 = true := by kernel_rfl
  have h2 : (Value.agg #[.string a, .string b]).formed Tryz.prog 139 = true := by kernel_rfl
  have hs : ∀ (n : Nat) (s : ByteArray), s.size ≤ maxLen → Tryz.prog.keyLits (n + 1) 9 [.string s] = some [.string s.data.toList] := fun n s h => by
    unfold Program.keyLits; rw [Tryz.underlying9]; simp [h]
  unfold keyOf
  rw [Tryz.underlying139]
  simp only [h1, h2, Bool.and_self, if_true]
  have h3 : ∀ n, Tryz.prog.keyLits (n + 1 + 1) 139 (Value.agg #[.string a, .string b]).cells.toList = some [.string a.data.toList, .string b.data.toList] := fun n => by
    unfold Program.keyLits
    rw [Tryz.underlying139]
    have c1 : Tryz.prog.cellsOf 139 = 2 := by kernel_rfl
    have c2 : Tryz.prog.cellsOf 9 = 1 := by kernel_rfl
    simp [Value.cells, c1, c2, hs n a ha, hs n b hb]
  have hsz : ∃ n, Tryz.prog.types.size + 1 = n + 1 + 1 := ⟨Tryz.prog.types.size - 1, by have : 0 < Tryz.prog.types.size := of_decide_eq_true (by kernel_rfl); omega⟩
  obtain ⟨n, hn⟩ := hsz
  rw [hn, h3]
  exact ⟨_, rfl⟩
end Go.Proofs.YtgmlooemiokhfaiGreatDoor
