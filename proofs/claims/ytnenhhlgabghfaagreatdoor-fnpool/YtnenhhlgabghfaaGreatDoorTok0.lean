import Derived.Test.YtnenhhlgabghfaaGreatDoorMk
import Derived.Test.YtnenhhlgabghfaaGreatDoorOpF
import Derived.Test.YtnenhhlgabghfaaGreatDoorFlat
/-
 What a class's bytes tell, one thing behind the other; what a maker holds behind them; appending a string's bytes, and where the row lies.
-/
namespace Go.Proofs.YtnenhhlgabghfaaGreatDoor
open Go.RowKit
set_option maxRecDepth 20000
open Go.Lib (strCells)
set_option linter.unusedVariables false
/-- Appending a string's bytes: the new slice lies in the old row, or in a new block. -/
theorem run_append_str_at {P : Program} (w : World) (base : Nat) (t u ty e : TypeId) (i : TypeInfo) (ht : P.underlying t = some (.slice e)) (hu : P.underlying u = some .string) (hi : P.info? e = some i) (hz : i.zero = some (.int .u8 0))
  (hsize : i.size = 1) (hby : i.bytes = 1) (v : Value) (n : Nat) (xs : List Value) (hown : w.ownsRow base e 1 v n xs) (s : ByteArray)
  (h63 : n + s.size ≤ maxLen) (hbytes : n + s.size ≤ 140737488355328) (hbase : base ≤ w.heap.size) :
  ∃ v' w', (Builtin.append_ #[t, u] ty #[v, .string s]).run P w = .ok v' w' ∧ w'.ownsRow base e 1 v' (n + s.size) (xs ++ strCells s) ∧ w.grownBy w' v.ownBlock ∧
   (v'.ownBlock = v.ownBlock ∨ v'.ownBlock = some w.heap.size) := by
 obtain ⟨v', w', hr, h2, h3, h4⟩ := Lib.run_append_own_string (P := P) w base t u ty e i ht hu hi hz hsize hby v n xs hown s h63 hbytes hbase
 refine ⟨v', w', hr, h2, h3, ?_⟩
 have hxl : xs.length = n := by simpa using hown.1
 unfold maxLen at h63
 rcases hown.2 with ⟨rfl, rfl⟩ | ⟨g, cap, cur, rfl, hbg, hg, hnc, hcm, hcs, htake⟩
 ·by_cases hm : s.size = 0
  ·have e0 := h4.2 ⟨rfl, hm⟩
   subst e0
   exact .inl rfl
  ·have hr2 := run_append_nil_string (P := P) w t u ty e i (.int .u8 0) ht hu hi hz s (by omega) (by omega) (by rw [hby]; omega)
   rw [hr] at hr2
   cases hr2
   exact .inr rfl
 ·by_cases hroom : n + s.size ≤ cap
  ·have hcs' : cur.size = cap := by simpa using hcs
   have hr2 := Lib.run_append_room_string (P := P) w t u ty e i ht hu hi hsize g n cap cur hg s hroom (by omega)
   rw [hr] at hr2
   cases hr2
   exact .inl rfl
  ·have holds : ∀ j u, xs[j]? = some u → w.cell? ((⟨g, 0, none⟩ : Addr).add j) = some u := hown.cells (g := g) rfl
   have hr2 := Lib.run_append_grow_string (P := P) w t u ty e i (.int .u8 0) ht hu hi hz ⟨g, 0, none⟩ n cap xs (by rw [hsize]; simpa using hxl) holds s (by omega) (by omega) (by rw [hby]; exact growslice_fits (by omega) (by omega))
   rw [hr] at hr2
   cases hr2
   exact .inr rfl

theorem wp_append_str_at {P : Program} (w : World) {o : Oper} {a : Act} {K : Act → World → Prop} {Q : Exit → Act → World → Prop} (sl x : Operand) (t u : TypeId)
  (ho : o.op = .call { callee := .builtin .append, args := #[sl, x], argTypes := #[t, u] })
  (base : Nat) (e : TypeId) (i : TypeInfo) (ht : P.underlying t = some (.slice e)) (hu : P.underlying u = some .string) (hi : P.info? e = some i) (hz : i.zero = some (.int .u8 0))
  (hsize : i.size = 1) (hby : i.bytes = 1)
  (v : Value) (n : Nat) (xs : List Value) (hs : a.eval sl = v) (hown : w.ownsRow base e 1 v n xs) (s : ByteArray) (hx : a.eval x = .string s)
  (h63 : n + s.size ≤ maxLen) (hbytes : n + s.size ≤ 140737488355328) (hbase : base ≤ w.heap.size)
  (h : ∀ v' w', w'.ownsRow base e 1 v' (n + s.size) (xs ++ strCells s) → w.grownBy w' v.ownBlock → (v'.ownBlock = v.ownBlock ∨ v'.ownBlock = some w.heap.size) → K (a.put o.dst v') w') : o.wp P a w K Q := by
 obtain ⟨v', w', hr, h2, h3, h4⟩ := run_append_str_at (P := P) w base t u o.type e i ht hu hi hz hsize hby v n xs hown s h63 hbytes hbase
 unfold Oper.wp execOp
 simp only [ho, resolve, invoke, builtin, Sem.run_bind, Sem.run_pure, Result.andThen_ok, List.map_toArray, List.map_cons, List.map_nil, hs, hx, hr]
 exact h v' w' h2 h3 h4

theorem wpList_append_str_at {P : Program} (w : World) {ops : Array Oper} {rest : List Oper} {o : Oper} {a : Act} {Q : Exit → Act → World → Prop} (hgd : o.guard = none) (sl x : Operand) (t u : TypeId)
  (ho : o.op = .call { callee := .builtin .append, args := #[sl, x], argTypes := #[t, u] })
  (base : Nat) (e : TypeId) (i : TypeInfo) (ht : P.underlying t = some (.slice e)) (hu : P.underlying u = some .string) (hi : P.info? e = some i) (hz : i.zero = some (.int .u8 0))
  (hsize : i.size = 1) (hby : i.bytes = 1)
  (v : Value) (n : Nat) (xs : List Value) (hs : a.eval sl = v) (hown : w.ownsRow base e 1 v n xs) (s : ByteArray) (hx : a.eval x = .string s)
  (h63 : n + s.size ≤ maxLen) (hbytes : n + s.size ≤ 140737488355328) (hbase : base ≤ w.heap.size)
  (h : ∀ v' w', w'.ownsRow base e 1 v' (n + s.size) (xs ++ strCells s) → w.grownBy w' v.ownBlock → (v'.ownBlock = v.ownBlock ∨ v'.ownBlock = some w.heap.size) → wpList P ops Q rest (a.put o.dst v') w') : wpList P ops Q (o :: rest) a w :=
 wpList_plain hgd fun _ hK => wp_append_str_at w sl x t u ho base e i ht hu hi hz hsize hby v n xs hs hown s hx h63 hbytes hbase fun v' w' h2 h3 h4 => hK _ _ (h v' w' h2 h3 h4)

theorem step_append_str_at {P : Program} (w : World) {ops : Array Oper} {o : Oper} {a : Act} {K : Act → World → Prop} {Q : Exit → Act → World → Prop} {E : Prop} (hgd : o.guard = none) (sl x : Operand) (t u : TypeId)
  (ho : o.op = .call { callee := .builtin .append, args := #[sl, x], argTypes := #[t, u] })
  (base : Nat) (e : TypeId) (i : TypeInfo) (ht : P.underlying t = some (.slice e)) (hu : P.underlying u = some .string) (hi : P.info? e = some i) (hz : i.zero = some (.int .u8 0))
  (hsize : i.size = 1) (hby : i.bytes = 1)
  (v : Value) (n : Nat) (xs : List Value) (hs : a.eval sl = v) (hown : w.ownsRow base e 1 v n xs) (s : ByteArray) (hx : a.eval x = .string s)
  (h63 : n + s.size ≤ maxLen) (hbytes : n + s.size ≤ 140737488355328) (hbase : base ≤ w.heap.size)
  (h : ∀ v' w', w'.ownsRow base e 1 v' (n + s.size) (xs ++ strCells s) → w.grownBy w' v.ownBlock → (v'.ownBlock = v.ownBlock ∨ v'.ownBlock = some w.heap.size) → K (a.put o.dst v') w') :
  if Region.wanted o (yielded ops a.tmps) = true then Oper.wp P o a w K Q else E := by
 have hw : Region.wanted o (yielded ops a.tmps) = true := by simp [Region.wanted, hgd]
 rw [if_pos hw]
 exact wp_append_str_at w sl x t u ho base e i ht hu hi hz hsize hby v n xs hs hown s hx h63 hbytes hbase h

/-- A text's bytes, as numbers. -/
def nums (s : ByteArray) : List Int := s.data.toList.map fun b => (b.toNat : Int)
theorem strCells_nums (s : ByteArray) : strCells s = bC (nums s) := by simp [strCells, bC, nums]
theorem nums_length (s : ByteArray) : (nums s).length = s.size := by rw [nums, List.length_map, Array.length_toList]; rfl
theorem bC_append (a b : List Int) : bC a ++ bC b = bC (a ++ b) := by simp [bC]
inductive Tok where
 | n (x : Int)
 | r (s : ByteArray)
 | t (s : ByteArray)

abbrev WS := List ByteArray × List Int
def p1l (n : Int) : List Int := if 0 ≤ n ∧ n ≤ 255 then [n] else []
def tkS (st : WS) : Tok → WS
 | .n x => (st.1, st.2 ++ [x % 256])
 | .r s => (st.1, st.2 ++ nums s)
 | .t s => (mkPool st.1 s, st.2 ++ [(plc st.1 s : Int) % 256])
def tkP (st : WS) : Tok → WS
 | .n x => (st.1, st.2 ++ p1l x)
 | .r s => (st.1, st.2 ++ nums s)
 | .t s => (mkPool st.1 s, st.2 ++ p1l (plc st.1 s : Int))
def tksS (st : WS) (l : List Tok) : WS := l.foldl tkS st
def tksP (st : WS) (l : List Tok) : WS := l.foldl tkP st
theorem tksS_app (st : WS) (a b : List Tok) : tksS st (a ++ b) = tksS (tksS st a) b := by simp [tksS]
theorem tksP_app (st : WS) (a b : List Tok) : tksP st (a ++ b) = tksP (tksP st a) b := by simp [tksP]
theorem tksS_one (st : WS) (t : Tok) : tksS st [t] = tkS st t := rfl
theorem tksP_one (st : WS) (t : Tok) : tksP st [t] = tkP st t := rfl
theorem tksS_cons (st : WS) (t : Tok) (l : List Tok) : tksS st (t :: l) = tksS (tkS st t) l := rfl
theorem tksP_cons (st : WS) (t : Tok) (l : List Tok) : tksP st (t :: l) = tksP (tkP st t) l := rfl

def wt1 : Tok → Nat
 | .n _ => 1
 | .r s => s.size + 1
 | .t _ => 1
def wt (l : List Tok) : Nat := (l.map wt1).sum
theorem wt_app (a b : List Tok) : wt (a ++ b) = wt a + wt b := by simp [wt]
theorem wt_cons (a : Tok) (b : List Tok) : wt (a :: b) = wt1 a + wt b := by simp [wt]
theorem wt_nil : wt [] = 0 := rfl
/-- How much a maker holds. -/
def wz (st : WS) : Nat := st.1.length + st.2.length
theorem mkPool_length (ps : List ByteArray) (t : ByteArray) : ps.length ≤ (mkPool ps t).length ∧ (mkPool ps t).length ≤ ps.length + 1 := by
 unfold mkPool; split <;> simp
theorem p1l_length (n : Int) : (p1l n).length ≤ 1 := by unfold p1l; split <;> simp
theorem tkS_wz (st : WS) (t : Tok) : wz (tkS st t) ≤ wz st + 2 * wt1 t := by
 cases t with
 | n x => simp [tkS, wz, wt1]; omega
 | r s => simp [tkS, wz, wt1, nums_length]; omega
 | t s => have := mkPool_length st.1 s; simp [tkS, wz, wt1]; omega
theorem tkP_wz (st : WS) (t : Tok) : wz (tkP st t) ≤ wz st + 2 * wt1 t := by
 cases t with
 | n x => have := p1l_length x; simp [tkP, wz, wt1]; omega
 | r s => simp [tkP, wz, wt1, nums_length]; omega
 | t s => have := mkPool_length st.1 s; have := p1l_length (plc st.1 s : Int); simp [tkP, wz, wt1]; omega
theorem tksS_wz (l : List Tok) : ∀ st, wz (tksS st l) ≤ wz st + 2 * wt l := by
 induction l with
 | nil => intro st; simp [tksS, wt]
 | cons t l ih => intro st; rw [tksS_cons, wt_cons]; have := ih (tkS st t); have := tkS_wz st t; omega
theorem tksP_wz (l : List Tok) : ∀ st, wz (tksP st l) ≤ wz st + 2 * wt l := by
 induction l with
 | nil => intro st; simp [tksP, wt]
 | cons t l ih => intro st; rw [tksP_cons, wt_cons]; have := ih (tkP st t); have := tkP_wz st t; omega
theorem wt_flat {α : Type} (f : α → List Tok) (K : Nat) : ∀ l : List α, (∀ x ∈ l, wt (f x) ≤ K) → wt (l.flatMap f) ≤ l.length * K := by
 intro l
 induction l with
 | nil => intro _; simp [wt]
 | cons x l ih =>
  intro h
  rw [List.flatMap_cons, wt_app]
  have h1 := h x (by simp)
  have h2 := ih fun y hy => h y (by simp [hy])
  simp only [List.length_cons, Nat.add_mul, Nat.one_mul]
  omega

/-- The pool does not hang on the bytes. -/
theorem tks_pool (l : List Tok) : ∀ a b : WS, a.1 = b.1 → (tksS a l).1 = (tksP b l).1 := by
 induction l with
 | nil => intro a b h; exact h
 | cons t l ih =>
  intro a b h
  rw [tksS_cons, tksP_cons]
  refine ih _ _ ?_
  cases t with
  | n x => exact h
  | r s => exact h
  | t s => simp only [tkS, tkP, h]
theorem tksS_pool_le (l : List Tok) : ∀ a : WS, a.1.length ≤ (tksS a l).1.length := by
 induction l with
 | nil => intro a; exact Nat.le_refl _
 | cons t l ih =>
  intro a
  rw [tksS_cons]
  refine Nat.le_trans ?_ (ih _)
  cases t with
  | n x => exact Nat.le_refl _
  | r s => exact Nat.le_refl _
  | t s => exact (mkPool_length a.1 s).1
def numOk : Tok → Prop
 | .n x => 0 ≤ x ∧ x ≤ 255
 | _ => True
theorem plc_le (ps : List ByteArray) (t : ByteArray) : plc ps t ≤ ps.length := by unfold plc; exact List.findIdx_le_length
/-- Where no number is too great and the pool ends small, both makers hold the same. -/
theorem tks_same (l : List Tok) : ∀ a : WS, (∀ t ∈ l, numOk t) → (tksS a l).1.length ≤ 255 → tksP a l = tksS a l := by
 induction l with
 | nil => intro a _ _; rfl
 | cons t l ih =>
  intro a hn hl
  have e : tkP a t = tkS a t := by
   have h0 := hn t (by simp)
   rw [tksS_cons] at hl
   have h1 := Nat.le_trans (tksS_pool_le l (tkS a t)) hl
   cases t with
   | n x =>
    have h2 : 0 ≤ x ∧ x ≤ 255 := h0
    have : x % 256 = x := by omega
    simp only [tkP, tkS, p1l, if_pos h2, this]
   | r s => rfl
   | t s =>
    have h3 : (plc a.1 s : Int) ≤ 255 := by
     have := plc_le a.1 s
     have h4 : (mkPool a.1 s).length ≤ 255 := h1
     unfold mkPool at h4
     split at h4
     ·omega
     ·simp at h4; omega
    have : (plc a.1 s : Int) % 256 = (plc a.1 s : Int) := by omega
    simp only [tkP, tkS, p1l, if_pos (show 0 ≤ (plc a.1 s : Int) ∧ (plc a.1 s : Int) ≤ 255 from ⟨by omega, h3⟩), this]
  rw [tksP_cons, tksS_cons, e]
  exact ih _ (fun t ht => hn t (by simp [ht])) (by rw [tksS_cons] at hl; exact hl)

/-- What an instruction tells behind its Op. -/
def insArg (f : ByteArray) (a : Int) (c n d : ByteArray) : List Tok :=
 if f = ⟨#[110]⟩ then [.r (p4 a)]
 else if f = ⟨#[105]⟩ then [.n a]
 else if f = ⟨#[116]⟩ then [.n a]
 else if f = ⟨#[99]⟩ then [.t c]
 else if f = ⟨#[121]⟩ then [.t d]
 else if f = ⟨#[102]⟩ then [.t c, .t n, .t d]
 else if f = ⟨#[109]⟩ then [.t c, .t n, .t d]
 else []
theorem insArg_e (a : Int) (c n d : ByteArray) : insArg ⟨#[]⟩ a c n d = [] := by unfold insArg; rfl
theorem insArg_x (a : Int) (c n d : ByteArray) : insArg ⟨#[33]⟩ a c n d = [] := by unfold insArg; rfl
theorem insArg_n (a : Int) (c n d : ByteArray) : insArg ⟨#[110]⟩ a c n d = [.r (p4 a)] := by unfold insArg; rfl
theorem insArg_i (a : Int) (c n d : ByteArray) : insArg ⟨#[105]⟩ a c n d = [.n a] := by unfold insArg; rfl
theorem insArg_t (a : Int) (c n d : ByteArray) : insArg ⟨#[116]⟩ a c n d = [.n a] := by unfold insArg; rfl
theorem insArg_c (a : Int) (c n d : ByteArray) : insArg ⟨#[99]⟩ a c n d = [.t c] := by unfold insArg; rfl
theorem insArg_y (a : Int) (c n d : ByteArray) : insArg ⟨#[121]⟩ a c n d = [.t d] := by unfold insArg; rfl
theorem insArg_f (a : Int) (c n d : ByteArray) : insArg ⟨#[102]⟩ a c n d = [.t c, .t n, .t d] := by unfold insArg; rfl
theorem insArg_m (a : Int) (c n d : ByteArray) : insArg ⟨#[109]⟩ a c n d = [.t c, .t n, .t d] := by unfold insArg; rfl
def insTok (x : InsD) : List Tok := .n x.1 :: insArg (fmS x.1) x.2.1 x.2.2.1 x.2.2.2.1 x.2.2.2.2
def hanTok (x : HandlerD) : List Tok := [.n x.1, .n x.2.1, .n x.2.2.1, .t x.2.2.2]
def fl3 (a b c : Bool) : Int := (if a then 1 else 0) + (if b then 2 else 0) + (if c then 4 else 0)
def fldTok (x : FieldD) : List Tok := [.t x.1, .t x.2.1, .n (fl3 x.2.2 false false)]
theorem p4_size (n : Int) : (p4 n).size ≤ 4 := by
 unfold p4
 split
 ·rw [strOfNums_size]; exact Nat.le_refl 4
 ·decide
theorem insTok_wt (x : InsD) : wt (insTok x) ≤ 6 := by
 unfold insTok
 rw [wt_cons]
 have h4 := p4_size x.2.1
 unfold insArg
 repeat' split
 all_goals simp [wt, wt1]
 all_goals omega
theorem hanTok_wt (x : HandlerD) : wt (hanTok x) ≤ 4 := by simp [hanTok, wt, wt1]
theorem fldTok_wt (x : FieldD) : wt (fldTok x) ≤ 3 := by simp [fldTok, wt, wt1]

/-- A block that is no maker's own: its cells. -/
structure Box (F : Nat → Prop) (w : World) (k : Nat) (cs : List Value) : Prop where
 lt : k < w.heap.size
 no : ¬ F k
 cells : ∀ j v, cs[j]? = some v → w.cell? ⟨k, j, none⟩ = some v
theorem Kept.box {mb k : Nat} {F F' : Nat → Prop} {w w' : World} {cs : List Value} (h : Kept mb F w w' F') (b : Box F w k cs) : Box F' w' k cs :=
 ⟨Nat.lt_of_lt_of_le b.lt h.low.size, (h.far k b.lt b.no).2, fun j v hj => (World.cell?_of_block (h.far k b.lt b.no).1).trans (b.cells j v hj)⟩
theorem Box.below {k : Nat} {F : Nat → Prop} {w w' : World} {cs : List Value} (b : Box F w k cs) (h : Below w.heap.size w w') : Box F w' k cs :=
 ⟨Nat.lt_of_lt_of_le b.lt h.size, b.no, fun j v hj => (World.cell?_of_block (h.block k b.lt)).trans (b.cells j v hj)⟩
theorem box_new {F : Nat → Prop} {w : World} {t : TypeId} (cs : List Value) (hF : ∀ k, F k → k < w.heap.size) : Box F (w.alloc (.cells cs.toArray t)) w.heap.size cs :=
 ⟨by simp, fun h => Nat.lt_irrefl _ (hF _ h), fun j v hj => by
  have hb : (w.alloc (.cells cs.toArray t)).heap[w.heap.size]? = some (.cells cs.toArray t (0, 0)) := heap_alloc_new w _
  have := World.news_of_block hb j v hj
  rwa [plain_add, Nat.zero_add] at this⟩

theorem wz_n (st : WS) (x : Int) : wz (tkS st (.n x)) ≤ wz st + 2 := tkS_wz st (.n x)
theorem wz_t (st : WS) (s : ByteArray) : wz (tkS st (.t s)) ≤ wz st + 2 := tkS_wz st (.t s)
theorem wzP_n (st : WS) (x : Int) : wz (tkP st (.n x)) ≤ wz st + 2 := tkP_wz st (.n x)
/-- The model's maker holds st; F: its own blocks. -/
def MkS (mb : Nat) (w : World) (st : WS) (F : Nat → Prop) : Prop := ∃ vp vb, MkAt w mb st.1 st.2 vp vb ∧ F = own mb vp vb
theorem MkS.below {mb : Nat} {w w' : World} {st : WS} {F : Nat → Prop} (h : MkS mb w st F) (hb : Below w.heap.size w w') : MkS mb w' st F := by
 obtain ⟨vp, vb, h1, h2⟩ := h
 exact ⟨vp, vb, h1.below hb, h2⟩
theorem MkS.own_lt {mb : Nat} {w : World} {st : WS} {F : Nat → Prop} (h : MkS mb w st F) : ∀ k, F k → k < w.heap.size := by
 obtain ⟨vp, vb, h1, rfl⟩ := h
 rintro k (e | e | e)
 ·rw [e]; exact h1.lt
 ·exact (h1.op.lt k e).2
 ·exact (h1.ob.lt k e).2
theorem MkS.mb_lt {mb : Nat} {w : World} {st : WS} {F : Nat → Prop} (h : MkS mb w st F) : mb < w.heap.size := by
 obtain ⟨vp, vb, h1, rfl⟩ := h
 exact h1.lt

theorem specNumT (mb : Nat) (n : Int) (st : WS) (F : Nat → Prop) (w : World) (h : MkS mb w st F) (hz : wz st ≤ 1000000) :
  Calls Tryz.prog 48 #[.pointer (some ⟨mb, 0, none⟩), .int .i64 n] w fun e w' => e = .returned (.tuple #[]) ∧ ∃ F', MkS mb w' (tkS st (.n n)) F' ∧ Kept mb F w w' F' := by
 obtain ⟨vp, vb, h1, rfl⟩ := h
 unfold wz at hz
 refine (specMkNum mb n st.1 st.2 vp vb w h1 (by omega)).mono ?_
 rintro e w' ⟨rfl, vb', h2, h3⟩
 exact ⟨rfl, _, ⟨vp, vb', h2, rfl⟩, h3⟩
theorem specTextT (mb : Nat) (t : ByteArray) (st : WS) (F : Nat → Prop) (w : World) (h : MkS mb w st F) (hz : wz st ≤ 1000000) :
  Calls Tryz.prog 47 #[.pointer (some ⟨mb, 0, none⟩), .string t] w fun e w' => e = .returned (.tuple #[]) ∧ ∃ F', MkS mb w' (tkS st (.t t)) F' ∧ Kept mb F w w' F' := by
 obtain ⟨vp, vb, h1, rfl⟩ := h
 unfold wz at hz
 refine (specMkText mb t st.1 st.2 vp vb w h1 (by omega) (by omega)).mono ?_
 rintro e w' ⟨rfl, vp', vb', h2, h3⟩
 exact ⟨rfl, _, ⟨vp', vb', h2, rfl⟩, h3⟩
set_option maxHeartbeats 400000 in
theorem specFlags (a b c : Bool) (w : World) :
  Calls Tryz.prog 49 #[.bool a, .bool b, .bool c] w fun e w' => e = .returned (.int .i64 (fl3 a b c)) ∧ w' = w := by
 cases a <;> cases b <;> cases c
 all_goals
  go_enter Tryz.func49, Tryz.ntmps49
  go_wp2
  go_ret
  exact ⟨rfl, rfl⟩
end Go.Proofs.YtnenhhlgabghfaaGreatDoor
