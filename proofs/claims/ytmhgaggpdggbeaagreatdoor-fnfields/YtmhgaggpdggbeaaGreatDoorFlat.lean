import Derived.Test.YtmhgaggpdggbeaaGreatDoorRows
import Derived.WalkKit
import Derived.ProofKit
import Derived.Below
import Derived.Deep.Slices
import Derived.DataElems
import Derived.DataReads
import Derived.WalkLawsBesides
import Derived.BigQuiet
import Derived.Deep.QuietTactic
import Derived.Deep.OwnRows
import Derived.Deep.RegionWith
import Derived.WalkSmall
namespace Go.Proofs.YtmhgaggpdggbeaaGreatDoor
open Go.RowKit
set_option maxRecDepth 20000
set_option linter.unusedVariables false

structure Rep (α:Type) where
 k:Nat
 In:World→List Value→α→Prop
 len:∀ w cs x,In w cs x→cs.length=k
 mono:∀ w w' cs x,Below w.heap.size w w'→In w cs x→In w' cs x

def Rep.str:Rep ByteArray:=⟨1,fun _ cs s=>cs=[.string s]∧s.size≤maxLen,fun _ _ _ h=>by rw [h.1];rfl,fun _ _ _ _ _ h=>h⟩
def Rep.int:Rep Int:=⟨1,fun _ cs n=>cs=[.int .i64 n]∧(Lit.int .i64 n).wf=true,fun _ _ _ h=>by rw [h.1];rfl,fun _ _ _ _ _ h=>h⟩
def Rep.bool:Rep Bool:=⟨1,fun _ cs b=>cs=[.bool b],fun _ _ _ h=>by rw [h];rfl,fun _ _ _ _ _ h=>h⟩
def Rep.pair {α β:Type} (R:Rep α) (S:Rep β):Rep (α × β) :=
 ⟨R.k+S.k,fun w cs p=>∃ c1 c2,cs=c1 ++ c2∧R.In w c1 p.1∧S.In w c2 p.2,
  fun w cs p h=>by obtain ⟨c1,c2,rfl,h1,h2⟩:=h;rw [List.length_append,R.len _ _ _ h1,S.len _ _ _ h2],
  fun w w' cs p hb h=>by obtain ⟨c1,c2,e,h1,h2⟩:=h;exact⟨c1,c2,e,R.mono _ _ _ _ hb h1,S.mono _ _ _ _ hb h2⟩⟩

def Rep.At {α:Type} (R:Rep α) (w:World) (x:Addr) (i:Nat) (y:α):Prop :=
 ∃ cs,(∀ j,j<R.k→w.cell? (x.add (i * R.k+j))=cs[j]?)∧R.In w cs y

theorem Rep.At.mono {α:Type} {R:Rep α} {w w':World} {x:Addr} {i:Nat} {y:α} (h:R.At w x i y) (hb:Below w.heap.size w w'):R.At w' x i y:=by
 obtain ⟨cs,hc,hi⟩:=h
 have hl:=R.len _ _ _ hi
 refine ⟨cs,fun j hj=>?_,R.mono _ _ _ _ hb hi⟩
 have h1:=hc j hj
 rw [List.getElem?_eq_getElem (by omega)] at h1 ⊢
 exact (hb.cell (World.block_lt_of_cell? _ _ h1)).trans h1

theorem plain_add (b o i:Nat):(⟨b,o,none⟩:Addr).add i=⟨b,o+i,none⟩:=by unfold Addr.add;split<;>simp_all
theorem Rep.At.plain {α:Type} {R:Rep α} {w:World} {x:Addr} {y:α} (h:R.At w x 0 y) (hk:0<R.k):∃ b o,x=⟨b,o,none⟩:=by
 obtain ⟨cs,hc,hi⟩:=h
 have hl:=R.len _ _ _ hi
 have h0:=hc 0 hk
 rw [Nat.zero_mul,Nat.add_zero,List.getElem?_eq_getElem (by omega)] at h0
 have hs:=World.cell?_spot h0
 obtain ⟨b,o,sp⟩:=x
 have hs':sp=none:=by unfold Addr.add at hs;simpa using hs
 exact⟨b,o,by rw [hs']⟩

def Rep.slice {α:Type} (R:Rep α):Rep (List α) :=
 ⟨1,fun w cs xs=>∃ a cap,cs=[.slice a xs.length cap]∧xs.length≤cap∧cap≤maxLen∧∀ i (h:i<xs.length),∃ x,a=some x∧R.At w x i xs[i],
  fun w cs xs h=>by obtain ⟨a,cap,rfl,_⟩:=h;rfl,
  fun w w' cs xs hb h=>by
   obtain ⟨a,cap,e,h1,h2,h3⟩:=h
   exact⟨a,cap,e,h1,h2,fun i hi=>by obtain ⟨x,ex,hx⟩:=h3 i hi;exact⟨x,ex,hx.mono hb⟩⟩⟩

section
variable {P:Program} {H:Type} {enc:TypeId × Value→H} {base:Nat} {spare:Nat→Bool} {held:Bool}

def Opens (P:Program) {H:Type} (enc:TypeId × Value→H) (base:Nat) (spare:Nat→Bool) (held:Bool) {α:Type} (R:Rep α) (t:TypeId):Prop :=
 ∀ w fuel cs y,DataW.trod enc P w base spare held fuel t cs=some y→∃ x,R.In w cs x

theorem opens_str {t:TypeId} (ht:P.underlying t=some .string):Opens P enc base spare held Rep.str t:=fun w fuel cs y h=>by
 obtain ⟨s,e,_,hs⟩:=DataW.trod_string ht h
 exact⟨s,e,hs⟩
theorem opens_int {t:TypeId} (ht:P.underlying t=some (.int .i64)):Opens P enc base spare held Rep.int t:=fun w fuel cs y h=>by
 obtain ⟨n,e,_,hn⟩:=DataW.trod_int ht h
 exact⟨n,e,hn⟩
theorem opens_bool {t:TypeId} (ht:P.underlying t=some .bool):Opens P enc base spare held Rep.bool t:=fun w fuel cs y h=>by
 obtain ⟨b,e,_⟩:=DataW.trod_bool ht h
 exact⟨b,e⟩

theorem cells_at {w:World} {a:Addr} {n:Nat} {cs:List Value} (h:w.cells? base a n=some cs):cs.length=n∧∀ j,j<n→w.cell? (a.add j)=cs[j]? :=
 (World.cells?_some h).2

theorem opens_slice {α:Type} {R:Rep α} {t e:TypeId} (ht:P.underlying t=some (.slice e)) (hk:P.cellsOf e=R.k) (hR:Opens P enc base spare held R e):Opens P enc base spare held R.slice t:=fun w fuel cs y h=>by
 rcases Deep.open_slice ht h with ⟨rfl,_⟩ | ⟨a,len,cap,m,n,D,Pl,rfl,_,hl,hm,hmm,_,hel⟩
 ·exact⟨[],none,0,rfl,Nat.le_refl _,by simp [maxLen],fun i hi=>by simp at hi⟩
 ·have hlen:len≤m:=by rw [hmm];split<;>omega
  have hex:∀ i,i<len→∃ x,R.At w a i x:=fun i hi=>by
   obtain ⟨cs',hc,htr⟩:=hel i (by omega)
   obtain ⟨x,hx⟩:=hR _ _ _ _ htr
   obtain ⟨_,hcell⟩:=cells_at hc
   refine ⟨x,cs',fun j hj=>?_,hx⟩
   have:=hcell j (by rw [hk];exact hj)
   rw [Deep.add_add,hk] at this
   exact this
  have hxs:∀ k,k≤len→∃ xs:List α,xs.length=k∧∀ i (hi:i<xs.length),R.At w a i xs[i]:=by
   intro k
   induction k with
   | zero=>exact fun _=>⟨[],rfl,fun i hi=>by simp at hi⟩
   | succ k ih =>
    intro hk'
    obtain ⟨xs,hxl,hxa⟩:=ih (by omega)
    obtain ⟨x,hx⟩:=hex k (by omega)
    refine ⟨xs ++ [x],by simp [hxl],fun i hi=>?_⟩
    by_cases hik:i<xs.length
    ·rw [List.getElem_append_left hik];exact hxa i hik
    ·have:i=xs.length:=by simp at hi;omega
     subst this
     rw [List.getElem_append_right (Nat.le_refl _)]
     simp [hxl]
     exact hx
  obtain ⟨xs,hxl,hxa⟩:=hxs len (Nat.le_refl _)
  exact⟨xs,some a,cap,by rw [hxl],by omega,hm,fun i hi=>⟨a,rfl,hxa i hi⟩⟩

theorem cut {α:Type} (cs:List α) (a k:Nat):cs.drop a=(cs.drop a).take k ++ cs.drop (a+k):=by
 rw [← List.drop_drop];exact (List.take_append_drop k _).symm
theorem cut0 {α:Type} (cs:List α) (k:Nat):cs.drop 0=(cs.drop 0).take k ++ cs.drop k:=by
 have:=cut cs 0 k
 rwa [Nat.zero_add] at this

theorem opens_struct3 {α0 α1 α2:Type} {R0:Rep α0} {R1:Rep α1} {R2:Rep α2} {t:TypeId} {f0 f1 f2:Field} (ht:P.underlying t=some (.struct #[f0,f1,f2]))
  (ho:f0.offset=0∧f1.offset=R0.k∧f2.offset=R0.k+R1.k) (hk:P.cellsOf f0.type=R0.k∧P.cellsOf f1.type=R1.k∧P.cellsOf f2.type=R2.k) (hc:P.cellsOf t=R0.k+R1.k+R2.k)
  (h0:Opens P enc base spare held R0 f0.type) (h1:Opens P enc base spare held R1 f1.type) (h2:Opens P enc base spare held R2 f2.type):Opens P enc base spare held (R0.pair (R1.pair R2)) t:=fun w fuel cs y h=>by
 obtain ⟨xs,n,_,_,hl,hxl,hf⟩:=DataW.trod_struct ht h
 obtain ⟨o0,o1,o2⟩:=ho
 obtain ⟨k0,k1,k2⟩:=hk
 have hxl:xs.length=3:=hxl
 have hcl:=hl.trans hc
 obtain ⟨x0,i0⟩:∃ x,R0.In w ((cs.drop (0)).take R0.k) x:=by
  have hh:=hf 0 f0 rfl
  rw [o0,k0,List.getElem?_eq_getElem (by omega)] at hh
  exact h0 _ _ _ _ hh
 obtain ⟨x1,i1⟩:∃ x,R1.In w ((cs.drop (R0.k)).take R1.k) x:=by
  have hh:=hf 1 f1 rfl
  rw [o1,k1,List.getElem?_eq_getElem (by omega)] at hh
  exact h1 _ _ _ _ hh
 obtain ⟨x2,i2⟩:∃ x,R2.In w ((cs.drop (R0.k+R1.k)).take R2.k) x:=by
  have hh:=hf 2 f2 rfl
  rw [o2,k2,List.getElem?_eq_getElem (by omega)] at hh
  exact h2 _ _ _ _ hh
 have j2:R2.In w (cs.drop (R0.k+R1.k)) x2:=by
  rw [List.take_of_length_le (by rw [List.length_drop];omega)] at i2
  exact i2
 have j1:(R1.pair R2).In w (cs.drop (R0.k)) (x1,x2):=⟨_,_,cut cs _ _,i1,j2⟩
 have j0:(R0.pair (R1.pair R2)).In w (cs.drop (0)) (x0,(x1,x2)):=⟨_,_,cut0 cs _,i0,j1⟩
 exact⟨_,by simpa using j0⟩

theorem opens_struct4 {α0 α1 α2 α3:Type} {R0:Rep α0} {R1:Rep α1} {R2:Rep α2} {R3:Rep α3} {t:TypeId} {f0 f1 f2 f3:Field} (ht:P.underlying t=some (.struct #[f0,f1,f2,f3]))
  (ho:f0.offset=0∧f1.offset=R0.k∧f2.offset=R0.k+R1.k∧f3.offset=R0.k+R1.k+R2.k) (hk:P.cellsOf f0.type=R0.k∧P.cellsOf f1.type=R1.k∧P.cellsOf f2.type=R2.k∧P.cellsOf f3.type=R3.k) (hc:P.cellsOf t=R0.k+R1.k+R2.k+R3.k)
  (h0:Opens P enc base spare held R0 f0.type) (h1:Opens P enc base spare held R1 f1.type) (h2:Opens P enc base spare held R2 f2.type) (h3:Opens P enc base spare held R3 f3.type):Opens P enc base spare held (R0.pair (R1.pair (R2.pair R3))) t:=fun w fuel cs y h=>by
 obtain ⟨xs,n,_,_,hl,hxl,hf⟩:=DataW.trod_struct ht h
 obtain ⟨o0,o1,o2,o3⟩:=ho
 obtain ⟨k0,k1,k2,k3⟩:=hk
 have hxl:xs.length=4:=hxl
 have hcl:=hl.trans hc
 obtain ⟨x0,i0⟩:∃ x,R0.In w ((cs.drop (0)).take R0.k) x:=by
  have hh:=hf 0 f0 rfl
  rw [o0,k0,List.getElem?_eq_getElem (by omega)] at hh
  exact h0 _ _ _ _ hh
 obtain ⟨x1,i1⟩:∃ x,R1.In w ((cs.drop (R0.k)).take R1.k) x:=by
  have hh:=hf 1 f1 rfl
  rw [o1,k1,List.getElem?_eq_getElem (by omega)] at hh
  exact h1 _ _ _ _ hh
 obtain ⟨x2,i2⟩:∃ x,R2.In w ((cs.drop (R0.k+R1.k)).take R2.k) x:=by
  have hh:=hf 2 f2 rfl
  rw [o2,k2,List.getElem?_eq_getElem (by omega)] at hh
  exact h2 _ _ _ _ hh
 obtain ⟨x3,i3⟩:∃ x,R3.In w ((cs.drop (R0.k+R1.k+R2.k)).take R3.k) x:=by
  have hh:=hf 3 f3 rfl
  rw [o3,k3,List.getElem?_eq_getElem (by omega)] at hh
  exact h3 _ _ _ _ hh
 have j3:R3.In w (cs.drop (R0.k+R1.k+R2.k)) x3:=by
  rw [List.take_of_length_le (by rw [List.length_drop];omega)] at i3
  exact i3
 have j2:(R2.pair R3).In w (cs.drop (R0.k+R1.k)) (x2,x3):=⟨_,_,cut cs _ _,i2,j3⟩
 have j1:(R1.pair (R2.pair R3)).In w (cs.drop (R0.k)) (x1,(x2,x3)):=⟨_,_,cut cs _ _,i1,j2⟩
 have j0:(R0.pair (R1.pair (R2.pair R3))).In w (cs.drop (0)) (x0,(x1,(x2,x3))):=⟨_,_,cut0 cs _,i0,j1⟩
 exact⟨_,by simpa using j0⟩

theorem opens_struct5 {α0 α1 α2 α3 α4:Type} {R0:Rep α0} {R1:Rep α1} {R2:Rep α2} {R3:Rep α3} {R4:Rep α4} {t:TypeId} {f0 f1 f2 f3 f4:Field} (ht:P.underlying t=some (.struct #[f0,f1,f2,f3,f4]))
  (ho:f0.offset=0∧f1.offset=R0.k∧f2.offset=R0.k+R1.k∧f3.offset=R0.k+R1.k+R2.k∧f4.offset=R0.k+R1.k+R2.k+R3.k) (hk:P.cellsOf f0.type=R0.k∧P.cellsOf f1.type=R1.k∧P.cellsOf f2.type=R2.k∧P.cellsOf f3.type=R3.k∧P.cellsOf f4.type=R4.k) (hc:P.cellsOf t=R0.k+R1.k+R2.k+R3.k+R4.k)
  (h0:Opens P enc base spare held R0 f0.type) (h1:Opens P enc base spare held R1 f1.type) (h2:Opens P enc base spare held R2 f2.type) (h3:Opens P enc base spare held R3 f3.type) (h4:Opens P enc base spare held R4 f4.type):Opens P enc base spare held (R0.pair (R1.pair (R2.pair (R3.pair R4)))) t:=fun w fuel cs y h=>by
 obtain ⟨xs,n,_,_,hl,hxl,hf⟩:=DataW.trod_struct ht h
 obtain ⟨o0,o1,o2,o3,o4⟩:=ho
 obtain ⟨k0,k1,k2,k3,k4⟩:=hk
 have hxl:xs.length=5:=hxl
 have hcl:=hl.trans hc
 obtain ⟨x0,i0⟩:∃ x,R0.In w ((cs.drop (0)).take R0.k) x:=by
  have hh:=hf 0 f0 rfl
  rw [o0,k0,List.getElem?_eq_getElem (by omega)] at hh
  exact h0 _ _ _ _ hh
 obtain ⟨x1,i1⟩:∃ x,R1.In w ((cs.drop (R0.k)).take R1.k) x:=by
  have hh:=hf 1 f1 rfl
  rw [o1,k1,List.getElem?_eq_getElem (by omega)] at hh
  exact h1 _ _ _ _ hh
 obtain ⟨x2,i2⟩:∃ x,R2.In w ((cs.drop (R0.k+R1.k)).take R2.k) x:=by
  have hh:=hf 2 f2 rfl
  rw [o2,k2,List.getElem?_eq_getElem (by omega)] at hh
  exact h2 _ _ _ _ hh
 obtain ⟨x3,i3⟩:∃ x,R3.In w ((cs.drop (R0.k+R1.k+R2.k)).take R3.k) x:=by
  have hh:=hf 3 f3 rfl
  rw [o3,k3,List.getElem?_eq_getElem (by omega)] at hh
  exact h3 _ _ _ _ hh
 obtain ⟨x4,i4⟩:∃ x,R4.In w ((cs.drop (R0.k+R1.k+R2.k+R3.k)).take R4.k) x:=by
  have hh:=hf 4 f4 rfl
  rw [o4,k4,List.getElem?_eq_getElem (by omega)] at hh
  exact h4 _ _ _ _ hh
 have j4:R4.In w (cs.drop (R0.k+R1.k+R2.k+R3.k)) x4:=by
  rw [List.take_of_length_le (by rw [List.length_drop];omega)] at i4
  exact i4
 have j3:(R3.pair R4).In w (cs.drop (R0.k+R1.k+R2.k)) (x3,x4):=⟨_,_,cut cs _ _,i3,j4⟩
 have j2:(R2.pair (R3.pair R4)).In w (cs.drop (R0.k+R1.k)) (x2,(x3,x4)):=⟨_,_,cut cs _ _,i2,j3⟩
 have j1:(R1.pair (R2.pair (R3.pair R4))).In w (cs.drop (R0.k)) (x1,(x2,(x3,x4))):=⟨_,_,cut cs _ _,i1,j2⟩
 have j0:(R0.pair (R1.pair (R2.pair (R3.pair R4)))).In w (cs.drop (0)) (x0,(x1,(x2,(x3,x4)))):=⟨_,_,cut0 cs _,i0,j1⟩
 exact⟨_,by simpa using j0⟩

theorem opens_struct6 {α0 α1 α2 α3 α4 α5:Type} {R0:Rep α0} {R1:Rep α1} {R2:Rep α2} {R3:Rep α3} {R4:Rep α4} {R5:Rep α5} {t:TypeId} {f0 f1 f2 f3 f4 f5:Field} (ht:P.underlying t=some (.struct #[f0,f1,f2,f3,f4,f5]))
  (ho:f0.offset=0∧f1.offset=R0.k∧f2.offset=R0.k+R1.k∧f3.offset=R0.k+R1.k+R2.k∧f4.offset=R0.k+R1.k+R2.k+R3.k∧f5.offset=R0.k+R1.k+R2.k+R3.k+R4.k) (hk:P.cellsOf f0.type=R0.k∧P.cellsOf f1.type=R1.k∧P.cellsOf f2.type=R2.k∧P.cellsOf f3.type=R3.k∧P.cellsOf f4.type=R4.k∧P.cellsOf f5.type=R5.k) (hc:P.cellsOf t=R0.k+R1.k+R2.k+R3.k+R4.k+R5.k)
  (h0:Opens P enc base spare held R0 f0.type) (h1:Opens P enc base spare held R1 f1.type) (h2:Opens P enc base spare held R2 f2.type) (h3:Opens P enc base spare held R3 f3.type) (h4:Opens P enc base spare held R4 f4.type) (h5:Opens P enc base spare held R5 f5.type):Opens P enc base spare held (R0.pair (R1.pair (R2.pair (R3.pair (R4.pair R5))))) t:=fun w fuel cs y h=>by
 obtain ⟨xs,n,_,_,hl,hxl,hf⟩:=DataW.trod_struct ht h
 obtain ⟨o0,o1,o2,o3,o4,o5⟩:=ho
 obtain ⟨k0,k1,k2,k3,k4,k5⟩:=hk
 have hxl:xs.length=6:=hxl
 have hcl:=hl.trans hc
 obtain ⟨x0,i0⟩:∃ x,R0.In w ((cs.drop (0)).take R0.k) x:=by
  have hh:=hf 0 f0 rfl
  rw [o0,k0,List.getElem?_eq_getElem (by omega)] at hh
  exact h0 _ _ _ _ hh
 obtain ⟨x1,i1⟩:∃ x,R1.In w ((cs.drop (R0.k)).take R1.k) x:=by
  have hh:=hf 1 f1 rfl
  rw [o1,k1,List.getElem?_eq_getElem (by omega)] at hh
  exact h1 _ _ _ _ hh
 obtain ⟨x2,i2⟩:∃ x,R2.In w ((cs.drop (R0.k+R1.k)).take R2.k) x:=by
  have hh:=hf 2 f2 rfl
  rw [o2,k2,List.getElem?_eq_getElem (by omega)] at hh
  exact h2 _ _ _ _ hh
 obtain ⟨x3,i3⟩:∃ x,R3.In w ((cs.drop (R0.k+R1.k+R2.k)).take R3.k) x:=by
  have hh:=hf 3 f3 rfl
  rw [o3,k3,List.getElem?_eq_getElem (by omega)] at hh
  exact h3 _ _ _ _ hh
 obtain ⟨x4,i4⟩:∃ x,R4.In w ((cs.drop (R0.k+R1.k+R2.k+R3.k)).take R4.k) x:=by
  have hh:=hf 4 f4 rfl
  rw [o4,k4,List.getElem?_eq_getElem (by omega)] at hh
  exact h4 _ _ _ _ hh
 obtain ⟨x5,i5⟩:∃ x,R5.In w ((cs.drop (R0.k+R1.k+R2.k+R3.k+R4.k)).take R5.k) x:=by
  have hh:=hf 5 f5 rfl
  rw [o5,k5,List.getElem?_eq_getElem (by omega)] at hh
  exact h5 _ _ _ _ hh
 have j5:R5.In w (cs.drop (R0.k+R1.k+R2.k+R3.k+R4.k)) x5:=by
  rw [List.take_of_length_le (by rw [List.length_drop];omega)] at i5
  exact i5
 have j4:(R4.pair R5).In w (cs.drop (R0.k+R1.k+R2.k+R3.k)) (x4,x5):=⟨_,_,cut cs _ _,i4,j5⟩
 have j3:(R3.pair (R4.pair R5)).In w (cs.drop (R0.k+R1.k+R2.k)) (x3,(x4,x5)):=⟨_,_,cut cs _ _,i3,j4⟩
 have j2:(R2.pair (R3.pair (R4.pair R5))).In w (cs.drop (R0.k+R1.k)) (x2,(x3,(x4,x5))):=⟨_,_,cut cs _ _,i2,j3⟩
 have j1:(R1.pair (R2.pair (R3.pair (R4.pair R5)))).In w (cs.drop (R0.k)) (x1,(x2,(x3,(x4,x5)))):=⟨_,_,cut cs _ _,i1,j2⟩
 have j0:(R0.pair (R1.pair (R2.pair (R3.pair (R4.pair R5))))).In w (cs.drop (0)) (x0,(x1,(x2,(x3,(x4,x5))))):=⟨_,_,cut0 cs _,i0,j1⟩
 exact⟨_,by simpa using j0⟩

theorem opens_struct9 {α0 α1 α2 α3 α4 α5 α6 α7 α8:Type} {R0:Rep α0} {R1:Rep α1} {R2:Rep α2} {R3:Rep α3} {R4:Rep α4} {R5:Rep α5} {R6:Rep α6} {R7:Rep α7} {R8:Rep α8} {t:TypeId} {f0 f1 f2 f3 f4 f5 f6 f7 f8:Field} (ht:P.underlying t=some (.struct #[f0,f1,f2,f3,f4,f5,f6,f7,f8]))
  (ho:f0.offset=0∧f1.offset=R0.k∧f2.offset=R0.k+R1.k∧f3.offset=R0.k+R1.k+R2.k∧f4.offset=R0.k+R1.k+R2.k+R3.k∧f5.offset=R0.k+R1.k+R2.k+R3.k+R4.k∧f6.offset=R0.k+R1.k+R2.k+R3.k+R4.k+R5.k∧f7.offset=R0.k+R1.k+R2.k+R3.k+R4.k+R5.k+R6.k∧f8.offset=R0.k+R1.k+R2.k+R3.k+R4.k+R5.k+R6.k+R7.k) (hk:P.cellsOf f0.type=R0.k∧P.cellsOf f1.type=R1.k∧P.cellsOf f2.type=R2.k∧P.cellsOf f3.type=R3.k∧P.cellsOf f4.type=R4.k∧P.cellsOf f5.type=R5.k∧P.cellsOf f6.type=R6.k∧P.cellsOf f7.type=R7.k∧P.cellsOf f8.type=R8.k) (hc:P.cellsOf t=R0.k+R1.k+R2.k+R3.k+R4.k+R5.k+R6.k+R7.k+R8.k)
  (h0:Opens P enc base spare held R0 f0.type) (h1:Opens P enc base spare held R1 f1.type) (h2:Opens P enc base spare held R2 f2.type) (h3:Opens P enc base spare held R3 f3.type) (h4:Opens P enc base spare held R4 f4.type) (h5:Opens P enc base spare held R5 f5.type) (h6:Opens P enc base spare held R6 f6.type) (h7:Opens P enc base spare held R7 f7.type) (h8:Opens P enc base spare held R8 f8.type):Opens P enc base spare held (R0.pair (R1.pair (R2.pair (R3.pair (R4.pair (R5.pair (R6.pair (R7.pair R8)))))))) t:=fun w fuel cs y h=>by
 obtain ⟨xs,n,_,_,hl,hxl,hf⟩:=DataW.trod_struct ht h
 obtain ⟨o0,o1,o2,o3,o4,o5,o6,o7,o8⟩:=ho
 obtain ⟨k0,k1,k2,k3,k4,k5,k6,k7,k8⟩:=hk
 have hxl:xs.length=9:=hxl
 have hcl:=hl.trans hc
 obtain ⟨x0,i0⟩:∃ x,R0.In w ((cs.drop (0)).take R0.k) x:=by
  have hh:=hf 0 f0 rfl
  rw [o0,k0,List.getElem?_eq_getElem (by omega)] at hh
  exact h0 _ _ _ _ hh
 obtain ⟨x1,i1⟩:∃ x,R1.In w ((cs.drop (R0.k)).take R1.k) x:=by
  have hh:=hf 1 f1 rfl
  rw [o1,k1,List.getElem?_eq_getElem (by omega)] at hh
  exact h1 _ _ _ _ hh
 obtain ⟨x2,i2⟩:∃ x,R2.In w ((cs.drop (R0.k+R1.k)).take R2.k) x:=by
  have hh:=hf 2 f2 rfl
  rw [o2,k2,List.getElem?_eq_getElem (by omega)] at hh
  exact h2 _ _ _ _ hh
 obtain ⟨x3,i3⟩:∃ x,R3.In w ((cs.drop (R0.k+R1.k+R2.k)).take R3.k) x:=by
  have hh:=hf 3 f3 rfl
  rw [o3,k3,List.getElem?_eq_getElem (by omega)] at hh
  exact h3 _ _ _ _ hh
 obtain ⟨x4,i4⟩:∃ x,R4.In w ((cs.drop (R0.k+R1.k+R2.k+R3.k)).take R4.k) x:=by
  have hh:=hf 4 f4 rfl
  rw [o4,k4,List.getElem?_eq_getElem (by omega)] at hh
  exact h4 _ _ _ _ hh
 obtain ⟨x5,i5⟩:∃ x,R5.In w ((cs.drop (R0.k+R1.k+R2.k+R3.k+R4.k)).take R5.k) x:=by
  have hh:=hf 5 f5 rfl
  rw [o5,k5,List.getElem?_eq_getElem (by omega)] at hh
  exact h5 _ _ _ _ hh
 obtain ⟨x6,i6⟩:∃ x,R6.In w ((cs.drop (R0.k+R1.k+R2.k+R3.k+R4.k+R5.k)).take R6.k) x:=by
  have hh:=hf 6 f6 rfl
  rw [o6,k6,List.getElem?_eq_getElem (by omega)] at hh
  exact h6 _ _ _ _ hh
 obtain ⟨x7,i7⟩:∃ x,R7.In w ((cs.drop (R0.k+R1.k+R2.k+R3.k+R4.k+R5.k+R6.k)).take R7.k) x:=by
  have hh:=hf 7 f7 rfl
  rw [o7,k7,List.getElem?_eq_getElem (by omega)] at hh
  exact h7 _ _ _ _ hh
 obtain ⟨x8,i8⟩:∃ x,R8.In w ((cs.drop (R0.k+R1.k+R2.k+R3.k+R4.k+R5.k+R6.k+R7.k)).take R8.k) x:=by
  have hh:=hf 8 f8 rfl
  rw [o8,k8,List.getElem?_eq_getElem (by omega)] at hh
  exact h8 _ _ _ _ hh
 have j8:R8.In w (cs.drop (R0.k+R1.k+R2.k+R3.k+R4.k+R5.k+R6.k+R7.k)) x8:=by
  rw [List.take_of_length_le (by rw [List.length_drop];omega)] at i8
  exact i8
 have j7:(R7.pair R8).In w (cs.drop (R0.k+R1.k+R2.k+R3.k+R4.k+R5.k+R6.k)) (x7,x8):=⟨_,_,cut cs _ _,i7,j8⟩
 have j6:(R6.pair (R7.pair R8)).In w (cs.drop (R0.k+R1.k+R2.k+R3.k+R4.k+R5.k)) (x6,(x7,x8)):=⟨_,_,cut cs _ _,i6,j7⟩
 have j5:(R5.pair (R6.pair (R7.pair R8))).In w (cs.drop (R0.k+R1.k+R2.k+R3.k+R4.k)) (x5,(x6,(x7,x8))):=⟨_,_,cut cs _ _,i5,j6⟩
 have j4:(R4.pair (R5.pair (R6.pair (R7.pair R8)))).In w (cs.drop (R0.k+R1.k+R2.k+R3.k)) (x4,(x5,(x6,(x7,x8)))):=⟨_,_,cut cs _ _,i4,j5⟩
 have j3:(R3.pair (R4.pair (R5.pair (R6.pair (R7.pair R8))))).In w (cs.drop (R0.k+R1.k+R2.k)) (x3,(x4,(x5,(x6,(x7,x8))))):=⟨_,_,cut cs _ _,i3,j4⟩
 have j2:(R2.pair (R3.pair (R4.pair (R5.pair (R6.pair (R7.pair R8)))))).In w (cs.drop (R0.k+R1.k)) (x2,(x3,(x4,(x5,(x6,(x7,x8)))))):=⟨_,_,cut cs _ _,i2,j3⟩
 have j1:(R1.pair (R2.pair (R3.pair (R4.pair (R5.pair (R6.pair (R7.pair R8))))))).In w (cs.drop (R0.k)) (x1,(x2,(x3,(x4,(x5,(x6,(x7,x8))))))):=⟨_,_,cut cs _ _,i1,j2⟩
 have j0:(R0.pair (R1.pair (R2.pair (R3.pair (R4.pair (R5.pair (R6.pair (R7.pair R8)))))))).In w (cs.drop (0)) (x0,(x1,(x2,(x3,(x4,(x5,(x6,(x7,x8)))))))):=⟨_,_,cut0 cs _,i0,j1⟩
 exact⟨_,by simpa using j0⟩

end
end Go.Proofs.YtmhgaggpdggbeaaGreatDoor

namespace Go.Proofs.YtmhgaggpdggbeaaGreatDoor
open Go.RowKit
set_option linter.unusedVariables false

abbrev InsD:=Int × Int × ByteArray × ByteArray × ByteArray
def insR:Rep InsD:=(Rep.int.pair (Rep.int.pair (Rep.str.pair (Rep.str.pair Rep.str))))
def insC (d:InsD):List Value:=[.int .i64 (d.1),.int .i64 (d.2.1),.string (d.2.2.1),.string (d.2.2.2.1),.string (d.2.2.2.2)]
theorem insR_in {w:World} {cs:List Value} {d:InsD} (h:insR.In w cs d):cs=insC d∧(d.2.2.1).size≤maxLen∧(d.2.2.2.1).size≤maxLen∧(d.2.2.2.2).size≤maxLen:=by
 obtain ⟨_,_,rfl,⟨rfl,_⟩,⟨_,_,rfl,⟨rfl,_⟩,⟨_,_,rfl,⟨rfl,s2⟩,⟨_,_,rfl,⟨rfl,s3⟩,⟨rfl,s4⟩⟩⟩⟩⟩:=h
 exact⟨rfl,s2,s3,s4⟩

structure insFill (w wr:World) (ds:List InsD) (m:Nat):Prop where
 below:Below w.heap.size w wr
 row:∃ f,wr.rowIs w.heap.size 149 (ds.length * 5) f∧∀ i (h:i<ds.length),i<m→f (i * 5+0)=(.int .i64 ds[i].1)∧f (i * 5+1)=(.int .i64 ds[i].2.1)∧f (i * 5+2)=(.string ds[i].2.2.1)∧f (i * 5+3)=(.string ds[i].2.2.2.1)∧f (i * 5+4)=(.string ds[i].2.2.2.2)

theorem insFill.step {w wr w1:World} {ds:List InsD} {m:Nat} (h:insFill w wr ds m) (hm:m<ds.length) (hb:Below wr.heap.size wr w1) : 
  insFill w (((((w1.setCell ⟨w.heap.size,m * 5,none⟩ (.int .i64 ds[m].1)).setCell ⟨w.heap.size,m * 5+1,none⟩ (.int .i64 ds[m].2.1)).setCell ⟨w.heap.size,m * 5+2,none⟩ (.string ds[m].2.2.1)).setCell ⟨w.heap.size,m * 5+3,none⟩ (.string ds[m].2.2.2.1)).setCell ⟨w.heap.size,m * 5+4,none⟩ (.string ds[m].2.2.2.2)) ds (m+1):=by
 obtain ⟨f,hrow,hf⟩:=h.row
 have hr1:=hrow.of_block (hb.block _ hrow.lt)
 refine ⟨?_,?_⟩
 ·exact (((((h.below.trans (hb.mono h.below.size)).setCell (Nat.le_refl _) _).setCell (Nat.le_refl _) _).setCell (Nat.le_refl _) _).setCell (Nat.le_refl _) _).setCell (Nat.le_refl _) _
 ·refine ⟨_,(((((hr1).set _ _).set _ _).set _ _).set _ _).set _ _,fun i hi him=>?_⟩
  by_cases e:i=m
  ·subst e
   refine ⟨?_,?_,?_,?_,?_⟩<;>simp
  ·have h1:=hf i hi (by omega)
   have n0_0:¬ (i * 5+0=m * 5):=by omega
   have n0_1:¬ (i * 5+0=m * 5+1):=by omega
   have n0_2:¬ (i * 5+0=m * 5+2):=by omega
   have n0_3:¬ (i * 5+0=m * 5+3):=by omega
   have n0_4:¬ (i * 5+0=m * 5+4):=by omega
   have n1_0:¬ (i * 5+1=m * 5):=by omega
   have n1_1:¬ (i * 5+1=m * 5+1):=by omega
   have n1_2:¬ (i * 5+1=m * 5+2):=by omega
   have n1_3:¬ (i * 5+1=m * 5+3):=by omega
   have n1_4:¬ (i * 5+1=m * 5+4):=by omega
   have n2_0:¬ (i * 5+2=m * 5):=by omega
   have n2_1:¬ (i * 5+2=m * 5+1):=by omega
   have n2_2:¬ (i * 5+2=m * 5+2):=by omega
   have n2_3:¬ (i * 5+2=m * 5+3):=by omega
   have n2_4:¬ (i * 5+2=m * 5+4):=by omega
   have n3_0:¬ (i * 5+3=m * 5):=by omega
   have n3_1:¬ (i * 5+3=m * 5+1):=by omega
   have n3_2:¬ (i * 5+3=m * 5+2):=by omega
   have n3_3:¬ (i * 5+3=m * 5+3):=by omega
   have n3_4:¬ (i * 5+3=m * 5+4):=by omega
   have n4_0:¬ (i * 5+4=m * 5):=by omega
   have n4_1:¬ (i * 5+4=m * 5+1):=by omega
   have n4_2:¬ (i * 5+4=m * 5+2):=by omega
   have n4_3:¬ (i * 5+4=m * 5+3):=by omega
   have n4_4:¬ (i * 5+4=m * 5+4):=by omega
   refine ⟨?_,?_,?_,?_,?_⟩
   ·simp only [n0_0,n0_1,n0_2,n0_3,n0_4,if_false];exact h1.1
   ·simp only [n1_0,n1_1,n1_2,n1_3,n1_4,if_false];exact h1.2.1
   ·simp only [n2_0,n2_1,n2_2,n2_3,n2_4,if_false];exact h1.2.2.1
   ·simp only [n3_0,n3_1,n3_2,n3_3,n3_4,if_false];exact h1.2.2.2.1
   ·simp only [n4_0,n4_1,n4_2,n4_3,n4_4,if_false];exact h1.2.2.2.2

abbrev HandlerD:=Int × Int × Int × ByteArray
def handlerR:Rep HandlerD:=(Rep.int.pair (Rep.int.pair (Rep.int.pair Rep.str)))
def handlerC (d:HandlerD):List Value:=[.int .i64 (d.1),.int .i64 (d.2.1),.int .i64 (d.2.2.1),.string (d.2.2.2)]
theorem handlerR_in {w:World} {cs:List Value} {d:HandlerD} (h:handlerR.In w cs d):cs=handlerC d∧(d.2.2.2).size≤maxLen:=by
 obtain ⟨_,_,rfl,⟨rfl,_⟩,⟨_,_,rfl,⟨rfl,_⟩,⟨_,_,rfl,⟨rfl,_⟩,⟨rfl,s3⟩⟩⟩⟩:=h
 exact⟨rfl,s3⟩

structure handlerFill (w wr:World) (ds:List HandlerD) (m:Nat):Prop where
 below:Below w.heap.size w wr
 row:∃ f,wr.rowIs w.heap.size 151 (ds.length * 4) f∧∀ i (h:i<ds.length),i<m→f (i * 4+0)=(.int .i64 ds[i].1)∧f (i * 4+1)=(.int .i64 ds[i].2.1)∧f (i * 4+2)=(.int .i64 ds[i].2.2.1)∧f (i * 4+3)=(.string ds[i].2.2.2)

theorem handlerFill.step {w wr w1:World} {ds:List HandlerD} {m:Nat} (h:handlerFill w wr ds m) (hm:m<ds.length) (hb:Below wr.heap.size wr w1) : 
  handlerFill w ((((w1.setCell ⟨w.heap.size,m * 4,none⟩ (.int .i64 ds[m].1)).setCell ⟨w.heap.size,m * 4+1,none⟩ (.int .i64 ds[m].2.1)).setCell ⟨w.heap.size,m * 4+2,none⟩ (.int .i64 ds[m].2.2.1)).setCell ⟨w.heap.size,m * 4+3,none⟩ (.string ds[m].2.2.2)) ds (m+1):=by
 obtain ⟨f,hrow,hf⟩:=h.row
 have hr1:=hrow.of_block (hb.block _ hrow.lt)
 refine ⟨?_,?_⟩
 ·exact ((((h.below.trans (hb.mono h.below.size)).setCell (Nat.le_refl _) _).setCell (Nat.le_refl _) _).setCell (Nat.le_refl _) _).setCell (Nat.le_refl _) _
 ·refine ⟨_,((((hr1).set _ _).set _ _).set _ _).set _ _,fun i hi him=>?_⟩
  by_cases e:i=m
  ·subst e
   refine ⟨?_,?_,?_,?_⟩<;>simp
  ·have h1:=hf i hi (by omega)
   have n0_0:¬ (i * 4+0=m * 4):=by omega
   have n0_1:¬ (i * 4+0=m * 4+1):=by omega
   have n0_2:¬ (i * 4+0=m * 4+2):=by omega
   have n0_3:¬ (i * 4+0=m * 4+3):=by omega
   have n1_0:¬ (i * 4+1=m * 4):=by omega
   have n1_1:¬ (i * 4+1=m * 4+1):=by omega
   have n1_2:¬ (i * 4+1=m * 4+2):=by omega
   have n1_3:¬ (i * 4+1=m * 4+3):=by omega
   have n2_0:¬ (i * 4+2=m * 4):=by omega
   have n2_1:¬ (i * 4+2=m * 4+1):=by omega
   have n2_2:¬ (i * 4+2=m * 4+2):=by omega
   have n2_3:¬ (i * 4+2=m * 4+3):=by omega
   have n3_0:¬ (i * 4+3=m * 4):=by omega
   have n3_1:¬ (i * 4+3=m * 4+1):=by omega
   have n3_2:¬ (i * 4+3=m * 4+2):=by omega
   have n3_3:¬ (i * 4+3=m * 4+3):=by omega
   refine ⟨?_,?_,?_,?_⟩
   ·simp only [n0_0,n0_1,n0_2,n0_3,if_false];exact h1.1
   ·simp only [n1_0,n1_1,n1_2,n1_3,if_false];exact h1.2.1
   ·simp only [n2_0,n2_1,n2_2,n2_3,if_false];exact h1.2.2.1
   ·simp only [n3_0,n3_1,n3_2,n3_3,if_false];exact h1.2.2.2

abbrev FieldD:=ByteArray × ByteArray × Bool
def fieldR:Rep FieldD:=(Rep.str.pair (Rep.str.pair Rep.bool))
def fieldC (d:FieldD):List Value:=[.string (d.1),.string (d.2.1),.bool (d.2.2)]
theorem fieldR_in {w:World} {cs:List Value} {d:FieldD} (h:fieldR.In w cs d):cs=fieldC d∧(d.1).size≤maxLen∧(d.2.1).size≤maxLen:=by
 obtain ⟨_,_,rfl,⟨rfl,s0⟩,⟨_,_,rfl,⟨rfl,s1⟩,rfl⟩⟩:=h
 exact⟨rfl,s0,s1⟩

structure fieldFill (w wr:World) (ds:List FieldD) (m:Nat):Prop where
 below:Below w.heap.size w wr
 row:∃ f,wr.rowIs w.heap.size 61 (ds.length * 3) f∧∀ i (h:i<ds.length),i<m→f (i * 3+0)=(.string ds[i].1)∧f (i * 3+1)=(.string ds[i].2.1)∧f (i * 3+2)=(.bool ds[i].2.2)

theorem fieldFill.step {w wr w1:World} {ds:List FieldD} {m:Nat} (h:fieldFill w wr ds m) (hm:m<ds.length) (hb:Below wr.heap.size wr w1) : 
  fieldFill w (((w1.setCell ⟨w.heap.size,m * 3,none⟩ (.string ds[m].1)).setCell ⟨w.heap.size,m * 3+1,none⟩ (.string ds[m].2.1)).setCell ⟨w.heap.size,m * 3+2,none⟩ (.bool ds[m].2.2)) ds (m+1):=by
 obtain ⟨f,hrow,hf⟩:=h.row
 have hr1:=hrow.of_block (hb.block _ hrow.lt)
 refine ⟨?_,?_⟩
 ·exact (((h.below.trans (hb.mono h.below.size)).setCell (Nat.le_refl _) _).setCell (Nat.le_refl _) _).setCell (Nat.le_refl _) _
 ·refine ⟨_,(((hr1).set _ _).set _ _).set _ _,fun i hi him=>?_⟩
  by_cases e:i=m
  ·subst e
   refine ⟨?_,?_,?_⟩<;>simp
  ·have h1:=hf i hi (by omega)
   have n0_0:¬ (i * 3+0=m * 3):=by omega
   have n0_1:¬ (i * 3+0=m * 3+1):=by omega
   have n0_2:¬ (i * 3+0=m * 3+2):=by omega
   have n1_0:¬ (i * 3+1=m * 3):=by omega
   have n1_1:¬ (i * 3+1=m * 3+1):=by omega
   have n1_2:¬ (i * 3+1=m * 3+2):=by omega
   have n2_0:¬ (i * 3+2=m * 3):=by omega
   have n2_1:¬ (i * 3+2=m * 3+1):=by omega
   have n2_2:¬ (i * 3+2=m * 3+2):=by omega
   refine ⟨?_,?_,?_⟩
   ·simp only [n0_0,n0_1,n0_2,if_false];exact h1.1
   ·simp only [n1_0,n1_1,n1_2,if_false];exact h1.2.1
   ·simp only [n2_0,n2_1,n2_2,if_false];exact h1.2.2

end Go.Proofs.YtmhgaggpdggbeaaGreatDoor
