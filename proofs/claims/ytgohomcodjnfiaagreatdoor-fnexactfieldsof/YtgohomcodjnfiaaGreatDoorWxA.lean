/-
  How what is handed in opens.
-/
import Derived.Test.YtgohomcodjnfiaaGreatDoorFlat
import Derived.Test.YtgohomcodjnfiaaGreatDoorMOpn
import Derived.Test.YtgohomcodjnfiaaGreatDoorCls2
import Derived.Test.YtgohomcodjnfiaaGreatDoorSplit
namespace Go.Proofs.YtgohomcodjnfiaaGreatDoor
set_option maxRecDepth 20000
section
open Go.RowKit
set_option linter.unusedVariables false
section
variable {P:Program} {H:Type} {enc:TypeId × Value→H} {base:Nat} {spare:Nat→Bool} {held:Bool}
def Opens (P:Program) {H:Type} (enc:TypeId × Value→H) (base:Nat) (spare:Nat→Bool) (held:Bool) {α:Type} (R:Rep α) (t:TypeId):Prop :=
 ∀ w fuel cs y,DataW.trod enc P w base spare held fuel t cs=some y→∃ x,R.In w cs x

theorem opens_str {t:TypeId} (ht:P.underlying t=some .string):Opens P enc base spare held Rep.str t:=fun w fuel cs y h=>by
 obtain ⟨s,e,_,hs⟩:=DataW.trod_string ht h
 exact⟨s,e,hs⟩
theorem opens_int {t:TypeId} (ht:P.underlying t=some (.int .i64)):Opens P enc base spare held Rep.int t:=fun w fuel cs y h=>by
 obtain ⟨n,e,_,hn⟩:=DataW.trod_int ht h
 exact⟨n,e,hn⟩
theorem opens_bool {t:TypeId} (ht:P.underlying t=some .bool):Opens P enc base spare held Rep.bool t:=fun w fuel cs y h=>by
 obtain ⟨b,e,_⟩:=DataW.trod_bool ht h
 exact⟨b,e⟩

theorem cells_at {w:World} {a:Addr} {n:Nat} {cs:List Value} (h:w.cells? base a n=some cs):cs.length=n∧∀ j,j<n→w.cell? (a.add j)=cs[j]? :=
 (World.cells?_some h).2

theorem opens_slice {α:Type} {R:Rep α} {t e:TypeId} (ht:P.underlying t=some (.slice e)) (hk:P.cellsOf e=R.k) (hR:Opens P enc base spare held R e):Opens P enc base spare held R.slice t:=fun w fuel cs y h=>by
 rcases Deep.open_slice ht h with ⟨rfl,_⟩ | ⟨a,len,cap,m,n,D,Pl,rfl,_,hl,hm,hmm,_,hel⟩
 ·exact⟨[],none,0,rfl,Nat.le_refl _,by simp [maxLen],fun i hi=>by simp at hi⟩
 ·have hlen:len≤m:=by rw [hmm];split<;>omega
  have hex:∀ i,i<len→∃ x,R.At w a i x:=fun i hi=>by
   obtain ⟨cs',hc,htr⟩:=hel i (by omega)
   obtain ⟨x,hx⟩:=hR _ _ _ _ htr
   obtain ⟨_,hcell⟩:=cells_at hc
   refine ⟨x,cs',fun j hj=>?_,hx⟩
   have:=hcell j (by rw [hk];exact hj)
   rw [Deep.add_add,hk] at this
   exact this
  have hxs:∀ k,k≤len→∃ xs:List α,xs.length=k∧∀ i (hi:i<xs.length),R.At w a i xs[i]:=by
   intro k
   induction k with
   | zero=>exact fun _=>⟨[],rfl,fun i hi=>by simp at hi⟩
   | succ k ih =>
    intro hk'
    obtain ⟨xs,hxl,hxa⟩:=ih (by omega)
    obtain ⟨x,hx⟩:=hex k (by omega)
    refine ⟨xs ++ [x],by simp [hxl],fun i hi=>?_⟩
    by_cases hik:i<xs.length
    ·rw [List.getElem_append_left hik];exact hxa i hik
    ·have:i=xs.length:=by simp at hi;omega
     subst this
     rw [List.getElem_append_right (Nat.le_refl _)]
     simp [hxl]
     exact hx
  obtain ⟨xs,hxl,hxa⟩:=hxs len (Nat.le_refl _)
  exact⟨xs,some a,cap,by rw [hxl],by omega,hm,fun i hi=>⟨a,rfl,hxa i hi⟩⟩

theorem cut {α:Type} (cs:List α) (a k:Nat):cs.drop a=(cs.drop a).take k ++ cs.drop (a+k):=by
 rw [← List.drop_drop];exact (List.take_append_drop k _).symm
theorem cut0 {α:Type} (cs:List α) (k:Nat):cs.drop 0=(cs.drop 0).take k ++ cs.drop k:=by
 have:=cut cs 0 k
 rwa [Nat.zero_add] at this

theorem opens_struct3 {α0 α1 α2:Type} {R0:Rep α0} {R1:Rep α1} {R2:Rep α2} {t:TypeId} {f0 f1 f2:Field} (ht:P.underlying t=some (.struct #[f0,f1,f2]))
  (ho:f0.offset=0∧f1.offset=R0.k∧f2.offset=R0.k+R1.k) (hk:P.cellsOf f0.type=R0.k∧P.cellsOf f1.type=R1.k∧P.cellsOf f2.type=R2.k) (hc:P.cellsOf t=R0.k+R1.k+R2.k)
  (h0:Opens P enc base spare held R0 f0.type) (h1:Opens P enc base spare held R1 f1.type) (h2:Opens P enc base spare held R2 f2.type):Opens P enc base spare held (R0.pair (R1.pair R2)) t:=fun w fuel cs y h=>by
 obtain ⟨xs,n,_,_,hl,hxl,hf⟩:=DataW.trod_struct ht h
 obtain ⟨o0,o1,o2⟩:=ho
 obtain ⟨k0,k1,k2⟩:=hk
 have hxl:xs.length=3:=hxl
 have hcl:=hl.trans hc
 obtain ⟨x0,i0⟩:∃ x,R0.In w ((cs.drop (0)).take R0.k) x:=by
  have hh:=hf 0 f0 rfl
  rw [o0,k0,List.getElem?_eq_getElem (by omega)] at hh
  exact h0 _ _ _ _ hh
 obtain ⟨x1,i1⟩:∃ x,R1.In w ((cs.drop (R0.k)).take R1.k) x:=by
  have hh:=hf 1 f1 rfl
  rw [o1,k1,List.getElem?_eq_getElem (by omega)] at hh
  exact h1 _ _ _ _ hh
 obtain ⟨x2,i2⟩:∃ x,R2.In w ((cs.drop (R0.k+R1.k)).take R2.k) x:=by
  have hh:=hf 2 f2 rfl
  rw [o2,k2,List.getElem?_eq_getElem (by omega)] at hh
  exact h2 _ _ _ _ hh
 have j2:R2.In w (cs.drop (R0.k+R1.k)) x2:=by
  rw [List.take_of_length_le (by rw [List.length_drop];omega)] at i2
  exact i2
 have j1:(R1.pair R2).In w (cs.drop (R0.k)) (x1,x2):=⟨_,_,cut cs _ _,i1,j2⟩
 have j0:(R0.pair (R1.pair R2)).In w (cs.drop (0)) (x0,(x1,x2)):=⟨_,_,cut0 cs _,i0,j1⟩
 exact⟨_,by simpa using j0⟩

theorem opens_struct4 {α0 α1 α2 α3:Type} {R0:Rep α0} {R1:Rep α1} {R2:Rep α2} {R3:Rep α3} {t:TypeId} {f0 f1 f2 f3:Field} (ht:P.underlying t=some (.struct #[f0,f1,f2,f3]))
  (ho:f0.offset=0∧f1.offset=R0.k∧f2.offset=R0.k+R1.k∧f3.offset=R0.k+R1.k+R2.k) (hk:P.cellsOf f0.type=R0.k∧P.cellsOf f1.type=R1.k∧P.cellsOf f2.type=R2.k∧P.cellsOf f3.type=R3.k) (hc:P.cellsOf t=R0.k+R1.k+R2.k+R3.k)
  (h0:Opens P enc base spare held R0 f0.type) (h1:Opens P enc base spare held R1 f1.type) (h2:Opens P enc base spare held R2 f2.type) (h3:Opens P enc base spare held R3 f3.type):Opens P enc base spare held (R0.pair (R1.pair (R2.pair R3))) t:=fun w fuel cs y h=>by
 obtain ⟨xs,n,_,_,hl,hxl,hf⟩:=DataW.trod_struct ht h
 obtain ⟨o0,o1,o2,o3⟩:=ho
 obtain ⟨k0,k1,k2,k3⟩:=hk
 have hxl:xs.length=4:=hxl
 have hcl:=hl.trans hc
 obtain ⟨x0,i0⟩:∃ x,R0.In w ((cs.drop (0)).take R0.k) x:=by
  have hh:=hf 0 f0 rfl
  rw [o0,k0,List.getElem?_eq_getElem (by omega)] at hh
  exact h0 _ _ _ _ hh
 obtain ⟨x1,i1⟩:∃ x,R1.In w ((cs.drop (R0.k)).take R1.k) x:=by
  have hh:=hf 1 f1 rfl
  rw [o1,k1,List.getElem?_eq_getElem (by omega)] at hh
  exact h1 _ _ _ _ hh
 obtain ⟨x2,i2⟩:∃ x,R2.In w ((cs.drop (R0.k+R1.k)).take R2.k) x:=by
  have hh:=hf 2 f2 rfl
  rw [o2,k2,List.getElem?_eq_getElem (by omega)] at hh
  exact h2 _ _ _ _ hh
 obtain ⟨x3,i3⟩:∃ x,R3.In w ((cs.drop (R0.k+R1.k+R2.k)).take R3.k) x:=by
  have hh:=hf 3 f3 rfl
  rw [o3,k3,List.getElem?_eq_getElem (by omega)] at hh
  exact h3 _ _ _ _ hh
 have j3:R3.In w (cs.drop (R0.k+R1.k+R2.k)) x3:=by
  rw [List.take_of_length_le (by rw [List.length_drop];omega)] at i3
  exact i3
 have j2:(R2.pair R3).In w (cs.drop (R0.k+R1.k)) (x2,x3):=⟨_,_,cut cs _ _,i2,j3⟩
 have j1:(R1.pair (R2.pair R3)).In w (cs.drop (R0.k)) (x1,(x2,x3)):=⟨_,_,cut cs _ _,i1,j2⟩
 have j0:(R0.pair (R1.pair (R2.pair R3))).In w (cs.drop (0)) (x0,(x1,(x2,x3))):=⟨_,_,cut0 cs _,i0,j1⟩
 exact⟨_,by simpa using j0⟩

theorem opens_struct5 {α0 α1 α2 α3 α4:Type} {R0:Rep α0} {R1:Rep α1} {R2:Rep α2} {R3:Rep α3} {R4:Rep α4} {t:TypeId} {f0 f1 f2 f3 f4:Field} (ht:P.underlying t=some (.struct #[f0,f1,f2,f3,f4]))
  (ho:f0.offset=0∧f1.offset=R0.k∧f2.offset=R0.k+R1.k∧f3.offset=R0.k+R1.k+R2.k∧f4.offset=R0.k+R1.k+R2.k+R3.k) (hk:P.cellsOf f0.type=R0.k∧P.cellsOf f1.type=R1.k∧P.cellsOf f2.type=R2.k∧P.cellsOf f3.type=R3.k∧P.cellsOf f4.type=R4.k) (hc:P.cellsOf t=R0.k+R1.k+R2.k+R3.k+R4.k)
  (h0:Opens P enc base spare held R0 f0.type) (h1:Opens P enc base spare held R1 f1.type) (h2:Opens P enc base spare held R2 f2.type) (h3:Opens P enc base spare held R3 f3.type) (h4:Opens P enc base spare held R4 f4.type):Opens P enc base spare held (R0.pair (R1.pair (R2.pair (R3.pair R4)))) t:=fun w fuel cs y h=>by
 obtain ⟨xs,n,_,_,hl,hxl,hf⟩:=DataW.trod_struct ht h
 obtain ⟨o0,o1,o2,o3,o4⟩:=ho
 obtain ⟨k0,k1,k2,k3,k4⟩:=hk
 have hxl:xs.length=5:=hxl
 have hcl:=hl.trans hc
 obtain ⟨x0,i0⟩:∃ x,R0.In w ((cs.drop (0)).take R0.k) x:=by
  have hh:=hf 0 f0 rfl
  rw [o0,k0,List.getElem?_eq_getElem (by omega)] at hh
  exact h0 _ _ _ _ hh
 obtain ⟨x1,i1⟩:∃ x,R1.In w ((cs.drop (R0.k)).take R1.k) x:=by
  have hh:=hf 1 f1 rfl
  rw [o1,k1,List.getElem?_eq_getElem (by omega)] at hh
  exact h1 _ _ _ _ hh
 obtain ⟨x2,i2⟩:∃ x,R2.In w ((cs.drop (R0.k+R1.k)).take R2.k) x:=by
  have hh:=hf 2 f2 rfl
  rw [o2,k2,List.getElem?_eq_getElem (by omega)] at hh
  exact h2 _ _ _ _ hh
 obtain ⟨x3,i3⟩:∃ x,R3.In w ((cs.drop (R0.k+R1.k+R2.k)).take R3.k) x:=by
  have hh:=hf 3 f3 rfl
  rw [o3,k3,List.getElem?_eq_getElem (by omega)] at hh
  exact h3 _ _ _ _ hh
 obtain ⟨x4,i4⟩:∃ x,R4.In w ((cs.drop (R0.k+R1.k+R2.k+R3.k)).take R4.k) x:=by
  have hh:=hf 4 f4 rfl
  rw [o4,k4,List.getElem?_eq_getElem (by omega)] at hh
  exact h4 _ _ _ _ hh
 have j4:R4.In w (cs.drop (R0.k+R1.k+R2.k+R3.k)) x4:=by
  rw [List.take_of_length_le (by rw [List.length_drop];omega)] at i4
  exact i4
 have j3:(R3.pair R4).In w (cs.drop (R0.k+R1.k+R2.k)) (x3,x4):=⟨_,_,cut cs _ _,i3,j4⟩
 have j2:(R2.pair (R3.pair R4)).In w (cs.drop (R0.k+R1.k)) (x2,(x3,x4)):=⟨_,_,cut cs _ _,i2,j3⟩
 have j1:(R1.pair (R2.pair (R3.pair R4))).In w (cs.drop (R0.k)) (x1,(x2,(x3,x4))):=⟨_,_,cut cs _ _,i1,j2⟩
 have j0:(R0.pair (R1.pair (R2.pair (R3.pair R4)))).In w (cs.drop (0)) (x0,(x1,(x2,(x3,x4)))):=⟨_,_,cut0 cs _,i0,j1⟩
 exact⟨_,by simpa using j0⟩

theorem opens_struct6 {α0 α1 α2 α3 α4 α5:Type} {R0:Rep α0} {R1:Rep α1} {R2:Rep α2} {R3:Rep α3} {R4:Rep α4} {R5:Rep α5} {t:TypeId} {f0 f1 f2 f3 f4 f5:Field} (ht:P.underlying t=some (.struct #[f0,f1,f2,f3,f4,f5]))
  (ho:f0.offset=0∧f1.offset=R0.k∧f2.offset=R0.k+R1.k∧f3.offset=R0.k+R1.k+R2.k∧f4.offset=R0.k+R1.k+R2.k+R3.k∧f5.offset=R0.k+R1.k+R2.k+R3.k+R4.k) (hk:P.cellsOf f0.type=R0.k∧P.cellsOf f1.type=R1.k∧P.cellsOf f2.type=R2.k∧P.cellsOf f3.type=R3.k∧P.cellsOf f4.type=R4.k∧P.cellsOf f5.type=R5.k) (hc:P.cellsOf t=R0.k+R1.k+R2.k+R3.k+R4.k+R5.k)
  (h0:Opens P enc base spare held R0 f0.type) (h1:Opens P enc base spare held R1 f1.type) (h2:Opens P enc base spare held R2 f2.type) (h3:Opens P enc base spare held R3 f3.type) (h4:Opens P enc base spare held R4 f4.type) (h5:Opens P enc base spare held R5 f5.type):Opens P enc base spare held (R0.pair (R1.pair (R2.pair (R3.pair (R4.pair R5))))) t:=fun w fuel cs y h=>by
 obtain ⟨xs,n,_,_,hl,hxl,hf⟩:=DataW.trod_struct ht h
 obtain ⟨o0,o1,o2,o3,o4,o5⟩:=ho
 obtain ⟨k0,k1,k2,k3,k4,k5⟩:=hk
 have hxl:xs.length=6:=hxl
 have hcl:=hl.trans hc
 obtain ⟨x0,i0⟩:∃ x,R0.In w ((cs.drop (0)).take R0.k) x:=by
  have hh:=hf 0 f0 rfl
  rw [o0,k0,List.getElem?_eq_getElem (by omega)] at hh
  exact h0 _ _ _ _ hh
 obtain ⟨x1,i1⟩:∃ x,R1.In w ((cs.drop (R0.k)).take R1.k) x:=by
  have hh:=hf 1 f1 rfl
  rw [o1,k1,List.getElem?_eq_getElem (by omega)] at hh
  exact h1 _ _ _ _ hh
 obtain ⟨x2,i2⟩:∃ x,R2.In w ((cs.drop (R0.k+R1.k)).take R2.k) x:=by
  have hh:=hf 2 f2 rfl
  rw [o2,k2,List.getElem?_eq_getElem (by omega)] at hh
  exact h2 _ _ _ _ hh
 obtain ⟨x3,i3⟩:∃ x,R3.In w ((cs.drop (R0.k+R1.k+R2.k)).take R3.k) x:=by
  have hh:=hf 3 f3 rfl
  rw [o3,k3,List.getElem?_eq_getElem (by omega)] at hh
  exact h3 _ _ _ _ hh
 obtain ⟨x4,i4⟩:∃ x,R4.In w ((cs.drop (R0.k+R1.k+R2.k+R3.k)).take R4.k) x:=by
  have hh:=hf 4 f4 rfl
  rw [o4,k4,List.getElem?_eq_getElem (by omega)] at hh
  exact h4 _ _ _ _ hh
 obtain ⟨x5,i5⟩:∃ x,R5.In w ((cs.drop (R0.k+R1.k+R2.k+R3.k+R4.k)).take R5.k) x:=by
  have hh:=hf 5 f5 rfl
  rw [o5,k5,List.getElem?_eq_getElem (by omega)] at hh
  exact h5 _ _ _ _ hh
 have j5:R5.In w (cs.drop (R0.k+R1.k+R2.k+R3.k+R4.k)) x5:=by
  rw [List.take_of_length_le (by rw [List.length_drop];omega)] at i5
  exact i5
 have j4:(R4.pair R5).In w (cs.drop (R0.k+R1.k+R2.k+R3.k)) (x4,x5):=⟨_,_,cut cs _ _,i4,j5⟩
 have j3:(R3.pair (R4.pair R5)).In w (cs.drop (R0.k+R1.k+R2.k)) (x3,(x4,x5)):=⟨_,_,cut cs _ _,i3,j4⟩
 have j2:(R2.pair (R3.pair (R4.pair R5))).In w (cs.drop (R0.k+R1.k)) (x2,(x3,(x4,x5))):=⟨_,_,cut cs _ _,i2,j3⟩
 have j1:(R1.pair (R2.pair (R3.pair (R4.pair R5)))).In w (cs.drop (R0.k)) (x1,(x2,(x3,(x4,x5)))):=⟨_,_,cut cs _ _,i1,j2⟩
 have j0:(R0.pair (R1.pair (R2.pair (R3.pair (R4.pair R5))))).In w (cs.drop (0)) (x0,(x1,(x2,(x3,(x4,x5))))):=⟨_,_,cut0 cs _,i0,j1⟩
 exact⟨_,by simpa using j0⟩

theorem opens_struct9 {α0 α1 α2 α3 α4 α5 α6 α7 α8:Type} {R0:Rep α0} {R1:Rep α1} {R2:Rep α2} {R3:Rep α3} {R4:Rep α4} {R5:Rep α5} {R6:Rep α6} {R7:Rep α7} {R8:Rep α8} {t:TypeId} {f0 f1 f2 f3 f4 f5 f6 f7 f8:Field} (ht:P.underlying t=some (.struct #[f0,f1,f2,f3,f4,f5,f6,f7,f8]))
  (ho:f0.offset=0∧f1.offset=R0.k∧f2.offset=R0.k+R1.k∧f3.offset=R0.k+R1.k+R2.k∧f4.offset=R0.k+R1.k+R2.k+R3.k∧f5.offset=R0.k+R1.k+R2.k+R3.k+R4.k∧f6.offset=R0.k+R1.k+R2.k+R3.k+R4.k+R5.k∧f7.offset=R0.k+R1.k+R2.k+R3.k+R4.k+R5.k+R6.k∧f8.offset=R0.k+R1.k+R2.k+R3.k+R4.k+R5.k+R6.k+R7.k) (hk:P.cellsOf f0.type=R0.k∧P.cellsOf f1.type=R1.k∧P.cellsOf f2.type=R2.k∧P.cellsOf f3.type=R3.k∧P.cellsOf f4.type=R4.k∧P.cellsOf f5.type=R5.k∧P.cellsOf f6.type=R6.k∧P.cellsOf f7.type=R7.k∧P.cellsOf f8.type=R8.k) (hc:P.cellsOf t=R0.k+R1.k+R2.k+R3.k+R4.k+R5.k+R6.k+R7.k+R8.k)
  (h0:Opens P enc base spare held R0 f0.type) (h1:Opens P enc base spare held R1 f1.type) (h2:Opens P enc base spare held R2 f2.type) (h3:Opens P enc base spare held R3 f3.type) (h4:Opens P enc base spare held R4 f4.type) (h5:Opens P enc base spare held R5 f5.type) (h6:Opens P enc base spare held R6 f6.type) (h7:Opens P enc base spare held R7 f7.type) (h8:Opens P enc base spare held R8 f8.type):Opens P enc base spare held (R0.pair (R1.pair (R2.pair (R3.pair (R4.pair (R5.pair (R6.pair (R7.pair R8)))))))) t:=fun w fuel cs y h=>by
 obtain ⟨xs,n,_,_,hl,hxl,hf⟩:=DataW.trod_struct ht h
 obtain ⟨o0,o1,o2,o3,o4,o5,o6,o7,o8⟩:=ho
 obtain ⟨k0,k1,k2,k3,k4,k5,k6,k7,k8⟩:=hk
 have hxl:xs.length=9:=hxl
 have hcl:=hl.trans hc
 obtain ⟨x0,i0⟩:∃ x,R0.In w ((cs.drop (0)).take R0.k) x:=by
  have hh:=hf 0 f0 rfl
  rw [o0,k0,List.getElem?_eq_getElem (by omega)] at hh
  exact h0 _ _ _ _ hh
 obtain ⟨x1,i1⟩:∃ x,R1.In w ((cs.drop (R0.k)).take R1.k) x:=by
  have hh:=hf 1 f1 rfl
  rw [o1,k1,List.getElem?_eq_getElem (by omega)] at hh
  exact h1 _ _ _ _ hh
 obtain ⟨x2,i2⟩:∃ x,R2.In w ((cs.drop (R0.k+R1.k)).take R2.k) x:=by
  have hh:=hf 2 f2 rfl
  rw [o2,k2,List.getElem?_eq_getElem (by omega)] at hh
  exact h2 _ _ _ _ hh
 obtain ⟨x3,i3⟩:∃ x,R3.In w ((cs.drop (R0.k+R1.k+R2.k)).take R3.k) x:=by
  have hh:=hf 3 f3 rfl
  rw [o3,k3,List.getElem?_eq_getElem (by omega)] at hh
  exact h3 _ _ _ _ hh
 obtain ⟨x4,i4⟩:∃ x,R4.In w ((cs.drop (R0.k+R1.k+R2.k+R3.k)).take R4.k) x:=by
  have hh:=hf 4 f4 rfl
  rw [o4,k4,List.getElem?_eq_getElem (by omega)] at hh
  exact h4 _ _ _ _ hh
 obtain ⟨x5,i5⟩:∃ x,R5.In w ((cs.drop (R0.k+R1.k+R2.k+R3.k+R4.k)).take R5.k) x:=by
  have hh:=hf 5 f5 rfl
  rw [o5,k5,List.getElem?_eq_getElem (by omega)] at hh
  exact h5 _ _ _ _ hh
 obtain ⟨x6,i6⟩:∃ x,R6.In w ((cs.drop (R0.k+R1.k+R2.k+R3.k+R4.k+R5.k)).take R6.k) x:=by
  have hh:=hf 6 f6 rfl
  rw [o6,k6,List.getElem?_eq_getElem (by omega)] at hh
  exact h6 _ _ _ _ hh
 obtain ⟨x7,i7⟩:∃ x,R7.In w ((cs.drop (R0.k+R1.k+R2.k+R3.k+R4.k+R5.k+R6.k)).take R7.k) x:=by
  have hh:=hf 7 f7 rfl
  rw [o7,k7,List.getElem?_eq_getElem (by omega)] at hh
  exact h7 _ _ _ _ hh
 obtain ⟨x8,i8⟩:∃ x,R8.In w ((cs.drop (R0.k+R1.k+R2.k+R3.k+R4.k+R5.k+R6.k+R7.k)).take R8.k) x:=by
  have hh:=hf 8 f8 rfl
  rw [o8,k8,List.getElem?_eq_getElem (by omega)] at hh
  exact h8 _ _ _ _ hh
 have j8:R8.In w (cs.drop (R0.k+R1.k+R2.k+R3.k+R4.k+R5.k+R6.k+R7.k)) x8:=by
  rw [List.take_of_length_le (by rw [List.length_drop];omega)] at i8
  exact i8
 have j7:(R7.pair R8).In w (cs.drop (R0.k+R1.k+R2.k+R3.k+R4.k+R5.k+R6.k)) (x7,x8):=⟨_,_,cut cs _ _,i7,j8⟩
 have j6:(R6.pair (R7.pair R8)).In w (cs.drop (R0.k+R1.k+R2.k+R3.k+R4.k+R5.k)) (x6,(x7,x8)):=⟨_,_,cut cs _ _,i6,j7⟩
 have j5:(R5.pair (R6.pair (R7.pair R8))).In w (cs.drop (R0.k+R1.k+R2.k+R3.k+R4.k)) (x5,(x6,(x7,x8))):=⟨_,_,cut cs _ _,i5,j6⟩
 have j4:(R4.pair (R5.pair (R6.pair (R7.pair R8)))).In w (cs.drop (R0.k+R1.k+R2.k+R3.k)) (x4,(x5,(x6,(x7,x8)))):=⟨_,_,cut cs _ _,i4,j5⟩
 have j3:(R3.pair (R4.pair (R5.pair (R6.pair (R7.pair R8))))).In w (cs.drop (R0.k+R1.k+R2.k)) (x3,(x4,(x5,(x6,(x7,x8))))):=⟨_,_,cut cs _ _,i3,j4⟩
 have j2:(R2.pair (R3.pair (R4.pair (R5.pair (R6.pair (R7.pair R8)))))).In w (cs.drop (R0.k+R1.k)) (x2,(x3,(x4,(x5,(x6,(x7,x8)))))):=⟨_,_,cut cs _ _,i2,j3⟩
 have j1:(R1.pair (R2.pair (R3.pair (R4.pair (R5.pair (R6.pair (R7.pair R8))))))).In w (cs.drop (R0.k)) (x1,(x2,(x3,(x4,(x5,(x6,(x7,x8))))))):=⟨_,_,cut cs _ _,i1,j2⟩
 have j0:(R0.pair (R1.pair (R2.pair (R3.pair (R4.pair (R5.pair (R6.pair (R7.pair R8)))))))).In w (cs.drop (0)) (x0,(x1,(x2,(x3,(x4,(x5,(x6,(x7,x8)))))))):=⟨_,_,cut0 cs _,i0,j1⟩
 exact⟨_,by simpa using j0⟩

end
open Go.RowKit
set_option linter.unusedVariables false
end
section
open Go.RowKit
set_option linter.unusedVariables false
section
variable {H:Type} {enc:TypeId × Value→H} {base:Nat} {spare:Nat→Bool} {held:Bool}
theorem opensIns:Opens Tryz.prog enc base spare held insR 140 :=
 opens_struct5 (R0:=Rep.int) (R1:=Rep.int) (R2:=Rep.str) (R3:=Rep.str) (R4:=Rep.str) Tryz.underlying140 ⟨rfl,rfl,rfl,rfl,rfl⟩ ⟨by kernel_rfl,by kernel_rfl,by kernel_rfl,by kernel_rfl,by kernel_rfl⟩ (by kernel_rfl)
  (opens_int Tryz.underlying2) (opens_int Tryz.underlying2) (opens_str Tryz.underlying9) (opens_str Tryz.underlying9) (opens_str Tryz.underlying9)
theorem opensHandler:Opens Tryz.prog enc base spare held handlerR 142 :=
 opens_struct4 (R0:=Rep.int) (R1:=Rep.int) (R2:=Rep.int) (R3:=Rep.str) Tryz.underlying142 ⟨rfl,rfl,rfl,rfl⟩ ⟨by kernel_rfl,by kernel_rfl,by kernel_rfl,by kernel_rfl⟩ (by kernel_rfl)
  (opens_int Tryz.underlying2) (opens_int Tryz.underlying2) (opens_int Tryz.underlying2) (opens_str Tryz.underlying9)
theorem opensField:Opens Tryz.prog enc base spare held fieldR 94 :=
 opens_struct3 (R0:=Rep.str) (R1:=Rep.str) (R2:=Rep.bool) Tryz.underlying94 ⟨rfl,rfl,rfl⟩ ⟨by kernel_rfl,by kernel_rfl,by kernel_rfl⟩ (by kernel_rfl)
  (opens_str Tryz.underlying9) (opens_str Tryz.underlying9) (opens_bool Tryz.underlying4)
end
open Go.RowKit
set_option linter.unusedVariables false
open Go.RowKit
set_option linter.unusedVariables false
open Go.RowKit
set_option linter.unusedVariables false
open Go.RowKit
set_option linter.unusedVariables false
open Go.RowKit
set_option linter.unusedVariables false
open Go.RowKit
set_option linter.unusedVariables false
section
variable {H:Type} {enc:TypeId × Value→H} {base:Nat} {spare:Nat→Bool} {held:Bool}
theorem opensMethod:Opens Tryz.prog enc base spare held methR 99 :=
 opens_struct9 (R0:=Rep.str) (R1:=Rep.str) (R2:=Rep.bool) (R3:=Rep.bool) (R4:=Rep.bool) (R5:=Rep.int) (R6:=Rep.int) (R7:=insR.slice) (R8:=handlerR.slice) Tryz.underlying99 ⟨rfl,rfl,rfl,rfl,rfl,rfl,rfl,rfl,rfl⟩
  ⟨by kernel_rfl,by kernel_rfl,by kernel_rfl,by kernel_rfl,by kernel_rfl,by kernel_rfl,by kernel_rfl,by kernel_rfl,by kernel_rfl⟩ (by kernel_rfl)
  (opens_str Tryz.underlying9) (opens_str Tryz.underlying9) (opens_bool Tryz.underlying4) (opens_bool Tryz.underlying4) (opens_bool Tryz.underlying4) (opens_int Tryz.underlying2) (opens_int Tryz.underlying2)
  (opens_slice Tryz.underlying96 (by kernel_rfl) opensIns) (opens_slice Tryz.underlying97 (by kernel_rfl) opensHandler)
end
end
section
open Go.RowKit
set_option linter.unusedVariables false
open Go.RowKit
set_option linter.unusedVariables false
section
variable {H:Type} {enc:TypeId × Value→H} {base:Nat} {spare:Nat→Bool} {held:Bool}
theorem opensClass:Opens Tryz.prog enc base spare held classR 42 :=
 opens_struct6 (R0:=Rep.str) (R1:=Rep.str) (R2:=Rep.bool) (R3:=Rep.bool) (R4:=fieldR.slice) (R5:=methR.slice) Tryz.underlying42 ⟨rfl,rfl,rfl,rfl,rfl,rfl⟩
  ⟨by kernel_rfl,by kernel_rfl,by kernel_rfl,by kernel_rfl,by kernel_rfl,by kernel_rfl⟩ (by kernel_rfl)
  (opens_str Tryz.underlying9) (opens_str Tryz.underlying9) (opens_bool Tryz.underlying4) (opens_bool Tryz.underlying4)
  (opens_slice Tryz.underlying39 (by kernel_rfl) opensField) (opens_slice Tryz.underlying40 (by kernel_rfl) opensMethod)
end
end
section
open Go.RowKit
set_option linter.unusedVariables false
theorem sW {w1 W:World} {o:Obj} (h:w1.alloc o=W) {p:Addr} {u:Option Value} (x:∀ o,(w1.alloc o).cell? p=u):W.cell? p=u:=by rw [← h];exact x o
open Go.RowKit
open Go.RowKit
set_option linter.unusedVariables false
end
end Go.Proofs.YtgohomcodjnfiaaGreatDoor
