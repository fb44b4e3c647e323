import Derived.Test.YtmhgaggpdggbeaaGreatDoorDrc
import Derived.Test.YtmhgaggpdggbeaaGreatDoorCls2
namespace Go.Proofs.YtmhgaggpdggbeaaGreatDoor
open Go.RowKit
set_option maxRecDepth 20000
set_option linter.unusedVariables false
theorem flat_get {β:Type} {c:β→List Value} {k:Nat}:∀ (xs:List β) (hl:∀ x ∈ xs,(c x).length=k) (i:Nat) (hi:i<xs.length) (j:Nat),j<k→(xs.flatMap c)[i * k+j]?=(c xs[i])[j]?
 | [],_,i,hi,_,_=>by simp at hi
 | x :: xs,hl,0,_,j,hj=>by
  have:=hl x (by simp)
  rw [List.flatMap_cons,Nat.zero_mul,Nat.zero_add,List.getElem?_append_left (by omega)]
  rfl
 | x :: xs,hl,i+1,hi,j,hj=>by
  have hx:=hl x (by simp)
  have e:(i+1) * k+j=(c x).length+(i * k+j):=by rw [hx,Nat.add_mul];omega
  rw [List.flatMap_cons,e,List.getElem?_append_right (by omega),Nat.add_sub_cancel_left]
  exact flat_get xs (fun y hy=>hl y (by simp [hy])) i (by simpa using hi) j hj
theorem owns_in {α β:Type} {R:Rep α} {w:World} {B e:Nat} {v:Value} {xs:List β} {c:β→List Value} {f:β→α} (h:w.ownsRow B e R.k v xs.length (xs.flatMap c)) (hc:∀ x ∈ xs,(c x).length=R.k∧R.In w (c x) (f x)):R.slice.In w [v] (xs.map f):=by
 rcases h.2 with ⟨rfl,h0⟩ | ⟨g,cap,cur,rfl,hB,hg,hn,hcap,hsz,htake⟩
 ·exact⟨none,0,by simp [h0],by simp [h0],by simp,fun i hi=>by simp [h0] at hi⟩
 ·refine ⟨some ⟨g,0,none⟩,cap,by simp,by simpa using hn,hcap,fun i hi=>⟨_,rfl,c (xs[i]'(by simpa using hi)),fun j hj=>?_,?_⟩⟩
  ·have hi':i<xs.length:=by simpa using hi
   have hlt:i * R.k+j<xs.length * R.k:=by
    have:(i+1) * R.k≤xs.length * R.k:=Nat.mul_le_mul_right _ hi'
    rw [Nat.add_mul] at this
    omega
   rw [(show (⟨g,0,none⟩:Addr).add (i * R.k+j)=⟨g,i * R.k+j,none⟩ by unfold Addr.add;split<;>simp_all),← flat_get xs (fun x hx=>(hc x hx).1) i hi' j hj,← htake]
   simp [World.cell?,hg,hlt]
  ·rw [List.getElem_map]
   exact (hc _ (List.getElem_mem _)).2
theorem U_max {t:ByteArray} (h:t ∈ U):t.size≤maxLen:=Nat.le_trans (U_small t h) (by unfold maxLen;omega)
theorem fits_wf {n:Int} (h:fits n):(Lit.int .i64 n).wf=true:=by
 unfold Lit.wf
 simp only [Bool.and_eq_true,decide_eq_true_eq]
 exact h
theorem insIn {w:World} {d:InsD} (h:okI d):insR.In w (cI d) d :=
 ⟨[.int .i64 d.1],_,rfl,⟨rfl,fits_wf h.1⟩,[.int .i64 d.2.1],_,rfl,⟨rfl,fits_wf h.2.1⟩,[.string d.2.2.1],_,rfl,⟨rfl,U_max h.2.2.1⟩,[.string d.2.2.2.1],_,rfl,⟨rfl,U_max h.2.2.2.1⟩,rfl,U_max h.2.2.2.2⟩
theorem hanIn {w:World} {d:HandlerD} (h:okH d):handlerR.In w (cH d) d :=
 ⟨[.int .i64 d.1],_,rfl,⟨rfl,fits_wf h.1⟩,[.int .i64 d.2.1],_,rfl,⟨rfl,fits_wf h.2.1⟩,[.int .i64 d.2.2.1],_,rfl,⟨rfl,fits_wf h.2.2.1⟩,rfl,U_max h.2.2.2⟩
def mOf (m:MT):MTup:=(MT.nm m,m.ds,m.st,m.ab,m.fi,m.sk,m.lo,m.cs,m.hs)
def cOf (c:CT):ClsD:=⟨c.nm,c.su,c.fi,c.ab,c.fs,c.ms.map fun x=>mOf x.1⟩
theorem Rw.ins {w:World} {B:Nat} {m:MT} {vc vh:Value} (h:Rw w B m vc vh) (ho:okM m):insR.slice.In w [vc] m.cs:=by
 have:=owns_in (R:=insR) (f:=fun d:InsD=>d) h.c fun x hx=>⟨rfl,insIn (ho.cs x hx)⟩
 simpa using this
theorem Rw.han {w:World} {B:Nat} {m:MT} {vc vh:Value} (h:Rw w B m vc vh) (ho:okM m):handlerR.slice.In w [vh] m.hs:=by
 have:=owns_in (R:=handlerR) (f:=fun d:HandlerD=>d) h.h fun x hx=>⟨rfl,hanIn (ho.hs x hx)⟩
 simpa using this
theorem metIn {w:World} {B:Nat} {x:MetT} (ho:okM x.1) (h:Rw w B x.1 x.2.1 x.2.2):methR.In w (cMt x) (mOf x.1) :=
 methR_mk (x:=mOf x.1) (U_max ho.nm) (U_max ho.ds) (fits_wf ho.sk) (fits_wf ho.lo) (h.ins ho) (h.han ho)
theorem RwC.met {w:World} {B:Nat} {n0 s0:ByteArray} {c:CT} {vf vm:Value} (h:RwC w B c vf vm) (ho:okC n0 s0 c):methR.slice.In w [vm] (cOf c).meths :=
 owns_in (R:=methR) (f:=fun x:MetT=>mOf x.1) h.m fun x hx=>⟨rfl,metIn (ho.ms x hx) (h.r x hx)⟩
end Go.Proofs.YtmhgaggpdggbeaaGreatDoor
