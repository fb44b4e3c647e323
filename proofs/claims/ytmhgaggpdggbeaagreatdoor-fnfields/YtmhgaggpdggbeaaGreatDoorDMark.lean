import Derived.Test.YtmhgaggpdggbeaaGreatDoorMarks
import Derived.Test.YtmhgaggpdggbeaaGreatDoorSlots
namespace Go.Proofs.YtmhgaggpdggbeaaGreatDoor
open Go.RowKit
set_option maxRecDepth 20000
set_option linter.unusedVariables false

theorem But.pre {g:Nat} {a b c:World} (k:Below a.heap.size a b) (h:But g b c):But g a c :=
 ⟨h.os.trans k.os,h.tape.trans k.tape,h.output.trans k.output,Nat.le_trans k.size h.size,fun i hi hg=>(h.block i (Nat.lt_of_lt_of_le hi k.size) hg).trans (k.block i hi)⟩

def RowP (w:World) (a:Option Addr) (n cap:Nat) (f:Nat→Value):Prop :=
 n=0 ∨ ∃ g,a=some ⟨g,0,none⟩∧w.rowIs g 9 cap f∧n≤cap∧cap≤maxLen

theorem RowP.mono {w w':World} {a:Option Addr} {n cap:Nat} {f:Nat→Value} (h:RowP w a n cap f) (hb:Below w.heap.size w w'):RowP w' a n cap f:=by
 rcases h with h | ⟨g,h1,h2,h3⟩
 ·exact .inl h
 ·exact .inr ⟨g,h1,h2.of_block (hb.block g h2.lt),h3⟩

def Marked (w w':World) (a:Option Addr) (n cap k:Nat) (f:Nat→Value):Prop :=
 (n=0∧Below w.heap.size w w') ∨ ∃ g,a=some ⟨g,0,none⟩∧But g w w'∧w'.rowIs g 9 cap (mkF k n f)∧n≤cap∧cap≤maxLen

theorem Marked.pre {w w1 w2:World} {a:Option Addr} {n cap k:Nat} {f:Nat→Value} (hb:Below w.heap.size w w1) (h:Marked w1 w2 a n cap k f):Marked w w2 a n cap k f:=by
 rcases h with ⟨h1,h2⟩ | ⟨g,h1,h2,h3⟩
 ·exact .inl ⟨h1,hb.trans (h2.mono hb.size)⟩
 ·exact .inr ⟨g,h1,h2.pre hb,h3⟩

def outD (s:ByteArray):List ByteArray × ByteArray × Int × Int:=if 20000<s.size then ([],⟨#[]⟩,0,2) else match rdD s with
 | .error k=>([],⟨#[]⟩,(k:Int),3)
 | .ok (ps,q)=>(ps,q,0,0)

theorem dvOut_one {s:ByteArray} {w w':World} {e:Ending} (h:dvOut s w w' e) :
  ∃ a cap,e = .returned (outV (.slice a (outD s).1.length cap) (outD s).2.1 (outD s).2.2.1 (outD s).2.2.2)∧w'.ownsRow w.heap.size 9 1 (.slice a (outD s).1.length cap) (outD s).1.length (cellsOfS (outD s).1):=by
 rcases dvOut_cases h with ⟨h1,rfl⟩ | ⟨h1,k,h2,rfl⟩ | ⟨h1,ps,q,a,cap,h2,rfl,ho⟩
 ·have e:outD s=([],⟨#[]⟩,0,2):=by unfold outD;rw [if_pos h1]
  rw [e]
  exact⟨none,0,rfl,World.ownsRow_nil _ _ _ _⟩
 ·have e:outD s=([],⟨#[]⟩,(k:Int),3):=by unfold outD;rw [if_neg h1,h2]
  rw [e]
  exact⟨none,0,rfl,World.ownsRow_nil _ _ _ _⟩
 ·have e:outD s=(ps,q,0,0):=by unfold outD;rw [if_neg h1,h2]
  rw [e]
  exact⟨a,cap,rfl,ho⟩

theorem rdPs_all (s:ByteArray) (k i:Nat) (ps:List ByteArray) (hk:ps.length+k≤8) (hs:∀ p ∈ ps,p.size≤s.size) (j:Nat) (qs:List ByteArray) (h:rdPs s k i ps = .ok (j,qs)) :
  qs.length≤8∧∀ p ∈ qs,p.size≤s.size:=by
 induction k generalizing i ps with
 | zero =>
  rw [rdPs] at h
  split at h
  ·cases h;exact⟨by omega,hs⟩
  ·cases h
 | succ k ih =>
  rw [rdPs] at h
  split at h
  ·cases h;exact⟨by omega,hs⟩
  ·split at h
   ·refine ih _ _ ?_ ?_ h
    ·simp;omega
    ·intro p hp
     rcases List.mem_append.1 hp with hp | hp
     ·exact hs p hp
     ·simp at hp;subst hp;rw [ByteArray.size_extract];omega
   ·cases h

theorem outD_all (s:ByteArray):(outD s).1.length≤8∧∀ p ∈ (outD s).1,p.size≤s.size:=by
 unfold outD
 split
 ·exact⟨by simp,by simp⟩
 ·rcases hr:rdD s with k | ⟨ps,q⟩
  ·exact⟨by simp,by simp⟩
  ·unfold rdD rdFrom at hr
   split at hr
   ·rcases hp:rdPs s 8 1 [] with e | ⟨j,qs⟩
    ·rw [hp] at hr;cases hr
    ·rw [hp] at hr
     have:=rdPs_all s 8 1 [] (by simp) (by simp) j qs hp
     simp only [rdRs] at hr
     split at hr
     ·split at hr
      ·cases hr;exact this
      ·cases hr
     ·cases hr
   ·cases hr

theorem owns_strs {w:World} {base:Nat} {a:Option Addr} {cap:Nat} {xs:List ByteArray} (h:w.ownsRow base 9 1 (.slice a xs.length cap) xs.length (cellsOfS xs)) (hs:∀ p ∈ xs,p.size≤maxLen):Strs w a cap xs:=by
 rcases h.2 with ⟨h1,h0⟩ | ⟨g,cp,cur,h1,h2,h3,h4,h5,h6⟩
 ·injection h1 with e1 e2 e3
  exact⟨⟨by omega,by rw [e3];simp [maxLen]⟩,fun m hm=>by omega,hs⟩
 ·cases h1
  refine ⟨⟨h4,h5⟩,fun m hm=>⟨_,rfl,?_⟩,hs⟩
  rw [add_own,h.cellAt m (by simpa using hm)]
  simp [cellsOfS,List.getD,List.getElem?_eq_getElem hm]

structure Sit (w0 w:World) (t3 t4:Nat) (a1 a2:Option Addr) (c1 c2:Nat) (xs:List ByteArray) (q:ByteArray) (A C:Int):Prop where
 b:Below w0.heap.size w0 w
 lt3:t3<w.heap.size
 lt4:t4<w.heap.size
 x0:w.cell? ⟨t3,0,none⟩=some (.slice a1 xs.length c1)
 x1:w.cell? ⟨t3,1,none⟩=some (.string q)
 x2:w.cell? ⟨t3,2,none⟩=some (.int .i64 A)
 x3:w.cell? ⟨t3,3,none⟩=some (.int .i64 C)
 y0:w.cell? ⟨t4,0,none⟩=some (.slice a2 xs.length c2)
 y1:w.cell? ⟨t4,1,none⟩=some (.string q)
 y2:w.cell? ⟨t4,2,none⟩=some (.int .i64 A)
 y3:w.cell? ⟨t4,3,none⟩=some (.int .i64 C)
 s1:Strs w a1 c1 xs

theorem Sit.mono {w0 w w':World} {t3 t4:Nat} {a1 a2:Option Addr} {c1 c2:Nat} {xs:List ByteArray} {q:ByteArray} {A C:Int} (h:Sit w0 w t3 t4 a1 a2 c1 c2 xs q A C) (hb:Below w.heap.size w w'):Sit w0 w' t3 t4 a1 a2 c1 c2 xs q A C :=
 ⟨h.b.trans (hb.mono h.b.size),Nat.lt_of_lt_of_le h.lt3 hb.size,Nat.lt_of_lt_of_le h.lt4 hb.size,carry hb h.lt3 h.x0,carry hb h.lt3 h.x1,carry hb h.lt3 h.x2,carry hb h.lt3 h.x3,carry hb h.lt4 h.y0,carry hb h.lt4 h.y1,carry hb h.lt4 h.y2,carry hb h.lt4 h.y3,h.s1.mono hb⟩

theorem Marked.row {w w':World} {a:Option Addr} {n cap k:Nat} {f:Nat→Value} (h:Marked w w' a n cap k f):RowP w' a n cap (mkF k n f):=by
 rcases h with ⟨h,_⟩ | ⟨g,e,_,h2,h3⟩
 ·exact .inl h
 ·exact .inr ⟨g,e,h2,h3⟩

theorem owns_block {w:World} {base:Nat} {a:Option Addr} {n cap:Nat} {xs:List Value} (h:w.ownsRow base 9 1 (.slice a n cap) n xs):∀ x,a=some x→base≤x.block∧x.block<w.heap.size:=by
 intro x e
 subst e
 exact h.lt x.block rfl
end Go.Proofs.YtmhgaggpdggbeaaGreatDoor
