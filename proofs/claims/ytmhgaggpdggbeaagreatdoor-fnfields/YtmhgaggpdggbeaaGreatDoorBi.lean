import Derived.Test.YtmhgaggpdggbeaaGreatDoorSplit
import Derived.Test.YtmhgaggpdggbeaaGreatDoorMarks
namespace Go.Proofs.YtmhgaggpdggbeaaGreatDoor
open Go.RowKit
set_option maxRecDepth 20000
set_option linter.unusedVariables false

def objN:ByteArray:=⟨#[79,98,106,101,99,116]⟩
def errN:ByteArray:=⟨#[69,114,114,111,114]⟩
def biN:List ByteArray:=[objN,errN,⟨#[78,117,108,108,69,114,114,111,114]⟩,⟨#[82,97,110,103,101,69,114,114,111,114]⟩,⟨#[67,97,115,116,69,114,114,111,114]⟩,⟨#[77,97,116,104,69,114,114,111,114]⟩,⟨#[70,117,108,108,69,114,114,111,114]⟩,⟨#[68,101,101,112,69,114,114,111,114]⟩]

theorem own_row {w:World} {base:Nat} {v:Value} {xs:List ByteArray} (h:w.ownsRow base 9 1 v xs.length (sC xs)) (hs:∀ p ∈ xs,p.size≤maxLen) :
  ∃ a cap,v = .slice a xs.length cap∧Strs w a cap xs∧(∀ x,a=some x→base≤x.block∧x.block<w.heap.size)∧(xs.length=0 ∨ ∃ g f,a=some ⟨g,0,none⟩∧base≤g∧g<w.heap.size∧w.rowIs g 9 cap f∧xs.length≤cap∧cap≤maxLen):=by
 rcases h.2 with ⟨h1,h0⟩ | ⟨g,cp,cur,h1,h2,h3,h4,h5,h6⟩
 ·refine ⟨none,0,by rw [h1,h0],⟨⟨by omega,by simp [maxLen]⟩,fun m hm=>by omega,hs⟩,(fun x e=>by cases e),.inl h0⟩
 ·have hlt:g<w.heap.size:=(Array.getElem?_eq_some_iff.1 h3).1
  refine ⟨some ⟨g,0,none⟩,cp,h1,⟨⟨h4,h5⟩,fun m hm=>⟨_,rfl,?_⟩,hs⟩,fun x e=>by cases e;exact⟨h2,hlt⟩,.inr ⟨g,fun i=>cur.getD i undef,rfl,h2,hlt,?_,h4,h5⟩⟩
  ·subst h1
   rw [add_own,h.cellAt m (by simpa using hm)]
   simp [sC,List.getD,List.getElem?_eq_getElem hm]
  ·exact⟨cur,h3,by omega,fun i hi=>by
    have hc:i<cur.size:=by omega
    rw [Array.getElem?_eq_getElem hc]
    simp [Array.getD,hc]⟩
theorem strs_but {w w':World} {a:Option Addr} {cap g:Nat} {xs:List ByteArray} (h:Strs w a cap xs) (hb:But g w w') (hne:∀ x,a=some x→x.block ≠ g):Strs w' a cap xs :=
 ⟨h.cap,fun m hm=>by
  obtain ⟨x,e,hc⟩:=h.cell m hm
  exact⟨x,e,hb.cell (World.block_lt_of_cell? _ _ hc) (by rw [add_blk];exact hne x e) hc⟩,h.size⟩
theorem biN_sz:∀ p ∈ biN,p.size≤maxLen:=by unfold maxLen;decide

set_option maxHeartbeats 1000000 in
theorem specBuiltIn (w:World) :
  Calls Tryz.prog 96 #[] w fun e w'=>Below w.heap.size w w'∧∃ v,e = .returned v∧w'.ownsRow w.heap.size 9 1 v biN.length (sC biN):=by
 go_enter Tryz.func96,Tryz.ntmps96
 go_wp2
 go_ret
 exact⟨below_al _ _,_,rfl,World.ownsRow_lit w _ 8 (Nat.le_refl _) (by unfold maxLen;omega) rfl⟩
set_option maxHeartbeats 1000000 in
theorem implBuiltIn (w:World) :
  Calls Tryz.prog 103 #[] w fun e w'=>Below w.heap.size w w'∧∃ v,e = .returned v∧w'.ownsRow w.heap.size 9 1 v biN.length (sC biN):=by
 go_enter Tryz.func103,Tryz.ntmps103
 go_wp2
 go_ret
 exact⟨below_al _ _,_,rfl,World.ownsRow_lit w _ 8 (Nat.le_refl _) (by unfold maxLen;omega) rfl⟩
end Go.Proofs.YtmhgaggpdggbeaaGreatDoor
