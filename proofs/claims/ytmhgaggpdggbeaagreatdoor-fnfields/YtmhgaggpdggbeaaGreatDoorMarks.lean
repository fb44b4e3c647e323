import Derived.Test.YtmhgaggpdggbeaaGreatDoorOpF
import Derived.Test.YtmhgaggpdggbeaaGreatDoorDLaw
import Derived.Deep.RegionWith
namespace Go.Proofs.YtmhgaggpdggbeaaGreatDoor
open Go.RowKit
set_option maxRecDepth 20000
set_option linter.unusedVariables false

def mkL:Nat→Nat→ByteArray→ByteArray
 | 0,_,out=>out
 | f+1,k,out=>if k=0 then out else mkL f (k / 10) (strOfNums [48+((k % 10:Nat):Int)] ++ out)

def mkT (k:Nat):ByteArray:=⟨#[109]⟩ ++ mkL k k ⟨#[]⟩

structure But (g:Nat) (w w':World):Prop where
 os:w'.os=w.os
 tape:w'.tape=w.tape
 output:w'.output=w.output
 size:w.heap.size≤w'.heap.size
 block:∀ b,b<w.heap.size→b ≠ g→w'.heap[b]?=w.heap[b]?

theorem But.refl (g:Nat) (w:World):But g w w:=⟨rfl,rfl,rfl,Nat.le_refl _,fun _ _ _=>rfl⟩
theorem But.on {g:Nat} {a b c:World} (h:But g a b) (k:Below b.heap.size b c):But g a c :=
 ⟨k.os.trans h.os,k.tape.trans h.tape,k.output.trans h.output,Nat.le_trans h.size k.size,fun i hi hg=>(k.block i (Nat.lt_of_lt_of_le hi h.size)).trans (h.block i hi hg)⟩
theorem But.set {g:Nat} {a b:World} (h:But g a b) (j:Nat) (v:Value):But g a (b.setCell ⟨g,j,none⟩ v) :=
 ⟨h.os,h.tape,h.output,by simpa using h.size,fun i hi hg=>(Below.heap_setCell _ _ _ _ hg).trans (h.block i hi hg)⟩
theorem But.cell {g:Nat} {w w':World} {p:Addr} {v:Option Value} (h:But g w w') (hp:p.block<w.heap.size) (hg:p.block ≠ g) (hc:w.cell? p=v):w'.cell? p=v :=
 (World.cell?_of_block (h.block _ hp hg)).trans hc
theorem But.below {g B:Nat} {w0 w w':World} (h:But g w w') (h0:Below B w0 w) (hB:B≤g) (hw:B≤w0.heap.size):Below B w0 w' :=
 ⟨h.os.trans h0.os,h.tape.trans h0.tape,h.output.trans h0.output,Nat.le_trans h0.size h.size,fun k hk=>(h.block k (by have:=h0.size;omega) (by omega)).trans (h0.block k hk)⟩

def mkF (k n:Nat) (f:Nat→Value) (i:Nat):Value:=if i<n then .string (mkT (k+i)) else f i

end Go.Proofs.YtmhgaggpdggbeaaGreatDoor
