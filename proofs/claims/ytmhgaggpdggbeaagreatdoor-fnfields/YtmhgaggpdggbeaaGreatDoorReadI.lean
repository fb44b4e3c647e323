import Derived.Test.YtmhgaggpdggbeaaGreatDoorRows
import Derived.WalkKit
import Derived.ProofKit
import Derived.Below
import Derived.Test.YtmhgaggpdggbeaaGreatDoorShelf
import Derived.Test.YtmhgaggpdggbeaaGreatDoorTRight
import Derived.Test.YtmhgaggpdggbeaaGreatDoorSplit
import Derived.Laws.AppendOwn
import Derived.Deep.AppendLies
namespace Go.Proofs.YtmhgaggpdggbeaaGreatDoor
open Go.RowKit
set_option maxRecDepth 20000

theorem libClone (s:ByteArray) (w:World) (h:s.size≤281474976710656) :
  Calls Tryz.prog 43 #[.string s] w fun e w'=>e = .returned (.string s)∧Below w.heap.size w w':=by
 go_enter Tryz.func43,Tryz.ntmps43
 go_wp2_with fail
 refine (Tryz.stringslite_Clone s _ h).mono ?_
 rintro e w1 ⟨rfl,hb⟩
 go_wp2
 go_ret
 exact⟨rfl,hb⟩
end Go.Proofs.YtmhgaggpdggbeaaGreatDoor

namespace Go.Proofs.YtmhgaggpdggbeaaGreatDoor
open Go.RowKit
set_option linter.unusedVariables false

def reE (s:ByteArray) (i:Nat):Bool × Nat:=if byt s i=86 then (true,i+1) else tyE s i

def rdPs (s:ByteArray):Nat→Nat→List ByteArray→Except Nat (Nat × List ByteArray)
 | 0,i,ps=>if byt s i=41 then .ok (i+1,ps) else .error i
 | k+1,i,ps=>if byt s i=41 then .ok (i+1,ps) else if (tyE s i).1=true then rdPs s k (tyE s i).2 (ps ++ [s.extract i (tyE s i).2]) else .error (tyE s i).2

def rdRs (s:ByteArray) (j:Nat) (ps:List ByteArray):Except Nat (List ByteArray × ByteArray) :=
 if (reE s j).1=true then (if (reE s j).2=s.size then .ok (ps,s.extract j (reE s j).2) else .error (reE s j).2) else .error (reE s j).2

def rdFrom (s:ByteArray) (k i:Nat) (ps:List ByteArray):Except Nat (List ByteArray × ByteArray) :=
 match rdPs s k i ps with
 | .error e=>.error e
 | .ok (j,qs)=>rdRs s j qs

def rdD (s:ByteArray):Except Nat (List ByteArray × ByteArray):=if byt s 0=40 then rdFrom s 8 1 [] else .error 0

theorem tyL_le (s:ByteArray) (f:Nat) (h:f≤s.size):(tyL s f).2≤s.size:=by
 unfold tyL
 split
 ·rename_i hb
  have h1:=nmRun_le s f 19 (f+1) (nb_in s f _ hb)
  unfold tyR
  split
  ·rename_i h59;exact byt_in s _ (by rw [h59];decide)
  ·exact h1
 ·exact h
theorem tyO_le (s:ByteArray) (i:Nat) (h:i≤s.size):(tyO s i).2≤s.size:=by
 unfold tyO
 split
 ·rename_i e;exact byt_in s i (by rw [e];decide)
 ·split
  ·rename_i e;exact tyL_le s _ (byt_in s i (by rw [e];decide))
  ·exact h
theorem tyE_le (s:ByteArray) (i:Nat) (h:i≤s.size):(tyE s i).2≤s.size:=by
 unfold tyE
 split
 ·rename_i e;exact tyO_le s _ (byt_in s i (by rw [e];decide))
 ·exact tyO_le s i h
theorem tyL_ge (s:ByteArray) (f:Nat):f≤(tyL s f).2:=by
 unfold tyL tyR
 have:=nmRun_ge s f 19 (f+1)
 split
 ·split<;>simp<;>omega
 ·simp
theorem tyO_ge (s:ByteArray) (i:Nat):i≤(tyO s i).2:=by
 unfold tyO
 have:=tyL_ge s (i+1)
 split
 ·simp
 ·split
  ·omega
  ·simp
theorem tyE_ge (s:ByteArray) (i:Nat):i≤(tyE s i).2:=by
 unfold tyE
 have h1:=tyO_ge s i
 have h2:=tyO_ge s (i+1)
 split<;>omega
theorem reE_le (s:ByteArray) (i:Nat) (h:i≤s.size):(reE s i).2≤s.size:=by
 unfold reE
 split
 ·rename_i e;exact byt_in s i (by rw [e];decide)
 ·exact tyE_le s i h
theorem reE_ge (s:ByteArray) (i:Nat):i≤(reE s i).2:=by
 unfold reE
 split
 ·simp
 ·exact tyE_ge s i

theorem rdFrom_close (s:ByteArray) (k i:Nat) (ps:List ByteArray) (h:byt s i=41):rdFrom s k i ps=rdRs s (i+1) ps:=by
 unfold rdFrom
 cases k<;>rw [rdPs,if_pos h]
theorem rdFrom_full (s:ByteArray) (i:Nat) (ps:List ByteArray) (h:byt s i ≠ 41):rdFrom s 0 i ps = .error i:=by
 unfold rdFrom
 rw [rdPs,if_neg h]
theorem rdFrom_no (s:ByteArray) (k i e:Nat) (ps:List ByteArray) (h:byt s i ≠ 41) (ht:tyE s i=(false,e)):rdFrom s (k+1) i ps = .error e:=by
 unfold rdFrom
 rw [rdPs,if_neg h,ht]
 rfl
theorem rdFrom_on (s:ByteArray) (k i e:Nat) (ps:List ByteArray) (h:byt s i ≠ 41) (ht:tyE s i=(true,e)):rdFrom s (k+1) i ps=rdFrom s k e (ps ++ [s.extract i e]):=by
 unfold rdFrom
 rw [rdPs,if_neg h,ht]
 rfl

def cellsOfS (ps:List ByteArray):List Value:=ps.map Value.string

structure RdSt (w w0 wr:World) (ps:List ByteArray) (v:Value):Prop where
 below:Below w.heap.size w wr
 size:w.heap.size+2≤wr.heap.size
 own:wr.ownsRow (w.heap.size+2) 9 1 v ps.length (cellsOfS ps)
 d0:wr.cell? ⟨w.heap.size+1,0,none⟩=some v
 keep:∀ p:Addr,p.block<w.heap.size+2→p ≠ ⟨w.heap.size+1,0,none⟩→wr.cell? p=w0.cell? p
 frz:∀ p:Addr,p.block<w.heap.size+2→wr.frozen? p=w0.frozen? p

theorem owns_below {w w':World} {base:Nat} {e:TypeId} {v:Value} {n:Nat} {xs:List Value} (h:w.ownsRow base e 1 v n xs) (hb:Below w.heap.size w w'):w'.ownsRow base e 1 v n xs:=by
 refine ⟨h.1,?_⟩
 rcases h.2 with h | ⟨g,cap,cur,h1,h2,h3,h4⟩
 ·exact .inl h
 ·refine .inr ⟨g,cap,cur,h1,h2,(hb.block g ?_).trans h3,h4⟩
  rcases Nat.lt_or_ge g w.heap.size with hg | hg
  ·exact hg
  ·rw [Array.getElem?_eq_none hg] at h3;cases h3

theorem _root_.Go.World.ownsRow.base_le {w:World} {base base':Nat} {e:TypeId} {v:Value} {n:Nat} {xs:List Value} (h:w.ownsRow base e 1 v n xs) (hb:base'≤base):w.ownsRow base' e 1 v n xs:=by
 refine ⟨h.1,?_⟩
 rcases h.2 with h | ⟨g,cap,cur,h1,h2,h3⟩
 ·exact .inl h
 ·exact .inr ⟨g,cap,cur,h1,Nat.le_trans hb h2,h3⟩

theorem owns_set {w:World} {base:Nat} {e:TypeId} {v u:Value} {n:Nat} {xs:List Value} {a:Addr} (h:w.ownsRow base e 1 v n xs) (ha:a.block<base):(w.setCell a u).ownsRow base e 1 v n xs:=by
 refine ⟨h.1,?_⟩
 rcases h.2 with h | ⟨g,cap,cur,h1,h2,h3,h4⟩
 ·exact .inl h
 ·exact .inr ⟨g,cap,cur,h1,h2,(Below.heap_setCell _ _ _ _ (by omega)).trans h3,h4⟩

theorem RdSt.step {w w0 wr wa w1:World} {ps:List ByteArray} {v v':Value} {y:ByteArray} {o:Obj} (h:RdSt w w0 wr ps v) (hb:Below wr.heap.size wr wa)
  (hg:(wa.alloc o).grownBy w1 v.ownBlock) (hown:w1.ownsRow (w.heap.size+2) 9 1 v' (ps.length+1) (cellsOfS ps ++ [.string y])) :
  RdSt w w0 (w1.setCell ⟨w.heap.size+1,0,none⟩ v') (ps ++ [y]) v':=by
 have hsz:=h.size
 have hbs:=hb.size
 have hne:∀ b,b<w.heap.size+2→some b ≠ v.ownBlock:=fun b hb2 e=>by
  have:=(h.own.lt b e.symm).1
  omega
 have hblk:∀ b,b<w.heap.size+2→w1.heap[b]?=wr.heap[b]?:=fun b hb2=>by
  rw [hg.block b (by simp;omega) (hne b hb2),Below.heap_alloc _ _ _ (by omega),hb.block b (by omega)]
 have hd0:w1.cell? ⟨w.heap.size+1,0,none⟩=some v:=(World.cell?_of_block (hblk _ (by simp))).trans h.d0
 have hgs:=hg.size
 simp at hgs
 refine ⟨?_,?_,?_,?_,?_,?_⟩
 ·refine Below.setCell ?_ (by simp) _
  refine ⟨?_,?_,?_,?_,fun k hk=>?_⟩
  ·exact hg.os.trans ((hb.os).trans h.below.os)
  ·exact hg.tape.trans ((hb.tape).trans h.below.tape)
  ·exact hg.output.trans ((hb.output).trans h.below.output)
  ·have:=h.below.size;omega
  ·exact (hblk k (by omega)).trans (h.below.block k hk)
 ·simp;omega
 ·have e1:(ps ++ [y]).length=ps.length+1:=by simp
  have e2:cellsOfS (ps ++ [y])=cellsOfS ps ++ [.string y]:=by simp [cellsOfS]
  rw [e1,e2]
  exact owns_set hown (by simp)
 ·exact World.cell?_setCell_same _ _ _ hd0
 ·intro p hp hpne
  rw [World.cell?_setCell_other (h:=Ne.symm hpne)]
  exact (World.cell?_of_block (hblk _ hp)).trans (h.keep p hp hpne)
 ·intro p hp
  rw [World.frozen?_setCell]
  exact (World.frozen?_of_block (hblk _ hp)).trans (h.frz p hp)
end Go.Proofs.YtmhgaggpdggbeaaGreatDoor

namespace Go.Proofs.YtmhgaggpdggbeaaGreatDoor
open Go.RowKit
set_option linter.unusedVariables false

theorem from_list (s:ByteArray) (i:Nat):(s.extract i s.size).data.toList=s.data.toList.drop i:=by
 obtain ⟨⟨l⟩⟩:=s
 simp [ByteArray.data_extract,ByteArray.size]
 exact List.take_of_length_le (by simp)
theorem pre_V (s:ByteArray) (i:Nat):Lib.hasPrefix (s.extract i s.size).data.toList [86]=decide (byt s i=86):=by
 rw [from_list]
 unfold Lib.hasPrefix byt
 have e:s.data.toList.getD i 0=(s.data.toList.drop i).getD 0 0:=by simp [List.getD]
 rw [e]
 cases s.data.toList.drop i with
 | nil=>simp [List.isPrefixOf]
 | cons c t =>
  by_cases hc:c=86
  ·subst hc;simp [List.isPrefixOf]
  ·have:¬ ((c.toNat:Int)=86):=fun h=>hc (UInt8.toNat_inj.1 (by
    have h':c.toNat=86:=by omega
    simpa using h'))
   simp [List.isPrefixOf,this]
   exact fun h=>hc h.symm

set_option maxHeartbeats 1000000 in
theorem implResultEnd (s:ByteArray) (i:Nat) (w:World) (hs:s.size≤maxLen) (hi:i≤s.size) :
  Calls Tryz.prog 165 #[.string s,.int .i64 (i:Int)] w fun e w'=>e = .returned (teV (reE s i))∧w'=w:=by
 have hm:=hs
 unfold maxLen at hs
 have htr:∀ w:World,Calls Tryz.prog 173 #[.string (s.extract i s.size),.string ⟨#[86]⟩] w fun e w'=>e = .returned (.bool (decide (byt s i=86)))∧w'=w:=by
  intro w
  have h:=Tryz.strings_HasPrefix (s.extract i s.size) ⟨#[86]⟩ w
  rw [show (⟨#[86]⟩:ByteArray).data.toList=[86] from rfl,pre_V s i] at h
  exact h
 have HU:Hid (∀ w:World,Calls Tryz.prog 173 #[.string (s.extract i s.size),.string ⟨#[86]⟩] w fun e w'=>e = .returned (.bool (decide (byt s i=86)))∧w'=w):=htr
 clear htr
 by_cases h86:byt s i=86
 ·have HT:Hid (teV (reE s i) = .tuple #[.int .i64 ((i:Int)+1),.nilIface]):=by show _=_;unfold reE;rw [if_pos h86];rfl
  have HD:Hid (decide (byt s i=86)=true):=by show _=_;simpa using h86
  have hlt:i<s.size:=byt_in s i (by rw [h86];decide)
  clear h86
  go_enter Tryz.func165,Tryz.ntmps165
  go_wp2_with fail
  refine (HU.out _).mono ?_
  rintro e w1 ⟨rfl,hw1⟩;subst hw1
  rw [HD.out]
  go_wp2
  go_ret2
  exact⟨congrArg Ending.returned HT.out.symm,rfl⟩
 ·have HT:Hid (reE s i=tyE s i):=by show _=_;unfold reE;rw [if_neg h86]
  have HD:Hid (decide (byt s i=86)=false):=by show _=_;simpa using h86
  clear h86
  obtain ⟨⟨b,n⟩,hr⟩:∃ r,tyE s i=r:=⟨_,rfl⟩
  have HQ:Hid (tyE s i=(b,n)):=hr
  have HT2:Hid (reE s i=(b,n)):=HT.out.trans hr
  clear hr HT
  cases b
  ·go_enter Tryz.func165,Tryz.ntmps165
   go_wp2_with fail
   refine (HU.out _).mono ?_
   rintro e w1 ⟨rfl,hw1⟩;subst hw1
   rw [HD.out]
   go_wp2_with fail
   refine (implTypeEnd s i _ hm hi).mono ?_
   rintro e w1 ⟨rfl,hw1⟩;subst hw1
   rw [HQ.out,teV_no]
   go_wp2
   go_ret2
   exact⟨by rw [HT2.out];rfl,rfl⟩
  ·go_enter Tryz.func165,Tryz.ntmps165
   go_wp2_with fail
   refine (HU.out _).mono ?_
   rintro e w1 ⟨rfl,hw1⟩;subst hw1
   rw [HD.out]
   go_wp2_with fail
   refine (implTypeEnd s i _ hm hi).mono ?_
   rintro e w1 ⟨rfl,hw1⟩;subst hw1
   rw [HQ.out,teV_yes]
   go_wp2
   go_ret2
   exact⟨by rw [HT2.out];rfl,rfl⟩
end Go.Proofs.YtmhgaggpdggbeaaGreatDoor
