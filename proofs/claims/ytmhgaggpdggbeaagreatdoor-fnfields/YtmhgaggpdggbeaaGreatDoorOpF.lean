import Derived.Test.YtmhgaggpdggbeaaGreatDoorRows
import Derived.WalkKit
import Derived.ProofKit
import Derived.OpenShut
import Derived.ShutString
import Derived.ChangeOld
import Derived.Below
import Derived.Laws.IdiomStrings
import Derived.Laws.BytesArg
import Derived.WalkLawsBesides
import Derived.Test.YtmhgaggpdggbeaaGreatDoorSplit
import Derived.Laws.OwnMore
import Derived.Deep.AppendLies
namespace Go.Proofs.YtmhgaggpdggbeaaGreatDoor
open Go.RowKit
set_option maxRecDepth 20000

theorem convLit (w:World) (xs:List Int) :
  (convert 38 9 (.slice (some ⟨w.heap.size,0,none⟩) xs.length xs.length)).run Tryz.prog (w.alloc (.cells (xs.map (Value.int .u8)).toArray 5)) = .ok (.string (strOfNums xs)) (w.alloc (.cells (xs.map (Value.int .u8)).toArray 5)):=by
 refine run_convert_bytes_arg (P:=Tryz.prog) (w.alloc (.cells (xs.map (Value.int .u8)).toArray 5)) 38 5 Tryz.underlying38 Tryz.underlying5 w.heap.size 0 xs.length xs.length xs rfl ?_ 9 Tryz.underlying9
 intro i hi
 have:=World.cell?_alloc_mark w (xs.map (Value.int .u8)).toArray 5 (0,0) i
 simp only [Nat.zero_add]
 refine this.trans ?_
 simp [List.getD,List.getElem?_eq_getElem hi]

def p1 (n:Int):ByteArray:=if 0≤n∧n≤255 then strOfNums [n] else ⟨#[]⟩
def p2 (n:Int):ByteArray:=if 0≤n∧n≤65535 then strOfNums [n / 256,n % 256] else ⟨#[]⟩
def p4 (n:Int):ByteArray:=if -2147483648≤n∧n≤2147483647 then strOfNums [n % 4294967296 / 16777216,n % 4294967296 / 65536 % 256,n % 4294967296 / 256 % 256,n % 256] else ⟨#[]⟩

end Go.Proofs.YtmhgaggpdggbeaaGreatDoor

namespace Go.Proofs.YtmhgaggpdggbeaaGreatDoor
open Go.RowKit
set_option linter.unusedVariables false

def opsL:List ByteArray:=[⟨#[]⟩,⟨#[99,111,110,115,116,32,110]⟩,⟨#[110,117,108,108]⟩,⟨#[108,111,97,100,32,105]⟩,⟨#[115,116,111,114,101,32,105]⟩,⟨#[112,111,112]⟩,⟨#[100,117,112]⟩,⟨#[115,119,97,112]⟩,⟨#[97,100,100]⟩,⟨#[115,117,98]⟩,⟨#[109,117,108]⟩,⟨#[100,105,118]⟩,⟨#[114,101,109]⟩,⟨#[97,110,100]⟩,⟨#[111,114]⟩,⟨#[120,111,114]⟩,⟨#[115,104,108]⟩,⟨#[115,104,114]⟩,⟨#[117,115,104,114]⟩,⟨#[103,111,116,111,32,116]⟩,⟨#[105,102,101,113,32,116]⟩,⟨#[105,102,108,116,32,116]⟩,⟨#[105,102,115,97,109,101,32,116]⟩,⟨#[105,102,108,101,115,115,32,116]⟩,⟨#[105,102,110,117,108,108,32,116]⟩,⟨#[105,102,105,115,32,116]⟩,⟨#[114,101,116,117,114,110]⟩,⟨#[105,114,101,116,117,114,110]⟩,⟨#[97,114,101,116,117,114,110]⟩,⟨#[116,104,114,111,119]⟩,⟨#[100,117,112,50]⟩,⟨#[110,101,119,32,99]⟩,⟨#[103,101,116,102,105,101,108,100,32,102]⟩,⟨#[112,117,116,102,105,101,108,100,32,102]⟩,⟨#[103,101,116,115,116,97,116,105,99,32,102]⟩,⟨#[112,117,116,115,116,97,116,105,99,32,102]⟩,⟨#[99,97,108,108,32,109]⟩,⟨#[99,97,108,108,115,116,97,116,105,99,32,109]⟩,⟨#[99,97,108,108,115,112,101,99,105,97,108,32,109]⟩,⟨#[99,97,115,116,32,99]⟩,⟨#[105,115,111,102,32,99]⟩,⟨#[110,101,119,108,105,115,116,32,121]⟩,⟨#[103,101,116]⟩,⟨#[112,117,116]⟩,⟨#[115,105,122,101]⟩]

theorem opsL_small:∀ x ∈ opsL,x.size≤100:=by decide

set_option maxHeartbeats 2000000 in
theorem specOps (w:World) :
  Calls Tryz.prog 139 #[] w fun e w'=>e = .returned (.slice (some ⟨w.heap.size,0,none⟩) 45 45)∧Below w.heap.size w w'∧w'.heap.size=w.heap.size+1∧∀ i,i<45→w'.cell? ⟨w.heap.size,i,none⟩=some (.string (opsL.getD i ⟨#[]⟩)):=by
 go_enter Tryz.func139,Tryz.ntmps139
 go_wp2
 go_ret
 refine ⟨rfl,(Below.refl _ _).alloc (Nat.le_refl _) _,by simp,fun i hi=>?_⟩
 rw [World.cell?_alloc_mark]
 have key:∀ i,i<45→((#[.string ⟨#[]⟩,.string ⟨#[99,111,110,115,116,32,110]⟩,.string ⟨#[110,117,108,108]⟩,.string ⟨#[108,111,97,100,32,105]⟩,.string ⟨#[115,116,111,114,101,32,105]⟩,.string ⟨#[112,111,112]⟩,.string ⟨#[100,117,112]⟩,.string ⟨#[115,119,97,112]⟩,.string ⟨#[97,100,100]⟩,.string ⟨#[115,117,98]⟩,.string ⟨#[109,117,108]⟩,.string ⟨#[100,105,118]⟩,.string ⟨#[114,101,109]⟩,.string ⟨#[97,110,100]⟩,.string ⟨#[111,114]⟩,.string ⟨#[120,111,114]⟩,.string ⟨#[115,104,108]⟩,.string ⟨#[115,104,114]⟩,.string ⟨#[117,115,104,114]⟩,.string ⟨#[103,111,116,111,32,116]⟩,.string ⟨#[105,102,101,113,32,116]⟩,.string ⟨#[105,102,108,116,32,116]⟩,.string ⟨#[105,102,115,97,109,101,32,116]⟩,.string ⟨#[105,102,108,101,115,115,32,116]⟩,.string ⟨#[105,102,110,117,108,108,32,116]⟩,.string ⟨#[105,102,105,115,32,116]⟩,.string ⟨#[114,101,116,117,114,110]⟩,.string ⟨#[105,114,101,116,117,114,110]⟩,.string ⟨#[97,114,101,116,117,114,110]⟩,.string ⟨#[116,104,114,111,119]⟩,.string ⟨#[100,117,112,50]⟩,.string ⟨#[110,101,119,32,99]⟩,.string ⟨#[103,101,116,102,105,101,108,100,32,102]⟩,.string ⟨#[112,117,116,102,105,101,108,100,32,102]⟩,.string ⟨#[103,101,116,115,116,97,116,105,99,32,102]⟩,.string ⟨#[112,117,116,115,116,97,116,105,99,32,102]⟩,.string ⟨#[99,97,108,108,32,109]⟩,.string ⟨#[99,97,108,108,115,116,97,116,105,99,32,109]⟩,.string ⟨#[99,97,108,108,115,112,101,99,105,97,108,32,109]⟩,.string ⟨#[99,97,115,116,32,99]⟩,.string ⟨#[105,115,111,102,32,99]⟩,.string ⟨#[110,101,119,108,105,115,116,32,121]⟩,.string ⟨#[103,101,116]⟩,.string ⟨#[112,117,116]⟩,.string ⟨#[115,105,122,101]⟩]:Array Value))[i]?=some (.string (opsL.getD i ⟨#[]⟩)):=by
  intro i hi
  have hl:i<opsL.length:=hi
  show ((opsL.map Value.string).toArray)[i]?=_
  rw [List.getElem?_toArray,List.getElem?_map,List.getD_eq_getElem?_getD,List.getElem?_eq_getElem hl]
  rfl
 exact key i hi

def opPs (op:Nat):List ByteArray:=spl (opsL.getD op ⟨#[]⟩) 32 (opsL.getD op ⟨#[]⟩).size 0 0 []
def fmS (op:Int):ByteArray:=if 1≤op∧op<45 then (if (opPs op.toNat).length=2 then (opPs op.toNat).getD 1 ⟨#[]⟩ else ⟨#[]⟩) else ⟨#[33]⟩
end Go.Proofs.YtmhgaggpdggbeaaGreatDoor

namespace Go.Proofs.YtmhgaggpdggbeaaGreatDoor
open Go.RowKit
set_option linter.unusedVariables false

def nmS (op:Int):ByteArray:=if 1≤op∧op<45 then (opPs op.toNat).getD 0 ⟨#[]⟩ else ⟨#[]⟩

theorem getD_small (i:Nat):(opsL.getD i ⟨#[]⟩).size≤100:=by
 rw [List.getD_eq_getElem?_getD]
 by_cases h:i<opsL.length
 ·rw [List.getElem?_eq_getElem h];exact opsL_small _ (List.getElem_mem h)
 ·rw [List.getElem?_eq_none (by omega)];decide

theorem opPs_pos (i:Nat):0<(opPs i).length:=by
 have key:∀ t c k i f acc,0<(spl t c k i f acc).length:=by
  intro t c k
  induction k with
  | zero=>intro i f acc;simp [spl]
  | succ k ih=>intro i f acc;unfold spl;split<;>exact ih _ _ _
 exact key _ _ _ _ _ _

set_option maxHeartbeats 1000000 in
theorem specOpForm (op:Int) (w:World) (ho:-9223372036854775808≤op∧op≤9223372036854775807) :
  Calls Tryz.prog 120 #[.int .i64 op] w fun e w'=>e = .returned (.string (fmS op))∧Below w.heap.size w w':=by
 by_cases c1:op<1
 ·have d1:decide (op<1)=true:=by simpa using c1
  have HT:Hid (fmS op=⟨#[33]⟩):=by show _=_;unfold fmS;rw [if_neg (by omega)]
  go_enter Tryz.func120,Tryz.ntmps120
  go_wp2_with fail
  refine (specOps w).mono ?_
  rintro e w1 ⟨rfl,hb1,_,_⟩
  have HB1:Hid (Below w.heap.size w w1):=hb1
  clear hb1
  go_wp2
  go_ret
  exact⟨rS HT.out.symm,HB1.out⟩
 ·have d1:decide (op<1)=false:=by simpa using c1
  by_cases c2:45≤op
  ·have d2:decide (45≤op)=true:=by simpa using c2
   have HT:Hid (fmS op=⟨#[33]⟩):=by show _=_;unfold fmS;rw [if_neg (by omega)]
   go_enter Tryz.func120,Tryz.ntmps120
   go_wp2_with fail
   refine (specOps w).mono ?_
   rintro e w1 ⟨rfl,hb1,_,_⟩
   have HB1:Hid (Below w.heap.size w w1):=hb1
   clear hb1
   go_wp2
   go_ret
   exact⟨rS HT.out.symm,HB1.out⟩
  ·have d2:decide (45≤op)=false:=by simpa using c2
   obtain ⟨i,rfl⟩:∃ i:Nat,op=(i:Int):=⟨op.toNat,by omega⟩
   have hi:i<45:=by omega
   have HF:Hid (fmS (i:Int)=if (opPs i).length=2 then (opPs i).getD 1 ⟨#[]⟩ else ⟨#[]⟩):=by show _=_;unfold fmS;rw [if_pos (by omega)];simp
   have HP:Hid (0<(opPs i).length):=opPs_pos i
   have hsm:=getD_small i
   have hsp:∀ w,Calls Tryz.prog 140 #[.string (opsL.getD i ⟨#[]⟩),.int .u8 32] w fun e w'=>∃ v,e = .returned v∧w'.ownsRow w.heap.size 9 1 v (opPs i).length (sC (opPs i))∧Below w.heap.size w w':=fun w=>specSplit (opsL.getD i ⟨#[]⟩) 32 w (by omega) (by omega)
   have HS:=(show Hid _ from hsp)
   clear hsp hsm
   generalize opPs i=ps at *
   go_enter Tryz.func120,Tryz.ntmps120
   go_wp2_with fail
   refine (specOps w).mono ?_
   rintro e w1 ⟨rfl,hb1,_,hcell⟩
   have HB1:Hid (Below w.heap.size w w1):=hb1
   have x0:=hcell i hi
   clear hb1 hcell
   generalize opsL.getD i ⟨#[]⟩=row at *
   have x1:w1.cell? ⟨w.heap.size,0+i,none⟩=some (.string row):=by rw [Nat.zero_add];exact x0
   have x2:w1.cell? ⟨w.heap.size,0+i * 1,none⟩=some (.string row):=by rw [Nat.mul_one];exact x1
   go_wp2_with fail
   refine (HS.out w1).mono ?_
   rintro e w2 ⟨v,rfl,hown,hb2⟩
   have HB2:Hid (Below w.heap.size w w2):=HB1.out.trans (hb2.mono HB1.out.size)
   clear hb2
   obtain ⟨g,cap,rfl,_,_⟩:=hown.form HP.out
   have HO:=(show Hid _ from hown)
   clear hown
   by_cases h2:ps.length=2
   ·have y1:w2.cell? ⟨g,1,none⟩=some (.string (ps.getD 1 ⟨#[]⟩)):=by
     have ho:w2.ownsRow w1.heap.size 9 1 (.slice (some ⟨g,0,none⟩) ps.length cap) ps.length (sC ps):=HO.out
     rw [ho.cellAt 1 (by omega),sC,List.getElem?_map,List.getD_eq_getElem?_getD,List.getElem?_eq_getElem (by omega)];rfl
    rw [h2] at HO ⊢
    clear HO
    have HT:Hid (ps.getD 1 ⟨#[]⟩=fmS (i:Int)):=by show _=_;rw [HF.out,if_pos h2]
    clear HF
    generalize ps.getD 1 ⟨#[]⟩=r at *
    go_wp2
    go_ret
    exact⟨rS HT.out,HB2.out⟩
   ·have d3:((ps.length:Int) == 2)=false:=by simp;omega
    have HT:Hid ((⟨#[]⟩:ByteArray)=fmS (i:Int)):=by show _=_;rw [HF.out,if_neg h2]
    clear HF HO
    go_wp2
    go_ret
    exact⟨rS HT.out,HB2.out⟩

def Tab (w:World):Prop:=∀ i:Nat,i<45→w.cell? ⟨1,2 * i,none⟩=some (.string (nmS (i:Int)))∧w.cell? ⟨1,2 * i+1,none⟩=some (.string (fmS (i:Int)))

theorem Tab.mono {w w':World} (h:Tab w) (hb:Below w.heap.size w w'):Tab w':=fun i hi =>
 ⟨(hb.cell (World.block_lt_of_cell? _ _ (h i hi).1)).trans (h i hi).1,(hb.cell (World.block_lt_of_cell? _ _ (h i hi).2)).trans (h i hi).2⟩

def isP (a c:Int):Bool:=decide (0≤a∧a<c)
set_option maxHeartbeats 1000000 in
theorem implIsPlace (a c:Int) (w:World) :
  Calls Tryz.prog 159 #[.int .i64 a,.int .i64 c] w fun e w'=>e = .returned (.bool (isP a c))∧w'=w:=by
 by_cases h0:0≤a
 ·have d0:decide (0≤a)=true:=by simpa using h0
  by_cases h1:a<c
  ·have d1:decide (a<c)=true:=by simpa using h1
   have HT:Hid (isP a c=true):=by show _=_;unfold isP;simp;omega
   go_enter Tryz.func159,Tryz.ntmps159
   go_wp2
   go_ret
   exact⟨rB HT.out.symm,rfl⟩
  ·have d1:decide (a<c)=false:=by simpa using h1
   have HT:Hid (isP a c=false):=by show _=_;unfold isP;simp;omega
   go_enter Tryz.func159,Tryz.ntmps159
   go_wp2
   go_ret
   exact⟨rB HT.out.symm,rfl⟩
 ·have d0:decide (0≤a)=false:=by simpa using h0
  have HT:Hid (isP a c=false):=by show _=_;unfold isP;simp;omega
  go_enter Tryz.func159,Tryz.ntmps159
  go_wp2
  go_ret
  exact⟨rB HT.out.symm,rfl⟩

def rowV (op:Int):Value:=.agg #[.string (nmS op),.string (fmS op)]
theorem nmS_out {op:Int} (h:¬ (0≤op∧op<45)):nmS op=nmS 0:=by unfold nmS;rw [if_neg (by omega),if_neg (by omega)]
theorem fmS_out {op:Int} (h:¬ (0≤op∧op<45)):fmS op=fmS 0:=by unfold fmS;rw [if_neg (by omega),if_neg (by omega)]

set_option maxHeartbeats 1000000 in
theorem implOpAt (op:Int) (w:World) (ht:Tab w) :
  Calls Tryz.prog 179 #[.int .i64 op] w fun e w'=>e = .returned (rowV op)∧Below w.heap.size w w':=by
 have HB0:Hid (∀ o,Below w.heap.size w (w.alloc o)):=fun o=>(Below.refl _ _).alloc (Nat.le_refl _) o
 have HTab:Hid (∀ o,Tab (w.alloc o)):=fun o=>ht.mono (HB0.out o)
 clear ht
 unfold rowV
 by_cases h0:0≤op∧op<45
 ·have HP:Hid (isP op 45=true):=by show _=_;unfold isP;simp;omega
  obtain ⟨i,rfl⟩:∃ i:Nat,op=(i:Int):=⟨op.toNat,by omega⟩
  have hi:i<45:=by omega
  go_enter Tryz.func179,Tryz.ntmps179
  go_wp2_with fail
  refine (implIsPlace _ _ _).mono ?_
  rintro e w1 ⟨rfl,hw1⟩
  subst w1
  rw [HP.out]
  have x0:=(HTab.out (.cells #[.string ⟨#[]⟩,.string ⟨#[]⟩] 232) i hi)
  obtain ⟨x0,x1⟩:=x0
  rw [Nat.mul_comm] at x0 x1
  have HT:Hid (Value.agg #[.string (nmS (i:Int)),.string (fmS (i:Int))]=Value.agg #[.string (nmS (i:Int)),.string (fmS (i:Int))]):=rfl
  generalize hnm:nmS (i:Int)=nm at x0 x1 HT ⊢
  generalize hfm:fmS (i:Int)=fm at x0 x1 HT ⊢
  have HT2:Hid (Value.agg #[.string nm,.string fm]=Value.agg #[.string (nmS (i:Int)),.string (fmS (i:Int))]):=by show _=_;rw [hnm,hfm]
  clear hnm hfm HT
  go_wp2
  refine bodyPost_ret (v:=.agg #[.string nm,.string fm]) (by simp [results,Tryz.results179,go_sem]) rfl ⟨congrArg Ending.returned HT2.out,HB0.out _⟩
 ·have HP:Hid (isP op 45=false):=by show _=_;unfold isP;simp;omega
  have hn:=nmS_out h0
  have hf:=fmS_out h0
  go_enter Tryz.func179,Tryz.ntmps179
  go_wp2_with fail
  refine (implIsPlace _ _ _).mono ?_
  rintro e w1 ⟨rfl,hw1⟩
  subst w1
  rw [HP.out]
  obtain ⟨x0,x1⟩:=(HTab.out (.cells #[.string ⟨#[]⟩,.string ⟨#[]⟩] 232) 0 (by omega))
  simp only [Nat.mul_zero,Nat.zero_add,Int.ofNat_zero] at x0 x1
  have HT2:Hid (Value.agg #[.string (nmS 0),.string (fmS 0)]=Value.agg #[.string (nmS op),.string (fmS op)]):=by show _=_;rw [hn,hf]
  clear hn hf
  generalize nmS 0=nm at x0 HT2
  generalize fmS 0=fm at x1 HT2
  go_wp2
  refine bodyPost_ret (v:=.agg #[.string nm,.string fm]) (by simp [results,Tryz.results179,go_sem]) rfl ⟨congrArg Ending.returned HT2.out,HB0.out _⟩

theorem fieldRow1 (x y:Value) (w:World):(Instr.field 232 (.agg #[x,y]) 1).run Tryz.prog w = .ok y w:=by kernel_rfl

set_option maxHeartbeats 1000000 in
theorem implOpForm (op:Int) (w:World) (ht:Tab w) :
  Calls Tryz.prog 172 #[.int .i64 op] w fun e w'=>e = .returned (.string (fmS op))∧Below w.heap.size w w':=by
 have hat:=implOpAt op w ht
 unfold rowV at hat
 have HA:=(show Hid _ from hat)
 clear hat ht
 generalize nmS op=nm at *
 generalize fmS op=fm at *
 have fr:=fieldRow1 (.string nm) (.string fm)
 go_enter Tryz.func172,Tryz.ntmps172
 go_wp2_with fail
 refine Calls.mono HA.out ?_
 rintro e w1 ⟨rfl,hb1⟩
 have HB1:Hid (Below w.heap.size w w1):=hb1
 clear hb1
 go_wp2
 go_ret
 exact⟨rfl,HB1.out⟩

end Go.Proofs.YtmhgaggpdggbeaaGreatDoor
