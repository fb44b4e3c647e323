import Derived.Test.YtmhgaggpdggbeaaGreatDoorRows
import Derived.WalkKit
import Derived.ProofKit
import Derived.Below
import Derived.WalkLawsBesides
import Derived.BigQuiet
import Derived.Deep.QuietTactic
import Derived.RegionTactic
import Derived.BigRegion
import Derived.Deep.OwnRows
import Derived.Laws.IdiomStrings
import Derived.WalkSmall
import Derived.SliceStrings
import Derived.OpenShut
import Derived.ShutString
import Derived.ChangeOld
import Derived.Laws.BytesArg
import Derived.Laws.BitsLemmas
import Derived.Laws.AppendOwn
import Derived.OwnWalk
namespace Go.Proofs.YtmhgaggpdggbeaaGreatDoor
open Go.RowKit
set_option maxRecDepth 20000
set_option linter.unusedVariables false

structure Strs (w:World) (a:Option Addr) (cap:Nat) (xs:List ByteArray):Prop where
 cap:xs.length≤cap∧cap≤maxLen
 cell:∀ m,m<xs.length→∃ x,a=some x∧w.cell? (x.add m)=some (.string (xs.getD m ByteArray.empty))
 size:∀ x ∈ xs,x.size≤maxLen

theorem add_blk (x:Addr) (i:Nat):(x.add i).block=x.block:=by unfold Addr.add;split<;>rfl
theorem add_own (b i:Nat):(⟨b,0,none⟩:Addr).add i=⟨b,i,none⟩:=by unfold Addr.add;split<;>simp_all

theorem Strs.mono {w w':World} {a:Option Addr} {cap:Nat} {xs:List ByteArray} (h:Strs w a cap xs) (hb:Below w.heap.size w w'):Strs w' a cap xs :=
 ⟨h.cap,fun m hm=>by
  obtain ⟨x,e,hc⟩:=h.cell m hm
  exact⟨x,e,(hb.cell (World.block_lt_of_cell? _ _ hc)).trans hc⟩,h.size⟩

theorem Strs.at_size {w:World} {a:Option Addr} {cap:Nat} {xs:List ByteArray} (h:Strs w a cap xs) (m:Nat):(xs.getD m ByteArray.empty).size≤maxLen:=by
 rcases Nat.lt_or_ge m xs.length with hm | hm
 ·refine h.size _ ?_
  rw [List.getD_eq_getElem?_getD,List.getElem?_eq_getElem hm]
  exact List.getElem_mem hm
 ·rw [List.getD_eq_getElem?_getD,List.getElem?_eq_none hm]
  exact Nat.zero_le _

theorem carry {B:Nat} {w w':World} {p:Addr} {v:Option Value} (h:Below B w w') (hp:p.block<B) (hc:w.cell? p=v):w'.cell? p=v:=(h.cell hp).trans hc
theorem c1A {w w1:World} {t:Obj} (hb1:Below (w.alloc t).heap.size (w.alloc t) w1) (k:Nat) (u:Value) (h:(w.alloc t).cell? ⟨w.heap.size,k,none⟩=some u):∀ o,(w1.alloc o).cell? ⟨w.heap.size,k,none⟩=some u:=fun o =>
 carry ((Below.refl _ _).alloc (Nat.le_refl _) o) (by have:=hb1.size;simp at this;show w.heap.size<w1.heap.size;omega) (carry hb1 (by simp) h)
theorem b1A {w w1:World} {t:Obj} (hb1:Below (w.alloc t).heap.size (w.alloc t) w1):∀ o,Below w.heap.size w (w1.alloc o):=fun o =>
 (((Below.refl _ _).alloc (Nat.le_refl _) _).trans (hb1.mono (by simp))).alloc (by have:=hb1.size;simp at this;omega) o
theorem sW {w1 W:World} {o:Obj} (h:w1.alloc o=W) {p:Addr} {u:Option Value} (x:∀ o,(w1.alloc o).cell? p=u):W.cell? p=u:=by rw [← h];exact x o
theorem yW {w1 W:World} {cs:Array Value} {t:TypeId} {m:Nat × Nat} (h:w1.alloc (.cells cs t m)=W) (k:Nat) (u:Value) (hk:cs[k]?=some u):W.cell? ⟨w1.heap.size,k,none⟩=some u:=by
 rw [← h]
 exact (World.cell?_alloc_mark w1 cs t m k).trans hk
theorem zW {w1 W:World} {o:Obj} (h:w1.alloc o=W):w1.heap.size<W.heap.size:=by rw [← h];simp
theorem cC {B:Nat} {w w':World} (h:Below B w w') (b k:Nat) (u:Value) (hb:b<B) (hc:w.cell? ⟨b,k,none⟩=some u):w'.cell? ⟨b,k,none⟩=some u:=carry h hb hc
theorem rB {a b:Bool} (h:a=b):Ending.returned (Value.bool a)=Ending.returned (Value.bool b):=by rw [h]
theorem rS {a b:ByteArray} (h:a=b):Ending.returned (Value.string a)=Ending.returned (Value.string b):=by rw [h]
theorem rI {a b:Int} (h:a=b):Ending.returned (Value.int .i64 a)=Ending.returned (Value.int .i64 b):=by rw [h]
theorem below_al (w:World) (o:Obj):Below w.heap.size w (w.alloc o):=(Below.refl _ _).alloc (Nat.le_refl _) o
theorem owns_slice {w:World} {base e:Nat} {v:Value} {n:Nat} {xs:List Value} (h:w.ownsRow base e 1 v n xs):∃ a cap,v = .slice a n cap:=by
 rcases h.2 with ⟨e,h0⟩ | ⟨g,cap,cur,e,_⟩
 ·exact⟨none,0,by rw [e,h0]⟩
 ·exact⟨_,_,e⟩
theorem owns_below' {w w':World} {base e:Nat} {v:Value} {n:Nat} {xs:List Value} (h:w.ownsRow base e 1 v n xs) (hb:Below w.heap.size w w'):w'.ownsRow base e 1 v n xs:=by
 refine ⟨h.1,?_⟩
 rcases h.2 with k | ⟨g,cap,cur,h1,h2,h3,h4⟩
 ·exact .inl k
 ·exact .inr ⟨g,cap,cur,h1,h2,(hb.block g (Array.getElem?_eq_some_iff.1 h3).1).trans h3,h4⟩
theorem carryF {B:Nat} {w w':World} {p:Addr} {v:Bool} (h:Below B w w') (hp:p.block<B) (hc:w.frozen? p=v):w'.frozen? p=v:=(h.frozen hp).trans hc
theorem cF {B:Nat} {w w':World} (h:Below B w w') (b k:Nat) (hb:b<B) (hc:w.frozen? ⟨b,k,none⟩=false):w'.frozen? ⟨b,k,none⟩=false:=carryF h hb hc

def strAt (xs:List ByteArray) (i:Nat):Value:=.string (xs.getD i ByteArray.empty)

theorem infoStr:(Tryz.prog.info? 9).map (fun i=>(i.zero,i.size,i.bytes))=some (some (.string ⟨#[]⟩),1,16):=by kernel_rfl

structure Filling (w wr:World) (xs:List ByteArray) (m:Nat):Prop where
 below:Below w.heap.size w wr
 size:wr.heap.size=w.heap.size+1
 row:wr.rowIs w.heap.size 9 xs.length (fun i=>if i<m then strAt xs i else .string ⟨#[]⟩)

theorem Filling.start (w:World) (xs:List ByteArray):Filling w (w.alloc (.cells (madeCells #[.string ⟨#[]⟩] xs.length) 9)) xs 0 :=
 ⟨(Below.refl _ _).alloc (Nat.le_refl _) _,by simp,(World.rowIs_made w (.string ⟨#[]⟩) xs.length 9).congr (fun i _=>by simp)⟩
theorem Filling.step {w wr:World} {xs:List ByteArray} {m:Nat} (h:Filling w wr xs m):Filling w (wr.setCell ⟨w.heap.size,m,none⟩ (.string (xs.getD m ByteArray.empty))) xs (m+1) :=
 ⟨h.below.setCell (Nat.le_refl _) _,by simp [h.size],(h.row.set m _).congr (fun i _=>by
  by_cases e:i=m
  ·subst e;simp [strAt]
  ·simp only [if_neg e]
   by_cases hl:i<m
   ·rw [if_pos hl,if_pos (by omega)]
   ·rw [if_neg hl,if_neg (by omega)])⟩
theorem Filling.done {w wr:World} {xs:List ByteArray} (h:Filling w wr xs xs.length):wr.rowIs w.heap.size 9 xs.length (strAt xs) :=
 h.row.congr (fun i hi=>by rw [if_pos hi])

theorem m9 {w w1:World} {t:TypeId} {v0 v1 v2 v3 v4 v5 v6 v7 v8:Value} (h:Below (w.alloc (.cells #[v0,v1,v2,v3,v4,v5,v6,v7,v8] t)).heap.size (w.alloc (.cells #[v0,v1,v2,v3,v4,v5,v6,v7,v8] t)) w1):(∀ o,(w1.alloc o).cell? ⟨w.heap.size,0,none⟩=some v0)∧(∀ o,(w1.alloc o).cell? ⟨w.heap.size,1,none⟩=some v1)∧(∀ o,(w1.alloc o).cell? ⟨w.heap.size,2,none⟩=some v2)∧(∀ o,(w1.alloc o).cell? ⟨w.heap.size,3,none⟩=some v3)∧(∀ o,(w1.alloc o).cell? ⟨w.heap.size,4,none⟩=some v4)∧(∀ o,(w1.alloc o).cell? ⟨w.heap.size,5,none⟩=some v5)∧(∀ o,(w1.alloc o).cell? ⟨w.heap.size,6,none⟩=some v6)∧(∀ o,(w1.alloc o).cell? ⟨w.heap.size,7,none⟩=some v7)∧(∀ o,(w1.alloc o).cell? ⟨w.heap.size,8,none⟩=some v8)∧w.heap.size<w1.heap.size∧Hid (∀ o,Below w.heap.size w (w1.alloc o)) :=
 ⟨c1A h 0 v0 (by simp [go_sem]),c1A h 1 v1 (by simp [go_sem]),c1A h 2 v2 (by simp [go_sem]),c1A h 3 v3 (by simp [go_sem]),c1A h 4 v4 (by simp [go_sem]),c1A h 5 v5 (by simp [go_sem]),c1A h 6 v6 (by simp [go_sem]),c1A h 7 v7 (by simp [go_sem]),c1A h 8 v8 (by simp [go_sem]),(by have:=h.size;simp at this;omega),b1A h⟩
theorem w9 {w w1:World} {t:TypeId} {m:Nat × Nat} {v0 v1 v2 v3 v4 v5 v6 v7 v8 u0 u1 u2 u3:Value} (o:Obj) (ho:o = .cells #[u0,u1,u2,u3] t m) (HB1:Hid (∀ o,Below w.heap.size w (w1.alloc o))) (x0:∀ o,(w1.alloc o).cell? ⟨w.heap.size,0,none⟩=some v0) (x1:∀ o,(w1.alloc o).cell? ⟨w.heap.size,1,none⟩=some v1) (x2:∀ o,(w1.alloc o).cell? ⟨w.heap.size,2,none⟩=some v2) (x3:∀ o,(w1.alloc o).cell? ⟨w.heap.size,3,none⟩=some v3) (x4:∀ o,(w1.alloc o).cell? ⟨w.heap.size,4,none⟩=some v4) (x5:∀ o,(w1.alloc o).cell? ⟨w.heap.size,5,none⟩=some v5) (x6:∀ o,(w1.alloc o).cell? ⟨w.heap.size,6,none⟩=some v6) (x7:∀ o,(w1.alloc o).cell? ⟨w.heap.size,7,none⟩=some v7) (x8:∀ o,(w1.alloc o).cell? ⟨w.heap.size,8,none⟩=some v8):∃ W,w1.alloc o=W∧w1.heap.size<W.heap.size∧W.cell? ⟨w1.heap.size,0,none⟩=some u0∧W.cell? ⟨w1.heap.size,1,none⟩=some u1∧W.cell? ⟨w1.heap.size,2,none⟩=some u2∧W.cell? ⟨w1.heap.size,3,none⟩=some u3∧W.cell? ⟨w.heap.size,0,none⟩=some v0∧W.cell? ⟨w.heap.size,1,none⟩=some v1∧W.cell? ⟨w.heap.size,2,none⟩=some v2∧W.cell? ⟨w.heap.size,3,none⟩=some v3∧W.cell? ⟨w.heap.size,4,none⟩=some v4∧W.cell? ⟨w.heap.size,5,none⟩=some v5∧W.cell? ⟨w.heap.size,6,none⟩=some v6∧W.cell? ⟨w.heap.size,7,none⟩=some v7∧W.cell? ⟨w.heap.size,8,none⟩=some v8∧Hid (Below w.heap.size w W):=by
 subst ho
 exact⟨_,rfl,zW rfl,yW rfl 0 u0 rfl,yW rfl 1 u1 rfl,yW rfl 2 u2 rfl,yW rfl 3 u3 rfl,x0 _,x1 _,x2 _,x3 _,x4 _,x5 _,x6 _,x7 _,x8 _,HB1.out _⟩
theorem i15 {B:Nat} {w w1:World} {t t2:TypeId} {v0 v1 v2 v3 v4 u0 u1 u2 u3 u4:Value} (h:Below B ((w.alloc (.cells #[v0,v1,v2,v3,v4] t)).alloc (.cells #[u0,u1,u2,u3,u4] t2)) w1) (hB:w.heap.size+1<B):w1.cell? ⟨w.heap.size,0,none⟩=some v0∧w1.cell? ⟨w.heap.size,1,none⟩=some v1∧w1.cell? ⟨w.heap.size,2,none⟩=some v2∧w1.cell? ⟨w.heap.size,3,none⟩=some v3∧w1.cell? ⟨w.heap.size,4,none⟩=some v4∧w1.cell? ⟨w.heap.size+1,0,none⟩=some u0∧w1.cell? ⟨w.heap.size+1,1,none⟩=some u1∧w1.cell? ⟨w.heap.size+1,2,none⟩=some u2∧w1.cell? ⟨w.heap.size+1,3,none⟩=some u3∧w1.cell? ⟨w.heap.size+1,4,none⟩=some u4∧w1.frozen? ⟨w.heap.size+1,0,none⟩=false∧w1.frozen? ⟨w.heap.size+1,1,none⟩=false∧w1.frozen? ⟨w.heap.size+1,2,none⟩=false∧w1.frozen? ⟨w.heap.size+1,3,none⟩=false∧w1.frozen? ⟨w.heap.size+1,4,none⟩=false∧w.heap.size+2≤w1.heap.size∧Hid (Below w.heap.size w w1) :=
 have hb:w.heap.size<B:=by omega
 ⟨cC h (w.heap.size) 0 v0 hb (by simp [go_sem]),cC h (w.heap.size) 1 v1 hb (by simp [go_sem]),cC h (w.heap.size) 2 v2 hb (by simp [go_sem]),cC h (w.heap.size) 3 v3 hb (by simp [go_sem]),cC h (w.heap.size) 4 v4 hb (by simp [go_sem]),cC h (w.heap.size+1) 0 u0 hB (by simp [go_sem]),cC h (w.heap.size+1) 1 u1 hB (by simp [go_sem]),cC h (w.heap.size+1) 2 u2 hB (by simp [go_sem]),cC h (w.heap.size+1) 3 u3 hB (by simp [go_sem]),cC h (w.heap.size+1) 4 u4 hB (by simp [go_sem]),cF h (w.heap.size+1) 0 hB (by simp [go_sem]),cF h (w.heap.size+1) 1 hB (by simp [go_sem]),cF h (w.heap.size+1) 2 hB (by simp [go_sem]),cF h (w.heap.size+1) 3 hB (by simp [go_sem]),cF h (w.heap.size+1) 4 hB (by simp [go_sem]),(by have:=h.size;simp at this;omega),(((Below.refl _ _).alloc (Nat.le_refl _) _).alloc (by simp) _).trans (h.mono (by omega))⟩
theorem i5 {B:Nat} {w w1:World} {t:TypeId} {v0 v1 v2 v3 v4:Value} (h:Below B (w.alloc (.cells #[v0,v1,v2,v3,v4] t)) w1) (hb:w.heap.size<B):w1.cell? ⟨w.heap.size,0,none⟩=some v0∧w1.cell? ⟨w.heap.size,1,none⟩=some v1∧w1.cell? ⟨w.heap.size,2,none⟩=some v2∧w1.cell? ⟨w.heap.size,3,none⟩=some v3∧w1.cell? ⟨w.heap.size,4,none⟩=some v4∧Hid (Below w.heap.size w w1) :=
 ⟨cC h (w.heap.size) 0 v0 hb (by simp [go_sem]),cC h (w.heap.size) 1 v1 hb (by simp [go_sem]),cC h (w.heap.size) 2 v2 hb (by simp [go_sem]),cC h (w.heap.size) 3 v3 hb (by simp [go_sem]),cC h (w.heap.size) 4 v4 hb (by simp [go_sem]),((Below.refl _ _).alloc (Nat.le_refl _) _).trans (h.mono (Nat.le_of_lt hb))⟩
end Go.Proofs.YtmhgaggpdggbeaaGreatDoor

namespace Go.Proofs.YtmhgaggpdggbeaaGreatDoor
open Go.RowKit

def byt (s:ByteArray) (i:Nat):Int:=((s.data.toList.getD i 0).toNat:Int)

theorem byt_eq (s:ByteArray) (i:Nat) (h:i<s.size):(s[i].toNat:Int)=byt s i:=by
 unfold byt
 have:s.data.toList[i]?=some s[i]:=by
  rw [List.getElem?_eq_getElem (by simpa using h)];rfl
 simp [List.getD,this]

theorem byt_bd (s:ByteArray) (i:Nat):0≤byt s i∧byt s i≤255:=by
 unfold byt
 have:=(s.data.toList.getD i 0).toNat_lt
 omega

def be (s:ByteArray) (i:Nat):Nat→Int
 | 0=>0
 | k+1=>256 * be s i k+byt s (i+k)

theorem kept {w w1:World} {C:Array Value} {t:TypeId} (h:Below (w.alloc (.cells C t)).heap.size (w.alloc (.cells C t)) w1) (j:Nat) :
  w1.cell? ⟨w.heap.size,j,none⟩=C[j]?∧w1.frozen? ⟨w.heap.size,j,none⟩=false:=by
 refine ⟨(h.cell (p:=⟨w.heap.size,j,none⟩) (by simp)).trans (World.cell?_alloc_mark w C t (0,0) j),(h.frozen (p:=⟨w.heap.size,j,none⟩) (by simp)).trans ?_⟩
 simp

end Go.Proofs.YtmhgaggpdggbeaaGreatDoor

namespace Go.Proofs.YtmhgaggpdggbeaaGreatDoor
open Go.RowKit
set_option linter.unusedVariables false

def spl (t:ByteArray) (c:Int):Nat→Nat→Nat→List ByteArray→List ByteArray
 | 0,_,f,acc=>acc ++ [t.extract f t.size]
 | k+1,i,f,acc=>if byt t i=c then spl t c k (i+1) (i+1) (acc ++ [t.extract f i]) else spl t c k (i+1) f acc

def sC (ps:List ByteArray):List Value:=ps.map Value.string

theorem sC_snoc (ps:List ByteArray) (y:ByteArray):sC ps ++ [.string y]=sC (ps ++ [y]):=by simp [sC]

theorem splNews (w:World) (y:ByteArray):∀ j u,[Value.string y][j]?=some u→(w.alloc (.cells #[.string y] 9)).cell? ((⟨w.heap.size,0,none⟩:Addr).add j)=some u:=by
 intro j u hj
 match j,hj with
 | 0,hj=>simp at hj;subst hj;simp [Addr.add]

set_option maxHeartbeats 4000000 in
theorem specSplit (t:ByteArray) (c:Int) (w:World) (ht:t.size≤1048576) (hc:0≤c∧c≤255) :
  Calls Tryz.prog 140 #[.string t,.int .u8 c] w fun e w'=>∃ v,e = .returned v∧w'.ownsRow w.heap.size 9 1 v (spl t c t.size 0 0 []).length (sC (spl t c t.size 0 0 []))∧Below w.heap.size w w':=by
 obtain ⟨i0,hi0,hz0,hz1,hz2⟩:=info_parts infoStr
 have HI:Hid (Tryz.prog.info? 9 = some i0∧i0.zero=some (.string ⟨#[]⟩)∧i0.size=1∧i0.bytes=16):=⟨hi0,hz0,hz1,hz2⟩
 clear hi0 hz0 hz1 hz2
 go_enter Tryz.func140,Tryz.ntmps140
 go_wp2_with fail
 have hown0:(w.alloc (.cells #[] 9)).ownsRow w.heap.size 9 1 (.slice (some ⟨w.heap.size,0,none⟩) 0 0) 0 []:=World.ownsRow_made w #[] 0 (Nat.le_refl _) (Nat.zero_le _) rfl
 have HO:Hid ((w.alloc (.cells #[] 9)).ownsRow w.heap.size 9 1 (.slice (some ⟨w.heap.size,0,none⟩) 0 0) 0 []):=hown0
 clear hown0
 go_loopw [5,6,7] (fun j5 j6 j7 wr=>∃ (i f:Nat) (acc:List ByteArray),i≤t.size∧f≤i∧acc.length≤i∧j7 = .int .i64 (i:Int)∧j6 = .int .i64 (f:Int)∧wr.ownsRow w.heap.size 9 1 j5 acc.length (sC acc)∧Below w.heap.size w wr∧spl t c (t.size - i) i f acc=spl t c t.size 0 0 []) (fun _ _ j7 _=>t.size - (intOf j7).toNat)
 case atStart=>exact⟨0,0,[],Nat.zero_le _,Nat.le_refl _,Nat.le_refl _,rfl,rfl,HO.out,(Below.refl _ _).alloc (Nat.le_refl _) _,rfl⟩
 case round =>
  obtain ⟨i,f,acc,hi,hf,hacc,rfl,rfl,hown,hbel,hspl⟩:=hrel
  clear HO
  have hsw:w.heap.size≤wr.heap.size:=hbel.size
  have HR:=(show Hid (_∧_) from ⟨hown,hbel⟩)
  have HS:Hid (spl t c (t.size - i) i f acc=spl t c t.size 0 0 []):=hspl
  clear hown hbel hspl
  by_cases hlt:i<t.size
  ·have hby:=byt_eq t i hlt
   obtain ⟨k,hk⟩:∃ k,t.size - i=k+1:=⟨t.size - i - 1,by omega⟩
   have hk2:t.size - (i+1)=k:=by omega
   by_cases heq:byt t i=c
   ·have dd:((t[i].toNat:Int) == c)=true:=by rw [hby,heq];simp
    have HN:Hid (spl t c (t.size - (i+1)) (i+1) (i+1) (acc ++ [t.extract f i])=spl t c t.size 0 0 []):=by
     show _=_
     rw [← HS.out,hk,hk2,spl,if_pos heq]
    have hsl:∀ w:World,(Instr.slice 9 (.string t) (some (.int .i64 (f:Int))) (some (.int .i64 (i:Int))) none).run Tryz.prog w = .ok (.string (t.extract f i)) w:=by
     intro w
     have h:=run_slice_string (P:=Tryz.prog) w 9 t .i64 .i64 (f:Int) (i:Int) Tryz.underlying9 (by omega) (by omega) (by omega)
     simpa using h
    clear hby heq HS hk hk2
    generalize t.extract f i=y at *
    go_wp2_with (at_builtin;refine wpList_append_own _ rfl _ _ 91 rfl w.heap.size 9 i0 (.string ⟨#[]⟩) 1 16 Tryz.underlying91 HI.out.1 HI.out.2.1 HI.out.2.2.1 HI.out.2.2.2 rfl (by decide) _ _ _ rfl (HR.out.1.alloc _) ⟨wr.heap.size,0,none⟩ 1 1 [.string y] rfl rfl (splNews wr y) ?c2 ?c3 ?c4 ?c5 ?_)
    case c2=>intro u hu;simp at hu;subst hu;rfl
    case c3=>unfold maxLen;omega
    case c4=>omega
    case c5=>simp;omega
    intro v' w4 hown' hgrow _
    rw [sC_snoc] at hown'
    have hbx:Below w.heap.size w w4:=(HR.out.2.alloc hsw _).grown hgrow (by simp;omega) (fun k hk=>by have:=(HR.out.1.lt k hk).1;omega)
    have HX:=(show Hid (_∧_) from ⟨hown',hbx⟩)
    clear hown' hbx hgrow HR
    go_wp2
    go_roundw
    case rel=>exact⟨i+1,i+1,acc ++ [y],by omega,by omega,by simp;omega,by go_num,by go_num,by simpa using HX.out.1,HX.out.2,HN.out⟩
    case measure=>simp [intOf];omega
   ·have dd:((t[i].toNat:Int) == c)=false:=by rw [hby,beq_eq_false_iff_ne];exact heq
    have HN:Hid (spl t c (t.size - (i+1)) (i+1) f acc=spl t c t.size 0 0 []):=by
     show _=_
     rw [← HS.out,hk,hk2,spl,if_neg heq]
    clear hby heq HS hk hk2
    go_wp2
    go_roundw
    case rel=>exact⟨i+1,f,acc,by omega,by omega,by omega,by go_num,by go_num,HR.out.1,HR.out.2,HN.out⟩
    case measure=>simp [intOf];omega
  ·have HN:Hid (spl t c t.size 0 0 []=acc ++ [t.extract f t.size]):=by
    show _=_
    rw [← HS.out,show t.size - i=0 by omega,spl]
   have hsl:∀ w:World,(Instr.slice 9 (.string t) (some (.int .i64 (f:Int))) none none).run Tryz.prog w = .ok (.string (t.extract f t.size)) w:=by
    intro w
    rw [run_slice_string_from_if (P:=Tryz.prog) w 9 t .i64 (f:Int) Tryz.underlying9,if_pos (by omega)]
    simp
   clear HS
   generalize t.extract f t.size=y at *
   go_wp2_with (at_builtin;refine wpList_append_own _ rfl _ _ 91 rfl w.heap.size 9 i0 (.string ⟨#[]⟩) 1 16 Tryz.underlying91 HI.out.1 HI.out.2.1 HI.out.2.2.1 HI.out.2.2.2 rfl (by decide) _ _ _ rfl (HR.out.1.alloc _) ⟨wr.heap.size,0,none⟩ 1 1 [.string y] rfl rfl (splNews wr y) ?c2 ?c3 ?c4 ?c5 ?_)
   case c2=>intro u hu;simp at hu;subst hu;rfl
   case c3=>unfold maxLen;omega
   case c4=>omega
   case c5=>simp;omega
   intro v' w4 hown' hgrow _
   rw [sC_snoc,← HN.out] at hown'
   have hbx:Below w.heap.size w w4:=(HR.out.2.alloc hsw _).grown hgrow (by simp;omega) (fun k hk=>by have:=(HR.out.1.lt k hk).1;omega)
   have hlen:(spl t c t.size 0 0 []).length=acc.length+1:=by rw [HN.out];simp
   rw [← hlen] at hown'
   have HX:=(show Hid (_∧_) from ⟨hown',hbx⟩)
   clear hown' hbx hgrow HR hlen
   go_wp2
   go_ret
   exact⟨_,rfl,HX.out.1,HX.out.2⟩
end Go.Proofs.YtmhgaggpdggbeaaGreatDoor
