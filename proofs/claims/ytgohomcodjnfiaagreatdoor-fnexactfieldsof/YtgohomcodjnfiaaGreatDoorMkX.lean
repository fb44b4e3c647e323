import Derived.Test.YtgohomcodjnfiaaGreatDoorCls2
import Derived.Test.YtgohomcodjnfiaaGreatDoorMarks
namespace Go.Proofs.YtgohomcodjnfiaaGreatDoor
open Go.RowKit
set_option maxRecDepth 20000
set_option linter.unusedVariables false
structure Kin (B E:Nat) (w w':World):Prop where
 os:w'.os=w.os
 tape:w'.tape=w.tape
 output:w'.output=w.output
 size:w.heap.size≤w'.heap.size
 out:∀ k,k<w.heap.size→(k<B ∨ E≤k)→w'.heap[k]?=w.heap[k]?
 str:∀ b o (x:ByteArray),B≤b∧b<E→w.cell? ⟨b,o,none⟩=some (.string x)→∃ y:ByteArray,w'.cell? ⟨b,o,none⟩=some (.string y)
 int:∀ b o (x:Int),B≤b∧b<E→w.cell? ⟨b,o,none⟩=some (.int .i64 x)→∃ y:Int,w'.cell? ⟨b,o,none⟩=some (.int .i64 y)
 bool:∀ b o (x:Bool),B≤b∧b<E→w.cell? ⟨b,o,none⟩=some (.bool x)→∃ y:Bool,w'.cell? ⟨b,o,none⟩=some (.bool y)
 sl:∀ b o a n c,B≤b∧b<E→w.cell? ⟨b,o,none⟩=some (.slice a n c)→w'.cell? ⟨b,o,none⟩=some (.slice a n c)
 fz:∀ b j,B≤b∧b<E→w'.frozen? ⟨b,j,none⟩=w.frozen? ⟨b,j,none⟩
theorem Kin.refl (B E:Nat) (w:World):Kin B E w w:=⟨rfl,rfl,rfl,Nat.le_refl _,fun _ _ _=>rfl,fun _ _ x _ h=>⟨x,h⟩,fun _ _ x _ h=>⟨x,h⟩,fun _ _ x _ h=>⟨x,h⟩,fun _ _ _ _ _ _ h=>h,fun _ _ _=>rfl⟩
theorem Kin.trans {B E:Nat} {a b c:World} (h:Kin B E a b) (k:Kin B E b c):Kin B E a c :=
 ⟨k.os.trans h.os,k.tape.trans h.tape,k.output.trans h.output,Nat.le_trans h.size k.size,fun i hi ho=>(k.out i (Nat.lt_of_lt_of_le hi h.size) ho).trans (h.out i hi ho),
  fun q o x hq hx=>by obtain ⟨y,hy⟩:=h.str q o x hq hx;exact k.str q o y hq hy,fun q o x hq hx=>by obtain ⟨y,hy⟩:=h.int q o x hq hx;exact k.int q o y hq hy,
  fun q o x hq hx=>by obtain ⟨y,hy⟩:=h.bool q o x hq hx;exact k.bool q o y hq hy,fun q o x n cc hq hx=>k.sl q o x n cc hq (h.sl q o x n cc hq hx),fun q j hq=>(k.fz q j hq).trans (h.fz q j hq)⟩
theorem Kin.below {B E:Nat} {a b:World} (h:Below a.heap.size a b) (hE:E≤a.heap.size):Kin B E a b :=
 ⟨h.os,h.tape,h.output,h.size,fun k hk _=>h.block k hk,fun q o x hq hx=>⟨x,carry h (by show q<_;omega) hx⟩,fun q o x hq hx=>⟨x,carry h (by show q<_;omega) hx⟩,
  fun q o x hq hx=>⟨x,carry h (by show q<_;omega) hx⟩,fun q o x n cc hq hx=>carry h (by show q<_;omega) hx,fun q j hq=>h.frozen (p:=⟨q,j,none⟩) (by show q<_;omega)⟩
theorem Kin.on {B E:Nat} {a b c:World} (h:Kin B E a b) (hE:E≤a.heap.size) (k:Below b.heap.size b c):Kin B E a c:=h.trans (Kin.below k (Nat.le_trans hE h.size))
theorem set_cell {w:World} {p:Addr} {u:Value} (v:Value) (h:w.cell? p=some u) (q:Addr):(w.setCell p v).cell? q=if q=p then some v else w.cell? q:=by
 by_cases e:q=p
 ·subst e;rw [if_pos rfl];exact World.cell?_setCell_same' _ _ _ (by rw [h];rfl)
 ·rw [if_neg e];first | exact World.cell?_setCell_other w p q v (fun e2=>e e2.symm) | exact World.cell?_setCell_other w p q v e
theorem Kin.setS {B E:Nat} {a x:World} (h:Kin B E a x) {b j:Nat} (hb:B≤b∧b<E) (hc:∃ u:ByteArray,a.cell? ⟨b,j,none⟩=some (.string u)) (v:ByteArray):Kin B E a (x.setCell ⟨b,j,none⟩ (.string v)):=by
 obtain ⟨u,hu⟩:=hc
 obtain ⟨z,hz⟩:=h.str b j u hb hu
 exact⟨h.os,h.tape,h.output,by simpa using h.size,fun k hk ho=>(Below.heap_setCell _ _ _ _ (by show k ≠ b;omega)).trans (h.out k hk ho),
  fun q o x hq hx=>by
   obtain ⟨y,hy⟩:=h.str q o x hq hx
   rw [set_cell _ hz]
   by_cases e:(⟨q,o,none⟩:Addr)=⟨b,j,none⟩
   ·exact⟨v,by rw [if_pos e]⟩
   ·exact⟨y,by rw [if_neg e];exact hy⟩,
  fun q o x hq hx=>by
   obtain ⟨y,hy⟩:=h.int q o x hq hx
   rw [set_cell _ hz]
   by_cases e:(⟨q,o,none⟩:Addr)=⟨b,j,none⟩
   ·rw [e,hz] at hy;cases hy
   ·exact⟨y,by rw [if_neg e];exact hy⟩,
  fun q o x hq hx=>by
   obtain ⟨y,hy⟩:=h.bool q o x hq hx
   rw [set_cell _ hz]
   by_cases e:(⟨q,o,none⟩:Addr)=⟨b,j,none⟩
   ·rw [e,hz] at hy;cases hy
   ·exact⟨y,by rw [if_neg e];exact hy⟩,
  fun q o y n cc hq hx=>by
   have hy:=h.sl q o y n cc hq hx
   rw [set_cell _ hz]
   by_cases e:(⟨q,o,none⟩:Addr)=⟨b,j,none⟩
   ·rw [e,hz] at hy;cases hy
   ·rw [if_neg e];exact hy,
  fun q i hq=>by rw [World.frozen?_setCell];exact h.fz q i hq⟩
theorem Kin.setI {B E:Nat} {a x:World} (h:Kin B E a x) {b j:Nat} (hb:B≤b∧b<E) (hc:∃ u:Int,a.cell? ⟨b,j,none⟩=some (.int .i64 u)) (v:Int):Kin B E a (x.setCell ⟨b,j,none⟩ (.int .i64 v)):=by
 obtain ⟨u,hu⟩:=hc
 obtain ⟨z,hz⟩:=h.int b j u hb hu
 exact⟨h.os,h.tape,h.output,by simpa using h.size,fun k hk ho=>(Below.heap_setCell _ _ _ _ (by show k ≠ b;omega)).trans (h.out k hk ho),
  fun q o x hq hx=>by
   obtain ⟨y,hy⟩:=h.str q o x hq hx
   rw [set_cell _ hz]
   by_cases e:(⟨q,o,none⟩:Addr)=⟨b,j,none⟩
   ·rw [e,hz] at hy;cases hy
   ·exact⟨y,by rw [if_neg e];exact hy⟩,
  fun q o x hq hx=>by
   obtain ⟨y,hy⟩:=h.int q o x hq hx
   rw [set_cell _ hz]
   by_cases e:(⟨q,o,none⟩:Addr)=⟨b,j,none⟩
   ·exact⟨v,by rw [if_pos e]⟩
   ·exact⟨y,by rw [if_neg e];exact hy⟩,
  fun q o x hq hx=>by
   obtain ⟨y,hy⟩:=h.bool q o x hq hx
   rw [set_cell _ hz]
   by_cases e:(⟨q,o,none⟩:Addr)=⟨b,j,none⟩
   ·rw [e,hz] at hy;cases hy
   ·exact⟨y,by rw [if_neg e];exact hy⟩,
  fun q o y n cc hq hx=>by
   have hy:=h.sl q o y n cc hq hx
   rw [set_cell _ hz]
   by_cases e:(⟨q,o,none⟩:Addr)=⟨b,j,none⟩
   ·rw [e,hz] at hy;cases hy
   ·rw [if_neg e];exact hy,
  fun q i hq=>by rw [World.frozen?_setCell];exact h.fz q i hq⟩
theorem Kin.setB {B E:Nat} {a x:World} (h:Kin B E a x) {b j:Nat} (hb:B≤b∧b<E) (hc:∃ u:Bool,a.cell? ⟨b,j,none⟩=some (.bool u)) (v:Bool):Kin B E a (x.setCell ⟨b,j,none⟩ (.bool v)):=by
 obtain ⟨u,hu⟩:=hc
 obtain ⟨z,hz⟩:=h.bool b j u hb hu
 exact⟨h.os,h.tape,h.output,by simpa using h.size,fun k hk ho=>(Below.heap_setCell _ _ _ _ (by show k ≠ b;omega)).trans (h.out k hk ho),
  fun q o x hq hx=>by
   obtain ⟨y,hy⟩:=h.str q o x hq hx
   rw [set_cell _ hz]
   by_cases e:(⟨q,o,none⟩:Addr)=⟨b,j,none⟩
   ·rw [e,hz] at hy;cases hy
   ·exact⟨y,by rw [if_neg e];exact hy⟩,
  fun q o x hq hx=>by
   obtain ⟨y,hy⟩:=h.int q o x hq hx
   rw [set_cell _ hz]
   by_cases e:(⟨q,o,none⟩:Addr)=⟨b,j,none⟩
   ·rw [e,hz] at hy;cases hy
   ·exact⟨y,by rw [if_neg e];exact hy⟩,
  fun q o x hq hx=>by
   obtain ⟨y,hy⟩:=h.bool q o x hq hx
   rw [set_cell _ hz]
   by_cases e:(⟨q,o,none⟩:Addr)=⟨b,j,none⟩
   ·exact⟨v,by rw [if_pos e]⟩
   ·exact⟨y,by rw [if_neg e];exact hy⟩,
  fun q o y n cc hq hx=>by
   have hy:=h.sl q o y n cc hq hx
   rw [set_cell _ hz]
   by_cases e:(⟨q,o,none⟩:Addr)=⟨b,j,none⟩
   ·rw [e,hz] at hy;cases hy
   ·rw [if_neg e];exact hy,
  fun q i hq=>by rw [World.frozen?_setCell];exact h.fz q i hq⟩
theorem lawMarkA (z:Int) (w:World) (h1:1≤z) (h2:z≤70368744177664) :
  Calls Tryz.prog 26 #[.int .i64 z] w fun e w'=>∃ s,e = .returned (.string s)∧Below w.heap.size w w':=by
 obtain ⟨k,rfl⟩:∃ k:Nat,z=k:=⟨z.toNat,by omega⟩
 refine (lawMark k w (by omega) (by omega)).mono ?_
 rintro e w' ⟨rfl,hb⟩
 exact⟨_,rfl,hb⟩
def ShIns (B E:Nat) (w:World) (b n:Nat):Prop:=(B≤b∧b<E)∧n≤1048576∧(∀ j,w.frozen? ⟨b,j,none⟩=false)∧∀ i,i<n→(∃ x:Int,w.cell? ⟨b,i * 5,none⟩=some (.int .i64 x))∧(∃ x:Int,w.cell? ⟨b,i * 5+1,none⟩=some (.int .i64 x))∧(∃ x:ByteArray,w.cell? ⟨b,i * 5+2,none⟩=some (.string x))∧(∃ x:ByteArray,w.cell? ⟨b,i * 5+3,none⟩=some (.string x))∧(∃ x:ByteArray,w.cell? ⟨b,i * 5+4,none⟩=some (.string x))
theorem ShIns.kin {B E:Nat} {w w':World} {b n:Nat} (h:ShIns B E w b n) (k:Kin B E w w'):ShIns B E w' b n:=by
 refine ⟨h.1,h.2.1,fun j=>(k.fz b j h.1).trans (h.2.2.1 j),fun i hi=>?_⟩
 obtain ⟨⟨x0,e0⟩,⟨x1,e1⟩,⟨x2,e2⟩,⟨x3,e3⟩,⟨x4,e4⟩⟩:=h.2.2.2 i hi
 exact⟨k.int _ _ _ h.1 e0,k.int _ _ _ h.1 e1,k.str _ _ _ h.1 e2,k.str _ _ _ h.1 e3,k.str _ _ _ h.1 e4⟩
set_option maxHeartbeats 2000000 in
theorem lawMarkIns (B E b n cap:Nat) (z0:Int) (w:World) (h:ShIns B E w b n) (hE:E≤w.heap.size) (h1:1≤z0) (h2:z0≤35184372088832) :
  Calls Tryz.prog 47 #[.slice (some ⟨b,0,none⟩) n cap,.int .i64 z0] w fun e w'=>(∃ z,e = .returned (.int .i64 z)∧z0≤z∧z≤z0+5 * n)∧Kin B E w w':=by
 have HS:=(show Hid _ from h)
 have HM:=(show Hid _ from lawMarkA)
 have hn:=h.2.1
 clear h
 go_enter Tryz.func47,Tryz.ntmps47
 go_wp2_with fail
 go_loopw [1,5] (fun j1 j5 wr=>∃ (m:Nat) (z:Int),m≤n∧j5 = .int .i64 (m:Int)∧j1 = .int .i64 z∧z0≤z∧z≤z0+5 * m∧Kin B E w wr) (fun _ j5 _=>n - (intOf j5).toNat)
 case atStart=>exact⟨0,z0,Nat.zero_le _,rfl,rfl,Int.le_refl _,by omega,Kin.refl _ _ _⟩
 case round =>
  obtain ⟨m,z,hm,rfl,rfl,hz1,hz2,hk⟩:=hrel
  have HK0:=(show Hid _ from hk)
  clear hk
  by_cases hlt:m<n
  ·have HC:=(show Hid _ from HS.out.2.2.2 m hlt)
   obtain ⟨u0,hu0⟩:=HC.out.1
   obtain ⟨q0,e0⟩:=HK0.out.int _ _ _ HS.out.1 hu0
   clear hu0
   obtain ⟨u1,hu1⟩:=HC.out.2.1
   obtain ⟨q1,e1⟩:=HK0.out.int _ _ _ HS.out.1 hu1
   clear hu1
   have f0:∀ j,wr.frozen? ⟨b,j,none⟩=false:=fun j=>(HK0.out.fz b j HS.out.1).trans (HS.out.2.2.1 j)
   go_wp2_with fail
   refine (HM.out _ _ (by omega) (by omega)).mono ?_
   rintro e w1 ⟨s0,rfl,hb⟩
   have HK1:Hid (Kin B E w w1):=((HK0.out.setI HS.out.1 (HC.out.1) _).setI HS.out.1 (HC.out.2.1) _).on hE hb
   clear hb f0 e0 e1
   obtain ⟨u2,hu2⟩:=HC.out.2.2.1
   obtain ⟨q2,e2⟩:=HK1.out.str _ _ _ HS.out.1 hu2
   clear hu2
   have f1:∀ j,w1.frozen? ⟨b,j,none⟩=false:=fun j=>(HK1.out.fz b j HS.out.1).trans (HS.out.2.2.1 j)
   go_wp2_with fail
   refine (HM.out _ _ (by omega) (by omega)).mono ?_
   rintro e w2 ⟨s1,rfl,hb⟩
   have HK2:Hid (Kin B E w w2):=(HK1.out.setS HS.out.1 (HC.out.2.2.1) _).on hE hb
   clear hb f1 e2
   obtain ⟨u3,hu3⟩:=HC.out.2.2.2.1
   obtain ⟨q3,e3⟩:=HK2.out.str _ _ _ HS.out.1 hu3
   clear hu3
   have f2:∀ j,w2.frozen? ⟨b,j,none⟩=false:=fun j=>(HK2.out.fz b j HS.out.1).trans (HS.out.2.2.1 j)
   go_wp2_with fail
   refine (HM.out _ _ (by omega) (by omega)).mono ?_
   rintro e w3 ⟨s2,rfl,hb⟩
   have HK3:Hid (Kin B E w w3):=(HK2.out.setS HS.out.1 (HC.out.2.2.2.1) _).on hE hb
   clear hb f2 e3
   obtain ⟨u4,hu4⟩:=HC.out.2.2.2.2
   obtain ⟨q4,e4⟩:=HK3.out.str _ _ _ HS.out.1 hu4
   clear hu4
   have f3:∀ j,w3.frozen? ⟨b,j,none⟩=false:=fun j=>(HK3.out.fz b j HS.out.1).trans (HS.out.2.2.1 j)
   go_wp2
   go_roundw
   case rel=>exact⟨m+1,_,by omega,by go_num,rfl,by omega,by omega,(HK3.out.setS HS.out.1 (HC.out.2.2.2.2) _)⟩
   case measure=>simp [intOf];omega
  ·obtain rfl:m=n:=by omega
   go_wp2
   go_ret
   exact⟨⟨_,rfl,hz1,hz2⟩,HK0.out⟩
def ShHands (B E:Nat) (w:World) (b n:Nat):Prop:=(B≤b∧b<E)∧n≤1048576∧(∀ j,w.frozen? ⟨b,j,none⟩=false)∧∀ i,i<n→(∃ x:Int,w.cell? ⟨b,i * 4,none⟩=some (.int .i64 x))∧(∃ x:Int,w.cell? ⟨b,i * 4+1,none⟩=some (.int .i64 x))∧(∃ x:Int,w.cell? ⟨b,i * 4+2,none⟩=some (.int .i64 x))∧(∃ x:ByteArray,w.cell? ⟨b,i * 4+3,none⟩=some (.string x))
theorem ShHands.kin {B E:Nat} {w w':World} {b n:Nat} (h:ShHands B E w b n) (k:Kin B E w w'):ShHands B E w' b n:=by
 refine ⟨h.1,h.2.1,fun j=>(k.fz b j h.1).trans (h.2.2.1 j),fun i hi=>?_⟩
 obtain ⟨⟨x0,e0⟩,⟨x1,e1⟩,⟨x2,e2⟩,⟨x3,e3⟩⟩:=h.2.2.2 i hi
 exact⟨k.int _ _ _ h.1 e0,k.int _ _ _ h.1 e1,k.int _ _ _ h.1 e2,k.str _ _ _ h.1 e3⟩
set_option maxHeartbeats 2000000 in
theorem lawMarkHands (B E b n cap:Nat) (z0:Int) (w:World) (h:ShHands B E w b n) (hE:E≤w.heap.size) (h1:1≤z0) (h2:z0≤35184372088832) :
  Calls Tryz.prog 48 #[.slice (some ⟨b,0,none⟩) n cap,.int .i64 z0] w fun e w'=>(∃ z,e = .returned (.int .i64 z)∧z0≤z∧z≤z0+4 * n)∧Kin B E w w':=by
 have HS:=(show Hid _ from h)
 have HM:=(show Hid _ from lawMarkA)
 have hn:=h.2.1
 clear h
 go_enter Tryz.func48,Tryz.ntmps48
 go_wp2_with fail
 go_loopw [1,5] (fun j1 j5 wr=>∃ (m:Nat) (z:Int),m≤n∧j5 = .int .i64 (m:Int)∧j1 = .int .i64 z∧z0≤z∧z≤z0+4 * m∧Kin B E w wr) (fun _ j5 _=>n - (intOf j5).toNat)
 case atStart=>exact⟨0,z0,Nat.zero_le _,rfl,rfl,Int.le_refl _,by omega,Kin.refl _ _ _⟩
 case round =>
  obtain ⟨m,z,hm,rfl,rfl,hz1,hz2,hk⟩:=hrel
  have HK0:=(show Hid _ from hk)
  clear hk
  by_cases hlt:m<n
  ·have HC:=(show Hid _ from HS.out.2.2.2 m hlt)
   obtain ⟨u0,hu0⟩:=HC.out.1
   obtain ⟨q0,e0⟩:=HK0.out.int _ _ _ HS.out.1 hu0
   clear hu0
   obtain ⟨u1,hu1⟩:=HC.out.2.1
   obtain ⟨q1,e1⟩:=HK0.out.int _ _ _ HS.out.1 hu1
   clear hu1
   obtain ⟨u2,hu2⟩:=HC.out.2.2.1
   obtain ⟨q2,e2⟩:=HK0.out.int _ _ _ HS.out.1 hu2
   clear hu2
   have f0:∀ j,wr.frozen? ⟨b,j,none⟩=false:=fun j=>(HK0.out.fz b j HS.out.1).trans (HS.out.2.2.1 j)
   go_wp2_with fail
   refine (HM.out _ _ (by omega) (by omega)).mono ?_
   rintro e w1 ⟨s0,rfl,hb⟩
   have HK1:Hid (Kin B E w w1):=(((HK0.out.setI HS.out.1 (HC.out.1) _).setI HS.out.1 (HC.out.2.1) _).setI HS.out.1 (HC.out.2.2.1) _).on hE hb
   clear hb f0 e0 e1 e2
   obtain ⟨u3,hu3⟩:=HC.out.2.2.2
   obtain ⟨q3,e3⟩:=HK1.out.str _ _ _ HS.out.1 hu3
   clear hu3
   have f1:∀ j,w1.frozen? ⟨b,j,none⟩=false:=fun j=>(HK1.out.fz b j HS.out.1).trans (HS.out.2.2.1 j)
   go_wp2
   go_roundw
   case rel=>exact⟨m+1,_,by omega,by go_num,rfl,by omega,by omega,(HK1.out.setS HS.out.1 (HC.out.2.2.2) _)⟩
   case measure=>simp [intOf];omega
  ·obtain rfl:m=n:=by omega
   go_wp2
   go_ret
   exact⟨⟨_,rfl,hz1,hz2⟩,HK0.out⟩
def ShFields (B E:Nat) (w:World) (b n:Nat):Prop:=(B≤b∧b<E)∧n≤1048576∧(∀ j,w.frozen? ⟨b,j,none⟩=false)∧∀ i,i<n→(∃ x:ByteArray,w.cell? ⟨b,i * 3,none⟩=some (.string x))∧(∃ x:ByteArray,w.cell? ⟨b,i * 3+1,none⟩=some (.string x))∧(∃ x:Bool,w.cell? ⟨b,i * 3+2,none⟩=some (.bool x))
theorem ShFields.kin {B E:Nat} {w w':World} {b n:Nat} (h:ShFields B E w b n) (k:Kin B E w w'):ShFields B E w' b n:=by
 refine ⟨h.1,h.2.1,fun j=>(k.fz b j h.1).trans (h.2.2.1 j),fun i hi=>?_⟩
 obtain ⟨⟨x0,e0⟩,⟨x1,e1⟩,⟨x2,e2⟩⟩:=h.2.2.2 i hi
 exact⟨k.str _ _ _ h.1 e0,k.str _ _ _ h.1 e1,k.bool _ _ _ h.1 e2⟩
set_option maxHeartbeats 2000000 in
theorem lawMarkFields (B E b n cap:Nat) (z0:Int) (w:World) (h:ShFields B E w b n) (hE:E≤w.heap.size) (h1:1≤z0) (h2:z0≤35184372088832) :
  Calls Tryz.prog 12 #[.slice (some ⟨b,0,none⟩) n cap,.int .i64 z0] w fun e w'=>(∃ z,e = .returned (.int .i64 z)∧z0≤z∧z≤z0+3 * n)∧Kin B E w w':=by
 have HS:=(show Hid _ from h)
 have HM:=(show Hid _ from lawMarkA)
 have hn:=h.2.1
 clear h
 go_enter Tryz.func12,Tryz.ntmps12
 go_wp2_with fail
 go_loopw [1,5] (fun j1 j5 wr=>∃ (m:Nat) (z:Int),m≤n∧j5 = .int .i64 (m:Int)∧j1 = .int .i64 z∧z0≤z∧z≤z0+3 * m∧Kin B E w wr) (fun _ j5 _=>n - (intOf j5).toNat)
 case atStart=>exact⟨0,z0,Nat.zero_le _,rfl,rfl,Int.le_refl _,by omega,Kin.refl _ _ _⟩
 case round =>
  obtain ⟨m,z,hm,rfl,rfl,hz1,hz2,hk⟩:=hrel
  have HK0:=(show Hid _ from hk)
  clear hk
  by_cases hlt:m<n
  ·have HC:=(show Hid _ from HS.out.2.2.2 m hlt)
   have f0:∀ j,wr.frozen? ⟨b,j,none⟩=false:=fun j=>(HK0.out.fz b j HS.out.1).trans (HS.out.2.2.1 j)
   go_wp2_with fail
   refine (HM.out _ _ (by omega) (by omega)).mono ?_
   rintro e w1 ⟨s0,rfl,hb⟩
   have HK1:Hid (Kin B E w w1):=HK0.out.on hE hb
   clear hb f0
   obtain ⟨u0,hu0⟩:=HC.out.1
   obtain ⟨q0,e0⟩:=HK1.out.str _ _ _ HS.out.1 hu0
   clear hu0
   have f1:∀ j,w1.frozen? ⟨b,j,none⟩=false:=fun j=>(HK1.out.fz b j HS.out.1).trans (HS.out.2.2.1 j)
   go_wp2_with fail
   refine (HM.out _ _ (by omega) (by omega)).mono ?_
   rintro e w2 ⟨s1,rfl,hb⟩
   have HK2:Hid (Kin B E w w2):=(HK1.out.setS HS.out.1 (HC.out.1) _).on hE hb
   clear hb f1 e0
   obtain ⟨u1,hu1⟩:=HC.out.2.1
   obtain ⟨q1,e1⟩:=HK2.out.str _ _ _ HS.out.1 hu1
   clear hu1
   obtain ⟨u2,hu2⟩:=HC.out.2.2
   obtain ⟨q2,e2⟩:=HK2.out.bool _ _ _ HS.out.1 hu2
   clear hu2
   have f2:∀ j,w2.frozen? ⟨b,j,none⟩=false:=fun j=>(HK2.out.fz b j HS.out.1).trans (HS.out.2.2.1 j)
   go_wp2
   go_roundw
   case rel=>exact⟨m+1,_,by omega,by go_num,rfl,by omega,by omega,((HK2.out.setS HS.out.1 (HC.out.2.1) _).setB HS.out.1 (HC.out.2.2) _)⟩
   case measure=>simp [intOf];omega
  ·obtain rfl:m=n:=by omega
   go_wp2
   go_ret
   exact⟨⟨_,rfl,hz1,hz2⟩,HK0.out⟩
theorem shIns_of {B:Nat} {w:World} {v:Value} {xs:List InsD} (h:sliceF insR (flF insR) B w v xs) (hl:xs.length≤1048576):∃ b c,v = .slice (some ⟨b,0,none⟩) xs.length c∧ShIns B w.heap.size w b xs.length:=by
 obtain ⟨b,c,rfl,h1,h2,⟨h3,hlt,hfz⟩,h4⟩:=h
 refine ⟨b,c,rfl,⟨h1,hlt⟩,hl,hfz,fun i hi=>?_⟩
 obtain ⟨cs,hlen,hc,hin⟩:=h4 i hi
 obtain ⟨rfl,_⟩:=insR_in hin
 have hk:insR.k=5:=rfl
 rw [hk] at hc
 exact⟨⟨_,hc 0 (by omega)⟩,⟨_,hc 1 (by omega)⟩,⟨_,hc 2 (by omega)⟩,⟨_,hc 3 (by omega)⟩,⟨_,hc 4 (by omega)⟩⟩
theorem shHands_of {B:Nat} {w:World} {v:Value} {xs:List HandlerD} (h:sliceF handlerR (flF handlerR) B w v xs) (hl:xs.length≤1048576):∃ b c,v = .slice (some ⟨b,0,none⟩) xs.length c∧ShHands B w.heap.size w b xs.length:=by
 obtain ⟨b,c,rfl,h1,h2,⟨h3,hlt,hfz⟩,h4⟩:=h
 refine ⟨b,c,rfl,⟨h1,hlt⟩,hl,hfz,fun i hi=>?_⟩
 obtain ⟨cs,hlen,hc,hin⟩:=h4 i hi
 obtain ⟨rfl,_⟩:=handlerR_in hin
 have hk:handlerR.k=4:=rfl
 rw [hk] at hc
 exact⟨⟨_,hc 0 (by omega)⟩,⟨_,hc 1 (by omega)⟩,⟨_,hc 2 (by omega)⟩,⟨_,hc 3 (by omega)⟩⟩
theorem shFields_of {B:Nat} {w:World} {v:Value} {xs:List FieldD} (h:sliceF fieldR (flF fieldR) B w v xs) (hl:xs.length≤1048576):∃ b c,v = .slice (some ⟨b,0,none⟩) xs.length c∧ShFields B w.heap.size w b xs.length:=by
 obtain ⟨b,c,rfl,h1,h2,⟨h3,hlt,hfz⟩,h4⟩:=h
 refine ⟨b,c,rfl,⟨h1,hlt⟩,hl,hfz,fun i hi=>?_⟩
 obtain ⟨cs,hlen,hc,hin⟩:=h4 i hi
 obtain ⟨rfl,_⟩:=fieldR_in hin
 have hk:fieldR.k=3:=rfl
 rw [hk] at hc
 exact⟨⟨_,hc 0 (by omega)⟩,⟨_,hc 1 (by omega)⟩,⟨_,hc 2 (by omega)⟩⟩
def ShMeths (B E:Nat) (w:World) (b n:Nat):Prop:=(B≤b∧b<E)∧n≤1048576∧(∀ j,w.frozen? ⟨b,j,none⟩=false)∧∀ i,i<n→(∃ x:ByteArray,w.cell? ⟨b,i * 9,none⟩=some (.string x))∧(∃ x:ByteArray,w.cell? ⟨b,i * 9+1,none⟩=some (.string x))∧(∃ x:Bool,w.cell? ⟨b,i * 9+2,none⟩=some (.bool x))∧(∃ x:Bool,w.cell? ⟨b,i * 9+3,none⟩=some (.bool x))∧(∃ x:Bool,w.cell? ⟨b,i * 9+4,none⟩=some (.bool x))∧(∃ x:Int,w.cell? ⟨b,i * 9+5,none⟩=some (.int .i64 x))∧(∃ x:Int,w.cell? ⟨b,i * 9+6,none⟩=some (.int .i64 x))∧(∃ b1 n1 c1,w.cell? ⟨b,i * 9+7,none⟩=some (.slice (some ⟨b1,0,none⟩) n1 c1)∧ShIns B E w b1 n1)∧(∃ b1 n1 c1,w.cell? ⟨b,i * 9+8,none⟩=some (.slice (some ⟨b1,0,none⟩) n1 c1)∧ShHands B E w b1 n1)
theorem ShMeths.kin {B E:Nat} {w w':World} {b n:Nat} (h:ShMeths B E w b n) (k:Kin B E w w'):ShMeths B E w' b n:=by
 refine ⟨h.1,h.2.1,fun j=>(k.fz b j h.1).trans (h.2.2.1 j),fun i hi=>?_⟩
 obtain ⟨⟨x0,e0⟩,⟨x1,e1⟩,⟨x2,e2⟩,⟨x3,e3⟩,⟨x4,e4⟩,⟨x5,e5⟩,⟨x6,e6⟩,⟨b1,n1,c1,e7,s7⟩,⟨b2,n2,c2,e8,s8⟩⟩:=h.2.2.2 i hi
 exact⟨k.str _ _ _ h.1 e0,k.str _ _ _ h.1 e1,k.bool _ _ _ h.1 e2,k.bool _ _ _ h.1 e3,k.bool _ _ _ h.1 e4,k.int _ _ _ h.1 e5,k.int _ _ _ h.1 e6,⟨b1,n1,c1,k.sl _ _ _ _ _ h.1 e7,s7.kin k⟩,⟨b2,n2,c2,k.sl _ _ _ _ _ h.1 e8,s8.kin k⟩⟩
end Go.Proofs.YtgohomcodjnfiaaGreatDoor
