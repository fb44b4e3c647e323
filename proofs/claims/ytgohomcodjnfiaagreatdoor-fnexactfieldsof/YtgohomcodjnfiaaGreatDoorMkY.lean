import Derived.Test.YtgohomcodjnfiaaGreatDoorMkX
import Derived.Test.YtgohomcodjnfiaaGreatDoorWlaw
namespace Go.Proofs.YtgohomcodjnfiaaGreatDoor
open Go.RowKit
set_option maxRecDepth 20000
set_option linter.unusedVariables false
def ShMT (B E:Nat) (w:World) (b n:Nat) (T:Nat→Nat):Prop:=(B≤b∧b<E)∧n≤1048576∧(∀ j,w.frozen? ⟨b,j,none⟩=false)∧∀ i,i<n→(∃ x:ByteArray,w.cell? ⟨b,i * 9,none⟩=some (.string x))∧(∃ x:ByteArray,w.cell? ⟨b,i * 9+1,none⟩=some (.string x))∧(∃ x:Bool,w.cell? ⟨b,i * 9+2,none⟩=some (.bool x))∧(∃ x:Bool,w.cell? ⟨b,i * 9+3,none⟩=some (.bool x))∧(∃ x:Bool,w.cell? ⟨b,i * 9+4,none⟩=some (.bool x))∧(∃ x:Int,w.cell? ⟨b,i * 9+5,none⟩=some (.int .i64 x))∧(∃ x:Int,w.cell? ⟨b,i * 9+6,none⟩=some (.int .i64 x))∧∃ b1 n1 c1 b2 n2 c2,w.cell? ⟨b,i * 9+7,none⟩=some (.slice (some ⟨b1,0,none⟩) n1 c1)∧ShIns B E w b1 n1∧w.cell? ⟨b,i * 9+8,none⟩=some (.slice (some ⟨b2,0,none⟩) n2 c2)∧ShHands B E w b2 n2∧T i+7+5 * n1+4 * n2≤T (i+1)
theorem ShMT.kin {B E:Nat} {w w':World} {b n:Nat} {T:Nat→Nat} (h:ShMT B E w b n T) (k:Kin B E w w'):ShMT B E w' b n T:=by
 refine ⟨h.1,h.2.1,fun j=>(k.fz b j h.1).trans (h.2.2.1 j),fun i hi=>?_⟩
 obtain ⟨⟨x0,e0⟩,⟨x1,e1⟩,⟨x2,e2⟩,⟨x3,e3⟩,⟨x4,e4⟩,⟨x5,e5⟩,⟨x6,e6⟩,b1,n1,c1,b2,n2,c2,e7,s7,e8,s8,hT⟩:=h.2.2.2 i hi
 exact⟨k.str _ _ _ h.1 e0,k.str _ _ _ h.1 e1,k.bool _ _ _ h.1 e2,k.bool _ _ _ h.1 e3,k.bool _ _ _ h.1 e4,k.int _ _ _ h.1 e5,k.int _ _ _ h.1 e6,b1,n1,c1,b2,n2,c2,k.sl _ _ _ _ _ h.1 e7,s7.kin k,k.sl _ _ _ _ _ h.1 e8,s8.kin k,hT⟩
theorem T_mono {T:Nat→Nat} {n:Nat} (h:∀ i,i<n→T i≤T (i+1)):∀ m,m≤n→T m≤T n:=by
 induction n with
 | zero => intro m hm; obtain rfl : m = 0 := by omega
           exact Nat.le_refl _
 | succ n ih =>
  intro m hm
  by_cases e:m=n+1
  ·subst e;exact Nat.le_refl _
  ·exact Nat.le_trans (ih (fun i hi=>h i (by omega)) m (by omega)) (h n (by omega))
theorem shMT_of {B:Nat} {w:World} {v:Value} {xs:List MTup} (h:sliceF methR methF B w v xs) (hl:xs.length≤1048576) (hls:∀ i (h:i<xs.length),(mD xs[i]).code.length≤1048576∧(mD xs[i]).hands.length≤1048576):∃ b c,v = .slice (some ⟨b,0,none⟩) xs.length c∧ShMT B w.heap.size w b xs.length (fun i=>7 * (i+mSum xs i)):=by
 obtain ⟨b,c,rfl,h1,h2,⟨h3,hlt,hfz⟩,h4⟩:=h
 refine ⟨b,c,rfl,⟨h1,hlt⟩,hl,hfz,fun i hi=>?_⟩
 obtain ⟨cs,hlen,hc,vc,vh,rfl,_,_,_,_,g1,g2⟩:=h4 i hi
 have hk:methR.k=9:=rfl
 rw [hk] at hc
 obtain ⟨b1,c1,rfl,s1⟩:=shIns_of g1 (hls i hi).1
 obtain ⟨b2,c2,rfl,s2⟩:=shHands_of g2 (hls i hi).2
 refine ⟨⟨_,hc 0 (by omega)⟩,⟨_,hc 1 (by omega)⟩,⟨_,hc 2 (by omega)⟩,⟨_,hc 3 (by omega)⟩,⟨_,hc 4 (by omega)⟩,⟨_,hc 5 (by omega)⟩,⟨_,hc 6 (by omega)⟩,b1,_,c1,b2,_,c2,hc 7 (by omega),s1,hc 8 (by omega),s2,?_⟩
 have hs:=mSum_succ xs i hi
 unfold methB at hs
 show 7 * (i+mSum xs i)+7+5 * _+4 * _≤7 * (i+1+mSum xs (i+1))
 omega
set_option maxHeartbeats 4000000 in
theorem lawMarkMT (B E b n cap:Nat) (T:Nat→Nat) (z0:Int) (w:World) (h:ShMT B E w b n T) (hE:E≤w.heap.size) (h1:1≤z0) (h2:z0+T n≤35184372088832) :
  Calls Tryz.prog 27 #[.slice (some ⟨b,0,none⟩) n cap,.int .i64 z0] w fun e w'=>(∃ z,e = .returned (.int .i64 z)∧z0≤z∧z+T 0≤z0+T n)∧Kin B E w w':=by
 have HS:=(show Hid _ from h)
 have HM:=(show Hid _ from lawMarkA)
 have hn:=h.2.1
 have hTm:∀ m,m≤n→T m≤T n:=T_mono fun i hi=>by
  obtain ⟨_,_,_,_,_,_,_,_,_,_,_,_,_,_,_,_,_,hT⟩:=h.2.2.2 i hi
  omega
 have HTm:=(show Hid (∀ m,m≤n→T m≤T n) from hTm)
 clear h hTm
 go_enter Tryz.func27,Tryz.ntmps27
 go_wp2_with fail
 go_loopw [1,5] (fun j1 j5 wr=>∃ (m:Nat) (z:Int),m≤n∧j5 = .int .i64 (m:Int)∧j1 = .int .i64 z∧z0≤z∧z+T 0≤z0+T m∧Kin B E w wr) (fun _ j5 _=>n - (intOf j5).toNat)
 case atStart=>exact⟨0,z0,Nat.zero_le _,rfl,rfl,Int.le_refl _,by omega,Kin.refl _ _ _⟩
 case round =>
  obtain ⟨m,z,hm,rfl,rfl,hz1,hz2,hk⟩:=hrel
  have hTmm:=HTm.out m hm
  have HK0:=(show Hid _ from hk)
  clear hk
  by_cases hlt:m<n
  ·have HC:=(show Hid _ from HS.out.2.2.2 m hlt)
   obtain ⟨_,_,_,_,_,_,_,b7,n7,c7,b8,n8,c8,s7,sh7,s8,sh8,hT7⟩:=HC.out
   have hTn:=HTm.out (m+1) hlt
   have hn7:=sh7.2.1
   have hn8:=sh8.2.1
   have H78:=(show Hid (_∧_) from ⟨s7,s8⟩)
   have HI7:Hid (∀ X (zz:Int),Kin B E w X→1≤zz→zz≤35184372088832→Calls Tryz.prog 47 #[.slice (some ⟨b7,0,none⟩) n7 c7,.int .i64 zz] X fun e w'=>(∃ z',e = .returned (.int .i64 z')∧zz≤z'∧z'≤zz+5 * n7)∧Kin B E w w'):=fun X zz k a1 a2=>(lawMarkIns B E b7 n7 c7 zz X (sh7.kin k) (Nat.le_trans hE k.size) a1 a2).mono fun e w' q=>⟨q.1,k.trans q.2⟩
   have HI8:Hid (∀ X (zz:Int),Kin B E w X→1≤zz→zz≤35184372088832→Calls Tryz.prog 48 #[.slice (some ⟨b8,0,none⟩) n8 c8,.int .i64 zz] X fun e w'=>(∃ z',e = .returned (.int .i64 z')∧zz≤z'∧z'≤zz+4 * n8)∧Kin B E w w'):=fun X zz k a1 a2=>(lawMarkHands B E b8 n8 c8 zz X (sh8.kin k) (Nat.le_trans hE k.size) a1 a2).mono fun e w' q=>⟨q.1,k.trans q.2⟩
   clear sh7 sh8 s7 s8
   have f0:∀ j,wr.frozen? ⟨b,j,none⟩=false:=fun j=>(HK0.out.fz b j HS.out.1).trans (HS.out.2.2.1 j)
   go_wp2_with fail
   refine (HM.out _ _ (by omega) (by omega)).mono ?_
   rintro e w1 ⟨s0,rfl,hb⟩
   have HK1:Hid (Kin B E w w1):=HK0.out.on hE hb
   clear hb f0
   obtain ⟨u0,hu0⟩:=HC.out.1
   obtain ⟨q0,e0⟩:=HK1.out.str _ _ _ HS.out.1 hu0
   clear hu0
   have f1:∀ j,w1.frozen? ⟨b,j,none⟩=false:=fun j=>(HK1.out.fz b j HS.out.1).trans (HS.out.2.2.1 j)
   go_wp2_with fail
   refine (HM.out _ _ (by omega) (by omega)).mono ?_
   rintro e w2 ⟨s1,rfl,hb⟩
   have HK2:Hid (Kin B E w w2):=(HK1.out.setS HS.out.1 (HC.out.1) _).on hE hb
   clear hb f1 e0
   obtain ⟨u1,hu1⟩:=HC.out.2.1
   obtain ⟨q1,e1⟩:=HK2.out.str _ _ _ HS.out.1 hu1
   clear hu1
   obtain ⟨u2,hu2⟩:=HC.out.2.2.1
   obtain ⟨q2,e2⟩:=HK2.out.bool _ _ _ HS.out.1 hu2
   clear hu2
   obtain ⟨u3,hu3⟩:=HC.out.2.2.2.1
   obtain ⟨q3,e3⟩:=HK2.out.bool _ _ _ HS.out.1 hu3
   clear hu3
   obtain ⟨u4,hu4⟩:=HC.out.2.2.2.2.1
   obtain ⟨q4,e4⟩:=HK2.out.bool _ _ _ HS.out.1 hu4
   clear hu4
   obtain ⟨u5,hu5⟩:=HC.out.2.2.2.2.2.1
   obtain ⟨q5,e5⟩:=HK2.out.int _ _ _ HS.out.1 hu5
   clear hu5
   obtain ⟨u6,hu6⟩:=HC.out.2.2.2.2.2.2.1
   obtain ⟨q6,e6⟩:=HK2.out.int _ _ _ HS.out.1 hu6
   clear hu6
   have f2:∀ j,w2.frozen? ⟨b,j,none⟩=false:=fun j=>(HK2.out.fz b j HS.out.1).trans (HS.out.2.2.1 j)
   have e7:=HK2.out.sl _ _ _ _ _ HS.out.1 H78.out.1
   go_wp2_with fail
   refine (HI7.out _ _ ((((((HK2.out.setS HS.out.1 (HC.out.2.1) _).setB HS.out.1 (HC.out.2.2.1) _).setB HS.out.1 (HC.out.2.2.2.1) _).setB HS.out.1 (HC.out.2.2.2.2.1) _).setI HS.out.1 (HC.out.2.2.2.2.2.1) _).setI HS.out.1 (HC.out.2.2.2.2.2.2.1) _) (by omega) (by omega)).mono ?_
   rintro e w3 ⟨⟨z3,rfl,a3,a4⟩,hk3⟩
   have HK3:=(show Hid _ from hk3)
   have e8:=hk3.sl _ _ _ _ _ HS.out.1 H78.out.2
   clear hk3 f2 e1 e2 e3 e4 e5 e6 e7
   go_wp2_with fail
   refine (HI8.out _ _ HK3.out (by omega) (by omega)).mono ?_
   rintro e w4 ⟨⟨z4,rfl,a5,a6⟩,hk4⟩
   have HK4:=(show Hid _ from hk4)
   clear hk4 e8
   go_wp2
   go_roundw
   case rel=>exact⟨m+1,_,by omega,by go_num,rfl,by omega,by omega,HK4.out⟩
   case measure=>simp [intOf];omega
  ·obtain rfl:m=n:=by omega
   go_wp2
   go_ret
   exact⟨⟨_,rfl,hz1,hz2⟩,HK0.out⟩
def ShCls (B E:Nat) (w:World) (b n:Nat) (C:Nat→Nat):Prop:=(B≤b∧b<E)∧n≤1048576∧(∀ j,w.frozen? ⟨b,j,none⟩=false)∧∀ i,i<n→(∃ x:ByteArray,w.cell? ⟨b,i * 6,none⟩=some (.string x))∧(∃ x:ByteArray,w.cell? ⟨b,i * 6+1,none⟩=some (.string x))∧(∃ x:Bool,w.cell? ⟨b,i * 6+2,none⟩=some (.bool x))∧(∃ x:Bool,w.cell? ⟨b,i * 6+3,none⟩=some (.bool x))∧∃ b1 n1 c1 b2 n2 c2,w.cell? ⟨b,i * 6+4,none⟩=some (.slice (some ⟨b1,0,none⟩) n1 c1)∧ShFields B E w b1 n1∧w.cell? ⟨b,i * 6+5,none⟩=some (.slice (some ⟨b2,0,none⟩) n2 c2)∧∃ T,ShMT B E w b2 n2 T∧T 0=0∧C i+4+3 * n1+T n2≤C (i+1)
theorem ShCls.kin {B E:Nat} {w w':World} {b n:Nat} {C:Nat→Nat} (h:ShCls B E w b n C) (k:Kin B E w w'):ShCls B E w' b n C:=by
 refine ⟨h.1,h.2.1,fun j=>(k.fz b j h.1).trans (h.2.2.1 j),fun i hi=>?_⟩
 obtain ⟨⟨x0,e0⟩,⟨x1,e1⟩,⟨x2,e2⟩,⟨x3,e3⟩,b1,n1,c1,b2,n2,c2,e7,s7,e8,T,s8,hT⟩:=h.2.2.2 i hi
 exact⟨k.str _ _ _ h.1 e0,k.str _ _ _ h.1 e1,k.bool _ _ _ h.1 e2,k.bool _ _ _ h.1 e3,b1,n1,c1,b2,n2,c2,k.sl _ _ _ _ _ h.1 e7,s7.kin k,k.sl _ _ _ _ _ h.1 e8,T,s8.kin k,hT⟩
theorem shCls_of {B:Nat} {w:World} {v:Value} {xs:List CTup} (h:sliceF classR clsF B w v xs) (hl:xs.length≤1048576) (hls:∀ i (h:i<xs.length),(cD xs[i]).fields.length≤1048576∧(cD xs[i]).meths.length≤1048576∧∀ j (h:j<(cD xs[i]).meths.length),(mD (cD xs[i]).meths[j]).code.length≤1048576∧(mD (cD xs[i]).meths[j]).hands.length≤1048576):∃ b c,v = .slice (some ⟨b,0,none⟩) xs.length c∧ShCls B w.heap.size w b xs.length (fun i=>7 * (i+cSum xs i)):=by
 obtain ⟨b,c,rfl,h1,h2,⟨h3,hlt,hfz⟩,h4⟩:=h
 refine ⟨b,c,rfl,⟨h1,hlt⟩,hl,hfz,fun i hi=>?_⟩
 obtain ⟨cs,hlen,hc,vc,vh,rfl,_,_,g1,g2⟩:=h4 i hi
 have hk:classR.k=6:=rfl
 rw [hk] at hc
 obtain ⟨b1,c1,rfl,s1⟩:=shFields_of g1 (hls i hi).1
 obtain ⟨b2,c2,rfl,s2⟩:=shMT_of g2 (hls i hi).2.1 (hls i hi).2.2
 refine ⟨⟨_,hc 0 (by omega)⟩,⟨_,hc 1 (by omega)⟩,⟨_,hc 2 (by omega)⟩,⟨_,hc 3 (by omega)⟩,b1,_,c1,b2,_,c2,hc 4 (by omega),s1,hc 5 (by omega),_,s2,by simp [mSum],?_⟩
 have hs:=cSum_succ xs i hi
 unfold clsB at hs
 show 7 * (i+cSum xs i)+4+3 * _+7 * (_+mSum _ _)≤7 * (i+1+cSum xs (i+1))
 omega
set_option maxHeartbeats 4000000 in
theorem lawMarkCls (B E b n cap:Nat) (C:Nat→Nat) (z0:Int) (w:World) (h:ShCls B E w b n C) (hE:E≤w.heap.size) (h1:1≤z0) (h2:z0+C n≤35184372088832) :
  Calls Tryz.prog 11 #[.slice (some ⟨b,0,none⟩) n cap,.int .i64 z0] w fun e w'=>(∃ z,e = .returned (.int .i64 z)∧z0≤z∧z+C 0≤z0+C n)∧Kin B E w w':=by
 have HS:=(show Hid _ from h)
 have HM:=(show Hid _ from lawMarkA)
 have hn:=h.2.1
 have hCm:∀ m,m≤n→C m≤C n:=T_mono fun i hi=>by
  obtain ⟨_,_,_,_,_,_,_,_,_,_,_,_,_,T,_,_,hC⟩:=h.2.2.2 i hi
  omega
 have HCm:=(show Hid (∀ m,m≤n→C m≤C n) from hCm)
 clear h hCm
 go_enter Tryz.func11,Tryz.ntmps11
 go_wp2_with fail
 go_loopw [1,5] (fun j1 j5 wr=>∃ (m:Nat) (z:Int),m≤n∧j5 = .int .i64 (m:Int)∧j1 = .int .i64 z∧z0≤z∧z+C 0≤z0+C m∧Kin B E w wr) (fun _ j5 _=>n - (intOf j5).toNat)
 case atStart=>exact⟨0,z0,Nat.zero_le _,rfl,rfl,Int.le_refl _,by omega,Kin.refl _ _ _⟩
 case round =>
  obtain ⟨m,z,hm,rfl,rfl,hz1,hz2,hk⟩:=hrel
  have hCmm:=HCm.out m hm
  have HK0:=(show Hid _ from hk)
  clear hk
  by_cases hlt:m<n
  ·have HC:=(show Hid _ from HS.out.2.2.2 m hlt)
   obtain ⟨_,_,_,_,b7,n7,c7,b8,n8,c8,s7,sh7,s8,T,sh8,hT0,hT7⟩:=HC.out
   have hCn:=HCm.out (m+1) hlt
   have hn7:=sh7.2.1
   have H78:=(show Hid (_∧_) from ⟨s7,s8⟩)
   have HI7:Hid (∀ X (zz:Int),Kin B E w X→1≤zz→zz≤35184372088832→Calls Tryz.prog 12 #[.slice (some ⟨b7,0,none⟩) n7 c7,.int .i64 zz] X fun e w'=>(∃ z',e = .returned (.int .i64 z')∧zz≤z'∧z'≤zz+3 * n7)∧Kin B E w w'):=fun X zz k a1 a2=>(lawMarkFields B E b7 n7 c7 zz X (sh7.kin k) (Nat.le_trans hE k.size) a1 a2).mono fun e w' q=>⟨q.1,k.trans q.2⟩
   have HI8:Hid (∀ X (zz:Int),Kin B E w X→1≤zz→zz+T n8≤35184372088832→Calls Tryz.prog 27 #[.slice (some ⟨b8,0,none⟩) n8 c8,.int .i64 zz] X fun e w'=>(∃ z',e = .returned (.int .i64 z')∧zz≤z'∧z'≤zz+T n8)∧Kin B E w w'):=fun X zz k a1 a2=>(lawMarkMT B E b8 n8 c8 T zz X (sh8.kin k) (Nat.le_trans hE k.size) a1 a2).mono fun e w' q=>by
    obtain ⟨⟨z',q1,q2,q3⟩,q4⟩:=q
    exact⟨⟨z',q1,q2,by omega⟩,k.trans q4⟩
   clear sh7 sh8 s7 s8
   have f0:∀ j,wr.frozen? ⟨b,j,none⟩=false:=fun j=>(HK0.out.fz b j HS.out.1).trans (HS.out.2.2.1 j)
   go_wp2_with fail
   refine (HM.out _ _ (by omega) (by omega)).mono ?_
   rintro e w1 ⟨s0,rfl,hb⟩
   have HK1:Hid (Kin B E w w1):=HK0.out.on hE hb
   clear hb f0
   obtain ⟨u0,hu0⟩:=HC.out.1
   obtain ⟨q0,e0⟩:=HK1.out.str _ _ _ HS.out.1 hu0
   clear hu0
   have f1:∀ j,w1.frozen? ⟨b,j,none⟩=false:=fun j=>(HK1.out.fz b j HS.out.1).trans (HS.out.2.2.1 j)
   go_wp2_with fail
   refine (HM.out _ _ (by omega) (by omega)).mono ?_
   rintro e w2 ⟨s1,rfl,hb⟩
   have HK2:Hid (Kin B E w w2):=(HK1.out.setS HS.out.1 (HC.out.1) _).on hE hb
   clear hb f1 e0
   obtain ⟨u1,hu1⟩:=HC.out.2.1
   obtain ⟨q1,e1⟩:=HK2.out.str _ _ _ HS.out.1 hu1
   clear hu1
   obtain ⟨u2,hu2⟩:=HC.out.2.2.1
   obtain ⟨q2,e2⟩:=HK2.out.bool _ _ _ HS.out.1 hu2
   clear hu2
   obtain ⟨u3,hu3⟩:=HC.out.2.2.2.1
   obtain ⟨q3,e3⟩:=HK2.out.bool _ _ _ HS.out.1 hu3
   clear hu3
   have f2:∀ j,w2.frozen? ⟨b,j,none⟩=false:=fun j=>(HK2.out.fz b j HS.out.1).trans (HS.out.2.2.1 j)
   have e7:=HK2.out.sl _ _ _ _ _ HS.out.1 H78.out.1
   go_wp2_with fail
   refine (HI7.out _ _ (((HK2.out.setS HS.out.1 (HC.out.2.1) _).setB HS.out.1 (HC.out.2.2.1) _).setB HS.out.1 (HC.out.2.2.2.1) _) (by omega) (by omega)).mono ?_
   rintro e w3 ⟨⟨z3,rfl,a3,a4⟩,hk3⟩
   have HK3:=(show Hid _ from hk3)
   have e8:=hk3.sl _ _ _ _ _ HS.out.1 H78.out.2
   clear hk3 f2 e1 e2 e3 e7
   go_wp2_with fail
   refine (HI8.out _ _ HK3.out (by omega) (by omega)).mono ?_
   rintro e w4 ⟨⟨z4,rfl,a5,a6⟩,hk4⟩
   have HK4:=(show Hid _ from hk4)
   clear hk4 e8
   go_wp2
   go_roundw
   case rel=>exact⟨m+1,_,by omega,by go_num,rfl,by omega,by omega,HK4.out⟩
   case measure=>simp [intOf];omega
  ·obtain rfl:m=n:=by omega
   go_wp2
   go_ret
   exact⟨⟨_,rfl,hz1,hz2⟩,HK0.out⟩
end Go.Proofs.YtgohomcodjnfiaaGreatDoor
