import Derived.Test.YtgohomcodjnfiaaGreatDoorMkX
import Derived.Test.YtgohomcodjnfiaaGreatDoorDMark
import Derived.Test.YtgohomcodjnfiaaGreatDoorWfM
namespace Go.Proofs.YtgohomcodjnfiaaGreatDoor
open Go.RowKit
set_option maxRecDepth 20000
set_option linter.unusedVariables false
theorem Kin.lowF {B E:Nat} {w0 a b:World} (h:Kin B E a b) (h0:Below w0.heap.size w0 a) (hB:w0.heap.size≤B):Below w0.heap.size w0 b :=
 ⟨h.os.trans h0.os,h.tape.trans h0.tape,h.output.trans h0.output,Nat.le_trans h0.size h.size,fun k hk=>(h.out k (Nat.lt_of_lt_of_le hk h0.size) (.inl (by omega))).trans (h0.block k hk)⟩
theorem flat_get3:∀ (xs:List FieldD) (i:Nat) (hi:i<xs.length) (j:Nat),j<3→(xs.flatMap cFd)[i * 3+j]?=(cFd xs[i])[j]?
 | [],i,hi,_,_=>by simp at hi
 | x :: xs,0,_,j,hj=>by
  rw [List.flatMap_cons,Nat.zero_mul,Nat.zero_add,List.getElem?_append_left (by simpa [cFd] using hj)]
  rfl
 | x :: xs,i+1,hi,j,hj=>by
  have e:(i+1) * 3+j=(cFd x).length+(i * 3+j):=by simp [cFd];omega
  rw [List.flatMap_cons,e,List.getElem?_append_right (by omega),Nat.add_sub_cancel_left]
  exact flat_get3 xs i (by simpa using hi) j hj
theorem ownsFd_in {w:World} {B e:Nat} {v:Value} {xs:List FieldD} (h:w.ownsRow B e 3 v xs.length (xs.flatMap cFd)) (hs:∀ d ∈ xs,d.1.size≤maxLen∧d.2.1.size≤maxLen):fieldR.slice.In w [v] xs:=by
 rcases h.2 with ⟨rfl,h0⟩ | ⟨g,cap,cur,rfl,hB,hg,hn,hcap,hsz,htake⟩
 ·exact⟨none,0,by simp [h0],by simp [h0],by simp,fun i hi=>by simp [h0] at hi⟩
 ·refine ⟨some ⟨g,0,none⟩,cap,rfl,hn,hcap,fun i hi=>⟨_,rfl,cFd xs[i],fun j hj=>?_,?_⟩⟩
  ·have hj3:j<3:=hj
   have hlt:i * 3+j<xs.length * 3:=by omega
   have hk:fieldR.k=3:=rfl
   rw [hk,(show (⟨g,0,none⟩:Addr).add (i * 3+j)=⟨g,i * 3+j,none⟩ by unfold Addr.add;split<;>simp_all),← flat_get3 xs i hi j hj3,← htake]
   simp [World.cell?,hg,hlt]
  ·have:=hs _ (List.getElem_mem hi)
   exact⟨[.string xs[i].1],_,rfl,⟨rfl,this.1⟩,[.string xs[i].2.1],_,rfl,⟨rfl,this.2⟩,rfl⟩
def RowF (w:World) (a:Option Addr) (n cap:Nat) (f:Nat→Value):Prop :=
 n=0 ∨ ∃ g,a=some ⟨g,0,none⟩∧w.rowIs g 57 (cap * 3) f∧n≤cap∧cap≤maxLen
theorem RowF.of_blocks {w w':World} {a:Option Addr} {n cap:Nat} {f:Nat→Value} (h:RowF w a n cap f) (hb:∀ x,a=some x→x.block<w.heap.size→w'.heap[x.block]?=w.heap[x.block]?):RowF w' a n cap f:=by
 rcases h with h | ⟨g,e,h2,h3⟩
 ·exact .inl h
 ·exact .inr ⟨g,e,h2.of_block (hb _ e h2.lt),h3⟩
theorem RowF.mono {w w':World} {a:Option Addr} {n cap:Nat} {f:Nat→Value} (h:RowF w a n cap f) (hb:Below w.heap.size w w'):RowF w' a n cap f:=h.of_blocks fun x _ hx=>hb.block _ hx
theorem ownsFd_row {w:World} {B:Nat} {a:Option Addr} {n cap:Nat} {xs:List Value} (h:w.ownsRow B 57 3 (.slice a n cap) n xs):∃ f,RowF w a n cap f:=by
 rcases h.2 with ⟨h1,h0⟩ | ⟨g,cp,cur,h1,h2,h3,h4,h5,h6⟩
 ·exact⟨fun _=>undef,.inl h0⟩
 ·cases h1
  exact⟨fun i=>cur.getD i undef,.inr ⟨g,rfl,⟨cur,h3,h6.1,fun i hi=>by
   have hc:i<cur.size:=by omega
   rw [Array.getElem?_eq_getElem hc]
   simp [Array.getD,hc]⟩,h4,h5⟩⟩
theorem ownsFd_block {w:World} {B e n cap:Nat} {a:Option Addr} {xs:List Value} (h:w.ownsRow B e 3 (.slice a n cap) n xs):∀ x,a=some x→B≤x.block∧x.block<w.heap.size:=by
 rintro x rfl
 rcases h.2 with ⟨h1,h0⟩ | ⟨g,cp,cur,h1,h2,h3,_⟩
 ·cases h1
 ·cases h1
  exact⟨h2,(Array.getElem?_eq_some_iff.1 h3).1⟩
theorem ownsFd_blocks {w w':World} {B e n cap:Nat} {a:Option Addr} {xs:List Value} (h:w.ownsRow B e 3 (.slice a n cap) n xs) (hb:∀ x,a=some x→x.block<w.heap.size→w'.heap[x.block]?=w.heap[x.block]?):w'.ownsRow B e 3 (.slice a n cap) n xs:=by
 refine ⟨h.1,?_⟩
 rcases h.2 with hn | ⟨g,cp,cur,h1,hB,hgg,rest⟩
 ·exact .inl hn
 ·cases h1
  exact .inr ⟨g,cap,cur,rfl,hB,(hb _ rfl (Array.getElem?_eq_some_iff.1 hgg).1).trans hgg,rest⟩
def mkD (n:Nat) (f:Nat→Value) (i:Nat):Value:=if i<3 * n then (if i % 3=2 then .bool true else .string (mkT (1+i))) else f i
theorem mkD_step {m:Nat} {f:Nat→Value} {y0 y1:ByteArray} (h0:mkT (1+3 * m)=y0) (h1:mkT (2+3 * m)=y1) (i:Nat):(if i=m * 3+2 then Value.bool true else if i=m * 3+1 then .string y1 else if i=m * 3 then .string y0 else mkD m f i)=mkD (m+1) f i:=by
 have l:∀ j,j<3→m * 3+j<3 * (m+1):=fun j hj=>by omega
 have q:∀ j,j<3→(m * 3+j) % 3=j:=fun j hj=>by omega
 unfold mkD
 by_cases e2:i=m * 3+2
 ·subst e2
  simp only [l 2 (by omega),q 2 (by omega),if_true]
 ·rw [if_neg e2]
  by_cases e1:i=m * 3+1
  ·subst e1
   simp only [l 1 (by omega),q 1 (by omega),if_true]
   rw [if_neg (by omega),← h1,show 1+(m * 3+1)=2+3 * m by omega]
  ·rw [if_neg e1]
   by_cases e0:i=m * 3
   ·subst e0
    have l0:=l 0 (by omega)
    have q0:=q 0 (by omega)
    rw [Nat.add_zero] at l0 q0
    simp only [l0,q0,if_true]
    rw [if_neg (by omega),← h0,show 1+m * 3=1+3 * m by omega]
   ·rw [if_neg e0]
    by_cases hl:i<3 * m
    ·rw [if_pos hl,if_pos (show i<3 * (m+1) by omega)]
    ·rw [if_neg hl,if_neg (show ¬ i<3 * (m+1) by omega)]
theorem mkD_at {n m:Nat} {f:Nat→Value} (h:m<n):mkD n f (m * 3) = .string (mkT (1+3 * m))∧mkD n f (m * 3+1) = .string (mkT (2+3 * m))∧mkD n f (m * 3+2) = .bool true:=by
 unfold mkD
 refine ⟨?_,?_,?_⟩
 ·rw [if_pos (by omega),if_neg (by omega),show 1+m * 3=1+3 * m by omega]
 ·rw [if_pos (by omega),if_neg (by omega),show 1+(m * 3+1)=2+3 * m by omega]
 ·rw [if_pos (by omega),if_pos (by omega)]
set_option maxHeartbeats 2000000 in
theorem lawMarkFdS (g n cap:Nat) (f:Nat→Value) (w:World) (hrow:w.rowIs g 57 (cap * 3) f) (hn:n≤cap) (hcap:cap≤maxLen) (h2:n≤1000) :
  Calls Tryz.prog 12 #[.slice (some ⟨g,0,none⟩) n cap,.int .i64 1] w fun e w'=>e = .returned (.int .i64 (1+3 * (n:Int)))∧But g w w'∧w'.rowIs g 57 (cap * 3) (mkD n f):=by
 have HR:=(show Hid (w.rowIs g 57 (cap * 3) f) from hrow)
 clear hrow
 unfold maxLen at hcap
 have hgz:g<w.heap.size:=HR.out.lt
 go_enter Tryz.func12,Tryz.ntmps12
 go_wp2_with fail
 go_loopw [1,5] (fun j1 j5 wr=>∃ m:Nat,m≤n∧j5 = .int .i64 (m:Int)∧j1 = .int .i64 (1+3 * (m:Int))∧But g w wr∧wr.rowIs g 57 (cap * 3) (mkD m f)) (fun _ j5 _=>n - (intOf j5).toNat)
 case atStart=>exact⟨0,Nat.zero_le _,rfl,by simp,But.refl _ _,HR.out.congr (fun i _=>by simp [mkD])⟩
 case round =>
  obtain ⟨m,hm,rfl,rfl,hbut,hrw⟩:=hrel
  have HB:Hid (But g w wr):=hbut
  have HW:=(show Hid (wr.rowIs g 57 (cap * 3) (mkD m f)) from hrw)
  clear hbut hrw
  by_cases hlt:m<n
  ·obtain ⟨z,hz⟩:∃ z:Int,1+3 * (m:Int)=z:=⟨_,rfl⟩
   rw [hz]
   obtain ⟨y0,hy0⟩:∃ y,mkT (1+3 * m)=y:=⟨_,rfl⟩
   obtain ⟨y1,hy1⟩:∃ y,mkT (2+3 * m)=y:=⟨_,rfl⟩
   have HM0:Hid (∀ w:World,Calls Tryz.prog 26 #[.int .i64 z] w fun e w'=>e = .returned (.string y0)∧Below w.heap.size w w'):=fun w=>by
    have:=lawMark (1+3 * m) w (by omega) (by omega)
    rw [hy0,show ((1+3 * m:Nat):Int)=z by omega] at this
    exact this
   have HM1:Hid (∀ w:World,Calls Tryz.prog 26 #[.int .i64 (z+1)] w fun e w'=>e = .returned (.string y1)∧Below w.heap.size w w'):=fun w=>by
    have:=lawMark (2+3 * m) w (by omega) (by omega)
    rw [hy1,show ((2+3 * m:Nat):Int)=z+1 by omega] at this
    exact this
   have e3:(z+1+1).tmod 3=0:=by rw [Int.tmod_eq_emod_of_nonneg (by omega)];omega
   have e4:z+1+1+1=1+3 * ((m:Int)+1):=by omega
   have hz1:1≤z∧z≤4000:=by omega
   have HST:=(show Hid _ from fun i=>mkD_step (f:=f) hy0 hy1 i)
   have HE4:Hid (z+1+1+1=1+3 * ((m:Int)+1)):=e4
   clear hz hy0 hy1 e4
   go_wp2_with fail
   refine (HM0.out _).mono ?_
   rintro e w1 ⟨rfl,hb1⟩
   have HB1:Hid (But g w w1):=HB.out.on hb1
   have HW1:=(show Hid (w1.rowIs g 57 (cap * 3) (mkD m f)) from HW.out.of_block (hb1.block g HW.out.lt))
   have f1:∀ j,w1.frozen? ⟨g,j,none⟩=false:=fun j=>HW1.out.frozen j
   obtain ⟨u0,hu0⟩:∃ u,w1.cell? ⟨g,m * 3,none⟩=some u:=⟨_,HW1.out.cell (by omega)⟩
   clear hb1 HW
   go_wp2_with fail
   refine (HM1.out _).mono ?_
   rintro e w2 ⟨rfl,hb2⟩
   have HB2:Hid (But g w w2):=(HB1.out.set _ _).on hb2
   have HW2:=(show Hid (w2.rowIs g 57 (cap * 3) _) from (HW1.out.set (m * 3) (.string y0)).of_block (hb2.block g (by simpa using HW1.out.lt)))
   have f2:∀ j,w2.frozen? ⟨g,j,none⟩=false:=fun j=>HW2.out.frozen j
   obtain ⟨u1,hu1⟩:∃ u,w2.cell? ⟨g,m * 3+1,none⟩=some u:=⟨_,HW2.out.cell (by omega)⟩
   obtain ⟨u2,hu2⟩:∃ u,w2.cell? ⟨g,m * 3+2,none⟩=some u:=⟨_,HW2.out.cell (by omega)⟩
   clear hb2 f1 hu0
   have HN:Hid (But g w ((w2.setCell ⟨g,m * 3+1,none⟩ (.string y1)).setCell ⟨g,m * 3+2,none⟩ (.bool true))∧((w2.setCell ⟨g,m * 3+1,none⟩ (.string y1)).setCell ⟨g,m * 3+2,none⟩ (.bool true)).rowIs g 57 (cap * 3) (mkD (m+1) f)) :=
    ⟨(HB2.out.set _ _).set _ _,((HW2.out.set _ _).set _ _).congr fun i _=>HST.out i⟩
   clear HB1 HB2 HW1 HW2 HST
   go_wp2
   go_roundw
   case rel=>exact⟨m+1,by omega,by go_num,by rw [HE4.out];congr 1,HN.out.1,HN.out.2⟩
   case measure=>simp [intOf];omega
  ·obtain rfl:m=n:=by omega
   go_wp2
   go_ret
   exact⟨rfl,HB.out,HW.out⟩
set_option maxHeartbeats 2000000 in
theorem lawHeldFdS (g n cap:Nat) (f:Nat→Value) (w:World) (hrow:w.rowIs g 57 (cap * 3) (mkD n f)) (hn:n≤cap) (hcap:cap≤maxLen) (h2:n≤1000) :
  Calls Tryz.prog 13 #[.slice (some ⟨g,0,none⟩) n cap,.int .i64 1] w fun e w'=>e = .returned (.int .i64 (1+3 * (n:Int)))∧Below w.heap.size w w':=by
 have HR:=(show Hid (w.rowIs g 57 (cap * 3) (mkD n f)) from hrow)
 clear hrow
 unfold maxLen at hcap
 have hgz:g<w.heap.size:=HR.out.lt
 go_enter Tryz.func13,Tryz.ntmps13
 go_wp2_with fail
 go_loopw [1,5] (fun j1 j5 wr=>∃ m:Nat,m≤n∧j5 = .int .i64 (m:Int)∧j1 = .int .i64 (1+3 * (m:Int))∧Below w.heap.size w wr) (fun _ j5 _=>n - (intOf j5).toNat)
 case atStart=>exact⟨0,Nat.zero_le _,rfl,by simp,Below.refl _ _⟩
 case round =>
  obtain ⟨m,hm,rfl,rfl,hbel⟩:=hrel
  have HB:Hid (Below w.heap.size w wr):=hbel
  clear hbel
  by_cases hlt:m<n
  ·obtain ⟨z,hz⟩:∃ z:Int,1+3 * (m:Int)=z:=⟨_,rfl⟩
   rw [hz]
   obtain ⟨y0,hy0⟩:∃ y,mkT (1+3 * m)=y:=⟨_,rfl⟩
   obtain ⟨y1,hy1⟩:∃ y,mkT (2+3 * m)=y:=⟨_,rfl⟩
   have HM0:Hid (∀ w:World,Calls Tryz.prog 26 #[.int .i64 z] w fun e w'=>e = .returned (.string y0)∧Below w.heap.size w w'):=fun w=>by
    have:=lawMark (1+3 * m) w (by omega) (by omega)
    rw [hy0,show ((1+3 * m:Nat):Int)=z by omega] at this
    exact this
   have HM1:Hid (∀ w:World,Calls Tryz.prog 26 #[.int .i64 (z+1)] w fun e w'=>e = .returned (.string y1)∧Below w.heap.size w w'):=fun w=>by
    have:=lawMark (2+3 * m) w (by omega) (by omega)
    rw [hy1,show ((2+3 * m:Nat):Int)=z+1 by omega] at this
    exact this
   have e3:(z+1+1).tmod 3=0:=by rw [Int.tmod_eq_emod_of_nonneg (by omega)];omega
   have hz1:1≤z∧z≤4000:=by omega
   have HE4:Hid (z+1+1+1=1+3 * ((m:Int)+1)):=by show _=_;omega
   obtain ⟨q0,q1,q2⟩:=mkD_at (f:=f) hlt
   have HC:Hid (∀ w',Below wr.heap.size wr w'→w'.cell? ⟨g,m * 3,none⟩=some (.string y0)∧w'.cell? ⟨g,m * 3+1,none⟩=some (.string y1)∧w'.cell? ⟨g,m * 3+2,none⟩=some (.bool true)):=fun w' hb=>by
    have hr:=(HR.out.of_block (HB.out.block g hgz)).of_block (hb.block g (Nat.lt_of_lt_of_le hgz HB.out.size))
    rw [hr.cell (i:=m * 3) (by omega),hr.cell (i:=m * 3+1) (by omega),hr.cell (i:=m * 3+2) (by omega),q0,q1,q2,hy0,hy1]
    exact⟨rfl,rfl,rfl⟩
   have d0:(y0.toList == y0.toList)=true:=by simp
   have d1:(y1.toList == y1.toList)=true:=by simp
   clear hz hy0 hy1 q0 q1 q2
   obtain ⟨c0,c1,c2⟩:=HC.out wr (Below.refl _ _)
   go_wp2_with fail
   go_region_with (go_at_call 26;refine (HM0.out _).mono ?_;rintro e w1 ⟨rfl,hb1⟩;obtain ⟨a0,a1,a2⟩:=HC.out w1 ((Below.refl _ _).drew.trans hb1);have HB1:Hid (Below wr.heap.size wr w1):=((Below.refl _ _).drew.trans hb1);clear hb1)
   all_goals
    clear c0 c1 c2
    go_wp2_with fail
    go_region_with (go_at_call 26;refine (HM1.out _).mono ?_;rintro e w2 ⟨rfl,hb2⟩;obtain ⟨b0,b1,b2⟩:=HC.out w2 (HB1.out.trans (((Below.refl _ _).drew.trans hb2).mono HB1.out.size));have HB2:Hid (Below w.heap.size w w2):=HB.out.trans ((HB1.out.trans (((Below.refl _ _).drew.trans hb2).mono HB1.out.size)).mono HB.out.size);clear hb2)
   all_goals
    clear a0 a1 a2
    go_wp2
    go_roundw
    case rel=>exact⟨m+1,by omega,by go_num,by rw [HE4.out];congr 1,HB2.out⟩
    case measure=>simp [intOf];omega
  ·obtain rfl:m=n:=by omega
   go_wp2
   go_ret
   exact⟨rfl,HB.out⟩
theorem lawMarkFd0 (a:Option Addr) (cap:Nat) (w:World) :
  Calls Tryz.prog 12 #[.slice a 0 cap,.int .i64 1] w fun e w'=>e = .returned (.int .i64 1)∧w'=w:=by
 go_enter Tryz.func12,Tryz.ntmps12
 go_wp2_with fail
 go_loop [1,5] (fun j1 j5=>j1 = .int .i64 1∧j5 = .int .i64 0) (fun _ _=>0)
 case atStart=>exact⟨rfl,rfl⟩
 case round =>
  obtain ⟨rfl,rfl⟩:=hrel
  go_wp2
  go_ret
  exact⟨rfl,rfl⟩
theorem lawHeldFd0 (a:Option Addr) (cap:Nat) (w:World) :
  Calls Tryz.prog 13 #[.slice a 0 cap,.int .i64 1] w fun e w'=>e = .returned (.int .i64 1)∧w'=w:=by
 go_enter Tryz.func13,Tryz.ntmps13
 go_wp2_with fail
 go_loop [1,5] (fun j1 j5=>j1 = .int .i64 1∧j5 = .int .i64 0) (fun _ _=>0)
 case atStart=>exact⟨rfl,rfl⟩
 case round =>
  obtain ⟨rfl,rfl⟩:=hrel
  go_wp2
  go_ret
  exact⟨rfl,rfl⟩
def MarkedF (w w':World) (a:Option Addr) (n:Nat):Prop:=(n=0∧w'=w) ∨ ∃ g,a=some ⟨g,0,none⟩∧But g w w'
theorem lawMarkFd (a:Option Addr) (n cap:Nat) (f:Nat→Value) (w:World) (h:RowF w a n cap f) (h2:n≤1000) :
  Calls Tryz.prog 12 #[.slice a n cap,.int .i64 1] w fun e w'=>e = .returned (.int .i64 (1+3 * (n:Int)))∧MarkedF w w' a n∧RowF w' a n cap (mkD n f):=by
 rcases h with rfl | ⟨g,rfl,hrow,hn,hcap⟩
 ·refine (lawMarkFd0 a cap w).mono ?_
  rintro e w' ⟨rfl,rfl⟩
  exact⟨by simp,.inl ⟨rfl,rfl⟩,.inl rfl⟩
 ·refine (lawMarkFdS g n cap f w hrow hn hcap h2).mono ?_
  rintro e w' ⟨rfl,hb,hr⟩
  exact⟨rfl,.inr ⟨g,rfl,hb⟩,.inr ⟨g,rfl,hr,hn,hcap⟩⟩
theorem lawHeldFd (a:Option Addr) (n cap:Nat) (f:Nat→Value) (w:World) (h:RowF w a n cap (mkD n f)) (h2:n≤1000) :
  Calls Tryz.prog 13 #[.slice a n cap,.int .i64 1] w fun e w'=>e = .returned (.int .i64 (1+3 * (n:Int)))∧Below w.heap.size w w':=by
 rcases h with rfl | ⟨g,rfl,hrow,hn,hcap⟩
 ·refine (lawHeldFd0 a cap w).mono ?_
  rintro e w' ⟨rfl,rfl⟩
  exact⟨by simp,Below.refl _ _⟩
 ·exact lawHeldFdS g n cap f w hrow hn hcap h2
end Go.Proofs.YtgohomcodjnfiaaGreatDoor
