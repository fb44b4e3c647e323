import Derived.Test.YtmhgaggpdggbeaaGreatDoorMOpn
import Derived.OwnWalk
namespace Go.Proofs.YtmhgaggpdggbeaaGreatDoor
open Go.RowKit
set_option maxRecDepth 20000
set_option linter.unusedVariables false

def Agree (base:Nat) (w w':World):Prop:=∀ k,base≤k→k<w.heap.size→w'.heap[k]?=w.heap[k]?
theorem Agree.refl (base:Nat) (w:World):Agree base w w:=fun _ _ _=>rfl
theorem Agree.trans {base:Nat} {a b c:World} (h:Agree base a b) (hs:a.heap.size≤b.heap.size) (k:Agree base b c):Agree base a c:=fun i hi hl=>(k i hi (Nat.lt_of_lt_of_le hl hs)).trans (h i hi hl)
theorem Agree.of_below {base:Nat} {w w':World} (h:Below w.heap.size w w'):Agree base w w':=fun k _ hl=>h.block k hl
theorem Agree.set {base:Nat} {w w':World} (h:Agree base w w') {p:Addr} (hp:p.block<base) (u:Value):Agree base w (w'.setCell p u):=fun k hk hl=>(Below.heap_setCell w' p u k (by omega)).trans (h k hk hl)
theorem Agree.cell {base:Nat} {w w':World} (h:Agree base w w') {p:Addr} {v:Value} (hp:base≤p.block) (hc:w.cell? p=some v):w'.cell? p=some v :=
 (World.cell?_of_block (w:=w) (h p.block hp (World.block_lt_of_cell? _ _ hc))).trans hc

def sliceF {α:Type} (R:Rep α) (F:Nat→World→List Value→α→Prop) (base:Nat) (w:World) (v:Value) (xs:List α):Prop :=
 ∃ bi cap,v = .slice (some ⟨bi,0,none⟩) xs.length cap∧base≤bi∧xs.length≤cap∧(cap≤maxLen∧bi<w.heap.size∧∀ j,w.frozen? ⟨bi,j,none⟩=false)∧∀ i (h:i<xs.length),∃ cs:List Value,cs.length=R.k∧(∀ j,j<R.k→w.cell? ⟨bi,i * R.k+j,none⟩=cs[j]?)∧F base w cs xs[i]

theorem sliceF_move {α:Type} {R:Rep α} {F:Nat→World→List Value→α→Prop} {base:Nat} {w w':World} (hF:∀ cs x,F base w cs x→F base w' cs x) (ha:Agree base w w') {v:Value} {xs:List α} (h:sliceF R F base w v xs) (hs:w.heap.size≤w'.heap.size):sliceF R F base w' v xs:=by
 obtain ⟨bi,cap,e,h1,h2,⟨h3,hlt,hfz⟩,h4⟩:=h
 refine ⟨bi,cap,e,h1,h2,⟨h3,Nat.lt_of_lt_of_le hlt hs,fun j=>(World.frozen?_of_block (ha bi h1 hlt)).trans (hfz j)⟩,fun i hi=>?_⟩
 obtain ⟨cs,hl,hc,hf⟩:=h4 i hi
 refine ⟨cs,hl,fun j hj=>?_,hF _ _ hf⟩
 have:=hc j hj
 rw [List.getElem?_eq_getElem (by omega)] at this ⊢
 exact ha.cell h1 this
theorem sliceF_base {α:Type} {R:Rep α} {F:Nat→World→List Value→α→Prop} {base base':Nat} {w:World} (hb:base'≤base) (hF:∀ cs x,F base w cs x→F base' w cs x) {v:Value} {xs:List α} (h:sliceF R F base w v xs):sliceF R F base' w v xs:=by
 obtain ⟨bi,cap,e,h1,h2,h3,h4⟩:=h
 exact⟨bi,cap,e,Nat.le_trans hb h1,h2,h3,fun i hi=>by obtain ⟨cs,hl,hc,hf⟩:=h4 i hi;exact⟨cs,hl,hc,hF _ _ hf⟩⟩
def flF {α:Type} (R:Rep α):Nat→World→List Value→α→Prop:=fun _ w cs x=>R.In w cs x
def methF (base:Nat) (w:World) (cs:List Value) (x:MTup):Prop :=
 ∃ vc vh,cs=[.string (mD x).name,.string (mD x).desc,.bool (mD x).static,.bool (mD x).abs,.bool (mD x).fin,.int .i64 (mD x).stack,.int .i64 (mD x).locals,vc,vh]∧(mD x).name.size≤maxLen∧(mD x).desc.size≤maxLen ∧
  (Lit.int .i64 (mD x).stack).wf=true∧(Lit.int .i64 (mD x).locals).wf=true∧sliceF insR (flF insR) base w vc (mD x).code∧sliceF handlerR (flF handlerR) base w vh (mD x).hands
theorem methR_mk {w:World} {x:MTup} {vc vh:Value} (s0:(mD x).name.size≤maxLen) (s1:(mD x).desc.size≤maxLen) (q5:(Lit.int .i64 (mD x).stack).wf=true) (q6:(Lit.int .i64 (mD x).locals).wf=true) (h7:insR.slice.In w [vc] (mD x).code) (h8:handlerR.slice.In w [vh] (mD x).hands) :
  methR.In w [.string (mD x).name,.string (mD x).desc,.bool (mD x).static,.bool (mD x).abs,.bool (mD x).fin,.int .i64 (mD x).stack,.int .i64 (mD x).locals,vc,vh] x:=by
 obtain ⟨x0,x1,x2,x3,x4,x5,x6,x7,x8⟩:=x
 exact⟨[_],_,rfl,⟨rfl,s0⟩,[_],_,rfl,⟨rfl,s1⟩,[_],_,rfl,rfl,[_],_,rfl,rfl,[_],_,rfl,rfl,[_],_,rfl,⟨rfl,q5⟩,[_],_,rfl,⟨rfl,q6⟩,[_],[_],rfl,h7,h8⟩
theorem methAt {w:World} {b o i:Nat} {x:MTup} (h:methR.At w ⟨b,o,none⟩ i x) :
  ∃ vc vh,w.cell? ⟨b,o+i * 9,none⟩=some (.string (mD x).name)∧w.cell? ⟨b,o+i * 9+1,none⟩=some (.string (mD x).desc)∧w.cell? ⟨b,o+i * 9+2,none⟩=some (.bool (mD x).static)∧w.cell? ⟨b,o+i * 9+3,none⟩=some (.bool (mD x).abs)∧w.cell? ⟨b,o+i * 9+4,none⟩=some (.bool (mD x).fin)∧w.cell? ⟨b,o+i * 9+5,none⟩=some (.int .i64 (mD x).stack)∧w.cell? ⟨b,o+i * 9+6,none⟩=some (.int .i64 (mD x).locals)∧w.cell? ⟨b,o+i * 9+7,none⟩=some vc∧w.cell? ⟨b,o+i * 9+8,none⟩=some vh ∧
   (mD x).name.size≤maxLen∧(mD x).desc.size≤maxLen∧(Lit.int .i64 (mD x).stack).wf=true∧(Lit.int .i64 (mD x).locals).wf=true∧insR.slice.In w [vc] (mD x).code∧handlerR.slice.In w [vh] (mD x).hands:=by
 obtain ⟨cs,hc,hin⟩:=h
 obtain ⟨vc,vh,rfl,s0,s1,q5,q6,h7,h8⟩:=methR_in hin
 have hk:methR.k=9:=rfl
 rw [hk] at hc
 have g0:=hc 0 (by omega)
 have g1:=hc 1 (by omega)
 have g2:=hc 2 (by omega)
 have g3:=hc 3 (by omega)
 have g4:=hc 4 (by omega)
 have g5:=hc 5 (by omega)
 have g6:=hc 6 (by omega)
 have g7:=hc 7 (by omega)
 have g8:=hc 8 (by omega)
 simp only [List.getElem?_cons_zero,List.getElem?_cons_succ,plain_add,← Nat.add_assoc,Nat.add_zero] at g0 g1 g2 g3 g4 g5 g6 g7 g8
 exact⟨vc,vh,g0,g1,g2,g3,g4,g5,g6,g7,g8,s0,s1,q5,q6,h7,h8⟩

structure mFill (w wr:World) (ds:List MTup) (m:Nat):Prop where
 below:Below w.heap.size w wr
 row:∃ f,wr.rowIs w.heap.size 55 (ds.length * 9) f∧∀ i (h:i<ds.length),i<m→∃ vc vh,f (i * 9+0) = .string (mD ds[i]).name∧f (i * 9+1) = .string (mD ds[i]).desc∧f (i * 9+2) = .bool (mD ds[i]).static∧f (i * 9+3) = .bool (mD ds[i]).abs∧f (i * 9+4) = .bool (mD ds[i]).fin∧f (i * 9+5) = .int .i64 (mD ds[i]).stack∧f (i * 9+6) = .int .i64 (mD ds[i]).locals∧f (i * 9+7)=vc∧f (i * 9+8)=vh∧sliceF insR (flF insR) (w.heap.size+1) wr vc (mD ds[i]).code∧sliceF handlerR (flF handlerR) (w.heap.size+1) wr vh (mD ds[i]).hands

theorem mFill.step {w wr w1:World} {ds:List MTup} {m:Nat} (h:mFill w wr ds m) (hm:m<ds.length) (hb:Below wr.heap.size wr w1) {uc uh:Value} (hc:sliceF insR (flF insR) wr.heap.size w1 uc (mD ds[m]).code) (hh:sliceF handlerR (flF handlerR) wr.heap.size w1 uh (mD ds[m]).hands) :
  mFill w (((((((((w1.setCell ⟨w.heap.size,m * 9,none⟩ (.string (mD ds[m]).name)).setCell ⟨w.heap.size,m * 9+1,none⟩ (.string (mD ds[m]).desc)).setCell ⟨w.heap.size,m * 9+2,none⟩ (.bool (mD ds[m]).static)).setCell ⟨w.heap.size,m * 9+3,none⟩ (.bool (mD ds[m]).abs)).setCell ⟨w.heap.size,m * 9+4,none⟩ (.bool (mD ds[m]).fin)).setCell ⟨w.heap.size,m * 9+5,none⟩ (.int .i64 (mD ds[m]).stack)).setCell ⟨w.heap.size,m * 9+6,none⟩ (.int .i64 (mD ds[m]).locals)).setCell ⟨w.heap.size,m * 9+7,none⟩ uc).setCell ⟨w.heap.size,m * 9+8,none⟩ uh) ds (m+1):=by
 obtain ⟨f,hrow,hf⟩:=h.row
 have hr1:=hrow.of_block (hb.block _ hrow.lt)
 have hlt:w.heap.size<wr.heap.size:=hrow.lt
 have ha:Agree (w.heap.size+1) w1 (((((((((w1.setCell ⟨w.heap.size,m * 9,none⟩ (.string (mD ds[m]).name)).setCell ⟨w.heap.size,m * 9+1,none⟩ (.string (mD ds[m]).desc)).setCell ⟨w.heap.size,m * 9+2,none⟩ (.bool (mD ds[m]).static)).setCell ⟨w.heap.size,m * 9+3,none⟩ (.bool (mD ds[m]).abs)).setCell ⟨w.heap.size,m * 9+4,none⟩ (.bool (mD ds[m]).fin)).setCell ⟨w.heap.size,m * 9+5,none⟩ (.int .i64 (mD ds[m]).stack)).setCell ⟨w.heap.size,m * 9+6,none⟩ (.int .i64 (mD ds[m]).locals)).setCell ⟨w.heap.size,m * 9+7,none⟩ uc).setCell ⟨w.heap.size,m * 9+8,none⟩ uh):=(((((((((Agree.refl _ _).set (by show w.heap.size<w.heap.size+1;omega) _).set (by show w.heap.size<w.heap.size+1;omega) _).set (by show w.heap.size<w.heap.size+1;omega) _).set (by show w.heap.size<w.heap.size+1;omega) _).set (by show w.heap.size<w.heap.size+1;omega) _).set (by show w.heap.size<w.heap.size+1;omega) _).set (by show w.heap.size<w.heap.size+1;omega) _).set (by show w.heap.size<w.heap.size+1;omega) _).set (by show w.heap.size<w.heap.size+1;omega) _
 have hsz:w1.heap.size≤(((((((((w1.setCell ⟨w.heap.size,m * 9,none⟩ (.string (mD ds[m]).name)).setCell ⟨w.heap.size,m * 9+1,none⟩ (.string (mD ds[m]).desc)).setCell ⟨w.heap.size,m * 9+2,none⟩ (.bool (mD ds[m]).static)).setCell ⟨w.heap.size,m * 9+3,none⟩ (.bool (mD ds[m]).abs)).setCell ⟨w.heap.size,m * 9+4,none⟩ (.bool (mD ds[m]).fin)).setCell ⟨w.heap.size,m * 9+5,none⟩ (.int .i64 (mD ds[m]).stack)).setCell ⟨w.heap.size,m * 9+6,none⟩ (.int .i64 (mD ds[m]).locals)).setCell ⟨w.heap.size,m * 9+7,none⟩ uc).setCell ⟨w.heap.size,m * 9+8,none⟩ uh).heap.size:=by simp
 refine ⟨(((((((((h.below.trans (hb.mono h.below.size)).setCell (Nat.le_refl _) _).setCell (Nat.le_refl _) _).setCell (Nat.le_refl _) _).setCell (Nat.le_refl _) _).setCell (Nat.le_refl _) _).setCell (Nat.le_refl _) _).setCell (Nat.le_refl _) _).setCell (Nat.le_refl _) _).setCell (Nat.le_refl _) _,?_⟩
 refine ⟨_,(((((((((hr1).set _ _).set _ _).set _ _).set _ _).set _ _).set _ _).set _ _).set _ _).set _ _,fun i hi him=>?_⟩
 by_cases e:i=m
 ·subst e
  refine ⟨uc,uh,?_,?_,?_,?_,?_,?_,?_,?_,?_,sliceF_move (fun _ _ h=>ins_flat _ _ _ _ h) ha (sliceF_base (base:=wr.heap.size) (base':=w.heap.size+1) (by omega) (fun _ _ h=>h) hc) hsz,sliceF_move (fun _ _ h=>handler_flat _ _ _ _ h) ha (sliceF_base (base:=wr.heap.size) (base':=w.heap.size+1) (by omega) (fun _ _ h=>h) hh) hsz⟩<;>simp
 ·obtain ⟨vc,vh,p0,p1,p2,p3,p4,p5,p6,p7,p8,p9,p10⟩:=hf i hi (by omega)
  have n0_0:¬ (i * 9+0=m * 9):=by omega
  have n0_1:¬ (i * 9+0=m * 9+1):=by omega
  have n0_2:¬ (i * 9+0=m * 9+2):=by omega
  have n0_3:¬ (i * 9+0=m * 9+3):=by omega
  have n0_4:¬ (i * 9+0=m * 9+4):=by omega
  have n0_5:¬ (i * 9+0=m * 9+5):=by omega
  have n0_6:¬ (i * 9+0=m * 9+6):=by omega
  have n0_7:¬ (i * 9+0=m * 9+7):=by omega
  have n0_8:¬ (i * 9+0=m * 9+8):=by omega
  have n1_0:¬ (i * 9+1=m * 9):=by omega
  have n1_1:¬ (i * 9+1=m * 9+1):=by omega
  have n1_2:¬ (i * 9+1=m * 9+2):=by omega
  have n1_3:¬ (i * 9+1=m * 9+3):=by omega
  have n1_4:¬ (i * 9+1=m * 9+4):=by omega
  have n1_5:¬ (i * 9+1=m * 9+5):=by omega
  have n1_6:¬ (i * 9+1=m * 9+6):=by omega
  have n1_7:¬ (i * 9+1=m * 9+7):=by omega
  have n1_8:¬ (i * 9+1=m * 9+8):=by omega
  have n2_0:¬ (i * 9+2=m * 9):=by omega
  have n2_1:¬ (i * 9+2=m * 9+1):=by omega
  have n2_2:¬ (i * 9+2=m * 9+2):=by omega
  have n2_3:¬ (i * 9+2=m * 9+3):=by omega
  have n2_4:¬ (i * 9+2=m * 9+4):=by omega
  have n2_5:¬ (i * 9+2=m * 9+5):=by omega
  have n2_6:¬ (i * 9+2=m * 9+6):=by omega
  have n2_7:¬ (i * 9+2=m * 9+7):=by omega
  have n2_8:¬ (i * 9+2=m * 9+8):=by omega
  have n3_0:¬ (i * 9+3=m * 9):=by omega
  have n3_1:¬ (i * 9+3=m * 9+1):=by omega
  have n3_2:¬ (i * 9+3=m * 9+2):=by omega
  have n3_3:¬ (i * 9+3=m * 9+3):=by omega
  have n3_4:¬ (i * 9+3=m * 9+4):=by omega
  have n3_5:¬ (i * 9+3=m * 9+5):=by omega
  have n3_6:¬ (i * 9+3=m * 9+6):=by omega
  have n3_7:¬ (i * 9+3=m * 9+7):=by omega
  have n3_8:¬ (i * 9+3=m * 9+8):=by omega
  have n4_0:¬ (i * 9+4=m * 9):=by omega
  have n4_1:¬ (i * 9+4=m * 9+1):=by omega
  have n4_2:¬ (i * 9+4=m * 9+2):=by omega
  have n4_3:¬ (i * 9+4=m * 9+3):=by omega
  have n4_4:¬ (i * 9+4=m * 9+4):=by omega
  have n4_5:¬ (i * 9+4=m * 9+5):=by omega
  have n4_6:¬ (i * 9+4=m * 9+6):=by omega
  have n4_7:¬ (i * 9+4=m * 9+7):=by omega
  have n4_8:¬ (i * 9+4=m * 9+8):=by omega
  have n5_0:¬ (i * 9+5=m * 9):=by omega
  have n5_1:¬ (i * 9+5=m * 9+1):=by omega
  have n5_2:¬ (i * 9+5=m * 9+2):=by omega
  have n5_3:¬ (i * 9+5=m * 9+3):=by omega
  have n5_4:¬ (i * 9+5=m * 9+4):=by omega
  have n5_5:¬ (i * 9+5=m * 9+5):=by omega
  have n5_6:¬ (i * 9+5=m * 9+6):=by omega
  have n5_7:¬ (i * 9+5=m * 9+7):=by omega
  have n5_8:¬ (i * 9+5=m * 9+8):=by omega
  have n6_0:¬ (i * 9+6=m * 9):=by omega
  have n6_1:¬ (i * 9+6=m * 9+1):=by omega
  have n6_2:¬ (i * 9+6=m * 9+2):=by omega
  have n6_3:¬ (i * 9+6=m * 9+3):=by omega
  have n6_4:¬ (i * 9+6=m * 9+4):=by omega
  have n6_5:¬ (i * 9+6=m * 9+5):=by omega
  have n6_6:¬ (i * 9+6=m * 9+6):=by omega
  have n6_7:¬ (i * 9+6=m * 9+7):=by omega
  have n6_8:¬ (i * 9+6=m * 9+8):=by omega
  have n7_0:¬ (i * 9+7=m * 9):=by omega
  have n7_1:¬ (i * 9+7=m * 9+1):=by omega
  have n7_2:¬ (i * 9+7=m * 9+2):=by omega
  have n7_3:¬ (i * 9+7=m * 9+3):=by omega
  have n7_4:¬ (i * 9+7=m * 9+4):=by omega
  have n7_5:¬ (i * 9+7=m * 9+5):=by omega
  have n7_6:¬ (i * 9+7=m * 9+6):=by omega
  have n7_7:¬ (i * 9+7=m * 9+7):=by omega
  have n7_8:¬ (i * 9+7=m * 9+8):=by omega
  have n8_0:¬ (i * 9+8=m * 9):=by omega
  have n8_1:¬ (i * 9+8=m * 9+1):=by omega
  have n8_2:¬ (i * 9+8=m * 9+2):=by omega
  have n8_3:¬ (i * 9+8=m * 9+3):=by omega
  have n8_4:¬ (i * 9+8=m * 9+4):=by omega
  have n8_5:¬ (i * 9+8=m * 9+5):=by omega
  have n8_6:¬ (i * 9+8=m * 9+6):=by omega
  have n8_7:¬ (i * 9+8=m * 9+7):=by omega
  have n8_8:¬ (i * 9+8=m * 9+8):=by omega
  refine ⟨vc,vh,?_,?_,?_,?_,?_,?_,?_,?_,?_,sliceF_move (fun _ _ h=>ins_flat _ _ _ _ h) ha (sliceF_move (fun _ _ h=>ins_flat _ _ _ _ h) (Agree.of_below hb) p9 hb.size) hsz,sliceF_move (fun _ _ h=>handler_flat _ _ _ _ h) ha (sliceF_move (fun _ _ h=>handler_flat _ _ _ _ h) (Agree.of_below hb) p10 hb.size) hsz⟩
  ·simp only [n0_0,n0_1,n0_2,n0_3,n0_4,n0_5,n0_6,n0_7,n0_8,if_false];exact p0
  ·simp only [n1_0,n1_1,n1_2,n1_3,n1_4,n1_5,n1_6,n1_7,n1_8,if_false];exact p1
  ·simp only [n2_0,n2_1,n2_2,n2_3,n2_4,n2_5,n2_6,n2_7,n2_8,if_false];exact p2
  ·simp only [n3_0,n3_1,n3_2,n3_3,n3_4,n3_5,n3_6,n3_7,n3_8,if_false];exact p3
  ·simp only [n4_0,n4_1,n4_2,n4_3,n4_4,n4_5,n4_6,n4_7,n4_8,if_false];exact p4
  ·simp only [n5_0,n5_1,n5_2,n5_3,n5_4,n5_5,n5_6,n5_7,n5_8,if_false];exact p5
  ·simp only [n6_0,n6_1,n6_2,n6_3,n6_4,n6_5,n6_6,n6_7,n6_8,if_false];exact p6
  ·simp only [n7_0,n7_1,n7_2,n7_3,n7_4,n7_5,n7_6,n7_7,n7_8,if_false];exact p7
  ·simp only [n8_0,n8_1,n8_2,n8_3,n8_4,n8_5,n8_6,n8_7,n8_8,if_false];exact p8

theorem mFill.start {w w1:World} {ds:List MTup} {zs:List Value} (hown:w1.ownsRow w.heap.size 55 9 (.slice (some ⟨w.heap.size,0,none⟩) ds.length ds.length) ds.length zs) (hgrow:w.grownBy w1 none):mFill w w1 ds 0:=by
 refine ⟨(Below.refl _ _).grown hgrow (Nat.le_refl _) (fun k hk=>by cases hk),?_⟩
 rcases hown.2 with ⟨h1,_⟩ | ⟨g,cap,cur,e,_,hb,_,_,hsz,_⟩
 ·cases h1
 ·cases e
  exact⟨fun i=>cur.getD i undef,⟨cur,hb,hsz,fun i hi=>by
   have hc:i<cur.size:=by omega
   rw [Array.getElem?_eq_getElem hc]
   simp [Array.getD,hc]⟩,fun i _ h=>by omega⟩
theorem mFill.done {w wr:World} {ds:List MTup} {v:Value} (h:mFill w wr ds ds.length) (hin:methR.slice.In w [v] ds) (hl:ds.length≤1048576):sliceF methR methF w.heap.size wr (.slice (some ⟨w.heap.size,0,none⟩) ds.length ds.length) ds:=by
 obtain ⟨f,hrow,hf⟩:=h.row
 obtain ⟨a,cap,_,_,_,hat⟩:=slice_open (by decide) hin
 refine ⟨w.heap.size,ds.length,rfl,Nat.le_refl _,Nat.le_refl _,⟨by unfold maxLen;omega,hrow.lt,fun j=>hrow.frozen j⟩,fun i hi=>?_⟩
 obtain ⟨vc,vh,p0,p1,p2,p3,p4,p5,p6,p7,p8,p9,p10⟩:=hf i hi hi
 obtain ⟨b,o,_,hx⟩:=hat i hi
 obtain ⟨_,_,_,_,_,_,_,_,_,_,_,s0,s1,q5,q6,_,_⟩:=methAt hx
 refine ⟨_,?_,fun j hj=>?_,vc,vh,rfl,s0,s1,q5,q6,sliceF_base (base:=w.heap.size+1) (base':=w.heap.size) (by omega) (fun _ _ h=>h) p9,sliceF_base (base:=w.heap.size+1) (base':=w.heap.size) (by omega) (fun _ _ h=>h) p10⟩
 ·rfl
 ·have hj:j<9:=hj
  have hk:methR.k=9:=rfl
  rw [hk,hrow.cell (i:=i * 9+j) (by omega)]
  match j,hj with
  | 0,_=>rw [p0];rfl
  | 1,_=>rw [p1];rfl
  | 2,_=>rw [p2];rfl
  | 3,_=>rw [p3];rfl
  | 4,_=>rw [p4];rfl
  | 5,_=>rw [p5];rfl
  | 6,_=>rw [p6];rfl
  | 7,_=>rw [p7];rfl
  | 8,_=>rw [p8];rfl

end Go.Proofs.YtmhgaggpdggbeaaGreatDoor

namespace Go.Proofs.YtmhgaggpdggbeaaGreatDoor
open Go.RowKit
set_option linter.unusedVariables false

structure ClsD where
 name:ByteArray
 super:ByteArray
 fin:Bool
 abs:Bool
 fields:List FieldD
 meths:List MTup

def clsV (m:ClsD) (vc vh:Value):Value:=.agg #[.string m.name,.string m.super,.bool m.fin,.bool m.abs,vc,vh]
abbrev CTup:=ByteArray × ByteArray × Bool × Bool × List FieldD × List MTup
def classR:Rep CTup:=Rep.str.pair (Rep.str.pair (Rep.bool.pair (Rep.bool.pair (fieldR.slice.pair methR.slice))))
def cD (x:CTup):ClsD:=⟨x.1,x.2.1,x.2.2.1,x.2.2.2.1,x.2.2.2.2.1,x.2.2.2.2.2⟩
theorem classR_in {w:World} {cs:List Value} {x:CTup} (h:classR.In w cs x) :
  ∃ vc vh,cs=[.string (cD x).name,.string (cD x).super,.bool (cD x).fin,.bool (cD x).abs,vc,vh]∧(cD x).name.size≤maxLen∧(cD x).super.size≤maxLen∧fieldR.slice.In w [vc] (cD x).fields∧methR.slice.In w [vh] (cD x).meths:=by
 obtain ⟨x0,x1,x2,x3,x4,x5⟩:=x
 obtain ⟨_,_,rfl,⟨rfl,s0⟩,⟨_,_,rfl,⟨rfl,s1⟩,⟨_,_,rfl,h2,⟨_,_,rfl,h3,⟨c7,c8,rfl,h7,h8⟩⟩⟩⟩⟩:=h
 have e7:∃ v,c7=[v]:=by obtain ⟨a,cap,e,_⟩:=h7;exact⟨_,e⟩
 have e8:∃ v,c8=[v]:=by obtain ⟨a,cap,e,_⟩:=h8;exact⟨_,e⟩
 obtain ⟨vc,rfl⟩:=e7
 obtain ⟨vh,rfl⟩:=e8
 have h2':_=_:=h2
 have h3':_=_:=h3
 subst h2' h3'
 exact⟨vc,vh,rfl,s0,s1,h7,h8⟩

section
variable {H:Type} {enc:TypeId × Value→H} {base:Nat} {spare:Nat→Bool} {held:Bool}
theorem opensClass:Opens Tryz.prog enc base spare held classR 67 :=
 opens_struct6 (R0:=Rep.str) (R1:=Rep.str) (R2:=Rep.bool) (R3:=Rep.bool) (R4:=fieldR.slice) (R5:=methR.slice) Tryz.underlying67 ⟨rfl,rfl,rfl,rfl,rfl,rfl⟩
  ⟨by kernel_rfl,by kernel_rfl,by kernel_rfl,by kernel_rfl,by kernel_rfl,by kernel_rfl⟩ (by kernel_rfl)
  (opens_str Tryz.underlying9) (opens_str Tryz.underlying9) (opens_bool Tryz.underlying4) (opens_bool Tryz.underlying4)
  (opens_slice Tryz.underlying64 (by kernel_rfl) opensField) (opens_slice Tryz.underlying65 (by kernel_rfl) opensMethod)
end
end Go.Proofs.YtmhgaggpdggbeaaGreatDoor
