import Derived.Test.YtmhgaggpdggbeaaGreatDoorMOpn
import Derived.OwnWalk
namespace Go.Proofs.YtmhgaggpdggbeaaGreatDoor
open Go.RowKit
set_option maxRecDepth 20000
set_option linter.unusedVariables false

def Agree (base:Nat) (w w':World):Prop:=∀ k,base≤k→k<w.heap.size→w'.heap[k]?=w.heap[k]?
theorem Agree.refl (base:Nat) (w:World):Agree base w w:=fun _ _ _=>rfl
theorem Agree.trans {base:Nat} {a b c:World} (h:Agree base a b) (hs:a.heap.size≤b.heap.size) (k:Agree base b c):Agree base a c:=fun i hi hl=>(k i hi (Nat.lt_of_lt_of_le hl hs)).trans (h i hi hl)
theorem Agree.of_below {base:Nat} {w w':World} (h:Below w.heap.size w w'):Agree base w w':=fun k _ hl=>h.block k hl
theorem Agree.set {base:Nat} {w w':World} (h:Agree base w w') {p:Addr} (hp:p.block<base) (u:Value):Agree base w (w'.setCell p u):=fun k hk hl=>(Below.heap_setCell w' p u k (by omega)).trans (h k hk hl)
theorem Agree.cell {base:Nat} {w w':World} (h:Agree base w w') {p:Addr} {v:Value} (hp:base≤p.block) (hc:w.cell? p=some v):w'.cell? p=some v :=
 (World.cell?_of_block (w:=w) (h p.block hp (World.block_lt_of_cell? _ _ hc))).trans hc

def sliceF {α:Type} (R:Rep α) (F:Nat→World→List Value→α→Prop) (base:Nat) (w:World) (v:Value) (xs:List α):Prop :=
 ∃ bi cap,v = .slice (some ⟨bi,0,none⟩) xs.length cap∧base≤bi∧xs.length≤cap∧(cap≤maxLen∧bi<w.heap.size∧∀ j,w.frozen? ⟨bi,j,none⟩=false)∧∀ i (h:i<xs.length),∃ cs:List Value,cs.length=R.k∧(∀ j,j<R.k→w.cell? ⟨bi,i * R.k+j,none⟩=cs[j]?)∧F base w cs xs[i]

theorem sliceF_move {α:Type} {R:Rep α} {F:Nat→World→List Value→α→Prop} {base:Nat} {w w':World} (hF:∀ cs x,F base w cs x→F base w' cs x) (ha:Agree base w w') {v:Value} {xs:List α} (h:sliceF R F base w v xs) (hs:w.heap.size≤w'.heap.size):sliceF R F base w' v xs:=by
 obtain ⟨bi,cap,e,h1,h2,⟨h3,hlt,hfz⟩,h4⟩:=h
 refine ⟨bi,cap,e,h1,h2,⟨h3,Nat.lt_of_lt_of_le hlt hs,fun j=>(World.frozen?_of_block (ha bi h1 hlt)).trans (hfz j)⟩,fun i hi=>?_⟩
 obtain ⟨cs,hl,hc,hf⟩:=h4 i hi
 refine ⟨cs,hl,fun j hj=>?_,hF _ _ hf⟩
 have:=hc j hj
 rw [List.getElem?_eq_getElem (by omega)] at this ⊢
 exact ha.cell h1 this
theorem sliceF_base {α:Type} {R:Rep α} {F:Nat→World→List Value→α→Prop} {base base':Nat} {w:World} (hb:base'≤base) (hF:∀ cs x,F base w cs x→F base' w cs x) {v:Value} {xs:List α} (h:sliceF R F base w v xs):sliceF R F base' w v xs:=by
 obtain ⟨bi,cap,e,h1,h2,h3,h4⟩:=h
 exact⟨bi,cap,e,Nat.le_trans hb h1,h2,h3,fun i hi=>by obtain ⟨cs,hl,hc,hf⟩:=h4 i hi;exact⟨cs,hl,hc,hF _ _ hf⟩⟩
theorem sliceF_in {α:Type} {R:Rep α} {F:Nat→World→List Value→α→Prop} {base:Nat} {w:World} (hF:∀ cs x,F base w cs x→R.In w cs x) {v:Value} {xs:List α} (h:sliceF R F base w v xs):R.slice.In w [v] xs:=by
 obtain ⟨bi,cap,rfl,h1,h2,⟨h3,_⟩,h4⟩:=h
 refine ⟨some ⟨bi,0,none⟩,cap,rfl,h2,h3,fun i hi=>⟨_,rfl,?_⟩⟩
 obtain ⟨cs,hl,hc,hf⟩:=h4 i hi
 exact⟨cs,fun j hj=>by rw [plain_add,Nat.zero_add];exact hc j hj,hF _ _ hf⟩

def flF {α:Type} (R:Rep α):Nat→World→List Value→α→Prop:=fun _ w cs x=>R.In w cs x
theorem flat_sliceF {α:Type} {R:Rep α} {base b n cap:Nat} {w:World} {xs:List α} (hb:base≤b) (h:R.slice.In w [.slice (some ⟨b,0,none⟩) n cap] xs) (hlt:b<w.heap.size) (hfz:∀ j,w.frozen? ⟨b,j,none⟩=false):sliceF R (flF R) base w (.slice (some ⟨b,0,none⟩) n cap) xs:=by
 obtain ⟨a,cp,e,h1,h2,h3⟩:=h
 simp only [List.cons.injEq,Value.slice.injEq,and_true] at e
 obtain ⟨rfl,rfl,rfl⟩:=e
 refine ⟨b,cap,rfl,hb,h1,⟨h2,hlt,hfz⟩,fun i hi=>?_⟩
 obtain ⟨x,ex,cs,hc,hin⟩:=h3 i hi
 cases ex
 exact⟨cs,R.len _ _ _ hin,fun j hj=>by have:=hc j hj;rwa [plain_add,Nat.zero_add] at this,hin⟩

def methF (base:Nat) (w:World) (cs:List Value) (x:MTup):Prop :=
 ∃ vc vh,cs=[.string (mD x).name,.string (mD x).desc,.bool (mD x).static,.bool (mD x).abs,.bool (mD x).fin,.int .i64 (mD x).stack,.int .i64 (mD x).locals,vc,vh]∧(mD x).name.size≤maxLen∧(mD x).desc.size≤maxLen ∧
  (Lit.int .i64 (mD x).stack).wf=true∧(Lit.int .i64 (mD x).locals).wf=true∧sliceF insR (flF insR) base w vc (mD x).code∧sliceF handlerR (flF handlerR) base w vh (mD x).hands
theorem methF_move {base:Nat} {w w':World} (ha:Agree base w w') (hs:w.heap.size≤w'.heap.size) (cs:List Value) (x:MTup) (h:methF base w cs x):methF base w' cs x:=by
 obtain ⟨vc,vh,e,h1,h2,h3,h4,h5,h6⟩:=h
 exact⟨vc,vh,e,h1,h2,h3,h4,sliceF_move (fun _ _ h=>ins_flat _ _ _ _ h) ha h5 hs,sliceF_move (fun _ _ h=>handler_flat _ _ _ _ h) ha h6 hs⟩
theorem methF_base {base base':Nat} {w:World} (hb:base'≤base) (cs:List Value) (x:MTup) (h:methF base w cs x):methF base' w cs x:=by
 obtain ⟨vc,vh,e,h1,h2,h3,h4,h5,h6⟩:=h
 exact⟨vc,vh,e,h1,h2,h3,h4,sliceF_base hb (fun _ _ h=>h) h5,sliceF_base hb (fun _ _ h=>h) h6⟩
theorem methR_mk {w:World} {x:MTup} {vc vh:Value} (s0:(mD x).name.size≤maxLen) (s1:(mD x).desc.size≤maxLen) (q5:(Lit.int .i64 (mD x).stack).wf=true) (q6:(Lit.int .i64 (mD x).locals).wf=true) (h7:insR.slice.In w [vc] (mD x).code) (h8:handlerR.slice.In w [vh] (mD x).hands) :
  methR.In w [.string (mD x).name,.string (mD x).desc,.bool (mD x).static,.bool (mD x).abs,.bool (mD x).fin,.int .i64 (mD x).stack,.int .i64 (mD x).locals,vc,vh] x:=by
 obtain ⟨x0,x1,x2,x3,x4,x5,x6,x7,x8⟩:=x
 exact⟨[_],_,rfl,⟨rfl,s0⟩,[_],_,rfl,⟨rfl,s1⟩,[_],_,rfl,rfl,[_],_,rfl,rfl,[_],_,rfl,rfl,[_],_,rfl,⟨rfl,q5⟩,[_],_,rfl,⟨rfl,q6⟩,[_],[_],rfl,h7,h8⟩
theorem methF_in {base:Nat} {w:World} (cs:List Value) (x:MTup) (h:methF base w cs x):methR.In w cs x:=by
 obtain ⟨vc,vh,rfl,h1,h2,h3,h4,h5,h6⟩:=h
 exact methR_mk h1 h2 h3 h4 (sliceF_in (fun _ _ h=>h) h5) (sliceF_in (fun _ _ h=>h) h6)

theorem methAt {w:World} {b o i:Nat} {x:MTup} (h:methR.At w ⟨b,o,none⟩ i x) :
  ∃ vc vh,w.cell? ⟨b,o+i * 9,none⟩=some (.string (mD x).name)∧w.cell? ⟨b,o+i * 9+1,none⟩=some (.string (mD x).desc)∧w.cell? ⟨b,o+i * 9+2,none⟩=some (.bool (mD x).static)∧w.cell? ⟨b,o+i * 9+3,none⟩=some (.bool (mD x).abs)∧w.cell? ⟨b,o+i * 9+4,none⟩=some (.bool (mD x).fin)∧w.cell? ⟨b,o+i * 9+5,none⟩=some (.int .i64 (mD x).stack)∧w.cell? ⟨b,o+i * 9+6,none⟩=some (.int .i64 (mD x).locals)∧w.cell? ⟨b,o+i * 9+7,none⟩=some vc∧w.cell? ⟨b,o+i * 9+8,none⟩=some vh ∧
   (mD x).name.size≤maxLen∧(mD x).desc.size≤maxLen∧(Lit.int .i64 (mD x).stack).wf=true∧(Lit.int .i64 (mD x).locals).wf=true∧insR.slice.In w [vc] (mD x).code∧handlerR.slice.In w [vh] (mD x).hands:=by
 obtain ⟨cs,hc,hin⟩:=h
 obtain ⟨vc,vh,rfl,s0,s1,q5,q6,h7,h8⟩:=methR_in hin
 have hk:methR.k=9:=rfl
 rw [hk] at hc
 have g0:=hc 0 (by omega)
 have g1:=hc 1 (by omega)
 have g2:=hc 2 (by omega)
 have g3:=hc 3 (by omega)
 have g4:=hc 4 (by omega)
 have g5:=hc 5 (by omega)
 have g6:=hc 6 (by omega)
 have g7:=hc 7 (by omega)
 have g8:=hc 8 (by omega)
 simp only [List.getElem?_cons_zero,List.getElem?_cons_succ,plain_add,← Nat.add_assoc,Nat.add_zero] at g0 g1 g2 g3 g4 g5 g6 g7 g8
 exact⟨vc,vh,g0,g1,g2,g3,g4,g5,g6,g7,g8,s0,s1,q5,q6,h7,h8⟩

set_option maxHeartbeats 4000000 in
theorem lawToMethodF (m:MethD) (vc vh:Value) (w:World) (hc:insR.slice.In w [vc] m.code) (hh:handlerR.slice.In w [vh] m.hands) (hl:m.code.length≤1048576) (hk:m.hands.length≤1048576) :
  Calls Tryz.prog 102 #[methV m vc vh] w fun e w'=>∃ uc uh,e = .returned (methV m uc uh)∧Below w.heap.size w w'∧sliceF insR (flF insR) w.heap.size w' uc m.code∧sliceF handlerR (flF handlerR) w.heap.size w' uh m.hands:=by
 obtain ⟨a,ca,rfl⟩:=slice_form hc
 obtain ⟨b,cb,rfl⟩:=slice_form hh
 obtain ⟨nm,ds,st,ab,fi,sk,lo,code,hands⟩:=m
 simp only at hc hh hl hk
 unfold methV
 simp only
 have HB0:Hid (∀ o1 o2 o3,Below w.heap.size w (((w.alloc o1).alloc o2).alloc o3)):=fun o1 o2 o3=>(((Below.refl _ _).alloc (Nat.le_refl _) o1).alloc (by simp) o2).alloc (by simp;omega) o3
 have HC:Hid (insR.slice.In w [.slice a code.length ca] code):=hc
 have HH:Hid (handlerR.slice.In w [.slice b hands.length cb] hands):=hh
 clear hc hh
 go_enter Tryz.func102,Tryz.ntmps102
 go_wp2_with fail
 refine (lawToInsS _ code _ (insR.slice.mono _ _ _ _ (HB0.out _ _ _) HC.out) hl).mono ?_
 rintro e w1 ⟨bi,hbi,rfl,hb1,hin1,hlt1,hfz1⟩
 have HB1:Hid (Below w.heap.size w w1):=(HB0.out _ _ _).trans (hb1.mono (by simp;omega))
 have hz1:w.heap.size+1+1<w1.heap.size:=by have:=hb1.size;simp at this;omega
 have hbi2:w.heap.size+1+1<bi:=by simp at hbi;omega
 have x8:w1.cell? ⟨w.heap.size,8,none⟩=some (.slice b hands.length cb):=(hb1.cell (p:=⟨w.heap.size,8,none⟩) (by simp;omega)).trans (by simp [go_sem])
 have r0:w1.cell? ⟨w.heap.size+1,0,none⟩=some (.string ⟨#[]⟩):=(hb1.cell (p:=⟨w.heap.size+1,0,none⟩) (by simp)).trans (by simp [go_sem])
 have r1:w1.cell? ⟨w.heap.size+1,1,none⟩=some (.string ⟨#[]⟩):=(hb1.cell (p:=⟨w.heap.size+1,1,none⟩) (by simp)).trans (by simp [go_sem])
 have r2:w1.cell? ⟨w.heap.size+1,2,none⟩=some (.bool false):=(hb1.cell (p:=⟨w.heap.size+1,2,none⟩) (by simp)).trans (by simp [go_sem])
 have r3:w1.cell? ⟨w.heap.size+1,3,none⟩=some (.bool false):=(hb1.cell (p:=⟨w.heap.size+1,3,none⟩) (by simp)).trans (by simp [go_sem])
 have r4:w1.cell? ⟨w.heap.size+1,4,none⟩=some (.bool false):=(hb1.cell (p:=⟨w.heap.size+1,4,none⟩) (by simp)).trans (by simp [go_sem])
 have r5:w1.cell? ⟨w.heap.size+1,5,none⟩=some (.int .i64 0):=(hb1.cell (p:=⟨w.heap.size+1,5,none⟩) (by simp)).trans (by simp [go_sem])
 have r6:w1.cell? ⟨w.heap.size+1,6,none⟩=some (.int .i64 0):=(hb1.cell (p:=⟨w.heap.size+1,6,none⟩) (by simp)).trans (by simp [go_sem])
 have r7:w1.cell? ⟨w.heap.size+1,7,none⟩=some (.slice none 0 0):=(hb1.cell (p:=⟨w.heap.size+1,7,none⟩) (by simp)).trans (by simp [go_sem])
 have r8:w1.cell? ⟨w.heap.size+1,8,none⟩=some (.slice none 0 0):=(hb1.cell (p:=⟨w.heap.size+1,8,none⟩) (by simp)).trans (by simp [go_sem])
 have o0:w1.cell? ⟨w.heap.size+1+1,0,none⟩=some (.string nm):=(hb1.cell (p:=⟨w.heap.size+1+1,0,none⟩) (by simp)).trans (by simp [go_sem])
 have o1:w1.cell? ⟨w.heap.size+1+1,1,none⟩=some (.string ds):=(hb1.cell (p:=⟨w.heap.size+1+1,1,none⟩) (by simp)).trans (by simp [go_sem])
 have o2:w1.cell? ⟨w.heap.size+1+1,2,none⟩=some (.bool st):=(hb1.cell (p:=⟨w.heap.size+1+1,2,none⟩) (by simp)).trans (by simp [go_sem])
 have o3:w1.cell? ⟨w.heap.size+1+1,3,none⟩=some (.bool ab):=(hb1.cell (p:=⟨w.heap.size+1+1,3,none⟩) (by simp)).trans (by simp [go_sem])
 have o4:w1.cell? ⟨w.heap.size+1+1,4,none⟩=some (.bool fi):=(hb1.cell (p:=⟨w.heap.size+1+1,4,none⟩) (by simp)).trans (by simp [go_sem])
 have o5:w1.cell? ⟨w.heap.size+1+1,5,none⟩=some (.int .i64 sk):=(hb1.cell (p:=⟨w.heap.size+1+1,5,none⟩) (by simp)).trans (by simp [go_sem])
 have o6:w1.cell? ⟨w.heap.size+1+1,6,none⟩=some (.int .i64 lo):=(hb1.cell (p:=⟨w.heap.size+1+1,6,none⟩) (by simp)).trans (by simp [go_sem])
 have o7:w1.cell? ⟨w.heap.size+1+1,7,none⟩=some (.slice none 0 0):=(hb1.cell (p:=⟨w.heap.size+1+1,7,none⟩) (by simp)).trans (by simp [go_sem])
 have o8:w1.cell? ⟨w.heap.size+1+1,8,none⟩=some (.slice none 0 0):=(hb1.cell (p:=⟨w.heap.size+1+1,8,none⟩) (by simp)).trans (by simp [go_sem])
 have fr:∀ j,w1.frozen? ⟨w.heap.size+1,j,none⟩=false:=fun j=>(hb1.frozen (p:=⟨w.heap.size+1,j,none⟩) (by simp)).trans (by simp [go_sem])
 have fo:∀ j,w1.frozen? ⟨w.heap.size+1+1,j,none⟩=false:=fun j=>(hb1.frozen (p:=⟨w.heap.size+1+1,j,none⟩) (by simp)).trans (by simp [go_sem])
 have HI1:Hid (sliceF insR (flF insR) (w.heap.size+3) w1 (.slice (some ⟨bi,0,none⟩) code.length code.length) code):=flat_sliceF (by omega) hin1 hlt1 hfz1
 clear hb1 hin1 hbi hlt1 hfz1
 go_wp2_with fail
 refine (lawToHandlerS _ hands _ (handlerR.slice.mono _ _ _ _ (HB1.out.setCell (by simp;omega) _) HH.out) hk).mono ?_
 rintro e w2 ⟨bh,hbh,rfl,hb2,hin2,hlt2,hfz2⟩
 have HB2:Hid (Below w.heap.size w w2):=(HB1.out.setCell (p:=⟨w.heap.size+1+1,7,none⟩) (by simp;omega) _).trans (hb2.mono (by simp;omega))
 have hz2:w.heap.size+1+1<w2.heap.size:=by have:=hb2.size;simp at this;omega
 have hbh2:w.heap.size+1+1<bh:=by simp at hbh;omega
 have t0:w2.cell? ⟨w.heap.size+1,0,none⟩=some (.string ⟨#[]⟩):=(hb2.cell (p:=⟨w.heap.size+1,0,none⟩) (by simp;omega)).trans (by simp [go_sem,r0])
 have t1:w2.cell? ⟨w.heap.size+1,1,none⟩=some (.string ⟨#[]⟩):=(hb2.cell (p:=⟨w.heap.size+1,1,none⟩) (by simp;omega)).trans (by simp [go_sem,r1])
 have t2:w2.cell? ⟨w.heap.size+1,2,none⟩=some (.bool false):=(hb2.cell (p:=⟨w.heap.size+1,2,none⟩) (by simp;omega)).trans (by simp [go_sem,r2])
 have t3:w2.cell? ⟨w.heap.size+1,3,none⟩=some (.bool false):=(hb2.cell (p:=⟨w.heap.size+1,3,none⟩) (by simp;omega)).trans (by simp [go_sem,r3])
 have t4:w2.cell? ⟨w.heap.size+1,4,none⟩=some (.bool false):=(hb2.cell (p:=⟨w.heap.size+1,4,none⟩) (by simp;omega)).trans (by simp [go_sem,r4])
 have t5:w2.cell? ⟨w.heap.size+1,5,none⟩=some (.int .i64 0):=(hb2.cell (p:=⟨w.heap.size+1,5,none⟩) (by simp;omega)).trans (by simp [go_sem,r5])
 have t6:w2.cell? ⟨w.heap.size+1,6,none⟩=some (.int .i64 0):=(hb2.cell (p:=⟨w.heap.size+1,6,none⟩) (by simp;omega)).trans (by simp [go_sem,r6])
 have t7:w2.cell? ⟨w.heap.size+1,7,none⟩=some (.slice none 0 0):=(hb2.cell (p:=⟨w.heap.size+1,7,none⟩) (by simp;omega)).trans (by simp [go_sem,r7])
 have t8:w2.cell? ⟨w.heap.size+1,8,none⟩=some (.slice none 0 0):=(hb2.cell (p:=⟨w.heap.size+1,8,none⟩) (by simp;omega)).trans (by simp [go_sem,r8])
 have q0:w2.cell? ⟨w.heap.size+1+1,0,none⟩=some (.string nm):=(hb2.cell (p:=⟨w.heap.size+1+1,0,none⟩) (by simp;omega)).trans (by simp [go_sem,o0])
 have q1:w2.cell? ⟨w.heap.size+1+1,1,none⟩=some (.string ds):=(hb2.cell (p:=⟨w.heap.size+1+1,1,none⟩) (by simp;omega)).trans (by simp [go_sem,o1])
 have q2:w2.cell? ⟨w.heap.size+1+1,2,none⟩=some (.bool st):=(hb2.cell (p:=⟨w.heap.size+1+1,2,none⟩) (by simp;omega)).trans (by simp [go_sem,o2])
 have q3:w2.cell? ⟨w.heap.size+1+1,3,none⟩=some (.bool ab):=(hb2.cell (p:=⟨w.heap.size+1+1,3,none⟩) (by simp;omega)).trans (by simp [go_sem,o3])
 have q4:w2.cell? ⟨w.heap.size+1+1,4,none⟩=some (.bool fi):=(hb2.cell (p:=⟨w.heap.size+1+1,4,none⟩) (by simp;omega)).trans (by simp [go_sem,o4])
 have q5:w2.cell? ⟨w.heap.size+1+1,5,none⟩=some (.int .i64 sk):=(hb2.cell (p:=⟨w.heap.size+1+1,5,none⟩) (by simp;omega)).trans (by simp [go_sem,o5])
 have q6:w2.cell? ⟨w.heap.size+1+1,6,none⟩=some (.int .i64 lo):=(hb2.cell (p:=⟨w.heap.size+1+1,6,none⟩) (by simp;omega)).trans (by simp [go_sem,o6])
 have q7:w2.cell? ⟨w.heap.size+1+1,7,none⟩=some (.slice (some ⟨bi,0,none⟩) code.length code.length):=(hb2.cell (p:=⟨w.heap.size+1+1,7,none⟩) (by simp;omega)).trans (by simp [go_sem,o7])
 have q8:w2.cell? ⟨w.heap.size+1+1,8,none⟩=some (.slice none 0 0):=(hb2.cell (p:=⟨w.heap.size+1+1,8,none⟩) (by simp;omega)).trans (by simp [go_sem,o8])
 have gr:∀ j,w2.frozen? ⟨w.heap.size+1,j,none⟩=false:=fun j=>(hb2.frozen (p:=⟨w.heap.size+1,j,none⟩) (by simp;omega)).trans (by simp [go_sem,fr])
 have go_:∀ j,w2.frozen? ⟨w.heap.size+1+1,j,none⟩=false:=fun j=>(hb2.frozen (p:=⟨w.heap.size+1+1,j,none⟩) (by simp;omega)).trans (by simp [go_sem,fo])
 have HC2:Hid (sliceF insR (flF insR) (w.heap.size+3) w2 (.slice (some ⟨bi,0,none⟩) code.length code.length) code):=sliceF_move (fun _ _ h=>ins_flat _ _ _ _ h) (Agree.of_below hb2) (sliceF_move (fun _ _ h=>ins_flat _ _ _ _ h) ((Agree.refl _ _).set (by show w.heap.size+1+1<w.heap.size+3;omega) _) HI1.out (by simp)) hb2.size
 have HH2:Hid (sliceF handlerR (flF handlerR) (w.heap.size+3) w2 (.slice (some ⟨bh,0,none⟩) hands.length hands.length) hands):=flat_sliceF (by omega) hin2 hlt2 hfz2
 clear hb2 hin2 hlt2 hfz2 hbh x8 fr fo HI1 r0 o0 r1 o1 r2 o2 r3 o3 r4 o4 r5 o5 r6 o6 r7 o7 r8 o8
 go_wp2
 refine bodyPost_ret (v:=.agg #[.string nm,.string ds,.bool st,.bool ab,.bool fi,.int .i64 sk,.int .i64 lo,.slice (some ⟨bi,0,none⟩) code.length code.length,.slice (some ⟨bh,0,none⟩) hands.length hands.length]) (by simp [results,Tryz.results102,go_sem,t0,t1,t2,t3,t4,t5,t6,t7,t8]) rfl ⟨_,_,rfl,?_,?_,?_⟩
 ·exact (((((((((HB2.out.setCell (by simp;omega) _).setCell (by simp) _).setCell (by simp) _).setCell (by simp) _).setCell (by simp) _).setCell (by simp) _).setCell (by simp) _).setCell (by simp) _).setCell (by simp) _).setCell (by simp) _
 ·have key:∀ w',Agree (w.heap.size+3) w2 w'→w2.heap.size≤w'.heap.size→sliceF insR (flF insR) w.heap.size w' (.slice (some ⟨bi,0,none⟩) code.length code.length) code:=fun w' ha hs=>sliceF_base (base:=w.heap.size+3) (base':=w.heap.size) (by omega) (fun _ _ h=>h) (sliceF_move (fun _ _ h=>ins_flat _ _ _ _ h) ha HC2.out hs)
  refine key _ ?_ (by simp)
  refine Agree.set ?_ (by show w.heap.size+1<w.heap.size+3;omega) _
  refine Agree.set ?_ (by show w.heap.size+1<w.heap.size+3;omega) _
  refine Agree.set ?_ (by show w.heap.size+1<w.heap.size+3;omega) _
  refine Agree.set ?_ (by show w.heap.size+1<w.heap.size+3;omega) _
  refine Agree.set ?_ (by show w.heap.size+1<w.heap.size+3;omega) _
  refine Agree.set ?_ (by show w.heap.size+1<w.heap.size+3;omega) _
  refine Agree.set ?_ (by show w.heap.size+1<w.heap.size+3;omega) _
  refine Agree.set ?_ (by show w.heap.size+1<w.heap.size+3;omega) _
  refine Agree.set ?_ (by show w.heap.size+1<w.heap.size+3;omega) _
  refine Agree.set ?_ (by show w.heap.size+1+1<w.heap.size+3;omega) _
  exact Agree.refl _ _
 ·have key:∀ w',Agree (w.heap.size+3) w2 w'→w2.heap.size≤w'.heap.size→sliceF handlerR (flF handlerR) w.heap.size w' (.slice (some ⟨bh,0,none⟩) hands.length hands.length) hands:=fun w' ha hs=>sliceF_base (base:=w.heap.size+3) (base':=w.heap.size) (by omega) (fun _ _ h=>h) (sliceF_move (fun _ _ h=>handler_flat _ _ _ _ h) ha HH2.out hs)
  refine key _ ?_ (by simp)
  refine Agree.set ?_ (by show w.heap.size+1<w.heap.size+3;omega) _
  refine Agree.set ?_ (by show w.heap.size+1<w.heap.size+3;omega) _
  refine Agree.set ?_ (by show w.heap.size+1<w.heap.size+3;omega) _
  refine Agree.set ?_ (by show w.heap.size+1<w.heap.size+3;omega) _
  refine Agree.set ?_ (by show w.heap.size+1<w.heap.size+3;omega) _
  refine Agree.set ?_ (by show w.heap.size+1<w.heap.size+3;omega) _
  refine Agree.set ?_ (by show w.heap.size+1<w.heap.size+3;omega) _
  refine Agree.set ?_ (by show w.heap.size+1<w.heap.size+3;omega) _
  refine Agree.set ?_ (by show w.heap.size+1<w.heap.size+3;omega) _
  refine Agree.set ?_ (by show w.heap.size+1+1<w.heap.size+3;omega) _
  exact Agree.refl _ _

def mSum (ds:List MTup) (m:Nat):Nat:=((ds.take m).map fun x=>methB (mD x)).sum
theorem mSum_succ (ds:List MTup) (m:Nat) (h:m<ds.length):mSum ds (m+1)=mSum ds m+methB (mD ds[m]):=by
 unfold mSum
 rw [List.take_add_one,List.getElem?_eq_getElem h]
 simp only [List.map_append,List.sum_append,Option.toList_some,List.map_cons,List.map_nil,List.sum_cons,List.sum_nil]
 omega
theorem mSum_le (ds:List MTup) (m:Nat) (h:m≤ds.length):mSum ds m≤mSum ds ds.length:=by
 have key:∀ j,m+j≤ds.length→mSum ds m≤mSum ds (m+j):=by
  intro j
  induction j with
  | zero=>exact fun _=>Nat.le_refl _
  | succ j ih =>
   intro hj
   have h1:=mSum_succ ds (m+j) (by omega)
   have h2:=ih (by omega)
   rw [← Nat.add_assoc];omega
 have:=key (ds.length - m) (by omega)
 rwa [show m+(ds.length - m)=ds.length by omega] at this

set_option maxHeartbeats 2000000 in
theorem lawSzMethodS (v:Value) (ds:List MTup) (left:Int) (w:World) (h:methR.slice.In w [v] ds) (hl:0≤left∧left≤1048576) :
  Calls Tryz.prog 73 #[v,.int .i64 left] w fun e w'=>e = .returned (.int .i64 (szB (ds.length+mSum ds ds.length) left))∧Below w.heap.size w w':=by
 obtain ⟨a,cap,rfl,hn,hcap,hat⟩:=slice_open (by decide) h
 unfold maxLen at hcap
 have HA:Hid (∀ i (h:i<ds.length),∃ b o,a=some ⟨b,o,none⟩∧methR.At w ⟨b,o,none⟩ i ds[i]):=hat
 clear hat h
 by_cases c0:left - (ds.length:Int)<0
 ·have d0:decide (left - (ds.length:Int)<0)=true:=by simpa using c0
  have HT:Hid (-1=szB (ds.length+mSum ds ds.length) left):=by show _=_;unfold szB;rw [if_pos (by omega)]
  go_enter Tryz.func73,Tryz.ntmps73
  go_wp2
  go_ret
  exact⟨congrArg (fun b=>Ending.returned (Value.int .i64 b)) HT.out,Below.refl _ _⟩
 ·have d0:decide (left - (ds.length:Int)<0)=false:=by simpa using c0
  go_enter Tryz.func73,Tryz.ntmps73
  go_wp2_with fail
  go_loopw [1,5] (fun j1 j5 wr=>∃ m:Nat,m≤ds.length∧j5 = .int .i64 (m:Int)∧j1 = .int .i64 (left - (ds.length:Int) - (mSum ds m:Int))∧(mSum ds m:Int)≤left - (ds.length:Int)∧Below w.heap.size w wr) (fun _ j5 _=>ds.length - (intOf j5).toNat)
  case atStart=>exact⟨0,Nat.zero_le _,rfl,by simp [mSum],by simp [mSum];omega,Below.refl _ _⟩
  case round =>
   obtain ⟨m,hm,rfl,rfl,hsum,hb⟩:=hrel
   have HB:Hid (Below w.heap.size w wr):=hb
   clear hb
   by_cases hlt:m<ds.length
   ·obtain ⟨b,o,rfl,hx⟩:=HA.out m hlt
    obtain ⟨vc,vh,g0,g1,g2,g3,g4,g5,g6,g7,g8,s0,s1,_,_,h7,h8⟩:=methAt (hx.mono HB.out)
    have hsc:=mSum_succ ds m hlt
    have hsl:=mSum_le ds (m+1) hlt
    have HL:Hid (∀ left,0≤left∧left≤1048576→Calls Tryz.prog 100 #[methV (mD ds[m]) vc vh,.int .i64 left] wr fun e w'=>e = .returned (.int .i64 (szB (methB (mD ds[m])) left))∧Below wr.heap.size wr w'):=fun left hl=>lawSzMethod (mD ds[m]) vc vh left wr s0 s1 h7 h8 hl
    clear hx s0 s1 h7 h8
    generalize methB (mD ds[m])=bulk at *
    generalize mD ds[m]=md at *
    obtain ⟨nm,des,st,ab,fi,sk,lo,code,hands⟩:=md
    unfold methV at HL
    simp only at HL g0 g1 g2 g3 g4 g5 g6
    have HSC:Hid (mSum ds (m+1)=mSum ds m+bulk):=hsc
    by_cases c1:left - (ds.length:Int) - (mSum ds m:Int)<(bulk:Int)
    ·have HZ:Hid (szB bulk (left - (ds.length:Int) - (mSum ds m:Int)) = -1):=szB_neg c1
     have HT:Hid (-1=szB (ds.length+mSum ds ds.length) left):=by show _=_;unfold szB;rw [if_pos (by omega)]
     clear hsc hsl c1
     go_wp2_with fail
     refine Calls.mono (HL.out _ (by omega)) ?_
     rintro e w1 ⟨rfl,hb1⟩
     rw [HZ.out]
     have HB1:Hid (Below w.heap.size w w1):=HB.out.trans (hb1.mono HB.out.size)
     clear hb1
     go_wp2
     go_ret
     exact⟨congrArg (fun b=>Ending.returned (Value.int .i64 b)) HT.out,HB1.out⟩
    ·have HZ:Hid (szB bulk (left - (ds.length:Int) - (mSum ds m:Int))=left - (ds.length:Int) - (mSum ds (m+1):Int)):=by show _=_;rw [szB_pos c1,hsc];omega
     have dn:decide (left - (ds.length:Int) - (mSum ds (m+1):Int)<0)=false:=by simp;omega
     have hle:(mSum ds (m+1):Int)≤left - (ds.length:Int):=by omega
     clear hsc hsl c1
     go_wp2_with fail
     refine Calls.mono (HL.out _ (by omega)) ?_
     rintro e w1 ⟨rfl,hb1⟩
     rw [HZ.out]
     have HB1:Hid (Below w.heap.size w w1):=HB.out.trans (hb1.mono HB.out.size)
     clear hb1
     go_wp2
     go_roundw
     case rel=>exact⟨m+1,by omega,by go_num,rfl,hle,HB1.out⟩
     case measure=>simp [intOf];omega
   ·obtain rfl:m=ds.length:=by omega
    have HT:Hid (left - (ds.length:Int) - (mSum ds ds.length:Int)=szB (ds.length+mSum ds ds.length) left):=by show _=_;rw [szB_pos (by omega)];omega
    go_wp2
    go_ret
    exact⟨congrArg (fun b=>Ending.returned (Value.int .i64 b)) HT.out,HB.out⟩

set_option maxHeartbeats 4000000 in
theorem lawEqMethodS (v u:Value) (ds:List MTup) (w:World) (h:methR.slice.In w [v] ds) (k:methR.slice.In w [u] ds) :
  Calls Tryz.prog 85 #[v,u] w fun e w'=>e = .returned (.bool true)∧Below w.heap.size w w':=by
 obtain ⟨a,cap,rfl,hn,hcap,hat⟩:=slice_open (by decide) h
 obtain ⟨a',cap',rfl,hn',hcap',hat'⟩:=slice_open (by decide) k
 unfold maxLen at hcap hcap'
 have HA:Hid (∀ i (h:i<ds.length),∃ b o,a=some ⟨b,o,none⟩∧methR.At w ⟨b,o,none⟩ i ds[i]):=hat
 have HB:Hid (∀ i (h:i<ds.length),∃ b o,a'=some ⟨b,o,none⟩∧methR.At w ⟨b,o,none⟩ i ds[i]):=hat'
 clear hat hat' h k
 go_enter Tryz.func85,Tryz.ntmps85
 go_wp2_with fail
 go_loopw [5] (fun j5 wr=>∃ m:Nat,m≤ds.length∧j5 = .int .i64 (m:Int)∧Below w.heap.size w wr) (fun j5 _=>ds.length - (intOf j5).toNat)
 case atStart=>exact⟨0,Nat.zero_le _,rfl,Below.refl _ _⟩
 case round =>
  obtain ⟨m,hm,rfl,hbel⟩:=hrel
  have HW:Hid (Below w.heap.size w wr):=hbel
  clear hbel
  by_cases hlt:m<ds.length
  ·obtain ⟨b,o,rfl,hx⟩:=HA.out m hlt
   obtain ⟨vc,vh,g0,g1,g2,g3,g4,g5,g6,g7,g8,_,_,_,_,h7,h8⟩:=methAt (hx.mono HW.out)
   obtain ⟨b',o',rfl,hx'⟩:=HB.out m hlt
   obtain ⟨uc,uh,k0,k1,k2,k3,k4,k5,k6,k7,k8,_,_,_,_,j7,j8⟩:=methAt (hx'.mono HW.out)
   have HEq:Hid (Calls Tryz.prog 112 #[methV (mD ds[m]) vc vh,methV (mD ds[m]) uc uh] wr.drew fun e w'=>e = .returned (.bool true)∧Below wr.heap.size wr w'):=(lawEqMethod (mD ds[m]) vc vh uc uh wr.drew (insR.slice.mono _ _ _ _ (Below.refl _ _).drew h7) (handlerR.slice.mono _ _ _ _ (Below.refl _ _).drew h8) (insR.slice.mono _ _ _ _ (Below.refl _ _).drew j7) (handlerR.slice.mono _ _ _ _ (Below.refl _ _).drew j8)).mono fun e w' h=>⟨h.1,(Below.refl _ _).drew.trans h.2⟩
   clear hx hx' h7 h8 j7 j8
   generalize mD ds[m]=md at *
   obtain ⟨nm,des,st,ab,fi,sk,lo,code,hands⟩:=md
   unfold methV at HEq
   simp only at HEq g0 g1 g2 g3 g4 g5 g6 k0 k1 k2 k3 k4 k5 k6
   go_wp2_with fail
   go_region_with (go_at_call 112;refine Calls.mono HEq.out ?_;rintro e w1 ⟨rfl,hb1⟩;have HB1:Hid (Below w.heap.size w w1):=HW.out.trans (hb1.mono HW.out.size);clear hb1)
   all_goals
    go_wp2
    go_roundw
    case rel=>exact⟨m+1,by omega,by go_num,HB1.out⟩
    case measure=>simp [intOf];omega
  ·go_wp2
   go_ret
   exact⟨rfl,HW.out⟩

theorem methInfo:(Tryz.prog.info? 55).map (fun i=>(i.zero,i.size,i.bytes))=some (some (.agg #[.string ⟨#[]⟩,.string ⟨#[]⟩,.bool false,.bool false,.bool false,.int .i64 0,.int .i64 0,.slice none 0 0,.slice none 0 0]),9,104):=by kernel_rfl

structure mFill (w wr:World) (ds:List MTup) (m:Nat):Prop where
 below:Below w.heap.size w wr
 row:∃ f,wr.rowIs w.heap.size 55 (ds.length * 9) f∧∀ i (h:i<ds.length),i<m→∃ vc vh,f (i * 9+0) = .string (mD ds[i]).name∧f (i * 9+1) = .string (mD ds[i]).desc∧f (i * 9+2) = .bool (mD ds[i]).static∧f (i * 9+3) = .bool (mD ds[i]).abs∧f (i * 9+4) = .bool (mD ds[i]).fin∧f (i * 9+5) = .int .i64 (mD ds[i]).stack∧f (i * 9+6) = .int .i64 (mD ds[i]).locals∧f (i * 9+7)=vc∧f (i * 9+8)=vh∧sliceF insR (flF insR) (w.heap.size+1) wr vc (mD ds[i]).code∧sliceF handlerR (flF handlerR) (w.heap.size+1) wr vh (mD ds[i]).hands

theorem mFill.step {w wr w1:World} {ds:List MTup} {m:Nat} (h:mFill w wr ds m) (hm:m<ds.length) (hb:Below wr.heap.size wr w1) {uc uh:Value} (hc:sliceF insR (flF insR) wr.heap.size w1 uc (mD ds[m]).code) (hh:sliceF handlerR (flF handlerR) wr.heap.size w1 uh (mD ds[m]).hands) :
  mFill w (((((((((w1.setCell ⟨w.heap.size,m * 9,none⟩ (.string (mD ds[m]).name)).setCell ⟨w.heap.size,m * 9+1,none⟩ (.string (mD ds[m]).desc)).setCell ⟨w.heap.size,m * 9+2,none⟩ (.bool (mD ds[m]).static)).setCell ⟨w.heap.size,m * 9+3,none⟩ (.bool (mD ds[m]).abs)).setCell ⟨w.heap.size,m * 9+4,none⟩ (.bool (mD ds[m]).fin)).setCell ⟨w.heap.size,m * 9+5,none⟩ (.int .i64 (mD ds[m]).stack)).setCell ⟨w.heap.size,m * 9+6,none⟩ (.int .i64 (mD ds[m]).locals)).setCell ⟨w.heap.size,m * 9+7,none⟩ uc).setCell ⟨w.heap.size,m * 9+8,none⟩ uh) ds (m+1):=by
 obtain ⟨f,hrow,hf⟩:=h.row
 have hr1:=hrow.of_block (hb.block _ hrow.lt)
 have hlt:w.heap.size<wr.heap.size:=hrow.lt
 have ha:Agree (w.heap.size+1) w1 (((((((((w1.setCell ⟨w.heap.size,m * 9,none⟩ (.string (mD ds[m]).name)).setCell ⟨w.heap.size,m * 9+1,none⟩ (.string (mD ds[m]).desc)).setCell ⟨w.heap.size,m * 9+2,none⟩ (.bool (mD ds[m]).static)).setCell ⟨w.heap.size,m * 9+3,none⟩ (.bool (mD ds[m]).abs)).setCell ⟨w.heap.size,m * 9+4,none⟩ (.bool (mD ds[m]).fin)).setCell ⟨w.heap.size,m * 9+5,none⟩ (.int .i64 (mD ds[m]).stack)).setCell ⟨w.heap.size,m * 9+6,none⟩ (.int .i64 (mD ds[m]).locals)).setCell ⟨w.heap.size,m * 9+7,none⟩ uc).setCell ⟨w.heap.size,m * 9+8,none⟩ uh):=(((((((((Agree.refl _ _).set (by show w.heap.size<w.heap.size+1;omega) _).set (by show w.heap.size<w.heap.size+1;omega) _).set (by show w.heap.size<w.heap.size+1;omega) _).set (by show w.heap.size<w.heap.size+1;omega) _).set (by show w.heap.size<w.heap.size+1;omega) _).set (by show w.heap.size<w.heap.size+1;omega) _).set (by show w.heap.size<w.heap.size+1;omega) _).set (by show w.heap.size<w.heap.size+1;omega) _).set (by show w.heap.size<w.heap.size+1;omega) _
 have hsz:w1.heap.size≤(((((((((w1.setCell ⟨w.heap.size,m * 9,none⟩ (.string (mD ds[m]).name)).setCell ⟨w.heap.size,m * 9+1,none⟩ (.string (mD ds[m]).desc)).setCell ⟨w.heap.size,m * 9+2,none⟩ (.bool (mD ds[m]).static)).setCell ⟨w.heap.size,m * 9+3,none⟩ (.bool (mD ds[m]).abs)).setCell ⟨w.heap.size,m * 9+4,none⟩ (.bool (mD ds[m]).fin)).setCell ⟨w.heap.size,m * 9+5,none⟩ (.int .i64 (mD ds[m]).stack)).setCell ⟨w.heap.size,m * 9+6,none⟩ (.int .i64 (mD ds[m]).locals)).setCell ⟨w.heap.size,m * 9+7,none⟩ uc).setCell ⟨w.heap.size,m * 9+8,none⟩ uh).heap.size:=by simp
 refine ⟨(((((((((h.below.trans (hb.mono h.below.size)).setCell (Nat.le_refl _) _).setCell (Nat.le_refl _) _).setCell (Nat.le_refl _) _).setCell (Nat.le_refl _) _).setCell (Nat.le_refl _) _).setCell (Nat.le_refl _) _).setCell (Nat.le_refl _) _).setCell (Nat.le_refl _) _).setCell (Nat.le_refl _) _,?_⟩
 refine ⟨_,(((((((((hr1).set _ _).set _ _).set _ _).set _ _).set _ _).set _ _).set _ _).set _ _).set _ _,fun i hi him=>?_⟩
 by_cases e:i=m
 ·subst e
  refine ⟨uc,uh,?_,?_,?_,?_,?_,?_,?_,?_,?_,sliceF_move (fun _ _ h=>ins_flat _ _ _ _ h) ha (sliceF_base (base:=wr.heap.size) (base':=w.heap.size+1) (by omega) (fun _ _ h=>h) hc) hsz,sliceF_move (fun _ _ h=>handler_flat _ _ _ _ h) ha (sliceF_base (base:=wr.heap.size) (base':=w.heap.size+1) (by omega) (fun _ _ h=>h) hh) hsz⟩<;>simp
 ·obtain ⟨vc,vh,p0,p1,p2,p3,p4,p5,p6,p7,p8,p9,p10⟩:=hf i hi (by omega)
  have n0_0:¬ (i * 9+0=m * 9):=by omega
  have n0_1:¬ (i * 9+0=m * 9+1):=by omega
  have n0_2:¬ (i * 9+0=m * 9+2):=by omega
  have n0_3:¬ (i * 9+0=m * 9+3):=by omega
  have n0_4:¬ (i * 9+0=m * 9+4):=by omega
  have n0_5:¬ (i * 9+0=m * 9+5):=by omega
  have n0_6:¬ (i * 9+0=m * 9+6):=by omega
  have n0_7:¬ (i * 9+0=m * 9+7):=by omega
  have n0_8:¬ (i * 9+0=m * 9+8):=by omega
  have n1_0:¬ (i * 9+1=m * 9):=by omega
  have n1_1:¬ (i * 9+1=m * 9+1):=by omega
  have n1_2:¬ (i * 9+1=m * 9+2):=by omega
  have n1_3:¬ (i * 9+1=m * 9+3):=by omega
  have n1_4:¬ (i * 9+1=m * 9+4):=by omega
  have n1_5:¬ (i * 9+1=m * 9+5):=by omega
  have n1_6:¬ (i * 9+1=m * 9+6):=by omega
  have n1_7:¬ (i * 9+1=m * 9+7):=by omega
  have n1_8:¬ (i * 9+1=m * 9+8):=by omega
  have n2_0:¬ (i * 9+2=m * 9):=by omega
  have n2_1:¬ (i * 9+2=m * 9+1):=by omega
  have n2_2:¬ (i * 9+2=m * 9+2):=by omega
  have n2_3:¬ (i * 9+2=m * 9+3):=by omega
  have n2_4:¬ (i * 9+2=m * 9+4):=by omega
  have n2_5:¬ (i * 9+2=m * 9+5):=by omega
  have n2_6:¬ (i * 9+2=m * 9+6):=by omega
  have n2_7:¬ (i * 9+2=m * 9+7):=by omega
  have n2_8:¬ (i * 9+2=m * 9+8):=by omega
  have n3_0:¬ (i * 9+3=m * 9):=by omega
  have n3_1:¬ (i * 9+3=m * 9+1):=by omega
  have n3_2:¬ (i * 9+3=m * 9+2):=by omega
  have n3_3:¬ (i * 9+3=m * 9+3):=by omega
  have n3_4:¬ (i * 9+3=m * 9+4):=by omega
  have n3_5:¬ (i * 9+3=m * 9+5):=by omega
  have n3_6:¬ (i * 9+3=m * 9+6):=by omega
  have n3_7:¬ (i * 9+3=m * 9+7):=by omega
  have n3_8:¬ (i * 9+3=m * 9+8):=by omega
  have n4_0:¬ (i * 9+4=m * 9):=by omega
  have n4_1:¬ (i * 9+4=m * 9+1):=by omega
  have n4_2:¬ (i * 9+4=m * 9+2):=by omega
  have n4_3:¬ (i * 9+4=m * 9+3):=by omega
  have n4_4:¬ (i * 9+4=m * 9+4):=by omega
  have n4_5:¬ (i * 9+4=m * 9+5):=by omega
  have n4_6:¬ (i * 9+4=m * 9+6):=by omega
  have n4_7:¬ (i * 9+4=m * 9+7):=by omega
  have n4_8:¬ (i * 9+4=m * 9+8):=by omega
  have n5_0:¬ (i * 9+5=m * 9):=by omega
  have n5_1:¬ (i * 9+5=m * 9+1):=by omega
  have n5_2:¬ (i * 9+5=m * 9+2):=by omega
  have n5_3:¬ (i * 9+5=m * 9+3):=by omega
  have n5_4:¬ (i * 9+5=m * 9+4):=by omega
  have n5_5:¬ (i * 9+5=m * 9+5):=by omega
  have n5_6:¬ (i * 9+5=m * 9+6):=by omega
  have n5_7:¬ (i * 9+5=m * 9+7):=by omega
  have n5_8:¬ (i * 9+5=m * 9+8):=by omega
  have n6_0:¬ (i * 9+6=m * 9):=by omega
  have n6_1:¬ (i * 9+6=m * 9+1):=by omega
  have n6_2:¬ (i * 9+6=m * 9+2):=by omega
  have n6_3:¬ (i * 9+6=m * 9+3):=by omega
  have n6_4:¬ (i * 9+6=m * 9+4):=by omega
  have n6_5:¬ (i * 9+6=m * 9+5):=by omega
  have n6_6:¬ (i * 9+6=m * 9+6):=by omega
  have n6_7:¬ (i * 9+6=m * 9+7):=by omega
  have n6_8:¬ (i * 9+6=m * 9+8):=by omega
  have n7_0:¬ (i * 9+7=m * 9):=by omega
  have n7_1:¬ (i * 9+7=m * 9+1):=by omega
  have n7_2:¬ (i * 9+7=m * 9+2):=by omega
  have n7_3:¬ (i * 9+7=m * 9+3):=by omega
  have n7_4:¬ (i * 9+7=m * 9+4):=by omega
  have n7_5:¬ (i * 9+7=m * 9+5):=by omega
  have n7_6:¬ (i * 9+7=m * 9+6):=by omega
  have n7_7:¬ (i * 9+7=m * 9+7):=by omega
  have n7_8:¬ (i * 9+7=m * 9+8):=by omega
  have n8_0:¬ (i * 9+8=m * 9):=by omega
  have n8_1:¬ (i * 9+8=m * 9+1):=by omega
  have n8_2:¬ (i * 9+8=m * 9+2):=by omega
  have n8_3:¬ (i * 9+8=m * 9+3):=by omega
  have n8_4:¬ (i * 9+8=m * 9+4):=by omega
  have n8_5:¬ (i * 9+8=m * 9+5):=by omega
  have n8_6:¬ (i * 9+8=m * 9+6):=by omega
  have n8_7:¬ (i * 9+8=m * 9+7):=by omega
  have n8_8:¬ (i * 9+8=m * 9+8):=by omega
  refine ⟨vc,vh,?_,?_,?_,?_,?_,?_,?_,?_,?_,sliceF_move (fun _ _ h=>ins_flat _ _ _ _ h) ha (sliceF_move (fun _ _ h=>ins_flat _ _ _ _ h) (Agree.of_below hb) p9 hb.size) hsz,sliceF_move (fun _ _ h=>handler_flat _ _ _ _ h) ha (sliceF_move (fun _ _ h=>handler_flat _ _ _ _ h) (Agree.of_below hb) p10 hb.size) hsz⟩
  ·simp only [n0_0,n0_1,n0_2,n0_3,n0_4,n0_5,n0_6,n0_7,n0_8,if_false];exact p0
  ·simp only [n1_0,n1_1,n1_2,n1_3,n1_4,n1_5,n1_6,n1_7,n1_8,if_false];exact p1
  ·simp only [n2_0,n2_1,n2_2,n2_3,n2_4,n2_5,n2_6,n2_7,n2_8,if_false];exact p2
  ·simp only [n3_0,n3_1,n3_2,n3_3,n3_4,n3_5,n3_6,n3_7,n3_8,if_false];exact p3
  ·simp only [n4_0,n4_1,n4_2,n4_3,n4_4,n4_5,n4_6,n4_7,n4_8,if_false];exact p4
  ·simp only [n5_0,n5_1,n5_2,n5_3,n5_4,n5_5,n5_6,n5_7,n5_8,if_false];exact p5
  ·simp only [n6_0,n6_1,n6_2,n6_3,n6_4,n6_5,n6_6,n6_7,n6_8,if_false];exact p6
  ·simp only [n7_0,n7_1,n7_2,n7_3,n7_4,n7_5,n7_6,n7_7,n7_8,if_false];exact p7
  ·simp only [n8_0,n8_1,n8_2,n8_3,n8_4,n8_5,n8_6,n8_7,n8_8,if_false];exact p8

theorem mFill.start {w w1:World} {ds:List MTup} {zs:List Value} (hown:w1.ownsRow w.heap.size 55 9 (.slice (some ⟨w.heap.size,0,none⟩) ds.length ds.length) ds.length zs) (hgrow:w.grownBy w1 none):mFill w w1 ds 0:=by
 refine ⟨(Below.refl _ _).grown hgrow (Nat.le_refl _) (fun k hk=>by cases hk),?_⟩
 rcases hown.2 with ⟨h1,_⟩ | ⟨g,cap,cur,e,_,hb,_,_,hsz,_⟩
 ·cases h1
 ·cases e
  exact⟨fun i=>cur.getD i undef,⟨cur,hb,hsz,fun i hi=>by
   have hc:i<cur.size:=by omega
   rw [Array.getElem?_eq_getElem hc]
   simp [Array.getD,hc]⟩,fun i _ h=>by omega⟩
theorem mFill.done {w wr:World} {ds:List MTup} {v:Value} (h:mFill w wr ds ds.length) (hin:methR.slice.In w [v] ds) (hl:ds.length≤1048576):sliceF methR methF w.heap.size wr (.slice (some ⟨w.heap.size,0,none⟩) ds.length ds.length) ds:=by
 obtain ⟨f,hrow,hf⟩:=h.row
 obtain ⟨a,cap,_,_,_,hat⟩:=slice_open (by decide) hin
 refine ⟨w.heap.size,ds.length,rfl,Nat.le_refl _,Nat.le_refl _,⟨by unfold maxLen;omega,hrow.lt,fun j=>hrow.frozen j⟩,fun i hi=>?_⟩
 obtain ⟨vc,vh,p0,p1,p2,p3,p4,p5,p6,p7,p8,p9,p10⟩:=hf i hi hi
 obtain ⟨b,o,_,hx⟩:=hat i hi
 obtain ⟨_,_,_,_,_,_,_,_,_,_,_,s0,s1,q5,q6,_,_⟩:=methAt hx
 refine ⟨_,?_,fun j hj=>?_,vc,vh,rfl,s0,s1,q5,q6,sliceF_base (base:=w.heap.size+1) (base':=w.heap.size) (by omega) (fun _ _ h=>h) p9,sliceF_base (base:=w.heap.size+1) (base':=w.heap.size) (by omega) (fun _ _ h=>h) p10⟩
 ·rfl
 ·have hj:j<9:=hj
  have hk:methR.k=9:=rfl
  rw [hk,hrow.cell (i:=i * 9+j) (by omega)]
  match j,hj with
  | 0,_=>rw [p0];rfl
  | 1,_=>rw [p1];rfl
  | 2,_=>rw [p2];rfl
  | 3,_=>rw [p3];rfl
  | 4,_=>rw [p4];rfl
  | 5,_=>rw [p5];rfl
  | 6,_=>rw [p6];rfl
  | 7,_=>rw [p7];rfl
  | 8,_=>rw [p8];rfl

set_option maxHeartbeats 4000000 in
theorem lawToMethodS (v:Value) (ds:List MTup) (w:World) (h:methR.slice.In w [v] ds) (hl:ds.length≤1048576) (hls:∀ i (h:i<ds.length),(mD ds[i]).code.length≤1048576∧(mD ds[i]).hands.length≤1048576) :
  Calls Tryz.prog 75 #[v] w fun e w'=>∃ u,e = .returned u∧Below w.heap.size w w'∧sliceF methR methF w.heap.size w' u ds:=by
 have HIN:Hid (methR.slice.In w [v] ds):=h
 obtain ⟨a,cap,rfl,hn,hcap,hat⟩:=slice_open (by decide) h
 unfold maxLen at hcap
 have HA:Hid (∀ i (h:i<ds.length),∃ b o,a=some ⟨b,o,none⟩∧methR.At w ⟨b,o,none⟩ i ds[i]):=hat
 have HLS:=(show Hid (∀ i (h:i<ds.length),(mD ds[i]).code.length≤1048576∧(mD ds[i]).hands.length≤1048576) from hls)
 clear hat hls h
 obtain ⟨i0,hi0,hz0,hz1,hz2⟩:=info_parts methInfo
 have HI:Hid (Tryz.prog.info? 55 = some i0∧i0.zero=some _∧i0.size=9∧i0.bytes=104):=⟨hi0,hz0,hz1,hz2⟩
 clear hi0 hz0 hz1 hz2
 go_enter Tryz.func75,Tryz.ntmps75
 go_wp2_with (refine wpList_make_full _ rfl _ _ 49 rfl w.heap.size 55 i0 _ 9 Tryz.underlying49 HI.out.1 HI.out.2.1 HI.out.2.2.1 .i64 .i64 _ _ ds.length rfl rfl rfl rfl (by rw [HI.out.2.2.2];omega) (by unfold maxLen;omega) (Nat.le_refl _) ?_)
 intro w1 hown hgrow
 have HF0:Hid (mFill w w1 ds 0):=mFill.start hown hgrow
 clear hown hgrow HI
 go_wp2_with fail
 go_loopw [4] (fun j4 wr=>∃ m:Nat,m≤ds.length∧j4 = .int .i64 (m:Int)∧mFill w wr ds m) (fun j4 _=>ds.length - (intOf j4).toNat)
 case atStart=>exact⟨0,Nat.zero_le _,rfl,HF0.out⟩
 case round =>
  obtain ⟨m,hm,rfl,hfl⟩:=hrel
  have HF:Hid (mFill w wr ds m):=hfl
  clear hfl HF0
  by_cases hlt:m<ds.length
  ·obtain ⟨b,o,rfl,hx⟩:=HA.out m hlt
   obtain ⟨vc,vh,g0,g1,g2,g3,g4,g5,g6,g7,g8,_,_,_,_,h7,h8⟩:=methAt (hx.mono HF.out.below)
   have HTo:Hid (Calls Tryz.prog 102 #[methV (mD ds[m]) vc vh] wr fun e w'=>∃ uc uh,e = .returned (methV (mD ds[m]) uc uh)∧Below wr.heap.size wr w'∧sliceF insR (flF insR) wr.heap.size w' uc (mD ds[m]).code∧sliceF handlerR (flF handlerR) wr.heap.size w' uh (mD ds[m]).hands):=lawToMethodF (mD ds[m]) vc vh wr h7 h8 (HLS.out m hlt).1 (HLS.out m hlt).2
   have hst:=fun (w2:World)=>@mFill.step w wr w2 ds m HF.out hlt
   clear hx h7 h8
   generalize mD ds[m]=md at *
   obtain ⟨nm,des,st,ab,fi,sk,lo,code,hands⟩:=md
   unfold methV at HTo
   simp only at HTo g0 g1 g2 g3 g4 g5 g6 hst
   have HST:=(show Hid _ from hst)
   clear hst
   go_wp2_with fail
   refine Calls.mono HTo.out ?_
   rintro e w2 ⟨uc,uh,rfl,hb2,hc2,hh2⟩
   have hc3:=hc2
   have hh3:=hh2
   obtain ⟨bc,cc,ec,_⟩:=hc3
   obtain ⟨bh,ch,eh,_⟩:=hh3
   subst ec eh
   obtain ⟨f,hrow,_⟩:=HF.out.row
   have hr2:=hrow.of_block (hb2.block _ hrow.lt)
   have q0:=hr2.cell (i:=m * 9) (by omega)
   have p0:=hr2.frozen (m * 9)
   have q1:=hr2.cell (i:=m * 9+1) (by omega)
   have p1:=hr2.frozen (m * 9+1)
   have q2:=hr2.cell (i:=m * 9+2) (by omega)
   have p2:=hr2.frozen (m * 9+2)
   have q3:=hr2.cell (i:=m * 9+3) (by omega)
   have p3:=hr2.frozen (m * 9+3)
   have q4:=hr2.cell (i:=m * 9+4) (by omega)
   have p4:=hr2.frozen (m * 9+4)
   have q5:=hr2.cell (i:=m * 9+5) (by omega)
   have p5:=hr2.frozen (m * 9+5)
   have q6:=hr2.cell (i:=m * 9+6) (by omega)
   have p6:=hr2.frozen (m * 9+6)
   have q7:=hr2.cell (i:=m * 9+7) (by omega)
   have p7:=hr2.frozen (m * 9+7)
   have q8:=hr2.cell (i:=m * 9+8) (by omega)
   have p8:=hr2.frozen (m * 9+8)
   have HN:=HST.out w2 hb2 hc2 hh2
   have HN2:=(show Hid _ from HN)
   generalize f (m * 9)=u0 at q0
   generalize f (m * 9+1)=u1 at q1
   generalize f (m * 9+2)=u2 at q2
   generalize f (m * 9+3)=u3 at q3
   generalize f (m * 9+4)=u4 at q4
   generalize f (m * 9+5)=u5 at q5
   generalize f (m * 9+6)=u6 at q6
   generalize f (m * 9+7)=u7 at q7
   generalize f (m * 9+8)=u8 at q8
   clear hb2 hrow hr2 HST HN hc2 hh2
   go_wp2
   go_roundw
   case rel=>exact⟨m+1,by omega,by go_num,HN2.out⟩
   case measure=>simp [intOf];omega
  ·obtain rfl:m=ds.length:=by omega
   have HD:Hid (sliceF methR methF w.heap.size wr (.slice (some ⟨w.heap.size,0,none⟩) ds.length ds.length) ds):=HF.out.done HIN.out hl
   go_wp2
   go_ret
   exact⟨_,rfl,HF.out.below,HD.out⟩
end Go.Proofs.YtmhgaggpdggbeaaGreatDoor

namespace Go.Proofs.YtmhgaggpdggbeaaGreatDoor
open Go.RowKit
set_option linter.unusedVariables false

structure ClsD where
 name:ByteArray
 super:ByteArray
 fin:Bool
 abs:Bool
 fields:List FieldD
 meths:List MTup

def clsV (m:ClsD) (vc vh:Value):Value:=.agg #[.string m.name,.string m.super,.bool m.fin,.bool m.abs,vc,vh]
def clsB (m:ClsD):Nat:=m.name.size+m.super.size+(m.fields.length+fieldSum m.fields m.fields.length)+(m.meths.length+mSum m.meths m.meths.length)
theorem field_flat:∀ w w' cs x,fieldR.In w cs x→fieldR.In w' cs x:=fun _ _ _ _ h=>h
set_option maxHeartbeats 2000000 in
theorem lawSzClass (m:ClsD) (vc vh:Value) (left:Int) (w:World) (h1:m.name.size≤maxLen) (h2:m.super.size≤maxLen) (hc:fieldR.slice.In w [vc] m.fields) (hh:methR.slice.In w [vh] m.meths) (hl:0≤left∧left≤1048576) :
  Calls Tryz.prog 37 #[clsV m vc vh,.int .i64 left] w fun e w'=>e = .returned (.int .i64 (szB (clsB m) left))∧Below w.heap.size w w':=by
 obtain ⟨a,ca,rfl⟩:=slice_form hc
 obtain ⟨b,cb,rfl⟩:=slice_form hh
 unfold maxLen at h1 h2
 obtain ⟨nm,ds,st,ab,code,hands⟩:=m
 simp only at h1 h2 hc hh
 unfold clsV
 simp only
 have HB0:Hid (∀ o,Below w.heap.size w (w.alloc o)):=fun o=>(Below.refl _ _).alloc (Nat.le_refl _) o
 have HC:Hid (fieldR.slice.In w [.slice a code.length ca] code):=hc
 have HH:Hid (methR.slice.In w [.slice b hands.length cb] hands):=hh
 clear hc hh
 obtain ⟨bc,hbc⟩:∃ n,code.length+fieldSum code code.length=n:=⟨_,rfl⟩
 obtain ⟨bh,hbh⟩:∃ n,hands.length+mSum hands hands.length=n:=⟨_,rfl⟩
 have HS1:Hid (∀ left w v,fieldR.slice.In w [v] code→0≤left∧left≤1048576→Calls Tryz.prog 72 #[v,.int .i64 left] w fun e w'=>e = .returned (.int .i64 (szB bc left))∧Below w.heap.size w w'):=fun left w v h hl=>hbc ▸ lawSzFieldS v code left w h hl
 have HS2:Hid (∀ left w v,methR.slice.In w [v] hands→0≤left∧left≤1048576→Calls Tryz.prog 73 #[v,.int .i64 left] w fun e w'=>e = .returned (.int .i64 (szB bh left))∧Below w.heap.size w w'):=fun left w v h hl=>hbh ▸ lawSzMethodS v hands left w h hl
 have HT:Hid (szB (clsB ⟨nm,ds,st,ab,code,hands⟩) left=szB (nm.size+ds.size+bc+bh) left):=by
  show _=_
  unfold clsB
  rw [← hbc,← hbh]
 clear hbc hbh
 by_cases c0:left - (nm.size:Int)<0
 ·have d0:decide (left - (nm.size:Int)<0)=true:=by simpa using c0
  have HZ:Hid (-1=szB (clsB ⟨nm,ds,st,ab,code,hands⟩) left):=by show _=_;rw [HT.out,szB_neg (by omega)]
  go_enter Tryz.func37,Tryz.ntmps37
  go_wp2
  go_ret
  exact⟨congrArg (fun b=>Ending.returned (Value.int .i64 b)) HZ.out,HB0.out _⟩
 ·have d0:decide (left - (nm.size:Int)<0)=false:=by simpa using c0
  by_cases c1:left - (nm.size:Int) - (ds.size:Int)<0
  ·have d1:decide (left - (nm.size:Int) - (ds.size:Int)<0)=true:=by simpa using c1
   have HZ:Hid (-1=szB (clsB ⟨nm,ds,st,ab,code,hands⟩) left):=by show _=_;rw [HT.out,szB_neg (by omega)]
   go_enter Tryz.func37,Tryz.ntmps37
   go_wp2
   go_ret
   exact⟨congrArg (fun b=>Ending.returned (Value.int .i64 b)) HZ.out,HB0.out _⟩
  ·have d1:decide (left - (nm.size:Int) - (ds.size:Int)<0)=false:=by simpa using c1
   by_cases c2:left - (nm.size:Int) - (ds.size:Int)<(bc:Int)
   ·have HV:Hid (szB bc (left - (nm.size:Int) - (ds.size:Int)) = -1):=szB_neg c2
    have HZ:Hid (-1=szB (clsB ⟨nm,ds,st,ab,code,hands⟩) left):=by show _=_;rw [HT.out,szB_neg (by omega)]
    clear c2
    go_enter Tryz.func37,Tryz.ntmps37
    go_wp2_with fail
    refine (HS1.out _ _ _ (fieldR.slice.mono _ _ _ _ (HB0.out _) HC.out) (by omega)).mono ?_
    rintro e w1 ⟨rfl,hb1⟩
    rw [HV.out]
    have HB1:Hid (Below w.heap.size w w1):=(HB0.out _).trans (hb1.mono (by simp))
    clear hb1
    go_wp2
    go_ret
    exact⟨congrArg (fun b=>Ending.returned (Value.int .i64 b)) HZ.out,HB1.out⟩
   ·have HV:Hid (szB bc (left - (nm.size:Int) - (ds.size:Int))=left - (nm.size:Int) - (ds.size:Int) - (bc:Int)):=szB_pos c2
    have d2:decide (left - (nm.size:Int) - (ds.size:Int) - (bc:Int)<0)=false:=by simp;omega
    by_cases c3:left - (nm.size:Int) - (ds.size:Int) - (bc:Int)<(bh:Int)
    ·have HV2:Hid (szB bh (left - (nm.size:Int) - (ds.size:Int) - (bc:Int)) = -1):=szB_neg c3
     have HZ:Hid (-1=szB (clsB ⟨nm,ds,st,ab,code,hands⟩) left):=by show _=_;rw [HT.out,szB_neg (by omega)]
     have hr:0≤left - (nm.size:Int) - (ds.size:Int) - (bc:Int)∧left - (nm.size:Int) - (ds.size:Int) - (bc:Int)≤1048576:=by omega
     have HR:=(show Hid _ from hr)
     clear c2 c3 hr
     go_enter Tryz.func37,Tryz.ntmps37
     go_wp2_with fail
     refine (HS1.out _ _ _ (fieldR.slice.mono _ _ _ _ (HB0.out _) HC.out) (by omega)).mono ?_
     rintro e w1 ⟨rfl,hb1⟩
     rw [HV.out]
     have HB1:Hid (Below w.heap.size w w1):=(HB0.out _).trans (hb1.mono (by simp))
     have x8:w1.cell? ⟨w.heap.size,5,none⟩=some (.slice b hands.length cb):=(hb1.cell (p:=⟨w.heap.size,5,none⟩) (by simp)).trans (by simp [go_sem])
     clear hb1
     go_wp2_with fail
     refine (HS2.out _ _ _ (methR.slice.mono _ _ _ _ HB1.out HH.out) HR.out).mono ?_
     rintro e w2 ⟨rfl,hb2⟩
     rw [HV2.out]
     have HB2:Hid (Below w.heap.size w w2):=HB1.out.trans (hb2.mono HB1.out.size)
     clear hb2
     go_wp2
     go_ret
     exact⟨congrArg (fun b=>Ending.returned (Value.int .i64 b)) HZ.out,HB2.out⟩
    ·have HV2:Hid (szB bh (left - (nm.size:Int) - (ds.size:Int) - (bc:Int))=left - (nm.size:Int) - (ds.size:Int) - (bc:Int) - (bh:Int)):=szB_pos c3
     have d3:decide (left - (nm.size:Int) - (ds.size:Int) - (bc:Int) - (bh:Int)<0)=false:=by simp;omega
     have HZ:Hid (left - (nm.size:Int) - (ds.size:Int) - (bc:Int) - (bh:Int)=szB (clsB ⟨nm,ds,st,ab,code,hands⟩) left):=by show _=_;rw [HT.out,szB_pos (by omega)];omega
     have hr:0≤left - (nm.size:Int) - (ds.size:Int) - (bc:Int)∧left - (nm.size:Int) - (ds.size:Int) - (bc:Int)≤1048576:=by omega
     have HR:=(show Hid _ from hr)
     clear c2 c3 hr
     go_enter Tryz.func37,Tryz.ntmps37
     go_wp2_with fail
     refine (HS1.out _ _ _ (fieldR.slice.mono _ _ _ _ (HB0.out _) HC.out) (by omega)).mono ?_
     rintro e w1 ⟨rfl,hb1⟩
     rw [HV.out]
     have HB1:Hid (Below w.heap.size w w1):=(HB0.out _).trans (hb1.mono (by simp))
     have x8:w1.cell? ⟨w.heap.size,5,none⟩=some (.slice b hands.length cb):=(hb1.cell (p:=⟨w.heap.size,5,none⟩) (by simp)).trans (by simp [go_sem])
     clear hb1
     go_wp2_with fail
     refine (HS2.out _ _ _ (methR.slice.mono _ _ _ _ HB1.out HH.out) HR.out).mono ?_
     rintro e w2 ⟨rfl,hb2⟩
     rw [HV2.out]
     have HB2:Hid (Below w.heap.size w w2):=HB1.out.trans (hb2.mono HB1.out.size)
     clear hb2
     go_wp2
     go_ret
     exact⟨congrArg (fun b=>Ending.returned (Value.int .i64 b)) HZ.out,HB2.out⟩

set_option maxHeartbeats 4000000 in
theorem lawEqClass (m:ClsD) (vc vh uc uh:Value) (w:World) (h1:fieldR.slice.In w [vc] m.fields) (h2:methR.slice.In w [vh] m.meths) (h3:fieldR.slice.In w [uc] m.fields) (h4:methR.slice.In w [uh] m.meths) :
  Calls Tryz.prog 45 #[clsV m vc vh,clsV m uc uh] w fun e w'=>e = .returned (.bool true)∧Below w.heap.size w w':=by
 obtain ⟨a,ca,rfl⟩:=slice_form h1
 obtain ⟨b,cb,rfl⟩:=slice_form h2
 obtain ⟨c,cc,rfl⟩:=slice_form h3
 obtain ⟨d,cd,rfl⟩:=slice_form h4
 obtain ⟨nm,ds,st,ab,code,hands⟩:=m
 simp only at h1 h2 h3 h4
 unfold clsV
 simp only
 have HB0:Hid (∀ o1 o2,Below w.heap.size w ((w.alloc o1).alloc o2)):=fun o1 o2=>((Below.refl _ _).alloc (Nat.le_refl _) o1).alloc (by simp) o2
 have H1:Hid (fieldR.slice.In w [.slice a code.length ca] code):=h1
 have H2:Hid (methR.slice.In w [.slice b hands.length cb] hands):=h2
 have H3:Hid (fieldR.slice.In w [.slice c code.length cc] code):=h3
 have H4:Hid (methR.slice.In w [.slice d hands.length cd] hands):=h4
 clear h1 h2 h3 h4
 have enm:(nm.toList == nm.toList)=true:=by simp
 have eds:(ds.toList == ds.toList)=true:=by simp
 have est:(st == st)=true:=by simp
 have fst:(st != st)=false:=by simp
 have eab:(ab == ab)=true:=by simp
 have fab:(ab != ab)=false:=by simp
 go_enter Tryz.func45,Tryz.ntmps45
 go_wp2_with fail
 refine (lawEqFieldS _ _ code _ (fieldR.slice.mono _ _ _ _ (HB0.out _ _) H1.out) (fieldR.slice.mono _ _ _ _ (HB0.out _ _) H3.out)).mono ?_
 rintro e w1 ⟨rfl,hb1⟩
 have HB1:Hid (Below w.heap.size w w1):=(HB0.out _ _).trans (hb1.mono (by simp;omega))
 have x8:w1.cell? ⟨w.heap.size,5,none⟩=some (.slice b hands.length cb):=(hb1.cell (p:=⟨w.heap.size,5,none⟩) (by simp;omega)).trans (by simp [go_sem])
 have y8:w1.cell? ⟨w.heap.size+1,5,none⟩=some (.slice d hands.length cd):=(hb1.cell (p:=⟨w.heap.size+1,5,none⟩) (by simp)).trans (by simp [go_sem])
 clear hb1
 go_wp2_with fail
 refine (lawEqMethodS _ _ hands _ (methR.slice.mono _ _ _ _ HB1.out H2.out) (methR.slice.mono _ _ _ _ HB1.out H4.out)).mono ?_
 rintro e w2 ⟨rfl,hb2⟩
 have HB2:Hid (Below w.heap.size w w2):=HB1.out.trans (hb2.mono HB1.out.size)
 clear hb2
 go_wp2
 go_ret
 exact⟨rfl,HB2.out⟩

set_option maxHeartbeats 4000000 in
theorem lawToClassF (m:ClsD) (vc vh:Value) (w:World) (hc:fieldR.slice.In w [vc] m.fields) (hh:methR.slice.In w [vh] m.meths) (hl:m.fields.length≤1048576) (hk:m.meths.length≤1048576) (hks:∀ i (h:i<m.meths.length),(mD m.meths[i]).code.length≤1048576∧(mD m.meths[i]).hands.length≤1048576) :
  Calls Tryz.prog 40 #[clsV m vc vh] w fun e w'=>∃ uc uh,e = .returned (clsV m uc uh)∧Below w.heap.size w w'∧sliceF fieldR (flF fieldR) w.heap.size w' uc m.fields∧sliceF methR methF w.heap.size w' uh m.meths:=by
 obtain ⟨a,ca,rfl⟩:=slice_form hc
 obtain ⟨b,cb,rfl⟩:=slice_form hh
 obtain ⟨nm,ds,st,ab,code,hands⟩:=m
 simp only at hc hh hl hk hks
 unfold clsV
 simp only
 have HB0:Hid (∀ o1 o2 o3,Below w.heap.size w (((w.alloc o1).alloc o2).alloc o3)):=fun o1 o2 o3=>(((Below.refl _ _).alloc (Nat.le_refl _) o1).alloc (by simp) o2).alloc (by simp;omega) o3
 have HC:Hid (fieldR.slice.In w [.slice a code.length ca] code):=hc
 have HH:Hid (methR.slice.In w [.slice b hands.length cb] hands):=hh
 have HKS:=(show Hid (∀ i (h:i<hands.length),(mD hands[i]).code.length≤1048576∧(mD hands[i]).hands.length≤1048576) from hks)
 clear hc hh hks
 go_enter Tryz.func40,Tryz.ntmps40
 go_wp2_with fail
 refine (lawToFieldS _ code _ (fieldR.slice.mono _ _ _ _ (HB0.out _ _ _) HC.out) hl).mono ?_
 rintro e w1 ⟨bi,hbi,rfl,hb1,hin1,hlt1,hfz1⟩
 have HB1:Hid (Below w.heap.size w w1):=(HB0.out _ _ _).trans (hb1.mono (by simp;omega))
 have hz1:w.heap.size+1+1<w1.heap.size:=by have:=hb1.size;simp at this;omega
 have hbi2:w.heap.size+1+1<bi:=by simp at hbi;omega
 have x8:w1.cell? ⟨w.heap.size,5,none⟩=some (.slice b hands.length cb):=(hb1.cell (p:=⟨w.heap.size,5,none⟩) (by simp;omega)).trans (by simp [go_sem])
 have r0:w1.cell? ⟨w.heap.size+1,0,none⟩=some (.string ⟨#[]⟩):=(hb1.cell (p:=⟨w.heap.size+1,0,none⟩) (by simp)).trans (by simp [go_sem])
 have r1:w1.cell? ⟨w.heap.size+1,1,none⟩=some (.string ⟨#[]⟩):=(hb1.cell (p:=⟨w.heap.size+1,1,none⟩) (by simp)).trans (by simp [go_sem])
 have r2:w1.cell? ⟨w.heap.size+1,2,none⟩=some (.bool false):=(hb1.cell (p:=⟨w.heap.size+1,2,none⟩) (by simp)).trans (by simp [go_sem])
 have r3:w1.cell? ⟨w.heap.size+1,3,none⟩=some (.bool false):=(hb1.cell (p:=⟨w.heap.size+1,3,none⟩) (by simp)).trans (by simp [go_sem])
 have r4:w1.cell? ⟨w.heap.size+1,4,none⟩=some (.slice none 0 0):=(hb1.cell (p:=⟨w.heap.size+1,4,none⟩) (by simp)).trans (by simp [go_sem])
 have r5:w1.cell? ⟨w.heap.size+1,5,none⟩=some (.slice none 0 0):=(hb1.cell (p:=⟨w.heap.size+1,5,none⟩) (by simp)).trans (by simp [go_sem])
 have o0:w1.cell? ⟨w.heap.size+1+1,0,none⟩=some (.string nm):=(hb1.cell (p:=⟨w.heap.size+1+1,0,none⟩) (by simp)).trans (by simp [go_sem])
 have o1:w1.cell? ⟨w.heap.size+1+1,1,none⟩=some (.string ds):=(hb1.cell (p:=⟨w.heap.size+1+1,1,none⟩) (by simp)).trans (by simp [go_sem])
 have o2:w1.cell? ⟨w.heap.size+1+1,2,none⟩=some (.bool st):=(hb1.cell (p:=⟨w.heap.size+1+1,2,none⟩) (by simp)).trans (by simp [go_sem])
 have o3:w1.cell? ⟨w.heap.size+1+1,3,none⟩=some (.bool ab):=(hb1.cell (p:=⟨w.heap.size+1+1,3,none⟩) (by simp)).trans (by simp [go_sem])
 have o4:w1.cell? ⟨w.heap.size+1+1,4,none⟩=some (.slice none 0 0):=(hb1.cell (p:=⟨w.heap.size+1+1,4,none⟩) (by simp)).trans (by simp [go_sem])
 have o5:w1.cell? ⟨w.heap.size+1+1,5,none⟩=some (.slice none 0 0):=(hb1.cell (p:=⟨w.heap.size+1+1,5,none⟩) (by simp)).trans (by simp [go_sem])
 have fr:∀ j,w1.frozen? ⟨w.heap.size+1,j,none⟩=false:=fun j=>(hb1.frozen (p:=⟨w.heap.size+1,j,none⟩) (by simp)).trans (by simp [go_sem])
 have fo:∀ j,w1.frozen? ⟨w.heap.size+1+1,j,none⟩=false:=fun j=>(hb1.frozen (p:=⟨w.heap.size+1+1,j,none⟩) (by simp)).trans (by simp [go_sem])
 have HI1:Hid (sliceF fieldR (flF fieldR) (w.heap.size+3) w1 (.slice (some ⟨bi,0,none⟩) code.length code.length) code):=flat_sliceF (by omega) hin1 hlt1 hfz1
 clear hb1 hin1 hbi hlt1 hfz1
 go_wp2_with fail
 refine (lawToMethodS _ hands _ (methR.slice.mono _ _ _ _ (HB1.out.setCell (by simp;omega) _) HH.out) hk HKS.out).mono ?_
 rintro e w2 ⟨um,rfl,hb2,hin2⟩
 have HB2:Hid (Below w.heap.size w w2):=(HB1.out.setCell (p:=⟨w.heap.size+1+1,4,none⟩) (by simp;omega) _).trans (hb2.mono (by simp;omega))
 have hz2:w.heap.size+1+1<w2.heap.size:=by have:=hb2.size;simp at this;omega
 have hfrom:w.heap.size+3≤w1.heap.size:=by omega
 have t0:w2.cell? ⟨w.heap.size+1,0,none⟩=some (.string ⟨#[]⟩):=(hb2.cell (p:=⟨w.heap.size+1,0,none⟩) (by simp;omega)).trans (by simp [go_sem,r0])
 have t1:w2.cell? ⟨w.heap.size+1,1,none⟩=some (.string ⟨#[]⟩):=(hb2.cell (p:=⟨w.heap.size+1,1,none⟩) (by simp;omega)).trans (by simp [go_sem,r1])
 have t2:w2.cell? ⟨w.heap.size+1,2,none⟩=some (.bool false):=(hb2.cell (p:=⟨w.heap.size+1,2,none⟩) (by simp;omega)).trans (by simp [go_sem,r2])
 have t3:w2.cell? ⟨w.heap.size+1,3,none⟩=some (.bool false):=(hb2.cell (p:=⟨w.heap.size+1,3,none⟩) (by simp;omega)).trans (by simp [go_sem,r3])
 have t4:w2.cell? ⟨w.heap.size+1,4,none⟩=some (.slice none 0 0):=(hb2.cell (p:=⟨w.heap.size+1,4,none⟩) (by simp;omega)).trans (by simp [go_sem,r4])
 have t5:w2.cell? ⟨w.heap.size+1,5,none⟩=some (.slice none 0 0):=(hb2.cell (p:=⟨w.heap.size+1,5,none⟩) (by simp;omega)).trans (by simp [go_sem,r5])
 have q0:w2.cell? ⟨w.heap.size+1+1,0,none⟩=some (.string nm):=(hb2.cell (p:=⟨w.heap.size+1+1,0,none⟩) (by simp;omega)).trans (by simp [go_sem,o0])
 have q1:w2.cell? ⟨w.heap.size+1+1,1,none⟩=some (.string ds):=(hb2.cell (p:=⟨w.heap.size+1+1,1,none⟩) (by simp;omega)).trans (by simp [go_sem,o1])
 have q2:w2.cell? ⟨w.heap.size+1+1,2,none⟩=some (.bool st):=(hb2.cell (p:=⟨w.heap.size+1+1,2,none⟩) (by simp;omega)).trans (by simp [go_sem,o2])
 have q3:w2.cell? ⟨w.heap.size+1+1,3,none⟩=some (.bool ab):=(hb2.cell (p:=⟨w.heap.size+1+1,3,none⟩) (by simp;omega)).trans (by simp [go_sem,o3])
 have q4:w2.cell? ⟨w.heap.size+1+1,4,none⟩=some (.slice (some ⟨bi,0,none⟩) code.length code.length):=(hb2.cell (p:=⟨w.heap.size+1+1,4,none⟩) (by simp;omega)).trans (by simp [go_sem,o4])
 have q5:w2.cell? ⟨w.heap.size+1+1,5,none⟩=some (.slice none 0 0):=(hb2.cell (p:=⟨w.heap.size+1+1,5,none⟩) (by simp;omega)).trans (by simp [go_sem,o5])
 have gr:∀ j,w2.frozen? ⟨w.heap.size+1,j,none⟩=false:=fun j=>(hb2.frozen (p:=⟨w.heap.size+1,j,none⟩) (by simp;omega)).trans (by simp [go_sem,fr])
 have go_:∀ j,w2.frozen? ⟨w.heap.size+1+1,j,none⟩=false:=fun j=>(hb2.frozen (p:=⟨w.heap.size+1+1,j,none⟩) (by simp;omega)).trans (by simp [go_sem,fo])
 have HC2:Hid (sliceF fieldR (flF fieldR) (w.heap.size+3) w2 (.slice (some ⟨bi,0,none⟩) code.length code.length) code):=sliceF_move (fun _ _ h=>field_flat _ _ _ _ h) (Agree.of_below hb2) (sliceF_move (fun _ _ h=>field_flat _ _ _ _ h) ((Agree.refl _ _).set (by show w.heap.size+1+1<w.heap.size+3;omega) _) HI1.out (by simp)) hb2.size
 have HH2:Hid (sliceF methR methF (w.heap.size+3) w2 um hands):=sliceF_base (base:=(w1.setCell ⟨w.heap.size+1+1,4,none⟩ (.slice (some ⟨bi,0,none⟩) code.length code.length)).heap.size) (by simp;omega) (methF_base (by simp;omega)) hin2
 obtain ⟨bh,ch,ech,_⟩:=HH2.out
 subst ech
 clear hb2 hin2 x8 fr fo HI1 r0 o0 r1 o1 r2 o2 r3 o3 r4 o4 r5 o5
 go_wp2
 refine bodyPost_ret (v:=.agg #[.string nm,.string ds,.bool st,.bool ab,.slice (some ⟨bi,0,none⟩) code.length code.length,.slice (some ⟨bh,0,none⟩) hands.length ch]) (by simp [results,Tryz.results40,go_sem,t0,t1,t2,t3,t4,t5]) rfl ⟨_,_,rfl,?_,?_,?_⟩
 ·exact (((((((HB2.out.setCell (by simp;omega) _).setCell (by simp) _).setCell (by simp) _).setCell (by simp) _).setCell (by simp) _).setCell (by simp) _).setCell (by simp) _)
 ·have key:∀ w',Agree (w.heap.size+3) w2 w'→w2.heap.size≤w'.heap.size→sliceF fieldR (flF fieldR) w.heap.size w' (.slice (some ⟨bi,0,none⟩) code.length code.length) code:=fun w' ha hs=>sliceF_base (base:=w.heap.size+3) (base':=w.heap.size) (by omega) (fun _ _ h=>h) (sliceF_move (fun _ _ h=>field_flat _ _ _ _ h) ha HC2.out hs)
  refine key _ ?_ (by simp)
  refine Agree.set ?_ (by show w.heap.size+1<w.heap.size+3;omega) _
  refine Agree.set ?_ (by show w.heap.size+1<w.heap.size+3;omega) _
  refine Agree.set ?_ (by show w.heap.size+1<w.heap.size+3;omega) _
  refine Agree.set ?_ (by show w.heap.size+1<w.heap.size+3;omega) _
  refine Agree.set ?_ (by show w.heap.size+1<w.heap.size+3;omega) _
  refine Agree.set ?_ (by show w.heap.size+1<w.heap.size+3;omega) _
  refine Agree.set ?_ (by show w.heap.size+1+1<w.heap.size+3;omega) _
  exact Agree.refl _ _
 ·have key:∀ w',Agree (w.heap.size+3) w2 w'→w2.heap.size≤w'.heap.size→sliceF methR methF w.heap.size w' (.slice (some ⟨bh,0,none⟩) hands.length ch) hands:=fun w' ha hs=>sliceF_base (base:=w.heap.size+3) (base':=w.heap.size) (by omega) (methF_base (by omega)) (sliceF_move (methF_move ha hs) ha HH2.out hs)
  refine key _ ?_ (by simp)
  refine Agree.set ?_ (by show w.heap.size+1<w.heap.size+3;omega) _
  refine Agree.set ?_ (by show w.heap.size+1<w.heap.size+3;omega) _
  refine Agree.set ?_ (by show w.heap.size+1<w.heap.size+3;omega) _
  refine Agree.set ?_ (by show w.heap.size+1<w.heap.size+3;omega) _
  refine Agree.set ?_ (by show w.heap.size+1<w.heap.size+3;omega) _
  refine Agree.set ?_ (by show w.heap.size+1<w.heap.size+3;omega) _
  refine Agree.set ?_ (by show w.heap.size+1+1<w.heap.size+3;omega) _
  exact Agree.refl _ _

abbrev CTup:=ByteArray × ByteArray × Bool × Bool × List FieldD × List MTup
def classR:Rep CTup:=Rep.str.pair (Rep.str.pair (Rep.bool.pair (Rep.bool.pair (fieldR.slice.pair methR.slice))))
def cD (x:CTup):ClsD:=⟨x.1,x.2.1,x.2.2.1,x.2.2.2.1,x.2.2.2.2.1,x.2.2.2.2.2⟩
theorem classR_in {w:World} {cs:List Value} {x:CTup} (h:classR.In w cs x) :
  ∃ vc vh,cs=[.string (cD x).name,.string (cD x).super,.bool (cD x).fin,.bool (cD x).abs,vc,vh]∧(cD x).name.size≤maxLen∧(cD x).super.size≤maxLen∧fieldR.slice.In w [vc] (cD x).fields∧methR.slice.In w [vh] (cD x).meths:=by
 obtain ⟨x0,x1,x2,x3,x4,x5⟩:=x
 obtain ⟨_,_,rfl,⟨rfl,s0⟩,⟨_,_,rfl,⟨rfl,s1⟩,⟨_,_,rfl,h2,⟨_,_,rfl,h3,⟨c7,c8,rfl,h7,h8⟩⟩⟩⟩⟩:=h
 have e7:∃ v,c7=[v]:=by obtain ⟨a,cap,e,_⟩:=h7;exact⟨_,e⟩
 have e8:∃ v,c8=[v]:=by obtain ⟨a,cap,e,_⟩:=h8;exact⟨_,e⟩
 obtain ⟨vc,rfl⟩:=e7
 obtain ⟨vh,rfl⟩:=e8
 have h2':_=_:=h2
 have h3':_=_:=h3
 subst h2' h3'
 exact⟨vc,vh,rfl,s0,s1,h7,h8⟩

section
variable {H:Type} {enc:TypeId × Value→H} {base:Nat} {spare:Nat→Bool} {held:Bool}
theorem opensClass:Opens Tryz.prog enc base spare held classR 67 :=
 opens_struct6 (R0:=Rep.str) (R1:=Rep.str) (R2:=Rep.bool) (R3:=Rep.bool) (R4:=fieldR.slice) (R5:=methR.slice) Tryz.underlying67 ⟨rfl,rfl,rfl,rfl,rfl,rfl⟩
  ⟨by kernel_rfl,by kernel_rfl,by kernel_rfl,by kernel_rfl,by kernel_rfl,by kernel_rfl⟩ (by kernel_rfl)
  (opens_str Tryz.underlying9) (opens_str Tryz.underlying9) (opens_bool Tryz.underlying4) (opens_bool Tryz.underlying4)
  (opens_slice Tryz.underlying64 (by kernel_rfl) opensField) (opens_slice Tryz.underlying65 (by kernel_rfl) opensMethod)
end
end Go.Proofs.YtmhgaggpdggbeaaGreatDoor
