import Derived.Test.YtmhgaggpdggbeaaGreatDoorCls2
import Derived.Test.YtmhgaggpdggbeaaGreatDoorBi
namespace Go.Proofs.YtmhgaggpdggbeaaGreatDoor
open Go.RowKit
set_option maxRecDepth 20000
set_option linter.unusedVariables false

theorem classAt' {w:World} {b o i:Nat} {d:CTup} (h:classR.At w ⟨b,o,none⟩ i d) :
  ∃ vc vh,w.cell? ⟨b,o+i * 6,none⟩=some (.string (cD d).name)∧w.cell? ⟨b,o+i * 6+1,none⟩=some (.string (cD d).super)∧w.cell? ⟨b,o+i * 6+2,none⟩=some (.bool (cD d).fin)∧w.cell? ⟨b,o+i * 6+3,none⟩=some (.bool (cD d).abs) ∧
   w.cell? ⟨b,o+i * 6+4,none⟩=some vc∧w.cell? ⟨b,o+i * 6+5,none⟩=some vh∧(cD d).name.size≤maxLen∧(cD d).super.size≤maxLen∧fieldR.slice.In w [vc] (cD d).fields∧methR.slice.In w [vh] (cD d).meths:=by
 obtain ⟨cs,hc,hin⟩:=h
 obtain ⟨vc,vh,rfl,s0,s1,h4,h5⟩:=classR_in hin
 have hk:classR.k=6:=rfl
 rw [hk] at hc
 have g0:=hc 0 (by omega)
 have g1:=hc 1 (by omega)
 have g2:=hc 2 (by omega)
 have g3:=hc 3 (by omega)
 have g4:=hc 4 (by omega)
 have g5:=hc 5 (by omega)
 simp only [List.getElem?_cons_zero,List.getElem?_cons_succ,plain_add,← Nat.add_assoc,Nat.add_zero] at g0 g1 g2 g3 g4 g5
 exact⟨vc,vh,g0,g1,g2,g3,g4,g5,s0,s1,h4,h5⟩

def cSum (ds:List CTup) (m:Nat):Nat:=((ds.take m).map fun d=>clsB (cD d)).sum
theorem cSum_succ (ds:List CTup) (m:Nat) (h:m<ds.length):cSum ds (m+1)=cSum ds m+clsB (cD ds[m]):=by
 have e:ds.take (m+1)=ds.take m ++ [ds[m]]:=by rw [List.take_add_one,List.getElem?_eq_getElem h];rfl
 unfold cSum
 rw [e,List.map_append,List.sum_append]
 simp
theorem cSum_le (ds:List CTup) (m:Nat) (h:m≤ds.length):cSum ds m≤cSum ds ds.length:=by
 have key:∀ j,m+j≤ds.length→cSum ds m≤cSum ds (m+j):=by
  intro j
  induction j with
  | zero=>exact fun _=>Nat.le_refl _
  | succ j ih =>
   intro hj
   have h1:=cSum_succ ds (m+j) (by omega)
   have h2:=ih (by omega)
   rw [← Nat.add_assoc];omega
 have:=key (ds.length - m) (by omega)
 rwa [show m+(ds.length - m)=ds.length by omega] at this

set_option maxRecDepth 100000 in
set_option maxHeartbeats 2000000 in
theorem lawSzClassS (v:Value) (ds:List CTup) (left:Int) (w:World) (h:classR.slice.In w [v] ds) (hl:0≤left∧left≤1048576) :
  Calls Tryz.prog 9 #[v,.int .i64 left] w fun e w'=>e = .returned (.int .i64 (szB (ds.length+cSum ds ds.length) left))∧Below w.heap.size w w':=by
 obtain ⟨a,cap,rfl,hn,hcap,hat⟩:=slice_open (by decide) h
 unfold maxLen at hcap
 have HA:Hid (∀ i (h:i<ds.length),∃ b o,a=some ⟨b,o,none⟩∧classR.At w ⟨b,o,none⟩ i ds[i]):=hat
 clear hat h
 by_cases c0:left - (ds.length:Int)<0
 ·have d0:decide (left - (ds.length:Int)<0)=true:=by simpa using c0
  have HT:Hid (-1=szB (ds.length+cSum ds ds.length) left):=by show _=_;unfold szB;rw [if_pos (by omega)]
  go_enter Tryz.func9,Tryz.ntmps9
  go_wp2
  go_ret
  exact⟨congrArg (fun b=>Ending.returned (Value.int .i64 b)) HT.out,Below.refl _ _⟩
 ·have d0:decide (left - (ds.length:Int)<0)=false:=by simpa using c0
  go_enter Tryz.func9,Tryz.ntmps9
  go_wp2_with fail
  go_loopw [1,5] (fun j1 j5 wr=>∃ m:Nat,m≤ds.length∧j5 = .int .i64 (m:Int)∧j1 = .int .i64 (left - (ds.length:Int) - (cSum ds m:Int))∧(cSum ds m:Int)≤left - (ds.length:Int)∧Below w.heap.size w wr) (fun _ j5 _=>ds.length - (intOf j5).toNat)
  case atStart=>exact⟨0,Nat.zero_le _,rfl,by simp [cSum],by simp [cSum];omega,Below.refl _ _⟩
  case round =>
   obtain ⟨m,hm,rfl,rfl,hsum,hb⟩:=hrel
   have HB:Hid (Below w.heap.size w wr):=hb
   clear hb
   by_cases hlt:m<ds.length
   ·obtain ⟨b,o,rfl,hx⟩:=HA.out m hlt
    obtain ⟨vc,vh,g0,g1,g2,g3,g4,g5,s0,s1,h7,h8⟩:=classAt' (hx.mono HB.out)
    have hsc:=cSum_succ ds m hlt
    have hsl:=cSum_le ds (m+1) hlt
    have HL:Hid (∀ left,0≤left∧left≤1048576→Calls Tryz.prog 37 #[clsV (cD ds[m]) vc vh,.int .i64 left] wr fun e w'=>e = .returned (.int .i64 (szB (clsB (cD ds[m])) left))∧Below wr.heap.size wr w'):=fun left hl=>lawSzClass (cD ds[m]) vc vh left wr s0 s1 h7 h8 hl
    clear hx s0 s1
    generalize clsB (cD ds[m])=bulk at *
    generalize cD ds[m]=md at *
    obtain ⟨av,acv,rfl⟩:=slice_form h7
    obtain ⟨ah,ach,rfl⟩:=slice_form h8
    clear h7 h8
    obtain ⟨nm,des,st,ab,code,hands⟩:=md
    unfold clsV at HL
    simp only at *
    have HSC:Hid (cSum ds (m+1)=cSum ds m+bulk):=hsc
    by_cases c1:left - (ds.length:Int) - (cSum ds m:Int)<(bulk:Int)
    ·have HZ:Hid (szB bulk (left - (ds.length:Int) - (cSum ds m:Int)) = -1):=szB_neg c1
     have HT:Hid (-1=szB (ds.length+cSum ds ds.length) left):=by show _=_;unfold szB;rw [if_pos (by omega)]
     clear hsc hsl c1
     go_wp2_with fail
     refine Calls.mono (HL.out _ (by omega)) ?_
     rintro e w1 ⟨rfl,hb1⟩
     rw [HZ.out]
     have HB1:Hid (Below w.heap.size w w1):=HB.out.trans (hb1.mono HB.out.size)
     clear hb1
     go_wp2
     go_ret
     exact⟨congrArg (fun b=>Ending.returned (Value.int .i64 b)) HT.out,HB1.out⟩
    ·have HZ:Hid (szB bulk (left - (ds.length:Int) - (cSum ds m:Int))=left - (ds.length:Int) - (cSum ds (m+1):Int)):=by show _=_;rw [szB_pos c1,hsc];omega
     have dn:decide (left - (ds.length:Int) - (cSum ds (m+1):Int)<0)=false:=by simp;omega
     have hle:(cSum ds (m+1):Int)≤left - (ds.length:Int):=by omega
     clear hsc hsl c1
     go_wp2_with fail
     refine Calls.mono (HL.out _ (by omega)) ?_
     rintro e w1 ⟨rfl,hb1⟩
     rw [HZ.out]
     have HB1:Hid (Below w.heap.size w w1):=HB.out.trans (hb1.mono HB.out.size)
     clear hb1
     go_wp2
     go_roundw
     case rel=>exact⟨m+1,by omega,by go_num,rfl,hle,HB1.out⟩
     case measure=>simp [intOf];omega
   ·obtain rfl:m=ds.length:=by omega
    have HT:Hid (left - (ds.length:Int) - (cSum ds ds.length:Int)=szB (ds.length+cSum ds ds.length) left):=by show _=_;rw [szB_pos (by omega)];omega
    go_wp2
    go_ret
    exact⟨congrArg (fun b=>Ending.returned (Value.int .i64 b)) HT.out,HB.out⟩

set_option maxRecDepth 100000 in
set_option maxHeartbeats 4000000 in
theorem lawEqClassS (v u:Value) (ds:List CTup) (w:World) (h:classR.slice.In w [v] ds) (k:classR.slice.In w [u] ds) :
  Calls Tryz.prog 14 #[v,u] w fun e w'=>e = .returned (.bool true)∧Below w.heap.size w w':=by
 obtain ⟨a,cap,rfl,hn,hcap,hat⟩:=slice_open (by decide) h
 obtain ⟨a',cap',rfl,hn',hcap',hat'⟩:=slice_open (by decide) k
 unfold maxLen at hcap hcap'
 have HA:Hid (∀ i (h:i<ds.length),∃ b o,a=some ⟨b,o,none⟩∧classR.At w ⟨b,o,none⟩ i ds[i]):=hat
 have HB:Hid (∀ i (h:i<ds.length),∃ b o,a'=some ⟨b,o,none⟩∧classR.At w ⟨b,o,none⟩ i ds[i]):=hat'
 clear hat hat' h k
 go_enter Tryz.func14,Tryz.ntmps14
 go_wp2_with fail
 go_loopw [5] (fun j5 wr=>∃ m:Nat,m≤ds.length∧j5 = .int .i64 (m:Int)∧Below w.heap.size w wr) (fun j5 _=>ds.length - (intOf j5).toNat)
 case atStart=>exact⟨0,Nat.zero_le _,rfl,Below.refl _ _⟩
 case round =>
  obtain ⟨m,hm,rfl,hbel⟩:=hrel
  have HW:Hid (Below w.heap.size w wr):=hbel
  clear hbel
  by_cases hlt:m<ds.length
  ·obtain ⟨b,o,rfl,hx⟩:=HA.out m hlt
   obtain ⟨vc,vh,g0,g1,g2,g3,g4,g5,_,_,h7,h8⟩:=classAt' (hx.mono HW.out)
   obtain ⟨b',o',rfl,hx'⟩:=HB.out m hlt
   obtain ⟨uc,uh,k0,k1,k2,k3,k4,k5,_,_,j7,j8⟩:=classAt' (hx'.mono HW.out)
   have HEq:Hid (Calls Tryz.prog 45 #[clsV (cD ds[m]) vc vh,clsV (cD ds[m]) uc uh] wr.drew fun e w'=>e = .returned (.bool true)∧Below wr.heap.size wr w'):=(lawEqClass (cD ds[m]) vc vh uc uh wr.drew (fieldR.slice.mono _ _ _ _ (Below.refl _ _).drew h7) (methR.slice.mono _ _ _ _ (Below.refl _ _).drew h8) (fieldR.slice.mono _ _ _ _ (Below.refl _ _).drew j7) (methR.slice.mono _ _ _ _ (Below.refl _ _).drew j8)).mono fun e w' h=>⟨h.1,(Below.refl _ _).drew.trans h.2⟩
   clear hx hx'
   generalize cD ds[m]=md at *
   obtain ⟨av,acv,rfl⟩:=slice_form h7
   obtain ⟨ah,ach,rfl⟩:=slice_form h8
   clear h7 h8
   obtain ⟨bv,bcv,rfl⟩:=slice_form j7
   obtain ⟨bh,bch,rfl⟩:=slice_form j8
   clear j7 j8
   obtain ⟨nm,des,st,ab,code,hands⟩:=md
   unfold clsV at HEq
   simp only at *
   go_wp2_with fail
   go_region_with (go_at_call 45;refine Calls.mono HEq.out ?_;rintro e w1 ⟨rfl,hb1⟩;have HB1:Hid (Below w.heap.size w w1):=HW.out.trans (hb1.mono HW.out.size);clear hb1)
   all_goals
    go_wp2
    go_roundw
    case rel=>exact⟨m+1,by omega,by go_num,HB1.out⟩
    case measure=>simp [intOf];omega
  ·go_wp2
   go_ret
   exact⟨rfl,HW.out⟩

end Go.Proofs.YtmhgaggpdggbeaaGreatDoor

namespace Go.Proofs.YtmhgaggpdggbeaaGreatDoor
open Go.RowKit
set_option linter.unusedVariables false
theorem classInfo:(Tryz.prog.info? 51).map (fun i=>(i.zero,i.size,i.bytes))=some (some (.agg #[.string ⟨#[]⟩,.string ⟨#[]⟩,.bool false,.bool false,.slice none 0 0,.slice none 0 0]),6,88):=by kernel_rfl
theorem classR_mk {w:World} {x:CTup} {vc vh:Value} (s0:(cD x).name.size≤maxLen) (s1:(cD x).super.size≤maxLen) (h4:fieldR.slice.In w [vc] (cD x).fields) (h5:methR.slice.In w [vh] (cD x).meths) :
  classR.In w [.string (cD x).name,.string (cD x).super,.bool (cD x).fin,.bool (cD x).abs,vc,vh] x:=by
 obtain ⟨x0,x1,x2,x3,x4,x5⟩:=x
 exact⟨[_],_,rfl,⟨rfl,s0⟩,[_],_,rfl,⟨rfl,s1⟩,[_],_,rfl,rfl,[_],_,rfl,rfl,[_],[_],rfl,h4,h5⟩
structure cFill (w wr:World) (ds:List CTup) (m:Nat):Prop where
 below:Below w.heap.size w wr
 row:∃ f,wr.rowIs w.heap.size 51 (ds.length * 6) f∧∀ i (h:i<ds.length),i<m→∃ vc vh,f (i * 6+0) = .string (cD ds[i]).name∧f (i * 6+1) = .string (cD ds[i]).super∧f (i * 6+2) = .bool (cD ds[i]).fin∧f (i * 6+3) = .bool (cD ds[i]).abs∧f (i * 6+4)=vc∧f (i * 6+5)=vh∧sliceF fieldR (flF fieldR) (w.heap.size+1) wr vc (cD ds[i]).fields∧sliceF methR methF (w.heap.size+1) wr vh (cD ds[i]).meths

theorem cFill.step {w wr w1:World} {ds:List CTup} {m:Nat} (h:cFill w wr ds m) (hm:m<ds.length) (hb:Below wr.heap.size wr w1) {uc uh:Value} (hc:sliceF fieldR (flF fieldR) wr.heap.size w1 uc (cD ds[m]).fields) (hh:sliceF methR methF wr.heap.size w1 uh (cD ds[m]).meths) :
  cFill w ((((((w1.setCell ⟨w.heap.size,m * 6,none⟩ (.string (cD ds[m]).name)).setCell ⟨w.heap.size,m * 6+1,none⟩ (.string (cD ds[m]).super)).setCell ⟨w.heap.size,m * 6+2,none⟩ (.bool (cD ds[m]).fin)).setCell ⟨w.heap.size,m * 6+3,none⟩ (.bool (cD ds[m]).abs)).setCell ⟨w.heap.size,m * 6+4,none⟩ (uc)).setCell ⟨w.heap.size,m * 6+5,none⟩ (uh)) ds (m+1):=by
 obtain ⟨f,hrow,hf⟩:=h.row
 have hr1:=hrow.of_block (hb.block _ hrow.lt)
 have hlt:w.heap.size<wr.heap.size:=hrow.lt
 have ha:Agree (w.heap.size+1) w1 ((((((w1.setCell ⟨w.heap.size,m * 6,none⟩ (.string (cD ds[m]).name)).setCell ⟨w.heap.size,m * 6+1,none⟩ (.string (cD ds[m]).super)).setCell ⟨w.heap.size,m * 6+2,none⟩ (.bool (cD ds[m]).fin)).setCell ⟨w.heap.size,m * 6+3,none⟩ (.bool (cD ds[m]).abs)).setCell ⟨w.heap.size,m * 6+4,none⟩ (uc)).setCell ⟨w.heap.size,m * 6+5,none⟩ (uh)):=((((((Agree.refl _ _).set (by show w.heap.size<w.heap.size+1;omega) _).set (by show w.heap.size<w.heap.size+1;omega) _).set (by show w.heap.size<w.heap.size+1;omega) _).set (by show w.heap.size<w.heap.size+1;omega) _).set (by show w.heap.size<w.heap.size+1;omega) _).set (by show w.heap.size<w.heap.size+1;omega) _
 have hsz:w1.heap.size≤((((((w1.setCell ⟨w.heap.size,m * 6,none⟩ (.string (cD ds[m]).name)).setCell ⟨w.heap.size,m * 6+1,none⟩ (.string (cD ds[m]).super)).setCell ⟨w.heap.size,m * 6+2,none⟩ (.bool (cD ds[m]).fin)).setCell ⟨w.heap.size,m * 6+3,none⟩ (.bool (cD ds[m]).abs)).setCell ⟨w.heap.size,m * 6+4,none⟩ (uc)).setCell ⟨w.heap.size,m * 6+5,none⟩ (uh)).heap.size:=by simp
 refine ⟨((((((h.below.trans (hb.mono h.below.size)).setCell (Nat.le_refl _) _).setCell (Nat.le_refl _) _).setCell (Nat.le_refl _) _).setCell (Nat.le_refl _) _).setCell (Nat.le_refl _) _).setCell (Nat.le_refl _) _,?_⟩
 refine ⟨_,((((((hr1).set _ _).set _ _).set _ _).set _ _).set _ _).set _ _,fun i hi him=>?_⟩
 by_cases e:i=m
 ·subst e
  refine ⟨uc,uh,?_,?_,?_,?_,?_,?_,sliceF_move (fun _ _ h=>field_flat _ _ _ _ h) ha (sliceF_base (base:=wr.heap.size) (base':=w.heap.size+1) (by omega) (fun _ _ h=>h) hc) hsz,sliceF_move (methF_move ha hsz) ha (sliceF_base (base:=wr.heap.size) (base':=w.heap.size+1) (by omega) (methF_base (by omega)) hh) hsz⟩<;>simp
 ·obtain ⟨vc,vh,p0,p1,p2,p3,p4,p5,p9,p10⟩:=hf i hi (by omega)
  have n0_0:¬ (i * 6+0=m * 6):=by omega
  have n0_1:¬ (i * 6+0=m * 6+1):=by omega
  have n0_2:¬ (i * 6+0=m * 6+2):=by omega
  have n0_3:¬ (i * 6+0=m * 6+3):=by omega
  have n0_4:¬ (i * 6+0=m * 6+4):=by omega
  have n0_5:¬ (i * 6+0=m * 6+5):=by omega
  have n1_0:¬ (i * 6+1=m * 6):=by omega
  have n1_1:¬ (i * 6+1=m * 6+1):=by omega
  have n1_2:¬ (i * 6+1=m * 6+2):=by omega
  have n1_3:¬ (i * 6+1=m * 6+3):=by omega
  have n1_4:¬ (i * 6+1=m * 6+4):=by omega
  have n1_5:¬ (i * 6+1=m * 6+5):=by omega
  have n2_0:¬ (i * 6+2=m * 6):=by omega
  have n2_1:¬ (i * 6+2=m * 6+1):=by omega
  have n2_2:¬ (i * 6+2=m * 6+2):=by omega
  have n2_3:¬ (i * 6+2=m * 6+3):=by omega
  have n2_4:¬ (i * 6+2=m * 6+4):=by omega
  have n2_5:¬ (i * 6+2=m * 6+5):=by omega
  have n3_0:¬ (i * 6+3=m * 6):=by omega
  have n3_1:¬ (i * 6+3=m * 6+1):=by omega
  have n3_2:¬ (i * 6+3=m * 6+2):=by omega
  have n3_3:¬ (i * 6+3=m * 6+3):=by omega
  have n3_4:¬ (i * 6+3=m * 6+4):=by omega
  have n3_5:¬ (i * 6+3=m * 6+5):=by omega
  have n4_0:¬ (i * 6+4=m * 6):=by omega
  have n4_1:¬ (i * 6+4=m * 6+1):=by omega
  have n4_2:¬ (i * 6+4=m * 6+2):=by omega
  have n4_3:¬ (i * 6+4=m * 6+3):=by omega
  have n4_4:¬ (i * 6+4=m * 6+4):=by omega
  have n4_5:¬ (i * 6+4=m * 6+5):=by omega
  have n5_0:¬ (i * 6+5=m * 6):=by omega
  have n5_1:¬ (i * 6+5=m * 6+1):=by omega
  have n5_2:¬ (i * 6+5=m * 6+2):=by omega
  have n5_3:¬ (i * 6+5=m * 6+3):=by omega
  have n5_4:¬ (i * 6+5=m * 6+4):=by omega
  have n5_5:¬ (i * 6+5=m * 6+5):=by omega
  refine ⟨vc,vh,?_,?_,?_,?_,?_,?_,sliceF_move (fun _ _ h=>field_flat _ _ _ _ h) ha (sliceF_move (fun _ _ h=>field_flat _ _ _ _ h) (Agree.of_below hb) p9 hb.size) hsz,sliceF_move (methF_move ha hsz) ha (sliceF_move (methF_move (Agree.of_below hb) hb.size) (Agree.of_below hb) p10 hb.size) hsz⟩
  ·simp only [n0_0,n0_1,n0_2,n0_3,n0_4,n0_5,if_false];exact p0
  ·simp only [n1_0,n1_1,n1_2,n1_3,n1_4,n1_5,if_false];exact p1
  ·simp only [n2_0,n2_1,n2_2,n2_3,n2_4,n2_5,if_false];exact p2
  ·simp only [n3_0,n3_1,n3_2,n3_3,n3_4,n3_5,if_false];exact p3
  ·simp only [n4_0,n4_1,n4_2,n4_3,n4_4,n4_5,if_false];exact p4
  ·simp only [n5_0,n5_1,n5_2,n5_3,n5_4,n5_5,if_false];exact p5
theorem cFill.start {w w1:World} {ds:List CTup} {zs:List Value} (hown:w1.ownsRow w.heap.size 51 6 (.slice (some ⟨w.heap.size,0,none⟩) ds.length ds.length) ds.length zs) (hgrow:w.grownBy w1 none):cFill w w1 ds 0:=by
 refine ⟨(Below.refl _ _).grown hgrow (Nat.le_refl _) (fun k hk=>by cases hk),?_⟩
 rcases hown.2 with ⟨h1,_⟩ | ⟨g,cap,cur,e,_,hb,_,_,hsz,_⟩
 ·cases h1
 ·cases e
  exact⟨fun i=>cur.getD i undef,⟨cur,hb,hsz,fun i hi=>by
   have hc:i<cur.size:=by omega
   rw [Array.getElem?_eq_getElem hc]
   simp [Array.getD,hc]⟩,fun i _ h=>by omega⟩
def clsF (base:Nat) (w:World) (cs:List Value) (x:CTup):Prop :=
 ∃ vc vh,cs=[.string (cD x).name,.string (cD x).super,.bool (cD x).fin,.bool (cD x).abs,vc,vh]∧(cD x).name.size≤maxLen∧(cD x).super.size≤maxLen∧sliceF fieldR (flF fieldR) base w vc (cD x).fields∧sliceF methR methF base w vh (cD x).meths
theorem clsF_in {base:Nat} {w:World} (cs:List Value) (x:CTup) (h:clsF base w cs x):classR.In w cs x:=by
 obtain ⟨vc,vh,rfl,s0,s1,h4,h5⟩:=h
 exact classR_mk s0 s1 (sliceF_in (fun _ _ h=>h) h4) (sliceF_in (fun cs x h=>methF_in cs x h) h5)
theorem cFill.doneF {w wr:World} {ds:List CTup} {v:Value} (h:cFill w wr ds ds.length) (hin:classR.slice.In w [v] ds) (hl:ds.length≤1048576):sliceF classR clsF w.heap.size wr (.slice (some ⟨w.heap.size,0,none⟩) ds.length ds.length) ds:=by
 obtain ⟨f,hrow,hf⟩:=h.row
 obtain ⟨a,cap,_,_,_,hat⟩:=slice_open (by decide) hin
 refine ⟨w.heap.size,ds.length,rfl,Nat.le_refl _,Nat.le_refl _,⟨by unfold maxLen;omega,hrow.lt,fun j=>hrow.frozen j⟩,fun i hi=>?_⟩
 obtain ⟨vc,vh,p0,p1,p2,p3,p4,p5,p9,p10⟩:=hf i hi hi
 obtain ⟨b,o,_,hx⟩:=hat i hi
 obtain ⟨_,_,_,_,_,_,_,_,s0,s1,_,_⟩:=classAt' hx
 refine ⟨_,?_,fun j hj=>?_,vc,vh,rfl,s0,s1,sliceF_base (base:=w.heap.size+1) (base':=w.heap.size) (by omega) (fun _ _ h=>h) p9,sliceF_base (base:=w.heap.size+1) (base':=w.heap.size) (by omega) (methF_base (by omega)) p10⟩
 ·rfl
 have hj:j<6:=hj
 have hk:classR.k=6:=rfl
 rw [hk,hrow.cell (i:=i * 6+j) (by omega)]
 match j,hj with
 | 0,_=>rw [p0];rfl
 | 1,_=>rw [p1];rfl
 | 2,_=>rw [p2];rfl
 | 3,_=>rw [p3];rfl
 | 4,_=>rw [p4];rfl
 | 5,_=>rw [p5];rfl
set_option maxRecDepth 100000 in
set_option maxHeartbeats 4000000 in
theorem lawToClassSF (v:Value) (ds:List CTup) (w:World) (h:classR.slice.In w [v] ds) (hl:ds.length≤1048576) (hls:∀ i (h:i<ds.length),(cD ds[i]).fields.length≤1048576∧(cD ds[i]).meths.length≤1048576∧∀ j (h:j<(cD ds[i]).meths.length),(mD (cD ds[i]).meths[j]).code.length≤1048576∧(mD (cD ds[i]).meths[j]).hands.length≤1048576) :
  Calls Tryz.prog 11 #[v] w fun e w'=>∃ u,e = .returned u∧Below w.heap.size w w'∧sliceF classR clsF w.heap.size w' u ds:=by
 have HIN:Hid (classR.slice.In w [v] ds):=h
 obtain ⟨a,cap,rfl,hn,hcap,hat⟩:=slice_open (by decide) h
 unfold maxLen at hcap
 have HA:Hid (∀ i (h:i<ds.length),∃ b o,a=some ⟨b,o,none⟩∧classR.At w ⟨b,o,none⟩ i ds[i]):=hat
 have HLS:=(show Hid (∀ i (h:i<ds.length),(cD ds[i]).fields.length≤1048576∧(cD ds[i]).meths.length≤1048576∧∀ j (h:j<(cD ds[i]).meths.length),(mD (cD ds[i]).meths[j]).code.length≤1048576∧(mD (cD ds[i]).meths[j]).hands.length≤1048576) from hls)
 clear hat hls h
 obtain ⟨i0,hi0,hz0,hz1,hz2⟩:=info_parts classInfo
 have HI:Hid (Tryz.prog.info? 51 = some i0∧i0.zero=some _∧i0.size=6∧i0.bytes=88):=⟨hi0,hz0,hz1,hz2⟩
 clear hi0 hz0 hz1 hz2
 go_enter Tryz.func11,Tryz.ntmps11
 go_wp2_with (refine wpList_make_full _ rfl _ _ 26 rfl w.heap.size 51 i0 _ 6 Tryz.underlying26 HI.out.1 HI.out.2.1 HI.out.2.2.1 .i64 .i64 _ _ ds.length rfl rfl rfl rfl (by rw [HI.out.2.2.2];omega) (by unfold maxLen;omega) (Nat.le_refl _) ?_)
 intro w1 hown hgrow
 have HF0:Hid (cFill w w1 ds 0):=cFill.start hown hgrow
 clear hown hgrow HI
 go_wp2_with fail
 go_loopw [4] (fun j4 wr=>∃ m:Nat,m≤ds.length∧j4 = .int .i64 (m:Int)∧cFill w wr ds m) (fun j4 _=>ds.length - (intOf j4).toNat)
 case atStart=>exact⟨0,Nat.zero_le _,rfl,HF0.out⟩
 case round =>
  obtain ⟨m,hm,rfl,hfl⟩:=hrel
  have HF:Hid (cFill w wr ds m):=hfl
  clear hfl HF0
  by_cases hlt:m<ds.length
  ·obtain ⟨b,o,rfl,hx⟩:=HA.out m hlt
   obtain ⟨vc,vh,g0,g1,g2,g3,g4,g5,_,_,h7,h8⟩:=classAt' (hx.mono HF.out.below)
   have HTo:Hid (Calls Tryz.prog 40 #[clsV (cD ds[m]) vc vh] wr fun e w'=>∃ uc uh,e = .returned (clsV (cD ds[m]) uc uh)∧Below wr.heap.size wr w'∧sliceF fieldR (flF fieldR) wr.heap.size w' uc (cD ds[m]).fields∧sliceF methR methF wr.heap.size w' uh (cD ds[m]).meths):=lawToClassF (cD ds[m]) vc vh wr h7 h8 (HLS.out m hlt).1 (HLS.out m hlt).2.1 (HLS.out m hlt).2.2
   have hst:=fun (w2:World)=>@cFill.step w wr w2 ds m HF.out hlt
   clear hx h7 h8
   generalize cD ds[m]=md at *
   obtain ⟨nm,des,st,ab,code,hands⟩:=md
   unfold clsV at HTo
   simp only at HTo g0 g1 g2 g3 hst
   have HST:=(show Hid _ from hst)
   clear hst
   go_wp2_with fail
   refine Calls.mono HTo.out ?_
   rintro e w2 ⟨uc,uh,rfl,hb2,hc2,hh2⟩
   have hc3:=hc2
   have hh3:=hh2
   obtain ⟨bc,cc,ec,_⟩:=hc3
   obtain ⟨bh,ch,eh,_⟩:=hh3
   subst ec eh
   obtain ⟨f,hrow,_⟩:=HF.out.row
   have hr2:=hrow.of_block (hb2.block _ hrow.lt)
   have q0:=hr2.cell (i:=m * 6) (by omega)
   have p0:=hr2.frozen (m * 6)
   have q1:=hr2.cell (i:=m * 6+1) (by omega)
   have p1:=hr2.frozen (m * 6+1)
   have q2:=hr2.cell (i:=m * 6+2) (by omega)
   have p2:=hr2.frozen (m * 6+2)
   have q3:=hr2.cell (i:=m * 6+3) (by omega)
   have p3:=hr2.frozen (m * 6+3)
   have q4:=hr2.cell (i:=m * 6+4) (by omega)
   have p4:=hr2.frozen (m * 6+4)
   have q5:=hr2.cell (i:=m * 6+5) (by omega)
   have p5:=hr2.frozen (m * 6+5)
   have HN:=HST.out w2 hb2 hc2 hh2
   have HN2:=(show Hid _ from HN)
   generalize f (m * 6)=u0 at q0
   generalize f (m * 6+1)=u1 at q1
   generalize f (m * 6+2)=u2 at q2
   generalize f (m * 6+3)=u3 at q3
   generalize f (m * 6+4)=u4 at q4
   generalize f (m * 6+5)=u5 at q5
   clear hb2 hrow hr2 HST HN hc2 hh2
   go_wp2
   go_roundw
   case rel=>exact⟨m+1,by omega,by go_num,HN2.out⟩
   case measure=>simp [intOf];omega
  ·obtain rfl:m=ds.length:=by omega
   have HD:Hid (sliceF classR clsF w.heap.size wr (.slice (some ⟨w.heap.size,0,none⟩) ds.length ds.length) ds):=HF.out.doneF HIN.out hl
   go_wp2
   go_ret
   exact⟨_,rfl,HF.out.below,HD.out⟩
theorem lawToClassS (v:Value) (ds:List CTup) (w:World) (h:classR.slice.In w [v] ds) (hl:ds.length≤1048576) (hls:∀ i (h:i<ds.length),(cD ds[i]).fields.length≤1048576∧(cD ds[i]).meths.length≤1048576∧∀ j (h:j<(cD ds[i]).meths.length),(mD (cD ds[i]).meths[j]).code.length≤1048576∧(mD (cD ds[i]).meths[j]).hands.length≤1048576) :
  Calls Tryz.prog 11 #[v] w fun e w'=>∃ u,e = .returned u∧Below w.heap.size w w'∧classR.slice.In w' [u] ds:=by
 refine (lawToClassSF v ds w h hl hls).mono ?_
 rintro e w' ⟨u,rfl,h1,h2⟩
 exact⟨u,rfl,h1,sliceF_in (fun cs x h=>clsF_in cs x h) h2⟩
end Go.Proofs.YtmhgaggpdggbeaaGreatDoor

namespace Go.Proofs.YtmhgaggpdggbeaaGreatDoor
open Go.RowKit
set_option linter.unusedVariables false

theorem sz_lens {ds:List CTup} (h:¬ szB (ds.length+cSum ds ds.length) 1048576<0):ds.length≤1048576∧∀ i (h:i<ds.length),(cD ds[i]).fields.length≤1048576∧(cD ds[i]).meths.length≤1048576∧∀ j (h:j<(cD ds[i]).meths.length),(mD (cD ds[i]).meths[j]).code.length≤1048576∧(mD (cD ds[i]).meths[j]).hands.length≤1048576:=by
 have h0:=szB_le h
 refine ⟨by omega,fun i hi=>?_⟩
 have h1:=cSum_succ ds i hi
 have h2:=cSum_le ds (i+1) hi
 have h3:clsB (cD ds[i])≤1048576:=by omega
 generalize cD ds[i]=m at *
 unfold clsB at h3
 refine ⟨by omega,by omega,fun j hj=>?_⟩
 have h4:=mSum_succ m.meths j hj
 have h5:=mSum_le m.meths (j+1) hj
 unfold methB at h4
 omega
theorem lawEqFound (c:ByteArray) (a b:Int) (w:World) :
  Calls Tryz.prog 20 #[.agg #[.string c,.int .i64 a,.int .i64 b],.agg #[.string c,.int .i64 a,.int .i64 b]] w fun e w'=>e = .returned (.bool true)∧Below w.heap.size w w':=by
 have d0:(c.toList == c.toList)=true:=by simp
 have d1:(a != a)=false:=by simp
 have d2:(b != b)=false:=by simp
 have e1:(a == a)=true:=by simp
 have e2:(b == b)=true:=by simp
 go_enter Tryz.func20,Tryz.ntmps20
 go_wp2
 go_ret
 exact⟨rfl,(below_al _ _).alloc (by simp) _⟩
end Go.Proofs.YtmhgaggpdggbeaaGreatDoor
