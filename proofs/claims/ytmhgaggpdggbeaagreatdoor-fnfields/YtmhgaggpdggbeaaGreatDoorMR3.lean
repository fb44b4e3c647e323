import Derived.Test.YtmhgaggpdggbeaaGreatDoorMR2d
namespace Go.Proofs.YtmhgaggpdggbeaaGreatDoor
open Go.RowKit
set_option maxRecDepth 20000
set_option linter.unusedVariables false

def lastB (m:MethD):Bool:=!initB m.name || (!m.static && (!m.fin && ((dR m.desc).toList == [86])))
theorem restB_eq (m:MethD):restB m=(lastB m && (decide (takenI m≤m.locals) && ((decide (1≤m.code.length∧m.code.length≤60) && codeB m.code m.code.length) && (decide (m.hands.length≤6) && handsB m.hands m.code.length)))):=by
 have key:∀ D1 T D2 C H Z:Bool,(D1 && (T && (D2 && (C && (H && Z)))))=(Z && (T && ((D1 && C) && (D2 && H)))):=by decide
 unfold restB lastB
 rw [key]
theorem isP_17 (x:Int) (R:Bool):(isP x 17 && R)=(decide (0≤x) && (decide (x≤16) && R)):=by
 unfold isP
 rw [show decide (0≤x∧x<17)=(decide (0≤x) && decide (x≤16)) by rw [← Bool.decide_and];exact decide_eq_decide.2 (by omega)]
 rw [Bool.and_assoc]
theorem mOk_eq (m:MethD):mOk m=(mNameB m.name && ((dC m.desc == 0) && (isP m.stack 17 && (isP m.locals 17 && cond m.abs (absB m) (restB m))))):=by
 unfold mOk
 rw [isP_17,isP_17]

set_option maxRecDepth 4000 in
set_option maxHeartbeats 4000000 in
theorem implMethodRight (m:MethD) (vc vh:Value) (w:World) (hnm:m.name.size≤maxLen) (hds:m.desc.size≤maxLen) (hc:insR.slice.In w [vc] m.code) (hh:handlerR.slice.In w [vh] m.hands) (ht:Tab w) (hg:Glob w) :
  Calls Tryz.prog 149 #[methV m vc vh] w fun e w'=>e = .returned (.bool (mOk m))∧Below w.heap.size w w':=by
 obtain ⟨a,ca,rfl⟩:=slice_form hc
 obtain ⟨b,cb,rfl⟩:=slice_form hh
 obtain ⟨nm,ds,st,ab,fi,sk,lo,code,hands⟩:=m
 simp only at hnm hds hc hh
 have hc2:code.length≤maxLen:=by obtain ⟨_,_,e,h1,h2,_⟩:=hc;cases e;omega
 have hh2:hands.length≤maxLen:=by obtain ⟨_,_,e,h1,h2,_⟩:=hh;cases e;omega
 have HD:Hid (∀ w,Glob w→Calls Tryz.prog 130 #[.string ds] w fun e w'=>(∃ v cap,e = .returned (outV (.slice v (dN ds) cap) (dR ds) (dA ds) (dC ds)))∧Below w.heap.size w w'):=fun w h=>(implDescRead ds w hds h).mono fun e w' h=>⟨dv_form h.1,h.2⟩
 have HMn:Hid (∀ w,Calls Tryz.prog 158 #[.string nm] w fun e w'=>e = .returned (.bool (mNameB nm))∧Below w.heap.size w w'):=fun w=>implMName nm w hnm
 have HP1:Hid (∀ w,Calls Tryz.prog 159 #[.int .i64 sk,.int .i64 17] w fun e w'=>e = .returned (.bool (isP sk 17))∧w'=w):=fun w=>implIsPlace sk 17 w
 have HP2:Hid (∀ w,Calls Tryz.prog 159 #[.int .i64 lo,.int .i64 17] w fun e w'=>e = .returned (.bool (isP lo 17))∧w'=w):=fun w=>implIsPlace lo 17 w
 have HAb:Hid (∀ w,Calls Tryz.prog 160 #[.agg #[.string nm,.string ds,.bool st,.bool ab,.bool fi,.int .i64 sk,.int .i64 lo,.slice a code.length ca,.slice b hands.length cb]] w fun e w'=>e = .returned (.bool (absB ⟨nm,ds,st,ab,fi,sk,lo,code,hands⟩))∧Below w.heap.size w w'):=fun w=>implAbs ⟨nm,ds,st,ab,fi,sk,lo,code,hands⟩ a b ca cb w hc2 hh2
 have HLo:Hid (∀ v cap r w,Calls Tryz.prog 161 #[.agg #[.string nm,.string ds,.bool st,.bool ab,.bool fi,.int .i64 sk,.int .i64 lo,.slice a code.length ca,.slice b hands.length cb],.agg #[.slice v (dN ds) cap,.string r]] w fun e w'=>e = .returned (.int .i64 (takenI ⟨nm,ds,st,ab,fi,sk,lo,code,hands⟩))∧Below w.heap.size w w'):=fun v cap r w=>implLocals ⟨nm,ds,st,ab,fi,sk,lo,code,hands⟩ (.slice a code.length ca) (.slice b hands.length cb) v cap r w (by have:=dN_le ds;simp only;omega)
 have HCo:Hid (∀ w',Below w.heap.size w w'→Calls Tryz.prog 162 #[.slice a code.length ca] w' fun e w2=>e = .returned (.bool (decide (1≤code.length∧code.length≤60) && codeB code code.length))∧Below w'.heap.size w' w2):=fun w' hb=>implCode _ code w' (insR.slice.mono _ _ _ _ hb hc) (ht.mono hb) (hg.mono hb)
 have HHa:Hid (∀ w',Below w.heap.size w w'→Calls Tryz.prog 163 #[.slice b hands.length cb,.int .i64 code.length] w' fun e w2=>e = .returned (.bool (decide (hands.length≤6) && handsB hands code.length))∧Below w'.heap.size w' w2):=fun w' hb=>implHands _ hands code.length w' (handlerR.slice.mono _ _ _ _ hb hh)
 have HG:Hid (∀ o,Glob (w.alloc o)):=fun o=>hg.mono ((Below.refl _ _).alloc (Nat.le_refl _) o)
 have HV:Hid (mOk ⟨nm,ds,st,ab,fi,sk,lo,code,hands⟩=(mNameB nm && ((dC ds == 0) && (isP sk 17 && (isP lo 17 && cond ab (absB ⟨nm,ds,st,ab,fi,sk,lo,code,hands⟩) (restB ⟨nm,ds,st,ab,fi,sk,lo,code,hands⟩)))))):=mOk_eq _
 have HR:Hid (restB ⟨nm,ds,st,ab,fi,sk,lo,code,hands⟩=((!initB nm || (!st && (!fi && ((dR ds).toList == [86])))) && (decide (takenI ⟨nm,ds,st,ab,fi,sk,lo,code,hands⟩≤lo) && ((decide (1≤code.length∧code.length≤60) && codeB code code.length) && (decide (hands.length≤6) && handsB hands code.length))))):=restB_eq _
 unfold maxLen at hc2 hh2
 clear hnm hds hc hh ht hg
 unfold methV
 simp only
 generalize mOk ⟨nm,ds,st,ab,fi,sk,lo,code,hands⟩=res at *
 generalize absB ⟨nm,ds,st,ab,fi,sk,lo,code,hands⟩=qa at *
 generalize restB ⟨nm,ds,st,ab,fi,sk,lo,code,hands⟩=qr at *
 generalize takenI ⟨nm,ds,st,ab,fi,sk,lo,code,hands⟩=tk at *
 generalize dC ds=dc at *
 generalize dN ds=dn at *
 generalize dR ds=dr at *
 generalize dA ds=da at *
 generalize mNameB nm=q0 at *
 generalize isP sk 17=q1 at *
 generalize isP lo 17=q2 at *
 generalize (decide (1≤code.length∧code.length≤60) && codeB code code.length)=q3 at *
 generalize (decide (hands.length≤6) && handsB hands code.length)=q4 at *
 cases q0
 ·have HZ:Hid (false=res):=by show _=_;rw [HV.out];rfl
  go_enter Tryz.func149,Tryz.ntmps149
  go_wp2_with fail
  refine Calls.mono (HD.out _ (HG.out _)) ?_
  rintro e w1 ⟨⟨v,cap,rfl⟩,hb1⟩
  obtain ⟨X0,X1,X2,X3,X4,X5,X6,X7,X8,hz0,HB1⟩:=m9 hb1
  clear hb1
  unfold outV
  go_wp2_with fail
  obtain ⟨W,hW,hz1,y0,y1,y2,y3,x0,x1,x2,x3,x4,x5,x6,x7,x8,HB⟩:=w9 (.cells #[.slice v dn cap,.string dr,.int .i64 da,.int .i64 dc] 159) rfl HB1 X0 X1 X2 X3 X4 X5 X6 X7 X8
  clear HB1 X0 X1 X2 X3 X4 X5 X6 X7 X8
  rw [hW]
  clear hW
  generalize w1.heap.size=B1 at *
  refine Calls.mono (HMn.out _) ?_
  rintro e w2 ⟨rfl,hb2⟩
  replace x0:=carry hb2 (show w.heap.size<W.heap.size by omega) x0
  replace x1:=carry hb2 (show w.heap.size<W.heap.size by omega) x1
  replace x2:=carry hb2 (show w.heap.size<W.heap.size by omega) x2
  replace x3:=carry hb2 (show w.heap.size<W.heap.size by omega) x3
  replace x4:=carry hb2 (show w.heap.size<W.heap.size by omega) x4
  replace x5:=carry hb2 (show w.heap.size<W.heap.size by omega) x5
  replace x6:=carry hb2 (show w.heap.size<W.heap.size by omega) x6
  replace x7:=carry hb2 (show w.heap.size<W.heap.size by omega) x7
  replace x8:=carry hb2 (show w.heap.size<W.heap.size by omega) x8
  replace y0:=carry hb2 (show B1<W.heap.size by omega) y0
  replace y1:=carry hb2 (show B1<W.heap.size by omega) y1
  replace y2:=carry hb2 (show B1<W.heap.size by omega) y2
  replace y3:=carry hb2 (show B1<W.heap.size by omega) y3
  have hz2:W.heap.size≤w2.heap.size:=hb2.size
  have HB2:Hid (Below w.heap.size w w2):=HB.out.trans (hb2.mono HB.out.size)
  clear hb2
  go_wp2
  go_ret
  exact⟨rB HZ.out,HB2.out⟩
 cases hk:(dc == 0)
 ·have hk':(dc != 0)=true:=by rw [bne,hk];rfl
  have HZ:Hid (false=res):=by show _=_;rw [HV.out,hk];rfl
  go_enter Tryz.func149,Tryz.ntmps149
  go_wp2_with fail
  refine Calls.mono (HD.out _ (HG.out _)) ?_
  rintro e w1 ⟨⟨v,cap,rfl⟩,hb1⟩
  obtain ⟨X0,X1,X2,X3,X4,X5,X6,X7,X8,hz0,HB1⟩:=m9 hb1
  clear hb1
  unfold outV
  go_wp2_with fail
  obtain ⟨W,hW,hz1,y0,y1,y2,y3,x0,x1,x2,x3,x4,x5,x6,x7,x8,HB⟩:=w9 (.cells #[.slice v dn cap,.string dr,.int .i64 da,.int .i64 dc] 159) rfl HB1 X0 X1 X2 X3 X4 X5 X6 X7 X8
  clear HB1 X0 X1 X2 X3 X4 X5 X6 X7 X8
  rw [hW]
  clear hW
  generalize w1.heap.size=B1 at *
  refine Calls.mono (HMn.out _) ?_
  rintro e w2 ⟨rfl,hb2⟩
  replace x0:=carry hb2 (show w.heap.size<W.heap.size by omega) x0
  replace x1:=carry hb2 (show w.heap.size<W.heap.size by omega) x1
  replace x2:=carry hb2 (show w.heap.size<W.heap.size by omega) x2
  replace x3:=carry hb2 (show w.heap.size<W.heap.size by omega) x3
  replace x4:=carry hb2 (show w.heap.size<W.heap.size by omega) x4
  replace x5:=carry hb2 (show w.heap.size<W.heap.size by omega) x5
  replace x6:=carry hb2 (show w.heap.size<W.heap.size by omega) x6
  replace x7:=carry hb2 (show w.heap.size<W.heap.size by omega) x7
  replace x8:=carry hb2 (show w.heap.size<W.heap.size by omega) x8
  replace y0:=carry hb2 (show B1<W.heap.size by omega) y0
  replace y1:=carry hb2 (show B1<W.heap.size by omega) y1
  replace y2:=carry hb2 (show B1<W.heap.size by omega) y2
  replace y3:=carry hb2 (show B1<W.heap.size by omega) y3
  have hz2:W.heap.size≤w2.heap.size:=hb2.size
  have HB2:Hid (Below w.heap.size w w2):=HB.out.trans (hb2.mono HB.out.size)
  clear hb2
  go_wp2
  go_ret
  exact⟨rB HZ.out,HB2.out⟩
 have hk':(dc != 0)=false:=by rw [bne,hk];rfl
 rw [hk] at HV
 cases q1
 ·have HZ:Hid (false=res):=by show _=_;rw [HV.out];rfl
  go_enter Tryz.func149,Tryz.ntmps149
  go_wp2_with fail
  refine Calls.mono (HD.out _ (HG.out _)) ?_
  rintro e w1 ⟨⟨v,cap,rfl⟩,hb1⟩
  obtain ⟨X0,X1,X2,X3,X4,X5,X6,X7,X8,hz0,HB1⟩:=m9 hb1
  clear hb1
  unfold outV
  go_wp2_with fail
  obtain ⟨W,hW,hz1,y0,y1,y2,y3,x0,x1,x2,x3,x4,x5,x6,x7,x8,HB⟩:=w9 (.cells #[.slice v dn cap,.string dr,.int .i64 da,.int .i64 dc] 159) rfl HB1 X0 X1 X2 X3 X4 X5 X6 X7 X8
  clear HB1 X0 X1 X2 X3 X4 X5 X6 X7 X8
  rw [hW]
  clear hW
  generalize w1.heap.size=B1 at *
  refine Calls.mono (HMn.out _) ?_
  rintro e w2 ⟨rfl,hb2⟩
  replace x0:=carry hb2 (show w.heap.size<W.heap.size by omega) x0
  replace x1:=carry hb2 (show w.heap.size<W.heap.size by omega) x1
  replace x2:=carry hb2 (show w.heap.size<W.heap.size by omega) x2
  replace x3:=carry hb2 (show w.heap.size<W.heap.size by omega) x3
  replace x4:=carry hb2 (show w.heap.size<W.heap.size by omega) x4
  replace x5:=carry hb2 (show w.heap.size<W.heap.size by omega) x5
  replace x6:=carry hb2 (show w.heap.size<W.heap.size by omega) x6
  replace x7:=carry hb2 (show w.heap.size<W.heap.size by omega) x7
  replace x8:=carry hb2 (show w.heap.size<W.heap.size by omega) x8
  replace y0:=carry hb2 (show B1<W.heap.size by omega) y0
  replace y1:=carry hb2 (show B1<W.heap.size by omega) y1
  replace y2:=carry hb2 (show B1<W.heap.size by omega) y2
  replace y3:=carry hb2 (show B1<W.heap.size by omega) y3
  have hz2:W.heap.size≤w2.heap.size:=hb2.size
  have HB2:Hid (Below w.heap.size w w2):=HB.out.trans (hb2.mono HB.out.size)
  clear hb2
  go_wp2_with fail
  refine Calls.mono (HP1.out _) ?_
  rintro e w3 ⟨rfl,hw3⟩
  subst w3
  go_wp2
  go_ret
  exact⟨rB HZ.out,HB2.out⟩
 cases q2
 ·have HZ:Hid (false=res):=by show _=_;rw [HV.out];rfl
  go_enter Tryz.func149,Tryz.ntmps149
  go_wp2_with fail
  refine Calls.mono (HD.out _ (HG.out _)) ?_
  rintro e w1 ⟨⟨v,cap,rfl⟩,hb1⟩
  obtain ⟨X0,X1,X2,X3,X4,X5,X6,X7,X8,hz0,HB1⟩:=m9 hb1
  clear hb1
  unfold outV
  go_wp2_with fail
  obtain ⟨W,hW,hz1,y0,y1,y2,y3,x0,x1,x2,x3,x4,x5,x6,x7,x8,HB⟩:=w9 (.cells #[.slice v dn cap,.string dr,.int .i64 da,.int .i64 dc] 159) rfl HB1 X0 X1 X2 X3 X4 X5 X6 X7 X8
  clear HB1 X0 X1 X2 X3 X4 X5 X6 X7 X8
  rw [hW]
  clear hW
  generalize w1.heap.size=B1 at *
  refine Calls.mono (HMn.out _) ?_
  rintro e w2 ⟨rfl,hb2⟩
  replace x0:=carry hb2 (show w.heap.size<W.heap.size by omega) x0
  replace x1:=carry hb2 (show w.heap.size<W.heap.size by omega) x1
  replace x2:=carry hb2 (show w.heap.size<W.heap.size by omega) x2
  replace x3:=carry hb2 (show w.heap.size<W.heap.size by omega) x3
  replace x4:=carry hb2 (show w.heap.size<W.heap.size by omega) x4
  replace x5:=carry hb2 (show w.heap.size<W.heap.size by omega) x5
  replace x6:=carry hb2 (show w.heap.size<W.heap.size by omega) x6
  replace x7:=carry hb2 (show w.heap.size<W.heap.size by omega) x7
  replace x8:=carry hb2 (show w.heap.size<W.heap.size by omega) x8
  replace y0:=carry hb2 (show B1<W.heap.size by omega) y0
  replace y1:=carry hb2 (show B1<W.heap.size by omega) y1
  replace y2:=carry hb2 (show B1<W.heap.size by omega) y2
  replace y3:=carry hb2 (show B1<W.heap.size by omega) y3
  have hz2:W.heap.size≤w2.heap.size:=hb2.size
  have HB2:Hid (Below w.heap.size w w2):=HB.out.trans (hb2.mono HB.out.size)
  clear hb2
  go_wp2_with fail
  refine Calls.mono (HP1.out _) ?_
  rintro e w3 ⟨rfl,hw3⟩
  subst w3
  go_wp2_with fail
  refine Calls.mono (HP2.out _) ?_
  rintro e w3 ⟨rfl,hw3⟩
  subst w3
  go_wp2
  go_ret
  exact⟨rB HZ.out,HB2.out⟩
 cases ab
 case true =>
  have HZ:Hid (qa=res):=by show _=_;rw [HV.out];rfl
  go_enter Tryz.func149,Tryz.ntmps149
  go_wp2_with fail
  refine Calls.mono (HD.out _ (HG.out _)) ?_
  rintro e w1 ⟨⟨v,cap,rfl⟩,hb1⟩
  obtain ⟨X0,X1,X2,X3,X4,X5,X6,X7,X8,hz0,HB1⟩:=m9 hb1
  clear hb1
  unfold outV
  go_wp2_with fail
  obtain ⟨W,hW,hz1,y0,y1,y2,y3,x0,x1,x2,x3,x4,x5,x6,x7,x8,HB⟩:=w9 (.cells #[.slice v dn cap,.string dr,.int .i64 da,.int .i64 dc] 159) rfl HB1 X0 X1 X2 X3 X4 X5 X6 X7 X8
  clear HB1 X0 X1 X2 X3 X4 X5 X6 X7 X8
  rw [hW]
  clear hW
  generalize w1.heap.size=B1 at *
  refine Calls.mono (HMn.out _) ?_
  rintro e w2 ⟨rfl,hb2⟩
  replace x0:=carry hb2 (show w.heap.size<W.heap.size by omega) x0
  replace x1:=carry hb2 (show w.heap.size<W.heap.size by omega) x1
  replace x2:=carry hb2 (show w.heap.size<W.heap.size by omega) x2
  replace x3:=carry hb2 (show w.heap.size<W.heap.size by omega) x3
  replace x4:=carry hb2 (show w.heap.size<W.heap.size by omega) x4
  replace x5:=carry hb2 (show w.heap.size<W.heap.size by omega) x5
  replace x6:=carry hb2 (show w.heap.size<W.heap.size by omega) x6
  replace x7:=carry hb2 (show w.heap.size<W.heap.size by omega) x7
  replace x8:=carry hb2 (show w.heap.size<W.heap.size by omega) x8
  replace y0:=carry hb2 (show B1<W.heap.size by omega) y0
  replace y1:=carry hb2 (show B1<W.heap.size by omega) y1
  replace y2:=carry hb2 (show B1<W.heap.size by omega) y2
  replace y3:=carry hb2 (show B1<W.heap.size by omega) y3
  have hz2:W.heap.size≤w2.heap.size:=hb2.size
  have HB2:Hid (Below w.heap.size w w2):=HB.out.trans (hb2.mono HB.out.size)
  clear hb2
  go_wp2_with fail
  refine Calls.mono (HP1.out _) ?_
  rintro e w3 ⟨rfl,hw3⟩
  subst w3
  go_wp2_with fail
  refine Calls.mono (HP2.out _) ?_
  rintro e w3 ⟨rfl,hw3⟩
  subst w3
  go_wp2_with fail
  refine Calls.mono (HAb.out _) ?_
  rintro e w3 ⟨rfl,hb3⟩
  have HB3:Hid (Below w.heap.size w w3):=HB2.out.trans (hb3.mono HB2.out.size)
  clear hb3
  go_wp2
  go_ret
  exact⟨rB HZ.out,HB3.out⟩
 clear HAb
 have HQ:Hid (res=qr):=HV.out
 clear HV
 cases hi:(nm.toList == [60,105,110,105,116,62])
 ·have HS:Hid (qr=(decide (tk≤lo) && (q3 && q4))):=by show _=_;rw [HR.out,show initB nm=false from hi];rfl
  clear HR
  by_cases hl:tk≤lo
  case neg =>
   have hlf:decide (lo<tk)=true:=by rw [decide_eq_true_eq];omega
   have HZ:Hid (false=res):=by show _=_;rw [HQ.out,HS.out,decide_eq_false hl];rfl
   go_enter Tryz.func149,Tryz.ntmps149
   go_wp2_with fail
   refine Calls.mono (HD.out _ (HG.out _)) ?_
   rintro e w1 ⟨⟨v,cap,rfl⟩,hb1⟩
   obtain ⟨X0,X1,X2,X3,X4,X5,X6,X7,X8,hz0,HB1⟩:=m9 hb1
   clear hb1
   unfold outV
   go_wp2_with fail
   obtain ⟨W,hW,hz1,y0,y1,y2,y3,x0,x1,x2,x3,x4,x5,x6,x7,x8,HB⟩:=w9 (.cells #[.slice v dn cap,.string dr,.int .i64 da,.int .i64 dc] 159) rfl HB1 X0 X1 X2 X3 X4 X5 X6 X7 X8
   clear HB1 X0 X1 X2 X3 X4 X5 X6 X7 X8
   rw [hW]
   clear hW
   generalize w1.heap.size=B1 at *
   refine Calls.mono (HMn.out _) ?_
   rintro e w2 ⟨rfl,hb2⟩
   replace x0:=carry hb2 (show w.heap.size<W.heap.size by omega) x0
   replace x1:=carry hb2 (show w.heap.size<W.heap.size by omega) x1
   replace x2:=carry hb2 (show w.heap.size<W.heap.size by omega) x2
   replace x3:=carry hb2 (show w.heap.size<W.heap.size by omega) x3
   replace x4:=carry hb2 (show w.heap.size<W.heap.size by omega) x4
   replace x5:=carry hb2 (show w.heap.size<W.heap.size by omega) x5
   replace x6:=carry hb2 (show w.heap.size<W.heap.size by omega) x6
   replace x7:=carry hb2 (show w.heap.size<W.heap.size by omega) x7
   replace x8:=carry hb2 (show w.heap.size<W.heap.size by omega) x8
   replace y0:=carry hb2 (show B1<W.heap.size by omega) y0
   replace y1:=carry hb2 (show B1<W.heap.size by omega) y1
   replace y2:=carry hb2 (show B1<W.heap.size by omega) y2
   replace y3:=carry hb2 (show B1<W.heap.size by omega) y3
   have hz2:W.heap.size≤w2.heap.size:=hb2.size
   have HB2:Hid (Below w.heap.size w w2):=HB.out.trans (hb2.mono HB.out.size)
   clear hb2
   go_wp2_with fail
   refine Calls.mono (HP1.out _) ?_
   rintro e w3 ⟨rfl,hw3⟩
   subst w3
   go_wp2_with fail
   refine Calls.mono (HP2.out _) ?_
   rintro e w3 ⟨rfl,hw3⟩
   subst w3
   go_wp2_with fail
   have hz3:w.heap.size<w2.heap.size:=by omega
   go_region_with (go_at_call 161;refine Calls.mono (HLo.out v cap dr _) ?_;rintro e w3 ⟨rfl,hb3⟩;have x0a:=carry hb3 hz3 x0;have x5a:=carry hb3 hz3 x5;have x6a:=carry hb3 hz3 x6;have x7a:=carry hb3 hz3 x7;have x8a:=carry hb3 hz3 x8;have HB3:Hid (Below w.heap.size w w3):=HB2.out.trans (((Below.refl _ _).drew.trans hb3).mono HB2.out.size);clear hb3)
   all_goals
    go_wp2
    go_ret
    exact⟨rB HZ.out,HB3.out⟩
  have hlf:decide (lo<tk)=false:=by rw [decide_eq_false_iff_not];omega
  have HS2:Hid (res=(q3 && q4)):=by show _=_;rw [HQ.out,HS.out,decide_eq_true hl];rfl
  clear HS HQ
  cases q3
  ·have HZ:Hid (false=res):=HS2.out.symm
   go_enter Tryz.func149,Tryz.ntmps149
   go_wp2_with fail
   refine Calls.mono (HD.out _ (HG.out _)) ?_
   rintro e w1 ⟨⟨v,cap,rfl⟩,hb1⟩
   obtain ⟨X0,X1,X2,X3,X4,X5,X6,X7,X8,hz0,HB1⟩:=m9 hb1
   clear hb1
   unfold outV
   go_wp2_with fail
   obtain ⟨W,hW,hz1,y0,y1,y2,y3,x0,x1,x2,x3,x4,x5,x6,x7,x8,HB⟩:=w9 (.cells #[.slice v dn cap,.string dr,.int .i64 da,.int .i64 dc] 159) rfl HB1 X0 X1 X2 X3 X4 X5 X6 X7 X8
   clear HB1 X0 X1 X2 X3 X4 X5 X6 X7 X8
   rw [hW]
   clear hW
   generalize w1.heap.size=B1 at *
   refine Calls.mono (HMn.out _) ?_
   rintro e w2 ⟨rfl,hb2⟩
   replace x0:=carry hb2 (show w.heap.size<W.heap.size by omega) x0
   replace x1:=carry hb2 (show w.heap.size<W.heap.size by omega) x1
   replace x2:=carry hb2 (show w.heap.size<W.heap.size by omega) x2
   replace x3:=carry hb2 (show w.heap.size<W.heap.size by omega) x3
   replace x4:=carry hb2 (show w.heap.size<W.heap.size by omega) x4
   replace x5:=carry hb2 (show w.heap.size<W.heap.size by omega) x5
   replace x6:=carry hb2 (show w.heap.size<W.heap.size by omega) x6
   replace x7:=carry hb2 (show w.heap.size<W.heap.size by omega) x7
   replace x8:=carry hb2 (show w.heap.size<W.heap.size by omega) x8
   replace y0:=carry hb2 (show B1<W.heap.size by omega) y0
   replace y1:=carry hb2 (show B1<W.heap.size by omega) y1
   replace y2:=carry hb2 (show B1<W.heap.size by omega) y2
   replace y3:=carry hb2 (show B1<W.heap.size by omega) y3
   have hz2:W.heap.size≤w2.heap.size:=hb2.size
   have HB2:Hid (Below w.heap.size w w2):=HB.out.trans (hb2.mono HB.out.size)
   clear hb2
   go_wp2_with fail
   refine Calls.mono (HP1.out _) ?_
   rintro e w3 ⟨rfl,hw3⟩
   subst w3
   go_wp2_with fail
   refine Calls.mono (HP2.out _) ?_
   rintro e w3 ⟨rfl,hw3⟩
   subst w3
   go_wp2_with fail
   have hz3:w.heap.size<w2.heap.size:=by omega
   go_region_with (go_at_call 161;refine Calls.mono (HLo.out v cap dr _) ?_;rintro e w3 ⟨rfl,hb3⟩;have x0a:=carry hb3 hz3 x0;have x5a:=carry hb3 hz3 x5;have x6a:=carry hb3 hz3 x6;have x7a:=carry hb3 hz3 x7;have x8a:=carry hb3 hz3 x8;have HB3:Hid (Below w.heap.size w w3):=HB2.out.trans (((Below.refl _ _).drew.trans hb3).mono HB2.out.size);clear hb3)
   all_goals
    go_wp2_with fail
    refine Calls.mono (HCo.out _ HB3.out) ?_
    rintro e w4 ⟨rfl,hb4⟩
    replace x7a:=carry hb4 (World.block_lt_of_cell? _ _ x7a) x7a
    replace x8a:=carry hb4 (World.block_lt_of_cell? _ _ x8a) x8a
    have HB4:Hid (Below w.heap.size w w4):=HB3.out.trans (hb4.mono HB3.out.size)
    clear hb4
    go_wp2
    go_ret
    exact⟨rB HZ.out,HB4.out⟩
  ·have HZ:Hid (q4=res):=HS2.out.symm
   go_enter Tryz.func149,Tryz.ntmps149
   go_wp2_with fail
   refine Calls.mono (HD.out _ (HG.out _)) ?_
   rintro e w1 ⟨⟨v,cap,rfl⟩,hb1⟩
   obtain ⟨X0,X1,X2,X3,X4,X5,X6,X7,X8,hz0,HB1⟩:=m9 hb1
   clear hb1
   unfold outV
   go_wp2_with fail
   obtain ⟨W,hW,hz1,y0,y1,y2,y3,x0,x1,x2,x3,x4,x5,x6,x7,x8,HB⟩:=w9 (.cells #[.slice v dn cap,.string dr,.int .i64 da,.int .i64 dc] 159) rfl HB1 X0 X1 X2 X3 X4 X5 X6 X7 X8
   clear HB1 X0 X1 X2 X3 X4 X5 X6 X7 X8
   rw [hW]
   clear hW
   generalize w1.heap.size=B1 at *
   refine Calls.mono (HMn.out _) ?_
   rintro e w2 ⟨rfl,hb2⟩
   replace x0:=carry hb2 (show w.heap.size<W.heap.size by omega) x0
   replace x1:=carry hb2 (show w.heap.size<W.heap.size by omega) x1
   replace x2:=carry hb2 (show w.heap.size<W.heap.size by omega) x2
   replace x3:=carry hb2 (show w.heap.size<W.heap.size by omega) x3
   replace x4:=carry hb2 (show w.heap.size<W.heap.size by omega) x4
   replace x5:=carry hb2 (show w.heap.size<W.heap.size by omega) x5
   replace x6:=carry hb2 (show w.heap.size<W.heap.size by omega) x6
   replace x7:=carry hb2 (show w.heap.size<W.heap.size by omega) x7
   replace x8:=carry hb2 (show w.heap.size<W.heap.size by omega) x8
   replace y0:=carry hb2 (show B1<W.heap.size by omega) y0
   replace y1:=carry hb2 (show B1<W.heap.size by omega) y1
   replace y2:=carry hb2 (show B1<W.heap.size by omega) y2
   replace y3:=carry hb2 (show B1<W.heap.size by omega) y3
   have hz2:W.heap.size≤w2.heap.size:=hb2.size
   have HB2:Hid (Below w.heap.size w w2):=HB.out.trans (hb2.mono HB.out.size)
   clear hb2
   go_wp2_with fail
   refine Calls.mono (HP1.out _) ?_
   rintro e w3 ⟨rfl,hw3⟩
   subst w3
   go_wp2_with fail
   refine Calls.mono (HP2.out _) ?_
   rintro e w3 ⟨rfl,hw3⟩
   subst w3
   go_wp2_with fail
   have hz3:w.heap.size<w2.heap.size:=by omega
   go_region_with (go_at_call 161;refine Calls.mono (HLo.out v cap dr _) ?_;rintro e w3 ⟨rfl,hb3⟩;have x0a:=carry hb3 hz3 x0;have x5a:=carry hb3 hz3 x5;have x6a:=carry hb3 hz3 x6;have x7a:=carry hb3 hz3 x7;have x8a:=carry hb3 hz3 x8;have HB3:Hid (Below w.heap.size w w3):=HB2.out.trans (((Below.refl _ _).drew.trans hb3).mono HB2.out.size);clear hb3)
   all_goals
    go_wp2_with fail
    refine Calls.mono (HCo.out _ HB3.out) ?_
    rintro e w4 ⟨rfl,hb4⟩
    replace x7a:=carry hb4 (World.block_lt_of_cell? _ _ x7a) x7a
    replace x8a:=carry hb4 (World.block_lt_of_cell? _ _ x8a) x8a
    have HB4:Hid (Below w.heap.size w w4):=HB3.out.trans (hb4.mono HB3.out.size)
    clear hb4
    go_wp2_with fail
    refine Calls.mono (HHa.out _ HB4.out) ?_
    rintro e w5 ⟨rfl,hb5⟩
    have HB5:Hid (Below w.heap.size w w5):=HB4.out.trans (hb5.mono HB4.out.size)
    clear hb5
    go_wp2
    go_ret
    exact⟨rB HZ.out,HB5.out⟩
 ·rw [show initB nm=true from hi] at HR
  cases st
  case true =>
   have HZ:Hid (false=res):=by show _=_;rw [HQ.out,HR.out];rfl
   go_enter Tryz.func149,Tryz.ntmps149
   go_wp2_with fail
   refine Calls.mono (HD.out _ (HG.out _)) ?_
   rintro e w1 ⟨⟨v,cap,rfl⟩,hb1⟩
   obtain ⟨X0,X1,X2,X3,X4,X5,X6,X7,X8,hz0,HB1⟩:=m9 hb1
   clear hb1
   unfold outV
   go_wp2_with fail
   obtain ⟨W,hW,hz1,y0,y1,y2,y3,x0,x1,x2,x3,x4,x5,x6,x7,x8,HB⟩:=w9 (.cells #[.slice v dn cap,.string dr,.int .i64 da,.int .i64 dc] 159) rfl HB1 X0 X1 X2 X3 X4 X5 X6 X7 X8
   clear HB1 X0 X1 X2 X3 X4 X5 X6 X7 X8
   rw [hW]
   clear hW
   generalize w1.heap.size=B1 at *
   refine Calls.mono (HMn.out _) ?_
   rintro e w2 ⟨rfl,hb2⟩
   replace x0:=carry hb2 (show w.heap.size<W.heap.size by omega) x0
   replace x1:=carry hb2 (show w.heap.size<W.heap.size by omega) x1
   replace x2:=carry hb2 (show w.heap.size<W.heap.size by omega) x2
   replace x3:=carry hb2 (show w.heap.size<W.heap.size by omega) x3
   replace x4:=carry hb2 (show w.heap.size<W.heap.size by omega) x4
   replace x5:=carry hb2 (show w.heap.size<W.heap.size by omega) x5
   replace x6:=carry hb2 (show w.heap.size<W.heap.size by omega) x6
   replace x7:=carry hb2 (show w.heap.size<W.heap.size by omega) x7
   replace x8:=carry hb2 (show w.heap.size<W.heap.size by omega) x8
   replace y0:=carry hb2 (show B1<W.heap.size by omega) y0
   replace y1:=carry hb2 (show B1<W.heap.size by omega) y1
   replace y2:=carry hb2 (show B1<W.heap.size by omega) y2
   replace y3:=carry hb2 (show B1<W.heap.size by omega) y3
   have hz2:W.heap.size≤w2.heap.size:=hb2.size
   have HB2:Hid (Below w.heap.size w w2):=HB.out.trans (hb2.mono HB.out.size)
   clear hb2
   go_wp2_with fail
   refine Calls.mono (HP1.out _) ?_
   rintro e w3 ⟨rfl,hw3⟩
   subst w3
   go_wp2_with fail
   refine Calls.mono (HP2.out _) ?_
   rintro e w3 ⟨rfl,hw3⟩
   subst w3
   go_wp2
   go_ret
   exact⟨rB HZ.out,HB2.out⟩
  cases fi
  case true =>
   have HZ:Hid (false=res):=by show _=_;rw [HQ.out,HR.out];rfl
   go_enter Tryz.func149,Tryz.ntmps149
   go_wp2_with fail
   refine Calls.mono (HD.out _ (HG.out _)) ?_
   rintro e w1 ⟨⟨v,cap,rfl⟩,hb1⟩
   obtain ⟨X0,X1,X2,X3,X4,X5,X6,X7,X8,hz0,HB1⟩:=m9 hb1
   clear hb1
   unfold outV
   go_wp2_with fail
   obtain ⟨W,hW,hz1,y0,y1,y2,y3,x0,x1,x2,x3,x4,x5,x6,x7,x8,HB⟩:=w9 (.cells #[.slice v dn cap,.string dr,.int .i64 da,.int .i64 dc] 159) rfl HB1 X0 X1 X2 X3 X4 X5 X6 X7 X8
   clear HB1 X0 X1 X2 X3 X4 X5 X6 X7 X8
   rw [hW]
   clear hW
   generalize w1.heap.size=B1 at *
   refine Calls.mono (HMn.out _) ?_
   rintro e w2 ⟨rfl,hb2⟩
   replace x0:=carry hb2 (show w.heap.size<W.heap.size by omega) x0
   replace x1:=carry hb2 (show w.heap.size<W.heap.size by omega) x1
   replace x2:=carry hb2 (show w.heap.size<W.heap.size by omega) x2
   replace x3:=carry hb2 (show w.heap.size<W.heap.size by omega) x3
   replace x4:=carry hb2 (show w.heap.size<W.heap.size by omega) x4
   replace x5:=carry hb2 (show w.heap.size<W.heap.size by omega) x5
   replace x6:=carry hb2 (show w.heap.size<W.heap.size by omega) x6
   replace x7:=carry hb2 (show w.heap.size<W.heap.size by omega) x7
   replace x8:=carry hb2 (show w.heap.size<W.heap.size by omega) x8
   replace y0:=carry hb2 (show B1<W.heap.size by omega) y0
   replace y1:=carry hb2 (show B1<W.heap.size by omega) y1
   replace y2:=carry hb2 (show B1<W.heap.size by omega) y2
   replace y3:=carry hb2 (show B1<W.heap.size by omega) y3
   have hz2:W.heap.size≤w2.heap.size:=hb2.size
   have HB2:Hid (Below w.heap.size w w2):=HB.out.trans (hb2.mono HB.out.size)
   clear hb2
   go_wp2_with fail
   refine Calls.mono (HP1.out _) ?_
   rintro e w3 ⟨rfl,hw3⟩
   subst w3
   go_wp2_with fail
   refine Calls.mono (HP2.out _) ?_
   rintro e w3 ⟨rfl,hw3⟩
   subst w3
   go_wp2
   go_ret
   exact⟨rB HZ.out,HB2.out⟩
  cases hv:(dr.toList == [86])
  ·have hv':(dr.toList != [86])=true:=by rw [bne,hv];rfl
   have HZ:Hid (false=res):=by show _=_;rw [HQ.out,HR.out,hv];rfl
   go_enter Tryz.func149,Tryz.ntmps149
   go_wp2_with fail
   refine Calls.mono (HD.out _ (HG.out _)) ?_
   rintro e w1 ⟨⟨v,cap,rfl⟩,hb1⟩
   obtain ⟨X0,X1,X2,X3,X4,X5,X6,X7,X8,hz0,HB1⟩:=m9 hb1
   clear hb1
   unfold outV
   go_wp2_with fail
   obtain ⟨W,hW,hz1,y0,y1,y2,y3,x0,x1,x2,x3,x4,x5,x6,x7,x8,HB⟩:=w9 (.cells #[.slice v dn cap,.string dr,.int .i64 da,.int .i64 dc] 159) rfl HB1 X0 X1 X2 X3 X4 X5 X6 X7 X8
   clear HB1 X0 X1 X2 X3 X4 X5 X6 X7 X8
   rw [hW]
   clear hW
   generalize w1.heap.size=B1 at *
   refine Calls.mono (HMn.out _) ?_
   rintro e w2 ⟨rfl,hb2⟩
   replace x0:=carry hb2 (show w.heap.size<W.heap.size by omega) x0
   replace x1:=carry hb2 (show w.heap.size<W.heap.size by omega) x1
   replace x2:=carry hb2 (show w.heap.size<W.heap.size by omega) x2
   replace x3:=carry hb2 (show w.heap.size<W.heap.size by omega) x3
   replace x4:=carry hb2 (show w.heap.size<W.heap.size by omega) x4
   replace x5:=carry hb2 (show w.heap.size<W.heap.size by omega) x5
   replace x6:=carry hb2 (show w.heap.size<W.heap.size by omega) x6
   replace x7:=carry hb2 (show w.heap.size<W.heap.size by omega) x7
   replace x8:=carry hb2 (show w.heap.size<W.heap.size by omega) x8
   replace y0:=carry hb2 (show B1<W.heap.size by omega) y0
   replace y1:=carry hb2 (show B1<W.heap.size by omega) y1
   replace y2:=carry hb2 (show B1<W.heap.size by omega) y2
   replace y3:=carry hb2 (show B1<W.heap.size by omega) y3
   have hz2:W.heap.size≤w2.heap.size:=hb2.size
   have HB2:Hid (Below w.heap.size w w2):=HB.out.trans (hb2.mono HB.out.size)
   clear hb2
   go_wp2_with fail
   refine Calls.mono (HP1.out _) ?_
   rintro e w3 ⟨rfl,hw3⟩
   subst w3
   go_wp2_with fail
   refine Calls.mono (HP2.out _) ?_
   rintro e w3 ⟨rfl,hw3⟩
   subst w3
   go_wp2
   go_ret
   exact⟨rB HZ.out,HB2.out⟩
  ·have hv':(dr.toList != [86])=false:=by rw [bne,hv];rfl
   have HS:Hid (qr=(decide (tk≤lo) && (q3 && q4))):=by show _=_;rw [HR.out,hv];rfl
   clear HR
   by_cases hl:tk≤lo
   case neg =>
    have hlf:decide (lo<tk)=true:=by rw [decide_eq_true_eq];omega
    have HZ:Hid (false=res):=by show _=_;rw [HQ.out,HS.out,decide_eq_false hl];rfl
    go_enter Tryz.func149,Tryz.ntmps149
    go_wp2_with fail
    refine Calls.mono (HD.out _ (HG.out _)) ?_
    rintro e w1 ⟨⟨v,cap,rfl⟩,hb1⟩
    obtain ⟨X0,X1,X2,X3,X4,X5,X6,X7,X8,hz0,HB1⟩:=m9 hb1
    clear hb1
    unfold outV
    go_wp2_with fail
    obtain ⟨W,hW,hz1,y0,y1,y2,y3,x0,x1,x2,x3,x4,x5,x6,x7,x8,HB⟩:=w9 (.cells #[.slice v dn cap,.string dr,.int .i64 da,.int .i64 dc] 159) rfl HB1 X0 X1 X2 X3 X4 X5 X6 X7 X8
    clear HB1 X0 X1 X2 X3 X4 X5 X6 X7 X8
    rw [hW]
    clear hW
    generalize w1.heap.size=B1 at *
    refine Calls.mono (HMn.out _) ?_
    rintro e w2 ⟨rfl,hb2⟩
    replace x0:=carry hb2 (show w.heap.size<W.heap.size by omega) x0
    replace x1:=carry hb2 (show w.heap.size<W.heap.size by omega) x1
    replace x2:=carry hb2 (show w.heap.size<W.heap.size by omega) x2
    replace x3:=carry hb2 (show w.heap.size<W.heap.size by omega) x3
    replace x4:=carry hb2 (show w.heap.size<W.heap.size by omega) x4
    replace x5:=carry hb2 (show w.heap.size<W.heap.size by omega) x5
    replace x6:=carry hb2 (show w.heap.size<W.heap.size by omega) x6
    replace x7:=carry hb2 (show w.heap.size<W.heap.size by omega) x7
    replace x8:=carry hb2 (show w.heap.size<W.heap.size by omega) x8
    replace y0:=carry hb2 (show B1<W.heap.size by omega) y0
    replace y1:=carry hb2 (show B1<W.heap.size by omega) y1
    replace y2:=carry hb2 (show B1<W.heap.size by omega) y2
    replace y3:=carry hb2 (show B1<W.heap.size by omega) y3
    have hz2:W.heap.size≤w2.heap.size:=hb2.size
    have HB2:Hid (Below w.heap.size w w2):=HB.out.trans (hb2.mono HB.out.size)
    clear hb2
    go_wp2_with fail
    refine Calls.mono (HP1.out _) ?_
    rintro e w3 ⟨rfl,hw3⟩
    subst w3
    go_wp2_with fail
    refine Calls.mono (HP2.out _) ?_
    rintro e w3 ⟨rfl,hw3⟩
    subst w3
    go_wp2_with fail
    have hz3:w.heap.size<w2.heap.size:=by omega
    go_region_with (go_at_call 161;refine Calls.mono (HLo.out v cap dr _) ?_;rintro e w3 ⟨rfl,hb3⟩;have x0a:=carry hb3 hz3 x0;have x5a:=carry hb3 hz3 x5;have x6a:=carry hb3 hz3 x6;have x7a:=carry hb3 hz3 x7;have x8a:=carry hb3 hz3 x8;have HB3:Hid (Below w.heap.size w w3):=HB2.out.trans (((Below.refl _ _).drew.trans hb3).mono HB2.out.size);clear hb3)
    all_goals
     go_wp2
     go_ret
     exact⟨rB HZ.out,HB3.out⟩
   have hlf:decide (lo<tk)=false:=by rw [decide_eq_false_iff_not];omega
   have HS2:Hid (res=(q3 && q4)):=by show _=_;rw [HQ.out,HS.out,decide_eq_true hl];rfl
   clear HS HQ
   cases q3
   ·have HZ:Hid (false=res):=HS2.out.symm
    go_enter Tryz.func149,Tryz.ntmps149
    go_wp2_with fail
    refine Calls.mono (HD.out _ (HG.out _)) ?_
    rintro e w1 ⟨⟨v,cap,rfl⟩,hb1⟩
    obtain ⟨X0,X1,X2,X3,X4,X5,X6,X7,X8,hz0,HB1⟩:=m9 hb1
    clear hb1
    unfold outV
    go_wp2_with fail
    obtain ⟨W,hW,hz1,y0,y1,y2,y3,x0,x1,x2,x3,x4,x5,x6,x7,x8,HB⟩:=w9 (.cells #[.slice v dn cap,.string dr,.int .i64 da,.int .i64 dc] 159) rfl HB1 X0 X1 X2 X3 X4 X5 X6 X7 X8
    clear HB1 X0 X1 X2 X3 X4 X5 X6 X7 X8
    rw [hW]
    clear hW
    generalize w1.heap.size=B1 at *
    refine Calls.mono (HMn.out _) ?_
    rintro e w2 ⟨rfl,hb2⟩
    replace x0:=carry hb2 (show w.heap.size<W.heap.size by omega) x0
    replace x1:=carry hb2 (show w.heap.size<W.heap.size by omega) x1
    replace x2:=carry hb2 (show w.heap.size<W.heap.size by omega) x2
    replace x3:=carry hb2 (show w.heap.size<W.heap.size by omega) x3
    replace x4:=carry hb2 (show w.heap.size<W.heap.size by omega) x4
    replace x5:=carry hb2 (show w.heap.size<W.heap.size by omega) x5
    replace x6:=carry hb2 (show w.heap.size<W.heap.size by omega) x6
    replace x7:=carry hb2 (show w.heap.size<W.heap.size by omega) x7
    replace x8:=carry hb2 (show w.heap.size<W.heap.size by omega) x8
    replace y0:=carry hb2 (show B1<W.heap.size by omega) y0
    replace y1:=carry hb2 (show B1<W.heap.size by omega) y1
    replace y2:=carry hb2 (show B1<W.heap.size by omega) y2
    replace y3:=carry hb2 (show B1<W.heap.size by omega) y3
    have hz2:W.heap.size≤w2.heap.size:=hb2.size
    have HB2:Hid (Below w.heap.size w w2):=HB.out.trans (hb2.mono HB.out.size)
    clear hb2
    go_wp2_with fail
    refine Calls.mono (HP1.out _) ?_
    rintro e w3 ⟨rfl,hw3⟩
    subst w3
    go_wp2_with fail
    refine Calls.mono (HP2.out _) ?_
    rintro e w3 ⟨rfl,hw3⟩
    subst w3
    go_wp2_with fail
    have hz3:w.heap.size<w2.heap.size:=by omega
    go_region_with (go_at_call 161;refine Calls.mono (HLo.out v cap dr _) ?_;rintro e w3 ⟨rfl,hb3⟩;have x0a:=carry hb3 hz3 x0;have x5a:=carry hb3 hz3 x5;have x6a:=carry hb3 hz3 x6;have x7a:=carry hb3 hz3 x7;have x8a:=carry hb3 hz3 x8;have HB3:Hid (Below w.heap.size w w3):=HB2.out.trans (((Below.refl _ _).drew.trans hb3).mono HB2.out.size);clear hb3)
    all_goals
     go_wp2_with fail
     refine Calls.mono (HCo.out _ HB3.out) ?_
     rintro e w4 ⟨rfl,hb4⟩
     replace x7a:=carry hb4 (World.block_lt_of_cell? _ _ x7a) x7a
     replace x8a:=carry hb4 (World.block_lt_of_cell? _ _ x8a) x8a
     have HB4:Hid (Below w.heap.size w w4):=HB3.out.trans (hb4.mono HB3.out.size)
     clear hb4
     go_wp2
     go_ret
     exact⟨rB HZ.out,HB4.out⟩
   ·have HZ:Hid (q4=res):=HS2.out.symm
    go_enter Tryz.func149,Tryz.ntmps149
    go_wp2_with fail
    refine Calls.mono (HD.out _ (HG.out _)) ?_
    rintro e w1 ⟨⟨v,cap,rfl⟩,hb1⟩
    obtain ⟨X0,X1,X2,X3,X4,X5,X6,X7,X8,hz0,HB1⟩:=m9 hb1
    clear hb1
    unfold outV
    go_wp2_with fail
    obtain ⟨W,hW,hz1,y0,y1,y2,y3,x0,x1,x2,x3,x4,x5,x6,x7,x8,HB⟩:=w9 (.cells #[.slice v dn cap,.string dr,.int .i64 da,.int .i64 dc] 159) rfl HB1 X0 X1 X2 X3 X4 X5 X6 X7 X8
    clear HB1 X0 X1 X2 X3 X4 X5 X6 X7 X8
    rw [hW]
    clear hW
    generalize w1.heap.size=B1 at *
    refine Calls.mono (HMn.out _) ?_
    rintro e w2 ⟨rfl,hb2⟩
    replace x0:=carry hb2 (show w.heap.size<W.heap.size by omega) x0
    replace x1:=carry hb2 (show w.heap.size<W.heap.size by omega) x1
    replace x2:=carry hb2 (show w.heap.size<W.heap.size by omega) x2
    replace x3:=carry hb2 (show w.heap.size<W.heap.size by omega) x3
    replace x4:=carry hb2 (show w.heap.size<W.heap.size by omega) x4
    replace x5:=carry hb2 (show w.heap.size<W.heap.size by omega) x5
    replace x6:=carry hb2 (show w.heap.size<W.heap.size by omega) x6
    replace x7:=carry hb2 (show w.heap.size<W.heap.size by omega) x7
    replace x8:=carry hb2 (show w.heap.size<W.heap.size by omega) x8
    replace y0:=carry hb2 (show B1<W.heap.size by omega) y0
    replace y1:=carry hb2 (show B1<W.heap.size by omega) y1
    replace y2:=carry hb2 (show B1<W.heap.size by omega) y2
    replace y3:=carry hb2 (show B1<W.heap.size by omega) y3
    have hz2:W.heap.size≤w2.heap.size:=hb2.size
    have HB2:Hid (Below w.heap.size w w2):=HB.out.trans (hb2.mono HB.out.size)
    clear hb2
    go_wp2_with fail
    refine Calls.mono (HP1.out _) ?_
    rintro e w3 ⟨rfl,hw3⟩
    subst w3
    go_wp2_with fail
    refine Calls.mono (HP2.out _) ?_
    rintro e w3 ⟨rfl,hw3⟩
    subst w3
    go_wp2_with fail
    have hz3:w.heap.size<w2.heap.size:=by omega
    go_region_with (go_at_call 161;refine Calls.mono (HLo.out v cap dr _) ?_;rintro e w3 ⟨rfl,hb3⟩;have x0a:=carry hb3 hz3 x0;have x5a:=carry hb3 hz3 x5;have x6a:=carry hb3 hz3 x6;have x7a:=carry hb3 hz3 x7;have x8a:=carry hb3 hz3 x8;have HB3:Hid (Below w.heap.size w w3):=HB2.out.trans (((Below.refl _ _).drew.trans hb3).mono HB2.out.size);clear hb3)
    all_goals
     go_wp2_with fail
     refine Calls.mono (HCo.out _ HB3.out) ?_
     rintro e w4 ⟨rfl,hb4⟩
     replace x7a:=carry hb4 (World.block_lt_of_cell? _ _ x7a) x7a
     replace x8a:=carry hb4 (World.block_lt_of_cell? _ _ x8a) x8a
     have HB4:Hid (Below w.heap.size w w4):=HB3.out.trans (hb4.mono HB3.out.size)
     clear hb4
     go_wp2_with fail
     refine Calls.mono (HHa.out _ HB4.out) ?_
     rintro e w5 ⟨rfl,hb5⟩
     have HB5:Hid (Below w.heap.size w w5):=HB4.out.trans (hb5.mono HB4.out.size)
     clear hb5
     go_wp2
     go_ret
     exact⟨rB HZ.out,HB5.out⟩
end Go.Proofs.YtmhgaggpdggbeaaGreatDoor
