import Derived.Test.YtmhgaggpdggbeaaGreatDoorMR2d
namespace Go.Proofs.YtmhgaggpdggbeaaGreatDoor
open Go.RowKit
set_option maxRecDepth 20000
set_option linter.unusedVariables false

set_option maxRecDepth 8000 in
set_option maxHeartbeats 4000000 in
theorem specMethN (nm ds:ByteArray) (st ab fi:Bool) (sk lo:Int) (code:List InsD) (hands:List HandlerD) (a b:Option Addr) (ca cb:Nat) (w:World) (hnm:nm.size≤maxLen) (hds:ds.size≤maxLen) (hc:insR.slice.In w [.slice a code.length ca] code) (hh:handlerR.slice.In w [.slice b hands.length cb] hands) (hi:(nm.toList == [60,105,110,105,116,62])=false) (hbn:nameB nm=true) :
  Calls Tryz.prog 95 #[methV ⟨nm,ds,st,ab,fi,sk,lo,code,hands⟩ (.slice a code.length ca) (.slice b hands.length cb)] w fun e w'=>e = .returned (.bool (mOk ⟨nm,ds,st,ab,fi,sk,lo,code,hands⟩))∧Below w.heap.size w w':=by
 have HD:Hid (∀ w,Calls Tryz.prog 118 #[.string ds] w fun e w'=>(∃ v cap,e = .returned (outV (.slice v (dN ds) cap) (dR ds) (dA ds) (dC ds)))∧Below w.heap.size w w'):=fun w=>(specDescRead ds w hds).mono fun e w' h=>⟨dv_form h.1,h.2⟩
 have HN:Hid (∀ w,Calls Tryz.prog 93 #[.string nm] w fun e w'=>e = .returned (.bool (nameB nm))∧w'=w):=fun w=>specNameRight nm w hnm
 have hmn:mNameB nm=true:=by unfold mNameB;rw [hbn];rfl
 have hi':(nm.toList != [60,105,110,105,116,62])=true:=by rw [bne,hi];rfl
 rw [hbn] at HN
 have HMN:Hid (mNameB nm=true):=hmn
 have HIB:Hid (initB nm=false):=hi
 clear hbn hmn
 obtain ⟨_,_,ec,hc1,hc2,hc3⟩:=slice_open (by decide) hc
 cases ec
 obtain ⟨_,_,eh,hh1,hh2,hh3⟩:=slice_open (by decide) hh
 cases eh
 unfold maxLen at hc2 hh2
 have HC:=(show Hid (∀ i (h:i<code.length),∃ b o,a=some ⟨b,o,none⟩∧insR.At w ⟨b,o,none⟩ i code[i]) from hc3)
 have HH:=(show Hid (∀ i (h:i<hands.length),∃ b_1 o,b=some ⟨b_1,o,none⟩∧handlerR.At w ⟨b_1,o,none⟩ i hands[i]) from hh3)
 clear hc hh hc3 hh3 hnm hds
 have hdn:dN ds≤8:=dN_le ds
 unfold methV
 simp only
 obtain ⟨dc,hdc⟩:∃ x,dC ds=x:=⟨_,rfl⟩
 obtain ⟨dn,hdn2⟩:∃ x,dN ds=x:=⟨_,rfl⟩
 obtain ⟨dr,hdr⟩:∃ x,dR ds=x:=⟨_,rfl⟩
 obtain ⟨da,hda⟩:∃ x,dA ds=x:=⟨_,rfl⟩
 rw [hdc,hdn2,hdr,hda] at HD
 rw [hdn2] at hdn
 have HDC:Hid (dC ds=dc):=hdc
 have HDN:Hid (dN ds=dn):=hdn2
 have HDR:Hid (dR ds=dr):=hdr
 clear hdc hdn2 hdr hda
 cases hk:(dc == 0)
 ·have hk':(dc != 0)=true:=by rw [bne,hk];rfl
  have HZ:Hid (false=mOk ⟨nm,ds,st,ab,fi,sk,lo,code,hands⟩):=by show _=_;unfold mOk;simp only;rw [HMN.out,HDC.out,hk];rfl
  go_enter Tryz.func95,Tryz.ntmps95
  go_wp2_with fail
  refine Calls.mono (HD.out _) ?_
  rintro e w1 ⟨⟨v,cap,rfl⟩,hb1⟩
  obtain ⟨X0,X1,X2,X3,X4,X5,X6,X7,X8,hz0,HB1⟩:=m9 hb1
  clear hb1
  unfold outV
  go_wp2_with fail
  obtain ⟨W,hW,hz1,y0,y1,y2,y3,x0,x1,x2,x3,x4,x5,x6,x7,x8,HB⟩:=w9 (.cells #[.slice v dn cap,.string dr,.int .i64 da,.int .i64 dc] 159) rfl HB1 X0 X1 X2 X3 X4 X5 X6 X7 X8
  clear HB1 X0 X1 X2 X3 X4 X5 X6 X7 X8
  rw [hW]
  clear hW
  generalize w1.heap.size=B1 at *
  refine Calls.mono (HN.out _) ?_
  rintro e w2 ⟨rfl,hw2⟩
  subst w2
  go_wp2
  go_ret
  exact⟨rB HZ.out,HB.out⟩
 have hk':(dc != 0)=false:=by rw [bne,hk];rfl
 by_cases s0:0≤sk
 case neg =>
  have s0f:decide (0≤sk)=false:=by simpa using s0
  have s0g:decide (sk<0)=true:=by simp;omega
  have HZ:Hid (false=mOk ⟨nm,ds,st,ab,fi,sk,lo,code,hands⟩):=by show _=_;unfold mOk;simp only;rw [HMN.out,HDC.out,hk,s0f];rfl
  go_enter Tryz.func95,Tryz.ntmps95
  go_wp2_with fail
  refine Calls.mono (HD.out _) ?_
  rintro e w1 ⟨⟨v,cap,rfl⟩,hb1⟩
  obtain ⟨X0,X1,X2,X3,X4,X5,X6,X7,X8,hz0,HB1⟩:=m9 hb1
  clear hb1
  unfold outV
  go_wp2_with fail
  obtain ⟨W,hW,hz1,y0,y1,y2,y3,x0,x1,x2,x3,x4,x5,x6,x7,x8,HB⟩:=w9 (.cells #[.slice v dn cap,.string dr,.int .i64 da,.int .i64 dc] 159) rfl HB1 X0 X1 X2 X3 X4 X5 X6 X7 X8
  clear HB1 X0 X1 X2 X3 X4 X5 X6 X7 X8
  rw [hW]
  clear hW
  generalize w1.heap.size=B1 at *
  refine Calls.mono (HN.out _) ?_
  rintro e w2 ⟨rfl,hw2⟩
  subst w2
  go_wp2
  go_ret
  exact⟨rB HZ.out,HB.out⟩
 have s0f:decide (0≤sk)=true:=by simpa using s0
 have s0g:decide (sk<0)=false:=by simp;omega
 by_cases s1:sk≤16
 case neg =>
  have s1f:decide (sk≤16)=false:=by simpa using s1
  have s1g:decide (16<sk)=true:=by simp;omega
  have HZ:Hid (false=mOk ⟨nm,ds,st,ab,fi,sk,lo,code,hands⟩):=by show _=_;unfold mOk;simp only;rw [HMN.out,HDC.out,hk,s0f,s1f];rfl
  go_enter Tryz.func95,Tryz.ntmps95
  go_wp2_with fail
  refine Calls.mono (HD.out _) ?_
  rintro e w1 ⟨⟨v,cap,rfl⟩,hb1⟩
  obtain ⟨X0,X1,X2,X3,X4,X5,X6,X7,X8,hz0,HB1⟩:=m9 hb1
  clear hb1
  unfold outV
  go_wp2_with fail
  obtain ⟨W,hW,hz1,y0,y1,y2,y3,x0,x1,x2,x3,x4,x5,x6,x7,x8,HB⟩:=w9 (.cells #[.slice v dn cap,.string dr,.int .i64 da,.int .i64 dc] 159) rfl HB1 X0 X1 X2 X3 X4 X5 X6 X7 X8
  clear HB1 X0 X1 X2 X3 X4 X5 X6 X7 X8
  rw [hW]
  clear hW
  generalize w1.heap.size=B1 at *
  refine Calls.mono (HN.out _) ?_
  rintro e w2 ⟨rfl,hw2⟩
  subst w2
  go_wp2
  go_ret
  exact⟨rB HZ.out,HB.out⟩
 have s1f:decide (sk≤16)=true:=by simpa using s1
 have s1g:decide (16<sk)=false:=by simp;omega
 by_cases l0:0≤lo
 case neg =>
  have l0f:decide (0≤lo)=false:=by simpa using l0
  have l0g:decide (lo<0)=true:=by simp;omega
  have HZ:Hid (false=mOk ⟨nm,ds,st,ab,fi,sk,lo,code,hands⟩):=by show _=_;unfold mOk;simp only;rw [HMN.out,HDC.out,hk,s0f,s1f,l0f];rfl
  go_enter Tryz.func95,Tryz.ntmps95
  go_wp2_with fail
  refine Calls.mono (HD.out _) ?_
  rintro e w1 ⟨⟨v,cap,rfl⟩,hb1⟩
  obtain ⟨X0,X1,X2,X3,X4,X5,X6,X7,X8,hz0,HB1⟩:=m9 hb1
  clear hb1
  unfold outV
  go_wp2_with fail
  obtain ⟨W,hW,hz1,y0,y1,y2,y3,x0,x1,x2,x3,x4,x5,x6,x7,x8,HB⟩:=w9 (.cells #[.slice v dn cap,.string dr,.int .i64 da,.int .i64 dc] 159) rfl HB1 X0 X1 X2 X3 X4 X5 X6 X7 X8
  clear HB1 X0 X1 X2 X3 X4 X5 X6 X7 X8
  rw [hW]
  clear hW
  generalize w1.heap.size=B1 at *
  refine Calls.mono (HN.out _) ?_
  rintro e w2 ⟨rfl,hw2⟩
  subst w2
  go_wp2
  go_ret
  exact⟨rB HZ.out,HB.out⟩
 have l0f:decide (0≤lo)=true:=by simpa using l0
 have l0g:decide (lo<0)=false:=by simp;omega
 by_cases l1:lo≤16
 case neg =>
  have l1f:decide (lo≤16)=false:=by simpa using l1
  have l1g:decide (16<lo)=true:=by simp;omega
  have HZ:Hid (false=mOk ⟨nm,ds,st,ab,fi,sk,lo,code,hands⟩):=by show _=_;unfold mOk;simp only;rw [HMN.out,HDC.out,hk,s0f,s1f,l0f,l1f];rfl
  go_enter Tryz.func95,Tryz.ntmps95
  go_wp2_with fail
  refine Calls.mono (HD.out _) ?_
  rintro e w1 ⟨⟨v,cap,rfl⟩,hb1⟩
  obtain ⟨X0,X1,X2,X3,X4,X5,X6,X7,X8,hz0,HB1⟩:=m9 hb1
  clear hb1
  unfold outV
  go_wp2_with fail
  obtain ⟨W,hW,hz1,y0,y1,y2,y3,x0,x1,x2,x3,x4,x5,x6,x7,x8,HB⟩:=w9 (.cells #[.slice v dn cap,.string dr,.int .i64 da,.int .i64 dc] 159) rfl HB1 X0 X1 X2 X3 X4 X5 X6 X7 X8
  clear HB1 X0 X1 X2 X3 X4 X5 X6 X7 X8
  rw [hW]
  clear hW
  generalize w1.heap.size=B1 at *
  refine Calls.mono (HN.out _) ?_
  rintro e w2 ⟨rfl,hw2⟩
  subst w2
  go_wp2
  go_ret
  exact⟨rB HZ.out,HB.out⟩
 have l1f:decide (lo≤16)=true:=by simpa using l1
 have l1g:decide (16<lo)=false:=by simp;omega
 cases ab
 case true =>
  cases q0f:(sk == 0)
  case false =>
   have HZ:Hid (false=mOk ⟨nm,ds,st,true,fi,sk,lo,code,hands⟩):=by show _=_;unfold mOk;simp only;rw [HMN.out,HDC.out,hk,s0f,s1f,l0f,l1f];unfold absB;simp only;rw [q0f];rfl
   go_enter Tryz.func95,Tryz.ntmps95
   go_wp2_with fail
   refine Calls.mono (HD.out _) ?_
   rintro e w1 ⟨⟨v,cap,rfl⟩,hb1⟩
   obtain ⟨X0,X1,X2,X3,X4,X5,X6,X7,X8,hz0,HB1⟩:=m9 hb1
   clear hb1
   unfold outV
   go_wp2_with fail
   obtain ⟨W,hW,hz1,y0,y1,y2,y3,x0,x1,x2,x3,x4,x5,x6,x7,x8,HB⟩:=w9 (.cells #[.slice v dn cap,.string dr,.int .i64 da,.int .i64 dc] 159) rfl HB1 X0 X1 X2 X3 X4 X5 X6 X7 X8
   clear HB1 X0 X1 X2 X3 X4 X5 X6 X7 X8
   rw [hW]
   clear hW
   generalize w1.heap.size=B1 at *
   refine Calls.mono (HN.out _) ?_
   rintro e w2 ⟨rfl,hw2⟩
   subst w2
   go_wp2
   go_ret
   exact⟨rB HZ.out,HB.out⟩
  cases q1f:(lo == 0)
  case false =>
   have HZ:Hid (false=mOk ⟨nm,ds,st,true,fi,sk,lo,code,hands⟩):=by show _=_;unfold mOk;simp only;rw [HMN.out,HDC.out,hk,s0f,s1f,l0f,l1f];unfold absB;simp only;rw [q0f,q1f];rfl
   go_enter Tryz.func95,Tryz.ntmps95
   go_wp2_with fail
   refine Calls.mono (HD.out _) ?_
   rintro e w1 ⟨⟨v,cap,rfl⟩,hb1⟩
   obtain ⟨X0,X1,X2,X3,X4,X5,X6,X7,X8,hz0,HB1⟩:=m9 hb1
   clear hb1
   unfold outV
   go_wp2_with fail
   obtain ⟨W,hW,hz1,y0,y1,y2,y3,x0,x1,x2,x3,x4,x5,x6,x7,x8,HB⟩:=w9 (.cells #[.slice v dn cap,.string dr,.int .i64 da,.int .i64 dc] 159) rfl HB1 X0 X1 X2 X3 X4 X5 X6 X7 X8
   clear HB1 X0 X1 X2 X3 X4 X5 X6 X7 X8
   rw [hW]
   clear hW
   generalize w1.heap.size=B1 at *
   refine Calls.mono (HN.out _) ?_
   rintro e w2 ⟨rfl,hw2⟩
   subst w2
   go_wp2
   go_ret
   exact⟨rB HZ.out,HB.out⟩
  cases q2f:(code.length == 0)
  case false =>
   have q2g:((code.length:Int) == 0)=false:=by have:=beq_eq_false_iff_ne.1 q2f;rw [beq_eq_false_iff_ne];omega
   have HZ:Hid (false=mOk ⟨nm,ds,st,true,fi,sk,lo,code,hands⟩):=by show _=_;unfold mOk;simp only;rw [HMN.out,HDC.out,hk,s0f,s1f,l0f,l1f];unfold absB;simp only;rw [q0f,q1f,q2f];rfl
   go_enter Tryz.func95,Tryz.ntmps95
   go_wp2_with fail
   refine Calls.mono (HD.out _) ?_
   rintro e w1 ⟨⟨v,cap,rfl⟩,hb1⟩
   obtain ⟨X0,X1,X2,X3,X4,X5,X6,X7,X8,hz0,HB1⟩:=m9 hb1
   clear hb1
   unfold outV
   go_wp2_with fail
   obtain ⟨W,hW,hz1,y0,y1,y2,y3,x0,x1,x2,x3,x4,x5,x6,x7,x8,HB⟩:=w9 (.cells #[.slice v dn cap,.string dr,.int .i64 da,.int .i64 dc] 159) rfl HB1 X0 X1 X2 X3 X4 X5 X6 X7 X8
   clear HB1 X0 X1 X2 X3 X4 X5 X6 X7 X8
   rw [hW]
   clear hW
   generalize w1.heap.size=B1 at *
   refine Calls.mono (HN.out _) ?_
   rintro e w2 ⟨rfl,hw2⟩
   subst w2
   go_wp2
   go_ret
   exact⟨rB HZ.out,HB.out⟩
  have q2g:((code.length:Int) == 0)=true:=by have:=beq_iff_eq.1 q2f;rw [beq_iff_eq];omega
  cases q3f:(hands.length == 0)
  case false =>
   have q3g:((hands.length:Int) == 0)=false:=by have:=beq_eq_false_iff_ne.1 q3f;rw [beq_eq_false_iff_ne];omega
   have HZ:Hid (false=mOk ⟨nm,ds,st,true,fi,sk,lo,code,hands⟩):=by show _=_;unfold mOk;simp only;rw [HMN.out,HDC.out,hk,s0f,s1f,l0f,l1f];unfold absB;simp only;rw [q0f,q1f,q2f,q3f];rfl
   go_enter Tryz.func95,Tryz.ntmps95
   go_wp2_with fail
   refine Calls.mono (HD.out _) ?_
   rintro e w1 ⟨⟨v,cap,rfl⟩,hb1⟩
   obtain ⟨X0,X1,X2,X3,X4,X5,X6,X7,X8,hz0,HB1⟩:=m9 hb1
   clear hb1
   unfold outV
   go_wp2_with fail
   obtain ⟨W,hW,hz1,y0,y1,y2,y3,x0,x1,x2,x3,x4,x5,x6,x7,x8,HB⟩:=w9 (.cells #[.slice v dn cap,.string dr,.int .i64 da,.int .i64 dc] 159) rfl HB1 X0 X1 X2 X3 X4 X5 X6 X7 X8
   clear HB1 X0 X1 X2 X3 X4 X5 X6 X7 X8
   rw [hW]
   clear hW
   generalize w1.heap.size=B1 at *
   refine Calls.mono (HN.out _) ?_
   rintro e w2 ⟨rfl,hw2⟩
   subst w2
   go_wp2
   go_ret
   exact⟨rB HZ.out,HB.out⟩
  have q3g:((hands.length:Int) == 0)=true:=by have:=beq_iff_eq.1 q3f;rw [beq_iff_eq];omega
  have HQ:Hid (absB ⟨nm,ds,st,true,fi,sk,lo,code,hands⟩=(!st && (!fi && !initB nm))):=by show _=_;unfold absB;simp only;rw [q0f,q1f,q2f,q3f];rfl
  clear q2f q3f
  cases st
  case true =>
   have HZ:Hid (false=mOk ⟨nm,ds,true,true,fi,sk,lo,code,hands⟩):=by show _=_;unfold mOk;simp only;rw [HMN.out,HDC.out,hk,s0f,s1f,l0f,l1f,HQ.out];rfl
   go_enter Tryz.func95,Tryz.ntmps95
   go_wp2_with fail
   refine Calls.mono (HD.out _) ?_
   rintro e w1 ⟨⟨v,cap,rfl⟩,hb1⟩
   obtain ⟨X0,X1,X2,X3,X4,X5,X6,X7,X8,hz0,HB1⟩:=m9 hb1
   clear hb1
   unfold outV
   go_wp2_with fail
   obtain ⟨W,hW,hz1,y0,y1,y2,y3,x0,x1,x2,x3,x4,x5,x6,x7,x8,HB⟩:=w9 (.cells #[.slice v dn cap,.string dr,.int .i64 da,.int .i64 dc] 159) rfl HB1 X0 X1 X2 X3 X4 X5 X6 X7 X8
   clear HB1 X0 X1 X2 X3 X4 X5 X6 X7 X8
   rw [hW]
   clear hW
   generalize w1.heap.size=B1 at *
   refine Calls.mono (HN.out _) ?_
   rintro e w2 ⟨rfl,hw2⟩
   subst w2
   go_wp2
   go_ret
   exact⟨rB HZ.out,HB.out⟩
  cases fi
  case true =>
   have HZ:Hid (false=mOk ⟨nm,ds,false,true,true,sk,lo,code,hands⟩):=by show _=_;unfold mOk;simp only;rw [HMN.out,HDC.out,hk,s0f,s1f,l0f,l1f,HQ.out];rfl
   go_enter Tryz.func95,Tryz.ntmps95
   go_wp2_with fail
   refine Calls.mono (HD.out _) ?_
   rintro e w1 ⟨⟨v,cap,rfl⟩,hb1⟩
   obtain ⟨X0,X1,X2,X3,X4,X5,X6,X7,X8,hz0,HB1⟩:=m9 hb1
   clear hb1
   unfold outV
   go_wp2_with fail
   obtain ⟨W,hW,hz1,y0,y1,y2,y3,x0,x1,x2,x3,x4,x5,x6,x7,x8,HB⟩:=w9 (.cells #[.slice v dn cap,.string dr,.int .i64 da,.int .i64 dc] 159) rfl HB1 X0 X1 X2 X3 X4 X5 X6 X7 X8
   clear HB1 X0 X1 X2 X3 X4 X5 X6 X7 X8
   rw [hW]
   clear hW
   generalize w1.heap.size=B1 at *
   refine Calls.mono (HN.out _) ?_
   rintro e w2 ⟨rfl,hw2⟩
   subst w2
   go_wp2
   go_ret
   exact⟨rB HZ.out,HB.out⟩
  have HZ:Hid (true=mOk ⟨nm,ds,false,true,false,sk,lo,code,hands⟩):=by show _=_;unfold mOk;simp only;rw [HMN.out,HDC.out,hk,s0f,s1f,l0f,l1f,HQ.out,HIB.out];rfl
  go_enter Tryz.func95,Tryz.ntmps95
  go_wp2_with fail
  refine Calls.mono (HD.out _) ?_
  rintro e w1 ⟨⟨v,cap,rfl⟩,hb1⟩
  obtain ⟨X0,X1,X2,X3,X4,X5,X6,X7,X8,hz0,HB1⟩:=m9 hb1
  clear hb1
  unfold outV
  go_wp2_with fail
  obtain ⟨W,hW,hz1,y0,y1,y2,y3,x0,x1,x2,x3,x4,x5,x6,x7,x8,HB⟩:=w9 (.cells #[.slice v dn cap,.string dr,.int .i64 da,.int .i64 dc] 159) rfl HB1 X0 X1 X2 X3 X4 X5 X6 X7 X8
  clear HB1 X0 X1 X2 X3 X4 X5 X6 X7 X8
  rw [hW]
  clear hW
  generalize w1.heap.size=B1 at *
  refine Calls.mono (HN.out _) ?_
  rintro e w2 ⟨rfl,hw2⟩
  subst w2
  go_wp2
  go_ret
  exact⟨rB HZ.out,HB.out⟩
 have HR:Hid (mOk ⟨nm,ds,st,false,fi,sk,lo,code,hands⟩=restB ⟨nm,ds,st,false,fi,sk,lo,code,hands⟩):=by show _=_;unfold mOk;simp only;rw [HMN.out,HDC.out,hk,s0f,s1f,l0f,l1f];rfl
 cases st
 ·have HTk:Hid (takenI ⟨nm,ds,false,false,fi,sk,lo,code,hands⟩=(dn:Int)+1):=by show _=_;unfold takenI;simp only;rw [HDN.out];simp
  by_cases t0:1≤code.length
  case neg =>
   have t0g:decide ((code.length:Int)<1)=true:=by rw [decide_eq_true_eq];omega
   have HZ:Hid (false=mOk ⟨nm,ds,false,false,fi,sk,lo,code,hands⟩):=by show _=_;rw [HR.out];unfold restB;simp only;rw [decide_eq_false (p:=1≤code.length∧code.length≤60) (by omega)];rfl
   clear t0
   go_enter Tryz.func95,Tryz.ntmps95
   go_wp2_with fail
   refine Calls.mono (HD.out _) ?_
   rintro e w1 ⟨⟨v,cap,rfl⟩,hb1⟩
   obtain ⟨X0,X1,X2,X3,X4,X5,X6,X7,X8,hz0,HB1⟩:=m9 hb1
   clear hb1
   unfold outV
   go_wp2_with fail
   obtain ⟨W,hW,hz1,y0,y1,y2,y3,x0,x1,x2,x3,x4,x5,x6,x7,x8,HB⟩:=w9 (.cells #[.slice v dn cap,.string dr,.int .i64 da,.int .i64 dc] 159) rfl HB1 X0 X1 X2 X3 X4 X5 X6 X7 X8
   clear HB1 X0 X1 X2 X3 X4 X5 X6 X7 X8
   rw [hW]
   clear hW
   generalize w1.heap.size=B1 at *
   refine Calls.mono (HN.out _) ?_
   rintro e w2 ⟨rfl,hw2⟩
   subst w2
   go_wp2
   go_ret
   exact⟨rB HZ.out,HB.out⟩
  have t0g:decide ((code.length:Int)<1)=false:=by rw [decide_eq_false_iff_not];omega
  by_cases t1:code.length≤60
  case neg =>
   have t1g:decide ((60:Int)<code.length)=true:=by rw [decide_eq_true_eq];omega
   have HZ:Hid (false=mOk ⟨nm,ds,false,false,fi,sk,lo,code,hands⟩):=by show _=_;rw [HR.out];unfold restB;simp only;rw [decide_eq_false (p:=1≤code.length∧code.length≤60) (by omega)];rfl
   clear t0 t1
   go_enter Tryz.func95,Tryz.ntmps95
   go_wp2_with fail
   refine Calls.mono (HD.out _) ?_
   rintro e w1 ⟨⟨v,cap,rfl⟩,hb1⟩
   obtain ⟨X0,X1,X2,X3,X4,X5,X6,X7,X8,hz0,HB1⟩:=m9 hb1
   clear hb1
   unfold outV
   go_wp2_with fail
   obtain ⟨W,hW,hz1,y0,y1,y2,y3,x0,x1,x2,x3,x4,x5,x6,x7,x8,HB⟩:=w9 (.cells #[.slice v dn cap,.string dr,.int .i64 da,.int .i64 dc] 159) rfl HB1 X0 X1 X2 X3 X4 X5 X6 X7 X8
   clear HB1 X0 X1 X2 X3 X4 X5 X6 X7 X8
   rw [hW]
   clear hW
   generalize w1.heap.size=B1 at *
   refine Calls.mono (HN.out _) ?_
   rintro e w2 ⟨rfl,hw2⟩
   subst w2
   go_wp2
   go_ret
   exact⟨rB HZ.out,HB.out⟩
  have t1g:decide ((60:Int)<code.length)=false:=by rw [decide_eq_false_iff_not];omega
  have HT1:Hid (decide (1≤code.length∧code.length≤60)=true):=decide_eq_true (by omega)
  by_cases t2:(dn:Int)+1≤lo
  case neg =>
   have t2g:decide (lo<(dn:Int)+1)=true:=by rw [decide_eq_true_eq];omega
   have HZ:Hid (false=mOk ⟨nm,ds,false,false,fi,sk,lo,code,hands⟩):=by show _=_;rw [HR.out];unfold restB;simp only;rw [HT1.out,HTk.out,decide_eq_false t2];rfl
   go_enter Tryz.func95,Tryz.ntmps95
   go_wp2_with fail
   refine Calls.mono (HD.out _) ?_
   rintro e w1 ⟨⟨v,cap,rfl⟩,hb1⟩
   obtain ⟨X0,X1,X2,X3,X4,X5,X6,X7,X8,hz0,HB1⟩:=m9 hb1
   clear hb1
   unfold outV
   go_wp2_with fail
   obtain ⟨W,hW,hz1,y0,y1,y2,y3,x0,x1,x2,x3,x4,x5,x6,x7,x8,HB⟩:=w9 (.cells #[.slice v dn cap,.string dr,.int .i64 da,.int .i64 dc] 159) rfl HB1 X0 X1 X2 X3 X4 X5 X6 X7 X8
   clear HB1 X0 X1 X2 X3 X4 X5 X6 X7 X8
   rw [hW]
   clear hW
   generalize w1.heap.size=B1 at *
   refine Calls.mono (HN.out _) ?_
   rintro e w2 ⟨rfl,hw2⟩
   subst w2
   go_wp2
   go_ret
   exact⟨rB HZ.out,HB.out⟩
  have t2g:decide (lo<(dn:Int)+1)=false:=by rw [decide_eq_false_iff_not];omega
  have HT2:Hid (decide (takenI ⟨nm,ds,false,false,fi,sk,lo,code,hands⟩≤lo)=true):=decide_eq_true (by rw [HTk.out];exact t2)
  by_cases t3:hands.length≤6
  case neg =>
   have t3g:decide ((6:Int)<hands.length)=true:=by rw [decide_eq_true_eq];omega
   have HZ:Hid (false=mOk ⟨nm,ds,false,false,fi,sk,lo,code,hands⟩):=by show _=_;rw [HR.out];unfold restB;simp only;rw [HT1.out,HT2.out,decide_eq_false t3];rfl
   go_enter Tryz.func95,Tryz.ntmps95
   go_wp2_with fail
   refine Calls.mono (HD.out _) ?_
   rintro e w1 ⟨⟨v,cap,rfl⟩,hb1⟩
   obtain ⟨X0,X1,X2,X3,X4,X5,X6,X7,X8,hz0,HB1⟩:=m9 hb1
   clear hb1
   unfold outV
   go_wp2_with fail
   obtain ⟨W,hW,hz1,y0,y1,y2,y3,x0,x1,x2,x3,x4,x5,x6,x7,x8,HB⟩:=w9 (.cells #[.slice v dn cap,.string dr,.int .i64 da,.int .i64 dc] 159) rfl HB1 X0 X1 X2 X3 X4 X5 X6 X7 X8
   clear HB1 X0 X1 X2 X3 X4 X5 X6 X7 X8
   rw [hW]
   clear hW
   generalize w1.heap.size=B1 at *
   refine Calls.mono (HN.out _) ?_
   rintro e w2 ⟨rfl,hw2⟩
   subst w2
   go_wp2
   go_ret
   exact⟨rB HZ.out,HB.out⟩
  have t3g:decide ((6:Int)<hands.length)=false:=by rw [decide_eq_false_iff_not];omega
  have HT3:Hid (decide (hands.length≤6)=true):=decide_eq_true t3
  have HM:Hid (mOk ⟨nm,ds,false,false,fi,sk,lo,code,hands⟩=(codeB code code.length && (handsB hands code.length && (!initB nm || (!false && (!fi && (dr.toList == [86]))))))):=by show _=_;rw [HR.out];unfold restB;simp only;rw [HT1.out,HT2.out,HT3.out,HDR.out];rfl
  clear HT1 HT2 HT3 HR HTk HDC HDN HDR hdn
  go_enter Tryz.func95,Tryz.ntmps95
  go_wp2_with fail
  refine Calls.mono (HD.out _) ?_
  rintro e w1 ⟨⟨v,cap,rfl⟩,hb1⟩
  obtain ⟨X0,X1,X2,X3,X4,X5,X6,X7,X8,hz0,HB1⟩:=m9 hb1
  clear hb1
  unfold outV
  go_wp2_with fail
  obtain ⟨W,hW,hz1,y0,y1,y2,y3,x0,x1,x2,x3,x4,x5,x6,x7,x8,HB⟩:=w9 (.cells #[.slice v dn cap,.string dr,.int .i64 da,.int .i64 dc] 159) rfl HB1 X0 X1 X2 X3 X4 X5 X6 X7 X8
  clear HB1 X0 X1 X2 X3 X4 X5 X6 X7 X8
  rw [hW]
  clear hW
  generalize w1.heap.size=B1 at *
  refine Calls.mono (HN.out _) ?_
  rintro e w2 ⟨rfl,hw2⟩
  subst w2
  go_wp2_with fail
  go_loopw [6] (fun j6 wr=>∃ i:Nat,i≤code.length∧j6 = .int .i64 (i:Int)∧Below W.heap.size W wr∧∀ k (hk:k<code.length),k<i→insGood code[k] code.length=true) (fun j6 _=>code.length - (intOf j6).toNat)
  case atStart=>exact⟨0,Nat.zero_le _,rfl,Below.refl _ _,fun k hk hk0=>by omega⟩
  case round =>
   obtain ⟨i,hi2,rfl,hb,hgood⟩:=hrel
   replace x0:=carry hb (show w.heap.size<W.heap.size by omega) x0
   replace x1:=carry hb (show w.heap.size<W.heap.size by omega) x1
   replace x2:=carry hb (show w.heap.size<W.heap.size by omega) x2
   replace x3:=carry hb (show w.heap.size<W.heap.size by omega) x3
   replace x4:=carry hb (show w.heap.size<W.heap.size by omega) x4
   replace x5:=carry hb (show w.heap.size<W.heap.size by omega) x5
   replace x6:=carry hb (show w.heap.size<W.heap.size by omega) x6
   replace x7:=carry hb (show w.heap.size<W.heap.size by omega) x7
   replace x8:=carry hb (show w.heap.size<W.heap.size by omega) x8
   replace y0:=carry hb (show B1<W.heap.size by omega) y0
   replace y1:=carry hb (show B1<W.heap.size by omega) y1
   replace y2:=carry hb (show B1<W.heap.size by omega) y2
   replace y3:=carry hb (show B1<W.heap.size by omega) y3
   have hwr:W.heap.size≤wr.heap.size:=hb.size
   have HBr:Hid (Below w.heap.size w wr):=HB.out.trans (hb.mono HB.out.size)
   have HBW:Hid (Below W.heap.size W wr):=hb
   have HGd:=(show Hid (∀ k (hk:k<code.length),k<i→insGood code[k] code.length=true) from hgood)
   clear hb hgood
   by_cases hlt:i<code.length
   ·obtain ⟨bb,o,rfl,hx⟩:=HC.out i hlt
    obtain ⟨g0,g1,g2,g3,g4,r0,r1,s2,s3,s4⟩:=insAt (hx.mono HBr.out)
    have HE:Hid (insGood code[i] code.length=false→false=mOk ⟨nm,ds,false,false,fi,sk,lo,code,hands⟩):=fun hf=>by
     rw [HM.out,show codeB code code.length=false from all_at_false (p:=fun x=>insGood x code.length) i hlt hf];rfl
    have HE2:Hid (insGood code[i] code.length=true→∀ k (hk:k<code.length),k<i+1→insGood code[k] code.length=true):=fun hf k hk hk1=>by
     by_cases e:k=i
     ·subst e;exact hf
     ·exact HGd.out k hk (by omega)
    clear hx HGd
    generalize code[i]=d at *
    obtain ⟨op,a1,c,n,dd⟩:=d
    simp only at g0 g1 g2 g3 g4 r0 r1 s2 s3 s4
    have HI:Hid (∀ w,Calls Tryz.prog 119 #[.agg #[.int .i64 op,.int .i64 a1,.string c,.string n,.string dd]] w fun e w'=>e = .returned (.bool (insOk (fmS op) a1 c n dd))∧Below w.heap.size w w'):=fun w=>specInsRight op a1 c n dd w r0 s2 s3 s4
    have HF:Hid (∀ w,Calls Tryz.prog 120 #[.int .i64 op] w fun e w'=>e = .returned (.string (fmS op))∧Below w.heap.size w w'):=fun w=>specOpForm op w r0
    unfold insGood at HE HE2
    simp only at HE HE2
    clear r0 r1 s2 s3 s4
    generalize insOk (fmS op) a1 c n dd=q at *
    generalize fmS op=fm at *
    have hbl:bb<wr.heap.size:=World.block_lt_of_cell? _ _ g0
    go_wp2_with fail
    refine Calls.mono (HI.out _) ?_
    rintro e w3 ⟨rfl,hb3⟩
    replace x0:=carry hb3 (show w.heap.size<wr.heap.size by omega) x0
    replace x1:=carry hb3 (show w.heap.size<wr.heap.size by omega) x1
    replace x2:=carry hb3 (show w.heap.size<wr.heap.size by omega) x2
    replace x3:=carry hb3 (show w.heap.size<wr.heap.size by omega) x3
    replace x4:=carry hb3 (show w.heap.size<wr.heap.size by omega) x4
    replace x5:=carry hb3 (show w.heap.size<wr.heap.size by omega) x5
    replace x6:=carry hb3 (show w.heap.size<wr.heap.size by omega) x6
    replace x7:=carry hb3 (show w.heap.size<wr.heap.size by omega) x7
    replace x8:=carry hb3 (show w.heap.size<wr.heap.size by omega) x8
    replace y0:=carry hb3 (show B1<wr.heap.size by omega) y0
    replace y1:=carry hb3 (show B1<wr.heap.size by omega) y1
    replace y2:=carry hb3 (show B1<wr.heap.size by omega) y2
    replace y3:=carry hb3 (show B1<wr.heap.size by omega) y3
    replace g0:=carry hb3 hbl g0
    replace g1:=carry hb3 hbl g1
    replace g2:=carry hb3 hbl g2
    replace g3:=carry hb3 hbl g3
    replace g4:=carry hb3 hbl g4
    have hw3:wr.heap.size≤w3.heap.size:=hb3.size
    have HB3:Hid (Below w.heap.size w w3):=HBr.out.trans (hb3.mono HBr.out.size)
    have HBW3:Hid (Below W.heap.size W w3):=HBW.out.trans (hb3.mono HBW.out.size)
    clear hb3
    cases q
    ·go_wp2
     go_ret
     exact⟨rB (HE.out rfl),HB3.out⟩
    ·go_wp2_with fail
     refine Calls.mono (HF.out _) ?_
     rintro e w4 ⟨rfl,hb4⟩
     replace x0:=carry hb4 (show w.heap.size<w3.heap.size by omega) x0
     replace x1:=carry hb4 (show w.heap.size<w3.heap.size by omega) x1
     replace x2:=carry hb4 (show w.heap.size<w3.heap.size by omega) x2
     replace x3:=carry hb4 (show w.heap.size<w3.heap.size by omega) x3
     replace x4:=carry hb4 (show w.heap.size<w3.heap.size by omega) x4
     replace x5:=carry hb4 (show w.heap.size<w3.heap.size by omega) x5
     replace x6:=carry hb4 (show w.heap.size<w3.heap.size by omega) x6
     replace x7:=carry hb4 (show w.heap.size<w3.heap.size by omega) x7
     replace x8:=carry hb4 (show w.heap.size<w3.heap.size by omega) x8
     replace y0:=carry hb4 (show B1<w3.heap.size by omega) y0
     replace y1:=carry hb4 (show B1<w3.heap.size by omega) y1
     replace y2:=carry hb4 (show B1<w3.heap.size by omega) y2
     replace y3:=carry hb4 (show B1<w3.heap.size by omega) y3
     replace g0:=carry hb4 (show bb<w3.heap.size by omega) g0
     replace g1:=carry hb4 (show bb<w3.heap.size by omega) g1
     replace g2:=carry hb4 (show bb<w3.heap.size by omega) g2
     replace g3:=carry hb4 (show bb<w3.heap.size by omega) g3
     replace g4:=carry hb4 (show bb<w3.heap.size by omega) g4
     have HB4:Hid (Below w.heap.size w w4):=HB3.out.trans (hb4.mono HB3.out.size)
     have HBW4:Hid (Below W.heap.size W w4):=HBW3.out.trans (hb4.mono HBW3.out.size)
     clear hb4
     cases hf:(fm.toList == [116])
     ·rw [hf] at HE HE2
      go_wp2
      go_roundw
      case rel=>exact⟨i+1,by omega,rfl,HBW4.out,HE2.out rfl⟩
      case measure=>simp [intOf];omega
     ·rw [hf] at HE HE2
      by_cases hl:(code.length:Int)≤a1
      ·have dl:decide ((code.length:Int)≤a1)=true:=by simpa using hl
       rw [dl] at HE HE2
       go_wp2
       go_ret
       exact⟨rB (HE.out rfl),HB4.out⟩
      ·have dl:decide ((code.length:Int)≤a1)=false:=by simpa using hl
       rw [dl] at HE HE2
       go_wp2
       go_roundw
       case rel=>exact⟨i+1,by omega,rfl,HBW4.out,HE2.out rfl⟩
       case measure=>simp [intOf];omega
   ·obtain rfl:i=code.length:=by omega
    have HCB:Hid (codeB code code.length=true):=all_at_true (p:=fun x=>insGood x code.length) (fun k hk=>HGd.out k hk hk)
    clear HGd
    obtain ⟨wa,hwa⟩:∃ x,x=wr:=⟨_,rfl⟩
    subst wr
    go_wp2_with fail
    go_loopw [7] (fun j7 wq=>∃ i:Nat,i≤hands.length∧j7 = .int .i64 (i:Int)∧Below wa.heap.size wa wq∧∀ k (hk:k<hands.length),k<i→hGood hands[k] code.length=true) (fun j7 _=>hands.length - (intOf j7).toNat)
    case atStart=>exact⟨0,Nat.zero_le _,rfl,Below.refl _ _,fun k hk hk0=>by omega⟩
    case round =>
     obtain ⟨i,hi2,rfl,hb,hgood⟩:=hrel
     replace x0:=carry hb (show w.heap.size<wa.heap.size by omega) x0
     replace x1:=carry hb (show w.heap.size<wa.heap.size by omega) x1
     replace x2:=carry hb (show w.heap.size<wa.heap.size by omega) x2
     replace x3:=carry hb (show w.heap.size<wa.heap.size by omega) x3
     replace x4:=carry hb (show w.heap.size<wa.heap.size by omega) x4
     replace x5:=carry hb (show w.heap.size<wa.heap.size by omega) x5
     replace x6:=carry hb (show w.heap.size<wa.heap.size by omega) x6
     replace x7:=carry hb (show w.heap.size<wa.heap.size by omega) x7
     replace x8:=carry hb (show w.heap.size<wa.heap.size by omega) x8
     replace y0:=carry hb (show B1<wa.heap.size by omega) y0
     replace y1:=carry hb (show B1<wa.heap.size by omega) y1
     replace y2:=carry hb (show B1<wa.heap.size by omega) y2
     replace y3:=carry hb (show B1<wa.heap.size by omega) y3
     have hwq:wa.heap.size≤wr.heap.size:=hb.size
     have HBq:Hid (Below w.heap.size w wr):=HBr.out.trans (hb.mono HBr.out.size)
     have HBq2:Hid (Below wa.heap.size wa wr):=hb
     have HGd:=(show Hid (∀ k (hk:k<hands.length),k<i→hGood hands[k] code.length=true) from hgood)
     clear hb hgood
     by_cases hlt:i<hands.length
     ·obtain ⟨bb,o,rfl,hx⟩:=HH.out i hlt
      obtain ⟨g0,g1,g2,g3,s3⟩:=handlerAt (hx.mono HBq.out)
      have HE:Hid (hGood hands[i] code.length=false→false=mOk ⟨nm,ds,false,false,fi,sk,lo,code,hands⟩):=fun hf=>by
       rw [HM.out,HCB.out,show handsB hands code.length=false from all_at_false (p:=fun x=>hGood x code.length) i hlt hf];rfl
      have HE2:Hid (hGood hands[i] code.length=true→∀ k (hk:k<hands.length),k<i+1→hGood hands[k] code.length=true):=fun hf k hk hk1=>by
       by_cases e:k=i
       ·subst e;exact hf
       ·exact HGd.out k hk (by omega)
      clear hx HGd
      generalize hands[i]=d at *
      obtain ⟨fr,to,at_,c⟩:=d
      simp only at g0 g1 g2 g3 s3
      have HL:Hid (∀ w,Calls Tryz.prog 121 #[.agg #[.int .i64 fr,.int .i64 to,.int .i64 at_,.string c],.int .i64 code.length] w fun e w'=>e = .returned (.bool (hGood (fr,to,at_,c) code.length))∧Below w.heap.size w w'):=fun w=>specHandler fr to at_ c code.length w s3
      clear s3
      generalize hGood (fr,to,at_,c) code.length=q at *
      go_wp2_with fail
      refine Calls.mono (HL.out _) ?_
      rintro e w3 ⟨rfl,hb3⟩
      have HB3:Hid (Below w.heap.size w w3):=HBq.out.trans (hb3.mono HBq.out.size)
      have HB4:Hid (Below wa.heap.size wa w3):=HBq2.out.trans (hb3.mono HBq2.out.size)
      clear hb3
      cases q
      ·go_wp2
       go_ret
       exact⟨rB (HE.out (by simp)),HB3.out⟩
      ·go_wp2
       go_roundw
       case rel=>exact⟨i+1,by omega,rfl,HB4.out,HE2.out (by simp)⟩
       case measure=>simp [intOf];omega
     ·obtain rfl:i=hands.length:=by omega
      have HHB:Hid (handsB hands code.length=true):=all_at_true (p:=fun x=>hGood x code.length) (fun k hk=>HGd.out k hk hk)
      have HM2:Hid (mOk ⟨nm,ds,false,false,fi,sk,lo,code,hands⟩=(!initB nm || (!false && (!fi && (dr.toList == [86]))))):=by show _=_;rw [HM.out,HCB.out,HHB.out];rfl
      clear HGd HM
      have HZ:Hid (true=mOk ⟨nm,ds,false,false,fi,sk,lo,code,hands⟩):=by show _=_;rw [HM2.out,HIB.out];rfl
      go_wp2
      go_ret
      exact⟨rB HZ.out,HBq.out⟩
 ·have HTk:Hid (takenI ⟨nm,ds,true,false,fi,sk,lo,code,hands⟩=(dn:Int)):=by show _=_;unfold takenI;simp only;rw [HDN.out];simp
  by_cases t0:1≤code.length
  case neg =>
   have t0g:decide ((code.length:Int)<1)=true:=by rw [decide_eq_true_eq];omega
   have HZ:Hid (false=mOk ⟨nm,ds,true,false,fi,sk,lo,code,hands⟩):=by show _=_;rw [HR.out];unfold restB;simp only;rw [decide_eq_false (p:=1≤code.length∧code.length≤60) (by omega)];rfl
   clear t0
   go_enter Tryz.func95,Tryz.ntmps95
   go_wp2_with fail
   refine Calls.mono (HD.out _) ?_
   rintro e w1 ⟨⟨v,cap,rfl⟩,hb1⟩
   obtain ⟨X0,X1,X2,X3,X4,X5,X6,X7,X8,hz0,HB1⟩:=m9 hb1
   clear hb1
   unfold outV
   go_wp2_with fail
   obtain ⟨W,hW,hz1,y0,y1,y2,y3,x0,x1,x2,x3,x4,x5,x6,x7,x8,HB⟩:=w9 (.cells #[.slice v dn cap,.string dr,.int .i64 da,.int .i64 dc] 159) rfl HB1 X0 X1 X2 X3 X4 X5 X6 X7 X8
   clear HB1 X0 X1 X2 X3 X4 X5 X6 X7 X8
   rw [hW]
   clear hW
   generalize w1.heap.size=B1 at *
   refine Calls.mono (HN.out _) ?_
   rintro e w2 ⟨rfl,hw2⟩
   subst w2
   go_wp2
   go_ret
   exact⟨rB HZ.out,HB.out⟩
  have t0g:decide ((code.length:Int)<1)=false:=by rw [decide_eq_false_iff_not];omega
  by_cases t1:code.length≤60
  case neg =>
   have t1g:decide ((60:Int)<code.length)=true:=by rw [decide_eq_true_eq];omega
   have HZ:Hid (false=mOk ⟨nm,ds,true,false,fi,sk,lo,code,hands⟩):=by show _=_;rw [HR.out];unfold restB;simp only;rw [decide_eq_false (p:=1≤code.length∧code.length≤60) (by omega)];rfl
   clear t0 t1
   go_enter Tryz.func95,Tryz.ntmps95
   go_wp2_with fail
   refine Calls.mono (HD.out _) ?_
   rintro e w1 ⟨⟨v,cap,rfl⟩,hb1⟩
   obtain ⟨X0,X1,X2,X3,X4,X5,X6,X7,X8,hz0,HB1⟩:=m9 hb1
   clear hb1
   unfold outV
   go_wp2_with fail
   obtain ⟨W,hW,hz1,y0,y1,y2,y3,x0,x1,x2,x3,x4,x5,x6,x7,x8,HB⟩:=w9 (.cells #[.slice v dn cap,.string dr,.int .i64 da,.int .i64 dc] 159) rfl HB1 X0 X1 X2 X3 X4 X5 X6 X7 X8
   clear HB1 X0 X1 X2 X3 X4 X5 X6 X7 X8
   rw [hW]
   clear hW
   generalize w1.heap.size=B1 at *
   refine Calls.mono (HN.out _) ?_
   rintro e w2 ⟨rfl,hw2⟩
   subst w2
   go_wp2
   go_ret
   exact⟨rB HZ.out,HB.out⟩
  have t1g:decide ((60:Int)<code.length)=false:=by rw [decide_eq_false_iff_not];omega
  have HT1:Hid (decide (1≤code.length∧code.length≤60)=true):=decide_eq_true (by omega)
  by_cases t2:(dn:Int)≤lo
  case neg =>
   have t2g:decide (lo<(dn:Int))=true:=by rw [decide_eq_true_eq];omega
   have HZ:Hid (false=mOk ⟨nm,ds,true,false,fi,sk,lo,code,hands⟩):=by show _=_;rw [HR.out];unfold restB;simp only;rw [HT1.out,HTk.out,decide_eq_false t2];rfl
   go_enter Tryz.func95,Tryz.ntmps95
   go_wp2_with fail
   refine Calls.mono (HD.out _) ?_
   rintro e w1 ⟨⟨v,cap,rfl⟩,hb1⟩
   obtain ⟨X0,X1,X2,X3,X4,X5,X6,X7,X8,hz0,HB1⟩:=m9 hb1
   clear hb1
   unfold outV
   go_wp2_with fail
   obtain ⟨W,hW,hz1,y0,y1,y2,y3,x0,x1,x2,x3,x4,x5,x6,x7,x8,HB⟩:=w9 (.cells #[.slice v dn cap,.string dr,.int .i64 da,.int .i64 dc] 159) rfl HB1 X0 X1 X2 X3 X4 X5 X6 X7 X8
   clear HB1 X0 X1 X2 X3 X4 X5 X6 X7 X8
   rw [hW]
   clear hW
   generalize w1.heap.size=B1 at *
   refine Calls.mono (HN.out _) ?_
   rintro e w2 ⟨rfl,hw2⟩
   subst w2
   go_wp2
   go_ret
   exact⟨rB HZ.out,HB.out⟩
  have t2g:decide (lo<(dn:Int))=false:=by rw [decide_eq_false_iff_not];omega
  have HT2:Hid (decide (takenI ⟨nm,ds,true,false,fi,sk,lo,code,hands⟩≤lo)=true):=decide_eq_true (by rw [HTk.out];exact t2)
  by_cases t3:hands.length≤6
  case neg =>
   have t3g:decide ((6:Int)<hands.length)=true:=by rw [decide_eq_true_eq];omega
   have HZ:Hid (false=mOk ⟨nm,ds,true,false,fi,sk,lo,code,hands⟩):=by show _=_;rw [HR.out];unfold restB;simp only;rw [HT1.out,HT2.out,decide_eq_false t3];rfl
   go_enter Tryz.func95,Tryz.ntmps95
   go_wp2_with fail
   refine Calls.mono (HD.out _) ?_
   rintro e w1 ⟨⟨v,cap,rfl⟩,hb1⟩
   obtain ⟨X0,X1,X2,X3,X4,X5,X6,X7,X8,hz0,HB1⟩:=m9 hb1
   clear hb1
   unfold outV
   go_wp2_with fail
   obtain ⟨W,hW,hz1,y0,y1,y2,y3,x0,x1,x2,x3,x4,x5,x6,x7,x8,HB⟩:=w9 (.cells #[.slice v dn cap,.string dr,.int .i64 da,.int .i64 dc] 159) rfl HB1 X0 X1 X2 X3 X4 X5 X6 X7 X8
   clear HB1 X0 X1 X2 X3 X4 X5 X6 X7 X8
   rw [hW]
   clear hW
   generalize w1.heap.size=B1 at *
   refine Calls.mono (HN.out _) ?_
   rintro e w2 ⟨rfl,hw2⟩
   subst w2
   go_wp2
   go_ret
   exact⟨rB HZ.out,HB.out⟩
  have t3g:decide ((6:Int)<hands.length)=false:=by rw [decide_eq_false_iff_not];omega
  have HT3:Hid (decide (hands.length≤6)=true):=decide_eq_true t3
  have HM:Hid (mOk ⟨nm,ds,true,false,fi,sk,lo,code,hands⟩=(codeB code code.length && (handsB hands code.length && (!initB nm || (!true && (!fi && (dr.toList == [86]))))))):=by show _=_;rw [HR.out];unfold restB;simp only;rw [HT1.out,HT2.out,HT3.out,HDR.out];rfl
  clear HT1 HT2 HT3 HR HTk HDC HDN HDR hdn
  go_enter Tryz.func95,Tryz.ntmps95
  go_wp2_with fail
  refine Calls.mono (HD.out _) ?_
  rintro e w1 ⟨⟨v,cap,rfl⟩,hb1⟩
  obtain ⟨X0,X1,X2,X3,X4,X5,X6,X7,X8,hz0,HB1⟩:=m9 hb1
  clear hb1
  unfold outV
  go_wp2_with fail
  obtain ⟨W,hW,hz1,y0,y1,y2,y3,x0,x1,x2,x3,x4,x5,x6,x7,x8,HB⟩:=w9 (.cells #[.slice v dn cap,.string dr,.int .i64 da,.int .i64 dc] 159) rfl HB1 X0 X1 X2 X3 X4 X5 X6 X7 X8
  clear HB1 X0 X1 X2 X3 X4 X5 X6 X7 X8
  rw [hW]
  clear hW
  generalize w1.heap.size=B1 at *
  refine Calls.mono (HN.out _) ?_
  rintro e w2 ⟨rfl,hw2⟩
  subst w2
  go_wp2_with fail
  go_loopw [6] (fun j6 wr=>∃ i:Nat,i≤code.length∧j6 = .int .i64 (i:Int)∧Below W.heap.size W wr∧∀ k (hk:k<code.length),k<i→insGood code[k] code.length=true) (fun j6 _=>code.length - (intOf j6).toNat)
  case atStart=>exact⟨0,Nat.zero_le _,rfl,Below.refl _ _,fun k hk hk0=>by omega⟩
  case round =>
   obtain ⟨i,hi2,rfl,hb,hgood⟩:=hrel
   replace x0:=carry hb (show w.heap.size<W.heap.size by omega) x0
   replace x1:=carry hb (show w.heap.size<W.heap.size by omega) x1
   replace x2:=carry hb (show w.heap.size<W.heap.size by omega) x2
   replace x3:=carry hb (show w.heap.size<W.heap.size by omega) x3
   replace x4:=carry hb (show w.heap.size<W.heap.size by omega) x4
   replace x5:=carry hb (show w.heap.size<W.heap.size by omega) x5
   replace x6:=carry hb (show w.heap.size<W.heap.size by omega) x6
   replace x7:=carry hb (show w.heap.size<W.heap.size by omega) x7
   replace x8:=carry hb (show w.heap.size<W.heap.size by omega) x8
   replace y0:=carry hb (show B1<W.heap.size by omega) y0
   replace y1:=carry hb (show B1<W.heap.size by omega) y1
   replace y2:=carry hb (show B1<W.heap.size by omega) y2
   replace y3:=carry hb (show B1<W.heap.size by omega) y3
   have hwr:W.heap.size≤wr.heap.size:=hb.size
   have HBr:Hid (Below w.heap.size w wr):=HB.out.trans (hb.mono HB.out.size)
   have HBW:Hid (Below W.heap.size W wr):=hb
   have HGd:=(show Hid (∀ k (hk:k<code.length),k<i→insGood code[k] code.length=true) from hgood)
   clear hb hgood
   by_cases hlt:i<code.length
   ·obtain ⟨bb,o,rfl,hx⟩:=HC.out i hlt
    obtain ⟨g0,g1,g2,g3,g4,r0,r1,s2,s3,s4⟩:=insAt (hx.mono HBr.out)
    have HE:Hid (insGood code[i] code.length=false→false=mOk ⟨nm,ds,true,false,fi,sk,lo,code,hands⟩):=fun hf=>by
     rw [HM.out,show codeB code code.length=false from all_at_false (p:=fun x=>insGood x code.length) i hlt hf];rfl
    have HE2:Hid (insGood code[i] code.length=true→∀ k (hk:k<code.length),k<i+1→insGood code[k] code.length=true):=fun hf k hk hk1=>by
     by_cases e:k=i
     ·subst e;exact hf
     ·exact HGd.out k hk (by omega)
    clear hx HGd
    generalize code[i]=d at *
    obtain ⟨op,a1,c,n,dd⟩:=d
    simp only at g0 g1 g2 g3 g4 r0 r1 s2 s3 s4
    have HI:Hid (∀ w,Calls Tryz.prog 119 #[.agg #[.int .i64 op,.int .i64 a1,.string c,.string n,.string dd]] w fun e w'=>e = .returned (.bool (insOk (fmS op) a1 c n dd))∧Below w.heap.size w w'):=fun w=>specInsRight op a1 c n dd w r0 s2 s3 s4
    have HF:Hid (∀ w,Calls Tryz.prog 120 #[.int .i64 op] w fun e w'=>e = .returned (.string (fmS op))∧Below w.heap.size w w'):=fun w=>specOpForm op w r0
    unfold insGood at HE HE2
    simp only at HE HE2
    clear r0 r1 s2 s3 s4
    generalize insOk (fmS op) a1 c n dd=q at *
    generalize fmS op=fm at *
    have hbl:bb<wr.heap.size:=World.block_lt_of_cell? _ _ g0
    go_wp2_with fail
    refine Calls.mono (HI.out _) ?_
    rintro e w3 ⟨rfl,hb3⟩
    replace x0:=carry hb3 (show w.heap.size<wr.heap.size by omega) x0
    replace x1:=carry hb3 (show w.heap.size<wr.heap.size by omega) x1
    replace x2:=carry hb3 (show w.heap.size<wr.heap.size by omega) x2
    replace x3:=carry hb3 (show w.heap.size<wr.heap.size by omega) x3
    replace x4:=carry hb3 (show w.heap.size<wr.heap.size by omega) x4
    replace x5:=carry hb3 (show w.heap.size<wr.heap.size by omega) x5
    replace x6:=carry hb3 (show w.heap.size<wr.heap.size by omega) x6
    replace x7:=carry hb3 (show w.heap.size<wr.heap.size by omega) x7
    replace x8:=carry hb3 (show w.heap.size<wr.heap.size by omega) x8
    replace y0:=carry hb3 (show B1<wr.heap.size by omega) y0
    replace y1:=carry hb3 (show B1<wr.heap.size by omega) y1
    replace y2:=carry hb3 (show B1<wr.heap.size by omega) y2
    replace y3:=carry hb3 (show B1<wr.heap.size by omega) y3
    replace g0:=carry hb3 hbl g0
    replace g1:=carry hb3 hbl g1
    replace g2:=carry hb3 hbl g2
    replace g3:=carry hb3 hbl g3
    replace g4:=carry hb3 hbl g4
    have hw3:wr.heap.size≤w3.heap.size:=hb3.size
    have HB3:Hid (Below w.heap.size w w3):=HBr.out.trans (hb3.mono HBr.out.size)
    have HBW3:Hid (Below W.heap.size W w3):=HBW.out.trans (hb3.mono HBW.out.size)
    clear hb3
    cases q
    ·go_wp2
     go_ret
     exact⟨rB (HE.out rfl),HB3.out⟩
    ·go_wp2_with fail
     refine Calls.mono (HF.out _) ?_
     rintro e w4 ⟨rfl,hb4⟩
     replace x0:=carry hb4 (show w.heap.size<w3.heap.size by omega) x0
     replace x1:=carry hb4 (show w.heap.size<w3.heap.size by omega) x1
     replace x2:=carry hb4 (show w.heap.size<w3.heap.size by omega) x2
     replace x3:=carry hb4 (show w.heap.size<w3.heap.size by omega) x3
     replace x4:=carry hb4 (show w.heap.size<w3.heap.size by omega) x4
     replace x5:=carry hb4 (show w.heap.size<w3.heap.size by omega) x5
     replace x6:=carry hb4 (show w.heap.size<w3.heap.size by omega) x6
     replace x7:=carry hb4 (show w.heap.size<w3.heap.size by omega) x7
     replace x8:=carry hb4 (show w.heap.size<w3.heap.size by omega) x8
     replace y0:=carry hb4 (show B1<w3.heap.size by omega) y0
     replace y1:=carry hb4 (show B1<w3.heap.size by omega) y1
     replace y2:=carry hb4 (show B1<w3.heap.size by omega) y2
     replace y3:=carry hb4 (show B1<w3.heap.size by omega) y3
     replace g0:=carry hb4 (show bb<w3.heap.size by omega) g0
     replace g1:=carry hb4 (show bb<w3.heap.size by omega) g1
     replace g2:=carry hb4 (show bb<w3.heap.size by omega) g2
     replace g3:=carry hb4 (show bb<w3.heap.size by omega) g3
     replace g4:=carry hb4 (show bb<w3.heap.size by omega) g4
     have HB4:Hid (Below w.heap.size w w4):=HB3.out.trans (hb4.mono HB3.out.size)
     have HBW4:Hid (Below W.heap.size W w4):=HBW3.out.trans (hb4.mono HBW3.out.size)
     clear hb4
     cases hf:(fm.toList == [116])
     ·rw [hf] at HE HE2
      go_wp2
      go_roundw
      case rel=>exact⟨i+1,by omega,rfl,HBW4.out,HE2.out rfl⟩
      case measure=>simp [intOf];omega
     ·rw [hf] at HE HE2
      by_cases hl:(code.length:Int)≤a1
      ·have dl:decide ((code.length:Int)≤a1)=true:=by simpa using hl
       rw [dl] at HE HE2
       go_wp2
       go_ret
       exact⟨rB (HE.out rfl),HB4.out⟩
      ·have dl:decide ((code.length:Int)≤a1)=false:=by simpa using hl
       rw [dl] at HE HE2
       go_wp2
       go_roundw
       case rel=>exact⟨i+1,by omega,rfl,HBW4.out,HE2.out rfl⟩
       case measure=>simp [intOf];omega
   ·obtain rfl:i=code.length:=by omega
    have HCB:Hid (codeB code code.length=true):=all_at_true (p:=fun x=>insGood x code.length) (fun k hk=>HGd.out k hk hk)
    clear HGd
    obtain ⟨wa,hwa⟩:∃ x,x=wr:=⟨_,rfl⟩
    subst wr
    go_wp2_with fail
    go_loopw [7] (fun j7 wq=>∃ i:Nat,i≤hands.length∧j7 = .int .i64 (i:Int)∧Below wa.heap.size wa wq∧∀ k (hk:k<hands.length),k<i→hGood hands[k] code.length=true) (fun j7 _=>hands.length - (intOf j7).toNat)
    case atStart=>exact⟨0,Nat.zero_le _,rfl,Below.refl _ _,fun k hk hk0=>by omega⟩
    case round =>
     obtain ⟨i,hi2,rfl,hb,hgood⟩:=hrel
     replace x0:=carry hb (show w.heap.size<wa.heap.size by omega) x0
     replace x1:=carry hb (show w.heap.size<wa.heap.size by omega) x1
     replace x2:=carry hb (show w.heap.size<wa.heap.size by omega) x2
     replace x3:=carry hb (show w.heap.size<wa.heap.size by omega) x3
     replace x4:=carry hb (show w.heap.size<wa.heap.size by omega) x4
     replace x5:=carry hb (show w.heap.size<wa.heap.size by omega) x5
     replace x6:=carry hb (show w.heap.size<wa.heap.size by omega) x6
     replace x7:=carry hb (show w.heap.size<wa.heap.size by omega) x7
     replace x8:=carry hb (show w.heap.size<wa.heap.size by omega) x8
     replace y0:=carry hb (show B1<wa.heap.size by omega) y0
     replace y1:=carry hb (show B1<wa.heap.size by omega) y1
     replace y2:=carry hb (show B1<wa.heap.size by omega) y2
     replace y3:=carry hb (show B1<wa.heap.size by omega) y3
     have hwq:wa.heap.size≤wr.heap.size:=hb.size
     have HBq:Hid (Below w.heap.size w wr):=HBr.out.trans (hb.mono HBr.out.size)
     have HBq2:Hid (Below wa.heap.size wa wr):=hb
     have HGd:=(show Hid (∀ k (hk:k<hands.length),k<i→hGood hands[k] code.length=true) from hgood)
     clear hb hgood
     by_cases hlt:i<hands.length
     ·obtain ⟨bb,o,rfl,hx⟩:=HH.out i hlt
      obtain ⟨g0,g1,g2,g3,s3⟩:=handlerAt (hx.mono HBq.out)
      have HE:Hid (hGood hands[i] code.length=false→false=mOk ⟨nm,ds,true,false,fi,sk,lo,code,hands⟩):=fun hf=>by
       rw [HM.out,HCB.out,show handsB hands code.length=false from all_at_false (p:=fun x=>hGood x code.length) i hlt hf];rfl
      have HE2:Hid (hGood hands[i] code.length=true→∀ k (hk:k<hands.length),k<i+1→hGood hands[k] code.length=true):=fun hf k hk hk1=>by
       by_cases e:k=i
       ·subst e;exact hf
       ·exact HGd.out k hk (by omega)
      clear hx HGd
      generalize hands[i]=d at *
      obtain ⟨fr,to,at_,c⟩:=d
      simp only at g0 g1 g2 g3 s3
      have HL:Hid (∀ w,Calls Tryz.prog 121 #[.agg #[.int .i64 fr,.int .i64 to,.int .i64 at_,.string c],.int .i64 code.length] w fun e w'=>e = .returned (.bool (hGood (fr,to,at_,c) code.length))∧Below w.heap.size w w'):=fun w=>specHandler fr to at_ c code.length w s3
      clear s3
      generalize hGood (fr,to,at_,c) code.length=q at *
      go_wp2_with fail
      refine Calls.mono (HL.out _) ?_
      rintro e w3 ⟨rfl,hb3⟩
      have HB3:Hid (Below w.heap.size w w3):=HBq.out.trans (hb3.mono HBq.out.size)
      have HB4:Hid (Below wa.heap.size wa w3):=HBq2.out.trans (hb3.mono HBq2.out.size)
      clear hb3
      cases q
      ·go_wp2
       go_ret
       exact⟨rB (HE.out (by simp)),HB3.out⟩
      ·go_wp2
       go_roundw
       case rel=>exact⟨i+1,by omega,rfl,HB4.out,HE2.out (by simp)⟩
       case measure=>simp [intOf];omega
     ·obtain rfl:i=hands.length:=by omega
      have HHB:Hid (handsB hands code.length=true):=all_at_true (p:=fun x=>hGood x code.length) (fun k hk=>HGd.out k hk hk)
      have HM2:Hid (mOk ⟨nm,ds,true,false,fi,sk,lo,code,hands⟩=(!initB nm || (!true && (!fi && (dr.toList == [86]))))):=by show _=_;rw [HM.out,HCB.out,HHB.out];rfl
      clear HGd HM
      have HZ:Hid (true=mOk ⟨nm,ds,true,false,fi,sk,lo,code,hands⟩):=by show _=_;rw [HM2.out,HIB.out];rfl
      go_wp2
      go_ret
      exact⟨rB HZ.out,HBq.out⟩

end Go.Proofs.YtmhgaggpdggbeaaGreatDoor
