import Derived.Test.YtmhgaggpdggbeaaGreatDoorMR2i
import Derived.Test.YtmhgaggpdggbeaaGreatDoorMR2n
namespace Go.Proofs.YtmhgaggpdggbeaaGreatDoor
open Go.RowKit
set_option maxRecDepth 20000
set_option linter.unusedVariables false

set_option maxRecDepth 8000 in
theorem specMethWrong (nm ds:ByteArray) (st ab fi:Bool) (sk lo:Int) (code:List InsD) (hands:List HandlerD) (a b:Option Addr) (ca cb:Nat) (w:World) (hnm:nm.size≤maxLen) (hds:ds.size≤maxLen) (hi:(nm.toList == [60,105,110,105,116,62])=false) (hbn:nameB nm=false) :
  Calls Tryz.prog 95 #[methV ⟨nm,ds,st,ab,fi,sk,lo,code,hands⟩ (.slice a code.length ca) (.slice b hands.length cb)] w fun e w'=>e = .returned (.bool (mOk ⟨nm,ds,st,ab,fi,sk,lo,code,hands⟩))∧Below w.heap.size w w':=by
 have HD:Hid (∀ w,Calls Tryz.prog 118 #[.string ds] w fun e w'=>(∃ v cap,e = .returned (outV (.slice v (dN ds) cap) (dR ds) (dA ds) (dC ds)))∧Below w.heap.size w w'):=fun w=>(specDescRead ds w hds).mono fun e w' h=>⟨dv_form h.1,h.2⟩
 have HN:Hid (∀ w,Calls Tryz.prog 93 #[.string nm] w fun e w'=>e = .returned (.bool (nameB nm))∧w'=w):=fun w=>specNameRight nm w hnm
 have hmn:mNameB nm=false:=by unfold mNameB;rw [hi,hbn];rfl
 have hi':(nm.toList != [60,105,110,105,116,62])=true:=by rw [bne,hi];rfl
 rw [hbn] at HN
 have HZ:Hid (false=mOk ⟨nm,ds,st,ab,fi,sk,lo,code,hands⟩):=by show _=_;unfold mOk;simp only;rw [hmn];rfl
 clear hbn hmn hnm hds
 unfold methV
 simp only
 generalize dC ds=dc at *
 generalize dN ds=dn at *
 generalize dR ds=dr at *
 generalize dA ds=da at *
 go_enter Tryz.func95,Tryz.ntmps95
 go_wp2_with fail
 refine Calls.mono (HD.out _) ?_
 rintro e w1 ⟨⟨v,cap,rfl⟩,hb1⟩
 obtain ⟨X0,X1,X2,X3,X4,X5,X6,X7,X8,hz0,HB1⟩:=m9 hb1
 clear hb1
 unfold outV
 go_wp2_with fail
 obtain ⟨W,hW,hz1,y0,y1,y2,y3,x0,x1,x2,x3,x4,x5,x6,x7,x8,HB⟩:=w9 (.cells #[.slice v dn cap,.string dr,.int .i64 da,.int .i64 dc] 159) rfl HB1 X0 X1 X2 X3 X4 X5 X6 X7 X8
 clear HB1 X0 X1 X2 X3 X4 X5 X6 X7 X8
 rw [hW]
 clear hW
 generalize w1.heap.size=B1 at *
 refine Calls.mono (HN.out _) ?_
 rintro e w2 ⟨rfl,hw2⟩
 subst w2
 go_wp2
 go_ret
 exact⟨rB HZ.out,HB.out⟩

theorem specMethodRight (m:MethD) (vc vh:Value) (w:World) (hnm:m.name.size≤maxLen) (hds:m.desc.size≤maxLen) (hc:insR.slice.In w [vc] m.code) (hh:handlerR.slice.In w [vh] m.hands) :
  Calls Tryz.prog 95 #[methV m vc vh] w fun e w'=>e = .returned (.bool (mOk m))∧Below w.heap.size w w':=by
 obtain ⟨a,ca,rfl⟩:=slice_form hc
 obtain ⟨b,cb,rfl⟩:=slice_form hh
 obtain ⟨nm,ds,st,ab,fi,sk,lo,code,hands⟩:=m
 cases hi:(nm.toList == [60,105,110,105,116,62])
 ·cases hbn:nameB nm
  ·exact specMethWrong nm ds st ab fi sk lo code hands a b ca cb w hnm hds hi hbn
  ·exact specMethN nm ds st ab fi sk lo code hands a b ca cb w hnm hds hc hh hi hbn
 ·exact specMethI nm ds st ab fi sk lo code hands a b ca cb w hnm hds hc hh hi
end Go.Proofs.YtmhgaggpdggbeaaGreatDoor
