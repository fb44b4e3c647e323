import Derived.Test.YtmhgaggpdggbeaaGreatDoorIns3
namespace Go.Proofs.YtmhgaggpdggbeaaGreatDoor
open Go.RowKit
set_option maxRecDepth 20000
set_option linter.unusedVariables false

set_option maxHeartbeats 2000000 in
theorem implIns_y (op a:Int) (c n d:ByteArray) (w:World) (ht:Tab w) (hg:Glob w) (ha:-9223372036854775808≤a∧a≤9223372036854775807) (hc:c.size≤maxLen) (hn:n.size≤maxLen) (hd:d.size≤maxLen) (hf:fmS op=⟨#[121]⟩) :
  Calls Tryz.prog 171 #[.agg #[.int .i64 op,.int .i64 a,.string c,.string n,.string d]] w fun e w'=>e = .returned (.bool ((a == 0) && (c.toList.isEmpty && (n.toList.isEmpty && itemB d))))∧Below w.heap.size w w':=by
 have HOp:Hid (∀ w,Tab w→Calls Tryz.prog 172 #[.int .i64 op] w fun e w'=>e = .returned (.string ⟨#[121]⟩)∧Below w.heap.size w w'):=fun w h=>hf ▸ implOpForm op w h
 have HTab:Hid (∀ o o',Tab ((w.alloc o).alloc o')):=fun o o'=>ht.mono (((Below.refl _ _).alloc (Nat.le_refl _) o).alloc (by simp) o')
 have HG:Hid (Glob w):=hg
 have HT:Hid (∀ w,Calls Tryz.prog 178 #[.string d] w fun e w'=>e = .returned (.bool (itemB d))∧w'=w):=fun w=>implItem d w hd
 generalize itemB d=bt at *
 clear hf ht hg ha hc hn hd
 cases bt
 ·have HT2:Hid (false=((a == 0) && (c.toList.isEmpty && (n.toList.isEmpty && false)))):=by show _=_;simp [*]
  go_enter Tryz.func171,Tryz.ntmps171
  go_wp2_with fail
  refine Calls.mono (HOp.out _ (HTab.out _ _)) ?_
  rintro e w1 ⟨rfl,hb1⟩
  obtain ⟨x0,x1,x2,x3,x4,y0,y1,y2,y3,y4,z0,z1,z2,z3,z4,hz,HB⟩:=i15 hb1 (by simp)
  clear hb1
  go_wp2_with fail
  refine Calls.mono (HT.out _) ?_
  rintro e w2 ⟨rfl,hw⟩
  subst w2
  go_wp2
  go_ret
  refine ⟨rB HT2.out,?_⟩
  repeat (first | exact HB.out | refine Below.setCell ?_ (by simp) _)
 ·by_cases ha:a=0
  ·subst ha
   by_cases hc:c.toList=[]
   ·by_cases hn:n.toList=[]
    ·have HT2:Hid (true=(((0:Int) == 0) && (c.toList.isEmpty && (n.toList.isEmpty && true)))):=by show _=_;simp [*]
     go_enter Tryz.func171,Tryz.ntmps171
     go_wp2_with fail
     refine Calls.mono (HOp.out _ (HTab.out _ _)) ?_
     rintro e w1 ⟨rfl,hb1⟩
     obtain ⟨x0,x1,x2,x3,x4,y0,y1,y2,y3,y4,z0,z1,z2,z3,z4,hz,HB⟩:=i15 hb1 (by simp)
     clear hb1
     go_wp2_with fail
     refine Calls.mono (HT.out _) ?_
     rintro e w2 ⟨rfl,hw⟩
     subst w2
     go_wp2
     go_ret
     refine ⟨rB HT2.out,?_⟩
     repeat (first | exact HB.out | refine Below.setCell ?_ (by simp) _)
    ·have HT2:Hid (false=(((0:Int) == 0) && (c.toList.isEmpty && (n.toList.isEmpty && true)))):=by show _=_;simp [*]
     go_enter Tryz.func171,Tryz.ntmps171
     go_wp2_with fail
     refine Calls.mono (HOp.out _ (HTab.out _ _)) ?_
     rintro e w1 ⟨rfl,hb1⟩
     obtain ⟨x0,x1,x2,x3,x4,y0,y1,y2,y3,y4,z0,z1,z2,z3,z4,hz,HB⟩:=i15 hb1 (by simp)
     clear hb1
     go_wp2_with fail
     refine Calls.mono (HT.out _) ?_
     rintro e w2 ⟨rfl,hw⟩
     subst w2
     go_wp2
     go_ret
     refine ⟨rB HT2.out,?_⟩
     repeat (first | exact HB.out | refine Below.setCell ?_ (by simp) _)
   ·have HT2:Hid (false=(((0:Int) == 0) && (c.toList.isEmpty && (n.toList.isEmpty && true)))):=by show _=_;simp [*]
    go_enter Tryz.func171,Tryz.ntmps171
    go_wp2_with fail
    refine Calls.mono (HOp.out _ (HTab.out _ _)) ?_
    rintro e w1 ⟨rfl,hb1⟩
    obtain ⟨x0,x1,x2,x3,x4,y0,y1,y2,y3,y4,z0,z1,z2,z3,z4,hz,HB⟩:=i15 hb1 (by simp)
    clear hb1
    go_wp2_with fail
    refine Calls.mono (HT.out _) ?_
    rintro e w2 ⟨rfl,hw⟩
    subst w2
    go_wp2
    go_ret
    refine ⟨rB HT2.out,?_⟩
    repeat (first | exact HB.out | refine Below.setCell ?_ (by simp) _)
  ·have HT2:Hid (false=((a == 0) && (c.toList.isEmpty && (n.toList.isEmpty && true)))):=by show _=_;simp [*]
   go_enter Tryz.func171,Tryz.ntmps171
   go_wp2_with fail
   refine Calls.mono (HOp.out _ (HTab.out _ _)) ?_
   rintro e w1 ⟨rfl,hb1⟩
   obtain ⟨x0,x1,x2,x3,x4,y0,y1,y2,y3,y4,z0,z1,z2,z3,z4,hz,HB⟩:=i15 hb1 (by simp)
   clear hb1
   go_wp2_with fail
   refine Calls.mono (HT.out _) ?_
   rintro e w2 ⟨rfl,hw⟩
   subst w2
   go_wp2
   go_ret
   refine ⟨rB HT2.out,?_⟩
   repeat (first | exact HB.out | refine Below.setCell ?_ (by simp) _)
set_option maxHeartbeats 2000000 in
theorem implIns_f (op a:Int) (c n d:ByteArray) (w:World) (ht:Tab w) (hg:Glob w) (ha:-9223372036854775808≤a∧a≤9223372036854775807) (hc:c.size≤maxLen) (hn:n.size≤maxLen) (hd:d.size≤maxLen) (hf:fmS op=⟨#[102]⟩) :
  Calls Tryz.prog 171 #[.agg #[.int .i64 op,.int .i64 a,.string c,.string n,.string d]] w fun e w'=>e = .returned (.bool ((a == 0) && (nameB c && (nameB n && tyB d))))∧Below w.heap.size w w':=by
 have HOp:Hid (∀ w,Tab w→Calls Tryz.prog 172 #[.int .i64 op] w fun e w'=>e = .returned (.string ⟨#[102]⟩)∧Below w.heap.size w w'):=fun w h=>hf ▸ implOpForm op w h
 have HTab:Hid (∀ o o',Tab ((w.alloc o).alloc o')):=fun o o'=>ht.mono (((Below.refl _ _).alloc (Nat.le_refl _) o).alloc (by simp) o')
 have HG:Hid (Glob w):=hg
 have HNc:Hid (∀ w,Calls Tryz.prog 127 #[.string c] w fun e w'=>e = .returned (.bool (nameB c))∧Below w.heap.size w w'):=fun w=>implNameRight c w hc
 have HNn:Hid (∀ w,Calls Tryz.prog 127 #[.string n] w fun e w'=>e = .returned (.bool (nameB n))∧Below w.heap.size w w'):=fun w=>implNameRight n w hn
 generalize nameB c=bc at *
 generalize nameB n=bn at *
 have HT:Hid (∀ w,Calls Tryz.prog 132 #[.string d] w fun e w'=>e = .returned (.bool (tyB d))∧w'=w):=fun w=>implTypeRight d w hd
 generalize tyB d=bt at *
 clear hf ht hg ha hc hn hd
 cases bc
 ·have HT2:Hid (false=((a == 0) && (false && (bn && bt)))):=by show _=_;simp [*]
  go_enter Tryz.func171,Tryz.ntmps171
  go_wp2_with fail
  refine Calls.mono (HOp.out _ (HTab.out _ _)) ?_
  rintro e w1 ⟨rfl,hb1⟩
  obtain ⟨x0,x1,x2,x3,x4,y0,y1,y2,y3,y4,z0,z1,z2,z3,z4,hz,HB⟩:=i15 hb1 (by simp)
  clear hb1
  go_wp2_with fail
  refine Calls.mono (HNc.out _) ?_
  rintro e w2 ⟨rfl,hb⟩
  replace x0:=carry hb (show w.heap.size<w1.heap.size by omega) x0
  replace x1:=carry hb (show w.heap.size<w1.heap.size by omega) x1
  replace x2:=carry hb (show w.heap.size<w1.heap.size by omega) x2
  replace x3:=carry hb (show w.heap.size<w1.heap.size by omega) x3
  replace x4:=carry hb (show w.heap.size<w1.heap.size by omega) x4
  replace y0:=carry hb (show w.heap.size+1<w1.heap.size by omega) y0
  replace y1:=carry hb (show w.heap.size+1<w1.heap.size by omega) y1
  replace y2:=carry hb (show w.heap.size+1<w1.heap.size by omega) y2
  replace y3:=carry hb (show w.heap.size+1<w1.heap.size by omega) y3
  replace y4:=carry hb (show w.heap.size+1<w1.heap.size by omega) y4
  replace z0:=carryF hb (show w.heap.size+1<w1.heap.size by omega) z0
  replace z1:=carryF hb (show w.heap.size+1<w1.heap.size by omega) z1
  replace z2:=carryF hb (show w.heap.size+1<w1.heap.size by omega) z2
  replace z3:=carryF hb (show w.heap.size+1<w1.heap.size by omega) z3
  replace z4:=carryF hb (show w.heap.size+1<w1.heap.size by omega) z4
  replace hz:w.heap.size+2≤w2.heap.size:=Nat.le_trans hz hb.size
  replace HB:Hid (Below w.heap.size w w2):=HB.out.trans (hb.mono HB.out.size)
  clear hb
  go_wp2
  go_ret
  refine ⟨rB HT2.out,?_⟩
  repeat (first | exact HB.out | refine Below.setCell ?_ (by simp) _)
 ·cases bn
  ·have HT2:Hid (false=((a == 0) && (true && (false && bt)))):=by show _=_;simp [*]
   go_enter Tryz.func171,Tryz.ntmps171
   go_wp2_with fail
   refine Calls.mono (HOp.out _ (HTab.out _ _)) ?_
   rintro e w1 ⟨rfl,hb1⟩
   obtain ⟨x0,x1,x2,x3,x4,y0,y1,y2,y3,y4,z0,z1,z2,z3,z4,hz,HB⟩:=i15 hb1 (by simp)
   clear hb1
   go_wp2_with fail
   refine Calls.mono (HNc.out _) ?_
   rintro e w2 ⟨rfl,hb⟩
   replace x0:=carry hb (show w.heap.size<w1.heap.size by omega) x0
   replace x1:=carry hb (show w.heap.size<w1.heap.size by omega) x1
   replace x2:=carry hb (show w.heap.size<w1.heap.size by omega) x2
   replace x3:=carry hb (show w.heap.size<w1.heap.size by omega) x3
   replace x4:=carry hb (show w.heap.size<w1.heap.size by omega) x4
   replace y0:=carry hb (show w.heap.size+1<w1.heap.size by omega) y0
   replace y1:=carry hb (show w.heap.size+1<w1.heap.size by omega) y1
   replace y2:=carry hb (show w.heap.size+1<w1.heap.size by omega) y2
   replace y3:=carry hb (show w.heap.size+1<w1.heap.size by omega) y3
   replace y4:=carry hb (show w.heap.size+1<w1.heap.size by omega) y4
   replace z0:=carryF hb (show w.heap.size+1<w1.heap.size by omega) z0
   replace z1:=carryF hb (show w.heap.size+1<w1.heap.size by omega) z1
   replace z2:=carryF hb (show w.heap.size+1<w1.heap.size by omega) z2
   replace z3:=carryF hb (show w.heap.size+1<w1.heap.size by omega) z3
   replace z4:=carryF hb (show w.heap.size+1<w1.heap.size by omega) z4
   replace hz:w.heap.size+2≤w2.heap.size:=Nat.le_trans hz hb.size
   replace HB:Hid (Below w.heap.size w w2):=HB.out.trans (hb.mono HB.out.size)
   clear hb
   go_wp2_with fail
   refine Calls.mono (HNn.out _) ?_
   rintro e w3 ⟨rfl,hb⟩
   replace x0:=carry hb (show w.heap.size<w2.heap.size by omega) x0
   replace x1:=carry hb (show w.heap.size<w2.heap.size by omega) x1
   replace x2:=carry hb (show w.heap.size<w2.heap.size by omega) x2
   replace x3:=carry hb (show w.heap.size<w2.heap.size by omega) x3
   replace x4:=carry hb (show w.heap.size<w2.heap.size by omega) x4
   replace y0:=carry hb (show w.heap.size+1<w2.heap.size by omega) y0
   replace y1:=carry hb (show w.heap.size+1<w2.heap.size by omega) y1
   replace y2:=carry hb (show w.heap.size+1<w2.heap.size by omega) y2
   replace y3:=carry hb (show w.heap.size+1<w2.heap.size by omega) y3
   replace y4:=carry hb (show w.heap.size+1<w2.heap.size by omega) y4
   replace z0:=carryF hb (show w.heap.size+1<w2.heap.size by omega) z0
   replace z1:=carryF hb (show w.heap.size+1<w2.heap.size by omega) z1
   replace z2:=carryF hb (show w.heap.size+1<w2.heap.size by omega) z2
   replace z3:=carryF hb (show w.heap.size+1<w2.heap.size by omega) z3
   replace z4:=carryF hb (show w.heap.size+1<w2.heap.size by omega) z4
   replace hz:w.heap.size+2≤w3.heap.size:=Nat.le_trans hz hb.size
   replace HB:Hid (Below w.heap.size w w3):=HB.out.trans (hb.mono HB.out.size)
   clear hb
   go_wp2
   go_ret
   refine ⟨rB HT2.out,?_⟩
   repeat (first | exact HB.out | refine Below.setCell ?_ (by simp) _)
  ·cases bt
   ·have HT2:Hid (false=((a == 0) && (true && (true && false)))):=by show _=_;simp [*]
    go_enter Tryz.func171,Tryz.ntmps171
    go_wp2_with fail
    refine Calls.mono (HOp.out _ (HTab.out _ _)) ?_
    rintro e w1 ⟨rfl,hb1⟩
    obtain ⟨x0,x1,x2,x3,x4,y0,y1,y2,y3,y4,z0,z1,z2,z3,z4,hz,HB⟩:=i15 hb1 (by simp)
    clear hb1
    go_wp2_with fail
    refine Calls.mono (HNc.out _) ?_
    rintro e w2 ⟨rfl,hb⟩
    replace x0:=carry hb (show w.heap.size<w1.heap.size by omega) x0
    replace x1:=carry hb (show w.heap.size<w1.heap.size by omega) x1
    replace x2:=carry hb (show w.heap.size<w1.heap.size by omega) x2
    replace x3:=carry hb (show w.heap.size<w1.heap.size by omega) x3
    replace x4:=carry hb (show w.heap.size<w1.heap.size by omega) x4
    replace y0:=carry hb (show w.heap.size+1<w1.heap.size by omega) y0
    replace y1:=carry hb (show w.heap.size+1<w1.heap.size by omega) y1
    replace y2:=carry hb (show w.heap.size+1<w1.heap.size by omega) y2
    replace y3:=carry hb (show w.heap.size+1<w1.heap.size by omega) y3
    replace y4:=carry hb (show w.heap.size+1<w1.heap.size by omega) y4
    replace z0:=carryF hb (show w.heap.size+1<w1.heap.size by omega) z0
    replace z1:=carryF hb (show w.heap.size+1<w1.heap.size by omega) z1
    replace z2:=carryF hb (show w.heap.size+1<w1.heap.size by omega) z2
    replace z3:=carryF hb (show w.heap.size+1<w1.heap.size by omega) z3
    replace z4:=carryF hb (show w.heap.size+1<w1.heap.size by omega) z4
    replace hz:w.heap.size+2≤w2.heap.size:=Nat.le_trans hz hb.size
    replace HB:Hid (Below w.heap.size w w2):=HB.out.trans (hb.mono HB.out.size)
    clear hb
    go_wp2_with fail
    refine Calls.mono (HNn.out _) ?_
    rintro e w3 ⟨rfl,hb⟩
    replace x0:=carry hb (show w.heap.size<w2.heap.size by omega) x0
    replace x1:=carry hb (show w.heap.size<w2.heap.size by omega) x1
    replace x2:=carry hb (show w.heap.size<w2.heap.size by omega) x2
    replace x3:=carry hb (show w.heap.size<w2.heap.size by omega) x3
    replace x4:=carry hb (show w.heap.size<w2.heap.size by omega) x4
    replace y0:=carry hb (show w.heap.size+1<w2.heap.size by omega) y0
    replace y1:=carry hb (show w.heap.size+1<w2.heap.size by omega) y1
    replace y2:=carry hb (show w.heap.size+1<w2.heap.size by omega) y2
    replace y3:=carry hb (show w.heap.size+1<w2.heap.size by omega) y3
    replace y4:=carry hb (show w.heap.size+1<w2.heap.size by omega) y4
    replace z0:=carryF hb (show w.heap.size+1<w2.heap.size by omega) z0
    replace z1:=carryF hb (show w.heap.size+1<w2.heap.size by omega) z1
    replace z2:=carryF hb (show w.heap.size+1<w2.heap.size by omega) z2
    replace z3:=carryF hb (show w.heap.size+1<w2.heap.size by omega) z3
    replace z4:=carryF hb (show w.heap.size+1<w2.heap.size by omega) z4
    replace hz:w.heap.size+2≤w3.heap.size:=Nat.le_trans hz hb.size
    replace HB:Hid (Below w.heap.size w w3):=HB.out.trans (hb.mono HB.out.size)
    clear hb
    go_wp2_with fail
    refine Calls.mono (HT.out _) ?_
    rintro e w4 ⟨rfl,hw⟩
    subst w4
    go_wp2
    go_ret
    refine ⟨rB HT2.out,?_⟩
    repeat (first | exact HB.out | refine Below.setCell ?_ (by simp) _)
   ·by_cases ha:a=0
    ·subst ha
     have HT2:Hid (true=(((0:Int) == 0) && (true && (true && true)))):=by show _=_;simp [*]
     go_enter Tryz.func171,Tryz.ntmps171
     go_wp2_with fail
     refine Calls.mono (HOp.out _ (HTab.out _ _)) ?_
     rintro e w1 ⟨rfl,hb1⟩
     obtain ⟨x0,x1,x2,x3,x4,y0,y1,y2,y3,y4,z0,z1,z2,z3,z4,hz,HB⟩:=i15 hb1 (by simp)
     clear hb1
     go_wp2_with fail
     refine Calls.mono (HNc.out _) ?_
     rintro e w2 ⟨rfl,hb⟩
     replace x0:=carry hb (show w.heap.size<w1.heap.size by omega) x0
     replace x1:=carry hb (show w.heap.size<w1.heap.size by omega) x1
     replace x2:=carry hb (show w.heap.size<w1.heap.size by omega) x2
     replace x3:=carry hb (show w.heap.size<w1.heap.size by omega) x3
     replace x4:=carry hb (show w.heap.size<w1.heap.size by omega) x4
     replace y0:=carry hb (show w.heap.size+1<w1.heap.size by omega) y0
     replace y1:=carry hb (show w.heap.size+1<w1.heap.size by omega) y1
     replace y2:=carry hb (show w.heap.size+1<w1.heap.size by omega) y2
     replace y3:=carry hb (show w.heap.size+1<w1.heap.size by omega) y3
     replace y4:=carry hb (show w.heap.size+1<w1.heap.size by omega) y4
     replace z0:=carryF hb (show w.heap.size+1<w1.heap.size by omega) z0
     replace z1:=carryF hb (show w.heap.size+1<w1.heap.size by omega) z1
     replace z2:=carryF hb (show w.heap.size+1<w1.heap.size by omega) z2
     replace z3:=carryF hb (show w.heap.size+1<w1.heap.size by omega) z3
     replace z4:=carryF hb (show w.heap.size+1<w1.heap.size by omega) z4
     replace hz:w.heap.size+2≤w2.heap.size:=Nat.le_trans hz hb.size
     replace HB:Hid (Below w.heap.size w w2):=HB.out.trans (hb.mono HB.out.size)
     clear hb
     go_wp2_with fail
     refine Calls.mono (HNn.out _) ?_
     rintro e w3 ⟨rfl,hb⟩
     replace x0:=carry hb (show w.heap.size<w2.heap.size by omega) x0
     replace x1:=carry hb (show w.heap.size<w2.heap.size by omega) x1
     replace x2:=carry hb (show w.heap.size<w2.heap.size by omega) x2
     replace x3:=carry hb (show w.heap.size<w2.heap.size by omega) x3
     replace x4:=carry hb (show w.heap.size<w2.heap.size by omega) x4
     replace y0:=carry hb (show w.heap.size+1<w2.heap.size by omega) y0
     replace y1:=carry hb (show w.heap.size+1<w2.heap.size by omega) y1
     replace y2:=carry hb (show w.heap.size+1<w2.heap.size by omega) y2
     replace y3:=carry hb (show w.heap.size+1<w2.heap.size by omega) y3
     replace y4:=carry hb (show w.heap.size+1<w2.heap.size by omega) y4
     replace z0:=carryF hb (show w.heap.size+1<w2.heap.size by omega) z0
     replace z1:=carryF hb (show w.heap.size+1<w2.heap.size by omega) z1
     replace z2:=carryF hb (show w.heap.size+1<w2.heap.size by omega) z2
     replace z3:=carryF hb (show w.heap.size+1<w2.heap.size by omega) z3
     replace z4:=carryF hb (show w.heap.size+1<w2.heap.size by omega) z4
     replace hz:w.heap.size+2≤w3.heap.size:=Nat.le_trans hz hb.size
     replace HB:Hid (Below w.heap.size w w3):=HB.out.trans (hb.mono HB.out.size)
     clear hb
     go_wp2_with fail
     refine Calls.mono (HT.out _) ?_
     rintro e w4 ⟨rfl,hw⟩
     subst w4
     go_wp2
     go_ret
     refine ⟨rB HT2.out,?_⟩
     repeat (first | exact HB.out | refine Below.setCell ?_ (by simp) _)
    ·have HT2:Hid (false=((a == 0) && (true && (true && true)))):=by show _=_;simp [*]
     go_enter Tryz.func171,Tryz.ntmps171
     go_wp2_with fail
     refine Calls.mono (HOp.out _ (HTab.out _ _)) ?_
     rintro e w1 ⟨rfl,hb1⟩
     obtain ⟨x0,x1,x2,x3,x4,y0,y1,y2,y3,y4,z0,z1,z2,z3,z4,hz,HB⟩:=i15 hb1 (by simp)
     clear hb1
     go_wp2_with fail
     refine Calls.mono (HNc.out _) ?_
     rintro e w2 ⟨rfl,hb⟩
     replace x0:=carry hb (show w.heap.size<w1.heap.size by omega) x0
     replace x1:=carry hb (show w.heap.size<w1.heap.size by omega) x1
     replace x2:=carry hb (show w.heap.size<w1.heap.size by omega) x2
     replace x3:=carry hb (show w.heap.size<w1.heap.size by omega) x3
     replace x4:=carry hb (show w.heap.size<w1.heap.size by omega) x4
     replace y0:=carry hb (show w.heap.size+1<w1.heap.size by omega) y0
     replace y1:=carry hb (show w.heap.size+1<w1.heap.size by omega) y1
     replace y2:=carry hb (show w.heap.size+1<w1.heap.size by omega) y2
     replace y3:=carry hb (show w.heap.size+1<w1.heap.size by omega) y3
     replace y4:=carry hb (show w.heap.size+1<w1.heap.size by omega) y4
     replace z0:=carryF hb (show w.heap.size+1<w1.heap.size by omega) z0
     replace z1:=carryF hb (show w.heap.size+1<w1.heap.size by omega) z1
     replace z2:=carryF hb (show w.heap.size+1<w1.heap.size by omega) z2
     replace z3:=carryF hb (show w.heap.size+1<w1.heap.size by omega) z3
     replace z4:=carryF hb (show w.heap.size+1<w1.heap.size by omega) z4
     replace hz:w.heap.size+2≤w2.heap.size:=Nat.le_trans hz hb.size
     replace HB:Hid (Below w.heap.size w w2):=HB.out.trans (hb.mono HB.out.size)
     clear hb
     go_wp2_with fail
     refine Calls.mono (HNn.out _) ?_
     rintro e w3 ⟨rfl,hb⟩
     replace x0:=carry hb (show w.heap.size<w2.heap.size by omega) x0
     replace x1:=carry hb (show w.heap.size<w2.heap.size by omega) x1
     replace x2:=carry hb (show w.heap.size<w2.heap.size by omega) x2
     replace x3:=carry hb (show w.heap.size<w2.heap.size by omega) x3
     replace x4:=carry hb (show w.heap.size<w2.heap.size by omega) x4
     replace y0:=carry hb (show w.heap.size+1<w2.heap.size by omega) y0
     replace y1:=carry hb (show w.heap.size+1<w2.heap.size by omega) y1
     replace y2:=carry hb (show w.heap.size+1<w2.heap.size by omega) y2
     replace y3:=carry hb (show w.heap.size+1<w2.heap.size by omega) y3
     replace y4:=carry hb (show w.heap.size+1<w2.heap.size by omega) y4
     replace z0:=carryF hb (show w.heap.size+1<w2.heap.size by omega) z0
     replace z1:=carryF hb (show w.heap.size+1<w2.heap.size by omega) z1
     replace z2:=carryF hb (show w.heap.size+1<w2.heap.size by omega) z2
     replace z3:=carryF hb (show w.heap.size+1<w2.heap.size by omega) z3
     replace z4:=carryF hb (show w.heap.size+1<w2.heap.size by omega) z4
     replace hz:w.heap.size+2≤w3.heap.size:=Nat.le_trans hz hb.size
     replace HB:Hid (Below w.heap.size w w3):=HB.out.trans (hb.mono HB.out.size)
     clear hb
     go_wp2_with fail
     refine Calls.mono (HT.out _) ?_
     rintro e w4 ⟨rfl,hw⟩
     subst w4
     go_wp2
     go_ret
     refine ⟨rB HT2.out,?_⟩
     repeat (first | exact HB.out | refine Below.setCell ?_ (by simp) _)
set_option maxHeartbeats 2000000 in
theorem implIns_m (op a:Int) (c n d:ByteArray) (w:World) (ht:Tab w) (hg:Glob w) (ha:-9223372036854775808≤a∧a≤9223372036854775807) (hc:c.size≤maxLen) (hn:n.size≤maxLen) (hd:d.size≤maxLen) (hf:fmS op=⟨#[109]⟩) :
  Calls Tryz.prog 171 #[.agg #[.int .i64 op,.int .i64 a,.string c,.string n,.string d]] w fun e w'=>e = .returned (.bool ((a == 0) && (nameB c && (mNameB n && (dC d == 0)))))∧Below w.heap.size w w':=by
 have HOp:Hid (∀ w,Tab w→Calls Tryz.prog 172 #[.int .i64 op] w fun e w'=>e = .returned (.string ⟨#[109]⟩)∧Below w.heap.size w w'):=fun w h=>hf ▸ implOpForm op w h
 have HTab:Hid (∀ o o',Tab ((w.alloc o).alloc o')):=fun o o'=>ht.mono (((Below.refl _ _).alloc (Nat.le_refl _) o).alloc (by simp) o')
 have HG:Hid (Glob w):=hg
 have HNc:Hid (∀ w,Calls Tryz.prog 127 #[.string c] w fun e w'=>e = .returned (.bool (nameB c))∧Below w.heap.size w w'):=fun w=>implNameRight c w hc
 have HM:Hid (∀ w,Calls Tryz.prog 158 #[.string n] w fun e w'=>e = .returned (.bool (mNameB n))∧Below w.heap.size w w'):=fun w=>implMName n w hn
 generalize mNameB n=bm at *
 generalize nameB c=bc at *
 have HD:Hid (∀ w,Glob w→Calls Tryz.prog 130 #[.string d] w fun e w'=>(∃ v cap,e = .returned (outV (.slice v (dN d) cap) (dR d) (dA d) (dC d)))∧Below w.heap.size w w'):=fun w h=>(implDescRead d w hd h).mono fun e w' h=>⟨dv_form h.1,h.2⟩
 generalize dC d=dc at *
 generalize dN d=dn at *
 generalize dR d=dr at *
 generalize dA d=da at *
 clear hf ht hg ha hc hn hd
 cases bc
 ·have HT2:Hid (false=((a == 0) && (false && (bm && (dc == 0))))):=by show _=_;simp [*]
  go_enter Tryz.func171,Tryz.ntmps171
  go_wp2_with fail
  refine Calls.mono (HOp.out _ (HTab.out _ _)) ?_
  rintro e w1 ⟨rfl,hb1⟩
  obtain ⟨x0,x1,x2,x3,x4,y0,y1,y2,y3,y4,z0,z1,z2,z3,z4,hz,HB⟩:=i15 hb1 (by simp)
  clear hb1
  go_wp2_with fail
  refine Calls.mono (HNc.out _) ?_
  rintro e w2 ⟨rfl,hb⟩
  replace x0:=carry hb (show w.heap.size<w1.heap.size by omega) x0
  replace x1:=carry hb (show w.heap.size<w1.heap.size by omega) x1
  replace x2:=carry hb (show w.heap.size<w1.heap.size by omega) x2
  replace x3:=carry hb (show w.heap.size<w1.heap.size by omega) x3
  replace x4:=carry hb (show w.heap.size<w1.heap.size by omega) x4
  replace y0:=carry hb (show w.heap.size+1<w1.heap.size by omega) y0
  replace y1:=carry hb (show w.heap.size+1<w1.heap.size by omega) y1
  replace y2:=carry hb (show w.heap.size+1<w1.heap.size by omega) y2
  replace y3:=carry hb (show w.heap.size+1<w1.heap.size by omega) y3
  replace y4:=carry hb (show w.heap.size+1<w1.heap.size by omega) y4
  replace z0:=carryF hb (show w.heap.size+1<w1.heap.size by omega) z0
  replace z1:=carryF hb (show w.heap.size+1<w1.heap.size by omega) z1
  replace z2:=carryF hb (show w.heap.size+1<w1.heap.size by omega) z2
  replace z3:=carryF hb (show w.heap.size+1<w1.heap.size by omega) z3
  replace z4:=carryF hb (show w.heap.size+1<w1.heap.size by omega) z4
  replace hz:w.heap.size+2≤w2.heap.size:=Nat.le_trans hz hb.size
  replace HB:Hid (Below w.heap.size w w2):=HB.out.trans (hb.mono HB.out.size)
  clear hb
  go_wp2
  go_ret
  refine ⟨rB HT2.out,?_⟩
  repeat (first | exact HB.out | refine Below.setCell ?_ (by simp) _)
 ·cases bm
  ·have HT2:Hid (false=((a == 0) && (true && (false && (dc == 0))))):=by show _=_;simp [*]
   go_enter Tryz.func171,Tryz.ntmps171
   go_wp2_with fail
   refine Calls.mono (HOp.out _ (HTab.out _ _)) ?_
   rintro e w1 ⟨rfl,hb1⟩
   obtain ⟨x0,x1,x2,x3,x4,y0,y1,y2,y3,y4,z0,z1,z2,z3,z4,hz,HB⟩:=i15 hb1 (by simp)
   clear hb1
   go_wp2_with fail
   refine Calls.mono (HNc.out _) ?_
   rintro e w2 ⟨rfl,hb⟩
   replace x0:=carry hb (show w.heap.size<w1.heap.size by omega) x0
   replace x1:=carry hb (show w.heap.size<w1.heap.size by omega) x1
   replace x2:=carry hb (show w.heap.size<w1.heap.size by omega) x2
   replace x3:=carry hb (show w.heap.size<w1.heap.size by omega) x3
   replace x4:=carry hb (show w.heap.size<w1.heap.size by omega) x4
   replace y0:=carry hb (show w.heap.size+1<w1.heap.size by omega) y0
   replace y1:=carry hb (show w.heap.size+1<w1.heap.size by omega) y1
   replace y2:=carry hb (show w.heap.size+1<w1.heap.size by omega) y2
   replace y3:=carry hb (show w.heap.size+1<w1.heap.size by omega) y3
   replace y4:=carry hb (show w.heap.size+1<w1.heap.size by omega) y4
   replace z0:=carryF hb (show w.heap.size+1<w1.heap.size by omega) z0
   replace z1:=carryF hb (show w.heap.size+1<w1.heap.size by omega) z1
   replace z2:=carryF hb (show w.heap.size+1<w1.heap.size by omega) z2
   replace z3:=carryF hb (show w.heap.size+1<w1.heap.size by omega) z3
   replace z4:=carryF hb (show w.heap.size+1<w1.heap.size by omega) z4
   replace hz:w.heap.size+2≤w2.heap.size:=Nat.le_trans hz hb.size
   replace HB:Hid (Below w.heap.size w w2):=HB.out.trans (hb.mono HB.out.size)
   clear hb
   go_wp2_with fail
   refine Calls.mono (HM.out _) ?_
   rintro e w3 ⟨rfl,hb⟩
   replace x0:=carry hb (show w.heap.size<w2.heap.size by omega) x0
   replace x1:=carry hb (show w.heap.size<w2.heap.size by omega) x1
   replace x2:=carry hb (show w.heap.size<w2.heap.size by omega) x2
   replace x3:=carry hb (show w.heap.size<w2.heap.size by omega) x3
   replace x4:=carry hb (show w.heap.size<w2.heap.size by omega) x4
   replace y0:=carry hb (show w.heap.size+1<w2.heap.size by omega) y0
   replace y1:=carry hb (show w.heap.size+1<w2.heap.size by omega) y1
   replace y2:=carry hb (show w.heap.size+1<w2.heap.size by omega) y2
   replace y3:=carry hb (show w.heap.size+1<w2.heap.size by omega) y3
   replace y4:=carry hb (show w.heap.size+1<w2.heap.size by omega) y4
   replace z0:=carryF hb (show w.heap.size+1<w2.heap.size by omega) z0
   replace z1:=carryF hb (show w.heap.size+1<w2.heap.size by omega) z1
   replace z2:=carryF hb (show w.heap.size+1<w2.heap.size by omega) z2
   replace z3:=carryF hb (show w.heap.size+1<w2.heap.size by omega) z3
   replace z4:=carryF hb (show w.heap.size+1<w2.heap.size by omega) z4
   replace hz:w.heap.size+2≤w3.heap.size:=Nat.le_trans hz hb.size
   replace HB:Hid (Below w.heap.size w w3):=HB.out.trans (hb.mono HB.out.size)
   clear hb
   go_wp2
   go_ret
   refine ⟨rB HT2.out,?_⟩
   repeat (first | exact HB.out | refine Below.setCell ?_ (by simp) _)
  ·cases hk:(dc == 0)
   ·have HT2:Hid (false=((a == 0) && (true && (true && false)))):=by show _=_;simp [*]
    go_enter Tryz.func171,Tryz.ntmps171
    go_wp2_with fail
    refine Calls.mono (HOp.out _ (HTab.out _ _)) ?_
    rintro e w1 ⟨rfl,hb1⟩
    obtain ⟨x0,x1,x2,x3,x4,y0,y1,y2,y3,y4,z0,z1,z2,z3,z4,hz,HB⟩:=i15 hb1 (by simp)
    clear hb1
    go_wp2_with fail
    refine Calls.mono (HNc.out _) ?_
    rintro e w2 ⟨rfl,hb⟩
    replace x0:=carry hb (show w.heap.size<w1.heap.size by omega) x0
    replace x1:=carry hb (show w.heap.size<w1.heap.size by omega) x1
    replace x2:=carry hb (show w.heap.size<w1.heap.size by omega) x2
    replace x3:=carry hb (show w.heap.size<w1.heap.size by omega) x3
    replace x4:=carry hb (show w.heap.size<w1.heap.size by omega) x4
    replace y0:=carry hb (show w.heap.size+1<w1.heap.size by omega) y0
    replace y1:=carry hb (show w.heap.size+1<w1.heap.size by omega) y1
    replace y2:=carry hb (show w.heap.size+1<w1.heap.size by omega) y2
    replace y3:=carry hb (show w.heap.size+1<w1.heap.size by omega) y3
    replace y4:=carry hb (show w.heap.size+1<w1.heap.size by omega) y4
    replace z0:=carryF hb (show w.heap.size+1<w1.heap.size by omega) z0
    replace z1:=carryF hb (show w.heap.size+1<w1.heap.size by omega) z1
    replace z2:=carryF hb (show w.heap.size+1<w1.heap.size by omega) z2
    replace z3:=carryF hb (show w.heap.size+1<w1.heap.size by omega) z3
    replace z4:=carryF hb (show w.heap.size+1<w1.heap.size by omega) z4
    replace hz:w.heap.size+2≤w2.heap.size:=Nat.le_trans hz hb.size
    replace HB:Hid (Below w.heap.size w w2):=HB.out.trans (hb.mono HB.out.size)
    clear hb
    go_wp2_with fail
    refine Calls.mono (HM.out _) ?_
    rintro e w3 ⟨rfl,hb⟩
    replace x0:=carry hb (show w.heap.size<w2.heap.size by omega) x0
    replace x1:=carry hb (show w.heap.size<w2.heap.size by omega) x1
    replace x2:=carry hb (show w.heap.size<w2.heap.size by omega) x2
    replace x3:=carry hb (show w.heap.size<w2.heap.size by omega) x3
    replace x4:=carry hb (show w.heap.size<w2.heap.size by omega) x4
    replace y0:=carry hb (show w.heap.size+1<w2.heap.size by omega) y0
    replace y1:=carry hb (show w.heap.size+1<w2.heap.size by omega) y1
    replace y2:=carry hb (show w.heap.size+1<w2.heap.size by omega) y2
    replace y3:=carry hb (show w.heap.size+1<w2.heap.size by omega) y3
    replace y4:=carry hb (show w.heap.size+1<w2.heap.size by omega) y4
    replace z0:=carryF hb (show w.heap.size+1<w2.heap.size by omega) z0
    replace z1:=carryF hb (show w.heap.size+1<w2.heap.size by omega) z1
    replace z2:=carryF hb (show w.heap.size+1<w2.heap.size by omega) z2
    replace z3:=carryF hb (show w.heap.size+1<w2.heap.size by omega) z3
    replace z4:=carryF hb (show w.heap.size+1<w2.heap.size by omega) z4
    replace hz:w.heap.size+2≤w3.heap.size:=Nat.le_trans hz hb.size
    replace HB:Hid (Below w.heap.size w w3):=HB.out.trans (hb.mono HB.out.size)
    clear hb
    go_wp2_with fail
    refine Calls.mono (HD.out _ (HG.out.mono HB.out)) ?_
    rintro e w4 ⟨⟨v,cap,rfl⟩,hb⟩
    replace x0:=carry hb (show w.heap.size<w3.heap.size by omega) x0
    replace x1:=carry hb (show w.heap.size<w3.heap.size by omega) x1
    replace x2:=carry hb (show w.heap.size<w3.heap.size by omega) x2
    replace x3:=carry hb (show w.heap.size<w3.heap.size by omega) x3
    replace x4:=carry hb (show w.heap.size<w3.heap.size by omega) x4
    replace y0:=carry hb (show w.heap.size+1<w3.heap.size by omega) y0
    replace y1:=carry hb (show w.heap.size+1<w3.heap.size by omega) y1
    replace y2:=carry hb (show w.heap.size+1<w3.heap.size by omega) y2
    replace y3:=carry hb (show w.heap.size+1<w3.heap.size by omega) y3
    replace y4:=carry hb (show w.heap.size+1<w3.heap.size by omega) y4
    replace z0:=carryF hb (show w.heap.size+1<w3.heap.size by omega) z0
    replace z1:=carryF hb (show w.heap.size+1<w3.heap.size by omega) z1
    replace z2:=carryF hb (show w.heap.size+1<w3.heap.size by omega) z2
    replace z3:=carryF hb (show w.heap.size+1<w3.heap.size by omega) z3
    replace z4:=carryF hb (show w.heap.size+1<w3.heap.size by omega) z4
    replace hz:w.heap.size+2≤w4.heap.size:=Nat.le_trans hz hb.size
    replace HB:Hid (Below w.heap.size w w4):=HB.out.trans (hb.mono HB.out.size)
    clear hb
    have fd:=fieldDesc2 (.slice v dn cap) (.string dr) (.int .i64 da) (.int .i64 dc)
    unfold outV
    go_wp2
    go_ret
    refine ⟨rB HT2.out,?_⟩
    repeat (first | exact HB.out | refine Below.setCell ?_ (by simp) _)
   ·by_cases ha:a=0
    ·subst ha
     have HT2:Hid (true=(((0:Int) == 0) && (true && (true && true)))):=by show _=_;simp [*]
     go_enter Tryz.func171,Tryz.ntmps171
     go_wp2_with fail
     refine Calls.mono (HOp.out _ (HTab.out _ _)) ?_
     rintro e w1 ⟨rfl,hb1⟩
     obtain ⟨x0,x1,x2,x3,x4,y0,y1,y2,y3,y4,z0,z1,z2,z3,z4,hz,HB⟩:=i15 hb1 (by simp)
     clear hb1
     go_wp2_with fail
     refine Calls.mono (HNc.out _) ?_
     rintro e w2 ⟨rfl,hb⟩
     replace x0:=carry hb (show w.heap.size<w1.heap.size by omega) x0
     replace x1:=carry hb (show w.heap.size<w1.heap.size by omega) x1
     replace x2:=carry hb (show w.heap.size<w1.heap.size by omega) x2
     replace x3:=carry hb (show w.heap.size<w1.heap.size by omega) x3
     replace x4:=carry hb (show w.heap.size<w1.heap.size by omega) x4
     replace y0:=carry hb (show w.heap.size+1<w1.heap.size by omega) y0
     replace y1:=carry hb (show w.heap.size+1<w1.heap.size by omega) y1
     replace y2:=carry hb (show w.heap.size+1<w1.heap.size by omega) y2
     replace y3:=carry hb (show w.heap.size+1<w1.heap.size by omega) y3
     replace y4:=carry hb (show w.heap.size+1<w1.heap.size by omega) y4
     replace z0:=carryF hb (show w.heap.size+1<w1.heap.size by omega) z0
     replace z1:=carryF hb (show w.heap.size+1<w1.heap.size by omega) z1
     replace z2:=carryF hb (show w.heap.size+1<w1.heap.size by omega) z2
     replace z3:=carryF hb (show w.heap.size+1<w1.heap.size by omega) z3
     replace z4:=carryF hb (show w.heap.size+1<w1.heap.size by omega) z4
     replace hz:w.heap.size+2≤w2.heap.size:=Nat.le_trans hz hb.size
     replace HB:Hid (Below w.heap.size w w2):=HB.out.trans (hb.mono HB.out.size)
     clear hb
     go_wp2_with fail
     refine Calls.mono (HM.out _) ?_
     rintro e w3 ⟨rfl,hb⟩
     replace x0:=carry hb (show w.heap.size<w2.heap.size by omega) x0
     replace x1:=carry hb (show w.heap.size<w2.heap.size by omega) x1
     replace x2:=carry hb (show w.heap.size<w2.heap.size by omega) x2
     replace x3:=carry hb (show w.heap.size<w2.heap.size by omega) x3
     replace x4:=carry hb (show w.heap.size<w2.heap.size by omega) x4
     replace y0:=carry hb (show w.heap.size+1<w2.heap.size by omega) y0
     replace y1:=carry hb (show w.heap.size+1<w2.heap.size by omega) y1
     replace y2:=carry hb (show w.heap.size+1<w2.heap.size by omega) y2
     replace y3:=carry hb (show w.heap.size+1<w2.heap.size by omega) y3
     replace y4:=carry hb (show w.heap.size+1<w2.heap.size by omega) y4
     replace z0:=carryF hb (show w.heap.size+1<w2.heap.size by omega) z0
     replace z1:=carryF hb (show w.heap.size+1<w2.heap.size by omega) z1
     replace z2:=carryF hb (show w.heap.size+1<w2.heap.size by omega) z2
     replace z3:=carryF hb (show w.heap.size+1<w2.heap.size by omega) z3
     replace z4:=carryF hb (show w.heap.size+1<w2.heap.size by omega) z4
     replace hz:w.heap.size+2≤w3.heap.size:=Nat.le_trans hz hb.size
     replace HB:Hid (Below w.heap.size w w3):=HB.out.trans (hb.mono HB.out.size)
     clear hb
     go_wp2_with fail
     refine Calls.mono (HD.out _ (HG.out.mono HB.out)) ?_
     rintro e w4 ⟨⟨v,cap,rfl⟩,hb⟩
     replace x0:=carry hb (show w.heap.size<w3.heap.size by omega) x0
     replace x1:=carry hb (show w.heap.size<w3.heap.size by omega) x1
     replace x2:=carry hb (show w.heap.size<w3.heap.size by omega) x2
     replace x3:=carry hb (show w.heap.size<w3.heap.size by omega) x3
     replace x4:=carry hb (show w.heap.size<w3.heap.size by omega) x4
     replace y0:=carry hb (show w.heap.size+1<w3.heap.size by omega) y0
     replace y1:=carry hb (show w.heap.size+1<w3.heap.size by omega) y1
     replace y2:=carry hb (show w.heap.size+1<w3.heap.size by omega) y2
     replace y3:=carry hb (show w.heap.size+1<w3.heap.size by omega) y3
     replace y4:=carry hb (show w.heap.size+1<w3.heap.size by omega) y4
     replace z0:=carryF hb (show w.heap.size+1<w3.heap.size by omega) z0
     replace z1:=carryF hb (show w.heap.size+1<w3.heap.size by omega) z1
     replace z2:=carryF hb (show w.heap.size+1<w3.heap.size by omega) z2
     replace z3:=carryF hb (show w.heap.size+1<w3.heap.size by omega) z3
     replace z4:=carryF hb (show w.heap.size+1<w3.heap.size by omega) z4
     replace hz:w.heap.size+2≤w4.heap.size:=Nat.le_trans hz hb.size
     replace HB:Hid (Below w.heap.size w w4):=HB.out.trans (hb.mono HB.out.size)
     clear hb
     have fd:=fieldDesc2 (.slice v dn cap) (.string dr) (.int .i64 da) (.int .i64 dc)
     unfold outV
     go_wp2
     go_ret
     refine ⟨rB HT2.out,?_⟩
     repeat (first | exact HB.out | refine Below.setCell ?_ (by simp) _)
    ·have HT2:Hid (false=((a == 0) && (true && (true && true)))):=by show _=_;simp [*]
     go_enter Tryz.func171,Tryz.ntmps171
     go_wp2_with fail
     refine Calls.mono (HOp.out _ (HTab.out _ _)) ?_
     rintro e w1 ⟨rfl,hb1⟩
     obtain ⟨x0,x1,x2,x3,x4,y0,y1,y2,y3,y4,z0,z1,z2,z3,z4,hz,HB⟩:=i15 hb1 (by simp)
     clear hb1
     go_wp2_with fail
     refine Calls.mono (HNc.out _) ?_
     rintro e w2 ⟨rfl,hb⟩
     replace x0:=carry hb (show w.heap.size<w1.heap.size by omega) x0
     replace x1:=carry hb (show w.heap.size<w1.heap.size by omega) x1
     replace x2:=carry hb (show w.heap.size<w1.heap.size by omega) x2
     replace x3:=carry hb (show w.heap.size<w1.heap.size by omega) x3
     replace x4:=carry hb (show w.heap.size<w1.heap.size by omega) x4
     replace y0:=carry hb (show w.heap.size+1<w1.heap.size by omega) y0
     replace y1:=carry hb (show w.heap.size+1<w1.heap.size by omega) y1
     replace y2:=carry hb (show w.heap.size+1<w1.heap.size by omega) y2
     replace y3:=carry hb (show w.heap.size+1<w1.heap.size by omega) y3
     replace y4:=carry hb (show w.heap.size+1<w1.heap.size by omega) y4
     replace z0:=carryF hb (show w.heap.size+1<w1.heap.size by omega) z0
     replace z1:=carryF hb (show w.heap.size+1<w1.heap.size by omega) z1
     replace z2:=carryF hb (show w.heap.size+1<w1.heap.size by omega) z2
     replace z3:=carryF hb (show w.heap.size+1<w1.heap.size by omega) z3
     replace z4:=carryF hb (show w.heap.size+1<w1.heap.size by omega) z4
     replace hz:w.heap.size+2≤w2.heap.size:=Nat.le_trans hz hb.size
     replace HB:Hid (Below w.heap.size w w2):=HB.out.trans (hb.mono HB.out.size)
     clear hb
     go_wp2_with fail
     refine Calls.mono (HM.out _) ?_
     rintro e w3 ⟨rfl,hb⟩
     replace x0:=carry hb (show w.heap.size<w2.heap.size by omega) x0
     replace x1:=carry hb (show w.heap.size<w2.heap.size by omega) x1
     replace x2:=carry hb (show w.heap.size<w2.heap.size by omega) x2
     replace x3:=carry hb (show w.heap.size<w2.heap.size by omega) x3
     replace x4:=carry hb (show w.heap.size<w2.heap.size by omega) x4
     replace y0:=carry hb (show w.heap.size+1<w2.heap.size by omega) y0
     replace y1:=carry hb (show w.heap.size+1<w2.heap.size by omega) y1
     replace y2:=carry hb (show w.heap.size+1<w2.heap.size by omega) y2
     replace y3:=carry hb (show w.heap.size+1<w2.heap.size by omega) y3
     replace y4:=carry hb (show w.heap.size+1<w2.heap.size by omega) y4
     replace z0:=carryF hb (show w.heap.size+1<w2.heap.size by omega) z0
     replace z1:=carryF hb (show w.heap.size+1<w2.heap.size by omega) z1
     replace z2:=carryF hb (show w.heap.size+1<w2.heap.size by omega) z2
     replace z3:=carryF hb (show w.heap.size+1<w2.heap.size by omega) z3
     replace z4:=carryF hb (show w.heap.size+1<w2.heap.size by omega) z4
     replace hz:w.heap.size+2≤w3.heap.size:=Nat.le_trans hz hb.size
     replace HB:Hid (Below w.heap.size w w3):=HB.out.trans (hb.mono HB.out.size)
     clear hb
     go_wp2_with fail
     refine Calls.mono (HD.out _ (HG.out.mono HB.out)) ?_
     rintro e w4 ⟨⟨v,cap,rfl⟩,hb⟩
     replace x0:=carry hb (show w.heap.size<w3.heap.size by omega) x0
     replace x1:=carry hb (show w.heap.size<w3.heap.size by omega) x1
     replace x2:=carry hb (show w.heap.size<w3.heap.size by omega) x2
     replace x3:=carry hb (show w.heap.size<w3.heap.size by omega) x3
     replace x4:=carry hb (show w.heap.size<w3.heap.size by omega) x4
     replace y0:=carry hb (show w.heap.size+1<w3.heap.size by omega) y0
     replace y1:=carry hb (show w.heap.size+1<w3.heap.size by omega) y1
     replace y2:=carry hb (show w.heap.size+1<w3.heap.size by omega) y2
     replace y3:=carry hb (show w.heap.size+1<w3.heap.size by omega) y3
     replace y4:=carry hb (show w.heap.size+1<w3.heap.size by omega) y4
     replace z0:=carryF hb (show w.heap.size+1<w3.heap.size by omega) z0
     replace z1:=carryF hb (show w.heap.size+1<w3.heap.size by omega) z1
     replace z2:=carryF hb (show w.heap.size+1<w3.heap.size by omega) z2
     replace z3:=carryF hb (show w.heap.size+1<w3.heap.size by omega) z3
     replace z4:=carryF hb (show w.heap.size+1<w3.heap.size by omega) z4
     replace hz:w.heap.size+2≤w4.heap.size:=Nat.le_trans hz hb.size
     replace HB:Hid (Below w.heap.size w w4):=HB.out.trans (hb.mono HB.out.size)
     clear hb
     have fd:=fieldDesc2 (.slice v dn cap) (.string dr) (.int .i64 da) (.int .i64 dc)
     unfold outV
     go_wp2
     go_ret
     refine ⟨rB HT2.out,?_⟩
     repeat (first | exact HB.out | refine Below.setCell ?_ (by simp) _)
set_option maxHeartbeats 2000000 in
theorem implIns_x (op a:Int) (c n d:ByteArray) (w:World) (ht:Tab w) (hg:Glob w) (ha:-9223372036854775808≤a∧a≤9223372036854775807) (hc:c.size≤maxLen) (hn:n.size≤maxLen) (hd:d.size≤maxLen) (hf:fmS op=⟨#[33]⟩) :
  Calls Tryz.prog 171 #[.agg #[.int .i64 op,.int .i64 a,.string c,.string n,.string d]] w fun e w'=>e = .returned (.bool (false))∧Below w.heap.size w w':=by
 have HOp:Hid (∀ w,Tab w→Calls Tryz.prog 172 #[.int .i64 op] w fun e w'=>e = .returned (.string ⟨#[33]⟩)∧Below w.heap.size w w'):=fun w h=>hf ▸ implOpForm op w h
 have HTab:Hid (∀ o o',Tab ((w.alloc o).alloc o')):=fun o o'=>ht.mono (((Below.refl _ _).alloc (Nat.le_refl _) o).alloc (by simp) o')
 have HG:Hid (Glob w):=hg
 clear hf ht hg ha hc hn hd
 go_enter Tryz.func171,Tryz.ntmps171
 go_wp2_with fail
 refine Calls.mono (HOp.out _ (HTab.out _ _)) ?_
 rintro e w1 ⟨rfl,hb1⟩
 obtain ⟨x0,x1,x2,x3,x4,y0,y1,y2,y3,y4,z0,z1,z2,z3,z4,hz,HB⟩:=i15 hb1 (by simp)
 clear hb1
 go_wp2
 go_ret
 refine ⟨rfl,?_⟩
 repeat (first | exact HB.out | refine Below.setCell ?_ (by simp) _)
theorem implInsRight (op a:Int) (c n d:ByteArray) (w:World) (ht:Tab w) (hg:Glob w) (ha:-9223372036854775808≤a∧a≤9223372036854775807) (hc:c.size≤maxLen) (hn:n.size≤maxLen) (hd:d.size≤maxLen) :
  Calls Tryz.prog 171 #[.agg #[.int .i64 op,.int .i64 a,.string c,.string n,.string d]] w fun e w'=>e = .returned (.bool (insOk (fmS op) a c n d))∧Below w.heap.size w w':=by
 rcases fmS_cases op with h | h | h | h | h | h | h | h | h
 ·rw [h,insOk_e];exact implIns_e op a c n d w ht hg ha hc hn hd h
 ·rw [h,insOk_n];exact implIns_n op a c n d w ht hg ha hc hn hd h
 ·rw [h,insOk_i];exact implIns_i op a c n d w ht hg ha hc hn hd h
 ·rw [h,insOk_t];exact implIns_t op a c n d w ht hg ha hc hn hd h
 ·rw [h,insOk_c];exact implIns_c op a c n d w ht hg ha hc hn hd h
 ·rw [h,insOk_y];exact implIns_y op a c n d w ht hg ha hc hn hd h
 ·rw [h,insOk_f];exact implIns_f op a c n d w ht hg ha hc hn hd h
 ·rw [h,insOk_m];exact implIns_m op a c n d w ht hg ha hc hn hd h
 ·rw [h,insOk_x];exact implIns_x op a c n d w ht hg ha hc hn hd h
end Go.Proofs.YtmhgaggpdggbeaaGreatDoor
