import Derived.Test.YtmhgaggpdggbeaaGreatDoorIns2
namespace Go.Proofs.YtmhgaggpdggbeaaGreatDoor
open Go.RowKit
set_option maxRecDepth 20000
set_option linter.unusedVariables false

set_option maxHeartbeats 2000000 in
theorem implIns_e (op a:Int) (c n d:ByteArray) (w:World) (ht:Tab w) (hg:Glob w) (ha:-9223372036854775808≤a∧a≤9223372036854775807) (hc:c.size≤maxLen) (hn:n.size≤maxLen) (hd:d.size≤maxLen) (hf:fmS op=⟨#[]⟩) :
  Calls Tryz.prog 171 #[.agg #[.int .i64 op,.int .i64 a,.string c,.string n,.string d]] w fun e w'=>e = .returned (.bool ((a == 0) && empB c n d))∧Below w.heap.size w w':=by
 have HOp:Hid (∀ w,Tab w→Calls Tryz.prog 172 #[.int .i64 op] w fun e w'=>e = .returned (.string ⟨#[]⟩)∧Below w.heap.size w w'):=fun w h=>hf ▸ implOpForm op w h
 have HTab:Hid (∀ o o',Tab ((w.alloc o).alloc o')):=fun o o'=>ht.mono (((Below.refl _ _).alloc (Nat.le_refl _) o).alloc (by simp) o')
 have HG:Hid (Glob w):=hg
 clear hf ht hg ha hc hn hd
 by_cases ha:a=0
 ·subst ha
  by_cases hc:c.toList=[]
  ·by_cases hn:n.toList=[]
   ·by_cases hd:d.toList=[]
    ·have HT2:Hid (true=(((0:Int) == 0) && empB c n d)):=by show _=_;simp [empB, *]
     go_enter Tryz.func171,Tryz.ntmps171
     go_wp2_with fail
     refine Calls.mono (HOp.out _ (HTab.out _ _)) ?_
     rintro e w1 ⟨rfl,hb1⟩
     obtain ⟨x0,x1,x2,x3,x4,y0,y1,y2,y3,y4,z0,z1,z2,z3,z4,hz,HB⟩:=i15 hb1 (by simp)
     clear hb1
     go_wp2
     go_ret
     refine ⟨rB HT2.out,?_⟩
     repeat (first | exact HB.out | refine Below.setCell ?_ (by simp) _)
    ·have HT2:Hid (false=(((0:Int) == 0) && empB c n d)):=by show _=_;simp [empB, *]
     go_enter Tryz.func171,Tryz.ntmps171
     go_wp2_with fail
     refine Calls.mono (HOp.out _ (HTab.out _ _)) ?_
     rintro e w1 ⟨rfl,hb1⟩
     obtain ⟨x0,x1,x2,x3,x4,y0,y1,y2,y3,y4,z0,z1,z2,z3,z4,hz,HB⟩:=i15 hb1 (by simp)
     clear hb1
     go_wp2
     go_ret
     refine ⟨rB HT2.out,?_⟩
     repeat (first | exact HB.out | refine Below.setCell ?_ (by simp) _)
   ·have HT2:Hid (false=(((0:Int) == 0) && empB c n d)):=by show _=_;simp [empB, *]
    go_enter Tryz.func171,Tryz.ntmps171
    go_wp2_with fail
    refine Calls.mono (HOp.out _ (HTab.out _ _)) ?_
    rintro e w1 ⟨rfl,hb1⟩
    obtain ⟨x0,x1,x2,x3,x4,y0,y1,y2,y3,y4,z0,z1,z2,z3,z4,hz,HB⟩:=i15 hb1 (by simp)
    clear hb1
    go_wp2
    go_ret
    refine ⟨rB HT2.out,?_⟩
    repeat (first | exact HB.out | refine Below.setCell ?_ (by simp) _)
  ·have HT2:Hid (false=(((0:Int) == 0) && empB c n d)):=by show _=_;simp [empB, *]
   go_enter Tryz.func171,Tryz.ntmps171
   go_wp2_with fail
   refine Calls.mono (HOp.out _ (HTab.out _ _)) ?_
   rintro e w1 ⟨rfl,hb1⟩
   obtain ⟨x0,x1,x2,x3,x4,y0,y1,y2,y3,y4,z0,z1,z2,z3,z4,hz,HB⟩:=i15 hb1 (by simp)
   clear hb1
   go_wp2
   go_ret
   refine ⟨rB HT2.out,?_⟩
   repeat (first | exact HB.out | refine Below.setCell ?_ (by simp) _)
 ·have HT2:Hid (false=((a == 0) && empB c n d)):=by show _=_;simp [empB, *]
  go_enter Tryz.func171,Tryz.ntmps171
  go_wp2_with fail
  refine Calls.mono (HOp.out _ (HTab.out _ _)) ?_
  rintro e w1 ⟨rfl,hb1⟩
  obtain ⟨x0,x1,x2,x3,x4,y0,y1,y2,y3,y4,z0,z1,z2,z3,z4,hz,HB⟩:=i15 hb1 (by simp)
  clear hb1
  go_wp2
  go_ret
  refine ⟨rB HT2.out,?_⟩
  repeat (first | exact HB.out | refine Below.setCell ?_ (by simp) _)
set_option maxHeartbeats 2000000 in
theorem implIns_n (op a:Int) (c n d:ByteArray) (w:World) (ht:Tab w) (hg:Glob w) (ha:-9223372036854775808≤a∧a≤9223372036854775807) (hc:c.size≤maxLen) (hn:n.size≤maxLen) (hd:d.size≤maxLen) (hf:fmS op=⟨#[110]⟩) :
  Calls Tryz.prog 171 #[.agg #[.int .i64 op,.int .i64 a,.string c,.string n,.string d]] w fun e w'=>e = .returned (.bool (i32B a && empB c n d))∧Below w.heap.size w w':=by
 have HOp:Hid (∀ w,Tab w→Calls Tryz.prog 172 #[.int .i64 op] w fun e w'=>e = .returned (.string ⟨#[110]⟩)∧Below w.heap.size w w'):=fun w h=>hf ▸ implOpForm op w h
 have HTab:Hid (∀ o o',Tab ((w.alloc o).alloc o')):=fun o o'=>ht.mono (((Below.refl _ _).alloc (Nat.le_refl _) o).alloc (by simp) o')
 have HG:Hid (Glob w):=hg
 have HI:Hid (∀ w,Calls Tryz.prog 177 #[.int .i64 a] w fun e w'=>e = .returned (.bool (i32B a))∧w'=w):=fun w=>implIsInt a w ha
 generalize i32B a=bi at *
 clear hf ht hg ha hc hn hd
 cases bi
 ·have HT2:Hid (false=(false && empB c n d)):=by show _=_;simp [empB, *]
  go_enter Tryz.func171,Tryz.ntmps171
  go_wp2_with fail
  refine Calls.mono (HOp.out _ (HTab.out _ _)) ?_
  rintro e w1 ⟨rfl,hb1⟩
  obtain ⟨x0,x1,x2,x3,x4,y0,y1,y2,y3,y4,z0,z1,z2,z3,z4,hz,HB⟩:=i15 hb1 (by simp)
  clear hb1
  go_wp2_with fail
  refine Calls.mono (HI.out _) ?_
  rintro e w2 ⟨rfl,hw⟩
  subst w2
  go_wp2
  go_ret
  refine ⟨rB HT2.out,?_⟩
  repeat (first | exact HB.out | refine Below.setCell ?_ (by simp) _)
 ·by_cases hc:c.toList=[]
  ·by_cases hn:n.toList=[]
   ·by_cases hd:d.toList=[]
    ·have HT2:Hid (true=(true && empB c n d)):=by show _=_;simp [empB, *]
     go_enter Tryz.func171,Tryz.ntmps171
     go_wp2_with fail
     refine Calls.mono (HOp.out _ (HTab.out _ _)) ?_
     rintro e w1 ⟨rfl,hb1⟩
     obtain ⟨x0,x1,x2,x3,x4,y0,y1,y2,y3,y4,z0,z1,z2,z3,z4,hz,HB⟩:=i15 hb1 (by simp)
     clear hb1
     go_wp2_with fail
     refine Calls.mono (HI.out _) ?_
     rintro e w2 ⟨rfl,hw⟩
     subst w2
     go_wp2
     go_ret
     refine ⟨rB HT2.out,?_⟩
     repeat (first | exact HB.out | refine Below.setCell ?_ (by simp) _)
    ·have HT2:Hid (false=(true && empB c n d)):=by show _=_;simp [empB, *]
     go_enter Tryz.func171,Tryz.ntmps171
     go_wp2_with fail
     refine Calls.mono (HOp.out _ (HTab.out _ _)) ?_
     rintro e w1 ⟨rfl,hb1⟩
     obtain ⟨x0,x1,x2,x3,x4,y0,y1,y2,y3,y4,z0,z1,z2,z3,z4,hz,HB⟩:=i15 hb1 (by simp)
     clear hb1
     go_wp2_with fail
     refine Calls.mono (HI.out _) ?_
     rintro e w2 ⟨rfl,hw⟩
     subst w2
     go_wp2
     go_ret
     refine ⟨rB HT2.out,?_⟩
     repeat (first | exact HB.out | refine Below.setCell ?_ (by simp) _)
   ·have HT2:Hid (false=(true && empB c n d)):=by show _=_;simp [empB, *]
    go_enter Tryz.func171,Tryz.ntmps171
    go_wp2_with fail
    refine Calls.mono (HOp.out _ (HTab.out _ _)) ?_
    rintro e w1 ⟨rfl,hb1⟩
    obtain ⟨x0,x1,x2,x3,x4,y0,y1,y2,y3,y4,z0,z1,z2,z3,z4,hz,HB⟩:=i15 hb1 (by simp)
    clear hb1
    go_wp2_with fail
    refine Calls.mono (HI.out _) ?_
    rintro e w2 ⟨rfl,hw⟩
    subst w2
    go_wp2
    go_ret
    refine ⟨rB HT2.out,?_⟩
    repeat (first | exact HB.out | refine Below.setCell ?_ (by simp) _)
  ·have HT2:Hid (false=(true && empB c n d)):=by show _=_;simp [empB, *]
   go_enter Tryz.func171,Tryz.ntmps171
   go_wp2_with fail
   refine Calls.mono (HOp.out _ (HTab.out _ _)) ?_
   rintro e w1 ⟨rfl,hb1⟩
   obtain ⟨x0,x1,x2,x3,x4,y0,y1,y2,y3,y4,z0,z1,z2,z3,z4,hz,HB⟩:=i15 hb1 (by simp)
   clear hb1
   go_wp2_with fail
   refine Calls.mono (HI.out _) ?_
   rintro e w2 ⟨rfl,hw⟩
   subst w2
   go_wp2
   go_ret
   refine ⟨rB HT2.out,?_⟩
   repeat (first | exact HB.out | refine Below.setCell ?_ (by simp) _)
set_option maxHeartbeats 2000000 in
theorem implIns_i (op a:Int) (c n d:ByteArray) (w:World) (ht:Tab w) (hg:Glob w) (ha:-9223372036854775808≤a∧a≤9223372036854775807) (hc:c.size≤maxLen) (hn:n.size≤maxLen) (hd:d.size≤maxLen) (hf:fmS op=⟨#[105]⟩) :
  Calls Tryz.prog 171 #[.agg #[.int .i64 op,.int .i64 a,.string c,.string n,.string d]] w fun e w'=>e = .returned (.bool (isP a 16 && empB c n d))∧Below w.heap.size w w':=by
 have HOp:Hid (∀ w,Tab w→Calls Tryz.prog 172 #[.int .i64 op] w fun e w'=>e = .returned (.string ⟨#[105]⟩)∧Below w.heap.size w w'):=fun w h=>hf ▸ implOpForm op w h
 have HTab:Hid (∀ o o',Tab ((w.alloc o).alloc o')):=fun o o'=>ht.mono (((Below.refl _ _).alloc (Nat.le_refl _) o).alloc (by simp) o')
 have HG:Hid (Glob w):=hg
 have HP:Hid (∀ w,Calls Tryz.prog 159 #[.int .i64 a,.int .i64 16] w fun e w'=>e = .returned (.bool (isP a 16))∧w'=w):=fun w=>implIsPlace a 16 w
 generalize isP a 16=bp at *
 clear hf ht hg ha hc hn hd
 cases bp
 ·have HT2:Hid (false=(false && empB c n d)):=by show _=_;simp [empB, *]
  go_enter Tryz.func171,Tryz.ntmps171
  go_wp2_with fail
  refine Calls.mono (HOp.out _ (HTab.out _ _)) ?_
  rintro e w1 ⟨rfl,hb1⟩
  obtain ⟨x0,x1,x2,x3,x4,y0,y1,y2,y3,y4,z0,z1,z2,z3,z4,hz,HB⟩:=i15 hb1 (by simp)
  clear hb1
  go_wp2_with fail
  refine Calls.mono (HP.out _) ?_
  rintro e w2 ⟨rfl,hw⟩
  subst w2
  go_wp2
  go_ret
  refine ⟨rB HT2.out,?_⟩
  repeat (first | exact HB.out | refine Below.setCell ?_ (by simp) _)
 ·by_cases hc:c.toList=[]
  ·by_cases hn:n.toList=[]
   ·by_cases hd:d.toList=[]
    ·have HT2:Hid (true=(true && empB c n d)):=by show _=_;simp [empB, *]
     go_enter Tryz.func171,Tryz.ntmps171
     go_wp2_with fail
     refine Calls.mono (HOp.out _ (HTab.out _ _)) ?_
     rintro e w1 ⟨rfl,hb1⟩
     obtain ⟨x0,x1,x2,x3,x4,y0,y1,y2,y3,y4,z0,z1,z2,z3,z4,hz,HB⟩:=i15 hb1 (by simp)
     clear hb1
     go_wp2_with fail
     refine Calls.mono (HP.out _) ?_
     rintro e w2 ⟨rfl,hw⟩
     subst w2
     go_wp2
     go_ret
     refine ⟨rB HT2.out,?_⟩
     repeat (first | exact HB.out | refine Below.setCell ?_ (by simp) _)
    ·have HT2:Hid (false=(true && empB c n d)):=by show _=_;simp [empB, *]
     go_enter Tryz.func171,Tryz.ntmps171
     go_wp2_with fail
     refine Calls.mono (HOp.out _ (HTab.out _ _)) ?_
     rintro e w1 ⟨rfl,hb1⟩
     obtain ⟨x0,x1,x2,x3,x4,y0,y1,y2,y3,y4,z0,z1,z2,z3,z4,hz,HB⟩:=i15 hb1 (by simp)
     clear hb1
     go_wp2_with fail
     refine Calls.mono (HP.out _) ?_
     rintro e w2 ⟨rfl,hw⟩
     subst w2
     go_wp2
     go_ret
     refine ⟨rB HT2.out,?_⟩
     repeat (first | exact HB.out | refine Below.setCell ?_ (by simp) _)
   ·have HT2:Hid (false=(true && empB c n d)):=by show _=_;simp [empB, *]
    go_enter Tryz.func171,Tryz.ntmps171
    go_wp2_with fail
    refine Calls.mono (HOp.out _ (HTab.out _ _)) ?_
    rintro e w1 ⟨rfl,hb1⟩
    obtain ⟨x0,x1,x2,x3,x4,y0,y1,y2,y3,y4,z0,z1,z2,z3,z4,hz,HB⟩:=i15 hb1 (by simp)
    clear hb1
    go_wp2_with fail
    refine Calls.mono (HP.out _) ?_
    rintro e w2 ⟨rfl,hw⟩
    subst w2
    go_wp2
    go_ret
    refine ⟨rB HT2.out,?_⟩
    repeat (first | exact HB.out | refine Below.setCell ?_ (by simp) _)
  ·have HT2:Hid (false=(true && empB c n d)):=by show _=_;simp [empB, *]
   go_enter Tryz.func171,Tryz.ntmps171
   go_wp2_with fail
   refine Calls.mono (HOp.out _ (HTab.out _ _)) ?_
   rintro e w1 ⟨rfl,hb1⟩
   obtain ⟨x0,x1,x2,x3,x4,y0,y1,y2,y3,y4,z0,z1,z2,z3,z4,hz,HB⟩:=i15 hb1 (by simp)
   clear hb1
   go_wp2_with fail
   refine Calls.mono (HP.out _) ?_
   rintro e w2 ⟨rfl,hw⟩
   subst w2
   go_wp2
   go_ret
   refine ⟨rB HT2.out,?_⟩
   repeat (first | exact HB.out | refine Below.setCell ?_ (by simp) _)
set_option maxHeartbeats 2000000 in
theorem implIns_t (op a:Int) (c n d:ByteArray) (w:World) (ht:Tab w) (hg:Glob w) (ha:-9223372036854775808≤a∧a≤9223372036854775807) (hc:c.size≤maxLen) (hn:n.size≤maxLen) (hd:d.size≤maxLen) (hf:fmS op=⟨#[116]⟩) :
  Calls Tryz.prog 171 #[.agg #[.int .i64 op,.int .i64 a,.string c,.string n,.string d]] w fun e w'=>e = .returned (.bool (isP a 60 && empB c n d))∧Below w.heap.size w w':=by
 have HOp:Hid (∀ w,Tab w→Calls Tryz.prog 172 #[.int .i64 op] w fun e w'=>e = .returned (.string ⟨#[116]⟩)∧Below w.heap.size w w'):=fun w h=>hf ▸ implOpForm op w h
 have HTab:Hid (∀ o o',Tab ((w.alloc o).alloc o')):=fun o o'=>ht.mono (((Below.refl _ _).alloc (Nat.le_refl _) o).alloc (by simp) o')
 have HG:Hid (Glob w):=hg
 have HP:Hid (∀ w,Calls Tryz.prog 159 #[.int .i64 a,.int .i64 60] w fun e w'=>e = .returned (.bool (isP a 60))∧w'=w):=fun w=>implIsPlace a 60 w
 generalize isP a 60=bp at *
 clear hf ht hg ha hc hn hd
 cases bp
 ·have HT2:Hid (false=(false && empB c n d)):=by show _=_;simp [empB, *]
  go_enter Tryz.func171,Tryz.ntmps171
  go_wp2_with fail
  refine Calls.mono (HOp.out _ (HTab.out _ _)) ?_
  rintro e w1 ⟨rfl,hb1⟩
  obtain ⟨x0,x1,x2,x3,x4,y0,y1,y2,y3,y4,z0,z1,z2,z3,z4,hz,HB⟩:=i15 hb1 (by simp)
  clear hb1
  go_wp2_with fail
  refine Calls.mono (HP.out _) ?_
  rintro e w2 ⟨rfl,hw⟩
  subst w2
  go_wp2
  go_ret
  refine ⟨rB HT2.out,?_⟩
  repeat (first | exact HB.out | refine Below.setCell ?_ (by simp) _)
 ·by_cases hc:c.toList=[]
  ·by_cases hn:n.toList=[]
   ·by_cases hd:d.toList=[]
    ·have HT2:Hid (true=(true && empB c n d)):=by show _=_;simp [empB, *]
     go_enter Tryz.func171,Tryz.ntmps171
     go_wp2_with fail
     refine Calls.mono (HOp.out _ (HTab.out _ _)) ?_
     rintro e w1 ⟨rfl,hb1⟩
     obtain ⟨x0,x1,x2,x3,x4,y0,y1,y2,y3,y4,z0,z1,z2,z3,z4,hz,HB⟩:=i15 hb1 (by simp)
     clear hb1
     go_wp2_with fail
     refine Calls.mono (HP.out _) ?_
     rintro e w2 ⟨rfl,hw⟩
     subst w2
     go_wp2
     go_ret
     refine ⟨rB HT2.out,?_⟩
     repeat (first | exact HB.out | refine Below.setCell ?_ (by simp) _)
    ·have HT2:Hid (false=(true && empB c n d)):=by show _=_;simp [empB, *]
     go_enter Tryz.func171,Tryz.ntmps171
     go_wp2_with fail
     refine Calls.mono (HOp.out _ (HTab.out _ _)) ?_
     rintro e w1 ⟨rfl,hb1⟩
     obtain ⟨x0,x1,x2,x3,x4,y0,y1,y2,y3,y4,z0,z1,z2,z3,z4,hz,HB⟩:=i15 hb1 (by simp)
     clear hb1
     go_wp2_with fail
     refine Calls.mono (HP.out _) ?_
     rintro e w2 ⟨rfl,hw⟩
     subst w2
     go_wp2
     go_ret
     refine ⟨rB HT2.out,?_⟩
     repeat (first | exact HB.out | refine Below.setCell ?_ (by simp) _)
   ·have HT2:Hid (false=(true && empB c n d)):=by show _=_;simp [empB, *]
    go_enter Tryz.func171,Tryz.ntmps171
    go_wp2_with fail
    refine Calls.mono (HOp.out _ (HTab.out _ _)) ?_
    rintro e w1 ⟨rfl,hb1⟩
    obtain ⟨x0,x1,x2,x3,x4,y0,y1,y2,y3,y4,z0,z1,z2,z3,z4,hz,HB⟩:=i15 hb1 (by simp)
    clear hb1
    go_wp2_with fail
    refine Calls.mono (HP.out _) ?_
    rintro e w2 ⟨rfl,hw⟩
    subst w2
    go_wp2
    go_ret
    refine ⟨rB HT2.out,?_⟩
    repeat (first | exact HB.out | refine Below.setCell ?_ (by simp) _)
  ·have HT2:Hid (false=(true && empB c n d)):=by show _=_;simp [empB, *]
   go_enter Tryz.func171,Tryz.ntmps171
   go_wp2_with fail
   refine Calls.mono (HOp.out _ (HTab.out _ _)) ?_
   rintro e w1 ⟨rfl,hb1⟩
   obtain ⟨x0,x1,x2,x3,x4,y0,y1,y2,y3,y4,z0,z1,z2,z3,z4,hz,HB⟩:=i15 hb1 (by simp)
   clear hb1
   go_wp2_with fail
   refine Calls.mono (HP.out _) ?_
   rintro e w2 ⟨rfl,hw⟩
   subst w2
   go_wp2
   go_ret
   refine ⟨rB HT2.out,?_⟩
   repeat (first | exact HB.out | refine Below.setCell ?_ (by simp) _)
set_option maxHeartbeats 2000000 in
theorem implIns_c (op a:Int) (c n d:ByteArray) (w:World) (ht:Tab w) (hg:Glob w) (ha:-9223372036854775808≤a∧a≤9223372036854775807) (hc:c.size≤maxLen) (hn:n.size≤maxLen) (hd:d.size≤maxLen) (hf:fmS op=⟨#[99]⟩) :
  Calls Tryz.prog 171 #[.agg #[.int .i64 op,.int .i64 a,.string c,.string n,.string d]] w fun e w'=>e = .returned (.bool ((a == 0) && (nameB c && (n.toList.isEmpty && d.toList.isEmpty))))∧Below w.heap.size w w':=by
 have HOp:Hid (∀ w,Tab w→Calls Tryz.prog 172 #[.int .i64 op] w fun e w'=>e = .returned (.string ⟨#[99]⟩)∧Below w.heap.size w w'):=fun w h=>hf ▸ implOpForm op w h
 have HTab:Hid (∀ o o',Tab ((w.alloc o).alloc o')):=fun o o'=>ht.mono (((Below.refl _ _).alloc (Nat.le_refl _) o).alloc (by simp) o')
 have HG:Hid (Glob w):=hg
 have HNc:Hid (∀ w,Calls Tryz.prog 127 #[.string c] w fun e w'=>e = .returned (.bool (nameB c))∧Below w.heap.size w w'):=fun w=>implNameRight c w hc
 generalize nameB c=bc at *
 clear hf ht hg ha hc hn hd
 cases bc
 ·have HT2:Hid (false=((a == 0) && (false && (n.toList.isEmpty && d.toList.isEmpty)))):=by show _=_;simp [*]
  go_enter Tryz.func171,Tryz.ntmps171
  go_wp2_with fail
  refine Calls.mono (HOp.out _ (HTab.out _ _)) ?_
  rintro e w1 ⟨rfl,hb1⟩
  obtain ⟨x0,x1,x2,x3,x4,y0,y1,y2,y3,y4,z0,z1,z2,z3,z4,hz,HB⟩:=i15 hb1 (by simp)
  clear hb1
  go_wp2_with fail
  refine Calls.mono (HNc.out _) ?_
  rintro e w2 ⟨rfl,hb⟩
  replace x0:=carry hb (show w.heap.size<w1.heap.size by omega) x0
  replace x1:=carry hb (show w.heap.size<w1.heap.size by omega) x1
  replace x2:=carry hb (show w.heap.size<w1.heap.size by omega) x2
  replace x3:=carry hb (show w.heap.size<w1.heap.size by omega) x3
  replace x4:=carry hb (show w.heap.size<w1.heap.size by omega) x4
  replace y0:=carry hb (show w.heap.size+1<w1.heap.size by omega) y0
  replace y1:=carry hb (show w.heap.size+1<w1.heap.size by omega) y1
  replace y2:=carry hb (show w.heap.size+1<w1.heap.size by omega) y2
  replace y3:=carry hb (show w.heap.size+1<w1.heap.size by omega) y3
  replace y4:=carry hb (show w.heap.size+1<w1.heap.size by omega) y4
  replace z0:=carryF hb (show w.heap.size+1<w1.heap.size by omega) z0
  replace z1:=carryF hb (show w.heap.size+1<w1.heap.size by omega) z1
  replace z2:=carryF hb (show w.heap.size+1<w1.heap.size by omega) z2
  replace z3:=carryF hb (show w.heap.size+1<w1.heap.size by omega) z3
  replace z4:=carryF hb (show w.heap.size+1<w1.heap.size by omega) z4
  replace hz:w.heap.size+2≤w2.heap.size:=Nat.le_trans hz hb.size
  replace HB:Hid (Below w.heap.size w w2):=HB.out.trans (hb.mono HB.out.size)
  clear hb
  go_wp2
  go_ret
  refine ⟨rB HT2.out,?_⟩
  repeat (first | exact HB.out | refine Below.setCell ?_ (by simp) _)
 ·by_cases ha:a=0
  ·subst ha
   by_cases hn:n.toList=[]
   ·by_cases hd:d.toList=[]
    ·have HT2:Hid (true=(((0:Int) == 0) && (true && (n.toList.isEmpty && d.toList.isEmpty)))):=by show _=_;simp [*]
     go_enter Tryz.func171,Tryz.ntmps171
     go_wp2_with fail
     refine Calls.mono (HOp.out _ (HTab.out _ _)) ?_
     rintro e w1 ⟨rfl,hb1⟩
     obtain ⟨x0,x1,x2,x3,x4,y0,y1,y2,y3,y4,z0,z1,z2,z3,z4,hz,HB⟩:=i15 hb1 (by simp)
     clear hb1
     go_wp2_with fail
     refine Calls.mono (HNc.out _) ?_
     rintro e w2 ⟨rfl,hb⟩
     replace x0:=carry hb (show w.heap.size<w1.heap.size by omega) x0
     replace x1:=carry hb (show w.heap.size<w1.heap.size by omega) x1
     replace x2:=carry hb (show w.heap.size<w1.heap.size by omega) x2
     replace x3:=carry hb (show w.heap.size<w1.heap.size by omega) x3
     replace x4:=carry hb (show w.heap.size<w1.heap.size by omega) x4
     replace y0:=carry hb (show w.heap.size+1<w1.heap.size by omega) y0
     replace y1:=carry hb (show w.heap.size+1<w1.heap.size by omega) y1
     replace y2:=carry hb (show w.heap.size+1<w1.heap.size by omega) y2
     replace y3:=carry hb (show w.heap.size+1<w1.heap.size by omega) y3
     replace y4:=carry hb (show w.heap.size+1<w1.heap.size by omega) y4
     replace z0:=carryF hb (show w.heap.size+1<w1.heap.size by omega) z0
     replace z1:=carryF hb (show w.heap.size+1<w1.heap.size by omega) z1
     replace z2:=carryF hb (show w.heap.size+1<w1.heap.size by omega) z2
     replace z3:=carryF hb (show w.heap.size+1<w1.heap.size by omega) z3
     replace z4:=carryF hb (show w.heap.size+1<w1.heap.size by omega) z4
     replace hz:w.heap.size+2≤w2.heap.size:=Nat.le_trans hz hb.size
     replace HB:Hid (Below w.heap.size w w2):=HB.out.trans (hb.mono HB.out.size)
     clear hb
     go_wp2
     go_ret
     refine ⟨rB HT2.out,?_⟩
     repeat (first | exact HB.out | refine Below.setCell ?_ (by simp) _)
    ·have HT2:Hid (false=(((0:Int) == 0) && (true && (n.toList.isEmpty && d.toList.isEmpty)))):=by show _=_;simp [*]
     go_enter Tryz.func171,Tryz.ntmps171
     go_wp2_with fail
     refine Calls.mono (HOp.out _ (HTab.out _ _)) ?_
     rintro e w1 ⟨rfl,hb1⟩
     obtain ⟨x0,x1,x2,x3,x4,y0,y1,y2,y3,y4,z0,z1,z2,z3,z4,hz,HB⟩:=i15 hb1 (by simp)
     clear hb1
     go_wp2_with fail
     refine Calls.mono (HNc.out _) ?_
     rintro e w2 ⟨rfl,hb⟩
     replace x0:=carry hb (show w.heap.size<w1.heap.size by omega) x0
     replace x1:=carry hb (show w.heap.size<w1.heap.size by omega) x1
     replace x2:=carry hb (show w.heap.size<w1.heap.size by omega) x2
     replace x3:=carry hb (show w.heap.size<w1.heap.size by omega) x3
     replace x4:=carry hb (show w.heap.size<w1.heap.size by omega) x4
     replace y0:=carry hb (show w.heap.size+1<w1.heap.size by omega) y0
     replace y1:=carry hb (show w.heap.size+1<w1.heap.size by omega) y1
     replace y2:=carry hb (show w.heap.size+1<w1.heap.size by omega) y2
     replace y3:=carry hb (show w.heap.size+1<w1.heap.size by omega) y3
     replace y4:=carry hb (show w.heap.size+1<w1.heap.size by omega) y4
     replace z0:=carryF hb (show w.heap.size+1<w1.heap.size by omega) z0
     replace z1:=carryF hb (show w.heap.size+1<w1.heap.size by omega) z1
     replace z2:=carryF hb (show w.heap.size+1<w1.heap.size by omega) z2
     replace z3:=carryF hb (show w.heap.size+1<w1.heap.size by omega) z3
     replace z4:=carryF hb (show w.heap.size+1<w1.heap.size by omega) z4
     replace hz:w.heap.size+2≤w2.heap.size:=Nat.le_trans hz hb.size
     replace HB:Hid (Below w.heap.size w w2):=HB.out.trans (hb.mono HB.out.size)
     clear hb
     go_wp2
     go_ret
     refine ⟨rB HT2.out,?_⟩
     repeat (first | exact HB.out | refine Below.setCell ?_ (by simp) _)
   ·have HT2:Hid (false=(((0:Int) == 0) && (true && (n.toList.isEmpty && d.toList.isEmpty)))):=by show _=_;simp [*]
    go_enter Tryz.func171,Tryz.ntmps171
    go_wp2_with fail
    refine Calls.mono (HOp.out _ (HTab.out _ _)) ?_
    rintro e w1 ⟨rfl,hb1⟩
    obtain ⟨x0,x1,x2,x3,x4,y0,y1,y2,y3,y4,z0,z1,z2,z3,z4,hz,HB⟩:=i15 hb1 (by simp)
    clear hb1
    go_wp2_with fail
    refine Calls.mono (HNc.out _) ?_
    rintro e w2 ⟨rfl,hb⟩
    replace x0:=carry hb (show w.heap.size<w1.heap.size by omega) x0
    replace x1:=carry hb (show w.heap.size<w1.heap.size by omega) x1
    replace x2:=carry hb (show w.heap.size<w1.heap.size by omega) x2
    replace x3:=carry hb (show w.heap.size<w1.heap.size by omega) x3
    replace x4:=carry hb (show w.heap.size<w1.heap.size by omega) x4
    replace y0:=carry hb (show w.heap.size+1<w1.heap.size by omega) y0
    replace y1:=carry hb (show w.heap.size+1<w1.heap.size by omega) y1
    replace y2:=carry hb (show w.heap.size+1<w1.heap.size by omega) y2
    replace y3:=carry hb (show w.heap.size+1<w1.heap.size by omega) y3
    replace y4:=carry hb (show w.heap.size+1<w1.heap.size by omega) y4
    replace z0:=carryF hb (show w.heap.size+1<w1.heap.size by omega) z0
    replace z1:=carryF hb (show w.heap.size+1<w1.heap.size by omega) z1
    replace z2:=carryF hb (show w.heap.size+1<w1.heap.size by omega) z2
    replace z3:=carryF hb (show w.heap.size+1<w1.heap.size by omega) z3
    replace z4:=carryF hb (show w.heap.size+1<w1.heap.size by omega) z4
    replace hz:w.heap.size+2≤w2.heap.size:=Nat.le_trans hz hb.size
    replace HB:Hid (Below w.heap.size w w2):=HB.out.trans (hb.mono HB.out.size)
    clear hb
    go_wp2
    go_ret
    refine ⟨rB HT2.out,?_⟩
    repeat (first | exact HB.out | refine Below.setCell ?_ (by simp) _)
  ·have HT2:Hid (false=((a == 0) && (true && (n.toList.isEmpty && d.toList.isEmpty)))):=by show _=_;simp [*]
   go_enter Tryz.func171,Tryz.ntmps171
   go_wp2_with fail
   refine Calls.mono (HOp.out _ (HTab.out _ _)) ?_
   rintro e w1 ⟨rfl,hb1⟩
   obtain ⟨x0,x1,x2,x3,x4,y0,y1,y2,y3,y4,z0,z1,z2,z3,z4,hz,HB⟩:=i15 hb1 (by simp)
   clear hb1
   go_wp2_with fail
   refine Calls.mono (HNc.out _) ?_
   rintro e w2 ⟨rfl,hb⟩
   replace x0:=carry hb (show w.heap.size<w1.heap.size by omega) x0
   replace x1:=carry hb (show w.heap.size<w1.heap.size by omega) x1
   replace x2:=carry hb (show w.heap.size<w1.heap.size by omega) x2
   replace x3:=carry hb (show w.heap.size<w1.heap.size by omega) x3
   replace x4:=carry hb (show w.heap.size<w1.heap.size by omega) x4
   replace y0:=carry hb (show w.heap.size+1<w1.heap.size by omega) y0
   replace y1:=carry hb (show w.heap.size+1<w1.heap.size by omega) y1
   replace y2:=carry hb (show w.heap.size+1<w1.heap.size by omega) y2
   replace y3:=carry hb (show w.heap.size+1<w1.heap.size by omega) y3
   replace y4:=carry hb (show w.heap.size+1<w1.heap.size by omega) y4
   replace z0:=carryF hb (show w.heap.size+1<w1.heap.size by omega) z0
   replace z1:=carryF hb (show w.heap.size+1<w1.heap.size by omega) z1
   replace z2:=carryF hb (show w.heap.size+1<w1.heap.size by omega) z2
   replace z3:=carryF hb (show w.heap.size+1<w1.heap.size by omega) z3
   replace z4:=carryF hb (show w.heap.size+1<w1.heap.size by omega) z4
   replace hz:w.heap.size+2≤w2.heap.size:=Nat.le_trans hz hb.size
   replace HB:Hid (Below w.heap.size w w2):=HB.out.trans (hb.mono HB.out.size)
   clear hb
   go_wp2
   go_ret
   refine ⟨rB HT2.out,?_⟩
   repeat (first | exact HB.out | refine Below.setCell ?_ (by simp) _)
end Go.Proofs.YtmhgaggpdggbeaaGreatDoor
