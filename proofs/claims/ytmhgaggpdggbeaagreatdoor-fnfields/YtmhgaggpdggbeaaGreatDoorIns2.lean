import Derived.Test.YtmhgaggpdggbeaaGreatDoorIns1
namespace Go.Proofs.YtmhgaggpdggbeaaGreatDoor
open Go.RowKit
set_option maxRecDepth 20000
set_option linter.unusedVariables false

theorem fmS_cases (op:Int):fmS op=⟨#[]⟩ ∨ fmS op=⟨#[110]⟩ ∨ fmS op=⟨#[105]⟩ ∨ fmS op=⟨#[116]⟩ ∨ fmS op=⟨#[99]⟩ ∨ fmS op=⟨#[121]⟩ ∨ fmS op=⟨#[102]⟩ ∨ fmS op=⟨#[109]⟩ ∨ fmS op=⟨#[33]⟩:=by
 by_cases h:1≤op∧op<45
 ·obtain ⟨i,rfl⟩:∃ i:Nat,op=(i:Int):=⟨op.toNat,by omega⟩
  have key:∀ j:Fin 45,fmS (j.val:Int)=⟨#[]⟩ ∨ fmS (j.val:Int)=⟨#[110]⟩ ∨ fmS (j.val:Int)=⟨#[105]⟩ ∨ fmS (j.val:Int)=⟨#[116]⟩ ∨ fmS (j.val:Int)=⟨#[99]⟩ ∨ fmS (j.val:Int)=⟨#[121]⟩ ∨ fmS (j.val:Int)=⟨#[102]⟩ ∨ fmS (j.val:Int)=⟨#[109]⟩ ∨ fmS (j.val:Int)=⟨#[33]⟩:=by decide +kernel
  exact key ⟨i,by omega⟩
 ·have e:fmS op=⟨#[33]⟩:=by unfold fmS;rw [if_neg h]
  simp [e]

def insOk (f:ByteArray) (a:Int) (c n d:ByteArray):Bool :=
 if f=⟨#[]⟩ then (a == 0) && empB c n d
 else if f=⟨#[110]⟩ then i32B a && empB c n d
 else if f=⟨#[105]⟩ then isP a 16 && empB c n d
 else if f=⟨#[116]⟩ then isP a 60 && empB c n d
 else if f=⟨#[99]⟩ then (a == 0) && (nameB c && (n.toList.isEmpty && d.toList.isEmpty))
 else if f=⟨#[121]⟩ then (a == 0) && (c.toList.isEmpty && (n.toList.isEmpty && itemB d))
 else if f=⟨#[102]⟩ then (a == 0) && (nameB c && (nameB n && tyB d))
 else if f=⟨#[109]⟩ then (a == 0) && (nameB c && (mNameB n && (dC d == 0)))
 else false
theorem insOk_e (a:Int) (c n d:ByteArray):insOk ⟨#[]⟩ a c n d=((a == 0) && empB c n d):=by unfold insOk;rfl
theorem insOk_n (a:Int) (c n d:ByteArray):insOk ⟨#[110]⟩ a c n d=(i32B a && empB c n d):=by unfold insOk;rfl
theorem insOk_i (a:Int) (c n d:ByteArray):insOk ⟨#[105]⟩ a c n d=(isP a 16 && empB c n d):=by unfold insOk;rfl
theorem insOk_t (a:Int) (c n d:ByteArray):insOk ⟨#[116]⟩ a c n d=(isP a 60 && empB c n d):=by unfold insOk;rfl
theorem insOk_c (a:Int) (c n d:ByteArray):insOk ⟨#[99]⟩ a c n d=((a == 0) && (nameB c && (n.toList.isEmpty && d.toList.isEmpty))):=by unfold insOk;rfl
theorem insOk_y (a:Int) (c n d:ByteArray):insOk ⟨#[121]⟩ a c n d=((a == 0) && (c.toList.isEmpty && (n.toList.isEmpty && itemB d))):=by unfold insOk;rfl
theorem insOk_f (a:Int) (c n d:ByteArray):insOk ⟨#[102]⟩ a c n d=((a == 0) && (nameB c && (nameB n && tyB d))):=by unfold insOk;rfl
theorem insOk_m (a:Int) (c n d:ByteArray):insOk ⟨#[109]⟩ a c n d=((a == 0) && (nameB c && (mNameB n && (dC d == 0)))):=by unfold insOk;rfl
theorem insOk_x (a:Int) (c n d:ByteArray):insOk ⟨#[33]⟩ a c n d=(false):=by unfold insOk;rfl

theorem fieldDesc2 (v q x y:Value) (w:World):(Instr.field 159 (.agg #[v,q,x,y]) 2).run Tryz.prog w = .ok y w:=by kernel_rfl

set_option maxHeartbeats 1000000 in
theorem specIns_e (op a:Int) (c n d:ByteArray) (w:World) (ho:-9223372036854775808≤op∧op≤9223372036854775807) (hc:c.size≤maxLen) (hn:n.size≤maxLen) (hd:d.size≤maxLen) (hf:fmS op=⟨#[]⟩) :
  Calls Tryz.prog 119 #[.agg #[.int .i64 op,.int .i64 a,.string c,.string n,.string d]] w fun e w'=>e = .returned (.bool ((a == 0) && empB c n d))∧Below w.heap.size w w':=by
 have HOp:Hid (∀ w,Calls Tryz.prog 120 #[.int .i64 op] w fun e w'=>e = .returned (.string ⟨#[]⟩)∧Below w.heap.size w w'):=fun w=>hf ▸ specOpForm op w ho
 clear hf ho
 have HE:Hid (∀ w,Calls Tryz.prog 137 #[.agg #[.int .i64 op,.int .i64 a,.string c,.string n,.string d]] w fun e w'=>e = .returned (.bool (empB c n d))∧Below w.heap.size w w'):=fun w=>specEmpty op a c n d w
 generalize empB c n d=be at *
 clear hc hn hd
 cases ha:(a == 0)
 ·go_enter Tryz.func119,Tryz.ntmps119
  go_wp2_with fail
  refine Calls.mono (HOp.out _) ?_
  rintro e w1 ⟨rfl,hb1⟩
  obtain ⟨x0,x1,x2,x3,x4,HB⟩:=i5 hb1 (by simp)
  clear hb1
  go_wp2
  go_ret
  exact⟨rB (by first | rfl | simp),HB.out⟩
 ·go_enter Tryz.func119,Tryz.ntmps119
  go_wp2_with fail
  refine Calls.mono (HOp.out _) ?_
  rintro e w1 ⟨rfl,hb1⟩
  obtain ⟨x0,x1,x2,x3,x4,HB⟩:=i5 hb1 (by simp)
  clear hb1
  go_wp2_with fail
  refine Calls.mono (HE.out _) ?_
  rintro e w2 ⟨rfl,hb2⟩
  replace HB:Hid (Below w.heap.size w w2):=HB.out.trans (hb2.mono HB.out.size)
  clear hb2
  go_wp2
  go_ret
  exact⟨rB (by first | rfl | simp),HB.out⟩
set_option maxHeartbeats 1000000 in
theorem specIns_n (op a:Int) (c n d:ByteArray) (w:World) (ho:-9223372036854775808≤op∧op≤9223372036854775807) (hc:c.size≤maxLen) (hn:n.size≤maxLen) (hd:d.size≤maxLen) (hf:fmS op=⟨#[110]⟩) :
  Calls Tryz.prog 119 #[.agg #[.int .i64 op,.int .i64 a,.string c,.string n,.string d]] w fun e w'=>e = .returned (.bool (i32B a && empB c n d))∧Below w.heap.size w w':=by
 have HOp:Hid (∀ w,Calls Tryz.prog 120 #[.int .i64 op] w fun e w'=>e = .returned (.string ⟨#[110]⟩)∧Below w.heap.size w w'):=fun w=>hf ▸ specOpForm op w ho
 clear hf ho
 have HE:Hid (∀ w,Calls Tryz.prog 137 #[.agg #[.int .i64 op,.int .i64 a,.string c,.string n,.string d]] w fun e w'=>e = .returned (.bool (empB c n d))∧Below w.heap.size w w'):=fun w=>specEmpty op a c n d w
 generalize empB c n d=be at *
 have HI:Hid (∀ w,Calls Tryz.prog 138 #[.int .i64 a] w fun e w'=>e = .returned (.bool (i32B a))∧w'=w):=fun w=>specInt a w
 generalize i32B a=bi at *
 clear hc hn hd
 cases bi
 ·go_enter Tryz.func119,Tryz.ntmps119
  go_wp2_with fail
  refine Calls.mono (HOp.out _) ?_
  rintro e w1 ⟨rfl,hb1⟩
  obtain ⟨x0,x1,x2,x3,x4,HB⟩:=i5 hb1 (by simp)
  clear hb1
  go_wp2_with fail
  refine Calls.mono (HI.out _) ?_
  rintro e w2 ⟨rfl,hw2⟩
  subst w2
  go_wp2
  go_ret
  exact⟨rB (by first | rfl | simp),HB.out⟩
 ·go_enter Tryz.func119,Tryz.ntmps119
  go_wp2_with fail
  refine Calls.mono (HOp.out _) ?_
  rintro e w1 ⟨rfl,hb1⟩
  obtain ⟨x0,x1,x2,x3,x4,HB⟩:=i5 hb1 (by simp)
  clear hb1
  go_wp2_with fail
  refine Calls.mono (HI.out _) ?_
  rintro e w2 ⟨rfl,hw2⟩
  subst w2
  go_wp2_with fail
  refine Calls.mono (HE.out _) ?_
  rintro e w2 ⟨rfl,hb2⟩
  replace HB:Hid (Below w.heap.size w w2):=HB.out.trans (hb2.mono HB.out.size)
  clear hb2
  go_wp2
  go_ret
  exact⟨rB (by first | rfl | simp),HB.out⟩
set_option maxHeartbeats 1000000 in
theorem specIns_i (op a:Int) (c n d:ByteArray) (w:World) (ho:-9223372036854775808≤op∧op≤9223372036854775807) (hc:c.size≤maxLen) (hn:n.size≤maxLen) (hd:d.size≤maxLen) (hf:fmS op=⟨#[105]⟩) :
  Calls Tryz.prog 119 #[.agg #[.int .i64 op,.int .i64 a,.string c,.string n,.string d]] w fun e w'=>e = .returned (.bool (isP a 16 && empB c n d))∧Below w.heap.size w w':=by
 have HOp:Hid (∀ w,Calls Tryz.prog 120 #[.int .i64 op] w fun e w'=>e = .returned (.string ⟨#[105]⟩)∧Below w.heap.size w w'):=fun w=>hf ▸ specOpForm op w ho
 clear hf ho
 have HE:Hid (∀ w,Calls Tryz.prog 137 #[.agg #[.int .i64 op,.int .i64 a,.string c,.string n,.string d]] w fun e w'=>e = .returned (.bool (empB c n d))∧Below w.heap.size w w'):=fun w=>specEmpty op a c n d w
 generalize empB c n d=be at *
 clear hc hn hd
 have HX:isP a 16=(decide (0≤a) && decide (a<16)):=by unfold isP;simp
 rw [HX]
 clear HX
 cases hp0:decide (0≤a)
 ·go_enter Tryz.func119,Tryz.ntmps119
  go_wp2_with fail
  refine Calls.mono (HOp.out _) ?_
  rintro e w1 ⟨rfl,hb1⟩
  obtain ⟨x0,x1,x2,x3,x4,HB⟩:=i5 hb1 (by simp)
  clear hb1
  go_wp2
  go_ret
  exact⟨rB (by first | rfl | simp),HB.out⟩
 ·cases hp1:decide (a<16)
  ·go_enter Tryz.func119,Tryz.ntmps119
   go_wp2_with fail
   refine Calls.mono (HOp.out _) ?_
   rintro e w1 ⟨rfl,hb1⟩
   obtain ⟨x0,x1,x2,x3,x4,HB⟩:=i5 hb1 (by simp)
   clear hb1
   go_wp2
   go_ret
   exact⟨rB (by first | rfl | simp),HB.out⟩
  ·go_enter Tryz.func119,Tryz.ntmps119
   go_wp2_with fail
   refine Calls.mono (HOp.out _) ?_
   rintro e w1 ⟨rfl,hb1⟩
   obtain ⟨x0,x1,x2,x3,x4,HB⟩:=i5 hb1 (by simp)
   clear hb1
   go_wp2_with fail
   refine Calls.mono (HE.out _) ?_
   rintro e w2 ⟨rfl,hb2⟩
   replace HB:Hid (Below w.heap.size w w2):=HB.out.trans (hb2.mono HB.out.size)
   clear hb2
   go_wp2
   go_ret
   exact⟨rB (by first | rfl | simp),HB.out⟩
set_option maxHeartbeats 1000000 in
theorem specIns_t (op a:Int) (c n d:ByteArray) (w:World) (ho:-9223372036854775808≤op∧op≤9223372036854775807) (hc:c.size≤maxLen) (hn:n.size≤maxLen) (hd:d.size≤maxLen) (hf:fmS op=⟨#[116]⟩) :
  Calls Tryz.prog 119 #[.agg #[.int .i64 op,.int .i64 a,.string c,.string n,.string d]] w fun e w'=>e = .returned (.bool (isP a 60 && empB c n d))∧Below w.heap.size w w':=by
 have HOp:Hid (∀ w,Calls Tryz.prog 120 #[.int .i64 op] w fun e w'=>e = .returned (.string ⟨#[116]⟩)∧Below w.heap.size w w'):=fun w=>hf ▸ specOpForm op w ho
 clear hf ho
 have HE:Hid (∀ w,Calls Tryz.prog 137 #[.agg #[.int .i64 op,.int .i64 a,.string c,.string n,.string d]] w fun e w'=>e = .returned (.bool (empB c n d))∧Below w.heap.size w w'):=fun w=>specEmpty op a c n d w
 generalize empB c n d=be at *
 clear hc hn hd
 have HX:isP a 60=(decide (0≤a) && decide (a<60)):=by unfold isP;simp
 rw [HX]
 clear HX
 cases hp0:decide (0≤a)
 ·go_enter Tryz.func119,Tryz.ntmps119
  go_wp2_with fail
  refine Calls.mono (HOp.out _) ?_
  rintro e w1 ⟨rfl,hb1⟩
  obtain ⟨x0,x1,x2,x3,x4,HB⟩:=i5 hb1 (by simp)
  clear hb1
  go_wp2
  go_ret
  exact⟨rB (by first | rfl | simp),HB.out⟩
 ·cases hp1:decide (a<60)
  ·go_enter Tryz.func119,Tryz.ntmps119
   go_wp2_with fail
   refine Calls.mono (HOp.out _) ?_
   rintro e w1 ⟨rfl,hb1⟩
   obtain ⟨x0,x1,x2,x3,x4,HB⟩:=i5 hb1 (by simp)
   clear hb1
   go_wp2
   go_ret
   exact⟨rB (by first | rfl | simp),HB.out⟩
  ·go_enter Tryz.func119,Tryz.ntmps119
   go_wp2_with fail
   refine Calls.mono (HOp.out _) ?_
   rintro e w1 ⟨rfl,hb1⟩
   obtain ⟨x0,x1,x2,x3,x4,HB⟩:=i5 hb1 (by simp)
   clear hb1
   go_wp2_with fail
   refine Calls.mono (HE.out _) ?_
   rintro e w2 ⟨rfl,hb2⟩
   replace HB:Hid (Below w.heap.size w w2):=HB.out.trans (hb2.mono HB.out.size)
   clear hb2
   go_wp2
   go_ret
   exact⟨rB (by first | rfl | simp),HB.out⟩
set_option maxHeartbeats 1000000 in
theorem specIns_c (op a:Int) (c n d:ByteArray) (w:World) (ho:-9223372036854775808≤op∧op≤9223372036854775807) (hc:c.size≤maxLen) (hn:n.size≤maxLen) (hd:d.size≤maxLen) (hf:fmS op=⟨#[99]⟩) :
  Calls Tryz.prog 119 #[.agg #[.int .i64 op,.int .i64 a,.string c,.string n,.string d]] w fun e w'=>e = .returned (.bool ((a == 0) && (nameB c && (n.toList.isEmpty && d.toList.isEmpty))))∧Below w.heap.size w w':=by
 have HOp:Hid (∀ w,Calls Tryz.prog 120 #[.int .i64 op] w fun e w'=>e = .returned (.string ⟨#[99]⟩)∧Below w.heap.size w w'):=fun w=>hf ▸ specOpForm op w ho
 clear hf ho
 have HNc:Hid (∀ w,Calls Tryz.prog 93 #[.string c] w fun e w'=>e = .returned (.bool (nameB c))∧w'=w):=fun w=>specNameRight c w hc
 generalize nameB c=bc at *
 clear hc hn hd
 cases ha:(a == 0)
 ·go_enter Tryz.func119,Tryz.ntmps119
  go_wp2_with fail
  refine Calls.mono (HOp.out _) ?_
  rintro e w1 ⟨rfl,hb1⟩
  obtain ⟨x0,x1,x2,x3,x4,HB⟩:=i5 hb1 (by simp)
  clear hb1
  go_wp2
  go_ret
  exact⟨rB (by first | rfl | simp),HB.out⟩
 ·cases bc
  ·go_enter Tryz.func119,Tryz.ntmps119
   go_wp2_with fail
   refine Calls.mono (HOp.out _) ?_
   rintro e w1 ⟨rfl,hb1⟩
   obtain ⟨x0,x1,x2,x3,x4,HB⟩:=i5 hb1 (by simp)
   clear hb1
   go_wp2_with fail
   refine Calls.mono (HNc.out _) ?_
   rintro e w2 ⟨rfl,hw2⟩
   subst w2
   go_wp2
   go_ret
   exact⟨rB (by first | rfl | simp),HB.out⟩
  ·cases hn1:n.toList.isEmpty
   ·go_enter Tryz.func119,Tryz.ntmps119
    go_wp2_with fail
    refine Calls.mono (HOp.out _) ?_
    rintro e w1 ⟨rfl,hb1⟩
    obtain ⟨x0,x1,x2,x3,x4,HB⟩:=i5 hb1 (by simp)
    clear hb1
    go_wp2_with fail
    refine Calls.mono (HNc.out _) ?_
    rintro e w2 ⟨rfl,hw2⟩
    subst w2
    go_wp2
    go_ret
    exact⟨rB (by first | rfl | simp),HB.out⟩
   ·cases hd1:d.toList.isEmpty
    ·go_enter Tryz.func119,Tryz.ntmps119
     go_wp2_with fail
     refine Calls.mono (HOp.out _) ?_
     rintro e w1 ⟨rfl,hb1⟩
     obtain ⟨x0,x1,x2,x3,x4,HB⟩:=i5 hb1 (by simp)
     clear hb1
     go_wp2_with fail
     refine Calls.mono (HNc.out _) ?_
     rintro e w2 ⟨rfl,hw2⟩
     subst w2
     go_wp2
     go_ret
     exact⟨rB (by first | rfl | simp),HB.out⟩
    ·go_enter Tryz.func119,Tryz.ntmps119
     go_wp2_with fail
     refine Calls.mono (HOp.out _) ?_
     rintro e w1 ⟨rfl,hb1⟩
     obtain ⟨x0,x1,x2,x3,x4,HB⟩:=i5 hb1 (by simp)
     clear hb1
     go_wp2_with fail
     refine Calls.mono (HNc.out _) ?_
     rintro e w2 ⟨rfl,hw2⟩
     subst w2
     go_wp2
     go_ret
     exact⟨rB (by first | rfl | simp),HB.out⟩
set_option maxHeartbeats 1000000 in
theorem specIns_y (op a:Int) (c n d:ByteArray) (w:World) (ho:-9223372036854775808≤op∧op≤9223372036854775807) (hc:c.size≤maxLen) (hn:n.size≤maxLen) (hd:d.size≤maxLen) (hf:fmS op=⟨#[121]⟩) :
  Calls Tryz.prog 119 #[.agg #[.int .i64 op,.int .i64 a,.string c,.string n,.string d]] w fun e w'=>e = .returned (.bool ((a == 0) && (c.toList.isEmpty && (n.toList.isEmpty && itemB d))))∧Below w.heap.size w w':=by
 have HOp:Hid (∀ w,Calls Tryz.prog 120 #[.int .i64 op] w fun e w'=>e = .returned (.string ⟨#[121]⟩)∧Below w.heap.size w w'):=fun w=>hf ▸ specOpForm op w ho
 clear hf ho
 unfold itemB
 have HT:Hid (∀ w,Calls Tryz.prog 94 #[.string d] w fun e w'=>e = .returned (.bool (tyB d))∧w'=w):=fun w=>specTypeRight d w hd
 have hpos:tyB d=true→0<d.size:=fun h=>by
  rcases Nat.eq_zero_or_pos d.size with h0 | h0
  ·rw [show tyB d=false by unfold tyB;rw [tyE_end d 0 (by omega)];rfl] at h;cases h
  ·exact h0
 have HP:Hid (tyB d=true→0<d.size):=hpos
 clear hpos
 generalize tyB d=bt at *
 clear hc hn
 unfold maxLen at hd
 cases ha:(a == 0)
 ·go_enter Tryz.func119,Tryz.ntmps119
  go_wp2_with fail
  refine Calls.mono (HOp.out _) ?_
  rintro e w1 ⟨rfl,hb1⟩
  obtain ⟨x0,x1,x2,x3,x4,HB⟩:=i5 hb1 (by simp)
  clear hb1
  go_wp2
  go_ret
  exact⟨rB (by first | rfl | simp),HB.out⟩
 ·cases hc1:c.toList.isEmpty
  ·go_enter Tryz.func119,Tryz.ntmps119
   go_wp2_with fail
   refine Calls.mono (HOp.out _) ?_
   rintro e w1 ⟨rfl,hb1⟩
   obtain ⟨x0,x1,x2,x3,x4,HB⟩:=i5 hb1 (by simp)
   clear hb1
   go_wp2
   go_ret
   exact⟨rB (by first | rfl | simp),HB.out⟩
  ·cases hn1:n.toList.isEmpty
   ·go_enter Tryz.func119,Tryz.ntmps119
    go_wp2_with fail
    refine Calls.mono (HOp.out _) ?_
    rintro e w1 ⟨rfl,hb1⟩
    obtain ⟨x0,x1,x2,x3,x4,HB⟩:=i5 hb1 (by simp)
    clear hb1
    go_wp2
    go_ret
    exact⟨rB (by first | rfl | simp),HB.out⟩
   ·cases bt
    ·go_enter Tryz.func119,Tryz.ntmps119
     go_wp2_with fail
     refine Calls.mono (HOp.out _) ?_
     rintro e w1 ⟨rfl,hb1⟩
     obtain ⟨x0,x1,x2,x3,x4,HB⟩:=i5 hb1 (by simp)
     clear hb1
     go_wp2_with fail
     refine Calls.mono (HT.out _) ?_
     rintro e w2 ⟨rfl,hw2⟩
     subst w2
     go_wp2
     go_ret
     exact⟨rB (by first | rfl | simp),HB.out⟩
    ·have hp:0<d.size:=HP.out rfl
     have hby:=byt_eq d 0 hp
     cases hq:(byt d 0 == 91)
     ·have dd:((d[0].toNat:Int) != 91)=true:=by rw [hby,bne,hq];rfl
      have HQ:Hid ((byt d 0 == 91)=false):=hq
      clear hby hq
      go_enter Tryz.func119,Tryz.ntmps119
      go_wp2_with fail
      refine Calls.mono (HOp.out _) ?_
      rintro e w1 ⟨rfl,hb1⟩
      obtain ⟨x0,x1,x2,x3,x4,HB⟩:=i5 hb1 (by simp)
      clear hb1
      go_wp2_with fail
      refine Calls.mono (HT.out _) ?_
      rintro e w2 ⟨rfl,hw2⟩
      subst w2
      go_wp2
      go_ret
      exact⟨rB (by first | rfl | simp),HB.out⟩
     ·have dd:((d[0].toNat:Int) != 91)=false:=by rw [hby,bne,hq];rfl
      have HQ:Hid ((byt d 0 == 91)=true):=hq
      clear hby hq
      go_enter Tryz.func119,Tryz.ntmps119
      go_wp2_with fail
      refine Calls.mono (HOp.out _) ?_
      rintro e w1 ⟨rfl,hb1⟩
      obtain ⟨x0,x1,x2,x3,x4,HB⟩:=i5 hb1 (by simp)
      clear hb1
      go_wp2_with fail
      refine Calls.mono (HT.out _) ?_
      rintro e w2 ⟨rfl,hw2⟩
      subst w2
      go_wp2
      go_ret
      exact⟨rB (by first | rfl | simp),HB.out⟩
set_option maxHeartbeats 1000000 in
theorem specIns_f (op a:Int) (c n d:ByteArray) (w:World) (ho:-9223372036854775808≤op∧op≤9223372036854775807) (hc:c.size≤maxLen) (hn:n.size≤maxLen) (hd:d.size≤maxLen) (hf:fmS op=⟨#[102]⟩) :
  Calls Tryz.prog 119 #[.agg #[.int .i64 op,.int .i64 a,.string c,.string n,.string d]] w fun e w'=>e = .returned (.bool ((a == 0) && (nameB c && (nameB n && tyB d))))∧Below w.heap.size w w':=by
 have HOp:Hid (∀ w,Calls Tryz.prog 120 #[.int .i64 op] w fun e w'=>e = .returned (.string ⟨#[102]⟩)∧Below w.heap.size w w'):=fun w=>hf ▸ specOpForm op w ho
 clear hf ho
 have HNc:Hid (∀ w,Calls Tryz.prog 93 #[.string c] w fun e w'=>e = .returned (.bool (nameB c))∧w'=w):=fun w=>specNameRight c w hc
 have HNn:Hid (∀ w,Calls Tryz.prog 93 #[.string n] w fun e w'=>e = .returned (.bool (nameB n))∧w'=w):=fun w=>specNameRight n w hn
 generalize nameB c=bc at *
 generalize nameB n=bn at *
 have HT:Hid (∀ w,Calls Tryz.prog 94 #[.string d] w fun e w'=>e = .returned (.bool (tyB d))∧w'=w):=fun w=>specTypeRight d w hd
 generalize tyB d=bt at *
 clear hc hn hd
 cases ha:(a == 0)
 ·go_enter Tryz.func119,Tryz.ntmps119
  go_wp2_with fail
  refine Calls.mono (HOp.out _) ?_
  rintro e w1 ⟨rfl,hb1⟩
  obtain ⟨x0,x1,x2,x3,x4,HB⟩:=i5 hb1 (by simp)
  clear hb1
  go_wp2
  go_ret
  exact⟨rB (by first | rfl | simp),HB.out⟩
 ·cases bc
  ·go_enter Tryz.func119,Tryz.ntmps119
   go_wp2_with fail
   refine Calls.mono (HOp.out _) ?_
   rintro e w1 ⟨rfl,hb1⟩
   obtain ⟨x0,x1,x2,x3,x4,HB⟩:=i5 hb1 (by simp)
   clear hb1
   go_wp2_with fail
   refine Calls.mono (HNc.out _) ?_
   rintro e w2 ⟨rfl,hw2⟩
   subst w2
   go_wp2
   go_ret
   exact⟨rB (by first | rfl | simp),HB.out⟩
  ·cases bn
   ·go_enter Tryz.func119,Tryz.ntmps119
    go_wp2_with fail
    refine Calls.mono (HOp.out _) ?_
    rintro e w1 ⟨rfl,hb1⟩
    obtain ⟨x0,x1,x2,x3,x4,HB⟩:=i5 hb1 (by simp)
    clear hb1
    go_wp2_with fail
    refine Calls.mono (HNc.out _) ?_
    rintro e w2 ⟨rfl,hw2⟩
    subst w2
    go_wp2_with fail
    refine Calls.mono (HNn.out _) ?_
    rintro e w2 ⟨rfl,hw2⟩
    subst w2
    go_wp2
    go_ret
    exact⟨rB (by first | rfl | simp),HB.out⟩
   ·go_enter Tryz.func119,Tryz.ntmps119
    go_wp2_with fail
    refine Calls.mono (HOp.out _) ?_
    rintro e w1 ⟨rfl,hb1⟩
    obtain ⟨x0,x1,x2,x3,x4,HB⟩:=i5 hb1 (by simp)
    clear hb1
    go_wp2_with fail
    refine Calls.mono (HNc.out _) ?_
    rintro e w2 ⟨rfl,hw2⟩
    subst w2
    go_wp2_with fail
    refine Calls.mono (HNn.out _) ?_
    rintro e w2 ⟨rfl,hw2⟩
    subst w2
    go_wp2_with fail
    refine Calls.mono (HT.out _) ?_
    rintro e w2 ⟨rfl,hw2⟩
    subst w2
    go_wp2
    go_ret
    exact⟨rB (by first | rfl | simp),HB.out⟩
set_option maxHeartbeats 1000000 in
theorem specIns_m (op a:Int) (c n d:ByteArray) (w:World) (ho:-9223372036854775808≤op∧op≤9223372036854775807) (hc:c.size≤maxLen) (hn:n.size≤maxLen) (hd:d.size≤maxLen) (hf:fmS op=⟨#[109]⟩) :
  Calls Tryz.prog 119 #[.agg #[.int .i64 op,.int .i64 a,.string c,.string n,.string d]] w fun e w'=>e = .returned (.bool ((a == 0) && (nameB c && (mNameB n && (dC d == 0)))))∧Below w.heap.size w w':=by
 have HOp:Hid (∀ w,Calls Tryz.prog 120 #[.int .i64 op] w fun e w'=>e = .returned (.string ⟨#[109]⟩)∧Below w.heap.size w w'):=fun w=>hf ▸ specOpForm op w ho
 clear hf ho
 have HNc:Hid (∀ w,Calls Tryz.prog 93 #[.string c] w fun e w'=>e = .returned (.bool (nameB c))∧w'=w):=fun w=>specNameRight c w hc
 have HNn:Hid (∀ w,Calls Tryz.prog 93 #[.string n] w fun e w'=>e = .returned (.bool (nameB n))∧w'=w):=fun w=>specNameRight n w hn
 unfold mNameB
 generalize nameB c=bc at *
 generalize nameB n=bn at *
 have HD:Hid (∀ w,Calls Tryz.prog 118 #[.string d] w fun e w'=>(∃ v cap,e = .returned (outV (.slice v (dN d) cap) (dR d) (dA d) (dC d)))∧Below w.heap.size w w'):=fun w=>(specDescRead d w hd).mono fun e w' h=>⟨dv_form h.1,h.2⟩
 generalize dC d=dc at *
 generalize dN d=dn at *
 generalize dR d=dr at *
 generalize dA d=da at *
 clear hc hn hd
 cases ha:(a == 0)
 ·go_enter Tryz.func119,Tryz.ntmps119
  go_wp2_with fail
  refine Calls.mono (HOp.out _) ?_
  rintro e w1 ⟨rfl,hb1⟩
  obtain ⟨x0,x1,x2,x3,x4,HB⟩:=i5 hb1 (by simp)
  clear hb1
  go_wp2
  go_ret
  exact⟨rB (by first | rfl | simp),HB.out⟩
 ·cases bc
  ·go_enter Tryz.func119,Tryz.ntmps119
   go_wp2_with fail
   refine Calls.mono (HOp.out _) ?_
   rintro e w1 ⟨rfl,hb1⟩
   obtain ⟨x0,x1,x2,x3,x4,HB⟩:=i5 hb1 (by simp)
   clear hb1
   go_wp2_with fail
   refine Calls.mono (HNc.out _) ?_
   rintro e w2 ⟨rfl,hw2⟩
   subst w2
   go_wp2
   go_ret
   exact⟨rB (by first | rfl | simp),HB.out⟩
  ·cases bn
   ·cases hi:(n.toList == [60,105,110,105,116,62])
    ·go_enter Tryz.func119,Tryz.ntmps119
     go_wp2_with fail
     refine Calls.mono (HOp.out _) ?_
     rintro e w1 ⟨rfl,hb1⟩
     obtain ⟨x0,x1,x2,x3,x4,HB⟩:=i5 hb1 (by simp)
     clear hb1
     go_wp2_with fail
     refine Calls.mono (HNc.out _) ?_
     rintro e w2 ⟨rfl,hw2⟩
     subst w2
     go_wp2_with fail
     refine Calls.mono (HNn.out _) ?_
     rintro e w2 ⟨rfl,hw2⟩
     subst w2
     go_wp2
     go_ret
     exact⟨rB (by first | rfl | simp),HB.out⟩
    ·cases hk:(dc == 0)
     ·go_enter Tryz.func119,Tryz.ntmps119
      go_wp2_with fail
      refine Calls.mono (HOp.out _) ?_
      rintro e w1 ⟨rfl,hb1⟩
      obtain ⟨x0,x1,x2,x3,x4,HB⟩:=i5 hb1 (by simp)
      clear hb1
      go_wp2_with fail
      refine Calls.mono (HNc.out _) ?_
      rintro e w2 ⟨rfl,hw2⟩
      subst w2
      go_wp2_with fail
      refine Calls.mono (HNn.out _) ?_
      rintro e w2 ⟨rfl,hw2⟩
      subst w2
      go_wp2_with fail
      refine Calls.mono (HD.out _) ?_
      rintro e w2 ⟨⟨v,cap,rfl⟩,hb2⟩
      replace HB:Hid (Below w.heap.size w w2):=HB.out.trans (hb2.mono HB.out.size)
      clear hb2
      have fd:=fieldDesc2 (.slice v dn cap) (.string dr) (.int .i64 da) (.int .i64 dc)
      unfold outV
      go_wp2
      go_ret
      exact⟨rB (by first | rfl | simp),HB.out⟩
     ·go_enter Tryz.func119,Tryz.ntmps119
      go_wp2_with fail
      refine Calls.mono (HOp.out _) ?_
      rintro e w1 ⟨rfl,hb1⟩
      obtain ⟨x0,x1,x2,x3,x4,HB⟩:=i5 hb1 (by simp)
      clear hb1
      go_wp2_with fail
      refine Calls.mono (HNc.out _) ?_
      rintro e w2 ⟨rfl,hw2⟩
      subst w2
      go_wp2_with fail
      refine Calls.mono (HNn.out _) ?_
      rintro e w2 ⟨rfl,hw2⟩
      subst w2
      go_wp2_with fail
      refine Calls.mono (HD.out _) ?_
      rintro e w2 ⟨⟨v,cap,rfl⟩,hb2⟩
      replace HB:Hid (Below w.heap.size w w2):=HB.out.trans (hb2.mono HB.out.size)
      clear hb2
      have fd:=fieldDesc2 (.slice v dn cap) (.string dr) (.int .i64 da) (.int .i64 dc)
      unfold outV
      go_wp2
      go_ret
      exact⟨rB (by first | rfl | simp),HB.out⟩
   ·cases hk:(dc == 0)
    ·go_enter Tryz.func119,Tryz.ntmps119
     go_wp2_with fail
     refine Calls.mono (HOp.out _) ?_
     rintro e w1 ⟨rfl,hb1⟩
     obtain ⟨x0,x1,x2,x3,x4,HB⟩:=i5 hb1 (by simp)
     clear hb1
     go_wp2_with fail
     refine Calls.mono (HNc.out _) ?_
     rintro e w2 ⟨rfl,hw2⟩
     subst w2
     go_wp2_with fail
     refine Calls.mono (HNn.out _) ?_
     rintro e w2 ⟨rfl,hw2⟩
     subst w2
     go_wp2_with fail
     refine Calls.mono (HD.out _) ?_
     rintro e w2 ⟨⟨v,cap,rfl⟩,hb2⟩
     replace HB:Hid (Below w.heap.size w w2):=HB.out.trans (hb2.mono HB.out.size)
     clear hb2
     have fd:=fieldDesc2 (.slice v dn cap) (.string dr) (.int .i64 da) (.int .i64 dc)
     unfold outV
     go_wp2
     go_ret
     exact⟨rB (by first | rfl | simp),HB.out⟩
    ·go_enter Tryz.func119,Tryz.ntmps119
     go_wp2_with fail
     refine Calls.mono (HOp.out _) ?_
     rintro e w1 ⟨rfl,hb1⟩
     obtain ⟨x0,x1,x2,x3,x4,HB⟩:=i5 hb1 (by simp)
     clear hb1
     go_wp2_with fail
     refine Calls.mono (HNc.out _) ?_
     rintro e w2 ⟨rfl,hw2⟩
     subst w2
     go_wp2_with fail
     refine Calls.mono (HNn.out _) ?_
     rintro e w2 ⟨rfl,hw2⟩
     subst w2
     go_wp2_with fail
     refine Calls.mono (HD.out _) ?_
     rintro e w2 ⟨⟨v,cap,rfl⟩,hb2⟩
     replace HB:Hid (Below w.heap.size w w2):=HB.out.trans (hb2.mono HB.out.size)
     clear hb2
     have fd:=fieldDesc2 (.slice v dn cap) (.string dr) (.int .i64 da) (.int .i64 dc)
     unfold outV
     go_wp2
     go_ret
     exact⟨rB (by first | rfl | simp),HB.out⟩
set_option maxHeartbeats 1000000 in
theorem specIns_x (op a:Int) (c n d:ByteArray) (w:World) (ho:-9223372036854775808≤op∧op≤9223372036854775807) (hc:c.size≤maxLen) (hn:n.size≤maxLen) (hd:d.size≤maxLen) (hf:fmS op=⟨#[33]⟩) :
  Calls Tryz.prog 119 #[.agg #[.int .i64 op,.int .i64 a,.string c,.string n,.string d]] w fun e w'=>e = .returned (.bool (false))∧Below w.heap.size w w':=by
 have HOp:Hid (∀ w,Calls Tryz.prog 120 #[.int .i64 op] w fun e w'=>e = .returned (.string ⟨#[33]⟩)∧Below w.heap.size w w'):=fun w=>hf ▸ specOpForm op w ho
 clear hf ho
 clear hc hn hd
 go_enter Tryz.func119,Tryz.ntmps119
 go_wp2_with fail
 refine Calls.mono (HOp.out _) ?_
 rintro e w1 ⟨rfl,hb1⟩
 obtain ⟨x0,x1,x2,x3,x4,HB⟩:=i5 hb1 (by simp)
 clear hb1
 go_wp2
 go_ret
 exact⟨rB (by first | rfl | simp),HB.out⟩
theorem specInsRight (op a:Int) (c n d:ByteArray) (w:World) (ho:-9223372036854775808≤op∧op≤9223372036854775807) (hc:c.size≤maxLen) (hn:n.size≤maxLen) (hd:d.size≤maxLen) :
  Calls Tryz.prog 119 #[.agg #[.int .i64 op,.int .i64 a,.string c,.string n,.string d]] w fun e w'=>e = .returned (.bool (insOk (fmS op) a c n d))∧Below w.heap.size w w':=by
 rcases fmS_cases op with h | h | h | h | h | h | h | h | h
 ·rw [h,insOk_e];exact specIns_e op a c n d w ho hc hn hd h
 ·rw [h,insOk_n];exact specIns_n op a c n d w ho hc hn hd h
 ·rw [h,insOk_i];exact specIns_i op a c n d w ho hc hn hd h
 ·rw [h,insOk_t];exact specIns_t op a c n d w ho hc hn hd h
 ·rw [h,insOk_c];exact specIns_c op a c n d w ho hc hn hd h
 ·rw [h,insOk_y];exact specIns_y op a c n d w ho hc hn hd h
 ·rw [h,insOk_f];exact specIns_f op a c n d w ho hc hn hd h
 ·rw [h,insOk_m];exact specIns_m op a c n d w ho hc hn hd h
 ·rw [h,insOk_x];exact specIns_x op a c n d w ho hc hn hd h
end Go.Proofs.YtmhgaggpdggbeaaGreatDoor
