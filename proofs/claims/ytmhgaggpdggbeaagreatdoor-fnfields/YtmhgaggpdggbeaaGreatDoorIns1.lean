import Derived.Test.YtmhgaggpdggbeaaGreatDoorOpF
import Derived.Test.YtmhgaggpdggbeaaGreatDoorTRight
import Derived.Test.YtmhgaggpdggbeaaGreatDoorSlots
namespace Go.Proofs.YtmhgaggpdggbeaaGreatDoor
open Go.RowKit
set_option maxRecDepth 20000
set_option linter.unusedVariables false

def i32B (a:Int):Bool:=decide (-2147483648≤a∧a≤2147483647)
def empB (c n d:ByteArray):Bool:=c.toList.isEmpty && (n.toList.isEmpty && d.toList.isEmpty)
def itemB (d:ByteArray):Bool:=tyB d && !(byt d 0 == 91)
def mNameB (n:ByteArray):Bool:=nameB n || (n.toList == [60,105,110,105,116,62])

set_option maxHeartbeats 400000 in
theorem specInt (a:Int) (w:World) :
  Calls Tryz.prog 138 #[.int .i64 a] w fun e w'=>e = .returned (.bool (i32B a))∧w'=w:=by
 by_cases h0:-2147483648≤a
 ·have d0:decide (-2147483648≤a)=true:=by simpa using h0
  by_cases h1:a≤2147483647
  ·have d1:decide (a≤2147483647)=true:=by simpa using h1
   have HT:Hid (true=i32B a):=by show _=_;unfold i32B;simp;omega
   go_enter Tryz.func138,Tryz.ntmps138
   go_wp2
   go_ret
   exact⟨rB HT.out,rfl⟩
  ·have d1:decide (a≤2147483647)=false:=by simpa using h1
   have HT:Hid (false=i32B a):=by show _=_;unfold i32B;simp;omega
   go_enter Tryz.func138,Tryz.ntmps138
   go_wp2
   go_ret
   exact⟨rB HT.out,rfl⟩
 ·have d0:decide (-2147483648≤a)=false:=by simpa using h0
  have HT:Hid (false=i32B a):=by show _=_;unfold i32B;simp;omega
  go_enter Tryz.func138,Tryz.ntmps138
  go_wp2
  go_ret
  exact⟨rB HT.out,rfl⟩

set_option maxHeartbeats 400000 in
theorem specEmpty (x0 x1:Int) (c n d:ByteArray) (w:World) :
  Calls Tryz.prog 137 #[.agg #[.int .i64 x0,.int .i64 x1,.string c,.string n,.string d]] w fun e w'=>e = .returned (.bool (empB c n d))∧Below w.heap.size w w':=by
 have HB0:Hid (∀ o,Below w.heap.size w (w.alloc o)):=fun o=>(Below.refl _ _).alloc (Nat.le_refl _) o
 unfold empB
 cases h1:c.toList.isEmpty
 ·go_enter Tryz.func137,Tryz.ntmps137
  go_wp2
  go_ret
  exact⟨rfl,HB0.out _⟩
 ·cases h2:n.toList.isEmpty
  ·go_enter Tryz.func137,Tryz.ntmps137
   go_wp2
   go_ret
   exact⟨rfl,HB0.out _⟩
  ·cases h3:d.toList.isEmpty
   ·go_enter Tryz.func137,Tryz.ntmps137
    go_wp2
    go_ret
    exact⟨rfl,HB0.out _⟩
   ·go_enter Tryz.func137,Tryz.ntmps137
    go_wp2
    go_ret
    exact⟨rfl,HB0.out _⟩

set_option maxHeartbeats 400000 in
theorem implIsInt (a:Int) (w:World) (ha:-9223372036854775808≤a∧a≤9223372036854775807) :
  Calls Tryz.prog 177 #[.int .i64 a] w fun e w'=>e = .returned (.bool (i32B a))∧w'=w:=by
 have hq:(wrap64 (wrap32 a) == a)=i32B a:=by
  by_cases h:-2147483648≤a∧a≤2147483647
  ·have e1:i32B a=true:=by unfold i32B;simp;omega
   have e2:wrap64 (wrap32 a)=a:=by unfold wrap64 wrap32;omega
   rw [e1,e2];simp
  ·have e1:i32B a=false:=by unfold i32B;simp;omega
   have e2:wrap64 (wrap32 a) ≠ a:=by unfold wrap64 wrap32;omega
   rw [e1];simpa using e2
 have HQ:=(show Hid (_=_) from hq)
 clear hq
 go_enter Tryz.func177,Tryz.ntmps177
 go_wp2
 go_ret
 exact⟨rB HQ.out,rfl⟩

set_option maxHeartbeats 400000 in
theorem implItem (d:ByteArray) (w:World) (hd:d.size≤maxLen) :
  Calls Tryz.prog 178 #[.string d] w fun e w'=>e = .returned (.bool (itemB d))∧w'=w:=by
 have hm:=hd
 unfold maxLen at hd
 have HM:Hid (d.size≤maxLen):=hm
 clear hm
 have HC:Hid (∀ w,Calls Tryz.prog 132 #[.string d] w fun e w'=>e = .returned (.bool (tyB d))∧w'=w):=fun w=>implTypeRight d w HM.out
 cases h:tyB d
 ·rw [h] at HC
  have HT:Hid (false=itemB d):=by show _=_;unfold itemB;rw [h];rfl
  clear h
  go_enter Tryz.func178,Tryz.ntmps178
  go_wp2_with fail
  refine Calls.mono (HC.out w) ?_
  rintro e w1 ⟨rfl,hw1⟩
  subst w1
  go_wp2
  go_ret
  exact⟨rB HT.out,rfl⟩
 ·rw [h] at HC
  have hp:0<d.size:=by
   rcases Nat.eq_zero_or_pos d.size with h0 | h0
   ·rw [show tyB d=false by unfold tyB;rw [tyE_end d 0 (by omega)];rfl] at h;cases h
   ·exact h0
  have hby:=byt_eq d 0 hp
  cases hq:(byt d 0 == 91)
  ·have HT:Hid (true=itemB d):=by show _=_;unfold itemB;rw [h,hq];rfl
   have dd:((d[0].toNat:Int) != 91)=true:=by rw [hby,bne,hq];rfl
   clear h hby hq
   go_enter Tryz.func178,Tryz.ntmps178
   go_wp2_with fail
   refine Calls.mono (HC.out w) ?_
   rintro e w1 ⟨rfl,hw1⟩
   subst w1
   go_wp2
   go_ret
   exact⟨rB HT.out,rfl⟩
  ·have HT:Hid (false=itemB d):=by show _=_;unfold itemB;rw [h,hq];rfl
   have dd:((d[0].toNat:Int) != 91)=false:=by rw [hby,bne,hq];rfl
   clear h hby hq
   go_enter Tryz.func178,Tryz.ntmps178
   go_wp2_with fail
   refine Calls.mono (HC.out w) ?_
   rintro e w1 ⟨rfl,hw1⟩
   subst w1
   go_wp2
   go_ret
   exact⟨rB HT.out,rfl⟩

set_option maxHeartbeats 400000 in
theorem implMName (n:ByteArray) (w:World) (hn:n.size≤maxLen) :
  Calls Tryz.prog 158 #[.string n] w fun e w'=>e = .returned (.bool (mNameB n))∧Below w.heap.size w w':=by
 have HC:Hid (∀ w,Calls Tryz.prog 127 #[.string n] w fun e w'=>e = .returned (.bool (nameB n))∧Below w.heap.size w w'):=fun w=>implNameRight n w hn
 clear hn
 unfold mNameB
 cases h:(n.toList == [60,105,110,105,116,62])
 ·generalize nameB n=b at *
  go_enter Tryz.func158,Tryz.ntmps158
  go_wp2_with fail
  refine Calls.mono (HC.out w) ?_
  rintro e w1 ⟨rfl,hb1⟩
  have HB:=(show Hid (Below _ _ _) from hb1)
  clear hb1
  go_wp2
  go_ret
  exact⟨rB (by simp),HB.out⟩
 ·generalize nameB n=b at *
  go_enter Tryz.func158,Tryz.ntmps158
  go_wp2
  go_ret
  exact⟨rB (by simp),Below.refl _ _⟩

def dC (s:ByteArray):Int:=if 20000<s.size then 2 else match rdD s with | .error _=>3 | .ok _=>0
def dN (s:ByteArray):Nat:=if 20000<s.size then 0 else match rdD s with | .error _=>0 | .ok (ps,_)=>ps.length
def dR (s:ByteArray):ByteArray:=if 20000<s.size then ⟨#[]⟩ else match rdD s with | .error _=>⟨#[]⟩ | .ok (_,q)=>q
def dA (s:ByteArray):Int:=if 20000<s.size then 0 else match rdD s with | .error k=>(k:Int) | .ok _=>0

theorem dv_form {s:ByteArray} {w w':World} {e:Ending} (h:dvOut s w w' e):∃ a cap,e = .returned (outV (.slice a (dN s) cap) (dR s) (dA s) (dC s)):=by
 unfold dvOut at h
 unfold dN dR dA dC
 split at h
 ·rename_i hb
  simp only [if_pos hb]
  exact⟨_,_,h⟩
 ·rename_i hb
  simp only [if_neg hb]
  cases hr:rdD s with
  | error k=>rw [hr] at h;exact⟨_,_,h⟩
  | ok p =>
   obtain ⟨ps,q⟩:=p
   rw [hr] at h
   obtain ⟨v,e1,hown⟩:=h
   obtain ⟨a,cap,rfl⟩:=own_slice hown
   exact⟨a,cap,e1⟩
end Go.Proofs.YtmhgaggpdggbeaaGreatDoor
