import Derived.Test.YtmhgaggpdggbeaaGreatDoorSplit
namespace Go.Proofs.YtmhgaggpdggbeaaGreatDoor
open Go.RowKit
set_option maxRecDepth 20000
set_option linter.unusedVariables false
set_option maxHeartbeats 1000000 in
theorem implTooLong (xs:List ByteArray) (g:Nat) (w:World) (hl:xs.length=3) (hs:∀ x ∈ xs,x.size≤maxLen) (hc:∀ i (h:i<xs.length),w.cell? ⟨g,i,none⟩=some (.string xs[i])) :
  Calls Tryz.prog 49 #[.slice (some ⟨g,0,none⟩) 3 3] w fun e w'=>e = .returned (.bool (xs.any fun x=>decide (20000<x.size)))∧w'=w:=by
 have HC:=(show Hid (∀ i (h:i<xs.length),w.cell? ⟨g,i,none⟩=some (.string xs[i])) from hc)
 have HS:=(show Hid (∀ x ∈ xs,x.size≤maxLen) from hs)
 have HY:Hid (∀ i (h:i<xs.length),20000<xs[i].size→true=xs.any fun x=>decide (20000<x.size)):=fun i h k=>(List.any_eq_true.2 ⟨_,List.getElem_mem h,by simpa using k⟩).symm
 have HN:Hid ((∀ i (h:i<xs.length),¬ 20000<xs[i].size)→false=xs.any fun x=>decide (20000<x.size)):=fun k=>by
  refine (List.any_eq_false.2 fun x hx=>?_).symm
  obtain ⟨i,hi,rfl⟩:=List.mem_iff_getElem.1 hx
  simpa using k i hi
 generalize (xs.any fun x=>decide (20000<x.size))=res at *
 clear hc hs
 go_enter Tryz.func49,Tryz.ntmps49
 go_wp2_with fail
 go_loopw [7] (fun j7 wr=>∃ i:Nat,i≤3∧j7 = .int .i64 (i:Int)∧wr=w∧∀ j (h:j<xs.length),j<i→¬ 20000<xs[j].size) (fun j7 _=>3 - (intOf j7).toNat)
 case atStart=>exact⟨0,by omega,rfl,rfl,fun j _ h=>by omega⟩
 case round =>
  obtain ⟨i,hi,rfl,rfl,hno⟩:=hrel
  have HNo:=(show Hid (∀ j (h:j<xs.length),j<i→¬ 20000<xs[j].size) from hno)
  clear hno
  by_cases hlt:i<3
  ·have c0:=HC.out i (by omega)
   have hz:=HS.out xs[i] (List.getElem_mem (by omega))
   unfold maxLen at hz
   by_cases hb:20000<xs[i].size
   ·have HZ:Hid (true=res):=HY.out i (by omega) hb
    have d:decide ((20000:Int)<(xs[i].size:Int))=true:=by simp;omega
    clear HNo
    generalize xs[i]=x at *
    go_wp2
    go_ret
    exact⟨rB HZ.out,rfl⟩
   ·have HZ:Hid (∀ j (h:j<xs.length),j<i+1→¬ 20000<xs[j].size):=fun j hj hji=>by
     by_cases e2:j=i
     ·subst e2;exact hb
     ·exact HNo.out j hj (by omega)
    have d:decide ((20000:Int)<(xs[i].size:Int))=false:=by simp;omega
    clear HNo
    generalize xs[i]=x at *
    go_wp2
    go_roundw
    case rel=>exact⟨i+1,by omega,by go_num,by first | rfl | trivial,HZ.out⟩
    case measure=>simp [intOf];omega
  ·obtain rfl:i=3:=by omega
   have HZ:Hid (false=res):=HN.out fun j hj=>HNo.out j hj (by omega)
   clear HNo
   go_wp2
   go_ret
   exact⟨rB HZ.out,rfl⟩
end Go.Proofs.YtmhgaggpdggbeaaGreatDoor
