import Derived.Test.YtmhgaggpdggbeaaGreatDoorTRight
import Derived.Test.YtmhgaggpdggbeaaGreatDoorReadI
namespace Go.Proofs.YtmhgaggpdggbeaaGreatDoor
open Go.RowKit
set_option maxRecDepth 20000
set_option linter.unusedVariables false

def item (s:ByteArray):ByteArray:=if byt s 0=91 then s.extract 1 s.size else s

def clS (s:ByteArray):ByteArray:=if tyB s=true then (if byt (item s) 0=73 then ⟨#[]⟩ else (item s).extract 1 ((item s).size - 1)) else ⟨#[]⟩

theorem ext_size (s:ByteArray) (h:1≤s.size):(s.extract 1 s.size).size=s.size - 1:=by
 simp [ByteArray.size_extract]
theorem ext_list (s:ByteArray):(s.extract 1 s.size).data.toList=s.data.toList.tail:=by
 obtain ⟨⟨l⟩⟩:=s
 simp [ByteArray.data_extract,ByteArray.size]
 exact List.take_of_length_le (by simp)
theorem ext_byt (s:ByteArray) (i:Nat):byt (s.extract 1 s.size) i=byt s (i+1):=by
 unfold byt
 rw [ext_list]
 cases s.data.toList with
 | nil=>rfl
 | cons c t=>rfl

theorem tyL_long (s:ByteArray) (f n:Nat) (h:tyL s f=(true,n)):f+2≤n:=by
 unfold tyL tyR at h
 have hg:=nmRun_ge s f 19 (f+1)
 split at h
 ·split at h
  ·simp at h;omega
  ·simp at h
 ·simp at h

theorem item_facts (s:ByteArray) (h:tyB s=true) :
  1≤s.size∧((byt (item s) 0=73∧(item s).size=1) ∨ (byt (item s) 0=76∧3≤(item s).size)):=by
 unfold tyB at h
 simp only [Bool.and_eq_true,decide_eq_true_eq] at h
 obtain ⟨h1,h2⟩:=h
 have h3:tyE s 0=(true,s.size):=Prod.ext h1 h2
 unfold tyE at h3
 unfold item
 by_cases h91:byt s 0=91
 ·rw [if_pos h91] at h3 ⊢
  have hz:0<s.size:=byt_in s 0 (by rw [h91];decide)
  rw [ext_byt,ext_size s hz]
  unfold tyO at h3
  refine ⟨hz,?_⟩
  split at h3
  ·rename_i e;left;simp at h3;exact⟨e,by omega⟩
  ·split at h3
   ·rename_i e;right;have:=tyL_long _ _ _ h3;exact⟨e,by omega⟩
   ·simp at h3
 ·rw [if_neg h91] at h3 ⊢
  unfold tyO at h3
  split at h3
  ·rename_i e;simp at h3;exact⟨by omega,.inl ⟨e,by omega⟩⟩
  ·split at h3
   ·rename_i e;have:=tyL_long _ _ _ h3;exact⟨by omega,.inr ⟨e,by omega⟩⟩
   ·simp at h3

theorem is_I (u:ByteArray):u=⟨#[73]⟩ ↔ (u.size=1∧byt u 0=73):=by
 constructor
 ·rintro rfl;exact⟨rfl,by decide⟩
 ·rintro ⟨h1,h2⟩
  obtain ⟨⟨l⟩⟩:=u
  match l,h1 with
  | [c],_ =>
   have:c=73:=by
    unfold byt at h2
    simp at h2
    have h':c.toNat=73:=by omega
    exact UInt8.toNat_inj.1 (by simpa using h')
   rw [this]

theorem trim_item (s:ByteArray):(⟨(Lib.trimPrefix s.data.toList [91]).toArray⟩:ByteArray)=item s:=by
 unfold Lib.trimPrefix Lib.hasPrefix item
 obtain ⟨⟨l⟩⟩:=s
 cases l with
 | nil=>simp [byt,List.isPrefixOf]
 | cons c t =>
  by_cases hc:c=91
  ·subst hc
   rw [if_pos (by simp [List.isPrefixOf]),if_pos (by simp [byt])]
   apply ByteArray.ext
   simp [ByteArray.data_extract,ByteArray.size]
  ·rw [if_neg (by simp [List.isPrefixOf];exact fun h=>hc h.symm),if_neg (by
    unfold byt;simp;intro h;exact hc (UInt8.toNat_inj.1 (by
     have h':c.toNat=91:=by omega
     simpa using h')))]
set_option maxHeartbeats 400000 in
theorem specTypeClass (s:ByteArray) (w:World) (hs:s.size≤maxLen) :
  Calls Tryz.prog 122 #[.string s] w fun e w'=>e = .returned (.string (clS s))∧w'=w:=by
 have hm:=hs
 unfold maxLen at hs
 cases hb:tyB s
 ·have HT:Hid ((⟨#[]⟩:ByteArray)=clS s):=by show _=_;unfold clS;rw [hb];rfl
  have HB:Hid (tyB s=false):=hb
  clear hb
  by_cases hbig:20000<s.size
  ·have d0:decide ((20000:Int)<(s.size:Int))=true:=by simp;omega
   go_enter Tryz.func122,Tryz.ntmps122
   go_wp2
   go_ret
   exact⟨congrArg (fun b=>Ending.returned (Value.string b)) HT.out,rfl⟩
  ·have d0:decide ((20000:Int)<(s.size:Int))=false:=by simp;omega
   go_enter Tryz.func122,Tryz.ntmps122
   go_wp2_with fail
   refine (specTypeRight s _ hm).mono ?_
   rintro e w1 ⟨rfl,rfl⟩
   rw [HB.out]
   go_wp2
   go_ret
   exact⟨congrArg (fun b=>Ending.returned (Value.string b)) HT.out,rfl⟩
 ·have hz:=tyB_size s hb
  obtain ⟨h1,hf⟩:=item_facts s hb
  have d0:decide ((20000:Int)<(s.size:Int))=false:=by simp;omega
  have HT:Hid (clS s=(if byt (item s) 0=73 then ⟨#[]⟩ else (item s).extract 1 ((item s).size - 1))):=by show _=_;unfold clS;rw [hb];rfl
  have HB:Hid (tyB s=true):=hb
  clear hb
  have hpos:0<s.size:=h1
  have hb0:=byt_eq s 0 hpos
  by_cases h91:byt s 0=91
  ·have d1:((s[0].toNat:Int) == 91)=true:=by rw [hb0,h91];rfl
   have ei:item s=s.extract 1 s.size:=by unfold item;rw [if_pos h91]
   rw [ei] at hf HT
   have hus:=ext_size s h1
   have hupos:0<(s.extract 1 s.size).size:=by omega
   have hbu:=byt_eq (s.extract 1 s.size) 0 hupos
   rcases hf with ⟨h73,hsz⟩ | ⟨h76,hsz⟩
   ·have d2:(((s.extract 1 s.size)[0].toNat:Int) == 73)=true:=by rw [hbu,h73];rfl
    have HF:Hid ((⟨#[]⟩:ByteArray)=clS s):=by show _=_;rw [HT.out,if_pos h73]
    clear hb0 hbu h91 ei h73 HT
    go_enter Tryz.func122,Tryz.ntmps122
    go_wp2_with fail
    refine (specTypeRight s _ hm).mono ?_
    rintro e w1 ⟨rfl,rfl⟩
    rw [HB.out]
    go_wp2
    go_ret
    exact⟨congrArg (fun b=>Ending.returned (Value.string b)) HF.out,rfl⟩
   ·have d2:(((s.extract 1 s.size)[0].toNat:Int) == 73)=false:=by rw [hbu,h76];rfl
    have HF:Hid ((s.extract 1 s.size).extract 1 (s.size - 1 - 1)=clS s):=by show _=_;rw [HT.out,if_neg (by rw [h76];decide),hus]
    have hsl:∀ w:World,(Instr.slice 9 (.string (s.extract 1 s.size)) (some (.int .i64 1)) (some (.int .i64 (((s.size - 1:Nat):Int) - 1))) none).run Tryz.prog w = .ok (.string ((s.extract 1 s.size).extract 1 ((s.extract 1 s.size).size - 1))) w:=by
     intro w
     have h:=run_slice_string (P:=Tryz.prog) w 9 (s.extract 1 s.size) .i64 .i64 1 (((s.size - 1:Nat):Int) - 1) Tryz.underlying9 (by omega) (by omega) (by omega)
     rw [show (((s.size - 1:Nat):Int) - 1).toNat=(s.extract 1 s.size).size - 1 by omega] at h
     exact h
    clear hb0 hbu h91 ei h76 HT
    go_enter Tryz.func122,Tryz.ntmps122
    go_wp2_with fail
    refine (specTypeRight s _ hm).mono ?_
    rintro e w1 ⟨rfl,rfl⟩
    rw [HB.out]
    go_wp2
    go_ret
    exact⟨congrArg (fun b=>Ending.returned (Value.string b)) HF.out,rfl⟩
  ·have d1:((s[0].toNat:Int) == 91)=false:=by rw [hb0,beq_eq_false_iff_ne];exact h91
   have ei:item s=s:=by unfold item;rw [if_neg h91]
   rw [ei] at hf HT
   rcases hf with ⟨h73,hsz⟩ | ⟨h76,hsz⟩
   ·have d2:((s[0].toNat:Int) == 73)=true:=by rw [hb0,h73];rfl
    have HF:Hid ((⟨#[]⟩:ByteArray)=clS s):=by show _=_;rw [HT.out,if_pos h73]
    clear hb0 h91 ei h73 HT
    go_enter Tryz.func122,Tryz.ntmps122
    go_wp2_with fail
    refine (specTypeRight s _ hm).mono ?_
    rintro e w1 ⟨rfl,rfl⟩
    rw [HB.out]
    go_wp2
    go_ret
    exact⟨congrArg (fun b=>Ending.returned (Value.string b)) HF.out,rfl⟩
   ·have d2:((s[0].toNat:Int) == 73)=false:=by rw [hb0,h76];rfl
    have HF:Hid (s.extract 1 (s.size - 1)=clS s):=by show _=_;rw [HT.out,if_neg (by rw [h76];decide)]
    have hsl:∀ w:World,(Instr.slice 9 (.string s) (some (.int .i64 1)) (some (.int .i64 ((s.size:Int) - 1))) none).run Tryz.prog w = .ok (.string (s.extract 1 (s.size - 1))) w:=by
     intro w
     have h:=run_slice_string (P:=Tryz.prog) w 9 s .i64 .i64 1 ((s.size:Int) - 1) Tryz.underlying9 (by omega) (by omega) (by omega)
     rw [show ((s.size:Int) - 1).toNat=s.size - 1 by omega] at h
     exact h
    clear hb0 h91 ei h76 HT
    go_enter Tryz.func122,Tryz.ntmps122
    go_wp2_with fail
    refine (specTypeRight s _ hm).mono ?_
    rintro e w1 ⟨rfl,rfl⟩
    rw [HB.out]
    go_wp2
    go_ret
    exact⟨congrArg (fun b=>Ending.returned (Value.string b)) HF.out,rfl⟩
set_option maxHeartbeats 1000000 in
theorem implTypeClass (s:ByteArray) (w:World) (hs:s.size≤maxLen) :
  Calls Tryz.prog 108 #[.string s] w fun e w'=>e = .returned (.string (clS s))∧Below w.heap.size w w':=by
 have hm:=hs
 unfold maxLen at hs
 have htr:∀ w:World,Calls Tryz.prog 131 #[.string s,.string ⟨#[91]⟩] w fun e w'=>e = .returned (.string (item s))∧w'=w:=by
  intro w
  have h:=Tryz.strings_TrimPrefix s ⟨#[91]⟩ w
  rw [trim_item s] at h
  exact h
 have HU:Hid (∀ w:World,Calls Tryz.prog 131 #[.string s,.string ⟨#[91]⟩] w fun e w'=>e = .returned (.string (item s))∧w'=w):=htr
 clear htr
 by_cases hI:item s=⟨#[73]⟩
 ·have HF:Hid ((⟨#[]⟩:ByteArray)=clS s):=by
   show _=_
   unfold clS
   split
   ·rw [if_pos ((is_I _).1 hI).2]
   ·rfl
  rw [hI] at HU
  clear hI
  go_enter Tryz.func108,Tryz.ntmps108
  go_wp2_with fail
  refine (HU.out _).mono ?_
  rintro e w1 ⟨rfl,rfl⟩
  go_wp2
  go_ret
  exact⟨congrArg (fun b=>Ending.returned (Value.string b)) HF.out,Below.refl _ _⟩
 ·have dI:((item s).toList == [73])=false:=by
   rw [beq_eq_false_iff_ne]
   intro h
   refine hI ?_
   rw [ByteArray.toList_eq] at h
   generalize item s=u at *
   obtain ⟨⟨l⟩⟩:=u
   simp at h
   rw [h]
  cases hb:tyB s
  ·have HT:Hid ((⟨#[]⟩:ByteArray)=clS s):=by show _=_;unfold clS;rw [hb];rfl
   have HB:Hid (tyB s=false):=hb
   clear hb
   generalize item s=u at *
   go_enter Tryz.func108,Tryz.ntmps108
   go_wp2_with fail
   refine (HU.out _).mono ?_
   rintro e w1 ⟨rfl,rfl⟩
   go_wp2_with fail
   refine (implTypeRight s _ hm).mono ?_
   rintro e w1 ⟨rfl,rfl⟩
   rw [HB.out]
   go_wp2
   go_ret
   exact⟨congrArg (fun b=>Ending.returned (Value.string b)) HT.out,Below.refl _ _⟩
  ·have hz:=tyB_size s hb
   obtain ⟨h1,hf⟩:=item_facts s hb
   have hu3:3≤(item s).size∧byt (item s) 0 ≠ 73:=by
    rcases hf with ⟨h73,hsz⟩ | ⟨h76,hsz⟩
    ·exact absurd ((is_I _).2 ⟨hsz,h73⟩) hI
    ·exact⟨hsz,by rw [h76];decide⟩
   have hu23:(item s).size≤23:=by
    unfold item
    split
    ·rw [ext_size s h1];omega
    ·exact hz
   have HT:Hid ((item s).extract 1 ((item s).size - 1)=clS s):=by show _=_;unfold clS;rw [hb,if_pos rfl,if_neg hu3.2]
   have HB:Hid (tyB s=true):=hb
   obtain ⟨hu3,_⟩:=hu3
   clear hb hf
   have hsl:∀ w:World,(Instr.slice 9 (.string (item s)) (some (.int .i64 1)) (some (.int .i64 (((item s).size:Int) - 1))) none).run Tryz.prog w = .ok (.string ((item s).extract 1 ((item s).size - 1))) w:=by
    intro w
    have h:=run_slice_string (P:=Tryz.prog) w 9 (item s) .i64 .i64 1 (((item s).size:Int) - 1) Tryz.underlying9 (by omega) (by omega) (by omega)
    rw [show (((item s).size:Int) - 1).toNat=(item s).size - 1 by omega] at h
    exact h
   generalize item s=u at *
   go_enter Tryz.func108,Tryz.ntmps108
   go_wp2_with fail
   refine (HU.out _).mono ?_
   rintro e w1 ⟨rfl,rfl⟩
   go_wp2_with fail
   refine (implTypeRight s _ hm).mono ?_
   rintro e w1 ⟨rfl,rfl⟩
   rw [HB.out]
   go_wp2_with fail
   refine (libClone _ _ (by rw [ByteArray.size_extract];omega)).mono ?_
   rintro e w1 ⟨rfl,hb1⟩
   go_wp2
   go_ret
   exact⟨congrArg (fun b=>Ending.returned (Value.string b)) HT.out,hb1⟩
end Go.Proofs.YtmhgaggpdggbeaaGreatDoor
