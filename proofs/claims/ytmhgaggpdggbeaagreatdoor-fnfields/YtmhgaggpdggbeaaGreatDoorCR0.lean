import Derived.Test.YtmhgaggpdggbeaaGreatDoorCls2
import Derived.Test.YtmhgaggpdggbeaaGreatDoorMR2d
namespace Go.Proofs.YtmhgaggpdggbeaaGreatDoor
open Go.RowKit
set_option maxRecDepth 20000
set_option linter.unusedVariables false

def fGood (f:FieldD):Bool:=nameB f.1 && tyB f.2.1

structure ClsP (c:ClsD):Prop where
 n:nameB c.name=true
 s:nameB c.super=true
 ne:c.name ≠ c.super
 fa:¬ (c.fin=true∧c.abs=true)
 fl:c.fields.length≤8
 ml:c.meths.length≤10
 fg:∀ i (h:i<c.fields.length),fGood c.fields[i]=true
 fd:∀ i j (hi:i<c.fields.length) (hj:j<c.fields.length),i<j→c.fields[i].1 ≠ c.fields[j].1
 mg:∀ i (h:i<c.meths.length),mOk (mD c.meths[i])=true∧((mD c.meths[i]).abs=true→c.abs=true)
 md:∀ i j (hi:i<c.meths.length) (hj:j<c.meths.length),i<j→¬ ((mD c.meths[i]).name=(mD c.meths[j]).name∧(mD c.meths[i]).desc=(mD c.meths[j]).desc)

noncomputable def clsOk (c:ClsD):Bool:=@decide (ClsP c) (Classical.propDecidable _)
theorem clsOk_no {c:ClsD} (h:¬ ClsP c):false=clsOk c:=by unfold clsOk;exact (@decide_eq_false _ (Classical.propDecidable _) h).symm
theorem clsOk_yes {c:ClsD} (h:ClsP c):true=clsOk c:=by unfold clsOk;exact (@decide_eq_true _ (Classical.propDecidable _) h).symm

theorem clsOk_cases (m:ClsD):(clsOk m=true∧ClsP m) ∨ (clsOk m=false∧¬ ClsP m):=by
 rcases Classical.em (ClsP m) with h | h
 ·exact .inl ⟨(clsOk_yes h).symm,h⟩
 ·exact .inr ⟨(clsOk_no h).symm,h⟩
theorem text_ne {a b:ByteArray} (h:a ≠ b):(a.toList == b.toList)=false:=by
 rw [ByteArray.toList_eq,ByteArray.toList_eq,beq_eq_false_iff_ne]
 exact fun e=>h (WideShapes.bytes_inj e)
theorem text_eq {a b:ByteArray} (h:a=b):(a.toList == b.toList)=true:=by rw [h];simp

end Go.Proofs.YtmhgaggpdggbeaaGreatDoor
