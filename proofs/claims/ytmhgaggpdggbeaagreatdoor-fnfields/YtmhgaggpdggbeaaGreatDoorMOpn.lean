import Derived.Test.YtmhgaggpdggbeaaGreatDoorFlat
import Derived.OwnWalk
namespace Go.Proofs.YtmhgaggpdggbeaaGreatDoor
open Go.RowKit
set_option maxRecDepth 20000
set_option linter.unusedVariables false

theorem i64w {n:Int} (h:(Lit.int .i64 n).wf=true):-9223372036854775808≤n∧n≤9223372036854775807:=by
 unfold Lit.wf at h
 simp only [Bool.and_eq_true,decide_eq_true_eq] at h
 exact h

section
variable {H:Type} {enc:TypeId × Value→H} {base:Nat} {spare:Nat→Bool} {held:Bool}

theorem opensIns:Opens Tryz.prog enc base spare held insR 175 :=
 opens_struct5 (R0:=Rep.int) (R1:=Rep.int) (R2:=Rep.str) (R3:=Rep.str) (R4:=Rep.str) Tryz.underlying175 ⟨rfl,rfl,rfl,rfl,rfl⟩ ⟨by kernel_rfl,by kernel_rfl,by kernel_rfl,by kernel_rfl,by kernel_rfl⟩ (by kernel_rfl)
  (opens_int Tryz.underlying2) (opens_int Tryz.underlying2) (opens_str Tryz.underlying9) (opens_str Tryz.underlying9) (opens_str Tryz.underlying9)
theorem opensHandler:Opens Tryz.prog enc base spare held handlerR 177 :=
 opens_struct4 (R0:=Rep.int) (R1:=Rep.int) (R2:=Rep.int) (R3:=Rep.str) Tryz.underlying177 ⟨rfl,rfl,rfl,rfl⟩ ⟨by kernel_rfl,by kernel_rfl,by kernel_rfl,by kernel_rfl⟩ (by kernel_rfl)
  (opens_int Tryz.underlying2) (opens_int Tryz.underlying2) (opens_int Tryz.underlying2) (opens_str Tryz.underlying9)
theorem opensField:Opens Tryz.prog enc base spare held fieldR 133 :=
 opens_struct3 (R0:=Rep.str) (R1:=Rep.str) (R2:=Rep.bool) Tryz.underlying133 ⟨rfl,rfl,rfl⟩ ⟨by kernel_rfl,by kernel_rfl,by kernel_rfl⟩ (by kernel_rfl)
  (opens_str Tryz.underlying9) (opens_str Tryz.underlying9) (opens_bool Tryz.underlying4)
end
end Go.Proofs.YtmhgaggpdggbeaaGreatDoor

namespace Go.Proofs.YtmhgaggpdggbeaaGreatDoor
open Go.RowKit
set_option linter.unusedVariables false

theorem insFill.start {w w1:World} {ds:List InsD} {zs:List Value} (hown:w1.ownsRow w.heap.size 149 5 (.slice (some ⟨w.heap.size,0,none⟩) ds.length ds.length) ds.length zs) (hgrow:w.grownBy w1 none):insFill w w1 ds 0:=by
 refine ⟨(Below.refl _ _).grown hgrow (Nat.le_refl _) (fun k hk=>by cases hk),?_⟩
 rcases hown.2 with ⟨h1,_⟩ | ⟨g,cap,cur,e,_,hb,_,_,hsz,_⟩
 ·cases h1
 ·cases e
  exact⟨fun i=>cur.getD i undef,⟨cur,hb,hsz,fun i hi=>by
   have hc:i<cur.size:=by omega
   rw [Array.getElem?_eq_getElem hc]
   simp [Array.getD,hc]⟩,fun i _ h=>by omega⟩
theorem insFill.done {w wr:World} {ds:List InsD} {v:Value} (h:insFill w wr ds ds.length) (hin:insR.slice.In w [v] ds) (hl:ds.length≤1048576):insR.slice.In wr [.slice (some ⟨w.heap.size,0,none⟩) ds.length ds.length] ds:=by
 obtain ⟨f,hrow,hf⟩:=h.row
 refine ⟨some ⟨w.heap.size,0,none⟩,ds.length,rfl,Nat.le_refl _,by unfold maxLen;omega,fun i hi=>⟨_,rfl,insC ds[i],fun j hj=>?_,?_⟩⟩
 ·have hj:j<5:=hj
  have hf:=hf i hi hi
  have hk:insR.k=5:=rfl
  rw [hk,plain_add,Nat.zero_add]
  have hc:=hrow.cell (i:=i * 5+j) (by omega)
  rw [hc]
  obtain ⟨f0,f1,f2,f3,f4⟩:=hf
  match j,hj with
  | 0,_=>rw [f0];rfl
  | 1,_=>rw [f1];rfl
  | 2,_=>rw [f2];rfl
  | 3,_=>rw [f3];rfl
  | 4,_=>rw [f4];rfl
 ·obtain ⟨a,cap,_,_,_,hat⟩:=hin
  obtain ⟨x,_,cs,_,hi2⟩:=hat i hi
  obtain ⟨rfl,_⟩:=insR_in hi2
  exact insR.mono _ _ _ _ h.below hi2

theorem handlerFill.start {w w1:World} {ds:List HandlerD} {zs:List Value} (hown:w1.ownsRow w.heap.size 151 4 (.slice (some ⟨w.heap.size,0,none⟩) ds.length ds.length) ds.length zs) (hgrow:w.grownBy w1 none):handlerFill w w1 ds 0:=by
 refine ⟨(Below.refl _ _).grown hgrow (Nat.le_refl _) (fun k hk=>by cases hk),?_⟩
 rcases hown.2 with ⟨h1,_⟩ | ⟨g,cap,cur,e,_,hb,_,_,hsz,_⟩
 ·cases h1
 ·cases e
  exact⟨fun i=>cur.getD i undef,⟨cur,hb,hsz,fun i hi=>by
   have hc:i<cur.size:=by omega
   rw [Array.getElem?_eq_getElem hc]
   simp [Array.getD,hc]⟩,fun i _ h=>by omega⟩
theorem handlerFill.done {w wr:World} {ds:List HandlerD} {v:Value} (h:handlerFill w wr ds ds.length) (hin:handlerR.slice.In w [v] ds) (hl:ds.length≤1048576):handlerR.slice.In wr [.slice (some ⟨w.heap.size,0,none⟩) ds.length ds.length] ds:=by
 obtain ⟨f,hrow,hf⟩:=h.row
 refine ⟨some ⟨w.heap.size,0,none⟩,ds.length,rfl,Nat.le_refl _,by unfold maxLen;omega,fun i hi=>⟨_,rfl,handlerC ds[i],fun j hj=>?_,?_⟩⟩
 ·have hj:j<4:=hj
  have hf:=hf i hi hi
  have hk:handlerR.k=4:=rfl
  rw [hk,plain_add,Nat.zero_add]
  have hc:=hrow.cell (i:=i * 4+j) (by omega)
  rw [hc]
  obtain ⟨f0,f1,f2,f3⟩:=hf
  match j,hj with
  | 0,_=>rw [f0];rfl
  | 1,_=>rw [f1];rfl
  | 2,_=>rw [f2];rfl
  | 3,_=>rw [f3];rfl
 ·obtain ⟨a,cap,_,_,_,hat⟩:=hin
  obtain ⟨x,_,cs,_,hi2⟩:=hat i hi
  obtain ⟨rfl,_⟩:=handlerR_in hi2
  exact handlerR.mono _ _ _ _ h.below hi2

theorem fieldFill.start {w w1:World} {ds:List FieldD} {zs:List Value} (hown:w1.ownsRow w.heap.size 61 3 (.slice (some ⟨w.heap.size,0,none⟩) ds.length ds.length) ds.length zs) (hgrow:w.grownBy w1 none):fieldFill w w1 ds 0:=by
 refine ⟨(Below.refl _ _).grown hgrow (Nat.le_refl _) (fun k hk=>by cases hk),?_⟩
 rcases hown.2 with ⟨h1,_⟩ | ⟨g,cap,cur,e,_,hb,_,_,hsz,_⟩
 ·cases h1
 ·cases e
  exact⟨fun i=>cur.getD i undef,⟨cur,hb,hsz,fun i hi=>by
   have hc:i<cur.size:=by omega
   rw [Array.getElem?_eq_getElem hc]
   simp [Array.getD,hc]⟩,fun i _ h=>by omega⟩
theorem fieldFill.done {w wr:World} {ds:List FieldD} {v:Value} (h:fieldFill w wr ds ds.length) (hin:fieldR.slice.In w [v] ds) (hl:ds.length≤1048576):fieldR.slice.In wr [.slice (some ⟨w.heap.size,0,none⟩) ds.length ds.length] ds:=by
 obtain ⟨f,hrow,hf⟩:=h.row
 refine ⟨some ⟨w.heap.size,0,none⟩,ds.length,rfl,Nat.le_refl _,by unfold maxLen;omega,fun i hi=>⟨_,rfl,fieldC ds[i],fun j hj=>?_,?_⟩⟩
 ·have hj:j<3:=hj
  have hf:=hf i hi hi
  have hk:fieldR.k=3:=rfl
  rw [hk,plain_add,Nat.zero_add]
  have hc:=hrow.cell (i:=i * 3+j) (by omega)
  rw [hc]
  obtain ⟨f0,f1,f2⟩:=hf
  match j,hj with
  | 0,_=>rw [f0];rfl
  | 1,_=>rw [f1];rfl
  | 2,_=>rw [f2];rfl
 ·obtain ⟨a,cap,_,_,_,hat⟩:=hin
  obtain ⟨x,_,cs,_,hi2⟩:=hat i hi
  obtain ⟨rfl,_⟩:=fieldR_in hi2
  exact fieldR.mono _ _ _ _ h.below hi2

end Go.Proofs.YtmhgaggpdggbeaaGreatDoor

namespace Go.Proofs.YtmhgaggpdggbeaaGreatDoor
open Go.RowKit
set_option linter.unusedVariables false

structure MethD where
 name:ByteArray
 desc:ByteArray
 static:Bool
 abs:Bool
 fin:Bool
 stack:Int
 locals:Int
 code:List InsD
 hands:List HandlerD

def methV (m:MethD) (vc vh:Value):Value:=.agg #[.string m.name,.string m.desc,.bool m.static,.bool m.abs,.bool m.fin,.int .i64 m.stack,.int .i64 m.locals,vc,vh]

theorem slice_form {α:Type} {R:Rep α} {w:World} {v:Value} {xs:List α} (h:R.slice.In w [v] xs):∃ a cap,v = .slice a xs.length cap:=by
 obtain ⟨a,cap,e,_⟩:=h
 cases e
 exact⟨a,cap,rfl⟩

end Go.Proofs.YtmhgaggpdggbeaaGreatDoor

namespace Go.Proofs.YtmhgaggpdggbeaaGreatDoor
open Go.RowKit
set_option linter.unusedVariables false

theorem ins_flat:∀ w w' cs x,insR.In w cs x→insR.In w' cs x:=fun _ _ _ _ h=>h
theorem handler_flat:∀ w w' cs x,handlerR.In w cs x→handlerR.In w' cs x:=fun _ _ _ _ h=>h

end Go.Proofs.YtmhgaggpdggbeaaGreatDoor

namespace Go.Proofs.YtmhgaggpdggbeaaGreatDoor
open Go.RowKit
set_option linter.unusedVariables false

end Go.Proofs.YtmhgaggpdggbeaaGreatDoor

namespace Go.Proofs.YtmhgaggpdggbeaaGreatDoor
open Go.RowKit
set_option linter.unusedVariables false

theorem slice_open {α:Type} {R:Rep α} (hk:0<R.k) {w:World} {v:Value} {xs:List α} (h:R.slice.In w [v] xs) :
  ∃ a cap,v = .slice a xs.length cap∧xs.length≤cap∧cap≤maxLen∧∀ i (h:i<xs.length),∃ b o,a=some ⟨b,o,none⟩∧R.At w ⟨b,o,none⟩ i xs[i]:=by
 obtain ⟨a,cap,e,h1,h2,h3⟩:=h
 cases e
 refine ⟨a,cap,rfl,h1,h2,fun i hi=>?_⟩
 obtain ⟨x,rfl,hx⟩:=h3 i hi
 obtain ⟨x0,e0,h0⟩:=h3 0 (by omega)
 cases e0
 obtain ⟨b,o,rfl⟩:=h0.plain hk
 exact⟨b,o,rfl,hx⟩

theorem insAt {w:World} {b o i:Nat} {d:InsD} (h:insR.At w ⟨b,o,none⟩ i d) :
  w.cell? ⟨b,o+i * 5,none⟩=some (.int .i64 d.1)∧w.cell? ⟨b,o+i * 5+1,none⟩=some (.int .i64 d.2.1)∧w.cell? ⟨b,o+i * 5+2,none⟩=some (.string d.2.2.1)∧w.cell? ⟨b,o+i * 5+3,none⟩=some (.string d.2.2.2.1)∧w.cell? ⟨b,o+i * 5+4,none⟩=some (.string d.2.2.2.2) ∧
  (-9223372036854775808≤d.1∧d.1≤9223372036854775807)∧(-9223372036854775808≤d.2.1∧d.2.1≤9223372036854775807)∧d.2.2.1.size≤maxLen∧d.2.2.2.1.size≤maxLen∧d.2.2.2.2.size≤maxLen:=by
 obtain ⟨cs,hc,hin⟩:=h
 obtain ⟨_,_,rfl,⟨rfl,q0⟩,⟨_,_,rfl,⟨rfl,q1⟩,⟨_,_,rfl,⟨rfl,s2⟩,⟨_,_,rfl,⟨rfl,s3⟩,⟨rfl,s4⟩⟩⟩⟩⟩:=hin
 have hk:insR.k=5:=rfl
 rw [hk] at hc
 have g0:=hc 0 (by omega)
 have g1:=hc 1 (by omega)
 have g2:=hc 2 (by omega)
 have g3:=hc 3 (by omega)
 have g4:=hc 4 (by omega)
 simp only [List.cons_append,List.nil_append,List.getElem?_cons_zero,List.getElem?_cons_succ,plain_add,← Nat.add_assoc,Nat.add_zero] at g0 g1 g2 g3 g4
 exact⟨g0,g1,g2,g3,g4,i64w q0,i64w q1,s2,s3,s4⟩

theorem handlerAt {w:World} {b o i:Nat} {d:HandlerD} (h:handlerR.At w ⟨b,o,none⟩ i d) :
  w.cell? ⟨b,o+i * 4,none⟩=some (.int .i64 d.1)∧w.cell? ⟨b,o+i * 4+1,none⟩=some (.int .i64 d.2.1)∧w.cell? ⟨b,o+i * 4+2,none⟩=some (.int .i64 d.2.2.1)∧w.cell? ⟨b,o+i * 4+3,none⟩=some (.string d.2.2.2)∧d.2.2.2.size≤maxLen:=by
 obtain ⟨cs,hc,hin⟩:=h
 obtain ⟨_,_,rfl,⟨rfl,q0⟩,⟨_,_,rfl,⟨rfl,q1⟩,⟨_,_,rfl,⟨rfl,q2⟩,⟨rfl,s3⟩⟩⟩⟩:=hin
 have hk:handlerR.k=4:=rfl
 rw [hk] at hc
 have g0:=hc 0 (by omega)
 have g1:=hc 1 (by omega)
 have g2:=hc 2 (by omega)
 have g3:=hc 3 (by omega)
 simp only [List.cons_append,List.nil_append,List.getElem?_cons_zero,List.getElem?_cons_succ,plain_add,← Nat.add_assoc,Nat.add_zero] at g0 g1 g2 g3
 exact⟨g0,g1,g2,g3,s3⟩

theorem fieldAt {w:World} {b o i:Nat} {d:FieldD} (h:fieldR.At w ⟨b,o,none⟩ i d) :
  w.cell? ⟨b,o+i * 3,none⟩=some (.string d.1)∧w.cell? ⟨b,o+i * 3+1,none⟩=some (.string d.2.1)∧w.cell? ⟨b,o+i * 3+2,none⟩=some (.bool d.2.2)∧d.1.size≤maxLen∧d.2.1.size≤maxLen:=by
 obtain ⟨cs,hc,hin⟩:=h
 obtain ⟨_,_,rfl,⟨rfl,s0⟩,⟨_,_,rfl,⟨rfl,s1⟩,h2⟩⟩:=hin
 have h2':_=_:=h2
 subst h2'
 have hk:fieldR.k=3:=rfl
 rw [hk] at hc
 have g0:=hc 0 (by omega)
 have g1:=hc 1 (by omega)
 have g2:=hc 2 (by omega)
 simp only [List.cons_append,List.nil_append,List.getElem?_cons_zero,List.getElem?_cons_succ,plain_add,← Nat.add_assoc,Nat.add_zero] at g0 g1 g2
 exact⟨g0,g1,g2,s0,s1⟩
end Go.Proofs.YtmhgaggpdggbeaaGreatDoor

namespace Go.Proofs.YtmhgaggpdggbeaaGreatDoor
open Go.RowKit
set_option linter.unusedVariables false

def methR:Rep (ByteArray × ByteArray × Bool × Bool × Bool × Int × Int × List InsD × List HandlerD) :=
 Rep.str.pair (Rep.str.pair (Rep.bool.pair (Rep.bool.pair (Rep.bool.pair (Rep.int.pair (Rep.int.pair (insR.slice.pair handlerR.slice)))))))
abbrev MTup:=ByteArray × ByteArray × Bool × Bool × Bool × Int × Int × List InsD × List HandlerD
def mD (x:MTup):MethD:=⟨x.1,x.2.1,x.2.2.1,x.2.2.2.1,x.2.2.2.2.1,x.2.2.2.2.2.1,x.2.2.2.2.2.2.1,x.2.2.2.2.2.2.2.1,x.2.2.2.2.2.2.2.2⟩

theorem methR_in {w:World} {cs:List Value} {x:MTup} (h:methR.In w cs x) :
  ∃ vc vh,cs=[.string (mD x).name,.string (mD x).desc,.bool (mD x).static,.bool (mD x).abs,.bool (mD x).fin,.int .i64 (mD x).stack,.int .i64 (mD x).locals,vc,vh]∧(mD x).name.size≤maxLen∧(mD x).desc.size≤maxLen ∧
   (Lit.int .i64 (mD x).stack).wf=true∧(Lit.int .i64 (mD x).locals).wf=true∧insR.slice.In w [vc] (mD x).code∧handlerR.slice.In w [vh] (mD x).hands:=by
 obtain ⟨x0,x1,x2,x3,x4,x5,x6,x7,x8⟩:=x
 obtain ⟨_,_,rfl,⟨rfl,s0⟩,⟨_,_,rfl,⟨rfl,s1⟩,⟨_,_,rfl,h2,⟨_,_,rfl,h3,⟨_,_,rfl,h4,⟨_,_,rfl,⟨rfl,q5⟩,⟨_,_,rfl,⟨rfl,q6⟩,⟨c7,c8,rfl,h7,h8⟩⟩⟩⟩⟩⟩⟩⟩:=h
 have e7:∃ v,c7=[v]:=by obtain ⟨a,cap,e,_⟩:=h7;exact⟨_,e⟩
 have e8:∃ v,c8=[v]:=by obtain ⟨a,cap,e,_⟩:=h8;exact⟨_,e⟩
 obtain ⟨vc,rfl⟩:=e7
 obtain ⟨vh,rfl⟩:=e8
 have h2':_=_:=h2
 have h3':_=_:=h3
 have h4':_=_:=h4
 subst h2' h3' h4'
 exact⟨vc,vh,rfl,s0,s1,q5,q6,h7,h8⟩

section
variable {H:Type} {enc:TypeId × Value→H} {base:Nat} {spare:Nat→Bool} {held:Bool}
theorem opensMethod:Opens Tryz.prog enc base spare held methR 138 :=
 opens_struct9 (R0:=Rep.str) (R1:=Rep.str) (R2:=Rep.bool) (R3:=Rep.bool) (R4:=Rep.bool) (R5:=Rep.int) (R6:=Rep.int) (R7:=insR.slice) (R8:=handlerR.slice) Tryz.underlying138 ⟨rfl,rfl,rfl,rfl,rfl,rfl,rfl,rfl,rfl⟩
  ⟨by kernel_rfl,by kernel_rfl,by kernel_rfl,by kernel_rfl,by kernel_rfl,by kernel_rfl,by kernel_rfl,by kernel_rfl,by kernel_rfl⟩ (by kernel_rfl)
  (opens_str Tryz.underlying9) (opens_str Tryz.underlying9) (opens_bool Tryz.underlying4) (opens_bool Tryz.underlying4) (opens_bool Tryz.underlying4) (opens_int Tryz.underlying2) (opens_int Tryz.underlying2)
  (opens_slice Tryz.underlying135 (by kernel_rfl) opensIns) (opens_slice Tryz.underlying136 (by kernel_rfl) opensHandler)
end

end Go.Proofs.YtmhgaggpdggbeaaGreatDoor
