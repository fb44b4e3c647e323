import Derived.Test.YtmhgaggpdggbeaaGreatDoorFlat
import Derived.OwnWalk
namespace Go.Proofs.YtmhgaggpdggbeaaGreatDoor
open Go.RowKit
set_option maxRecDepth 20000
set_option linter.unusedVariables false

theorem i64w {n:Int} (h:(Lit.int .i64 n).wf=true):-9223372036854775808≤n∧n≤9223372036854775807:=by
 unfold Lit.wf at h
 simp only [Bool.and_eq_true,decide_eq_true_eq] at h
 exact h

section
variable {H:Type} {enc:TypeId × Value→H} {base:Nat} {spare:Nat→Bool} {held:Bool}

theorem opensIns:Opens Tryz.prog enc base spare held insR 175 :=
 opens_struct5 (R0:=Rep.int) (R1:=Rep.int) (R2:=Rep.str) (R3:=Rep.str) (R4:=Rep.str) Tryz.underlying175 ⟨rfl,rfl,rfl,rfl,rfl⟩ ⟨by kernel_rfl,by kernel_rfl,by kernel_rfl,by kernel_rfl,by kernel_rfl⟩ (by kernel_rfl)
  (opens_int Tryz.underlying2) (opens_int Tryz.underlying2) (opens_str Tryz.underlying9) (opens_str Tryz.underlying9) (opens_str Tryz.underlying9)
theorem opensHandler:Opens Tryz.prog enc base spare held handlerR 177 :=
 opens_struct4 (R0:=Rep.int) (R1:=Rep.int) (R2:=Rep.int) (R3:=Rep.str) Tryz.underlying177 ⟨rfl,rfl,rfl,rfl⟩ ⟨by kernel_rfl,by kernel_rfl,by kernel_rfl,by kernel_rfl⟩ (by kernel_rfl)
  (opens_int Tryz.underlying2) (opens_int Tryz.underlying2) (opens_int Tryz.underlying2) (opens_str Tryz.underlying9)
theorem opensField:Opens Tryz.prog enc base spare held fieldR 133 :=
 opens_struct3 (R0:=Rep.str) (R1:=Rep.str) (R2:=Rep.bool) Tryz.underlying133 ⟨rfl,rfl,rfl⟩ ⟨by kernel_rfl,by kernel_rfl,by kernel_rfl⟩ (by kernel_rfl)
  (opens_str Tryz.underlying9) (opens_str Tryz.underlying9) (opens_bool Tryz.underlying4)
end
end Go.Proofs.YtmhgaggpdggbeaaGreatDoor

namespace Go.Proofs.YtmhgaggpdggbeaaGreatDoor
open Go.RowKit
set_option linter.unusedVariables false

theorem insFill.start {w w1:World} {ds:List InsD} {zs:List Value} (hown:w1.ownsRow w.heap.size 149 5 (.slice (some ⟨w.heap.size,0,none⟩) ds.length ds.length) ds.length zs) (hgrow:w.grownBy w1 none):insFill w w1 ds 0:=by
 refine ⟨(Below.refl _ _).grown hgrow (Nat.le_refl _) (fun k hk=>by cases hk),?_⟩
 rcases hown.2 with ⟨h1,_⟩ | ⟨g,cap,cur,e,_,hb,_,_,hsz,_⟩
 ·cases h1
 ·cases e
  exact⟨fun i=>cur.getD i undef,⟨cur,hb,hsz,fun i hi=>by
   have hc:i<cur.size:=by omega
   rw [Array.getElem?_eq_getElem hc]
   simp [Array.getD,hc]⟩,fun i _ h=>by omega⟩
theorem insFill.done {w wr:World} {ds:List InsD} {v:Value} (h:insFill w wr ds ds.length) (hin:insR.slice.In w [v] ds) (hl:ds.length≤1048576):insR.slice.In wr [.slice (some ⟨w.heap.size,0,none⟩) ds.length ds.length] ds:=by
 obtain ⟨f,hrow,hf⟩:=h.row
 refine ⟨some ⟨w.heap.size,0,none⟩,ds.length,rfl,Nat.le_refl _,by unfold maxLen;omega,fun i hi=>⟨_,rfl,insC ds[i],fun j hj=>?_,?_⟩⟩
 ·have hj:j<5:=hj
  have hf:=hf i hi hi
  have hk:insR.k=5:=rfl
  rw [hk,plain_add,Nat.zero_add]
  have hc:=hrow.cell (i:=i * 5+j) (by omega)
  rw [hc]
  obtain ⟨f0,f1,f2,f3,f4⟩:=hf
  match j,hj with
  | 0,_=>rw [f0];rfl
  | 1,_=>rw [f1];rfl
  | 2,_=>rw [f2];rfl
  | 3,_=>rw [f3];rfl
  | 4,_=>rw [f4];rfl
 ·obtain ⟨a,cap,_,_,_,hat⟩:=hin
  obtain ⟨x,_,cs,_,hi2⟩:=hat i hi
  obtain ⟨rfl,_⟩:=insR_in hi2
  exact insR.mono _ _ _ _ h.below hi2

set_option maxHeartbeats 2000000 in
theorem lawToInsS (v:Value) (ds:List InsD) (w:World) (h:insR.slice.In w [v] ds) (hl:ds.length≤1048576) :
  Calls Tryz.prog 125 #[v] w fun e w'=>∃ b,w.heap.size≤b∧e = .returned (.slice (some ⟨b,0,none⟩) ds.length ds.length)∧Below w.heap.size w w'∧insR.slice.In w' [.slice (some ⟨b,0,none⟩) ds.length ds.length] ds∧b<w'.heap.size∧∀ j,w'.frozen? ⟨b,j,none⟩=false:=by
 have HIN:Hid (insR.slice.In w [v] ds):=h
 obtain ⟨a,cap,hv,hn,hcap,hat⟩:=h
 cases hv
 unfold maxLen at hcap
 have HA:Hid (∀ i (h:i<ds.length),∃ x,a=some x∧insR.At w x i ds[i]):=hat
 clear hat
 obtain ⟨i0,hi0,hz0,hz1,hz2⟩:=info_parts insInfo
 have HI:Hid (Tryz.prog.info? 149 = some i0∧i0.zero=some _∧i0.size=5∧i0.bytes=64):=⟨hi0,hz0,hz1,hz2⟩
 clear hi0 hz0 hz1 hz2
 go_enter Tryz.func125,Tryz.ntmps125
 go_wp2_with (refine wpList_make_full _ rfl _ _ 52 rfl w.heap.size 149 i0 _ 5 Tryz.underlying52 HI.out.1 HI.out.2.1 HI.out.2.2.1 .i64 .i64 _ _ ds.length rfl rfl rfl rfl (by rw [HI.out.2.2.2];omega) (by unfold maxLen;omega) (Nat.le_refl _) ?_)
 intro w1 hown hgrow
 have HF0:Hid (insFill w w1 ds 0):=insFill.start hown hgrow
 clear hown hgrow HI
 go_wp2_with fail
 go_loopw [4] (fun j4 wr=>∃ m:Nat,m≤ds.length∧j4 = .int .i64 (m:Int)∧insFill w wr ds m) (fun j4 _=>ds.length - (intOf j4).toNat)
 case atStart=>exact⟨0,Nat.zero_le _,rfl,HF0.out⟩
 case round =>
  obtain ⟨m,hm,rfl,hfl⟩:=hrel
  have HF:Hid (insFill w wr ds m):=hfl
  clear hfl HF0
  by_cases hlt:m<ds.length
  ·obtain ⟨x,rfl,hx⟩:=HA.out m hlt
   obtain ⟨b,o,rfl⟩:∃ b o,x=⟨b,o,none⟩:=by
    obtain ⟨x0,e0,h0⟩:=HA.out 0 (by omega)
    cases e0
    exact h0.plain (by decide)
   obtain ⟨cs,hc,hin⟩:=hx.mono HF.out.below
   obtain ⟨rfl,hsz⟩:=insR_in hin
   have hk:insR.k=5:=rfl
   rw [hk] at hc
   have g0:=hc 0 (by omega)
   have g1:=hc 1 (by omega)
   have g2:=hc 2 (by omega)
   have g3:=hc 3 (by omega)
   have g4:=hc 4 (by omega)
   simp only [insC,List.getElem?_cons_zero,List.getElem?_cons_succ] at g0 g1 g2 g3 g4
   simp only [plain_add,← Nat.add_assoc,Nat.add_zero] at g0 g1 g2 g3 g4
   have hst:=fun (w2:World)=>@insFill.step w wr w2 ds m HF.out hlt
   obtain ⟨d,hd⟩:∃ d,ds[m]=d:=⟨_,rfl⟩
   rw [hd] at g0 g1 g2 g3 g4 hst
   obtain ⟨y0,y1,y2,y3,y4⟩:=d
   simp only at g0 g1 g2 g3 g4 hst
   have HST:=(show Hid _ from hst)
   clear hc hin hx hst hsz hd
   go_wp2_with fail
   refine (lawToIns y0 y1 y2 y3 y4 _).mono ?_
   rintro e w2 ⟨rfl,hb2⟩
   obtain ⟨f,hrow,_⟩:=HF.out.row
   have hr2:=hrow.of_block (hb2.block _ hrow.lt)
   have q0:=hr2.cell (i:=m * 5) (by omega)
   have p0:=hr2.frozen (m * 5)
   have q1:=hr2.cell (i:=m * 5+1) (by omega)
   have p1:=hr2.frozen (m * 5+1)
   have q2:=hr2.cell (i:=m * 5+2) (by omega)
   have p2:=hr2.frozen (m * 5+2)
   have q3:=hr2.cell (i:=m * 5+3) (by omega)
   have p3:=hr2.frozen (m * 5+3)
   have q4:=hr2.cell (i:=m * 5+4) (by omega)
   have p4:=hr2.frozen (m * 5+4)
   have HN:=HST.out w2 hb2
   have HN2:=(show Hid _ from HN)
   generalize f (m * 5)=u0 at q0
   generalize f (m * 5+1)=u1 at q1
   generalize f (m * 5+2)=u2 at q2
   generalize f (m * 5+3)=u3 at q3
   generalize f (m * 5+4)=u4 at q4
   clear hb2 hrow hr2 HST HN
   go_wp2
   go_roundw
   case rel=>exact⟨m+1,by omega,by go_num,HN2.out⟩
   case measure=>simp [intOf];omega
  ·obtain rfl:m=ds.length:=by omega
   have HD:Hid (insR.slice.In wr [.slice (some ⟨w.heap.size,0,none⟩) ds.length ds.length] ds):=HF.out.done HIN.out hl
   go_wp2
   go_ret
   exact⟨w.heap.size,Nat.le_refl _,rfl,HF.out.below,HD.out,by obtain ⟨f,hr,_⟩:=HF.out.row;exact hr.lt,fun j=>by obtain ⟨f,hr,_⟩:=HF.out.row;exact hr.frozen j⟩

set_option maxHeartbeats 2000000 in
theorem lawEqInsS (v u:Value) (ds:List InsD) (w:World) (h:insR.slice.In w [v] ds) (k:insR.slice.In w [u] ds) :
  Calls Tryz.prog 133 #[v,u] w fun e w'=>e = .returned (.bool true)∧Below w.heap.size w w':=by
 obtain ⟨a,cap,hv,hn,hcap,hat⟩:=h
 cases hv
 obtain ⟨a',cap',hu,hn',hcap',hat'⟩:=k
 cases hu
 unfold maxLen at hcap hcap'
 have HA:Hid (∀ i (h:i<ds.length),∃ x,a=some x∧insR.At w x i ds[i]):=hat
 have HB:Hid (∀ i (h:i<ds.length),∃ x,a'=some x∧insR.At w x i ds[i]):=hat'
 clear hat hat'
 go_enter Tryz.func133,Tryz.ntmps133
 go_wp2_with fail
 go_loopw [5] (fun j5 wr=>∃ m:Nat,m≤ds.length∧j5 = .int .i64 (m:Int)∧Below w.heap.size w wr) (fun j5 _=>ds.length - (intOf j5).toNat)
 case atStart=>exact⟨0,Nat.zero_le _,rfl,Below.refl _ _⟩
 case round =>
  obtain ⟨m,hm,rfl,hbel⟩:=hrel
  have HW:Hid (Below w.heap.size w wr):=hbel
  clear hbel
  by_cases hlt:m<ds.length
  ·obtain ⟨x,rfl,hx⟩:=HA.out m hlt
   obtain ⟨b,o,rfl⟩:∃ b o,x=⟨b,o,none⟩:=by
    obtain ⟨x0,e0,h0⟩:=HA.out 0 (by omega)
    cases e0
    exact h0.plain (by decide)
   obtain ⟨cs,hc,hin⟩:=hx.mono HW.out
   obtain ⟨rfl,_⟩:=insR_in hin
   obtain ⟨x',rfl,hx'⟩:=HB.out m hlt
   obtain ⟨b',o',rfl⟩:∃ b o,x'=⟨b,o,none⟩:=by
    obtain ⟨x0,e0,h0⟩:=HB.out 0 (by omega)
    cases e0
    exact h0.plain (by decide)
   obtain ⟨cs',hc',hin'⟩:=hx'.mono HW.out
   obtain ⟨rfl,_⟩:=insR_in hin'
   have hk:insR.k=5:=rfl
   rw [hk] at hc hc'
   have g0:=hc 0 (by omega)
   have k0:=hc' 0 (by omega)
   have g1:=hc 1 (by omega)
   have k1:=hc' 1 (by omega)
   have g2:=hc 2 (by omega)
   have k2:=hc' 2 (by omega)
   have g3:=hc 3 (by omega)
   have k3:=hc' 3 (by omega)
   have g4:=hc 4 (by omega)
   have k4:=hc' 4 (by omega)
   simp only [insC,List.getElem?_cons_zero,List.getElem?_cons_succ] at g0 k0 g1 k1 g2 k2 g3 k3 g4 k4
   simp only [plain_add,← Nat.add_assoc,Nat.add_zero] at g0 k0 g1 k1 g2 k2 g3 k3 g4 k4
   generalize ds[m]=d at g0 k0 g1 k1 g2 k2 g3 k3 g4 k4
   obtain ⟨y0,y1,y2,y3,y4⟩:=d
   simp only at g0 k0 g1 k1 g2 k2 g3 k3 g4 k4
   have hEq:=lawEqIns y0 y1 y2 y3 y4
   have HEq:=(show Hid _ from hEq)
   clear hc hc' hin hin' hx hx' hEq
   go_wp2_with fail
   go_region_with (go_at_call 155;refine (HEq.out _).mono ?_;rintro e w1 ⟨rfl,hb1⟩;have HB1:Hid (Below w.heap.size w w1):=HW.out.trans (((Below.refl _ _).drew.trans hb1).mono HW.out.size);clear hb1)
   all_goals
    go_wp2
    go_roundw
    case rel=>exact⟨m+1,by omega,by go_num,HB1.out⟩
    case measure=>simp [intOf];omega
  ·go_wp2
   go_ret
   exact⟨rfl,HW.out⟩

theorem handlerFill.start {w w1:World} {ds:List HandlerD} {zs:List Value} (hown:w1.ownsRow w.heap.size 151 4 (.slice (some ⟨w.heap.size,0,none⟩) ds.length ds.length) ds.length zs) (hgrow:w.grownBy w1 none):handlerFill w w1 ds 0:=by
 refine ⟨(Below.refl _ _).grown hgrow (Nat.le_refl _) (fun k hk=>by cases hk),?_⟩
 rcases hown.2 with ⟨h1,_⟩ | ⟨g,cap,cur,e,_,hb,_,_,hsz,_⟩
 ·cases h1
 ·cases e
  exact⟨fun i=>cur.getD i undef,⟨cur,hb,hsz,fun i hi=>by
   have hc:i<cur.size:=by omega
   rw [Array.getElem?_eq_getElem hc]
   simp [Array.getD,hc]⟩,fun i _ h=>by omega⟩
theorem handlerFill.done {w wr:World} {ds:List HandlerD} {v:Value} (h:handlerFill w wr ds ds.length) (hin:handlerR.slice.In w [v] ds) (hl:ds.length≤1048576):handlerR.slice.In wr [.slice (some ⟨w.heap.size,0,none⟩) ds.length ds.length] ds:=by
 obtain ⟨f,hrow,hf⟩:=h.row
 refine ⟨some ⟨w.heap.size,0,none⟩,ds.length,rfl,Nat.le_refl _,by unfold maxLen;omega,fun i hi=>⟨_,rfl,handlerC ds[i],fun j hj=>?_,?_⟩⟩
 ·have hj:j<4:=hj
  have hf:=hf i hi hi
  have hk:handlerR.k=4:=rfl
  rw [hk,plain_add,Nat.zero_add]
  have hc:=hrow.cell (i:=i * 4+j) (by omega)
  rw [hc]
  obtain ⟨f0,f1,f2,f3⟩:=hf
  match j,hj with
  | 0,_=>rw [f0];rfl
  | 1,_=>rw [f1];rfl
  | 2,_=>rw [f2];rfl
  | 3,_=>rw [f3];rfl
 ·obtain ⟨a,cap,_,_,_,hat⟩:=hin
  obtain ⟨x,_,cs,_,hi2⟩:=hat i hi
  obtain ⟨rfl,_⟩:=handlerR_in hi2
  exact handlerR.mono _ _ _ _ h.below hi2

set_option maxHeartbeats 2000000 in
theorem lawToHandlerS (v:Value) (ds:List HandlerD) (w:World) (h:handlerR.slice.In w [v] ds) (hl:ds.length≤1048576) :
  Calls Tryz.prog 126 #[v] w fun e w'=>∃ b,w.heap.size≤b∧e = .returned (.slice (some ⟨b,0,none⟩) ds.length ds.length)∧Below w.heap.size w w'∧handlerR.slice.In w' [.slice (some ⟨b,0,none⟩) ds.length ds.length] ds∧b<w'.heap.size∧∀ j,w'.frozen? ⟨b,j,none⟩=false:=by
 have HIN:Hid (handlerR.slice.In w [v] ds):=h
 obtain ⟨a,cap,hv,hn,hcap,hat⟩:=h
 cases hv
 unfold maxLen at hcap
 have HA:Hid (∀ i (h:i<ds.length),∃ x,a=some x∧handlerR.At w x i ds[i]):=hat
 clear hat
 obtain ⟨i0,hi0,hz0,hz1,hz2⟩:=info_parts handlerInfo
 have HI:Hid (Tryz.prog.info? 151 = some i0∧i0.zero=some _∧i0.size=4∧i0.bytes=40):=⟨hi0,hz0,hz1,hz2⟩
 clear hi0 hz0 hz1 hz2
 go_enter Tryz.func126,Tryz.ntmps126
 go_wp2_with (refine wpList_make_full _ rfl _ _ 53 rfl w.heap.size 151 i0 _ 4 Tryz.underlying53 HI.out.1 HI.out.2.1 HI.out.2.2.1 .i64 .i64 _ _ ds.length rfl rfl rfl rfl (by rw [HI.out.2.2.2];omega) (by unfold maxLen;omega) (Nat.le_refl _) ?_)
 intro w1 hown hgrow
 have HF0:Hid (handlerFill w w1 ds 0):=handlerFill.start hown hgrow
 clear hown hgrow HI
 go_wp2_with fail
 go_loopw [4] (fun j4 wr=>∃ m:Nat,m≤ds.length∧j4 = .int .i64 (m:Int)∧handlerFill w wr ds m) (fun j4 _=>ds.length - (intOf j4).toNat)
 case atStart=>exact⟨0,Nat.zero_le _,rfl,HF0.out⟩
 case round =>
  obtain ⟨m,hm,rfl,hfl⟩:=hrel
  have HF:Hid (handlerFill w wr ds m):=hfl
  clear hfl HF0
  by_cases hlt:m<ds.length
  ·obtain ⟨x,rfl,hx⟩:=HA.out m hlt
   obtain ⟨b,o,rfl⟩:∃ b o,x=⟨b,o,none⟩:=by
    obtain ⟨x0,e0,h0⟩:=HA.out 0 (by omega)
    cases e0
    exact h0.plain (by decide)
   obtain ⟨cs,hc,hin⟩:=hx.mono HF.out.below
   obtain ⟨rfl,hsz⟩:=handlerR_in hin
   have hk:handlerR.k=4:=rfl
   rw [hk] at hc
   have g0:=hc 0 (by omega)
   have g1:=hc 1 (by omega)
   have g2:=hc 2 (by omega)
   have g3:=hc 3 (by omega)
   simp only [handlerC,List.getElem?_cons_zero,List.getElem?_cons_succ] at g0 g1 g2 g3
   simp only [plain_add,← Nat.add_assoc,Nat.add_zero] at g0 g1 g2 g3
   have hst:=fun (w2:World)=>@handlerFill.step w wr w2 ds m HF.out hlt
   obtain ⟨d,hd⟩:∃ d,ds[m]=d:=⟨_,rfl⟩
   rw [hd] at g0 g1 g2 g3 hst
   obtain ⟨y0,y1,y2,y3⟩:=d
   simp only at g0 g1 g2 g3 hst
   have HST:=(show Hid _ from hst)
   clear hc hin hx hst hsz hd
   go_wp2_with fail
   refine (lawToHandler y0 y1 y2 y3 _).mono ?_
   rintro e w2 ⟨rfl,hb2⟩
   obtain ⟨f,hrow,_⟩:=HF.out.row
   have hr2:=hrow.of_block (hb2.block _ hrow.lt)
   have q0:=hr2.cell (i:=m * 4) (by omega)
   have p0:=hr2.frozen (m * 4)
   have q1:=hr2.cell (i:=m * 4+1) (by omega)
   have p1:=hr2.frozen (m * 4+1)
   have q2:=hr2.cell (i:=m * 4+2) (by omega)
   have p2:=hr2.frozen (m * 4+2)
   have q3:=hr2.cell (i:=m * 4+3) (by omega)
   have p3:=hr2.frozen (m * 4+3)
   have HN:=HST.out w2 hb2
   have HN2:=(show Hid _ from HN)
   generalize f (m * 4)=u0 at q0
   generalize f (m * 4+1)=u1 at q1
   generalize f (m * 4+2)=u2 at q2
   generalize f (m * 4+3)=u3 at q3
   clear hb2 hrow hr2 HST HN
   go_wp2
   go_roundw
   case rel=>exact⟨m+1,by omega,by go_num,HN2.out⟩
   case measure=>simp [intOf];omega
  ·obtain rfl:m=ds.length:=by omega
   have HD:Hid (handlerR.slice.In wr [.slice (some ⟨w.heap.size,0,none⟩) ds.length ds.length] ds):=HF.out.done HIN.out hl
   go_wp2
   go_ret
   exact⟨w.heap.size,Nat.le_refl _,rfl,HF.out.below,HD.out,by obtain ⟨f,hr,_⟩:=HF.out.row;exact hr.lt,fun j=>by obtain ⟨f,hr,_⟩:=HF.out.row;exact hr.frozen j⟩

set_option maxHeartbeats 2000000 in
theorem lawEqHandlerS (v u:Value) (ds:List HandlerD) (w:World) (h:handlerR.slice.In w [v] ds) (k:handlerR.slice.In w [u] ds) :
  Calls Tryz.prog 134 #[v,u] w fun e w'=>e = .returned (.bool true)∧Below w.heap.size w w':=by
 obtain ⟨a,cap,hv,hn,hcap,hat⟩:=h
 cases hv
 obtain ⟨a',cap',hu,hn',hcap',hat'⟩:=k
 cases hu
 unfold maxLen at hcap hcap'
 have HA:Hid (∀ i (h:i<ds.length),∃ x,a=some x∧handlerR.At w x i ds[i]):=hat
 have HB:Hid (∀ i (h:i<ds.length),∃ x,a'=some x∧handlerR.At w x i ds[i]):=hat'
 clear hat hat'
 go_enter Tryz.func134,Tryz.ntmps134
 go_wp2_with fail
 go_loopw [5] (fun j5 wr=>∃ m:Nat,m≤ds.length∧j5 = .int .i64 (m:Int)∧Below w.heap.size w wr) (fun j5 _=>ds.length - (intOf j5).toNat)
 case atStart=>exact⟨0,Nat.zero_le _,rfl,Below.refl _ _⟩
 case round =>
  obtain ⟨m,hm,rfl,hbel⟩:=hrel
  have HW:Hid (Below w.heap.size w wr):=hbel
  clear hbel
  by_cases hlt:m<ds.length
  ·obtain ⟨x,rfl,hx⟩:=HA.out m hlt
   obtain ⟨b,o,rfl⟩:∃ b o,x=⟨b,o,none⟩:=by
    obtain ⟨x0,e0,h0⟩:=HA.out 0 (by omega)
    cases e0
    exact h0.plain (by decide)
   obtain ⟨cs,hc,hin⟩:=hx.mono HW.out
   obtain ⟨rfl,_⟩:=handlerR_in hin
   obtain ⟨x',rfl,hx'⟩:=HB.out m hlt
   obtain ⟨b',o',rfl⟩:∃ b o,x'=⟨b,o,none⟩:=by
    obtain ⟨x0,e0,h0⟩:=HB.out 0 (by omega)
    cases e0
    exact h0.plain (by decide)
   obtain ⟨cs',hc',hin'⟩:=hx'.mono HW.out
   obtain ⟨rfl,_⟩:=handlerR_in hin'
   have hk:handlerR.k=4:=rfl
   rw [hk] at hc hc'
   have g0:=hc 0 (by omega)
   have k0:=hc' 0 (by omega)
   have g1:=hc 1 (by omega)
   have k1:=hc' 1 (by omega)
   have g2:=hc 2 (by omega)
   have k2:=hc' 2 (by omega)
   have g3:=hc 3 (by omega)
   have k3:=hc' 3 (by omega)
   simp only [handlerC,List.getElem?_cons_zero,List.getElem?_cons_succ] at g0 k0 g1 k1 g2 k2 g3 k3
   simp only [plain_add,← Nat.add_assoc,Nat.add_zero] at g0 k0 g1 k1 g2 k2 g3 k3
   generalize ds[m]=d at g0 k0 g1 k1 g2 k2 g3 k3
   obtain ⟨y0,y1,y2,y3⟩:=d
   simp only at g0 k0 g1 k1 g2 k2 g3 k3
   have hEq:=lawEqHandler y0 y1 y2 y3
   have HEq:=(show Hid _ from hEq)
   clear hc hc' hin hin' hx hx' hEq
   go_wp2_with fail
   go_region_with (go_at_call 156;refine (HEq.out _).mono ?_;rintro e w1 ⟨rfl,hb1⟩;have HB1:Hid (Below w.heap.size w w1):=HW.out.trans (((Below.refl _ _).drew.trans hb1).mono HW.out.size);clear hb1)
   all_goals
    go_wp2
    go_roundw
    case rel=>exact⟨m+1,by omega,by go_num,HB1.out⟩
    case measure=>simp [intOf];omega
  ·go_wp2
   go_ret
   exact⟨rfl,HW.out⟩

theorem fieldFill.start {w w1:World} {ds:List FieldD} {zs:List Value} (hown:w1.ownsRow w.heap.size 61 3 (.slice (some ⟨w.heap.size,0,none⟩) ds.length ds.length) ds.length zs) (hgrow:w.grownBy w1 none):fieldFill w w1 ds 0:=by
 refine ⟨(Below.refl _ _).grown hgrow (Nat.le_refl _) (fun k hk=>by cases hk),?_⟩
 rcases hown.2 with ⟨h1,_⟩ | ⟨g,cap,cur,e,_,hb,_,_,hsz,_⟩
 ·cases h1
 ·cases e
  exact⟨fun i=>cur.getD i undef,⟨cur,hb,hsz,fun i hi=>by
   have hc:i<cur.size:=by omega
   rw [Array.getElem?_eq_getElem hc]
   simp [Array.getD,hc]⟩,fun i _ h=>by omega⟩
theorem fieldFill.done {w wr:World} {ds:List FieldD} {v:Value} (h:fieldFill w wr ds ds.length) (hin:fieldR.slice.In w [v] ds) (hl:ds.length≤1048576):fieldR.slice.In wr [.slice (some ⟨w.heap.size,0,none⟩) ds.length ds.length] ds:=by
 obtain ⟨f,hrow,hf⟩:=h.row
 refine ⟨some ⟨w.heap.size,0,none⟩,ds.length,rfl,Nat.le_refl _,by unfold maxLen;omega,fun i hi=>⟨_,rfl,fieldC ds[i],fun j hj=>?_,?_⟩⟩
 ·have hj:j<3:=hj
  have hf:=hf i hi hi
  have hk:fieldR.k=3:=rfl
  rw [hk,plain_add,Nat.zero_add]
  have hc:=hrow.cell (i:=i * 3+j) (by omega)
  rw [hc]
  obtain ⟨f0,f1,f2⟩:=hf
  match j,hj with
  | 0,_=>rw [f0];rfl
  | 1,_=>rw [f1];rfl
  | 2,_=>rw [f2];rfl
 ·obtain ⟨a,cap,_,_,_,hat⟩:=hin
  obtain ⟨x,_,cs,_,hi2⟩:=hat i hi
  obtain ⟨rfl,_⟩:=fieldR_in hi2
  exact fieldR.mono _ _ _ _ h.below hi2

set_option maxHeartbeats 2000000 in
theorem lawToFieldS (v:Value) (ds:List FieldD) (w:World) (h:fieldR.slice.In w [v] ds) (hl:ds.length≤1048576) :
  Calls Tryz.prog 74 #[v] w fun e w'=>∃ b,w.heap.size≤b∧e = .returned (.slice (some ⟨b,0,none⟩) ds.length ds.length)∧Below w.heap.size w w'∧fieldR.slice.In w' [.slice (some ⟨b,0,none⟩) ds.length ds.length] ds∧b<w'.heap.size∧∀ j,w'.frozen? ⟨b,j,none⟩=false:=by
 have HIN:Hid (fieldR.slice.In w [v] ds):=h
 obtain ⟨a,cap,hv,hn,hcap,hat⟩:=h
 cases hv
 unfold maxLen at hcap
 have HA:Hid (∀ i (h:i<ds.length),∃ x,a=some x∧fieldR.At w x i ds[i]):=hat
 clear hat
 obtain ⟨i0,hi0,hz0,hz1,hz2⟩:=info_parts fieldInfo
 have HI:Hid (Tryz.prog.info? 61 = some i0∧i0.zero=some _∧i0.size=3∧i0.bytes=40):=⟨hi0,hz0,hz1,hz2⟩
 clear hi0 hz0 hz1 hz2
 go_enter Tryz.func74,Tryz.ntmps74
 go_wp2_with (refine wpList_make_full _ rfl _ _ 24 rfl w.heap.size 61 i0 _ 3 Tryz.underlying24 HI.out.1 HI.out.2.1 HI.out.2.2.1 .i64 .i64 _ _ ds.length rfl rfl rfl rfl (by rw [HI.out.2.2.2];omega) (by unfold maxLen;omega) (Nat.le_refl _) ?_)
 intro w1 hown hgrow
 have HF0:Hid (fieldFill w w1 ds 0):=fieldFill.start hown hgrow
 clear hown hgrow HI
 go_wp2_with fail
 go_loopw [4] (fun j4 wr=>∃ m:Nat,m≤ds.length∧j4 = .int .i64 (m:Int)∧fieldFill w wr ds m) (fun j4 _=>ds.length - (intOf j4).toNat)
 case atStart=>exact⟨0,Nat.zero_le _,rfl,HF0.out⟩
 case round =>
  obtain ⟨m,hm,rfl,hfl⟩:=hrel
  have HF:Hid (fieldFill w wr ds m):=hfl
  clear hfl HF0
  by_cases hlt:m<ds.length
  ·obtain ⟨x,rfl,hx⟩:=HA.out m hlt
   obtain ⟨b,o,rfl⟩:∃ b o,x=⟨b,o,none⟩:=by
    obtain ⟨x0,e0,h0⟩:=HA.out 0 (by omega)
    cases e0
    exact h0.plain (by decide)
   obtain ⟨cs,hc,hin⟩:=hx.mono HF.out.below
   obtain ⟨rfl,hsz⟩:=fieldR_in hin
   have hk:fieldR.k=3:=rfl
   rw [hk] at hc
   have g0:=hc 0 (by omega)
   have g1:=hc 1 (by omega)
   have g2:=hc 2 (by omega)
   simp only [fieldC,List.getElem?_cons_zero,List.getElem?_cons_succ] at g0 g1 g2
   simp only [plain_add,← Nat.add_assoc,Nat.add_zero] at g0 g1 g2
   have hst:=fun (w2:World)=>@fieldFill.step w wr w2 ds m HF.out hlt
   obtain ⟨d,hd⟩:∃ d,ds[m]=d:=⟨_,rfl⟩
   rw [hd] at g0 g1 g2 hst
   obtain ⟨y0,y1,y2⟩:=d
   simp only at g0 g1 g2 hst
   have HST:=(show Hid _ from hst)
   clear hc hin hx hst hsz hd
   go_wp2_with fail
   refine (lawToField y0 y1 y2 _).mono ?_
   rintro e w2 ⟨rfl,hb2⟩
   obtain ⟨f,hrow,_⟩:=HF.out.row
   have hr2:=hrow.of_block (hb2.block _ hrow.lt)
   have q0:=hr2.cell (i:=m * 3) (by omega)
   have p0:=hr2.frozen (m * 3)
   have q1:=hr2.cell (i:=m * 3+1) (by omega)
   have p1:=hr2.frozen (m * 3+1)
   have q2:=hr2.cell (i:=m * 3+2) (by omega)
   have p2:=hr2.frozen (m * 3+2)
   have HN:=HST.out w2 hb2
   have HN2:=(show Hid _ from HN)
   generalize f (m * 3)=u0 at q0
   generalize f (m * 3+1)=u1 at q1
   generalize f (m * 3+2)=u2 at q2
   clear hb2 hrow hr2 HST HN
   go_wp2
   go_roundw
   case rel=>exact⟨m+1,by omega,by go_num,HN2.out⟩
   case measure=>simp [intOf];omega
  ·obtain rfl:m=ds.length:=by omega
   have HD:Hid (fieldR.slice.In wr [.slice (some ⟨w.heap.size,0,none⟩) ds.length ds.length] ds):=HF.out.done HIN.out hl
   go_wp2
   go_ret
   exact⟨w.heap.size,Nat.le_refl _,rfl,HF.out.below,HD.out,by obtain ⟨f,hr,_⟩:=HF.out.row;exact hr.lt,fun j=>by obtain ⟨f,hr,_⟩:=HF.out.row;exact hr.frozen j⟩

set_option maxHeartbeats 2000000 in
theorem lawEqFieldS (v u:Value) (ds:List FieldD) (w:World) (h:fieldR.slice.In w [v] ds) (k:fieldR.slice.In w [u] ds) :
  Calls Tryz.prog 13 #[v,u] w fun e w'=>e = .returned (.bool true)∧Below w.heap.size w w':=by
 obtain ⟨a,cap,hv,hn,hcap,hat⟩:=h
 cases hv
 obtain ⟨a',cap',hu,hn',hcap',hat'⟩:=k
 cases hu
 unfold maxLen at hcap hcap'
 have HA:Hid (∀ i (h:i<ds.length),∃ x,a=some x∧fieldR.At w x i ds[i]):=hat
 have HB:Hid (∀ i (h:i<ds.length),∃ x,a'=some x∧fieldR.At w x i ds[i]):=hat'
 clear hat hat'
 go_enter Tryz.func13,Tryz.ntmps13
 go_wp2_with fail
 go_loopw [5] (fun j5 wr=>∃ m:Nat,m≤ds.length∧j5 = .int .i64 (m:Int)∧Below w.heap.size w wr) (fun j5 _=>ds.length - (intOf j5).toNat)
 case atStart=>exact⟨0,Nat.zero_le _,rfl,Below.refl _ _⟩
 case round =>
  obtain ⟨m,hm,rfl,hbel⟩:=hrel
  have HW:Hid (Below w.heap.size w wr):=hbel
  clear hbel
  by_cases hlt:m<ds.length
  ·obtain ⟨x,rfl,hx⟩:=HA.out m hlt
   obtain ⟨b,o,rfl⟩:∃ b o,x=⟨b,o,none⟩:=by
    obtain ⟨x0,e0,h0⟩:=HA.out 0 (by omega)
    cases e0
    exact h0.plain (by decide)
   obtain ⟨cs,hc,hin⟩:=hx.mono HW.out
   obtain ⟨rfl,_⟩:=fieldR_in hin
   obtain ⟨x',rfl,hx'⟩:=HB.out m hlt
   obtain ⟨b',o',rfl⟩:∃ b o,x'=⟨b,o,none⟩:=by
    obtain ⟨x0,e0,h0⟩:=HB.out 0 (by omega)
    cases e0
    exact h0.plain (by decide)
   obtain ⟨cs',hc',hin'⟩:=hx'.mono HW.out
   obtain ⟨rfl,_⟩:=fieldR_in hin'
   have hk:fieldR.k=3:=rfl
   rw [hk] at hc hc'
   have g0:=hc 0 (by omega)
   have k0:=hc' 0 (by omega)
   have g1:=hc 1 (by omega)
   have k1:=hc' 1 (by omega)
   have g2:=hc 2 (by omega)
   have k2:=hc' 2 (by omega)
   simp only [fieldC,List.getElem?_cons_zero,List.getElem?_cons_succ] at g0 k0 g1 k1 g2 k2
   simp only [plain_add,← Nat.add_assoc,Nat.add_zero] at g0 k0 g1 k1 g2 k2
   generalize ds[m]=d at g0 k0 g1 k1 g2 k2
   obtain ⟨y0,y1,y2⟩:=d
   simp only at g0 k0 g1 k1 g2 k2
   have hEq:=lawEqField y0 y1 y2
   have HEq:=(show Hid _ from hEq)
   clear hc hc' hin hin' hx hx' hEq
   go_wp2_with fail
   go_region_with (go_at_call 44;refine (HEq.out _).mono ?_;rintro e w1 ⟨rfl,hb1⟩;have HB1:Hid (Below w.heap.size w w1):=HW.out.trans (((Below.refl _ _).drew.trans hb1).mono HW.out.size);clear hb1)
   all_goals
    go_wp2
    go_roundw
    case rel=>exact⟨m+1,by omega,by go_num,HB1.out⟩
    case measure=>simp [intOf];omega
  ·go_wp2
   go_ret
   exact⟨rfl,HW.out⟩

end Go.Proofs.YtmhgaggpdggbeaaGreatDoor

namespace Go.Proofs.YtmhgaggpdggbeaaGreatDoor
open Go.RowKit
set_option linter.unusedVariables false

structure MethD where
 name:ByteArray
 desc:ByteArray
 static:Bool
 abs:Bool
 fin:Bool
 stack:Int
 locals:Int
 code:List InsD
 hands:List HandlerD

def methV (m:MethD) (vc vh:Value):Value:=.agg #[.string m.name,.string m.desc,.bool m.static,.bool m.abs,.bool m.fin,.int .i64 m.stack,.int .i64 m.locals,vc,vh]

def methB (m:MethD):Nat:=m.name.size+m.desc.size+(m.code.length+insSum m.code m.code.length)+(m.hands.length+handlerSum m.hands m.hands.length)

theorem slice_form {α:Type} {R:Rep α} {w:World} {v:Value} {xs:List α} (h:R.slice.In w [v] xs):∃ a cap,v = .slice a xs.length cap:=by
 obtain ⟨a,cap,e,_⟩:=h
 cases e
 exact⟨a,cap,rfl⟩

theorem szB_neg {b:Nat} {left:Int} (h:left<(b:Int)):szB b left = -1:=by unfold szB;rw [if_pos h]
theorem szB_pos {b:Nat} {left:Int} (h:¬ left<(b:Int)):szB b left=left - (b:Int):=by unfold szB;rw [if_neg h]

set_option maxHeartbeats 2000000 in
theorem lawSzMethod (m:MethD) (vc vh:Value) (left:Int) (w:World) (h1:m.name.size≤maxLen) (h2:m.desc.size≤maxLen) (hc:insR.slice.In w [vc] m.code) (hh:handlerR.slice.In w [vh] m.hands) (hl:0≤left∧left≤1048576) :
  Calls Tryz.prog 100 #[methV m vc vh,.int .i64 left] w fun e w'=>e = .returned (.int .i64 (szB (methB m) left))∧Below w.heap.size w w':=by
 obtain ⟨a,ca,rfl⟩:=slice_form hc
 obtain ⟨b,cb,rfl⟩:=slice_form hh
 unfold maxLen at h1 h2
 obtain ⟨nm,ds,st,ab,fi,sk,lo,code,hands⟩:=m
 simp only at h1 h2 hc hh
 unfold methV
 simp only
 have HB0:Hid (∀ o,Below w.heap.size w (w.alloc o)):=fun o=>(Below.refl _ _).alloc (Nat.le_refl _) o
 have HC:Hid (insR.slice.In w [.slice a code.length ca] code):=hc
 have HH:Hid (handlerR.slice.In w [.slice b hands.length cb] hands):=hh
 clear hc hh
 obtain ⟨bc,hbc⟩:∃ n,code.length+insSum code code.length=n:=⟨_,rfl⟩
 obtain ⟨bh,hbh⟩:∃ n,hands.length+handlerSum hands hands.length=n:=⟨_,rfl⟩
 have HS1:Hid (∀ left w v,insR.slice.In w [v] code→0≤left∧left≤1048576→Calls Tryz.prog 123 #[v,.int .i64 left] w fun e w'=>e = .returned (.int .i64 (szB bc left))∧Below w.heap.size w w'):=fun left w v h hl=>hbc ▸ lawSzInsS v code left w h hl
 have HS2:Hid (∀ left w v,handlerR.slice.In w [v] hands→0≤left∧left≤1048576→Calls Tryz.prog 124 #[v,.int .i64 left] w fun e w'=>e = .returned (.int .i64 (szB bh left))∧Below w.heap.size w w'):=fun left w v h hl=>hbh ▸ lawSzHandlerS v hands left w h hl
 have HT:Hid (szB (methB ⟨nm,ds,st,ab,fi,sk,lo,code,hands⟩) left=szB (nm.size+ds.size+bc+bh) left):=by
  show _=_
  unfold methB
  rw [← hbc,← hbh]
 clear hbc hbh
 by_cases c0:left - (nm.size:Int)<0
 ·have d0:decide (left - (nm.size:Int)<0)=true:=by simpa using c0
  have HZ:Hid (-1=szB (methB ⟨nm,ds,st,ab,fi,sk,lo,code,hands⟩) left):=by show _=_;rw [HT.out,szB_neg (by omega)]
  go_enter Tryz.func100,Tryz.ntmps100
  go_wp2
  go_ret
  exact⟨congrArg (fun b=>Ending.returned (Value.int .i64 b)) HZ.out,HB0.out _⟩
 ·have d0:decide (left - (nm.size:Int)<0)=false:=by simpa using c0
  by_cases c1:left - (nm.size:Int) - (ds.size:Int)<0
  ·have d1:decide (left - (nm.size:Int) - (ds.size:Int)<0)=true:=by simpa using c1
   have HZ:Hid (-1=szB (methB ⟨nm,ds,st,ab,fi,sk,lo,code,hands⟩) left):=by show _=_;rw [HT.out,szB_neg (by omega)]
   go_enter Tryz.func100,Tryz.ntmps100
   go_wp2
   go_ret
   exact⟨congrArg (fun b=>Ending.returned (Value.int .i64 b)) HZ.out,HB0.out _⟩
  ·have d1:decide (left - (nm.size:Int) - (ds.size:Int)<0)=false:=by simpa using c1
   by_cases c2:left - (nm.size:Int) - (ds.size:Int)<(bc:Int)
   ·have HV:Hid (szB bc (left - (nm.size:Int) - (ds.size:Int)) = -1):=szB_neg c2
    have HZ:Hid (-1=szB (methB ⟨nm,ds,st,ab,fi,sk,lo,code,hands⟩) left):=by show _=_;rw [HT.out,szB_neg (by omega)]
    clear c2
    go_enter Tryz.func100,Tryz.ntmps100
    go_wp2_with fail
    refine (HS1.out _ _ _ (insR.slice.mono _ _ _ _ (HB0.out _) HC.out) (by omega)).mono ?_
    rintro e w1 ⟨rfl,hb1⟩
    rw [HV.out]
    have HB1:Hid (Below w.heap.size w w1):=(HB0.out _).trans (hb1.mono (by simp))
    clear hb1
    go_wp2
    go_ret
    exact⟨congrArg (fun b=>Ending.returned (Value.int .i64 b)) HZ.out,HB1.out⟩
   ·have HV:Hid (szB bc (left - (nm.size:Int) - (ds.size:Int))=left - (nm.size:Int) - (ds.size:Int) - (bc:Int)):=szB_pos c2
    have d2:decide (left - (nm.size:Int) - (ds.size:Int) - (bc:Int)<0)=false:=by simp;omega
    by_cases c3:left - (nm.size:Int) - (ds.size:Int) - (bc:Int)<(bh:Int)
    ·have HV2:Hid (szB bh (left - (nm.size:Int) - (ds.size:Int) - (bc:Int)) = -1):=szB_neg c3
     have HZ:Hid (-1=szB (methB ⟨nm,ds,st,ab,fi,sk,lo,code,hands⟩) left):=by show _=_;rw [HT.out,szB_neg (by omega)]
     have hr:0≤left - (nm.size:Int) - (ds.size:Int) - (bc:Int)∧left - (nm.size:Int) - (ds.size:Int) - (bc:Int)≤1048576:=by omega
     have HR:=(show Hid _ from hr)
     clear c2 c3 hr
     go_enter Tryz.func100,Tryz.ntmps100
     go_wp2_with fail
     refine (HS1.out _ _ _ (insR.slice.mono _ _ _ _ (HB0.out _) HC.out) (by omega)).mono ?_
     rintro e w1 ⟨rfl,hb1⟩
     rw [HV.out]
     have HB1:Hid (Below w.heap.size w w1):=(HB0.out _).trans (hb1.mono (by simp))
     have x8:w1.cell? ⟨w.heap.size,8,none⟩=some (.slice b hands.length cb):=(hb1.cell (p:=⟨w.heap.size,8,none⟩) (by simp)).trans (by simp [go_sem])
     clear hb1
     go_wp2_with fail
     refine (HS2.out _ _ _ (handlerR.slice.mono _ _ _ _ HB1.out HH.out) HR.out).mono ?_
     rintro e w2 ⟨rfl,hb2⟩
     rw [HV2.out]
     have HB2:Hid (Below w.heap.size w w2):=HB1.out.trans (hb2.mono HB1.out.size)
     clear hb2
     go_wp2
     go_ret
     exact⟨congrArg (fun b=>Ending.returned (Value.int .i64 b)) HZ.out,HB2.out⟩
    ·have HV2:Hid (szB bh (left - (nm.size:Int) - (ds.size:Int) - (bc:Int))=left - (nm.size:Int) - (ds.size:Int) - (bc:Int) - (bh:Int)):=szB_pos c3
     have d3:decide (left - (nm.size:Int) - (ds.size:Int) - (bc:Int) - (bh:Int)<0)=false:=by simp;omega
     have HZ:Hid (left - (nm.size:Int) - (ds.size:Int) - (bc:Int) - (bh:Int)=szB (methB ⟨nm,ds,st,ab,fi,sk,lo,code,hands⟩) left):=by show _=_;rw [HT.out,szB_pos (by omega)];omega
     have hr:0≤left - (nm.size:Int) - (ds.size:Int) - (bc:Int)∧left - (nm.size:Int) - (ds.size:Int) - (bc:Int)≤1048576:=by omega
     have HR:=(show Hid _ from hr)
     clear c2 c3 hr
     go_enter Tryz.func100,Tryz.ntmps100
     go_wp2_with fail
     refine (HS1.out _ _ _ (insR.slice.mono _ _ _ _ (HB0.out _) HC.out) (by omega)).mono ?_
     rintro e w1 ⟨rfl,hb1⟩
     rw [HV.out]
     have HB1:Hid (Below w.heap.size w w1):=(HB0.out _).trans (hb1.mono (by simp))
     have x8:w1.cell? ⟨w.heap.size,8,none⟩=some (.slice b hands.length cb):=(hb1.cell (p:=⟨w.heap.size,8,none⟩) (by simp)).trans (by simp [go_sem])
     clear hb1
     go_wp2_with fail
     refine (HS2.out _ _ _ (handlerR.slice.mono _ _ _ _ HB1.out HH.out) HR.out).mono ?_
     rintro e w2 ⟨rfl,hb2⟩
     rw [HV2.out]
     have HB2:Hid (Below w.heap.size w w2):=HB1.out.trans (hb2.mono HB1.out.size)
     clear hb2
     go_wp2
     go_ret
     exact⟨congrArg (fun b=>Ending.returned (Value.int .i64 b)) HZ.out,HB2.out⟩
end Go.Proofs.YtmhgaggpdggbeaaGreatDoor

namespace Go.Proofs.YtmhgaggpdggbeaaGreatDoor
open Go.RowKit
set_option linter.unusedVariables false

theorem ins_flat:∀ w w' cs x,insR.In w cs x→insR.In w' cs x:=fun _ _ _ _ h=>h
theorem handler_flat:∀ w w' cs x,handlerR.In w cs x→handlerR.In w' cs x:=fun _ _ _ _ h=>h

end Go.Proofs.YtmhgaggpdggbeaaGreatDoor

namespace Go.Proofs.YtmhgaggpdggbeaaGreatDoor
open Go.RowKit
set_option linter.unusedVariables false

set_option maxHeartbeats 4000000 in
theorem lawEqMethod (m:MethD) (vc vh uc uh:Value) (w:World) (h1:insR.slice.In w [vc] m.code) (h2:handlerR.slice.In w [vh] m.hands) (h3:insR.slice.In w [uc] m.code) (h4:handlerR.slice.In w [uh] m.hands) :
  Calls Tryz.prog 112 #[methV m vc vh,methV m uc uh] w fun e w'=>e = .returned (.bool true)∧Below w.heap.size w w':=by
 obtain ⟨a,ca,rfl⟩:=slice_form h1
 obtain ⟨b,cb,rfl⟩:=slice_form h2
 obtain ⟨c,cc,rfl⟩:=slice_form h3
 obtain ⟨d,cd,rfl⟩:=slice_form h4
 obtain ⟨nm,ds,st,ab,fi,sk,lo,code,hands⟩:=m
 simp only at h1 h2 h3 h4
 unfold methV
 simp only
 have HB0:Hid (∀ o1 o2,Below w.heap.size w ((w.alloc o1).alloc o2)):=fun o1 o2=>((Below.refl _ _).alloc (Nat.le_refl _) o1).alloc (by simp) o2
 have H1:Hid (insR.slice.In w [.slice a code.length ca] code):=h1
 have H2:Hid (handlerR.slice.In w [.slice b hands.length cb] hands):=h2
 have H3:Hid (insR.slice.In w [.slice c code.length cc] code):=h3
 have H4:Hid (handlerR.slice.In w [.slice d hands.length cd] hands):=h4
 clear h1 h2 h3 h4
 have enm:(nm.toList == nm.toList)=true:=by simp
 have eds:(ds.toList == ds.toList)=true:=by simp
 have est:(st == st)=true:=by simp
 have fst:(st != st)=false:=by simp
 have eab:(ab == ab)=true:=by simp
 have fab:(ab != ab)=false:=by simp
 have efi:(fi == fi)=true:=by simp
 have ffi:(fi != fi)=false:=by simp
 have esk:(sk == sk)=true:=by simp
 have elo:(lo == lo)=true:=by simp
 go_enter Tryz.func112,Tryz.ntmps112
 go_wp2_with fail
 refine (lawEqInsS _ _ code _ (insR.slice.mono _ _ _ _ (HB0.out _ _) H1.out) (insR.slice.mono _ _ _ _ (HB0.out _ _) H3.out)).mono ?_
 rintro e w1 ⟨rfl,hb1⟩
 have HB1:Hid (Below w.heap.size w w1):=(HB0.out _ _).trans (hb1.mono (by simp;omega))
 have x8:w1.cell? ⟨w.heap.size,8,none⟩=some (.slice b hands.length cb):=(hb1.cell (p:=⟨w.heap.size,8,none⟩) (by simp;omega)).trans (by simp [go_sem])
 have y8:w1.cell? ⟨w.heap.size+1,8,none⟩=some (.slice d hands.length cd):=(hb1.cell (p:=⟨w.heap.size+1,8,none⟩) (by simp)).trans (by simp [go_sem])
 clear hb1
 go_wp2_with fail
 refine (lawEqHandlerS _ _ hands _ (handlerR.slice.mono _ _ _ _ HB1.out H2.out) (handlerR.slice.mono _ _ _ _ HB1.out H4.out)).mono ?_
 rintro e w2 ⟨rfl,hb2⟩
 have HB2:Hid (Below w.heap.size w w2):=HB1.out.trans (hb2.mono HB1.out.size)
 clear hb2
 go_wp2
 go_ret
 exact⟨rfl,HB2.out⟩
end Go.Proofs.YtmhgaggpdggbeaaGreatDoor

namespace Go.Proofs.YtmhgaggpdggbeaaGreatDoor
open Go.RowKit
set_option linter.unusedVariables false

theorem slice_open {α:Type} {R:Rep α} (hk:0<R.k) {w:World} {v:Value} {xs:List α} (h:R.slice.In w [v] xs) :
  ∃ a cap,v = .slice a xs.length cap∧xs.length≤cap∧cap≤maxLen∧∀ i (h:i<xs.length),∃ b o,a=some ⟨b,o,none⟩∧R.At w ⟨b,o,none⟩ i xs[i]:=by
 obtain ⟨a,cap,e,h1,h2,h3⟩:=h
 cases e
 refine ⟨a,cap,rfl,h1,h2,fun i hi=>?_⟩
 obtain ⟨x,rfl,hx⟩:=h3 i hi
 obtain ⟨x0,e0,h0⟩:=h3 0 (by omega)
 cases e0
 obtain ⟨b,o,rfl⟩:=h0.plain hk
 exact⟨b,o,rfl,hx⟩

theorem insAt {w:World} {b o i:Nat} {d:InsD} (h:insR.At w ⟨b,o,none⟩ i d) :
  w.cell? ⟨b,o+i * 5,none⟩=some (.int .i64 d.1)∧w.cell? ⟨b,o+i * 5+1,none⟩=some (.int .i64 d.2.1)∧w.cell? ⟨b,o+i * 5+2,none⟩=some (.string d.2.2.1)∧w.cell? ⟨b,o+i * 5+3,none⟩=some (.string d.2.2.2.1)∧w.cell? ⟨b,o+i * 5+4,none⟩=some (.string d.2.2.2.2) ∧
  (-9223372036854775808≤d.1∧d.1≤9223372036854775807)∧(-9223372036854775808≤d.2.1∧d.2.1≤9223372036854775807)∧d.2.2.1.size≤maxLen∧d.2.2.2.1.size≤maxLen∧d.2.2.2.2.size≤maxLen:=by
 obtain ⟨cs,hc,hin⟩:=h
 obtain ⟨_,_,rfl,⟨rfl,q0⟩,⟨_,_,rfl,⟨rfl,q1⟩,⟨_,_,rfl,⟨rfl,s2⟩,⟨_,_,rfl,⟨rfl,s3⟩,⟨rfl,s4⟩⟩⟩⟩⟩:=hin
 have hk:insR.k=5:=rfl
 rw [hk] at hc
 have g0:=hc 0 (by omega)
 have g1:=hc 1 (by omega)
 have g2:=hc 2 (by omega)
 have g3:=hc 3 (by omega)
 have g4:=hc 4 (by omega)
 simp only [List.cons_append,List.nil_append,List.getElem?_cons_zero,List.getElem?_cons_succ,plain_add,← Nat.add_assoc,Nat.add_zero] at g0 g1 g2 g3 g4
 exact⟨g0,g1,g2,g3,g4,i64w q0,i64w q1,s2,s3,s4⟩

theorem handlerAt {w:World} {b o i:Nat} {d:HandlerD} (h:handlerR.At w ⟨b,o,none⟩ i d) :
  w.cell? ⟨b,o+i * 4,none⟩=some (.int .i64 d.1)∧w.cell? ⟨b,o+i * 4+1,none⟩=some (.int .i64 d.2.1)∧w.cell? ⟨b,o+i * 4+2,none⟩=some (.int .i64 d.2.2.1)∧w.cell? ⟨b,o+i * 4+3,none⟩=some (.string d.2.2.2)∧d.2.2.2.size≤maxLen:=by
 obtain ⟨cs,hc,hin⟩:=h
 obtain ⟨_,_,rfl,⟨rfl,q0⟩,⟨_,_,rfl,⟨rfl,q1⟩,⟨_,_,rfl,⟨rfl,q2⟩,⟨rfl,s3⟩⟩⟩⟩:=hin
 have hk:handlerR.k=4:=rfl
 rw [hk] at hc
 have g0:=hc 0 (by omega)
 have g1:=hc 1 (by omega)
 have g2:=hc 2 (by omega)
 have g3:=hc 3 (by omega)
 simp only [List.cons_append,List.nil_append,List.getElem?_cons_zero,List.getElem?_cons_succ,plain_add,← Nat.add_assoc,Nat.add_zero] at g0 g1 g2 g3
 exact⟨g0,g1,g2,g3,s3⟩

theorem fieldAt {w:World} {b o i:Nat} {d:FieldD} (h:fieldR.At w ⟨b,o,none⟩ i d) :
  w.cell? ⟨b,o+i * 3,none⟩=some (.string d.1)∧w.cell? ⟨b,o+i * 3+1,none⟩=some (.string d.2.1)∧w.cell? ⟨b,o+i * 3+2,none⟩=some (.bool d.2.2)∧d.1.size≤maxLen∧d.2.1.size≤maxLen:=by
 obtain ⟨cs,hc,hin⟩:=h
 obtain ⟨_,_,rfl,⟨rfl,s0⟩,⟨_,_,rfl,⟨rfl,s1⟩,h2⟩⟩:=hin
 have h2':_=_:=h2
 subst h2'
 have hk:fieldR.k=3:=rfl
 rw [hk] at hc
 have g0:=hc 0 (by omega)
 have g1:=hc 1 (by omega)
 have g2:=hc 2 (by omega)
 simp only [List.cons_append,List.nil_append,List.getElem?_cons_zero,List.getElem?_cons_succ,plain_add,← Nat.add_assoc,Nat.add_zero] at g0 g1 g2
 exact⟨g0,g1,g2,s0,s1⟩
end Go.Proofs.YtmhgaggpdggbeaaGreatDoor

namespace Go.Proofs.YtmhgaggpdggbeaaGreatDoor
open Go.RowKit
set_option linter.unusedVariables false

def methR:Rep (ByteArray × ByteArray × Bool × Bool × Bool × Int × Int × List InsD × List HandlerD) :=
 Rep.str.pair (Rep.str.pair (Rep.bool.pair (Rep.bool.pair (Rep.bool.pair (Rep.int.pair (Rep.int.pair (insR.slice.pair handlerR.slice)))))))
abbrev MTup:=ByteArray × ByteArray × Bool × Bool × Bool × Int × Int × List InsD × List HandlerD
def mD (x:MTup):MethD:=⟨x.1,x.2.1,x.2.2.1,x.2.2.2.1,x.2.2.2.2.1,x.2.2.2.2.2.1,x.2.2.2.2.2.2.1,x.2.2.2.2.2.2.2.1,x.2.2.2.2.2.2.2.2⟩

theorem methR_in {w:World} {cs:List Value} {x:MTup} (h:methR.In w cs x) :
  ∃ vc vh,cs=[.string (mD x).name,.string (mD x).desc,.bool (mD x).static,.bool (mD x).abs,.bool (mD x).fin,.int .i64 (mD x).stack,.int .i64 (mD x).locals,vc,vh]∧(mD x).name.size≤maxLen∧(mD x).desc.size≤maxLen ∧
   (Lit.int .i64 (mD x).stack).wf=true∧(Lit.int .i64 (mD x).locals).wf=true∧insR.slice.In w [vc] (mD x).code∧handlerR.slice.In w [vh] (mD x).hands:=by
 obtain ⟨x0,x1,x2,x3,x4,x5,x6,x7,x8⟩:=x
 obtain ⟨_,_,rfl,⟨rfl,s0⟩,⟨_,_,rfl,⟨rfl,s1⟩,⟨_,_,rfl,h2,⟨_,_,rfl,h3,⟨_,_,rfl,h4,⟨_,_,rfl,⟨rfl,q5⟩,⟨_,_,rfl,⟨rfl,q6⟩,⟨c7,c8,rfl,h7,h8⟩⟩⟩⟩⟩⟩⟩⟩:=h
 have e7:∃ v,c7=[v]:=by obtain ⟨a,cap,e,_⟩:=h7;exact⟨_,e⟩
 have e8:∃ v,c8=[v]:=by obtain ⟨a,cap,e,_⟩:=h8;exact⟨_,e⟩
 obtain ⟨vc,rfl⟩:=e7
 obtain ⟨vh,rfl⟩:=e8
 have h2':_=_:=h2
 have h3':_=_:=h3
 have h4':_=_:=h4
 subst h2' h3' h4'
 exact⟨vc,vh,rfl,s0,s1,q5,q6,h7,h8⟩

section
variable {H:Type} {enc:TypeId × Value→H} {base:Nat} {spare:Nat→Bool} {held:Bool}
theorem opensMethod:Opens Tryz.prog enc base spare held methR 138 :=
 opens_struct9 (R0:=Rep.str) (R1:=Rep.str) (R2:=Rep.bool) (R3:=Rep.bool) (R4:=Rep.bool) (R5:=Rep.int) (R6:=Rep.int) (R7:=insR.slice) (R8:=handlerR.slice) Tryz.underlying138 ⟨rfl,rfl,rfl,rfl,rfl,rfl,rfl,rfl,rfl⟩
  ⟨by kernel_rfl,by kernel_rfl,by kernel_rfl,by kernel_rfl,by kernel_rfl,by kernel_rfl,by kernel_rfl,by kernel_rfl,by kernel_rfl⟩ (by kernel_rfl)
  (opens_str Tryz.underlying9) (opens_str Tryz.underlying9) (opens_bool Tryz.underlying4) (opens_bool Tryz.underlying4) (opens_bool Tryz.underlying4) (opens_int Tryz.underlying2) (opens_int Tryz.underlying2)
  (opens_slice Tryz.underlying135 (by kernel_rfl) opensIns) (opens_slice Tryz.underlying136 (by kernel_rfl) opensHandler)
end

theorem szB_le {b:Nat} {left:Int} (h:¬ szB b left<0):(b:Int)≤left:=by
 unfold szB at h
 split at h<;>omega
end Go.Proofs.YtmhgaggpdggbeaaGreatDoor
