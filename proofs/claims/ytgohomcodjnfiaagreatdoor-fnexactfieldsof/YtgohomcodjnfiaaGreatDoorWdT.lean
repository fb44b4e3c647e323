import Derived.Test.YtgohomcodjnfiaaGreatDoorWd4
import Derived.Test.YtgohomcodjnfiaaGreatDoorWd5
namespace Go.Proofs.YtgohomcodjnfiaaGreatDoor
open Go.RowKit
set_option maxRecDepth 20000
set_option linter.unusedVariables false
theorem specWorldCheck (L:List CTup) (v:Value) (w:World) (h:classR.slice.In w [v] L) :
  Calls Tryz.prog 33 #[v] w fun e w'=>e = .returned (.agg #[.int .i64 (wOut L).1,.int .i64 (wOut L).2])∧Below w.heap.size w w' :=
 specWorldCheckIf L v w h fun hp c vc vh w' hc hb h3 h4=>specAccess L v c vc vh w' hp hc (classR.slice.mono _ _ _ _ hb h) h3 h4
end Go.Proofs.YtgohomcodjnfiaaGreatDoor

namespace Go.Proofs.YtgohomcodjnfiaaGreatDoor
open Go.RowKit
set_option linter.unusedVariables false

noncomputable def rtB (L:List CTup):Bool:=decide ((wOut L).2=0)
theorem rt_right {L:List CTup} (h:rtB L=true):Right L:=by
 unfold rtB at h
 simp only [decide_eq_true_eq] at h
 rcases right_code L with ⟨k,_⟩ | ⟨_,k⟩
 ·exact k
 ·exact absurd h k
theorem nameB_le' {n:ByteArray} (h:nameB n=true):n.size≤20:=by
 unfold nameB at h
 simp only [decide_eq_true_eq] at h
 omega
theorem Right.part {L:List CTup} (h:Right L):Part L L.length:=h.2.part (by omega)
theorem Right.acy {L:List CTup} (h:Right L):AcyG nmC suC (allC L):=Past.acy fun q hq=>h.2 q (by omega)
theorem kn_size {L:List CTup} (h:Right L) {n:ByteArray} (hk:knB L n=true):n.size≤20∧n ≠ tE:=by
 unfold knB at hk
 rw [Option.isSome_iff_exists] at hk
 obtain ⟨c,hc⟩:=hk
 obtain ⟨h1,rfl⟩:=lkG_some hc
 rcases List.mem_append.1 h1 with k | k
 ·have:∀ b ∈ biC,(nmC b).size≤20∧nmC b ≠ tE:=by decide
  exact this c k
 ·obtain ⟨i,hi,rfl⟩:=List.mem_iff_getElem.1 k
  exact⟨nameB_le' (h.part.ok i hi hi).n,nameB_ne (h.part.ok i hi hi).n⟩
theorem su_known {L:List CTup} (h:Right L) {c:CTup} (hc:c ∈ allC L):suC c=tE ∨ knB L (suC c)=true:=by
 rcases List.mem_append.1 hc with k | k
 ·have hb:∀ b ∈ biC,suC b=tE ∨ (lkG nmC biC (suC b)).isSome=true:=by decide
  rcases hb c k with q | q
  ·exact .inl q
  ·right
   unfold knB
   rw [lk_all]
   cases e:lkG nmC biC (suC c) with
   | none=>rw [e] at q;cases q
   | some d=>rfl
 ·obtain ⟨i,hi,rfl⟩:=List.mem_iff_getElem.1 k
  right
  have:=h.2 1 (by omega) i hi
  rw [cdP1 hi] at this
  unfold cd1 at this
  unfold knB
  cases e:lkG nmC (allC L) (suC L[i]) with
  | none=>rw [e] at this;cases this
  | some d=>rfl
def sbC (L:List CTup) (a b:ByteArray):Bool:=(CH nmC suC (allC L) a).any fun c=>decide (nmC c=b)
def comL (L:List CTup) (b:ByteArray):List CTup→ByteArray
 | []=>tE
 | c :: t=>if sbC L b (nmC c) then nmC c else comL L b t
theorem kn_alt (L:List CTup) (n:ByteArray):(knB L n=false∧lkG nmC (allC L) n=none∧spS L n=tE∧CH nmC suC (allC L) n=[]) ∨ ∃ c,knB L n=true∧c ∈ allC L∧nmC c=n∧lkG nmC (allC L) n=some c∧spS L n=suC c:=by
 unfold knB spS
 cases e:lkG nmC (allC L) n with
 | none=>exact .inl ⟨rfl,rfl,rfl,CH_none e⟩
 | some c=>exact .inr ⟨c,rfl,(lkG_some e).1,(lkG_some e).2,rfl,rfl⟩
theorem sb_kn {L:List CTup} {a b:ByteArray} (h:sbC L a b=true):knB L a=true∧knB L b=true:=by
 unfold sbC at h
 obtain ⟨c,hc,e⟩:=List.any_eq_true.1 h
 simp only [decide_eq_true_eq] at e
 constructor
 ·rcases kn_alt L a with ⟨_,_,_,k⟩ | ⟨_,k,_⟩
  ·rw [k] at hc;cases hc
  ·exact k
 ·rcases kn_alt L b with ⟨_,k,_⟩ | ⟨_,k,_⟩
  ·exact absurd e (lkG_none.1 k c (CH_sub c hc))
  ·exact k
theorem com_none {L:List CTup} {b:ByteArray} (hb:knB L b=false) (W:List CTup):comL L b W=tE:=by
 induction W with
 | nil=>rfl
 | cons c t ih =>
  unfold comL
  cases e:sbC L b (nmC c) with
  | true=>rw [(sb_kn e).1] at hb;cases hb
  | false=>exact ih
noncomputable def knV (L:List CTup) (n:ByteArray):Bool:=rtB L && knB L n
noncomputable def spV (L:List CTup) (n:ByteArray):ByteArray:=if rtB L then spS L n else tE
noncomputable def isV (L:List CTup) (a b:ByteArray):Bool:=rtB L && sbC L a b
noncomputable def cmV (L:List CTup) (a b:ByteArray):ByteArray:=if rtB L then comL L b (CH nmC suC (allC L) a) else tE
theorem fieldWO1 (a b:Value) (w:World):(Instr.field 52 (.agg #[a,b]) 1).run Tryz.prog w = .ok b w:=by kernel_rfl
set_option maxRecDepth 100000 in
set_option maxHeartbeats 1000000 in
theorem specRight (L:List CTup) (v:Value) (w:World) (h:classR.slice.In w [v] L) :
  Calls Tryz.prog 18 #[v] w fun e w'=>e = .returned (.bool (rtB L))∧Below w.heap.size w w':=by
 have HC:Hid (Calls Tryz.prog 33 #[v] w fun e w'=>e = .returned (.agg #[.int .i64 (wOut L).1,.int .i64 (wOut L).2])∧Below w.heap.size w w'):=specWorldCheck L v w h
 obtain ⟨a,cap,rfl,_⟩:=slice_open (by decide) h
 unfold rtB
 have f1:=fieldWO1
 generalize (wOut L).1=o1 at *
 generalize (wOut L).2=o2 at *
 clear h
 by_cases e:o2=0
 ·subst e
  go_enter Tryz.func18,Tryz.ntmps18
  go_wp2_with fail
  refine Calls.mono HC.out ?_
  rintro e w1 ⟨rfl,hb1⟩
  go_wp2
  go_ret
  exact⟨rfl,hb1⟩
 ·have d:(o2 == 0)=false:=by simpa using e
  have d2:decide (o2=0)=false:=by simpa using e
  rw [d2]
  go_enter Tryz.func18,Tryz.ntmps18
  go_wp2_with fail
  refine Calls.mono HC.out ?_
  rintro e w1 ⟨rfl,hb1⟩
  go_wp2
  go_ret
  exact⟨rfl,hb1⟩
end Go.Proofs.YtgohomcodjnfiaaGreatDoor

namespace Go.Proofs.YtgohomcodjnfiaaGreatDoor
open Go.RowKit
set_option linter.unusedVariables false

theorem kn_long {L:List CTup} {n:ByteArray} (h:20000<n.size) (hr:rtB L=true):knB L n=false:=by
 cases e:knB L n with
 | false=>rfl
 | true=>have:=(kn_size (rt_right hr) e).1;omega
theorem sp_long {L:List CTup} {n:ByteArray} (h:knB L n=false):spS L n=tE:=by
 rcases kn_alt L n with ⟨_,_,k,_⟩ | ⟨c,k,_⟩
 ·exact k
 ·rw [h] at k;cases k
theorem sb_long {L:List CTup} {a b:ByteArray} (h:knB L a=false ∨ knB L b=false):sbC L a b=false:=by
 cases e:sbC L a b with
 | false=>rfl
 | true =>
  obtain ⟨k1,k2⟩:=sb_kn e
  rcases h with h | h
  ·rw [h] at k1;cases k1
  ·rw [h] at k2;cases k2
theorem CH_unknown {L:List CTup} {a:ByteArray} (h:knB L a=false):CH nmC suC (allC L) a=[]:=by
 rcases kn_alt L a with ⟨_,_,_,k⟩ | ⟨c,k,_⟩
 ·exact k
 ·rw [h] at k;cases k
end Go.Proofs.YtgohomcodjnfiaaGreatDoor
