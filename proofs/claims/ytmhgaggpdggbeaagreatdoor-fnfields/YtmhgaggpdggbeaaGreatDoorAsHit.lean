import Derived.Test.YtmhgaggpdggbeaaGreatDoorRows
import Derived.WalkKit
import Derived.LaidEql
import Derived.Stop.Asserts
import Derived.RowKitTokens
import Derived.Below
namespace Go.Proofs.YtmhgaggpdggbeaaGreatDoor
open Go.RowKit Go.Extern.Stop Go.Stop Go.Extern

theorem as_nil (t:Value) (w:World) :
  Calls Tryz.prog 152 #[.nilIface,t] w fun e w'=>e = .returned (.bool false)∧w'=w:=by
 go_enter Tryz.func152,Tryz.ntmps152
 go_wp2
 go_ret
 exact⟨rfl,rfl⟩

theorem asValueOfP (t:Addr) (w:World):(ReflectliteValue.unpack (.iface 191 (.pointer (some t)))).run Tryz.prog w
  = .ok (.agg #[.pointer (some ⟨2,191,none⟩),.pointer (some ⟨w.heap.size,0,none⟩),.int .u64 150]) (w.alloc (.cells #[.pointer (some t)] 191)):=by kernel_rfl
theorem asTypeP (a : Addr) (w : World) : (ReflectliteValue.methodAny (ReflectliteValue.valueError "reflectlite.Value.Type" 0) (fun t _ _ _ => ReflectliteType.toType t) #[.agg #[.pointer (some ⟨2, 191, none⟩), .pointer (some a), .int .u64 150]]).run Tryz.prog w
  = .ok (.iface 218 (.agg #[.pointer (some ⟨2,191,none⟩)])) w:=by kernel_rfl
theorem asMethodKind (h : Value) (w : World) : (Go.method 363 218 (.agg #[h]) "Kind").run Tryz.prog w = .ok (194, h) w := by kernel_rfl
theorem asKindP (w:World):((ReflectliteType.abiMethod fun t=>(fun a:Nat=>Value.int IntKind.u8 (a:Int)) <$> Rtype.kind t) #[.pointer (some ⟨2,191,none⟩)]).run Tryz.prog w = .ok (.int .u8 22) w:=by kernel_rfl
theorem asKindE (w:World):((ReflectliteType.abiMethod fun t=>(fun a:Nat=>Value.int IntKind.u8 (a:Int)) <$> Rtype.kind t) #[.pointer (some ⟨2,189,none⟩)]).run Tryz.prog w = .ok (.int .u8 25) w:=by kernel_rfl
theorem asMethod (z:Sem Value) (f:TypeId→Addr→Nat→Nat→Sem Value) (v:Value) :
  ReflectliteValue.method z f #[v]=(ReflectliteValue.parts v >>= fun r=>match r with | none=>z | some (t,a,fl)=>f t a fl (fl % 32)):=rfl
theorem asPartsP (a:Addr) (w:World):(ReflectliteValue.parts (.agg #[.pointer (some ⟨2,191,none⟩),.pointer (some a),.int .u64 150])).run Tryz.prog w = .ok (some (191,a,150)) w:=by kernel_rfl
theorem asIsNilP (a p:Addr) (W:World) (ha:W.cell? a=some (.pointer (some p))) :
  (ReflectliteValue.method (ReflectliteValue.valueError "reflectlite.Value.IsNil" 0) ReflectliteValue.isNil #[.agg #[.pointer (some ⟨2, 191, none⟩), .pointer (some a), .int .u64 150]]).run Tryz.prog W = .ok (.bool false) W := by
 rw [asMethod]
 simp only [Sem.run_bind,asPartsP,Result.andThen]
 simp [ReflectliteValue.isNil,loadVar,isAgg,underlying,Tryz.underlying191,ha,Result.andThen]
theorem asMethodElem (h : Value) (w : World) : (Go.method 363 218 (.agg #[h]) "Elem").run Tryz.prog w = .ok (204, .agg #[h]) w := by kernel_rfl
theorem asMethodImplements (h : Value) (w : World) : (Go.method 363 218 (.agg #[h]) "Implements").run Tryz.prog w = .ok (205, .agg #[h]) w := by kernel_rfl
theorem asMethodAssignableTo (h : Value) (w : World) : (Go.method 363 218 (.agg #[h]) "AssignableTo").run Tryz.prog w = .ok (202, .agg #[h]) w := by kernel_rfl
theorem asElemP (w:World):(ReflectliteType.method ReflectliteType.elem #[.agg #[.pointer (some ⟨2,191,none⟩)]]).run Tryz.prog w = .ok (.iface 218 (.agg #[.pointer (some ⟨2,189,none⟩)])) w:=by kernel_rfl
theorem asImplementsE (w : World) : (ReflectliteType.relation "Implements" ReflectliteType.implements_ #[.agg #[.pointer (some ⟨2, 189, none⟩)], .iface 218 (.agg #[.pointer (some ⟨2, 185, none⟩)])]).run Tryz.prog w = .ok (.bool true) w := by kernel_rfl
theorem asTypeOfE (v:Value) (w:World):(ReflectliteType.typeOf #[.iface 189 v]).run Tryz.prog w = .ok (.iface 218 (.agg #[.pointer (some ⟨2,189,none⟩)])) w:=by kernel_rfl
theorem asAssignableE (w : World) : (ReflectliteType.relation "AssignableTo" ReflectliteType.assignableTo #[.agg #[.pointer (some ⟨2, 189, none⟩)], .iface 218 (.agg #[.pointer (some ⟨2, 189, none⟩)])]).run Tryz.prog w = .ok (.bool true) w := by kernel_rfl
theorem asValueOfE (k:Int) (w:World):(ReflectliteValue.unpack (.iface 189 (.agg #[.int .i64 k]))).run Tryz.prog w
  = .ok (.agg #[.pointer (some ⟨2,189,none⟩),.pointer (some ⟨w.heap.size,0,none⟩),.int .u64 153]) (w.alloc (.cells #[.int .i64 k] 189)):=by kernel_rfl
theorem asElemOfP (w:World):(Rtype.elem? 191).run Tryz.prog w = .ok (some 189) w:=by kernel_rfl
theorem asMkE (p:Addr) (w:World):(ReflectliteValue.mk 189 p ReflectliteValue.flagAddr).run Tryz.prog w = .ok (.agg #[.pointer (some ⟨2,189,none⟩),.pointer (some p),.int .u64 409]) w:=by kernel_rfl
theorem asElemV (a p:Addr) (W:World) (ha:W.cell? a=some (.pointer (some p))) :
  (ReflectliteValue.method (ReflectliteValue.valueError "reflectlite.Value.Elem" 0) ReflectliteValue.elem #[.agg #[.pointer (some ⟨2, 191, none⟩), .pointer (some a), .int .u64 150]]).run Tryz.prog W
   = .ok (.agg #[.pointer (some ⟨2,189,none⟩),.pointer (some p),.int .u64 409]) W:=by
 rw [asMethod]
 simp only [Sem.run_bind,asPartsP,Result.andThen]
 simp [ReflectliteValue.elem,loadVar,isAgg,underlying,Tryz.underlying191,ha,Result.andThen,asElemOfP,asMkE]
theorem asPartsEa (a:Addr) (w:World):(ReflectliteValue.parts (.agg #[.pointer (some ⟨2,189,none⟩),.pointer (some a),.int .u64 409])).run Tryz.prog w = .ok (some (189,a,409)) w:=by kernel_rfl
theorem asPartsE (a:Addr) (w:World):(ReflectliteValue.parts (.agg #[.pointer (some ⟨2,189,none⟩),.pointer (some a),.int .u64 153])).run Tryz.prog w = .ok (some (189,a,153)) w:=by kernel_rfl
theorem asDirectE (w:World):(Rtype.directlyAssignable 189 189).run Tryz.prog w = .ok true w:=by kernel_rfl
end Go.Proofs.YtmhgaggpdggbeaaGreatDoor

namespace Go.Proofs.YtmhgaggpdggbeaaGreatDoor
open Go.RowKit Go.Extern.Stop Go.Stop Go.Extern
set_option linter.unusedSimpArgs false

theorem asSetE (tb bb:Nat) (k:Int) (old:Value) (W:World) (hb:W.cell? ⟨bb,0,none⟩=some (.int .i64 k)) (ht:W.cell? ⟨tb,0,none⟩=some old) (hf:W.frozen? ⟨tb,0,none⟩=false) :
  (ReflectliteValue.set #[.agg #[.pointer (some ⟨2,189,none⟩),.pointer (some ⟨tb,0,none⟩),.int .u64 409],.agg #[.pointer (some ⟨2,189,none⟩),.pointer (some ⟨bb,0,none⟩),.int .u64 153]]).run Tryz.prog W
   = .ok (.tuple #[]) (W.setCell ⟨tb,0,none⟩ (.int .i64 k)):=by
 change Sem.run Tryz.prog (ReflectliteValue.parts _ >>= _) W=_
 simp only [Array.getLit]
 simp only [List.getElem_toArray,List.getElem_cons_zero,List.getElem_cons_succ,Sem.run_bind,asPartsEa,asPartsE,Result.andThen]
 simp [ReflectliteValue.flagAddr,loadVar,isAgg,underlying,Tryz.underlying189,hb,Result.andThen,asDirectE,storeVar,Value.cells,storeCells,Addr.add]
 have hl:Sem.run Tryz.prog (loadCells ⟨bb,0,none⟩ 1) W = .ok #[.int .i64 k] W:=by
  have h:=run_loadCells_list (P:=Tryz.prog) (w:=W) ⟨bb,0,none⟩ [.int .i64 k] (by
   intro j v hv
   rcases j with _ | j
   ·simp at hv;subst hv;exact hb
   ·simp at hv)
  exact h
 rw [hl]
 simp [storeCells,Result.andThen,Addr.add]
 rw [run_store Tryz.prog W ⟨tb,0,none⟩ _ _ (by rfl)]
 simp [ht,hf]

def asW (w:World) (tb:Nat) (k:Int):World :=
 ((((w.alloc (.cells #[.pointer (some ⟨tb,0,none⟩)] 191)).alloc (.cells #[.pointer (some ⟨2,191,none⟩),.pointer (some ⟨w.heap.size,0,none⟩),.int .u64 150] 207)).alloc (.cells #[.pointer (some ⟨2,191,none⟩),.pointer (some ⟨w.heap.size,0,none⟩),.int .u64 150] 207)).alloc (.cells #[.int .i64 k] 189)).setCell ⟨tb,0,none⟩ (.int .i64 k)

set_option maxHeartbeats 4000000 in
theorem as_hit (tb:Nat) (k:Int) (old:Value) (w:World) (hg:w.cell? ⟨0,0,none⟩=some (.iface 218 (.agg #[.pointer (some ⟨2,185,none⟩)]))) (ht0:w.cell? ⟨tb,0,none⟩=some old) (hf0:w.frozen? ⟨tb,0,none⟩=false) :
  Calls Tryz.prog 152 #[.iface 189 (.agg #[.int .i64 k]),.iface 191 (.pointer (some ⟨tb,0,none⟩))] w fun ev w'=>ev = .returned (.bool true)∧w'=asW w tb k:=by
 unfold asW
 have h1:=@run_callFunc_extern Tryz.prog 166 _ (fun args=>ReflectliteValue.unpack (args.getD 0 (.tuple #[]))) Tryz.func166 (by kernel_rfl) (by kernel_rfl) (by kernel_rfl) (by kernel_rfl)
 have h2 := @run_callFunc_extern Tryz.prog 167 _ (ReflectliteValue.methodAny (ReflectliteValue.valueError "reflectlite.Value.Type" 0) (fun t _ _ _ => ReflectliteType.toType t)) Tryz.func167 (by kernel_rfl) (by kernel_rfl) (by kernel_rfl) (by kernel_rfl)
 have h3 := @run_callFunc_extern Tryz.prog 168 _ (ReflectliteValue.method (ReflectliteValue.valueError "reflectlite.Value.IsNil" 0) ReflectliteValue.isNil) Tryz.func168 (by kernel_rfl) (by kernel_rfl) (by kernel_rfl) (by kernel_rfl)
 have h4:=@run_callFunc_extern Tryz.prog 194 _ (ReflectliteType.abiMethod fun t=>do pure (.int .u8 (← Rtype.kind t))) Tryz.func194 (by kernel_rfl) (by kernel_rfl) (by kernel_rfl) (by kernel_rfl)
 have h5:=@run_callFunc_extern Tryz.prog 204 _ (ReflectliteType.method ReflectliteType.elem) Tryz.func204 (by kernel_rfl) (by kernel_rfl) (by kernel_rfl) (by kernel_rfl)
 have h6 := @run_callFunc_extern Tryz.prog 205 _ (ReflectliteType.relation "Implements" ReflectliteType.implements_) Tryz.func205 (by kernel_rfl) (by kernel_rfl) (by kernel_rfl) (by kernel_rfl)
 have h7:=@run_callFunc_extern Tryz.prog 174 _ ReflectliteType.typeOf Tryz.func174 (by kernel_rfl) (by kernel_rfl) (by kernel_rfl) (by kernel_rfl)
 have h8 := @run_callFunc_extern Tryz.prog 202 _ (ReflectliteType.relation "AssignableTo" ReflectliteType.assignableTo) Tryz.func202 (by kernel_rfl) (by kernel_rfl) (by kernel_rfl) (by kernel_rfl)
 have h9 := @run_callFunc_extern Tryz.prog 175 _ (ReflectliteValue.method (ReflectliteValue.valueError "reflectlite.Value.Elem" 0) ReflectliteValue.elem) Tryz.func175 (by kernel_rfl) (by kernel_rfl) (by kernel_rfl) (by kernel_rfl)
 have h10:=@run_callFunc_extern Tryz.prog 176 _ ReflectliteValue.set Tryz.func176 (by kernel_rfl) (by kernel_rfl) (by kernel_rfl) (by kernel_rfl)
 have x1:=asTypeOfE
 have x2:=asMethodAssignableTo
 have x3:=asAssignableE
 have x4:=asValueOfE
 have x5:=asValueOfP
 have x6:=asTypeP
 have x7:=asMethodKind
 have x8:=asMethodElem
 have x9:=asMethodImplements
 have x10:=asKindP
 have x11:=asKindE
 have x12:=asElemP
 have x13:=asImplementsE
 have n8:=asIsNilP ⟨w.heap.size,0,none⟩ ⟨tb,0,none⟩ ((w.alloc (.cells #[.pointer (some ⟨tb,0,none⟩)] 191)).alloc (.cells #[.pointer (some ⟨2,191,none⟩),.pointer (some ⟨w.heap.size,0,none⟩),.int .u64 150] 207)) (by simp)
 have hlt:0 < w.heap.size:=World.block_lt_of_cell? _ _ hg
 have hg2:((w.alloc (.cells #[.pointer (some ⟨tb,0,none⟩)] 191)).alloc (.cells #[.pointer (some ⟨2,191,none⟩),.pointer (some ⟨w.heap.size,0,none⟩),.int .u64 150] 207)).cell? ⟨0,0,none⟩=some (.iface 218 (.agg #[.pointer (some ⟨2,185,none⟩)])):=by
  rw [World.cell?_alloc_lt _ _ ⟨0,0,none⟩ (by first | (simp;done) | (simp;omega)),World.cell?_alloc_lt _ _ ⟨0,0,none⟩ hlt];exact hg
 have htl:tb<w.heap.size:=World.block_lt_of_cell? _ ⟨tb,0,none⟩ ht0
 have el:=asElemV ⟨w.heap.size,0,none⟩ ⟨tb,0,none⟩ (((w.alloc (.cells #[.pointer (some ⟨tb,0,none⟩)] 191)).alloc (.cells #[.pointer (some ⟨2,191,none⟩),.pointer (some ⟨w.heap.size,0,none⟩),.int .u64 150] 207)).alloc (.cells #[.pointer (some ⟨2,191,none⟩),.pointer (some ⟨w.heap.size,0,none⟩),.int .u64 150] 207)) (by rw [World.cell?_alloc_lt _ _ ⟨w.heap.size,0,none⟩ (by simp;omega)];simp)
 have st:=asSetE tb (w.heap.size+1+1+1) k old ((((w.alloc (.cells #[.pointer (some ⟨tb,0,none⟩)] 191)).alloc (.cells #[.pointer (some ⟨2,191,none⟩),.pointer (some ⟨w.heap.size,0,none⟩),.int .u64 150] 207)).alloc (.cells #[.pointer (some ⟨2,191,none⟩),.pointer (some ⟨w.heap.size,0,none⟩),.int .u64 150] 207)).alloc (.cells #[.int .i64 k] 189))
  (by rw [World.cell?_alloc_at _ _ _ _ (by simp)];rfl)
  (by rw [World.cell?_alloc_lt _ _ ⟨tb,0,none⟩ (by simp;omega),World.cell?_alloc_lt _ _ ⟨tb,0,none⟩ (by simp;omega),World.cell?_alloc_lt _ _ ⟨tb,0,none⟩ (by simp;omega),World.cell?_alloc_lt _ _ ⟨tb,0,none⟩ htl];exact ht0)
  (by rw [World.frozen?_alloc_old _ _ ⟨tb,0,none⟩ (by simp;omega),World.frozen?_alloc_old _ _ ⟨tb,0,none⟩ (by simp;omega),World.frozen?_alloc_old _ _ ⟨tb,0,none⟩ (by simp;omega),World.frozen?_alloc_old _ _ ⟨tb,0,none⟩ (Nat.ne_of_lt htl)];exact hf0)
 go_enter Tryz.func152,Tryz.ntmps152
 go_wp2
 refine wp_loop_rounds 1 ?_
 rw [rounds_succ]
 go_wp2
 go_ret
 exact⟨rfl,rfl⟩
end Go.Proofs.YtmhgaggpdggbeaaGreatDoor
