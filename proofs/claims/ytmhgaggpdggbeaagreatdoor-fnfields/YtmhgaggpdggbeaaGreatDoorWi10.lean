import Derived.Test.YtmhgaggpdggbeaaGreatDoorWd2
import Derived.Test.YtmhgaggpdggbeaaGreatDoorMapU
import Derived.WalkMore
import Derived.Test.YtmhgaggpdggbeaaGreatDoorSplit
import Derived.Laws.AppendOwnNone
namespace Go.Proofs.YtmhgaggpdggbeaaGreatDoor
open Go.RowKit
set_option maxRecDepth 20000
open Go.WideMaps (KeyLaw)
set_option linter.unusedVariables false

structure WE where
 c:CTup
 fa:Option Addr
 fc:Nat
 ma:Option Addr
 mc:Nat
 rm:Nat
abbrev WE.vc (x:WE):Value:=.slice x.fa (fsC x.c).length x.fc
abbrev WE.vh (x:WE):Value:=.slice x.ma (msC x.c).length x.mc
def weV (x:WE):Value:=.agg #[.string (nmC x.c),.string (suC x.c),.bool (fiC x.c),.bool (abC x.c),x.vc,x.vh,.map (some x.rm)]
def weC (x:WE):List Value:=[.string (nmC x.c),.string (suC x.c),.bool (fiC x.c),.bool (abC x.c),x.vc,x.vh,.map (some x.rm)]
abbrev nmE (x:WE):ByteArray:=nmC x.c
abbrev suE (x:WE):ByteArray:=suC x.c

abbrev KeyD:=ByteArray × ByteArray × Int
def isBi (n:ByteArray):Bool:=biN.any fun b=>decide (b=n)
def mKey1 (ms:List MTup) (j:Nat):KeyD:=match ms[j]? with
 | some m=>((mD m).name,(mD m).desc,(j:Int))
 | none=>(tE,tE,0)
def mKeys (c:CTup):List KeyD:=if isBi (nmC c) then [(initN,initD,-1)] else (List.range (msC c).length).map (mKey1 (msC c))
structure MmIs (w:World) (rm:Nat) (ks:List KeyD):Prop where
 ex:∃ es ck,w.heap[rm]?=some (.map es ck)∧es.size=ks.length∧∀ i (h:i<ks.length),∃ e,es[i]?=some e∧e.key = .agg #[.string ks[i].1,.string ks[i].2.1]∧e.val = .int .i64 ks[i].2.2
 sz:∀ k ∈ ks,k.1.size≤maxLen∧k.2.1.size≤maxLen
 nd:∀ i j (hi:i<ks.length) (hj:j<ks.length),i<j→¬ (ks[i].1=ks[j].1∧ks[i].2.1=ks[j].2.1)
structure WEin (w:World) (x:WE):Prop where
 f:fieldR.slice.In w [x.vc] (fsC x.c)
 m:methR.slice.In w [x.vh] (msC x.c)
 n:(nmC x.c).size≤maxLen
 s:(suC x.c).size≤maxLen
 k:MmIs w x.rm (mKeys x.c)
structure WmIs (w:World) (r:Nat) (E:List WE) (es:Array MapEntry) (ck:Nat):Prop where
 hm:w.heap[r]?=some (.map es ck)
 size:es.size=E.length
 at':∀ i (h:i<E.length),∃ e,es[i]?=some e∧e.key = .string (nmE E[i])∧e.val=weV E[i]
 lies:∀ x ∈ E,WEin w x
 nd:(E.map nmE).Nodup
 apart:∀ x ∈ E,x.rm ≠ r

theorem MmIs.below {w w':World} {rm:Nat} {ks:List KeyD} (h:MmIs w rm ks) (hb:Below w.heap.size w w'):MmIs w' rm ks:=by
 obtain ⟨⟨es,ck,h1,h2⟩,h3,h4⟩:=h
 exact⟨⟨es,ck,(hb.block rm (Array.getElem?_eq_some_iff.1 h1).1).trans h1,h2⟩,h3,h4⟩
theorem WEin.below {w w':World} {x:WE} (h:WEin w x) (hb:Below w.heap.size w w'):WEin w' x :=
 ⟨fieldR.slice.mono _ _ _ _ hb h.f,methR.slice.mono _ _ _ _ hb h.m,h.n,h.s,h.k.below hb⟩
theorem WmIs.below {w w':World} {r:Nat} {E:List WE} {es:Array MapEntry} {ck:Nat} (h:WmIs w r E es ck) (hb:Below w.heap.size w w'):WmIs w' r E es ck :=
 ⟨(hb.block r (Array.getElem?_eq_some_iff.1 h.hm).1).trans h.hm,h.size,h.at',fun x hx=>(h.lies x hx).below hb,h.nd,h.apart⟩
theorem WmIs.lt {w:World} {r:Nat} {E:List WE} {es:Array MapEntry} {ck:Nat} (h:WmIs w r E es ck):r<w.heap.size:=(Array.getElem?_eq_some_iff.1 h.hm).1

theorem run_look1 {P:Program} {kt et mty:TypeId} (K:KeyLaw P kt) (hm:P.underlying mty=some (.map kt et)) {w:World} {r:Nat} {es:Array MapEntry} {clock:Nat} (hb:w.heap[r]?=some (.map es clock))
  (hks:∀ e ∈ es.toList,∃ l,keyOf P kt e.key=some l) {x:Value} {l:Lit} (hx:keyOf P kt x=some l) {z:Value} (hz:(zeroValue et).run P w = .ok z w) :
  ((∀ e ∈ es.toList,e.key ≠ x)∧(Instr.lookup mty (.map (some r)) x true).run P w = .ok (.tuple #[z,.bool false]) w∧(Instr.lookup mty (.map (some r)) x false).run P w = .ok z w) ∨
  (∃ (j:Nat) (e:MapEntry),es[j]?=some e∧e.key=x∧(Instr.lookup mty (.map (some r)) x true).run P w = .ok (.tuple #[e.val,.bool true]) w∧(Instr.lookup mty (.map (some r)) x false).run P w = .ok e.val w):=by
 rcases K.find w hx es.toList hks with ⟨h1,h2⟩ | ⟨j,e,h1,h2,h3⟩
 ·exact .inl ⟨h2,by simp [Instr.lookup,run_underlying hm,MapKept.run_getObj_map hb,K.check w _ hx,h1,hz,Result.andThen],by simp [Instr.lookup,run_underlying hm,MapKept.run_getObj_map hb,K.check w _ hx,h1,hz,Result.andThen]⟩
 ·exact .inr ⟨j,e,by simpa using h2,h3,by simp [Instr.lookup,run_underlying hm,MapKept.run_getObj_map hb,K.check w _ hx,h1,Result.andThen],by simp [Instr.lookup,run_underlying hm,MapKept.run_getObj_map hb,K.check w _ hx,h1,Result.andThen]⟩

theorem below_al2 (w:World) (o1 o2:Obj):Below w.heap.size w ((w.alloc o1).alloc o2):=(below_al w o1).alloc (by simp) o2
theorem below_al3 (w:World) (o1 o2 o3:Obj):Below w.heap.size w (((w.alloc o1).alloc o2).alloc o3):=(below_al2 w o1 o2).alloc (by simp;omega) o3

def zWE:Value:=.agg #[.string ⟨#[]⟩,.string ⟨#[]⟩,.bool false,.bool false,.slice none 0 0,.slice none 0 0,.map none]
theorem zeroWE (w:World):(zeroValue 102).run Tryz.prog w = .ok zWE w:=by
 have h:(Tryz.prog.info? 102).map (fun i=>i.zero)=some (some zWE):=by kernel_rfl
 cases hi:Tryz.prog.info? 102 with
 | none=>rw [hi] at h;cases h
 | some i =>
  rw [hi] at h
  have hz:i.zero=some zWE:=by simpa using h
  simp [zeroValue,typeInfo,hi,hz]
theorem WmIs.keys {w:World} {r:Nat} {E:List WE} {es:Array MapEntry} {ck:Nat} (h:WmIs w r E es ck):∀ e ∈ es.toList,∃ l,keyOf Tryz.prog 9 e.key=some l:=fun e he=>by
 rw [Array.mem_toList_iff,Array.mem_iff_getElem?] at he
 obtain ⟨i,hi⟩:=he
 have hl:i<E.length:=by rw [← h.size];exact (Array.getElem?_eq_some_iff.1 hi).1
 obtain ⟨x,h1,h2,_⟩:=h.at' i hl
 rw [hi] at h1
 cases h1
 rw [h2]
 exact⟨_,WideMaps.keyOf_string_mk Tryz.underlying9 (h.lies _ (List.getElem_mem hl)).n⟩
theorem WmIs.look {w:World} {r:Nat} {E:List WE} {es:Array MapEntry} {ck:Nat} (h:WmIs w r E es ck) (n:ByteArray) (hn:n.size≤maxLen) :
  (lkG nmE E n=none∧(Instr.lookup 70 (.map (some r)) (.string n) true).run Tryz.prog w = .ok (.tuple #[zWE,.bool false]) w∧(Instr.lookup 70 (.map (some r)) (.string n) false).run Tryz.prog w = .ok zWE w ∧
   ∀ v,(Instr.mapUpdate 70 (.map (some r)) (.string n) v).run Tryz.prog w = .ok () (mapPut w r (.map (es.push { key:=.string n,val:=v,born:=ck }) (ck+1)))) ∨
  (∃ x ∈ E,nmE x=n∧lkG nmE E n=some x∧(Instr.lookup 70 (.map (some r)) (.string n) true).run Tryz.prog w = .ok (.tuple #[weV x,.bool true]) w∧(Instr.lookup 70 (.map (some r)) (.string n) false).run Tryz.prog w = .ok (weV x) w):=by
 have hx:keyOf Tryz.prog 9 (.string n)=some (.string n.data.toList):=WideMaps.keyOf_string_mk Tryz.underlying9 hn
 rcases run_look1 strLaw Tryz.underlying70 h.hm h.keys hx (zeroWE w) with ⟨hno,hr,hr2⟩ | ⟨j,e,hj,hk,hr,hr2⟩
 ·refine .inl ⟨lkG_none.2 fun x hx2 ex=>?_,hr,hr2,fun v=>?_⟩
  ·obtain ⟨i,hi,rfl⟩:=List.mem_iff_getElem.1 hx2
   obtain ⟨y,h1,h2,_⟩:=h.at' i hi
   refine hno y (MapFrom.at_mem h1) ?_
   rw [h2,ex]
  ·rcases run_upd strLaw Tryz.underlying70 h.hm h.keys hx v with ⟨_,hu⟩ | ⟨j,e,hj,hk,hu⟩
   ·exact hu
   ·exact absurd hk (hno e (MapFrom.at_mem hj))
 ·have hl:j<E.length:=by rw [← h.size];exact (Array.getElem?_eq_some_iff.1 hj).1
  obtain ⟨y,h1,h2,h3⟩:=h.at' j hl
  rw [hj] at h1
  cases h1
  have e1:nmE E[j]=n:=by rw [hk] at h2;exact (Value.string.inj h2).symm
  have e2:lkG nmE E n=some E[j]:=by rw [← e1];exact lkG_mem h.nd (List.getElem_mem hl)
  refine .inr ⟨E[j],List.getElem_mem hl,e1,e2,?_,?_⟩
  ·rw [hr,h3]
  ·rw [hr2,h3]
def wdV (lv:Value) (r:Nat):Value:=.agg #[lv,.map (some r)]
set_option maxRecDepth 100000 in
set_option maxHeartbeats 1000000 in
theorem implKnown (lv:Value) (r:Nat) (E:List WE) (es:Array MapEntry) (ck:Nat) (n:ByteArray) (w:World) (h:WmIs w r E es ck) (hn:n.size≤maxLen) (hl:∃ a k c,lv = .slice a k c) :
  Calls Tryz.prog 71 #[wdV lv r,.string n] w fun e w'=>e = .returned (.bool (lkG nmE E n).isSome)∧Below w.heap.size w w':=by
 obtain ⟨la,lk,lc,rfl⟩:=hl
 have HL:=(show Hid (∀ o,(lkG nmE E n=none∧(Instr.lookup 70 (.map (some r)) (.string n) true).run Tryz.prog (w.alloc o) = .ok (.tuple #[zWE,.bool false]) (w.alloc o)) ∨ (∃ x,lkG nmE E n=some x∧(Instr.lookup 70 (.map (some r)) (.string n) true).run Tryz.prog (w.alloc o) = .ok (.tuple #[weV x,.bool true]) (w.alloc o))) from fun o=>by
  rcases (h.below (below_al w o)).look n hn with ⟨h1,h2,_⟩ | ⟨x,_,_,h1,h2,_⟩
  ·exact .inl ⟨h1,h2⟩
  ·exact .inr ⟨x,h1,h2⟩)
 clear h
 generalize lkG nmE E n=q at *
 unfold wdV
 rcases HL.out (.cells #[.slice la lk lc,.map (some r)] 72) with ⟨rfl,h2⟩ | ⟨x,rfl,h2⟩
 ·clear HL
  unfold zWE at h2
  go_enter Tryz.func71,Tryz.ntmps71
  go_wp2
  go_ret
  exact⟨rfl,below_al2 _ _ _⟩
 ·clear HL
  unfold weV WE.vc WE.vh at h2
  go_enter Tryz.func71,Tryz.ntmps71
  go_wp2
  go_ret
  exact⟨rfl,below_al2 _ _ _⟩
end Go.Proofs.YtmhgaggpdggbeaaGreatDoor

namespace Go.Proofs.YtmhgaggpdggbeaaGreatDoor
open Go.RowKit
set_option linter.unusedVariables false

def lenV:Value→Nat
 | .slice _ n _=>n
 | _=>0
theorem flat7 (xs:List WE) (i k:Nat) (hi:i<xs.length) (hk:k<7):(xs.flatMap weC)[i * 7+k]?=(weC xs[i])[k]?:=by
 induction xs generalizing i with
 | nil=>simp at hi
 | cons a l ih =>
  have hl:(weC a).length=7:=rfl
  rw [List.flatMap_cons]
  cases i with
  | zero=>rw [Nat.zero_mul,Nat.zero_add,List.getElem?_append_left (by omega)];rfl
  | succ i =>
   rw [List.getElem?_append_right (by omega),hl,show (i+1) * 7+k - 7=i * 7+k by omega,ih i (by simpa using hi)]
   rfl
structure WyAt (w:World) (base:Nat) (v:Value) (xs:List WE):Prop where
 own:w.ownsRow base 102 7 v xs.length (xs.flatMap weC)
theorem WyAt.slice {w:World} {base:Nat} {v:Value} {xs:List WE} (h:WyAt w base v xs):∃ a cap,v = .slice a xs.length cap∧cap≤maxLen∧xs.length≤cap∧(∀ i (hi:i<xs.length),∃ g,a=some ⟨g,0,none⟩∧base≤g∧g<w.heap.size ∧
  w.cell? ⟨g,i * 7,none⟩=some (.string (nmC xs[i].c))∧w.cell? ⟨g,i * 7+1,none⟩=some (.string (suC xs[i].c))∧w.cell? ⟨g,i * 7+2,none⟩=some (.bool (fiC xs[i].c))∧w.cell? ⟨g,i * 7+3,none⟩=some (.bool (abC xs[i].c))∧w.cell? ⟨g,i * 7+4,none⟩=some xs[i].vc∧w.cell? ⟨g,i * 7+5,none⟩=some xs[i].vh∧w.cell? ⟨g,i * 7+6,none⟩=some (.map (some xs[i].rm))):=by
 rcases h.own.2 with ⟨e,h0⟩ | ⟨g,cap,cur,e,h2,h3,h4,h5,h6⟩
 ·exact⟨none,0,by rw [e,h0],by simp [maxLen],by omega,fun i hi=>by omega⟩
 ·subst e
  refine ⟨some ⟨g,0,none⟩,cap,rfl,h5,h4,fun i hi=>?_⟩
  have hc:∀ k,k<7→w.cell? ⟨g,i * 7+k,none⟩=(weC xs[i])[k]?:=fun k hk=>by rw [h.own.cellAt (i * 7+k) (by omega),flat7 xs i k hi hk]
  exact⟨g,rfl,h2,(Array.getElem?_eq_some_iff.1 h3).1,by have:=hc 0 (by omega);rw [Nat.add_zero] at this;exact this,hc 1 (by omega),hc 2 (by omega),hc 3 (by omega),hc 4 (by omega),hc 5 (by omega),hc 6 (by omega)⟩
theorem WyAt.base {w:World} {base base':Nat} {v:Value} {xs:List WE} (h:WyAt w base v xs) (hb:base'≤base):WyAt w base' v xs:=by
 refine ⟨h.own.1,?_⟩
 rcases h.own.2 with k | ⟨g,cap,cur,h1,h2,h3⟩
 ·exact .inl k
 ·exact .inr ⟨g,cap,cur,h1,by omega,h3⟩
theorem weNews (w:World) (x:WE) (t:TypeId):∀ j u,(weC x)[j]?=some u→(w.alloc (.cells #[.string (nmC x.c),.string (suC x.c),.bool (fiC x.c),.bool (abC x.c),.slice x.fa (fsC x.c).length x.fc,.slice x.ma (msC x.c).length x.mc,.map (some x.rm)] t)).cell? ((⟨w.heap.size,0,none⟩:Addr).add j)=some u:=by
 intro j u hj
 rw [add_own]
 match j,hj with
 | 0,hj | 1,hj | 2,hj | 3,hj | 4,hj | 5,hj | 6,hj=>cases hj;simp [go_sem]
theorem we_one (x:WE):∀ u ∈ weC x,u.oneCell'=true:=by
 intro u hu
 simp only [weC,List.mem_cons,List.not_mem_nil,or_false] at hu
 rcases hu with rfl | rfl | rfl | rfl | rfl | rfl | rfl<;>rfl
theorem WyAt.below {w w':World} {base:Nat} {v:Value} {xs:List WE} (h:WyAt w base v xs) (hb:Below w.heap.size w w'):WyAt w' base v xs:=by
 refine ⟨h.own.1,?_⟩
 rcases h.own.2 with k | ⟨g,cap,cur,h1,h2,h3,h4⟩
 ·exact .inl k
 ·exact .inr ⟨g,cap,cur,h1,h2,(hb.block g (Array.getElem?_eq_some_iff.1 h3).1).trans h3,h4⟩
def wyG (E:List WE) (n:ByteArray):List WE:=wayG nmE suE E (E.length+1) [] n
theorem infoWE:(Tryz.prog.info? 102).map (fun i=>(i.zero,i.size,i.bytes))=some (some zWE,7,96):=by kernel_rfl
set_option maxRecDepth 100000 in
set_option maxHeartbeats 4000000 in
theorem implWayUp (lv:Value) (r:Nat) (E:List WE) (es:Array MapEntry) (ck:Nat) (n:ByteArray) (w:World) (h:WmIs w r E es ck) (hn:n.size≤maxLen) (hl:∃ a k c,lv = .slice a k c) (hE:E.length≤100) :
  Calls Tryz.prog 83 #[wdV lv r,.string n] w fun e w'=>Below w.heap.size w w'∧∃ v,e = .returned v∧w'.ownsRow w.heap.size 102 7 v (wyG E n).length ((wyG E n).flatMap weC):=by
 have HW:=(show Hid (WmIs w r E es ck) from h)
 have HKn:Hid (∀ w' n,Below w.heap.size w w'→n.size≤maxLen→Calls Tryz.prog 71 #[.agg #[lv,.map (some r)],.string n] w' fun e w2=>e = .returned (.bool (lkG nmE E n).isSome)∧Below w'.heap.size w' w2):=fun w' n hb hn=>implKnown lv r E es ck n w' (h.below hb) hn hl
 obtain ⟨la,lk,lc,rfl⟩:=hl
 have hi:=infoWE
 obtain ⟨i0,hi0,hz0,hz1,hz2⟩:∃ i0,Tryz.prog.info? 102 = some i0∧i0.zero=some zWE∧i0.size=7∧i0.bytes=96:=by
  cases hh:Tryz.prog.info? 102 with
  | none=>rw [hh] at hi;cases hi
  | some i=>rw [hh] at hi;simp at hi;exact⟨i,rfl,hi.1,hi.2.1,hi.2.2⟩
 have HI:Hid (Tryz.prog.info? 102 = some i0∧i0.zero=some zWE∧i0.size=7∧i0.bytes=96):=⟨hi0,hz0,hz1,hz2⟩
 clear h hi hi0 hz0 hz1 hz2
 unfold wdV
 have HF0:Hid (wyG E n=wayG nmE suE E (E.length+1) [] n):=rfl
 generalize wyG E n=res at *
 go_enter Tryz.func83,Tryz.ntmps83
 go_wp2_with fail
 go_step3
 go_wp2_with fail
 go_step3
 go_wp2_with fail
 have x0:(w.alloc (.cells #[.slice la lk lc,.map (some r)] 72)).cell? ⟨w.heap.size,0,none⟩=some (.slice la lk lc):=by simp [go_sem]
 have x1:(w.alloc (.cells #[.slice la lk lc,.map (some r)] 72)).cell? ⟨w.heap.size,1,none⟩=some (.map (some r)):=by simp [go_sem]
 have hz:w.heap.size<(w.alloc (.cells #[.slice la lk lc,.map (some r)] 72)).heap.size:=by simp
 have HBW:Hid (Below w.heap.size w (w.alloc (.cells #[.slice la lk lc,.map (some r)] 72))):=below_al _ _
 generalize w.alloc (.cells #[.slice la lk lc,.map (some r)] 72)=W at *
 go_loopw [1,5] (fun j1 j5 wr=>∃ (f:Nat) (vis:List WE) (n':ByteArray),j1 = .string n'∧n'.size≤maxLen∧WyAt wr W.heap.size j5 vis∧Below W.heap.size W wr∧wayG nmE suE E f vis n'=res∧vis.length+f=E.length+1∧(vis.map nmE).Nodup∧∀ x ∈ vis,x ∈ E) (fun _ j5 _=>E.length+1 - lenV j5)
 case atStart=>exact⟨E.length+1,[],n,rfl,hn,⟨World.ownsRow_nil _ _ _ _⟩,Below.refl _ _,HF0.out.symm,by simp,by simp,by simp⟩
 case round =>
  obtain ⟨f,vis,n',rfl,hn',hown,hb,hway,hlen,hnd,hsub⟩:=hrel
  have hvl:=nodup_sub_len (nm:=nmE) hnd hsub
  obtain ⟨f',rfl⟩:∃ f',f=f'+1:=⟨f - 1,by omega⟩
  obtain ⟨va,vcap,rfl,hcap,hvc,hcell⟩:=hown.slice
  have HBr:Hid (Below w.heap.size w wr):=HBW.out.trans (hb.mono HBW.out.size)
  have HBo:Hid (Below W.heap.size W wr):=hb
  have HOw:=(show Hid (WyAt wr W.heap.size (.slice va vis.length vcap) vis) from hown)
  have HV:=(show Hid ((vis.map nmE).Nodup∧∀ x ∈ vis,x ∈ E) from ⟨hnd,hsub⟩)
  replace x0:=carry hb hz x0
  replace x1:=carry hb hz x1
  have hz1:w.heap.size<wr.heap.size:=Nat.lt_of_lt_of_le hz hb.size
  unfold maxLen at hcap
  rw [wayG] at hway
  have HKn1:=(show Hid (Calls Tryz.prog 71 #[.agg #[.slice la lk lc,.map (some r)],.string n'] wr fun e w2=>e = .returned (.bool (lkG nmE E n').isSome)∧Below wr.heap.size wr w2) from HKn.out wr n' HBr.out hn')
  clear hb hown hnd hsub hcell
  cases hlk:lkG nmE E n' with
  | none =>
   rw [hlk] at hway HKn1
   simp only [Option.isSome_none] at HKn1
   have HRes:Hid (res=vis):=hway.symm
   clear hway hlk
   go_wp2_with fail
   refine Calls.mono HKn1.out ?_
   rintro e w2 ⟨rfl,hb2⟩
   have HB2:Hid (Below w.heap.size w w2):=HBr.out.trans (hb2.mono HBr.out.size)
   have HO2:=(show Hid (WyAt w2 W.heap.size (.slice va vis.length vcap) vis) from HOw.out.below hb2)
   clear hb2
   go_wp2
   try rw [Exit.noGoto_ret]
   go_ret
   exact⟨HB2.out,_,rfl,by rw [HRes.out];exact (HO2.out.base (Nat.le_of_lt hz)).own⟩
  | some x =>
   have hx:=lkG_some hlk
   rw [hlk] at hway HKn1
   simp only [Option.isSome_some] at HKn1
   have HWay:=(show Hid ((if vis.any (fun d=>decide (nmE d=n')) then vis else wayG nmE suE E f' (vis ++ [x]) (suE x))=res) from hway)
   have HX:=(show Hid (x ∈ E∧nmE x=n'∧lkG nmE E n'=some x) from ⟨hx.1,hx.2,hlk⟩)
   clear hway hlk hx
   go_wp2_with fail
   refine Calls.mono HKn1.out ?_
   rintro e w2 ⟨rfl,hb2⟩
   have HB2:Hid (Below w.heap.size w w2):=HBr.out.trans (hb2.mono HBr.out.size)
   have HB2o:Hid (Below W.heap.size W w2):=HBo.out.trans (hb2.mono HBo.out.size)
   have HO2:=(show Hid (WyAt w2 W.heap.size (.slice va vis.length vcap) vis) from HOw.out.below hb2)
   replace x0:=carry hb2 hz1 x0
   replace x1:=carry hb2 hz1 x1
   have hz2:w.heap.size<w2.heap.size:=Nat.lt_of_lt_of_le hz1 hb2.size
   clear hb2 HBr HBo HOw
   go_wp2_with fail
   go_loopw [14] (fun j14 wr=>∃ i:Nat,i≤vis.length∧j14 = .int .i64 (i:Int)∧Below w2.heap.size w2 wr∧∀ j (hj:j<vis.length),j<i→nmE vis[j] ≠ n') (fun j14 _=>vis.length - (intOf j14).toNat)
   case atStart=>exact⟨0,Nat.zero_le _,rfl,Below.refl _ _,fun j _ h=>absurd h (by omega)⟩
   case round =>
    obtain ⟨i,hi,rfl,hb,hno⟩:=hrel
    have HB3:Hid (Below w.heap.size w wr):=HB2.out.trans (hb.mono HB2.out.size)
    have HB3o:Hid (Below W.heap.size W wr):=HB2o.out.trans (hb.mono HB2o.out.size)
    have HB3p:Hid (Below w2.heap.size w2 wr):=hb
    have HO3:=(show Hid (WyAt wr W.heap.size (.slice va vis.length vcap) vis) from HO2.out.below hb)
    have HNo:=(show Hid (∀ j (hj:j<vis.length),j<i→nmE vis[j] ≠ n') from hno)
    replace x0:=carry hb hz2 x0
    replace x1:=carry hb hz2 x1
    have hz3:w.heap.size<wr.heap.size:=Nat.lt_of_lt_of_le hz2 hb.size
    clear hb hno
    by_cases hlt:i<vis.length
    ·obtain ⟨va',vcap',ev,_,_,hcell⟩:=HO3.out.slice
     cases ev
     obtain ⟨g,rfl,hg1,hg2,c0,c1,c2,c3,c4,c5,c6⟩:=hcell i hlt
     clear hcell
     unfold WE.vc at c4
     unfold WE.vh at c5
     by_cases e:nmE vis[i]=n'
     ·have HRes:Hid (res=vis):=by
       show _=_
       rw [← HWay.out,if_pos (any_nm.2 (List.mem_map.2 ⟨vis[i],List.getElem_mem hlt,e⟩))]
      have d:=tx_eq e
      have HBa:Hid (∀ o,Below w.heap.size w (wr.alloc o)):=fun o=>HB3.out.alloc (by omega) o
      have HOa:=(show Hid (∀ o,WyAt (wr.alloc o) W.heap.size (.slice (some ⟨g,0,none⟩) vis.length vcap) vis) from fun o=>HO3.out.below (below_al _ _))
      clear HWay HNo e
      generalize vis[i]=y at *
      go_wp2
      try rw [Exit.noGoto_ret]
      go_ret
      exact⟨HBa.out _,_,rfl,by rw [HRes.out];exact ((HOa.out _).base (Nat.le_of_lt hz)).own⟩
     ·have HZ:Hid (∀ j (hj:j<vis.length),j<i+1→nmE vis[j] ≠ n'):=fun j hj hji=>by
       by_cases e2:j=i
       ·subst e2;exact e
       ·exact HNo.out j hj (by omega)
      have d:=tx_ne e
      have HBa:Hid (∀ o,Below w2.heap.size w2 (wr.alloc o)):=fun o=>HB3p.out.alloc HB3p.out.size o
      clear HNo e
      generalize vis[i]=y at *
      go_wp2
      go_roundw
      case rel=>exact⟨i+1,by omega,by go_num,HBa.out _,HZ.out⟩
      case measure=>simp [intOf];omega
    ·obtain rfl:i=vis.length:=by omega
     have HW2:Hid (wayG nmE suE E f' (vis ++ [x]) (suE x)=res):=by
      show _=_
      rw [← HWay.out,if_neg]
      intro ha
      obtain ⟨y,hy,e⟩:=List.mem_map.1 (any_nm.1 ha)
      obtain ⟨j,hj,rfl⟩:=List.mem_iff_getElem.1 hy
      exact HNo.out j hj hj e
     have HWr:=(show Hid (WmIs wr r E es ck) from HW.out.below HB3.out)
     have hlook:(Instr.lookup 70 (.map (some r)) (.string n') false).run Tryz.prog wr = .ok (weV x) wr:=by
      rcases HWr.out.look n' hn' with ⟨e,_⟩ | ⟨y,_,_,e,_,e2⟩
      ·rw [HX.out.2.2] at e;cases e
      ·rw [HX.out.2.2] at e;cases e;exact e2
     have hsx:(suE x).size≤maxLen:=(HWr.out.lies x HX.out.1).s
     have HWin:Hid (((vis ++ [x]).map nmE).Nodup∧∀ y ∈ vis ++ [x],y ∈ E):=by
      refine ⟨?_,fun y hy=>?_⟩
      ·rw [List.map_append,List.nodup_append]
       refine ⟨HV.out.1,by simp,fun a ha b hb e=>?_⟩
       simp at hb
       obtain ⟨y,hy,rfl⟩:=List.mem_map.1 ha
       obtain ⟨j,hj,rfl⟩:=List.mem_iff_getElem.1 hy
       exact HNo.out j hj hj (e.trans (hb.trans HX.out.2.1))
      ·rcases List.mem_append.1 hy with hy | hy
       ·exact HV.out.2 y hy
       ·simp at hy;subst hy;exact HX.out.1
     have HNe:Hid (∀ k,(Value.slice va vis.length vcap).ownBlock=some k→W.heap.size≤k∧k<wr.heap.size):=fun k hk=>HO3.out.own.lt k hk
     clear HNo HWay HWr
     unfold weV WE.vc WE.vh at hlook
     go_wp2_with (at_builtin;refine wpList_append_own _ rfl _ _ 114 rfl W.heap.size 102 i0 zWE 7 96 Tryz.underlying114 HI.out.1 HI.out.2.1 HI.out.2.2.1 HI.out.2.2.2 rfl (by decide) _ vis.length (vis.flatMap weC) rfl (((HO3.out.below (below_al _ _)).below (below_al _ _)).own) ⟨wr.heap.size+1,0,none⟩ 1 1 (weC x) ?c0 rfl ?c1 (we_one x) ?c3 ?c4 ?c5 ?_)
     case c0=>simp [go_sem]
     case c1=>have:=weNews (wr.alloc (.cells #[.string (nmC x.c),.string (suC x.c),.bool (fiC x.c),.bool (abC x.c),.slice x.fa (fsC x.c).length x.fc,.slice x.ma (msC x.c).length x.mc,.map (some x.rm)] 102)) x 102;simpa using this
     case c3=>unfold maxLen;omega
     case c4=>omega
     case c5=>have:=HB3o.out.size;simp;omega
     intro v' w4 hown' hgrow _
     have hfl:vis.flatMap weC ++ weC x=(vis ++ [x]).flatMap weC:=by simp
     rw [hfl] at hown'
     have hsz3:w.heap.size≤W.heap.size:=Nat.le_of_lt hz
     have hWr:W.heap.size≤wr.heap.size:=HB3o.out.size
     have hbx:Below W.heap.size W w4:=((HB3o.out.alloc hWr _).alloc (by simp;omega) _).grown hgrow (by simp;omega) (fun k hk=>(HNe.out k hk).1)
     have hblk:∀ k,k<wr.heap.size+2→(Value.slice va vis.length vcap).ownBlock ≠ some k→w4.heap[k]?=((wr.alloc (.cells #[.string (nmC x.c),.string (suC x.c),.bool (fiC x.c),.bool (abC x.c),.slice x.fa (fsC x.c).length x.fc,.slice x.ma (msC x.c).length x.mc,.map (some x.rm)] 102)).alloc (.cells #[.string (nmC x.c),.string (suC x.c),.bool (fiC x.c),.bool (abC x.c),.slice x.fa (fsC x.c).length x.fc,.slice x.ma (msC x.c).length x.mc,.map (some x.rm)] 102)).heap[k]?:=fun k hk hne=>hgrow.block k (by simp;omega) (Ne.symm hne)
     have c1:w4.cell? ⟨wr.heap.size,1,none⟩=some (.string (suC x.c)):=(World.cell?_of_block (a:=⟨wr.heap.size,1,none⟩) (hblk wr.heap.size (by omega) (fun e=>by have:=(HNe.out _ e).2;omega))).trans (by simp [go_sem])
     have HN:=(show Hid (WyAt w4 W.heap.size v' (vis ++ [x])∧Below W.heap.size W w4) from ⟨⟨by simpa using hown'⟩,hbx⟩)
     obtain ⟨va2,vcap2,rfl,_⟩:=HN.out.1.slice
     clear hown' hgrow hbx hblk hfl
     go_wp2
     go_roundw
     case rel=>exact⟨f',vis ++ [x],suE x,rfl,hsx,HN.out.1,HN.out.2,HW2.out,by simp;omega,HWin.out.1,HWin.out.2⟩
     case measure=>simp [lenV];omega
end Go.Proofs.YtmhgaggpdggbeaaGreatDoor

namespace Go.Proofs.YtmhgaggpdggbeaaGreatDoor
open Go.RowKit
set_option linter.unusedVariables false

def clC (c:CTup) (fa:Option Addr) (fc:Nat) (ma:Option Addr) (mc:Nat):Value:=.agg #[.string (nmC c),.string (suC c),.bool (fiC c),.bool (abC c),.slice fa (fsC c).length fc,.slice ma (msC c).length mc]
theorem fieldWE0 (a b c d e f g:Value) (w:World):(Instr.field 102 (.agg #[a,b,c,d,e,f,g]) 0).run Tryz.prog w = .ok (.agg #[a,b,c,d,e,f]) w:=by kernel_rfl
theorem fieldWE1 (a b c d e f g:Value) (w:World):(Instr.field 102 (.agg #[a,b,c,d,e,f,g]) 1).run Tryz.prog w = .ok g w:=by kernel_rfl
theorem fieldCl1 (a b c d e f:Value) (w:World):(Instr.field 51 (.agg #[a,b,c,d,e,f]) 1).run Tryz.prog w = .ok b w:=by kernel_rfl
theorem fieldCl2 (a b c d e f:Value) (w:World):(Instr.field 51 (.agg #[a,b,c,d,e,f]) 2).run Tryz.prog w = .ok c w:=by kernel_rfl
theorem fieldCl5 (a b c d e f:Value) (w:World):(Instr.field 51 (.agg #[a,b,c,d,e,f]) 5).run Tryz.prog w = .ok f w:=by kernel_rfl
def sfC (E:List WE) (c:CTup):Int:=match lkG nmE E (suC c) with
 | none=>8
 | some x=>if fiC x.c then 14 else 0
set_option maxRecDepth 100000 in
set_option maxHeartbeats 2000000 in
theorem implSuperFault (lv:Value) (r:Nat) (E:List WE) (es:Array MapEntry) (ck:Nat) (c:CTup) (fa:Option Addr) (fc:Nat) (ma:Option Addr) (mc:Nat) (w:World) (h:WmIs w r E es ck) (hs:(suC c).size≤maxLen) (hl:∃ a k c,lv = .slice a k c) :
  Calls Tryz.prog 78 #[wdV lv r,clC c fa fc ma mc] w fun e w'=>e = .returned (.int .i64 (sfC E c))∧Below w.heap.size w w':=by
 have HW:=(show Hid (WmIs w r E es ck) from h)
 have HKn:Hid (∀ w' n,Below w.heap.size w w'→n.size≤maxLen→Calls Tryz.prog 71 #[.agg #[lv,.map (some r)],.string n] w' fun e w2=>e = .returned (.bool (lkG nmE E n).isSome)∧Below w'.heap.size w' w2):=fun w' n hb hn=>implKnown lv r E es ck n w' (h.below hb) hn hl
 obtain ⟨la,lk,lc,rfl⟩:=hl
 clear h
 have HLk:Hid (∀ w',Below w.heap.size w w'→∀ x,lkG nmE E (suC c)=some x→(Instr.lookup 70 (.map (some r)) (.string (suC c)) false).run Tryz.prog w' = .ok (weV x) w'):=fun w' hb x hx=>by
  rcases (HW.out.below hb).look (suC c) hs with ⟨e,_⟩ | ⟨y,_,_,e,_,e2⟩
  ·rw [hx] at e;cases e
  ·rw [hx] at e;cases e;exact e2
 unfold sfC wdV clC
 cases hq:lkG nmE E (suC c) with
 | none =>
  have HK1:Hid (∀ w',Below w.heap.size w w'→Calls Tryz.prog 71 #[.agg #[.slice la lk lc,.map (some r)],.string (suC c)] w' fun e w2=>e = .returned (.bool false)∧Below w'.heap.size w' w2):=fun w' hb=>by have:=HKn.out w' (suC c) hb hs;rw [hq] at this;exact this
  clear hq HLk HKn
  generalize suC c=su at *
  go_enter Tryz.func78,Tryz.ntmps78
  go_wp2_with fail
  refine Calls.mono (HK1.out _ (below_al2 _ _ _)) ?_
  rintro e w1 ⟨rfl,hb1⟩
  have HB1:Hid (Below w.heap.size w w1):=(below_al2 _ _ _).trans (hb1.mono (by simp;omega))
  clear hb1
  go_wp2
  go_ret
  exact⟨rfl,HB1.out⟩
 | some x =>
  have HK1:Hid (∀ w',Below w.heap.size w w'→Calls Tryz.prog 71 #[.agg #[.slice la lk lc,.map (some r)],.string (suC c)] w' fun e w2=>e = .returned (.bool true)∧Below w'.heap.size w' w2):=fun w' hb=>by have:=HKn.out w' (suC c) hb hs;rw [hq] at this;exact this
  have HL1:=(show Hid (∀ w',Below w.heap.size w w'→(Instr.lookup 70 (.map (some r)) (.string (suC c)) false).run Tryz.prog w' = .ok (weV x) w') from fun w' hb=>HLk.out w' hb x hq)
  clear hq HLk HKn
  generalize suC c=su at *
  simp only
  unfold weV at HL1
  have f0:=fieldWE0
  have f2:=fieldCl2
  generalize fiC x.c=fx at *
  go_enter Tryz.func78,Tryz.ntmps78
  go_wp2_with fail
  refine Calls.mono (HK1.out _ (below_al2 _ _ _)) ?_
  rintro e w1 ⟨rfl,hb1⟩
  have HB1:Hid (Below w.heap.size w w1):=(below_al2 _ _ _).trans (hb1.mono (by simp;omega))
  have x1:=cC hb1 (w.heap.size) 1 (.map (some r)) (by simp;omega) (by simp [go_sem])
  have y1:=cC hb1 (w.heap.size+1) 1 (.string su) (by simp) (by simp [go_sem])
  have hlook:=HL1.out w1 HB1.out
  clear hb1
  cases fx
  ·go_wp2
   go_ret
   exact⟨rfl,HB1.out⟩
  ·go_wp2
   go_ret
   exact⟨rfl,HB1.out⟩
noncomputable def rfC (E:List WE) (x:WE):Int:=@ite _ (CycG nmE suE E x) (Classical.propDecidable _) 9 0
set_option maxRecDepth 100000 in
set_option maxHeartbeats 2000000 in
theorem implRound (lv:Value) (r:Nat) (E:List WE) (es:Array MapEntry) (ck:Nat) (x:WE) (fa:Option Addr) (fc:Nat) (ma:Option Addr) (mc:Nat) (w:World) (h:WmIs w r E es ck) (hx:x ∈ E) (hE:E.length≤100) (hl:∃ a k c,lv = .slice a k c) :
  Calls Tryz.prog 80 #[wdV lv r,clC x.c fa fc ma mc] w fun e w'=>e = .returned (.int .i64 (rfC E x))∧Below w.heap.size w w':=by
 have hs:=(h.lies x hx).n
 have HWu:Hid (∀ w',Below w.heap.size w w'→Calls Tryz.prog 83 #[.agg #[lv,.map (some r)],.string (nmC x.c)] w' fun e w2=>Below w'.heap.size w' w2∧∃ v,e = .returned v∧w2.ownsRow w'.heap.size 102 7 v (wyG E (nmC x.c)).length ((wyG E (nmC x.c)).flatMap weC)):=fun w' hb=>implWayUp lv r E es ck (nmC x.c) w' (h.below hb) hs hl hE
 obtain ⟨init,last,h1,h2⟩:=way_round (su:=suE) h.nd hx
 have hw:wyG E (nmC x.c)=init ++ [last]:=h1
 obtain ⟨la,lk,lc,rfl⟩:=hl
 rw [hw] at HWu
 have hlen:(init ++ [last]).length=init.length+1:=by simp
 have hle:init.length+1≤100:=by
  have:=wayG_inv (nm:=nmE) (su:=suE) E (E.length+1) [] (nmC x.c) (by simp) (by simp)
  have h3:=nodup_sub_len this.1 this.2.1
  rw [h1,hlen] at h3
  omega
 have HZ:Hid ((suE last=nmC x.c∧9=rfC E x) ∨ (suE last ≠ nmC x.c∧0=rfC E x)):=by
  unfold rfC
  rcases h2 with ⟨h2,h3⟩ | ⟨h2,h3⟩
  ·exact .inl ⟨h2,(@if_pos _ (Classical.propDecidable _) h3 _ _ _).symm⟩
  ·exact .inr ⟨h2,(@if_neg _ (Classical.propDecidable _) h3 _ _ _).symm⟩
 clear h1 h2 hw h
 generalize rfC E x=res at *
 unfold wdV clC
 go_enter Tryz.func80,Tryz.ntmps80
 go_wp2_with fail
 refine Calls.mono (HWu.out _ (below_al2 _ _ _)) ?_
 rintro e w1 ⟨hb1,v,rfl,ho⟩
 have HB1:Hid (Below w.heap.size w w1):=(below_al2 _ _ _).trans (hb1.mono (by simp;omega))
 have y0:=cC hb1 (w.heap.size+1) 0 (.string (nmC x.c)) (by simp) (by simp [go_sem])
 obtain ⟨va,vcap,rfl,hcap,_,hcell⟩:=(WyAt.mk ho).slice
 obtain ⟨g,rfl,_,_,hc0,c1,hcr⟩:=hcell init.length (by simp)
 clear hc0 hcr
 have hg:(init ++ [last])[init.length]'(by simp)=last:=by simp
 rw [hg] at c1
 rw [hlen]
 clear hcell ho hb1 hg HWu
 unfold maxLen at hcap
 have e1:((init.length+1:Nat):Int) - 1=(init.length:Int):=by omega
 have e2:(init.length:Int)+1 - 1=(init.length:Int):=by omega
 generalize init.length=m at *
 rcases HZ.out with ⟨h2,h3⟩ | ⟨h2,h3⟩
 ·have d:=tx_eq h2
  have HR:=(show Hid (9=res) from h3)
  clear h2 h3 HZ
  generalize nmC x.c=cn at *
  go_wp2_with fail
  go_quiet (fail)
  go_wp2
  go_ret
  exact⟨rI HR.out,by first | exact HB1.out | exact HB1.out.drew | exact below_drewN HB1.out _⟩
 ·have d:=tx_ne h2
  have HR:=(show Hid (0=res) from h3)
  clear h2 h3 HZ
  generalize nmC x.c=cn at *
  go_wp2_with fail
  go_quiet (fail)
  go_wp2
  go_ret
  exact⟨rI HR.out,by first | exact HB1.out | exact HB1.out.drew | exact below_drewN HB1.out _⟩
end Go.Proofs.YtmhgaggpdggbeaaGreatDoor

namespace Go.Proofs.YtmhgaggpdggbeaaGreatDoor
open Go.RowKit
set_option linter.unusedVariables false

theorem owns_base' {w:World} {base base' e:Nat} {v:Value} {n:Nat} {xs:List Value} (h:w.ownsRow base e 1 v n xs) (hb:base'≤base):w.ownsRow base' e 1 v n xs:=by
 refine ⟨h.1,?_⟩
 rcases h.2 with k | ⟨g,cap,cur,h1,h2,h3⟩
 ·exact .inl k
 ·exact .inr ⟨g,cap,cur,h1,by omega,h3⟩
def mtL (m:MTup):List ByteArray:=(outD (mD m).desc).1 ++ [(outD (mD m).desc).2.1]
def tolL (c:CTup):List ByteArray:=(fsC c).map (fun f=>f.2.1) ++ (msC c).flatMap mtL
set_option maxRecDepth 100000 in
set_option maxHeartbeats 4000000 in
theorem implTypesTold (c:CTup) (fa:Option Addr) (fc:Nat) (ma:Option Addr) (mc:Nat) (w:World) (hf:fieldR.slice.In w [.slice fa (fsC c).length fc] (fsC c)) (hm:methR.slice.In w [.slice ma (msC c).length mc] (msC c)) (h8:(fsC c).length≤8) (h10:(msC c).length≤10) (hg:Glob w) :
  Calls Tryz.prog 107 #[clC c fa fc ma mc] w fun e w'=>Below w.heap.size w w'∧∃ v,e = .returned v∧w'.ownsRow w.heap.size 9 1 v (tolL c).length (sC (tolL c)):=by
 obtain ⟨i0,hi0,hz0,hz1,hz2⟩:=info_parts infoStr
 have HI:Hid (Tryz.prog.info? 9 = some i0∧i0.zero=some (.string ⟨#[]⟩)∧i0.size=1∧i0.bytes=16):=⟨hi0,hz0,hz1,hz2⟩
 clear hi0 hz0 hz1 hz2
 obtain ⟨_,_,ef,fn0,fcap,fat⟩:=slice_open (by decide) hf
 cases ef
 obtain ⟨_,_,em,mn0,mcap,mat⟩:=slice_open (by decide) hm
 cases em
 unfold maxLen at fcap mcap
 have HF:Hid (∀ i (h:i<(fsC c).length),∃ b o,fa=some ⟨b,o,none⟩∧fieldR.At w ⟨b,o,none⟩ i (fsC c)[i]):=fat
 have HM:Hid (∀ i (h:i<(msC c).length),∃ b o,ma=some ⟨b,o,none⟩∧methR.At w ⟨b,o,none⟩ i (msC c)[i]):=mat
 have HG:=(show Hid (Glob w) from hg)
 have HT:Hid (tolL c=(fsC c).map (fun f=>f.2.1) ++ (msC c).flatMap mtL):=rfl
 generalize tolL c=res at *
 unfold clC
 generalize nmC c=cn at *
 generalize suC c=cs at *
 generalize fiC c=cf at *
 generalize abC c=cab at *
 generalize fsC c=fs at *
 generalize msC c=ms at *
 clear fat mat hf hm hg c
 have HDr:Hid (∀ w' d,d.size≤maxLen→Glob w'→Calls Tryz.prog 130 #[.string d] w' fun e w2=>(∃ a cap,e = .returned (outV (.slice a (outD d).1.length cap) (outD d).2.1 (outD d).2.2.1 (outD d).2.2.2)∧w2.ownsRow w'.heap.size 9 1 (.slice a (outD d).1.length cap) (outD d).1.length (cellsOfS (outD d).1))∧Below w'.heap.size w' w2):=fun w' d hd hg=>(implDescRead d w' hd hg).mono fun e w2 ⟨h1,h2⟩=>⟨dvOut_one h1,h2⟩
 have HO8:Hid (∀ d,(outD d).1.length≤8):=fun d=>(outD_all d).1
 have HL:Hid (∀ i (h:i<ms.length),(ms.take (i+1)).flatMap mtL=(ms.take i).flatMap mtL ++ ((outD (mD ms[i]).desc).1 ++ [(outD (mD ms[i]).desc).2.1])):=fun i h=>by
  have e:ms.take (i+1)=ms.take i ++ [ms[i]]:=by rw [List.take_add_one,List.getElem?_eq_getElem h];rfl
  rw [e,List.flatMap_append]
  simp [mtL]
 have HLl:Hid (∀ i,((ms.take i).flatMap mtL).length≤9 * i):=fun i=>by
  show _≤_
  have:∀ l:List MTup,(l.flatMap mtL).length≤9 * l.length:=fun l=>by
   induction l with
   | nil=>simp
   | cons a l ih=>rw [List.flatMap_cons,List.length_append,List.length_cons];have:=(outD_all (mD a).desc).1;simp only [mtL,List.length_append,List.length_singleton] at *;omega
  have h1:=this (ms.take i)
  have h2:(ms.take i).length≤i:=by simp;omega
  omega
 have HL1:Hid (∀ i (h:i<fs.length),(fs.take (i+1)).map (fun f=>f.2.1)=(fs.take i).map (fun f=>f.2.1) ++ [fs[i].2.1]):=fun i h=>by
  have e:fs.take (i+1)=fs.take i ++ [fs[i]]:=by rw [List.take_add_one,List.getElem?_eq_getElem h];rfl
  rw [e,List.map_append];rfl
 go_enter Tryz.func107,Tryz.ntmps107
 go_wp2_with fail
 have x5:(w.alloc (.cells #[.string cn,.string cs,.bool cf,.bool cab,.slice fa fs.length fc,.slice ma ms.length mc] 51)).cell? ⟨w.heap.size,5,none⟩=some (.slice ma ms.length mc):=by simp [go_sem]
 have hz:w.heap.size<(w.alloc (.cells #[.string cn,.string cs,.bool cf,.bool cab,.slice fa fs.length fc,.slice ma ms.length mc] 51)).heap.size:=by simp
 have HBW:Hid (Below w.heap.size w (w.alloc (.cells #[.string cn,.string cs,.bool cf,.bool cab,.slice fa fs.length fc,.slice ma ms.length mc] 51))):=below_al _ _
 generalize w.alloc (.cells #[.string cn,.string cs,.bool cf,.bool cab,.slice fa fs.length fc,.slice ma ms.length mc] 51)=W at *
 go_loopw [3,12] (fun j3 j12 wr=>∃ i:Nat,i≤fs.length∧j12 = .int .i64 (i:Int)∧Below W.heap.size W wr∧wr.ownsRow W.heap.size 9 1 j3 ((fs.take i).map fun f=>f.2.1).length (sC ((fs.take i).map fun f=>f.2.1))) (fun _ j12 _=>fs.length - (intOf j12).toNat)
 case atStart=>exact⟨0,Nat.zero_le _,rfl,Below.refl _ _,World.ownsRow_nil _ _ _ _⟩
 case round =>
  obtain ⟨i,hi,rfl,hb,hown⟩:=hrel
  have HBr:Hid (Below w.heap.size w wr):=HBW.out.trans (hb.mono HBW.out.size)
  have HBo:Hid (Below W.heap.size W wr):=hb
  replace x5:=carry hb hz x5
  have hz1:w.heap.size<wr.heap.size:=Nat.lt_of_lt_of_le hz hb.size
  have hWr:W.heap.size≤wr.heap.size:=hb.size
  obtain ⟨ta,tc,rfl⟩:=owns_slice hown
  have HOw:=(show Hid (wr.ownsRow W.heap.size 9 1 (.slice ta ((fs.take i).map fun f=>f.2.1).length tc) ((fs.take i).map fun f=>f.2.1).length (sC ((fs.take i).map fun f=>f.2.1))) from hown)
  have hacc:((fs.take i).map fun f=>f.2.1).length≤8:=by simp;omega
  clear hb hown
  by_cases hlt:i<fs.length
  ·obtain ⟨b,o,rfl,hx⟩:=HF.out i hlt
   obtain ⟨g0,g1,g2,_,_⟩:=fieldAt (hx.mono HBr.out)
   have HNx:=(show Hid ((fs.take (i+1)).map (fun f=>f.2.1)=(fs.take i).map (fun f=>f.2.1) ++ [fs[i].2.1]) from HL1.out i hlt)
   clear hx
   obtain ⟨acc2,hacc2⟩:∃ x,(fs.take (i+1)).map (fun f=>f.2.1)=x:=⟨_,rfl⟩
   rw [hacc2] at HNx
   have HAc2:=(show Hid _ from hacc2)
   clear hacc2
   generalize (fs.take i).map (fun f=>f.2.1)=acc at *
   generalize fs[i]=d at *
   obtain ⟨fn,ft,fst⟩:=d
   simp only at g0 g1 g2 HNx
   go_wp2_with (at_builtin;refine wpList_append_own _ rfl _ _ 91 rfl W.heap.size 9 i0 (.string ⟨#[]⟩) 1 16 Tryz.underlying91 HI.out.1 HI.out.2.1 HI.out.2.2.1 HI.out.2.2.2 rfl (by decide) _ _ _ rfl ((HOw.out.alloc _).alloc _) ⟨wr.heap.size+1,0,none⟩ 1 1 [.string ft] ?c0 rfl ?c1 ?c2 ?c3 ?c4 ?c5 ?_)
   try (case c0=>simp [go_sem])
   try case c1=>have:=splNews (wr.alloc (.cells #[.string fn,.string ft,.bool fst] 61)) ft;simpa using this
   case c2=>first | rfl | (intro u hu;simp at hu;subst hu;rfl)
   case c3=>unfold maxLen;omega
   case c4=>omega
   case c5=>first | omega | (simp;omega)
   intro v' w4 hown' hgrow _
   rw [sC_snoc,← HNx.out] at hown'
   have hbx:Below W.heap.size W w4:=((HBo.out.alloc hWr _).alloc (by simp;omega) _).grown hgrow (by simp;omega) (fun k hk=>(HOw.out.lt k hk).1)
   have hlen2:acc2.length=acc.length+1:=by rw [HNx.out];simp
   rw [← hlen2] at hown'
   have HX:=(show Hid (_∧_) from ⟨hown',hbx⟩)
   clear hown' hbx hgrow HOw
   go_wp2
   go_roundw
   case rel=>exact⟨i+1,by omega,by go_num,HX.out.2,by rw [HAc2.out];exact HX.out.1⟩
   case measure=>simp [intOf];omega
  ·obtain rfl:i=fs.length:=by omega
   rw [List.take_length] at HOw hacc ⊢
   clear HF HL1
   generalize (fs.map fun f=>f.2.1)=F0 at *
   generalize wr=wo at *
   have fd:=fieldDesc0
   go_wp2_with fail
   go_loopw [3,25] (fun j3 j25 wr=>∃ i:Nat,i≤ms.length∧j25 = .int .i64 (i:Int)∧Below W.heap.size W wr∧wr.ownsRow W.heap.size 9 1 j3 (F0 ++ (ms.take i).flatMap mtL).length (sC (F0 ++ (ms.take i).flatMap mtL))) (fun _ j25 _=>ms.length - (intOf j25).toNat)
   case atStart=>exact⟨0,Nat.zero_le _,rfl,HBo.out,by simpa using HOw.out⟩
   case round =>
    obtain ⟨i,hi,rfl,hb,hown⟩:=hrel
    have HBq:Hid (Below w.heap.size w wr):=HBW.out.trans (hb.mono HBW.out.size)
    have HBp:Hid (Below W.heap.size W wr):=hb
    have hWq:W.heap.size≤wr.heap.size:=hb.size
    have hlens:=HLl.out i
    obtain ⟨tb,td,rfl⟩:=owns_slice hown
    have HOq:=(show Hid (wr.ownsRow W.heap.size 9 1 (.slice tb (F0 ++ (ms.take i).flatMap mtL).length td) (F0 ++ (ms.take i).flatMap mtL).length (sC (F0 ++ (ms.take i).flatMap mtL))) from hown)
    have hal:(F0 ++ (ms.take i).flatMap mtL).length≤98:=by rw [List.length_append];omega
    clear hb hown HOw
    by_cases hlt:i<ms.length
    ·obtain ⟨b,o,rfl,hx⟩:=HM.out i hlt
     obtain ⟨wc,wh,m0,m1,m2,m3,m4,m5,m6,m7,m8,sm0,sm1,_,_,hm7,hm8⟩:=methAt (hx.mono HBq.out)
     obtain ⟨wca,wcc,rfl⟩:=slice_form hm7
     obtain ⟨wha,whc,rfl⟩:=slice_form hm8
     have HNx:Hid (F0 ++ (ms.take (i+1)).flatMap mtL=F0 ++ (ms.take i).flatMap mtL ++ (outD (mD ms[i]).desc).1 ++ [(outD (mD ms[i]).desc).2.1]):=by show _=_;rw [HL.out i hlt];simp
     have HD1:=(show Hid (∀ w',Glob w'→Calls Tryz.prog 130 #[.string (mD ms[i]).desc] w' fun e w2=>(∃ a cap,e = .returned (outV (.slice a (outD (mD ms[i]).desc).1.length cap) (outD (mD ms[i]).desc).2.1 (outD (mD ms[i]).desc).2.2.1 (outD (mD ms[i]).desc).2.2.2)∧w2.ownsRow w'.heap.size 9 1 (.slice a (outD (mD ms[i]).desc).1.length cap) (outD (mD ms[i]).desc).1.length (cellsOfS (outD (mD ms[i]).desc).1))∧Below w'.heap.size w' w2) from fun w' hg=>HDr.out w' _ sm1 hg)
     have h8':=HO8.out (mD ms[i]).desc
     clear hx hm7 hm8 sm0 sm1 hlens
     obtain ⟨acc2,hacc2⟩:∃ x,F0 ++ (ms.take (i+1)).flatMap mtL=x:=⟨_,rfl⟩
     rw [hacc2] at HNx
     have HAc2:=(show Hid _ from hacc2)
     clear hacc2
     generalize F0 ++ (ms.take i).flatMap mtL=acc at *
     generalize outD (mD ms[i]).desc=D at *
     obtain ⟨ps,q,DA,DC⟩:=D
     simp only at HNx HD1 h8'
     generalize (mD ms[i]).name=mn at *
     generalize (mD ms[i]).desc=md at *
     generalize (mD ms[i]).static=mst at *
     generalize (mD ms[i]).abs=mab at *
     generalize (mD ms[i]).fin=mfi at *
     generalize (mD ms[i]).stack=msk at *
     generalize (mD ms[i]).locals=mlo at *
     generalize (mD ms[i]).code.length=mcl at *
     generalize (mD ms[i]).hands.length=mhl at *
     have HBa:Hid (∀ o,Below w.heap.size w (wr.alloc o)):=fun o=>HBq.out.alloc (by have:=HBq.out.size;omega) o
     unfold outV at HD1
     go_wp2_with fail
     refine Calls.mono (HD1.out _ (HG.out.mono (HBa.out _))) ?_
     rintro e w2 ⟨⟨pa,pc,rfl,hop⟩,hb2⟩
     have HB2p:Hid (Below W.heap.size W w2):=(HBp.out.alloc hWq _).trans (hb2.mono (by simp;omega))
     have HO2:=(show Hid (w2.ownsRow W.heap.size 9 1 (.slice tb acc.length td) acc.length (sC acc)) from owns_below' (HOq.out.alloc _) hb2)
     have hw2:wr.heap.size<w2.heap.size:=by have:=hb2.size;simp at this;omega
     have hW2:W.heap.size≤w2.heap.size:=by omega
     have HPc:Hid (pa=none∧ps=[]∧pc=0 ∨ ∃ g,pa=some ⟨g,0,none⟩∧g<w2.heap.size∧(∀ j u,(sC ps)[j]?=some u→w2.cell? ((⟨g,0,none⟩:Addr).add j)=some u)∧∀ k,(Value.slice tb acc.length td).ownBlock=some k→k ≠ g):=by
      rcases hop.2 with ⟨h1,h0⟩ | ⟨g,cp,cur,h1,h2,h3,h4,h5,h6⟩
      ·injection h1 with e1 e2 e3
       exact .inl ⟨e1,List.length_eq_zero_iff.1 h0,e3⟩
      ·cases h1
       refine .inr ⟨g,rfl,(Array.getElem?_eq_some_iff.1 h3).1,fun j u hj=>?_,fun k hk e=>?_⟩
       ·have hj':j<ps.length:=by have:=(List.getElem?_eq_some_iff.1 hj).1;simpa [sC] using this
        rw [add_own,hop.cellAt j (by simpa using hj')]
        exact hj
       ·have:=(HOq.out.lt k hk).2
        simp at h2
        omega
     clear hop hb2 m0 m1 m2 m3 m4 m5 m6 m7 m8 HOq HD1
     rcases HPc.out with ⟨rfl,rfl,rfl⟩ | ⟨g,rfl,hg,hnews,hne⟩
     ·clear HPc
      simp only [List.length_nil,List.append_nil] at HNx h8'
      have HNx2:=(show Hid (acc2=acc ++ [q]) from HNx.out)
      go_wp2_with (at_builtin;apply Classical.byContradiction;intro hstop)
      refine hstop (wpList_append_own_none rfl _ _ 91 rfl W.heap.size 9 i0 1 Tryz.underlying91 HI.out.1 (.slice tb acc.length td) acc.length (sC acc) rfl (HO2.out.alloc _) rfl ?_)
      clear hstop
      go_wp2_with (at_builtin;apply Classical.byContradiction;intro hstop)
      refine hstop (wpList_append_own _ rfl _ _ 91 rfl W.heap.size 9 i0 (.string ⟨#[]⟩) 1 16 Tryz.underlying91 HI.out.1 HI.out.2.1 HI.out.2.2.1 HI.out.2.2.2 rfl (by decide) (.slice tb acc.length td) acc.length (sC acc) rfl ((HO2.out.alloc _).alloc _) ⟨w2.heap.size+1,0,none⟩ 1 1 [.string q] rfl rfl ?pp1 ?pp2 ?pp3 ?pp4 ?pp5 ?_)
      all_goals clear hstop
      try (case pp0=>first | rfl | simp [go_sem])
      try (case pp6=>rfl)
      try (case pp1=>have:=splNews (w2.alloc (.cells #[.slice none 0 0,.string q] 157)) q;simpa using this)
      try (case pp2=>first | rfl | (intro u hu;simp at hu;subst hu;rfl))
      try (case pp3=>unfold maxLen;omega)
      try (case pp4=>omega)
      try (case pp5=>first | omega | (simp;omega))
      intro v' w4 hown' hgrow _
      rw [sC_snoc,← HNx2.out] at hown'
      have hbx:Below W.heap.size W w4:=((HB2p.out.alloc hW2 _).alloc (by simp;omega) _).grown hgrow (by simp;omega) (fun k hk=>(HO2.out.lt k hk).1)
      have hlen2:acc2.length=acc.length+1:=by rw [HNx2.out];simp
      rw [← hlen2] at hown'
      have HX:=(show Hid (_∧_) from ⟨hown',hbx⟩)
      clear hown' hbx hgrow
      go_wp2
      go_roundw
      case rel=>exact⟨i+1,by omega,by go_num,HX.out.2,by rw [HAc2.out];exact HX.out.1⟩
      case measure=>simp [intOf];omega
     ·clear HPc
      go_wp2_with (at_builtin;apply Classical.byContradiction;intro hstop)
      refine hstop (wpList_append_own _ rfl _ _ 91 rfl W.heap.size 9 i0 (.string ⟨#[]⟩) 1 16 Tryz.underlying91 HI.out.1 HI.out.2.1 HI.out.2.2.1 HI.out.2.2.2 rfl (by decide) (.slice tb acc.length td) acc.length (sC acc) rfl (HO2.out.alloc _) ⟨g,0,none⟩ ps.length pc (sC ps) rfl ?qq6 ?qq1 ?qq2 ?qq3 ?qq4 ?qq5 ?_)
      all_goals clear hstop
      try (case qq6=>simp [sC])
      try (case qq1=>intro j u hj;rw [add_own];exact carry (below_al w2 _) hg (by have:=hnews j u hj;rw [add_own] at this;exact this))
      try (case qq2=>intro u hu;simp [sC] at hu;obtain ⟨y,_,rfl⟩:=hu;rfl)
      try (case qq3=>unfold maxLen;omega)
      try (case qq4=>omega)
      try (case qq5=>first | omega | (simp;omega))
      intro v5 w5 hown5 hgrow5 _
      have hsc:sC acc ++ sC ps=sC (acc ++ ps):=by simp [sC]
      rw [hsc] at hown5
      have hl5:acc.length+ps.length=(acc ++ ps).length:=by simp
      rw [hl5] at hown5
      obtain ⟨t5,c5,rfl⟩:=owns_slice hown5
      have HO5:=(show Hid (w5.ownsRow W.heap.size 9 1 (.slice t5 (acc ++ ps).length c5) (acc ++ ps).length (sC (acc ++ ps))) from hown5)
      have HB5:Hid (Below W.heap.size W w5):=(HB2p.out.alloc hW2 _).grown hgrow5 (by simp;omega) (fun k hk=>(HO2.out.lt k hk).1)
      have y1:w5.cell? ⟨w2.heap.size,1,none⟩=some (.string q):=(World.cell?_of_block (a:=⟨w2.heap.size,1,none⟩) (hgrow5.block w2.heap.size (by simp) (fun e=>by have:=(HO2.out.lt _ e.symm).2;omega))).trans (by simp [go_sem])
      have hW5:W.heap.size≤w5.heap.size:=HB5.out.size
      have HNx2:=(show Hid (acc2=acc ++ ps ++ [q]) from HNx.out)
      have hal5:(acc ++ ps).length≤106:=by rw [List.length_append];omega
      clear hown5 hgrow5 hsc hl5 HNx
      generalize acc ++ ps=acc5 at *
      go_wp2_with (at_builtin;apply Classical.byContradiction;intro hstop)
      refine hstop (wpList_append_own _ rfl _ _ 91 rfl W.heap.size 9 i0 (.string ⟨#[]⟩) 1 16 Tryz.underlying91 HI.out.1 HI.out.2.1 HI.out.2.2.1 HI.out.2.2.2 rfl (by decide) (.slice t5 acc5.length c5) acc5.length (sC acc5) rfl (HO5.out.alloc _) ⟨w5.heap.size,0,none⟩ 1 1 [.string q] rfl rfl ?rr1 ?rr2 ?rr3 ?rr4 ?rr5 ?_)
      all_goals clear hstop
      try (case rr0=>first | rfl | simp [go_sem])
      try (case rr6=>rfl)
      try (case rr1=>have:=splNews w5 q;simpa using this)
      try (case rr2=>first | rfl | (intro u hu;simp at hu;subst hu;rfl))
      try (case rr3=>unfold maxLen;omega)
      try (case rr4=>omega)
      try (case rr5=>first | omega | (simp;omega))
      intro v' w4 hown' hgrow _
      rw [sC_snoc,← HNx2.out] at hown'
      have hbx:Below W.heap.size W w4:=(HB5.out.alloc hW5 _).grown hgrow (by simp;omega) (fun k hk=>(HO5.out.lt k hk).1)
      have hlen2:acc2.length=acc5.length+1:=by rw [HNx2.out];simp
      rw [← hlen2] at hown'
      have HX:=(show Hid (_∧_) from ⟨hown',hbx⟩)
      clear hown' hbx hgrow
      go_wp2
      go_roundw
      case rel=>exact⟨i+1,by omega,by go_num,HX.out.2,by rw [HAc2.out];exact HX.out.1⟩
      case measure=>simp [intOf];omega
    ·obtain rfl:i=ms.length:=by omega
     rw [List.take_length] at HOq ⊢
     have HR:Hid (res=F0 ++ ms.flatMap mtL):=HT.out
     clear HM HL
     go_wp2
     go_ret
     exact⟨HBq.out,_,rfl,by rw [HR.out];exact owns_base' HOq.out (Nat.le_of_lt hz)⟩
end Go.Proofs.YtmhgaggpdggbeaaGreatDoor

namespace Go.Proofs.YtmhgaggpdggbeaaGreatDoor
open Go.RowKit
set_option linter.unusedVariables false

theorem clS_size (t:ByteArray):(clS t).size≤t.size:=by
 unfold clS
 split
 ·split
  ·exact Nat.zero_le _
  ·unfold item
   split<;>simp only [ByteArray.size_extract]<;>omega
 ·exact Nat.zero_le _
def tyE' (E:List WE) (t:ByteArray):Bool:=decide (clS t=tE) || (lkG nmE E (clS t)).isSome
def tfC (E:List WE) (c:CTup):Int:=if (tolL c).all (tyE' E) then 0 else 6
set_option maxRecDepth 100000 in
set_option maxHeartbeats 4000000 in
theorem implTypesFault (lv:Value) (r:Nat) (E:List WE) (es:Array MapEntry) (ck:Nat) (c:CTup) (fa:Option Addr) (fc:Nat) (ma:Option Addr) (mc:Nat) (w:World) (h:WmIs w r E es ck) (hl:∃ a k c,lv = .slice a k c) (hf:fieldR.slice.In w [.slice fa (fsC c).length fc] (fsC c)) (hm:methR.slice.In w [.slice ma (msC c).length mc] (msC c)) (h8:(fsC c).length≤8) (h10:(msC c).length≤10) (hg:Glob w) (hts:∀ t ∈ tolL c,t.size≤maxLen) :
  Calls Tryz.prog 79 #[wdV lv r,clC c fa fc ma mc] w fun e w'=>e = .returned (.int .i64 (tfC E c))∧Below w.heap.size w w':=by
 have HKn:Hid (∀ w' n,Below w.heap.size w w'→n.size≤maxLen→Calls Tryz.prog 71 #[.agg #[lv,.map (some r)],.string n] w' fun e w2=>e = .returned (.bool (lkG nmE E n).isSome)∧Below w'.heap.size w' w2):=fun w' n hb hn=>implKnown lv r E es ck n w' (h.below hb) hn hl
 have HTt:Hid (∀ w',Below w.heap.size w w'→Calls Tryz.prog 107 #[clC c fa fc ma mc] w' fun e w2=>Below w'.heap.size w' w2∧∃ v,e = .returned v∧w2.ownsRow w'.heap.size 9 1 v (tolL c).length (sC (tolL c))):=fun w' hb=>implTypesTold c fa fc ma mc w' (fieldR.slice.mono _ _ _ _ hb hf) (methR.slice.mono _ _ _ _ hb hm) h8 h10 (hg.mono hb)
 have HTc:Hid (∀ w' t,t.size≤maxLen→Calls Tryz.prog 108 #[.string t] w' fun e w2=>e = .returned (.string (clS t))∧Below w'.heap.size w' w2):=fun w' t ht=>implTypeClass t w' ht
 obtain ⟨la,lk,lc,rfl⟩:=hl
 have HSz:=(show Hid (∀ i (hi:i<(tolL c).length),(tolL c)[i].size≤maxLen) from fun i hi=>hts _ (List.getElem_mem hi))
 have HN:Hid (∀ i (hi:i<(tolL c).length),tyE' E (tolL c)[i]=false→6=tfC E c):=fun i hi e=>by
  show _=_
  unfold tfC
  have:(tolL c).all (tyE' E)=false:=List.all_eq_false.2 ⟨_,List.getElem_mem hi,by rw [e];simp⟩
  rw [this];rfl
 have HY:Hid ((∀ i (hi:i<(tolL c).length),tyE' E (tolL c)[i]=true)→0=tfC E c):=fun e=>by
  show _=_
  unfold tfC
  have:(tolL c).all (tyE' E)=true:=List.all_eq_true.2 fun x hx=>by
   obtain ⟨i,hi,rfl⟩:=List.mem_iff_getElem.1 hx
   exact e i hi
  rw [this];rfl
 generalize tfC E c=res at *
 unfold clC at HTt ⊢
 generalize tolL c=T at *
 unfold wdV
 clear h hf hm h8 h10 hg hts
 generalize nmC c=cn at *
 generalize suC c=cs at *
 generalize fiC c=cf at *
 generalize abC c=cab at *
 generalize (fsC c).length=fl at *
 generalize (msC c).length=ml at *
 go_enter Tryz.func79,Tryz.ntmps79
 go_wp2_with fail
 refine Calls.mono (HTt.out _ (below_al2 _ _ _)) ?_
 rintro e w1 ⟨hb1,v,rfl,ho⟩
 have HB1:Hid (Below w.heap.size w w1):=(below_al2 _ _ _).trans (hb1.mono (by simp;omega))
 have x0:=cC hb1 (w.heap.size) 0 (.slice la lk lc) (by simp;omega) (by simp [go_sem])
 have x1:=cC hb1 (w.heap.size) 1 (.map (some r)) (by simp;omega) (by simp [go_sem])
 have hz:w.heap.size<w1.heap.size:=by have:=hb1.size;simp at this;omega
 obtain ⟨ta,tc,rfl,hs1,_,_⟩:=own_row ho (fun p hp=>by obtain ⟨i,hi,rfl⟩:=List.mem_iff_getElem.1 hp;exact HSz.out i hi)
 have hcp:=hs1.cap
 unfold maxLen at hcp
 have HS1:=(show Hid (Strs w1 ta tc T) from hs1)
 clear hb1 ho hs1 HTt
 go_wp2_with fail
 go_loopw [11] (fun j11 wr=>∃ i:Nat,i≤T.length∧j11 = .int .i64 (i:Int)∧Below w1.heap.size w1 wr∧∀ j (hj:j<T.length),j<i→tyE' E T[j]=true) (fun j11 _=>T.length - (intOf j11).toNat)
 case atStart=>exact⟨0,Nat.zero_le _,rfl,Below.refl _ _,fun j _ h=>absurd h (by omega)⟩
 case round =>
  obtain ⟨i,hi,rfl,hb,hgood⟩:=hrel
  have HG:=(show Hid (∀ j (hj:j<T.length),j<i→tyE' E T[j]=true) from hgood)
  have HBr:Hid (Below w.heap.size w wr):=HB1.out.trans (hb.mono HB1.out.size)
  have HBo:Hid (Below w1.heap.size w1 wr):=hb
  replace x0:=carry hb hz x0
  replace x1:=carry hb hz x1
  have hz1:w.heap.size<wr.heap.size:=Nat.lt_of_lt_of_le hz hb.size
  have HSr:=(show Hid (Strs wr ta tc T) from HS1.out.mono hb)
  clear hb hgood
  by_cases hlt:i<T.length
  ·obtain ⟨x,rfl,hc⟩:=HSr.out.cell i hlt
   have eg:T.getD i ByteArray.empty=T[i]:=by rw [List.getD_eq_getElem?_getD,List.getElem?_eq_getElem hlt];rfl
   rw [eg] at hc
   have hsz:=HSz.out i hlt
   have HT1:=(show Hid (Calls Tryz.prog 108 #[.string T[i]] wr fun e w2=>e = .returned (.string (clS T[i]))∧Below wr.heap.size wr w2) from HTc.out wr T[i] hsz)
   have hcs:(clS T[i]).size≤maxLen:=Nat.le_trans (clS_size _) hsz
   have HE:Hid (tyE' E T[i]=false→6=res):=HN.out i hlt
   have HE2:Hid (tyE' E T[i]=true→∀ j (hj:j<T.length),j<i+1→tyE' E T[j]=true):=fun e j hj hji=>by
    by_cases e2:j=i
    ·subst e2;exact e
    ·exact HG.out j hj (by omega)
   unfold tyE' at HE
   have HE3:Hid ((decide (clS T[i]=tE) || (lkG nmE E (clS T[i])).isSome)=true→∀ j (hj:j<T.length),j<i+1→tyE' E T[j]=true):=HE2.out
   clear HG eg hsz HSr HE2
   generalize T[i]=y at *
   generalize clS y=cy at *
   rcases empty_cases cy with ⟨h1,h2⟩ | ⟨h1,h2⟩
   ·have HZ:Hid (∀ j (hj:j<T.length),j<i+1→tyE' E T[j]=true):=HE3.out (by rw [decide_eq_true h1];rfl)
    have h3:cy.toList.isEmpty=true:=by rw [h2];rfl
    clear HE HE3 h1
    go_wp2_with fail
    refine Calls.mono HT1.out ?_
    rintro e w2 ⟨rfl,hb2⟩
    have HB2o:Hid (Below w1.heap.size w1 w2):=HBo.out.trans (hb2.mono HBo.out.size)
    clear hb2
    go_wp2
    go_roundw
    case rel=>exact⟨i+1,by omega,by go_num,HB2o.out,HZ.out⟩
    case measure=>simp [intOf];omega
   ·have h3:cy.toList.isEmpty=false:=by cases h:cy.toList with | nil=>exact absurd h h2 | cons a l=>rfl
    have HK1:=(show Hid (∀ w',Below w.heap.size w w'→Calls Tryz.prog 71 #[.agg #[.slice la lk lc,.map (some r)],.string cy] w' fun e w2=>e = .returned (.bool (lkG nmE E cy).isSome)∧Below w'.heap.size w' w2) from fun w' hb=>HKn.out w' cy hb hcs)
    have HEa:Hid ((lkG nmE E cy).isSome=false→6=res):=fun e=>HE.out (by rw [decide_eq_false h1,e];rfl)
    have HEb:Hid ((lkG nmE E cy).isSome=true→∀ j (hj:j<T.length),j<i+1→tyE' E T[j]=true):=fun e=>HE3.out (by rw [e,Bool.or_true])
    clear HE HE3 h1
    generalize (lkG nmE E cy).isSome=q at *
    go_wp2_with fail
    refine Calls.mono HT1.out ?_
    rintro e w2 ⟨rfl,hb2⟩
    have HB2:Hid (Below w.heap.size w w2):=HBr.out.trans (hb2.mono HBr.out.size)
    have HB2o:Hid (Below w1.heap.size w1 w2):=HBo.out.trans (hb2.mono HBo.out.size)
    replace x0:=carry hb2 hz1 x0
    replace x1:=carry hb2 hz1 x1
    clear hb2
    go_wp2_with fail
    refine Calls.mono (HK1.out _ HB2.out) ?_
    rintro e w3 ⟨rfl,hb3⟩
    have HB3:Hid (Below w.heap.size w w3):=HB2.out.trans (hb3.mono HB2.out.size)
    have HB3o:Hid (Below w1.heap.size w1 w3):=HB2o.out.trans (hb3.mono HB2o.out.size)
    clear hb3
    cases q
    ·go_wp2
     go_ret
     exact⟨rI (HEa.out (by first | rfl | trivial)),HB3.out⟩
    ·go_wp2
     go_roundw
     case rel=>exact⟨i+1,by omega,by go_num,HB3o.out,HEb.out (by first | rfl | trivial)⟩
     case measure=>simp [intOf];omega
  ·obtain rfl:i=T.length:=by omega
   have HZ:Hid (0=res):=HY.out fun j hj=>HG.out j hj hj
   clear HG HSr
   go_wp2
   go_ret
   exact⟨rI HZ.out,HBr.out⟩
end Go.Proofs.YtmhgaggpdggbeaaGreatDoor

namespace Go.Proofs.YtmhgaggpdggbeaaGreatDoor
open Go.RowKit
set_option linter.unusedVariables false

theorem init_eq' {n:ByteArray} (h:n=initN):(n.toList == [60,105,110,105,116,62])=true:=by rw [h,ByteArray.toList_eq];rfl
theorem init_ne' {n:ByteArray} (h:n ≠ initN):(n.toList == [60,105,110,105,116,62])=false:=by
 rw [beq_eq_false_iff_ne]
 intro e
 rw [ByteArray.toList_eq] at e
 exact h (WideShapes.bytes_inj (by rw [e];rfl))
theorem set3_al {wr:World} {R:Nat} {u0 u1 u2:Value} (hR:R<wr.heap.size) (r0:wr.cell? ⟨R,0,none⟩=some u0) (r1:wr.cell? ⟨R,1,none⟩=some u1) (r2:wr.cell? ⟨R,2,none⟩=some u2) (v0 v1 v2:Value) (o:Obj) :
  ((((wr.setCell ⟨R,0,none⟩ v0).setCell ⟨R,1,none⟩ v1).setCell ⟨R,2,none⟩ v2).alloc o).cell? ⟨R,0,none⟩=some v0∧((((wr.setCell ⟨R,0,none⟩ v0).setCell ⟨R,1,none⟩ v1).setCell ⟨R,2,none⟩ v2).alloc o).cell? ⟨R,1,none⟩=some v1∧((((wr.setCell ⟨R,0,none⟩ v0).setCell ⟨R,1,none⟩ v1).setCell ⟨R,2,none⟩ v2).alloc o).cell? ⟨R,2,none⟩=some v2 :=
 ⟨carry (below_al _ o) (by simpa using hR) (by simp [go_sem,r0]),carry (below_al _ o) (by simpa using hR) (by simp [go_sem,r1]),carry (below_al _ o) (by simpa using hR) (by simp [go_sem,r2])⟩
def kIs (n d:ByteArray) (k:KeyD):Bool:=decide (k.1=n) && decide (k.2.1=d)
def kLk (c:CTup) (n d:ByteArray):Option Int:=((mKeys c).find? (kIs n d)).map fun k=>k.2.2
theorem kLk_at {c:CTup} {n d:ByteArray} {j:Nat} (hj:j<(mKeys c).length) (h1:(mKeys c)[j].1=n) (h2:(mKeys c)[j].2.1=d) (nd:∀ i j (hi:i<(mKeys c).length) (hj:j<(mKeys c).length),i<j→¬ ((mKeys c)[i].1=(mKeys c)[j].1∧(mKeys c)[i].2.1=(mKeys c)[j].2.1)):kLk c n d=some (mKeys c)[j].2.2:=by
 have:(mKeys c).find? (kIs n d)=some (mKeys c)[j]:=by
  rw [List.find?_eq_some_iff_getElem]
  refine ⟨by simp [kIs,h1,h2],j,hj,rfl,fun i hi=>?_⟩
  have hn:=nd i j (by omega) hj hi
  simp only [kIs,Bool.not_eq_true',Bool.and_eq_false_iff,decide_eq_false_iff_not]
  by_cases e:(mKeys c)[i].1=n
  ·exact .inr fun e2=>hn ⟨by rw [e,h1],by rw [e2,h2]⟩
  ·exact .inl e
 unfold kLk
 rw [this]
 rfl
theorem kLk_no {c:CTup} {n d:ByteArray} (h:∀ j (hj:j<(mKeys c).length),¬ ((mKeys c)[j].1=n∧(mKeys c)[j].2.1=d)):kLk c n d=none:=by
 have:(mKeys c).find? (kIs n d)=none:=by
  rw [List.find?_eq_none]
  intro k hk
  obtain ⟨j,hj,rfl⟩:=List.mem_iff_getElem.1 hk
  have:=h j hj
  simp only [kIs,Bool.and_eq_true,decide_eq_true_eq]
  exact this
 unfold kLk
 rw [this]
 rfl
theorem zI64 (w:World):(zeroValue 2).run Tryz.prog w = .ok (.int .i64 0) w:=by
 have h:(Tryz.prog.info? 2).map (fun i=>i.zero)=some (some (.int .i64 0)):=by kernel_rfl
 cases hi:Tryz.prog.info? 2 with
 | none=>rw [hi] at h;cases h
 | some i =>
  rw [hi] at h
  have hz:i.zero=some (.int .i64 0):=by simpa using h
  simp [zeroValue,typeInfo,hi,hz]
theorem MmIs.look {w:World} {c:CTup} {rm:Nat} (h:MmIs w rm (mKeys c)) (n d:ByteArray) (hn:n.size≤maxLen) (hd:d.size≤maxLen) :
  (kLk c n d=none∧(Instr.lookup 100 (.map (some rm)) (.agg #[.string n,.string d]) true).run Tryz.prog w = .ok (.tuple #[.int .i64 0,.bool false]) w) ∨
  (∃ p,kLk c n d=some p∧(Instr.lookup 100 (.map (some rm)) (.agg #[.string n,.string d]) true).run Tryz.prog w = .ok (.tuple #[.int .i64 p,.bool true]) w):=by
 obtain ⟨⟨es,ck,hm,hsz,hat⟩,hs,nd⟩:=h
 have hks:∀ e ∈ es.toList,∃ l,keyOf Tryz.prog 95 e.key=some l:=fun e he=>by
  rw [Array.mem_toList_iff,Array.mem_iff_getElem?] at he
  obtain ⟨i,hi⟩:=he
  have hl:i<(mKeys c).length:=by rw [← hsz];exact (Array.getElem?_eq_some_iff.1 hi).1
  obtain ⟨x,h1,h2,_⟩:=hat i hl
  rw [hi] at h1
  cases h1
  rw [h2]
  exact key_pair _ _ (hs _ (List.getElem_mem hl)).1 (hs _ (List.getElem_mem hl)).2
 obtain ⟨l,hx⟩:=key_pair n d hn hd
 rcases run_look1 pairLaw Tryz.underlying100 hm hks hx (zI64 w) with ⟨hno,hr,_⟩ | ⟨j,e,hj,hk,hr,_⟩
 ·refine .inl ⟨kLk_no fun j hj e=>?_,hr⟩
  obtain ⟨x,h1,h2,_⟩:=hat j hj
  refine hno x (MapFrom.at_mem h1) ?_
  rw [h2,e.1,e.2]
 ·have hl:j<(mKeys c).length:=by rw [← hsz];exact (Array.getElem?_eq_some_iff.1 hj).1
  obtain ⟨x,h1,h2,h3⟩:=hat j hl
  rw [hj] at h1
  cases h1
  rw [hk] at h2
  have e1:(mKeys c)[j].1=n∧(mKeys c)[j].2.1=d:=by simpa [eq_comm] using h2
  exact .inr ⟨_,kLk_at hl e1.1 e1.2 nd,by rw [hr,h3]⟩
def fmF (n d:ByteArray):List WE→ByteArray × Int × Int
 | []=>(tE,0,8)
 | x :: t=>match kLk x.c n d with
  | some p=>(nmC x.c,p,0)
  | none=>if n=initN then (tE,0,8) else fmF n d t
def fdV (x:ByteArray × Int × Int):Value:=.agg #[.string x.1,.int .i64 x.2.1,.int .i64 x.2.2]
theorem wy_sub (E:List WE) (n:ByteArray):∀ x ∈ wyG E n,x ∈ E:=(wayG_inv (nm:=nmE) (su:=suE) E (E.length+1) [] n (by simp) (by simp)).2.1
set_option maxRecDepth 100000 in
set_option maxHeartbeats 4000000 in
theorem implFindMethod (lv:Value) (r:Nat) (E:List WE) (es:Array MapEntry) (ck:Nat) (cl n d:ByteArray) (w:World) (h:WmIs w r E es ck) (hl:∃ a k c,lv = .slice a k c) (hE:E.length≤100) (hcl:cl.size≤maxLen) (hn:n.size≤maxLen) (hd:d.size≤maxLen) (hsm:∀ x ∈ E,(nmC x.c).size≤281474976710656) :
  Calls Tryz.prog 62 #[wdV lv r,.string cl,.agg #[.string n,.string d]] w fun e w'=>e = .returned (fdV (fmF n d (wyG E cl)))∧Below w.heap.size w w':=by
 have HWu:Hid (∀ w',Below w.heap.size w w'→Calls Tryz.prog 83 #[.agg #[lv,.map (some r)],.string cl] w' fun e w2=>Below w'.heap.size w' w2∧∃ v,e = .returned v∧w2.ownsRow w'.heap.size 102 7 v (wyG E cl).length ((wyG E cl).flatMap weC)):=fun w' hb=>implWayUp lv r E es ck cl w' (h.below hb) hcl hl hE
 have HLk:Hid (∀ i (hi:i<(wyG E cl).length) w',Below w.heap.size w w'→(kLk (wyG E cl)[i].c n d=none∧(Instr.lookup 100 (.map (some (wyG E cl)[i].rm)) (.agg #[.string n,.string d]) true).run Tryz.prog w' = .ok (.tuple #[.int .i64 0,.bool false]) w') ∨
  (∃ p,kLk (wyG E cl)[i].c n d=some p∧(Instr.lookup 100 (.map (some (wyG E cl)[i].rm)) (.agg #[.string n,.string d]) true).run Tryz.prog w' = .ok (.tuple #[.int .i64 p,.bool true]) w')):=fun i hi w' hb=>((h.lies _ (wy_sub E cl _ (List.getElem_mem hi))).k.below hb).look n d hn hd
 have HCl:Hid (∀ i (hi:i<(wyG E cl).length) w',Calls Tryz.prog 43 #[.string (nmC (wyG E cl)[i].c)] w' fun e w2=>e = .returned (.string (nmC (wyG E cl)[i].c))∧Below w'.heap.size w' w2):=fun i hi w'=>libClone _ w' (hsm _ (wy_sub E cl _ (List.getElem_mem hi)))
 obtain ⟨la,lk,lc,rfl⟩:=hl
 generalize wyG E cl=T at *
 have HF:Hid (∀ i (hi:i<T.length),fmF n d (T.drop i)=match kLk T[i].c n d with
  | some p=>(nmC T[i].c,p,0)
  | none=>if n=initN then (tE,0,8) else fmF n d (T.drop (i+1))):=fun i hi=>by rw [List.drop_eq_getElem_cons hi];rfl
 have HF0:Hid (fmF n d T=fmF n d (T.drop 0)):=rfl
 generalize fmF n d T=res at *
 unfold wdV
 clear h hsm
 go_enter Tryz.func62,Tryz.ntmps62
 go_wp2_with fail
 refine Calls.mono (HWu.out _ (below_al3 _ _ _ _)) ?_
 rintro e w1 ⟨hb1,v,rfl,ho⟩
 have HB1:Hid (Below w.heap.size w w1):=(below_al3 _ _ _ _).trans (hb1.mono (by simp;omega))
 have k0:=cC hb1 (w.heap.size+1) 0 (.string n) (by first | (simp;done) | (simp;omega)) (by simp [go_sem])
 have k1:=cC hb1 (w.heap.size+1) 1 (.string d) (by first | (simp;done) | (simp;omega)) (by simp [go_sem])
 have r0:=cC hb1 (w.heap.size+1+1) 0 (.string ⟨#[]⟩) (by simp) (by simp [go_sem])
 have r1:=cC hb1 (w.heap.size+1+1) 1 (.int .i64 0) (by simp) (by simp [go_sem])
 have r2:=cC hb1 (w.heap.size+1+1) 2 (.int .i64 0) (by simp) (by simp [go_sem])
 have fr:∀ j,w1.frozen? ⟨w.heap.size+1+1,j,none⟩=false:=fun j=>carryF hb1 (by simp) (by simp [go_sem])
 have hz:w.heap.size+1+1<w1.heap.size:=by have:=hb1.size;simp at this;omega
 have HO1:=(show Hid (WyAt w1 (w.heap.size+3) v T) from (WyAt.mk ho).base (by simp))
 obtain ⟨va,vcap,rfl,hcap,hvc,_⟩:=HO1.out.slice
 unfold maxLen at hcap
 clear hb1 ho HWu
 go_wp2_with fail
 go_loopw [15] (fun j15 wr=>∃ i:Nat,i≤T.length∧j15 = .int .i64 (i:Int)∧Below w1.heap.size w1 wr∧res=fmF n d (T.drop i)) (fun j15 _=>T.length - (intOf j15).toNat)
 case atStart=>exact⟨0,Nat.zero_le _,rfl,Below.refl _ _,HF0.out⟩
 case round =>
  obtain ⟨i,hi,rfl,hb,hres⟩:=hrel
  have HRs:=(show Hid (res=fmF n d (T.drop i)) from hres)
  have HBr:Hid (Below w.heap.size w wr):=HB1.out.trans (hb.mono HB1.out.size)
  have HBo:Hid (Below w1.heap.size w1 wr):=hb
  replace k0:=carry hb (show w.heap.size+1<w1.heap.size by omega) k0
  replace k1:=carry hb (show w.heap.size+1<w1.heap.size by omega) k1
  replace r0:=carry hb hz r0
  replace r1:=carry hb hz r1
  replace r2:=carry hb hz r2
  replace fr:∀ j,wr.frozen? ⟨w.heap.size+1+1,j,none⟩=false:=fun j=>carryF hb hz (fr j)
  have hz1:w.heap.size+1+1<wr.heap.size:=Nat.lt_of_lt_of_le hz hb.size
  have HOr:=(show Hid (WyAt wr (w.heap.size+3) (.slice va T.length vcap) T) from HO1.out.below hb)
  clear hb hres
  by_cases hlt:i<T.length
  ·obtain ⟨va',vcap',ev,_,_,hcell⟩:=HOr.out.slice
   cases ev
   obtain ⟨g,rfl,hg1,hg2,c0,c1,c2,c3,c4,c5,c6⟩:=hcell i hlt
   clear hcell HOr
   unfold WE.vc at c4
   unfold WE.vh at c5
   have hfi:=HF.out i hlt
   rw [← HRs.out] at hfi
   have HCl1:=(show Hid (∀ w',Calls Tryz.prog 43 #[.string (nmC T[i].c)] w' fun e w2=>e = .returned (.string (nmC T[i].c))∧Below w'.heap.size w' w2) from HCl.out i hlt)
   have hlkA:=HLk.out i hlt (wr.alloc (.cells #[.string (nmC T[i].c),.string (suC T[i].c),.bool (fiC T[i].c),.bool (abC T[i].c),.slice T[i].fa (fsC T[i].c).length T[i].fc,.slice T[i].ma (msC T[i].c).length T[i].mc,.map (some T[i].rm)] 102)) (HBr.out.alloc (by omega) _)
   have ka0:∀ o,(wr.alloc o).cell? ⟨w.heap.size+1,0,none⟩=some (.string n):=fun o=>carry (below_al wr o) (show w.heap.size+1<wr.heap.size by omega) k0
   have ka1:∀ o,(wr.alloc o).cell? ⟨w.heap.size+1,1,none⟩=some (.string d):=fun o=>carry (below_al wr o) (show w.heap.size+1<wr.heap.size by omega) k1
   have ra0:∀ o,(wr.alloc o).cell? ⟨w.heap.size+1+1,0,none⟩=some (.string ⟨#[]⟩):=fun o=>carry (below_al wr o) hz1 r0
   have ra1:∀ o,(wr.alloc o).cell? ⟨w.heap.size+1+1,1,none⟩=some (.int .i64 0):=fun o=>carry (below_al wr o) hz1 r1
   have ra2:∀ o,(wr.alloc o).cell? ⟨w.heap.size+1+1,2,none⟩=some (.int .i64 0):=fun o=>carry (below_al wr o) hz1 r2
   have fra:∀ o j,(wr.alloc o).frozen? ⟨w.heap.size+1+1,j,none⟩=false:=fun o j=>carryF (below_al wr o) hz1 (fr j)
   have HBa:Hid (∀ o,Below w.heap.size w (wr.alloc o)):=fun o=>HBr.out.alloc (by omega) o
   have HBao:Hid (∀ o,Below w1.heap.size w1 (wr.alloc o)):=fun o=>HBo.out.alloc HBo.out.size o
   rcases hlkA with ⟨e1,hlk⟩ | ⟨p,e1,hlk⟩
   ·rw [e1] at hfi
    clear e1
    by_cases hin:n=initN
    ·have HZ:Hid (res=(tE,0,8)):=by show _=_;rw [hfi];simp [hin]
     have din:=init_eq' hin
     clear hfi hin HRs
     generalize T[i]=y at *
     have q3:=set3_al hz1 r0 r1 r2 (.string ⟨#[]⟩) (.int .i64 0) (.int .i64 8)
     have q30:=fun o=>(q3 o).1
     have q31:=fun o=>(q3 o).2.1
     have q32:=fun o=>(q3 o).2.2
     clear q3
     go_wp2
     exact bodyPost_ret (v:=.agg #[.string ⟨#[]⟩,.int .i64 0,.int .i64 8]) (by simp [results,Tryz.results62,go_sem,q30,q31,q32]) rfl ⟨by rw [HZ.out];rfl,(((HBr.out.setCell (by simp;omega) _).setCell (by simp;omega) _).setCell (by simp;omega) _).alloc (by simp;omega) _⟩
    ·have HZ:Hid (res=fmF n d (T.drop (i+1))):=by show _=_;rw [hfi];simp [hin]
     have din:=init_ne' hin
     clear hfi HRs hin
     generalize T[i]=y at *
     go_wp2
     go_roundw
     case rel=>exact⟨i+1,by omega,by go_num,HBao.out _,HZ.out⟩
     case measure=>simp [intOf];omega
   ·rw [e1] at hfi
    have HZ:Hid (res=(nmC T[i].c,p,0)):=hfi
    clear hfi e1 HRs
    generalize T[i]=y at *
    go_wp2_with fail
    refine Calls.mono (HCl1.out _) ?_
    rintro e w2 ⟨rfl,hb2⟩
    have HB2:Hid (Below w.heap.size w w2):=(HBa.out _).trans (hb2.mono (HBa.out _).size)
    have s0:=carry hb2 (show w.heap.size+1+1<_ by simp;omega) (ra0 _)
    have s1:=carry hb2 (show w.heap.size+1+1<_ by simp;omega) (ra1 _)
    have s2:=carry hb2 (show w.heap.size+1+1<_ by simp;omega) (ra2 _)
    have fs:∀ j,w2.frozen? ⟨w.heap.size+1+1,j,none⟩=false:=fun j=>carryF hb2 (by simp;omega) (fra _ j)
    clear hb2 ra0 ra1 ra2 fra
    go_wp2
    exact bodyPost_ret (v:=.agg #[.string (nmC y.c),.int .i64 p,.int .i64 0]) (by simp [results,Tryz.results62,go_sem,s0,s1,s2]) rfl ⟨by rw [HZ.out];rfl,((HB2.out.setCell (by simp;omega) _).setCell (by simp;omega) _).setCell (by simp;omega) _⟩
  ·obtain rfl:i=T.length:=by omega
   have HZ:Hid (res=(tE,0,8)):=by show _=_;rw [HRs.out,List.drop_length];rfl
   clear HRs HOr
   go_wp2
   exact bodyPost_ret (v:=.agg #[.string ⟨#[]⟩,.int .i64 0,.int .i64 8]) (by simp [results,Tryz.results62,go_sem,r0,r1,r2]) rfl ⟨by rw [HZ.out];rfl,((HBr.out.setCell (by simp;omega) _).setCell (by simp;omega) _).setCell (by simp;omega) _⟩
end Go.Proofs.YtmhgaggpdggbeaaGreatDoor

namespace Go.Proofs.YtmhgaggpdggbeaaGreatDoor
open Go.RowKit
set_option linter.unusedVariables false

def subB (E:List WE) (a b:ByteArray):Bool:=(wyG E a).any fun x=>decide (nmE x=b)
set_option maxRecDepth 100000 in
set_option maxHeartbeats 2000000 in
theorem implIsSubW (lv:Value) (r:Nat) (E:List WE) (es:Array MapEntry) (ck:Nat) (a b:ByteArray) (w:World) (h:WmIs w r E es ck) (hl:∃ a k c,lv = .slice a k c) (hE:E.length≤100) (ha:a.size≤maxLen) :
  Calls Tryz.prog 55 #[wdV lv r,.string a,.string b] w fun e w'=>e = .returned (.bool (subB E a b))∧Below w.heap.size w w':=by
 have HWu:Hid (∀ w',Below w.heap.size w w'→Calls Tryz.prog 83 #[.agg #[lv,.map (some r)],.string a] w' fun e w2=>Below w'.heap.size w' w2∧∃ v,e = .returned v∧w2.ownsRow w'.heap.size 102 7 v (wyG E a).length ((wyG E a).flatMap weC)):=fun w' hb=>implWayUp lv r E es ck a w' (h.below hb) ha hl hE
 obtain ⟨la,lk,lc,rfl⟩:=hl
 have HY:Hid (∀ i (hi:i<(wyG E a).length),nmE (wyG E a)[i]=b→true=subB E a b):=fun i hi e=>by
  show _=_
  unfold subB
  exact (List.any_eq_true.2 ⟨_,List.getElem_mem hi,by simpa using e⟩).symm
 have HN:Hid ((∀ i (hi:i<(wyG E a).length),nmE (wyG E a)[i] ≠ b)→false=subB E a b):=fun e=>by
  show _=_
  unfold subB
  refine (List.any_eq_false.2 fun x hx=>?_).symm
  obtain ⟨i,hi,rfl⟩:=List.mem_iff_getElem.1 hx
  simpa using e i hi
 generalize subB E a b=res at *
 generalize wyG E a=T at *
 unfold wdV
 clear h
 go_enter Tryz.func55,Tryz.ntmps55
 go_wp2_with fail
 refine Calls.mono (HWu.out _ (below_al _ _)) ?_
 rintro e w1 ⟨hb1,v,rfl,ho⟩
 have HB1:Hid (Below w.heap.size w w1):=(below_al _ _).trans (hb1.mono (by simp))
 have HO1:=(show Hid (WyAt w1 (w.heap.size+1) v T) from (WyAt.mk ho).base (by simp))
 obtain ⟨va,vcap,rfl,hcap,hvc,_⟩:=HO1.out.slice
 unfold maxLen at hcap
 clear hb1 ho HWu
 go_wp2_with fail
 go_loopw [13] (fun j13 wr=>∃ i:Nat,i≤T.length∧j13 = .int .i64 (i:Int)∧Below w1.heap.size w1 wr∧∀ j (hj:j<T.length),j<i→nmE T[j] ≠ b) (fun j13 _=>T.length - (intOf j13).toNat)
 case atStart=>exact⟨0,Nat.zero_le _,rfl,Below.refl _ _,fun j _ h=>absurd h (by omega)⟩
 case round =>
  obtain ⟨i,hi,rfl,hb,hno⟩:=hrel
  have HNo:=(show Hid (∀ j (hj:j<T.length),j<i→nmE T[j] ≠ b) from hno)
  have HBr:Hid (Below w.heap.size w wr):=HB1.out.trans (hb.mono HB1.out.size)
  have HBo:Hid (Below w1.heap.size w1 wr):=hb
  have HOr:=(show Hid (WyAt wr (w.heap.size+1) (.slice va T.length vcap) T) from HO1.out.below hb)
  clear hb hno
  by_cases hlt:i<T.length
  ·obtain ⟨va',vcap',ev,_,_,hcell⟩:=HOr.out.slice
   cases ev
   obtain ⟨g,rfl,hg1,hg2,c0,c1,c2,c3,c4,c5,c6⟩:=hcell i hlt
   clear hcell HOr
   unfold WE.vc at c4
   unfold WE.vh at c5
   have HBa:Hid (∀ o,Below w.heap.size w (wr.alloc o)):=fun o=>HBr.out.alloc HBr.out.size o
   have HBao:Hid (∀ o,Below w1.heap.size w1 (wr.alloc o)):=fun o=>HBo.out.alloc HBo.out.size o
   by_cases e:nmE T[i]=b
   ·have HZ:Hid (true=res):=HY.out i hlt e
    have d:=tx_eq e
    clear e HNo
    generalize T[i]=y at *
    go_wp2
    go_ret
    exact⟨rB HZ.out,HBa.out _⟩
   ·have HZ:Hid (∀ j (hj:j<T.length),j<i+1→nmE T[j] ≠ b):=fun j hj hji=>by
     by_cases e2:j=i
     ·subst e2;exact e
     ·exact HNo.out j hj (by omega)
    have d:=tx_ne e
    clear e HNo
    generalize T[i]=y at *
    go_wp2
    go_roundw
    case rel=>exact⟨i+1,by omega,by go_num,HBao.out _,HZ.out⟩
    case measure=>simp [intOf];omega
  ·obtain rfl:i=T.length:=by omega
   have HZ:Hid (false=res):=HN.out fun j hj=>HNo.out j hj hj
   clear HNo HOr
   go_wp2
   go_ret
   exact⟨rB HZ.out,HBr.out⟩
end Go.Proofs.YtmhgaggpdggbeaaGreatDoor
