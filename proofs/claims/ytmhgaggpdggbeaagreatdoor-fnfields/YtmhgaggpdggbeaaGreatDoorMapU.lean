import Derived.Test.YtmhgaggpdggbeaaGreatDoorFlat
import Derived.DeepKeys3
import Derived.StringKeys
import Derived.WideKeyMaps
import Derived.Carry
import Derived.WideLaws
namespace Go.Proofs.YtmhgaggpdggbeaaGreatDoor
open Go.RowKit
set_option maxRecDepth 20000
open Go.WideMaps (KeyLaw)
set_option linter.unusedVariables false

def mapPut (w:World) (r:Nat) (o:Obj):World:={ w with heap:=w.heap.setIfInBounds r o }

theorem mapPut_at {w:World} {r:Nat} {o o':Obj} (hb:w.heap[r]?=some o):(mapPut w r o').heap[r]?=some o':=(MapKept.heap_set hb).1
theorem mapPut_other {w:World} {r k:Nat} {o':Obj} (h:k ≠ r):(mapPut w r o').heap[k]?=w.heap[k]?:=by
 unfold mapPut
 simp [Ne.symm h]
theorem mapPut_size (w:World) (r:Nat) (o:Obj):(mapPut w r o).heap.size=w.heap.size:=by unfold mapPut;simp
theorem mapPut_below {B r:Nat} {a w:World} (h:Below B a w) (hr:B≤r) (o:Obj):Below B a (mapPut w r o) :=
 h.trans ⟨rfl,rfl,rfl,by rw [mapPut_size];exact Nat.le_refl _,fun k hk=>mapPut_other (by omega)⟩

theorem run_upd {P:Program} {kt et mty:TypeId} (K:KeyLaw P kt) (hm:P.underlying mty=some (.map kt et)) {w:World} {r:Nat} {es:Array MapEntry} {clock:Nat} (hb:w.heap[r]?=some (.map es clock))
  (hks:∀ e ∈ es.toList,∃ l,keyOf P kt e.key=some l) {x:Value} {l:Lit} (hx:keyOf P kt x=some l) (val:Value) :
  ((∀ e ∈ es.toList,e.key ≠ x)∧(Instr.mapUpdate mty (.map (some r)) x val).run P w = .ok () (mapPut w r (.map (es.push { key:=x,val:=val,born:=clock }) (clock+1)))) ∨
  (∃ j e,es[j]?=some e∧e.key=x∧(Instr.mapUpdate mty (.map (some r)) x val).run P w = .ok () (mapPut w r (.map (es.modify j fun e=>{ e with key:=x,val:=val }) clock))):=by
 have hc:=K.check w false hx
 rcases K.find w hx es.toList hks with ⟨h1,h2⟩ | ⟨j,e,h1,h2,h3⟩
 ·refine .inl ⟨h2,?_⟩
  simp [Instr.mapUpdate,run_underlying hm,MapKept.run_getObj_map hb,hc,h1,MapKept.run_setObj_map _ hb,Result.andThen,mapPut]
 ·have hj:es[j]?=some e:=by simpa using h2
  refine .inr ⟨j,e,hj,h3,?_⟩
  have hst:=K.stays w hx
  simp [Instr.mapUpdate,run_underlying hm,MapKept.run_getObj_map hb,hc,h1,hj,h3,hst,MapKept.run_setObj_map _ hb,Result.andThen,mapPut]

structure KInv (ks:List Value) (i:Nat) (es:Array MapEntry):Prop where
 keys:∀ v,(∃ e ∈ es.toList,e.key=v) ↔ v ∈ ks.take i
 le:es.size≤i
 eq:es.size=i ↔ (ks.take i).Nodup

theorem KInv.start (ks:List Value):KInv ks 0 #[]:=⟨by simp,by simp,by simp⟩
theorem KInv.new {ks:List Value} {i:Nat} {es:Array MapEntry} (h:KInv ks i es) (hi:i<ks.length) (hn:∀ e ∈ es.toList,e.key ≠ ks[i]) (val:Value) (born:Nat):KInv ks (i+1) (es.push { key:=ks[i],val:=val,born:=born }):=by
 have ht:ks.take (i+1)=ks.take i ++ [ks[i]]:=by rw [List.take_add_one,List.getElem?_eq_getElem hi];rfl
 have hnot:ks[i] ∉ ks.take i:=fun hm=>by
  obtain ⟨e,he,hk⟩:=(h.keys _).2 hm
  exact hn e he hk
 refine ⟨fun v=>?_,by simp;have:=h.le;omega,?_⟩
 ·rw [ht,List.mem_append,← h.keys v]
  simp only [Array.toList_push,List.mem_append,List.mem_singleton]
  constructor
  ·rintro ⟨e,he | rfl,hk⟩
   ·exact .inl ⟨e,he,hk⟩
   ·exact .inr hk.symm
  ·rintro (⟨e,he,hk⟩ | rfl)
   ·exact⟨e,.inl he,hk⟩
   ·exact⟨_,.inr rfl,rfl⟩
 ·rw [ht,List.nodup_append,← h.eq]
  simp only [Array.size_push]
  constructor
  ·intro e
   refine ⟨by omega,by simp,fun a ha b hb e2=>?_⟩
   rw [List.mem_singleton] at hb
   subst hb
   exact hnot (e2 ▸ ha)
  ·intro e;omega
theorem KInv.old {ks:List Value} {i:Nat} {es:Array MapEntry} (h:KInv ks i es) (hi:i<ks.length) {j:Nat} {e:MapEntry} (hj:es[j]?=some e) (hk:e.key=ks[i]) (val:Value):KInv ks (i+1) (es.modify j fun e=>{ e with key:=ks[i],val:=val }):=by
 have ht:ks.take (i+1)=ks.take i ++ [ks[i]]:=by rw [List.take_add_one,List.getElem?_eq_getElem hi];rfl
 have hem:e ∈ es.toList:=MapFrom.at_mem hj
 have hin:ks[i] ∈ ks.take i:=(h.keys _).1 ⟨e,hem,hk⟩
 refine ⟨fun v=>?_,by simp;have:=h.le;omega,?_⟩
 ·rw [ht,List.mem_append,List.mem_singleton]
  constructor
  ·rintro ⟨e',he',hv⟩
   rcases MapFrom.mem_modify he' with he' | ⟨e2,_,rfl⟩
   ·exact .inl ((h.keys v).1 ⟨e',he',hv⟩)
   ·exact .inr hv.symm
  ·rintro (hv | rfl)
   ·obtain ⟨e',he',hk'⟩:=(h.keys v).2 hv
    rw [Array.mem_toList_iff,Array.mem_iff_getElem?] at he'
    obtain ⟨n,hn⟩:=he'
    by_cases hjn:n=j
    ·subst hjn
     rw [hj] at hn
     cases hn
     refine ⟨{ e with key:=ks[i],val:=val },?_,by rw [← hk',hk]⟩
     rw [Array.mem_toList_iff,Array.mem_iff_getElem?]
     exact⟨n,by rw [Array.getElem?_modify,if_pos rfl,hj];rfl⟩
    ·refine ⟨e',?_,hk'⟩
     rw [Array.mem_toList_iff,Array.mem_iff_getElem?]
     exact⟨n,by rw [Array.getElem?_modify,if_neg (by omega),hn]⟩
   ·refine ⟨{ e with key:=ks[i],val:=val },?_,rfl⟩
    rw [Array.mem_toList_iff,Array.mem_iff_getElem?]
    exact⟨j,by rw [Array.getElem?_modify,if_pos rfl,hj];rfl⟩
 ·rw [ht,List.nodup_append]
  simp only [Array.size_modify]
  constructor
  ·intro e2;have:=h.le;omega
  ·intro e2;exact absurd rfl (e2.2.2 ks[i] hin ks[i] (by simp))

theorem strLaw:KeyLaw Tryz.prog 9:=WideMaps.string_law Tryz.underlying9
theorem pairLaw:KeyLaw Tryz.prog 95:=deep_law (m:=3) (by omega) (by kernel_rfl) (by kernel_rfl) (by kernel_rfl)
theorem key_pair (a b:ByteArray) (ha:a.size≤maxLen) (hb:b.size≤maxLen):∃ l,keyOf Tryz.prog 95 (.agg #[.string a,.string b])=some l:=by
 have h1:Tryz.prog.keyType 95 = true:=by kernel_rfl
 have h2:(Value.agg #[.string a,.string b]).formed Tryz.prog 95 = true:=by kernel_rfl
 have hs:∀ (n:Nat) (s:ByteArray),s.size≤maxLen→Tryz.prog.keyLits (n+1) 9 [.string s]=some [.string s.data.toList]:=fun n s h=>by
  unfold Program.keyLits;rw [Tryz.underlying9];simp [h]
 unfold keyOf
 rw [Tryz.underlying95]
 simp only [h1,h2,Bool.and_self,if_true]
 have h3:∀ n,Tryz.prog.keyLits (n+1+1) 95 (Value.agg #[.string a,.string b]).cells.toList=some [.string a.data.toList,.string b.data.toList]:=fun n=>by
  unfold Program.keyLits
  rw [Tryz.underlying95]
  have c1:Tryz.prog.cellsOf 95 = 2:=by kernel_rfl
  have c2:Tryz.prog.cellsOf 9 = 1:=by kernel_rfl
  simp [Value.cells,c1,c2,hs n a ha,hs n b hb]
 have hsz:∃ n,Tryz.prog.types.size+1=n+1+1:=⟨Tryz.prog.types.size - 1,by have:0<Tryz.prog.types.size:=of_decide_eq_true (by kernel_rfl);omega⟩
 obtain ⟨n,hn⟩:=hsz
 rw [hn,h3]
 exact⟨_,rfl⟩
end Go.Proofs.YtmhgaggpdggbeaaGreatDoor
