import Derived.Test.YtmhgaggpdggbeaaGreatDoorWi8
import Derived.Test.YtmhgaggpdggbeaaGreatDoorWd3
import Derived.Test.YtmhgaggpdggbeaaGreatDoorWiE
namespace Go.Proofs.YtmhgaggpdggbeaaGreatDoor
open Go.RowKit
set_option maxRecDepth 20000
set_option linter.unusedVariables false

theorem adC_eq {L:List CTup} {E:List WE} {i:Nat} (h:E.map WE.c=allC (L.take i)) (c:CTup):adC E c=cd0 L i c:=by
 unfold adC cd0 knB
 rw [isSomeE,h]
theorem sfC_eq {L:List CTup} {E:List WE} (h:E.map WE.c=allC L) (c:CTup):sfC E c=cd1 L c:=by
 unfold sfC cd1
 have:=lkE E (suC c)
 rw [h] at this
 rw [← this]
 cases lkG nmE E (suC c)<;>rfl
theorem tsK_all (L:List CTup) (c:CTup):tsK L c=(tolL c).all (tyK L):=by
 unfold tsK tolL
 rw [List.all_append,List.all_map,List.all_flatMap]
 congr 1
 refine congrArg (fun f=>(msC c).all f) (funext fun m=>?_)
 unfold deK mtL
 rw [List.all_append]
 simp [mD]
theorem tfC_eq {L:List CTup} {E:List WE} (h:E.map WE.c=allC L) (c:CTup):tfC E c=cd2 L c:=by
 unfold tfC cd2
 rw [tsK_all]
 have:tyE' E=tyK L:=funext fun t=>by unfold tyE' tyK knB;rw [isSomeE,h]
 rw [this]
theorem rfC_eq {L:List CTup} {E:List WE} (hp:Part L L.length) (h:E.map WE.c=allC L) (x:WE) (hx:x.c ∈ L):rfC E x=cd3 L x.c:=by
 unfold rfC cd3
 have e:CycG nmE suE E x ↔ CycG nmC suC L x.c:=by rw [cycE,h];exact hp.two.cyc hx
 by_cases k:CycG nmC suC L x.c
 ·rw [@if_pos _ (Classical.propDecidable _) (e.2 k),@if_pos _ (Classical.propDecidable _) k]
 ·rw [@if_neg _ (Classical.propDecidable _) (fun q=>k (e.1 q)),@if_neg _ (Classical.propDecidable _) k]
theorem tol_sz {w:World} {c:CTup} {fa:Option Addr} {fc:Nat} {ma:Option Addr} {mc:Nat} (hf:fieldR.slice.In w [.slice fa (fsC c).length fc] (fsC c)) (hm:methR.slice.In w [.slice ma (msC c).length mc] (msC c)):∀ t ∈ tolL c,t.size≤maxLen:=by
 intro t ht
 obtain ⟨_,_,_,_,_,fat⟩:=slice_open (by decide) hf
 obtain ⟨_,_,_,_,_,mat⟩:=slice_open (by decide) hm
 rcases List.mem_append.1 ht with k | k
 ·obtain ⟨f,hf1,rfl⟩:=List.mem_map.1 k
  obtain ⟨i,hi,rfl⟩:=List.mem_iff_getElem.1 hf1
  obtain ⟨b,o,_,hx⟩:=fat i hi
  exact (fieldAt hx).2.2.2.2
 ·obtain ⟨m,hm1,hm2⟩:=List.mem_flatMap.1 k
  obtain ⟨i,hi,rfl⟩:=List.mem_iff_getElem.1 hm1
  obtain ⟨b,o,_,hx⟩:=mat i hi
  obtain ⟨_,_,_,_,_,_,_,_,_,_,_,_,s1,_⟩:=methAt hx
  unfold mtL at hm2
  rcases List.mem_append.1 hm2 with q | q
  ·exact Nat.le_trans ((outD_all _).2 t q) s1
  ·simp at q;subst q;exact outD_res _ s1
theorem cell_no_map {w:World} {R:Nat} {v:Value} (h:w.cell? ⟨R,0,none⟩=some v) (es:Array MapEntry) (ck:Nat):w.heap[R]? ≠ some (.map es ck):=by
 intro e
 unfold World.cell? at h
 simp only at h
 rw [e] at h
 simp at h
theorem WmIs.move {w w':World} {r:Nat} {E:List WE} {es:Array MapEntry} {ck:Nat} (h:WmIs w r E es ck) (hin:∀ y ∈ E,fieldR.slice.In w' [y.vc] (fsC y.c)∧methR.slice.In w' [y.vh] (msC y.c)) (hk:∀ (k:Nat) (es:Array MapEntry) (ck:Nat),w.heap[k]?=some (Obj.map es ck)→w'.heap[k]?=some (Obj.map es ck)):WmIs w' r E es ck :=
 ⟨hk _ _ _ h.hm,h.size,h.at',fun y hy=>⟨(hin y hy).1,(hin y hy).2,(h.lies y hy).n,(h.lies y hy).s,by
  obtain ⟨⟨es',ck',q1,q2⟩,q3,q4⟩:=(h.lies y hy).k
  exact⟨⟨es',ck',hk _ _ _ q1,q2⟩,q3,q4⟩⟩,h.nd,h.apart⟩
theorem roundAt {L:List CTup} {E:List WE} {es:Array MapEntry} {ck r i:Nat} {av:Option Addr} {cap:Nat} {wr w':World} (hxe:∃ x ∈ E,x.c=L[i]?.getD (tE,tE,false,false,[],[])) (hwm:WmIs wr r E es ck) (hE100:E.length≤100) (hpt:Part L L.length) (hEm:E.map WE.c=allC L) (hlt:i<L.length) (hb:Below wr.heap.size wr w') (fa:Option Addr) (fc:Nat) (ma:Option Addr) (mc:Nat) :
  Calls Tryz.prog 80 #[wdV (.slice av L.length cap) r,clC L[i] fa fc ma mc] w' fun e w2=>e = .returned (.int .i64 (cd3 L L[i]))∧Below w'.heap.size w' w2:=by
 obtain ⟨x,hx,hxc⟩:=hxe
 rw [List.getElem?_eq_getElem hlt] at hxc
 have hxc':x.c=L[i]:=hxc
 have h:=implRound (.slice av L.length cap) r E es ck x fa fc ma mc w' (hwm.below hb) hx hE100 ⟨_,_,_,rfl⟩
 rw [rfC_eq hpt hEm x (hxc' ▸ List.getElem_mem hlt),hxc'] at h
 exact h
theorem But.andThen' {g:Nat} {a b c:World} (h:But g a b) (k:But g b c):But g a c:=⟨k.os.trans h.os,k.tape.trans h.tape,k.output.trans h.output,Nat.le_trans h.size k.size,fun i hi hn=>(k.block i (Nat.lt_of_lt_of_le hi h.size) hn).trans (h.block i hi hn)⟩
def WS (w:World) (r:Nat) (L:List CTup) (p i:Nat) (wr:World):Prop:=∃ E es ck,WmIs wr r E es ck∧E.map WE.c=allC (L.take (if p=0 then i else L.length))∧∀ y ∈ E,fieldR.slice.In w [y.vc] (fsC y.c)∧methR.slice.In w [y.vh] (msC y.c)
theorem WS.next {w:World} {r:Nat} {L:List CTup} {p:Nat} {wr:World} (h:WS w r L p L.length wr):WS w r L (p+1) 0 wr:=by
 obtain ⟨E,es,ck,h1,h2,h3⟩:=h
 refine ⟨E,es,ck,h1,?_,h3⟩
 rw [h2]
 by_cases e:p=0
 ·simp [e]
 ·simp [e]
theorem bi_some {E:List WE} {M:List CTup} (h:E.map WE.c=allC M):∀ n ∈ biN,(lkG nmE E n).isSome=true:=by
 intro n hn
 rw [isSomeE,h,lk_all]
 cases e:lkG nmC biC n with
 | none =>
  have:n ∈ biC.map nmC:=by rw [biC_nm];exact hn
  obtain ⟨b,hb,e2⟩:=List.mem_map.1 this
  exact absurd e2 (lkG_none.1 e b hb)
 | some b=>rfl
set_option maxHeartbeats 4000000 in
theorem implMakeWorldIf (L:List CTup) (v:Value) (w0 w:World) (hb0:Below w0.heap.size w0 w) (h:classR.slice.In w0 [v] L) (ht:Tab w) (hg:Glob w)
  (hmf:L.length≤10→Past L 4→∀ r E es ck c fa fc ma mc w',c ∈ L→WmIs w' r E es ck→E.map WE.c=allC L→fieldR.slice.In w' [.slice fa (fsC c).length fc] (fsC c)→methR.slice.In w' [.slice ma (msC c).length mc] (msC c)→Calls Tryz.prog 81 #[wdV v r,clC c fa fc ma mc] w' fun e w2=>e = .returned (.int .i64 (cd4 L c))∧Below w'.heap.size w' w2) :
  Calls Tryz.prog 41 #[v] w fun e w'=>Below w.heap.size w w'∧∃ wv,e = .returned (.tuple #[wv,.agg #[.int .i64 (wOut L).1,.int .i64 (wOut L).2]])∧((wOut L).2 ≠ 0→wv = .agg #[.slice none 0 0,.map none])∧((wOut L).2=0→∃ r E es ck,wv=wdV v r∧WmIs w' r E es ck∧E.map WE.c=allC L∧∀ y ∈ E,fieldR.slice.In w0 [y.vc] (fsC y.c)∧methR.slice.In w0 [y.vh] (msC y.c)):=by
 obtain ⟨a,cap,rfl,hn,hcap,hat⟩:=slice_open (by decide) h
 have HB0:=(show Hid (Below w0.heap.size w0 w) from hb0)
 clear hb0
 have HMF:=(show Hid _ from hmf)
 clear hmf
 unfold maxLen at hcap
 have HA:Hid (∀ i (h:i<L.length),∃ b o,a=some ⟨b,o,none⟩∧classR.At w0 ⟨b,o,none⟩ i L[i]):=hat
 clear hat
 by_cases h400:400<L.length
 ·have d:decide ((400:Int)<L.length)=true:=by simp;omega
  have HZ:Hid (wOut L=(0,2)):=wOut_big h400
  generalize wOut L=res at *
  go_enter Tryz.func41,Tryz.ntmps41
  go_wp2
  exact bodyPost_ret (v:=.tuple #[.agg #[.slice none 0 0,.map none],.agg #[.int .i64 0,.int .i64 2]]) (by simp [results,Tryz.results41,go_sem]) rfl ⟨below_al2 _ _ _,_,by rw [HZ.out],fun _=>rfl,fun k=>by rw [HZ.out] at k;cases k⟩
 have d400:decide ((400:Int)<L.length)=false:=by simp;omega
 by_cases h10:10<L.length
 ·have d:decide ((10:Int)<L.length)=true:=by simp;omega
  have HZ:Hid (wOut L=(10,1)):=wOut_many h400 h10
  generalize wOut L=res at *
  go_enter Tryz.func41,Tryz.ntmps41
  go_wp2
  exact bodyPost_ret (v:=.tuple #[.agg #[.slice none 0 0,.map none],.agg #[.int .i64 10,.int .i64 1]]) (by simp [results,Tryz.results41,go_sem]) rfl ⟨below_al2 _ _ _,_,by rw [HZ.out],fun _=>rfl,fun k=>by rw [HZ.out] at k;cases k⟩
 have d10:decide ((10:Int)<L.length)=false:=by simp;omega
 have hl10:L.length≤10:=by omega
 have HAt:Hid (∀ p i,p<5→Past L p→i<L.length→(∀ j,j<i→cdP L p j=0)→∀ x:Int,cdP L p i=x→x ≠ 0→wOut L=((i:Int),x)):=fun p i h1 h2 h3 h4 x h5 h6=>by rw [← h5];exact wOut_at hl10 h1 h2 h3 h4 (by rw [h5];exact h6)
 have HOk:Hid (Past L 5→wOut L=(0,0)):=wOut_ok hl10
 have HNx:Hid (∀ p i,(∀ j,j<i→cdP L p j=0)→cdP L p i=0→∀ j,j<i+1→cdP L p j=0):=fun p i h1 h2 j hj=>by
  by_cases e:j=i
  ·subst e;exact h2
  ·exact h1 j (by omega)
 have HTG:=(show Hid (Tab w∧Glob w) from ⟨ht,hg⟩)
 clear ht hg h
 generalize wOut L=res at *
 have HAB:Hid (∀ w',w'.heap[w.heap.size+1+1]?=some (.map #[] 0)→Calls Tryz.prog 76 #[.agg #[.slice a L.length cap,.map (some (w.heap.size+1+1))]] w' fun e w2=>e = .returned (.tuple #[])∧But (w.heap.size+1+1) w' w2∧∃ E es ck,WmIs w2 (w.heap.size+1+1) E es ck∧E.map (fun x=>x.c)=biC∧∀ y ∈ E,y.fa=none∧y.fc=0∧y.ma=none∧y.mc=0):=fun w' hh=>implAddBuiltIn _ _ w' hh ⟨_,_,_,rfl⟩
 have hmm:=@run_makeMap Tryz.prog
 go_enter Tryz.func41,Tryz.ntmps41
 go_wp2_with fail
 have hbW:Below w.heap.size w ((((w.alloc (.cells #[.slice none 0 0,.map none] 72)).alloc (.cells #[.int .i64 0,.int .i64 0] 47)).alloc (.map #[] 0)).alloc (.cells #[.slice a L.length cap,.map (some (w.heap.size+1+1))] 72)):=(below_al3 w _ _ _).alloc (by simp;omega) _
 have hmp:((((w.alloc (.cells #[.slice none 0 0,.map none] 72)).alloc (.cells #[.int .i64 0,.int .i64 0] 47)).alloc (.map #[] 0)).alloc (.cells #[.slice a L.length cap,.map (some (w.heap.size+1+1))] 72)).heap[w.heap.size+1+1]?=some (.map #[] 0):=by
  rw [Below.heap_alloc _ _ _ (by simp)]
  have:=heap_alloc_new ((w.alloc (.cells #[.slice none 0 0,.map none] 72)).alloc (.cells #[.int .i64 0,.int .i64 0] 47)) (.map #[] 0)
  simpa using this
 have x0:((((w.alloc (.cells #[.slice none 0 0,.map none] 72)).alloc (.cells #[.int .i64 0,.int .i64 0] 47)).alloc (.map #[] 0)).alloc (.cells #[.slice a L.length cap,.map (some (w.heap.size+1+1))] 72)).cell? ⟨w.heap.size+1+1+1,0,none⟩=some (.slice a L.length cap):=by simp [go_sem]
 have x1:((((w.alloc (.cells #[.slice none 0 0,.map none] 72)).alloc (.cells #[.int .i64 0,.int .i64 0] 47)).alloc (.map #[] 0)).alloc (.cells #[.slice a L.length cap,.map (some (w.heap.size+1+1))] 72)).cell? ⟨w.heap.size+1+1+1,1,none⟩=some (.map (some (w.heap.size+1+1))):=by simp [go_sem]
 have q0:((((w.alloc (.cells #[.slice none 0 0,.map none] 72)).alloc (.cells #[.int .i64 0,.int .i64 0] 47)).alloc (.map #[] 0)).alloc (.cells #[.slice a L.length cap,.map (some (w.heap.size+1+1))] 72)).cell? ⟨w.heap.size,0,none⟩=some (.slice none 0 0):=by simp [go_sem]
 have q1:((((w.alloc (.cells #[.slice none 0 0,.map none] 72)).alloc (.cells #[.int .i64 0,.int .i64 0] 47)).alloc (.map #[] 0)).alloc (.cells #[.slice a L.length cap,.map (some (w.heap.size+1+1))] 72)).cell? ⟨w.heap.size,1,none⟩=some (.map none):=by simp [go_sem]
 have q2:((((w.alloc (.cells #[.slice none 0 0,.map none] 72)).alloc (.cells #[.int .i64 0,.int .i64 0] 47)).alloc (.map #[] 0)).alloc (.cells #[.slice a L.length cap,.map (some (w.heap.size+1+1))] 72)).cell? ⟨w.heap.size+1,0,none⟩=some (.int .i64 0):=by simp [go_sem]
 have q3:((((w.alloc (.cells #[.slice none 0 0,.map none] 72)).alloc (.cells #[.int .i64 0,.int .i64 0] 47)).alloc (.map #[] 0)).alloc (.cells #[.slice a L.length cap,.map (some (w.heap.size+1+1))] 72)).cell? ⟨w.heap.size+1,1,none⟩=some (.int .i64 0):=by simp [go_sem]
 have fq0:∀ j,((((w.alloc (.cells #[.slice none 0 0,.map none] 72)).alloc (.cells #[.int .i64 0,.int .i64 0] 47)).alloc (.map #[] 0)).alloc (.cells #[.slice a L.length cap,.map (some (w.heap.size+1+1))] 72)).frozen? ⟨w.heap.size,j,none⟩=false:=fun j=>by simp [go_sem]
 have fq1:∀ j,((((w.alloc (.cells #[.slice none 0 0,.map none] 72)).alloc (.cells #[.int .i64 0,.int .i64 0] 47)).alloc (.map #[] 0)).alloc (.cells #[.slice a L.length cap,.map (some (w.heap.size+1+1))] 72)).frozen? ⟨w.heap.size+1,j,none⟩=false:=fun j=>by simp [go_sem]
 have hzW:((((w.alloc (.cells #[.slice none 0 0,.map none] 72)).alloc (.cells #[.int .i64 0,.int .i64 0] 47)).alloc (.map #[] 0)).alloc (.cells #[.slice a L.length cap,.map (some (w.heap.size+1+1))] 72)).heap.size=w.heap.size+4:=by simp
 generalize ((((w.alloc (.cells #[.slice none 0 0,.map none] 72)).alloc (.cells #[.int .i64 0,.int .i64 0] 47)).alloc (.map #[] 0)).alloc (.cells #[.slice a L.length cap,.map (some (w.heap.size+1+1))] 72))=W at *
 refine Calls.mono (HAB.out _ hmp) ?_
 rintro e w1 ⟨rfl,hbut,E0,es0,ck0,hwm0,hE0,hEy0⟩
 replace x0:=hbut.cell (p:=⟨w.heap.size+1+1+1,0,none⟩) (by simp;omega) (by simp) x0
 replace x1:=hbut.cell (p:=⟨w.heap.size+1+1+1,1,none⟩) (by simp;omega) (by simp) x1
 have HBW:Hid (Below w.heap.size w W):=hbW
 have hz1:w.heap.size+4≤w1.heap.size:=by have:=hbut.size;omega
 replace q0:=hbut.cell (p:=⟨w.heap.size,0,none⟩) (by simp;omega) (by simp;omega) q0
 replace q1:=hbut.cell (p:=⟨w.heap.size,1,none⟩) (by simp;omega) (by simp;omega) q1
 replace q2:=hbut.cell (p:=⟨w.heap.size+1,0,none⟩) (by simp;omega) (by simp) q2
 replace q3:=hbut.cell (p:=⟨w.heap.size+1,1,none⟩) (by simp;omega) (by simp) q3
 replace fq0:∀ j,w1.frozen? ⟨w.heap.size,j,none⟩=false:=fun j=>(World.frozen?_of_block (hbut.block w.heap.size (by omega) (by omega))).trans (fq0 j)
 replace fq1:∀ j,w1.frozen? ⟨w.heap.size+1,j,none⟩=false:=fun j=>(World.frozen?_of_block (hbut.block (w.heap.size+1) (by omega) (by omega))).trans (fq1 j)
 have HB1:Hid (Below w.heap.size w w1):=hbut.below HBW.out (by omega) (Nat.le_refl _)
 have hWS0:WS w0 (w.heap.size+1+1) L 0 0 w1:=by
  refine ⟨E0,es0,ck0,hwm0,by rw [show E0.map WE.c=biC from hE0];simp [allC],fun y hy=>?_⟩
  have he:y.c ∈ biC:=by rw [← hE0];exact List.mem_map.2 ⟨y,hy,rfl⟩
  have hemp:=biC_empty y.c he
  obtain ⟨k1,k2,k3,k4⟩:=hEy0 y hy
  unfold WE.vc WE.vh
  rw [k1,k2,k3,k4,hemp.1,hemp.2.1]
  exact in_none w0
 have HWS:=(show Hid (WS w0 (w.heap.size+1+1) L 0 0 w1) from hWS0)
 clear hwm0 hE0 hEy0 hWS0 hbut hmp hbW E0 es0 ck0
 have HV:Hid (∀ V,(w1.alloc (.cells #[.func (.func 77) #[] #[],.func (.func 78) #[] #[],.func (.func 79) #[] #[],.func (.func 80) #[] #[],.func (.func 81) #[] #[]] 108))=V→∀ wr,But (w.heap.size+1+1) V wr→wr.cell? ⟨w.heap.size+1+1+1,0,none⟩=some (.slice a L.length cap)∧wr.cell? ⟨w.heap.size+1+1+1,1,none⟩=some (.map (some (w.heap.size+1+1)))∧wr.cell? ⟨w.heap.size,0,none⟩=some (.slice none 0 0)∧wr.cell? ⟨w.heap.size,1,none⟩=some (.map none)∧wr.cell? ⟨w.heap.size+1,0,none⟩=some (.int .i64 0)∧wr.cell? ⟨w.heap.size+1,1,none⟩=some (.int .i64 0)∧wr.cell? ⟨w1.heap.size,0,none⟩=some (.func (.func 77) #[] #[])∧wr.cell? ⟨w1.heap.size,1,none⟩=some (.func (.func 78) #[] #[])∧wr.cell? ⟨w1.heap.size,2,none⟩=some (.func (.func 79) #[] #[])∧wr.cell? ⟨w1.heap.size,3,none⟩=some (.func (.func 80) #[] #[])∧wr.cell? ⟨w1.heap.size,4,none⟩=some (.func (.func 81) #[] #[])∧(∀ j,wr.frozen? ⟨w.heap.size,j,none⟩=false)∧(∀ j,wr.frozen? ⟨w.heap.size+1,j,none⟩=false)∧Below w.heap.size w wr∧w1.heap.size<wr.heap.size):=fun V hV wr hb=>by
  have hba:=below_al w1 (.cells #[.func (.func 77) #[] #[],.func (.func 78) #[] #[],.func (.func 79) #[] #[],.func (.func 80) #[] #[],.func (.func 81) #[] #[]] 108)
  have hzV:(w1.alloc (.cells #[.func (.func 77) #[] #[],.func (.func 78) #[] #[],.func (.func 79) #[] #[],.func (.func 80) #[] #[],.func (.func 81) #[] #[]] 108)).heap.size=w1.heap.size+1:=by simp
  rw [hV] at hba hzV
  have hN:=heap_alloc_new w1 (.cells #[.func (.func 77) #[] #[],.func (.func 78) #[] #[],.func (.func 79) #[] #[],.func (.func 80) #[] #[],.func (.func 81) #[] #[]] 108)
  refine ⟨hb.cell (p:=⟨w.heap.size+1+1+1,0,none⟩) (by first | (simp;done) | (simp;omega)) (by first | (simp;done) | (simp;omega)) (carry hba (by first | (simp;done) | (simp;omega)) x0),hb.cell (p:=⟨w.heap.size+1+1+1,1,none⟩) (by first | (simp;done) | (simp;omega)) (by first | (simp;done) | (simp;omega)) (carry hba (by first | (simp;done) | (simp;omega)) x1),hb.cell (p:=⟨w.heap.size,0,none⟩) (by first | (simp;done) | (simp;omega)) (by first | (simp;done) | (simp;omega)) (carry hba (by first | (simp;done) | (simp;omega)) q0),hb.cell (p:=⟨w.heap.size,1,none⟩) (by first | (simp;done) | (simp;omega)) (by first | (simp;done) | (simp;omega)) (carry hba (by first | (simp;done) | (simp;omega)) q1),hb.cell (p:=⟨w.heap.size+1,0,none⟩) (by first | (simp;done) | (simp;omega)) (by first | (simp;done) | (simp;omega)) (carry hba (by first | (simp;done) | (simp;omega)) q2),hb.cell (p:=⟨w.heap.size+1,1,none⟩) (by first | (simp;done) | (simp;omega)) (by first | (simp;done) | (simp;omega)) (carry hba (by first | (simp;done) | (simp;omega)) q3),hb.cell (p:=⟨w1.heap.size,0,none⟩) (by simp;omega) (by simp;omega) (by rw [← hV];simp [go_sem]),hb.cell (p:=⟨w1.heap.size,1,none⟩) (by simp;omega) (by simp;omega) (by rw [← hV];simp [go_sem]),hb.cell (p:=⟨w1.heap.size,2,none⟩) (by simp;omega) (by simp;omega) (by rw [← hV];simp [go_sem]),hb.cell (p:=⟨w1.heap.size,3,none⟩) (by simp;omega) (by simp;omega) (by rw [← hV];simp [go_sem]),hb.cell (p:=⟨w1.heap.size,4,none⟩) (by simp;omega) (by simp;omega) (by rw [← hV];simp [go_sem]),fun j=>(World.frozen?_of_block (hb.block w.heap.size (by omega) (by omega))).trans (carryF hba (by simp;omega) (fq0 j)),fun j=>(World.frozen?_of_block (hb.block (w.heap.size+1) (by omega) (by omega))).trans (carryF hba (by simp;omega) (fq1 j)),hb.below (HB1.out.trans (hba.mono (by omega))) (by omega) (Nat.le_refl _),by have:=hb.size;omega⟩
 clear x0 x1 q0 q1 q2 q3 fq0 fq1
 have HWV:Hid (WS w0 (w.heap.size+1+1) L 0 0 (w1.alloc (.cells #[.func (.func 77) #[] #[],.func (.func 78) #[] #[],.func (.func 79) #[] #[],.func (.func 80) #[] #[],.func (.func 81) #[] #[]] 108))):=by
  obtain ⟨E,es,ck,h1,h2,h3⟩:=HWS.out
  exact⟨E,es,ck,h1.below (below_al _ _),h2,h3⟩
 go_wp2_with fail
 have HCar:=(show Hid _ from HV.out _ rfl)
 clear HV HWS HAB
 generalize (w1.alloc (.cells #[.func (.func 77) #[] #[],.func (.func 78) #[] #[],.func (.func 79) #[] #[],.func (.func 80) #[] #[],.func (.func 81) #[] #[]] 108))=V at *
 go_loopw [27] (fun j27 wr=>∃ (p:Nat) (z:Int),p≤5∧(p:Int)=z∧j27 = .int .i64 z∧Past L p∧But (w.heap.size+1+1) V wr∧WS w0 (w.heap.size+1+1) L p 0 wr) (fun j27 _=>5 - (intOf j27).toNat)
 case atStart=>exact⟨0,0,by omega,rfl,rfl,fun q hq=>by omega,But.refl _ _,HWV.out⟩
 case round =>
  obtain ⟨p,z,hp,hpz,rfl,hpast,hbut,hws⟩:=hrel
  have HPs:=(show Hid (Past L p) from hpast)
  have HBt:=(show Hid (But (w.heap.size+1+1) V wr) from hbut)
  have HW:=(show Hid (WS w0 (w.heap.size+1+1) L p 0 wr) from hws)
  obtain ⟨x0,x1,q0,q1,q2,q3,f0,f1,f2,f3,f4,fq0,fq1,hbw,hzw⟩:=HCar.out wr hbut
  have HBw:=(show Hid (Below w.heap.size w wr) from hbw)
  clear hpast hbut hws hbw
  by_cases hp5:p=5
  ·subst hp5
   obtain rfl:z=5:=by omega
   have HZ:Hid (res=(0,0)):=HOk.out HPs.out
   obtain ⟨E,es,ck,hwm,hEm,hEi⟩:=HW.out
   have HFn:Hid (∀ w',Below w.heap.size w w'→(∀ (k:Nat) (es:Array MapEntry) (ck:Nat),wr.heap[k]?=some (Obj.map es ck)→w'.heap[k]?=some (Obj.map es ck))→∃ r E es ck,(Value.agg #[.slice a L.length cap,.map (some (w.heap.size+1+1))])=wdV (.slice a L.length cap) r∧WmIs w' r E es ck∧E.map WE.c=allC L∧∀ y ∈ E,fieldR.slice.In w0 [y.vc] (fsC y.c)∧methR.slice.In w0 [y.vh] (msC y.c)):=fun w' hb hk=>⟨_,E,es,ck,rfl,hwm.move (fun y hy=>⟨fieldR.slice.mono _ _ _ _ (HB0.out.trans (hb.mono HB0.out.size)) (hEi y hy).1,methR.slice.mono _ _ _ _ (HB0.out.trans (hb.mono HB0.out.size)) (hEi y hy).2⟩) hk,by rw [hEm];simp,hEi⟩
   have HNm:Hid ((∀ es ck,wr.heap[w.heap.size]? ≠ some (Obj.map es ck))∧(∀ es ck,wr.heap[w.heap.size+1]? ≠ some (Obj.map es ck))):=⟨cell_no_map q0,cell_no_map q2⟩
   clear hwm hEm hEi f0 f1 f2 f3 f4
   go_wp2
   refine bodyPost_ret (v:=.tuple #[.agg #[.slice a L.length cap,.map (some (w.heap.size+1+1))],.agg #[.int .i64 0,.int .i64 0]]) (by simp [results,Tryz.results41,go_sem,q0,q1,q2,q3]) rfl ⟨?b,_,by rw [HZ.out],fun k=>by rw [HZ.out] at k;exact absurd rfl k,fun _=>HFn.out _ ?b2 ?k⟩
   case b=>exact (((HBw.out.setCell (by simp) _).setCell (by simp) _).setCell (by simp) _).setCell (by simp) _
   case b2=>exact (((HBw.out.setCell (by simp) _).setCell (by simp) _).setCell (by simp) _).setCell (by simp) _
   case k =>
    intro k es ck hk
    have n1:k ≠ w.heap.size:=fun e=>HNm.out.1 es ck (e ▸ hk)
    have n2:k ≠ w.heap.size+1:=fun e=>HNm.out.2 es ck (e ▸ hk)
    rw [Below.heap_setCell _ _ _ _ (by simpa using n2),Below.heap_setCell _ _ _ _ (by simpa using n2),Below.heap_setCell _ _ _ _ (by simpa using n1),Below.heap_setCell _ _ _ _ (by simpa using n1)]
    exact hk
  have hp4:p=0 ∨ p=1 ∨ p=2 ∨ p=3 ∨ p=4:=by omega
  clear hp hp5
  rcases hp4 with rfl | rfl | rfl | rfl | rfl
  ·obtain rfl:z=0:=by omega
   go_wp2_with fail
   generalize wr=wo at *
   go_loopw [33] (fun j33 wr=>∃ i:Nat,i≤L.length∧j33 = .int .i64 (i:Int)∧But (w.heap.size+1+1) V wr∧WS w0 (w.heap.size+1+1) L 0 i wr∧∀ j,j<i→cdP L 0 j=0) (fun j33 _=>L.length - (intOf j33).toNat)
   case atStart=>exact⟨0,Nat.zero_le _,rfl,HBt.out,HW.out,fun j hj=>by omega⟩
   case round =>
    clear x0 x1 q0 q1 q2 q3 f0 f1 f2 f3 f4 fq0 fq1 hzw HBw
    obtain ⟨i,hi,rfl,hbut,hws,hgood⟩:=hrel
    have HG:=(show Hid (∀ j,j<i→cdP L 0 j=0) from hgood)
    have HBq:=(show Hid (But (w.heap.size+1+1) V wr) from hbut)
    obtain ⟨x0,x1,q0,q1,q2,q3,_,_,_,_,_,fq0,fq1,hbw,hzw⟩:=HCar.out wr hbut
    have HBr:=(show Hid (Below w.heap.size w wr) from hbw)
    have HRr:=(show Hid (Below w0.heap.size w0 wr) from HB0.out.trans (hbw.mono HB0.out.size))
    clear hbut hgood hbw
    by_cases hlt:i<L.length
    case neg =>
     obtain rfl:i=L.length:=by omega
     have HPn:=(show Hid (Past L 1) from HPs.out.next HG.out)
     have HWn:=(show Hid (WS w0 (w.heap.size+1+1) L 1 0 wr) from WS.next hws)
     clear HG hws x0 x1 q0 q1 q2 q3 fq0 fq1
     go_wp2
     go_roundw
     case rel=>exact⟨1,1,by omega,rfl,by go_num,HPn.out,HBq.out,HWn.out⟩
     case measure=>simp [intOf]
    obtain ⟨E,es,ck,hwm,hEm,hEi⟩:=hws
    obtain ⟨b,o,rfl,hx⟩:=HA.out i hlt
    obtain ⟨vc,vh,g0,g1,g2,g3,g4,g5,s0,s1,h4,h5⟩:=classAt (hx.mono HRr.out)
    obtain ⟨vc',vh',g0',g1',g2',g3',g4',g5',_,_,h4w,h5w⟩:=classAt hx
    have ev:vc'=vc:=by have:=carry HRr.out (World.block_lt_of_cell? _ _ g4') g4';rw [g4] at this;exact (Option.some.inj this).symm
    have eh:vh'=vh:=by have:=carry HRr.out (World.block_lt_of_cell? _ _ g5') g5';rw [g5] at this;exact (Option.some.inj this).symm
    subst ev eh
    obtain ⟨fa,fc,rfl⟩:=slice_form h4
    obtain ⟨ma,mc,rfl⟩:=slice_form h5
    clear g0' g1' g2' g3' g4' g5'
    have hval:=adC_eq (i:=i) (L:=L) (E:=E) (by simpa using hEm) L[i]
    have HC:Hid (∀ w',Below wr.heap.size wr w'→Calls Tryz.prog 77 #[.agg #[.slice (some ⟨b,o,none⟩) L.length cap,.map (some (w.heap.size+1+1))],.agg #[.string (nmC L[i]),.string (suC L[i]),.bool (fiC L[i]),.bool (abC L[i]),.slice fa (fsC L[i]).length fc,.slice ma (msC L[i]).length mc]] w' fun e w2=>e = .returned (.int .i64 (cdP L 0 i))∧But (w.heap.size+1+1) w' w2∧(cdP L 0 i=0→WS w0 (w.heap.size+1+1) L 0 (i+1) w2)):=fun w' hb=>by
     have hK:=implAdd (.slice (some ⟨b,o,none⟩) L.length cap) (w.heap.size+1+1) E es ck L[i] fa fc ma mc w0 w' (hwm.below hb) ⟨_,_,_,rfl⟩ (HRr.out.trans (hb.mono HRr.out.size)) (by have:=HB0.out.size;omega) hEi h4w h5w s0 s1 (HTG.out.1.mono (HBr.out.trans (hb.mono HBr.out.size))) (HTG.out.2.mono (HBr.out.trans (hb.mono HBr.out.size))) (bi_some hEm)
     unfold wdV clC at hK
     refine Calls.mono hK ?_
     rintro e w2 ⟨rfl,k1,_,k3⟩
     rw [cdP0 hlt,← hval]
     refine ⟨rfl,k1,fun k0=>?_⟩
     obtain ⟨rm,es',ck',k4⟩:=k3 k0
     refine ⟨_,es',ck',k4,?_,fun y hy=>?_⟩
     ·rw [List.map_append,hEm]
      have e:L.take (i+1)=L.take i ++ [L[i]]:=by rw [List.take_add_one,List.getElem?_eq_getElem hlt];rfl
      show biC ++ L.take i ++ [L[i]]=biC ++ L.take (i+1)
      rw [e,List.append_assoc]
     ·rcases List.mem_append.1 hy with k | k
      ·exact hEi y k
      ·simp at k;subst k;exact⟨h4w,h5w⟩
    have HAz:Hid (∀ x:Int,cdP L 0 i=x→x ≠ 0→res=((i:Int),x)):=HAt.out 0 i (by omega) HPs.out hlt HG.out
    have HNz:Hid (cdP L 0 i=0→∀ j,j<i+1→cdP L 0 j=0):=HNx.out 0 i HG.out
    clear hwm hEm hEi h4 h5 h4w h5w hx HG
    have xa0:∀ ob,(wr.alloc ob).cell? ⟨w.heap.size+1+1+1,0,none⟩=some (.slice (some ⟨b,o,none⟩) L.length cap):=fun ob=>carry (below_al wr ob) (show w.heap.size+1+1+1<wr.heap.size by omega) x0
    have xa1:∀ o,(wr.alloc o).cell? ⟨w.heap.size+1+1+1,1,none⟩=some (.map (some (w.heap.size+1+1))):=fun o=>carry (below_al wr o) (show w.heap.size+1+1+1<wr.heap.size by omega) x1
    have HBo:Hid (∀ o,But (w.heap.size+1+1) V (wr.alloc o)):=fun o=>HBq.out.on (below_al _ _)
    have HAl:Hid (∀ o,Below wr.heap.size wr (wr.alloc o)):=fun o=>below_al _ _
    by_cases hc0:cdP L 0 i=0
    ·rw [hc0] at HC
     have HNz1:=(show Hid _ from HNz.out hc0)
     clear hc0 HAz HNz
     go_wp2_with fail
     refine Calls.mono (HC.out _ (HAl.out _)) ?_
     rintro e w5 ⟨rfl,hb5,hws5⟩
     have HX:=(show Hid (But (w.heap.size+1+1) V w5∧WS w0 (w.heap.size+1+1) L 0 (i+1) w5) from ⟨(HBo.out _).andThen' hb5,hws5 (by first | rfl | trivial)⟩)
     clear hb5 hws5 xa0 xa1 x0 x1 q0 q1 q2 q3 fq0 fq1 g0 g1 g2 g3 g4 g5
     go_wp2
     go_roundw
     case rel=>exact⟨i+1,by omega,by go_num,HX.out.1,HX.out.2,HNz1.out⟩
     case measure=>simp [intOf];omega
    ·obtain ⟨x,hx⟩:∃ x,cdP L 0 i=x:=⟨_,rfl⟩
     rw [hx] at HC hc0
     have HZ:Hid (res=((i:Int),x)):=HAz.out x hx hc0
     have dx:(x != 0)=true:=by simpa using hc0
     have dx2:(x == 0)=false:=by simpa using hc0
     clear HAz HNz hx
     go_wp2_with fail
     refine Calls.mono (HC.out _ (HAl.out _)) ?_
     rintro e w5 ⟨rfl,hb5,_⟩
     have HB5:=(show Hid (But (w.heap.size+1+1) V w5) from (HBo.out _).andThen' hb5)
     clear hb5 xa0 xa1 x0 x1 q0 q1 q2 q3 fq0 fq1 g0 g1 g2 g3 g4 g5
     obtain ⟨x0,x1,q0,q1,q2,q3,_,_,_,_,_,fq0,fq1,hbw,hzw5⟩:=HCar.out w5 HB5.out
     have HBw:=(show Hid (Below w.heap.size w w5) from hbw)
     have HC0:=(show Hid (x ≠ 0) from hc0)
     clear hbw hc0
     go_wp2
     exact bodyPost_ret (v:=.tuple #[.agg #[.slice none 0 0,.map none],.agg #[.int .i64 (i:Int),.int .i64 x]]) (by simp [results,Tryz.results41,go_sem,q0,q1,q2,q3]) rfl ⟨(((HBw.out.setCell (by simp) _).setCell (by simp) _).setCell (by simp) _).setCell (by simp) _,_,by rw [HZ.out],fun _=>rfl,fun k=>by rw [HZ.out] at k;exact absurd k HC0.out⟩
  ·obtain rfl:z=1:=by omega
   go_wp2_with fail
   generalize wr=wo at *
   go_loopw [33] (fun j33 wr=>∃ i:Nat,i≤L.length∧j33 = .int .i64 (i:Int)∧But (w.heap.size+1+1) V wr∧WS w0 (w.heap.size+1+1) L 1 i wr∧∀ j,j<i→cdP L 1 j=0) (fun j33 _=>L.length - (intOf j33).toNat)
   case atStart=>exact⟨0,Nat.zero_le _,rfl,HBt.out,HW.out,fun j hj=>by omega⟩
   case round =>
    clear x0 x1 q0 q1 q2 q3 f0 f1 f2 f3 f4 fq0 fq1 hzw HBw
    obtain ⟨i,hi,rfl,hbut,hws,hgood⟩:=hrel
    have HG:=(show Hid (∀ j,j<i→cdP L 1 j=0) from hgood)
    have HBq:=(show Hid (But (w.heap.size+1+1) V wr) from hbut)
    obtain ⟨x0,x1,q0,q1,q2,q3,_,_,_,_,_,fq0,fq1,hbw,hzw⟩:=HCar.out wr hbut
    have HBr:=(show Hid (Below w.heap.size w wr) from hbw)
    have HRr:=(show Hid (Below w0.heap.size w0 wr) from HB0.out.trans (hbw.mono HB0.out.size))
    clear hbut hgood hbw
    by_cases hlt:i<L.length
    case neg =>
     obtain rfl:i=L.length:=by omega
     have HPn:=(show Hid (Past L 2) from HPs.out.next HG.out)
     have HWn:=(show Hid (WS w0 (w.heap.size+1+1) L 2 0 wr) from WS.next hws)
     clear HG hws x0 x1 q0 q1 q2 q3 fq0 fq1
     go_wp2
     go_roundw
     case rel=>exact⟨2,2,by omega,rfl,by go_num,HPn.out,HBq.out,HWn.out⟩
     case measure=>simp [intOf]
    obtain ⟨E,es,ck,hwm,hEm,hEi⟩:=hws
    obtain ⟨b,o,rfl,hx⟩:=HA.out i hlt
    obtain ⟨vc,vh,g0,g1,g2,g3,g4,g5,s0,s1,h4,h5⟩:=classAt (hx.mono HRr.out)
    obtain ⟨vc',vh',g0',g1',g2',g3',g4',g5',_,_,h4w,h5w⟩:=classAt hx
    have ev:vc'=vc:=by have:=carry HRr.out (World.block_lt_of_cell? _ _ g4') g4';rw [g4] at this;exact (Option.some.inj this).symm
    have eh:vh'=vh:=by have:=carry HRr.out (World.block_lt_of_cell? _ _ g5') g5';rw [g5] at this;exact (Option.some.inj this).symm
    subst ev eh
    obtain ⟨fa,fc,rfl⟩:=slice_form h4
    obtain ⟨ma,mc,rfl⟩:=slice_form h5
    clear g0' g1' g2' g3' g4' g5'
    have hEm':E.map WE.c=allC L:=by rw [hEm];simp
    have hpt:Part L L.length:=HPs.out.part (by omega)
    have HC:Hid (∀ w',Below wr.heap.size wr w'→Calls Tryz.prog 78 #[.agg #[.slice (some ⟨b,o,none⟩) L.length cap,.map (some (w.heap.size+1+1))],.agg #[.string (nmC L[i]),.string (suC L[i]),.bool (fiC L[i]),.bool (abC L[i]),.slice fa (fsC L[i]).length fc,.slice ma (msC L[i]).length mc]] w' fun e w2=>e = .returned (.int .i64 (cdP L 1 i))∧But (w.heap.size+1+1) w' w2∧(cdP L 1 i=0→WS w0 (w.heap.size+1+1) L 1 (i+1) w2)):=fun w' hb=>by
     have hK:=implSuperFault (.slice (some ⟨b,o,none⟩) L.length cap) (w.heap.size+1+1) E es ck L[i] fa fc ma mc w' (hwm.below hb) s1 ⟨_,_,_,rfl⟩
     unfold wdV clC at hK
     refine Calls.mono hK ?_
     rintro e w2 ⟨rfl,k1⟩
     have e1:cdP L 1 i=sfC E L[i]:=by rw [cdP1 hlt,← sfC_eq hEm' L[i]]
     refine ⟨by rw [e1],⟨k1.os,k1.tape,k1.output,k1.size,fun b hb _=>k1.block b hb⟩,fun _=>⟨E,es,ck,hwm.below ((hb.trans (k1.mono hb.size))),hEm,hEi⟩⟩
    have HAz:Hid (∀ x:Int,cdP L 1 i=x→x ≠ 0→res=((i:Int),x)):=HAt.out 1 i (by omega) HPs.out hlt HG.out
    have HNz:Hid (cdP L 1 i=0→∀ j,j<i+1→cdP L 1 j=0):=HNx.out 1 i HG.out
    clear hwm hEm hEi h4 h5 h4w h5w hx HG
    have xa0:∀ ob,(wr.alloc ob).cell? ⟨w.heap.size+1+1+1,0,none⟩=some (.slice (some ⟨b,o,none⟩) L.length cap):=fun ob=>carry (below_al wr ob) (show w.heap.size+1+1+1<wr.heap.size by omega) x0
    have xa1:∀ o,(wr.alloc o).cell? ⟨w.heap.size+1+1+1,1,none⟩=some (.map (some (w.heap.size+1+1))):=fun o=>carry (below_al wr o) (show w.heap.size+1+1+1<wr.heap.size by omega) x1
    have HBo:Hid (∀ o,But (w.heap.size+1+1) V (wr.alloc o)):=fun o=>HBq.out.on (below_al _ _)
    have HAl:Hid (∀ o,Below wr.heap.size wr (wr.alloc o)):=fun o=>below_al _ _
    by_cases hc0:cdP L 1 i=0
    ·rw [hc0] at HC
     have HNz1:=(show Hid _ from HNz.out hc0)
     clear hc0 HAz HNz
     go_wp2_with fail
     refine Calls.mono (HC.out _ (HAl.out _)) ?_
     rintro e w5 ⟨rfl,hb5,hws5⟩
     have HX:=(show Hid (But (w.heap.size+1+1) V w5∧WS w0 (w.heap.size+1+1) L 1 (i+1) w5) from ⟨(HBo.out _).andThen' hb5,hws5 (by first | rfl | trivial)⟩)
     clear hb5 hws5 xa0 xa1 x0 x1 q0 q1 q2 q3 fq0 fq1 g0 g1 g2 g3 g4 g5
     go_wp2
     go_roundw
     case rel=>exact⟨i+1,by omega,by go_num,HX.out.1,HX.out.2,HNz1.out⟩
     case measure=>simp [intOf];omega
    ·obtain ⟨x,hx⟩:∃ x,cdP L 1 i=x:=⟨_,rfl⟩
     rw [hx] at HC hc0
     have HZ:Hid (res=((i:Int),x)):=HAz.out x hx hc0
     have dx:(x != 0)=true:=by simpa using hc0
     have dx2:(x == 0)=false:=by simpa using hc0
     clear HAz HNz hx
     go_wp2_with fail
     refine Calls.mono (HC.out _ (HAl.out _)) ?_
     rintro e w5 ⟨rfl,hb5,_⟩
     have HB5:=(show Hid (But (w.heap.size+1+1) V w5) from (HBo.out _).andThen' hb5)
     clear hb5 xa0 xa1 x0 x1 q0 q1 q2 q3 fq0 fq1 g0 g1 g2 g3 g4 g5
     obtain ⟨x0,x1,q0,q1,q2,q3,_,_,_,_,_,fq0,fq1,hbw,hzw5⟩:=HCar.out w5 HB5.out
     have HBw:=(show Hid (Below w.heap.size w w5) from hbw)
     have HC0:=(show Hid (x ≠ 0) from hc0)
     clear hbw hc0
     go_wp2
     exact bodyPost_ret (v:=.tuple #[.agg #[.slice none 0 0,.map none],.agg #[.int .i64 (i:Int),.int .i64 x]]) (by simp [results,Tryz.results41,go_sem,q0,q1,q2,q3]) rfl ⟨(((HBw.out.setCell (by simp) _).setCell (by simp) _).setCell (by simp) _).setCell (by simp) _,_,by rw [HZ.out],fun _=>rfl,fun k=>by rw [HZ.out] at k;exact absurd k HC0.out⟩
  ·obtain rfl:z=2:=by omega
   go_wp2_with fail
   generalize wr=wo at *
   go_loopw [33] (fun j33 wr=>∃ i:Nat,i≤L.length∧j33 = .int .i64 (i:Int)∧But (w.heap.size+1+1) V wr∧WS w0 (w.heap.size+1+1) L 2 i wr∧∀ j,j<i→cdP L 2 j=0) (fun j33 _=>L.length - (intOf j33).toNat)
   case atStart=>exact⟨0,Nat.zero_le _,rfl,HBt.out,HW.out,fun j hj=>by omega⟩
   case round =>
    clear x0 x1 q0 q1 q2 q3 f0 f1 f2 f3 f4 fq0 fq1 hzw HBw
    obtain ⟨i,hi,rfl,hbut,hws,hgood⟩:=hrel
    have HG:=(show Hid (∀ j,j<i→cdP L 2 j=0) from hgood)
    have HBq:=(show Hid (But (w.heap.size+1+1) V wr) from hbut)
    obtain ⟨x0,x1,q0,q1,q2,q3,_,_,_,_,_,fq0,fq1,hbw,hzw⟩:=HCar.out wr hbut
    have HBr:=(show Hid (Below w.heap.size w wr) from hbw)
    have HRr:=(show Hid (Below w0.heap.size w0 wr) from HB0.out.trans (hbw.mono HB0.out.size))
    clear hbut hgood hbw
    by_cases hlt:i<L.length
    case neg =>
     obtain rfl:i=L.length:=by omega
     have HPn:=(show Hid (Past L 3) from HPs.out.next HG.out)
     have HWn:=(show Hid (WS w0 (w.heap.size+1+1) L 3 0 wr) from WS.next hws)
     clear HG hws x0 x1 q0 q1 q2 q3 fq0 fq1
     go_wp2
     go_roundw
     case rel=>exact⟨3,3,by omega,rfl,by go_num,HPn.out,HBq.out,HWn.out⟩
     case measure=>simp [intOf]
    obtain ⟨E,es,ck,hwm,hEm,hEi⟩:=hws
    obtain ⟨b,o,rfl,hx⟩:=HA.out i hlt
    obtain ⟨vc,vh,g0,g1,g2,g3,g4,g5,s0,s1,h4,h5⟩:=classAt (hx.mono HRr.out)
    obtain ⟨vc',vh',g0',g1',g2',g3',g4',g5',_,_,h4w,h5w⟩:=classAt hx
    have ev:vc'=vc:=by have:=carry HRr.out (World.block_lt_of_cell? _ _ g4') g4';rw [g4] at this;exact (Option.some.inj this).symm
    have eh:vh'=vh:=by have:=carry HRr.out (World.block_lt_of_cell? _ _ g5') g5';rw [g5] at this;exact (Option.some.inj this).symm
    subst ev eh
    obtain ⟨fa,fc,rfl⟩:=slice_form h4
    obtain ⟨ma,mc,rfl⟩:=slice_form h5
    clear g0' g1' g2' g3' g4' g5'
    have hEm':E.map WE.c=allC L:=by rw [hEm];simp
    have hpt:Part L L.length:=HPs.out.part (by omega)
    have HC:Hid (∀ w',Below wr.heap.size wr w'→Calls Tryz.prog 79 #[.agg #[.slice (some ⟨b,o,none⟩) L.length cap,.map (some (w.heap.size+1+1))],.agg #[.string (nmC L[i]),.string (suC L[i]),.bool (fiC L[i]),.bool (abC L[i]),.slice fa (fsC L[i]).length fc,.slice ma (msC L[i]).length mc]] w' fun e w2=>e = .returned (.int .i64 (cdP L 2 i))∧But (w.heap.size+1+1) w' w2∧(cdP L 2 i=0→WS w0 (w.heap.size+1+1) L 2 (i+1) w2)):=fun w' hb=>by
     have hK:=implTypesFault (.slice (some ⟨b,o,none⟩) L.length cap) (w.heap.size+1+1) E es ck L[i] fa fc ma mc w' (hwm.below hb) ⟨_,_,_,rfl⟩ (fieldR.slice.mono _ _ _ _ hb h4) (methR.slice.mono _ _ _ _ hb h5) (hpt.ok i hlt hlt).fl (hpt.ok i hlt hlt).ml (HTG.out.2.mono (HBr.out.trans (hb.mono HBr.out.size))) (tol_sz h4 h5)
     unfold wdV clC at hK
     refine Calls.mono hK ?_
     rintro e w2 ⟨rfl,k1⟩
     have e1:cdP L 2 i=tfC E L[i]:=by rw [cdP2 hlt,← tfC_eq hEm' L[i]]
     refine ⟨by rw [e1],⟨k1.os,k1.tape,k1.output,k1.size,fun b hb _=>k1.block b hb⟩,fun _=>⟨E,es,ck,hwm.below ((hb.trans (k1.mono hb.size))),hEm,hEi⟩⟩
    have HAz:Hid (∀ x:Int,cdP L 2 i=x→x ≠ 0→res=((i:Int),x)):=HAt.out 2 i (by omega) HPs.out hlt HG.out
    have HNz:Hid (cdP L 2 i=0→∀ j,j<i+1→cdP L 2 j=0):=HNx.out 2 i HG.out
    clear hwm hEm hEi h4 h5 h4w h5w hx HG
    have xa0:∀ ob,(wr.alloc ob).cell? ⟨w.heap.size+1+1+1,0,none⟩=some (.slice (some ⟨b,o,none⟩) L.length cap):=fun ob=>carry (below_al wr ob) (show w.heap.size+1+1+1<wr.heap.size by omega) x0
    have xa1:∀ o,(wr.alloc o).cell? ⟨w.heap.size+1+1+1,1,none⟩=some (.map (some (w.heap.size+1+1))):=fun o=>carry (below_al wr o) (show w.heap.size+1+1+1<wr.heap.size by omega) x1
    have HBo:Hid (∀ o,But (w.heap.size+1+1) V (wr.alloc o)):=fun o=>HBq.out.on (below_al _ _)
    have HAl:Hid (∀ o,Below wr.heap.size wr (wr.alloc o)):=fun o=>below_al _ _
    by_cases hc0:cdP L 2 i=0
    ·rw [hc0] at HC
     have HNz1:=(show Hid _ from HNz.out hc0)
     clear hc0 HAz HNz
     go_wp2_with fail
     refine Calls.mono (HC.out _ (HAl.out _)) ?_
     rintro e w5 ⟨rfl,hb5,hws5⟩
     have HX:=(show Hid (But (w.heap.size+1+1) V w5∧WS w0 (w.heap.size+1+1) L 2 (i+1) w5) from ⟨(HBo.out _).andThen' hb5,hws5 (by first | rfl | trivial)⟩)
     clear hb5 hws5 xa0 xa1 x0 x1 q0 q1 q2 q3 fq0 fq1 g0 g1 g2 g3 g4 g5
     go_wp2
     go_roundw
     case rel=>exact⟨i+1,by omega,by go_num,HX.out.1,HX.out.2,HNz1.out⟩
     case measure=>simp [intOf];omega
    ·obtain ⟨x,hx⟩:∃ x,cdP L 2 i=x:=⟨_,rfl⟩
     rw [hx] at HC hc0
     have HZ:Hid (res=((i:Int),x)):=HAz.out x hx hc0
     have dx:(x != 0)=true:=by simpa using hc0
     have dx2:(x == 0)=false:=by simpa using hc0
     clear HAz HNz hx
     go_wp2_with fail
     refine Calls.mono (HC.out _ (HAl.out _)) ?_
     rintro e w5 ⟨rfl,hb5,_⟩
     have HB5:=(show Hid (But (w.heap.size+1+1) V w5) from (HBo.out _).andThen' hb5)
     clear hb5 xa0 xa1 x0 x1 q0 q1 q2 q3 fq0 fq1 g0 g1 g2 g3 g4 g5
     obtain ⟨x0,x1,q0,q1,q2,q3,_,_,_,_,_,fq0,fq1,hbw,hzw5⟩:=HCar.out w5 HB5.out
     have HBw:=(show Hid (Below w.heap.size w w5) from hbw)
     have HC0:=(show Hid (x ≠ 0) from hc0)
     clear hbw hc0
     go_wp2
     exact bodyPost_ret (v:=.tuple #[.agg #[.slice none 0 0,.map none],.agg #[.int .i64 (i:Int),.int .i64 x]]) (by simp [results,Tryz.results41,go_sem,q0,q1,q2,q3]) rfl ⟨(((HBw.out.setCell (by simp) _).setCell (by simp) _).setCell (by simp) _).setCell (by simp) _,_,by rw [HZ.out],fun _=>rfl,fun k=>by rw [HZ.out] at k;exact absurd k HC0.out⟩
  ·obtain rfl:z=3:=by omega
   go_wp2_with fail
   generalize wr=wo at *
   go_loopw [33] (fun j33 wr=>∃ i:Nat,i≤L.length∧j33 = .int .i64 (i:Int)∧But (w.heap.size+1+1) V wr∧WS w0 (w.heap.size+1+1) L 3 i wr∧∀ j,j<i→cdP L 3 j=0) (fun j33 _=>L.length - (intOf j33).toNat)
   case atStart=>exact⟨0,Nat.zero_le _,rfl,HBt.out,HW.out,fun j hj=>by omega⟩
   case round =>
    clear x0 x1 q0 q1 q2 q3 f0 f1 f2 f3 f4 fq0 fq1 hzw HBw
    obtain ⟨i,hi,rfl,hbut,hws,hgood⟩:=hrel
    have HG:=(show Hid (∀ j,j<i→cdP L 3 j=0) from hgood)
    have HBq:=(show Hid (But (w.heap.size+1+1) V wr) from hbut)
    obtain ⟨x0,x1,q0,q1,q2,q3,_,_,_,_,_,fq0,fq1,hbw,hzw⟩:=HCar.out wr hbut
    have HBr:=(show Hid (Below w.heap.size w wr) from hbw)
    have HRr:=(show Hid (Below w0.heap.size w0 wr) from HB0.out.trans (hbw.mono HB0.out.size))
    clear hbut hgood hbw
    by_cases hlt:i<L.length
    case neg =>
     obtain rfl:i=L.length:=by omega
     have HPn:=(show Hid (Past L 4) from HPs.out.next HG.out)
     have HWn:=(show Hid (WS w0 (w.heap.size+1+1) L 4 0 wr) from WS.next hws)
     clear HG hws x0 x1 q0 q1 q2 q3 fq0 fq1
     go_wp2
     go_roundw
     case rel=>exact⟨4,4,by omega,rfl,by go_num,HPn.out,HBq.out,HWn.out⟩
     case measure=>simp [intOf]
    obtain ⟨E,es,ck,hwm,hEm,hEi⟩:=hws
    obtain ⟨b,o,rfl,hx⟩:=HA.out i hlt
    obtain ⟨vc,vh,g0,g1,g2,g3,g4,g5,s0,s1,h4,h5⟩:=classAt (hx.mono HRr.out)
    obtain ⟨vc',vh',g0',g1',g2',g3',g4',g5',_,_,h4w,h5w⟩:=classAt hx
    have ev:vc'=vc:=by have:=carry HRr.out (World.block_lt_of_cell? _ _ g4') g4';rw [g4] at this;exact (Option.some.inj this).symm
    have eh:vh'=vh:=by have:=carry HRr.out (World.block_lt_of_cell? _ _ g5') g5';rw [g5] at this;exact (Option.some.inj this).symm
    subst ev eh
    obtain ⟨fa,fc,rfl⟩:=slice_form h4
    obtain ⟨ma,mc,rfl⟩:=slice_form h5
    clear g0' g1' g2' g3' g4' g5'
    have hEm':E.map WE.c=allC L:=by rw [hEm];simp
    have hpt:Part L L.length:=HPs.out.part (by omega)
    have hE100:E.length≤100:=by
     have:=congrArg List.length hEm'
     have h8:biC.length=8:=rfl
     simp [allC,h8] at this
     omega
    have hxe:∃ x ∈ E,x.c=L[i]?.getD (tE,tE,false,false,[],[]):=by
     rw [List.getElem?_eq_getElem hlt]
     show ∃ x ∈ E,x.c=L[i]
     have:L[i] ∈ E.map WE.c:=by rw [hEm'];exact List.mem_append.2 (.inr (List.getElem_mem hlt))
     obtain ⟨x,hx,e⟩:=List.mem_map.1 this
     exact⟨x,hx,e⟩
    have HC:Hid (∀ w',Below wr.heap.size wr w'→Calls Tryz.prog 80 #[.agg #[.slice (some ⟨b,o,none⟩) L.length cap,.map (some (w.heap.size+1+1))],.agg #[.string (nmC L[i]),.string (suC L[i]),.bool (fiC L[i]),.bool (abC L[i]),.slice fa (fsC L[i]).length fc,.slice ma (msC L[i]).length mc]] w' fun e w2=>e = .returned (.int .i64 (cdP L 3 i))∧But (w.heap.size+1+1) w' w2∧(cdP L 3 i=0→WS w0 (w.heap.size+1+1) L 3 (i+1) w2)):=fun w' hb=>by
     have hK:=roundAt (av:=some ⟨b,o,none⟩) (cap:=cap) hxe hwm hE100 hpt hEm' hlt hb fa fc ma mc
     unfold wdV clC at hK
     refine Calls.mono hK ?_
     rintro e w2 ⟨rfl,k1⟩
     have e1:cdP L 3 i=cd3 L L[i]:=cdP3 hlt
     refine ⟨by rw [e1],⟨k1.os,k1.tape,k1.output,k1.size,fun b hb _=>k1.block b hb⟩,fun _=>⟨E,es,ck,hwm.below ((hb.trans (k1.mono hb.size))),hEm,hEi⟩⟩
    have HAz:Hid (∀ x:Int,cdP L 3 i=x→x ≠ 0→res=((i:Int),x)):=HAt.out 3 i (by omega) HPs.out hlt HG.out
    have HNz:Hid (cdP L 3 i=0→∀ j,j<i+1→cdP L 3 j=0):=HNx.out 3 i HG.out
    clear hwm hEm hEi h4 h5 h4w h5w hx HG
    have xa0:∀ ob,(wr.alloc ob).cell? ⟨w.heap.size+1+1+1,0,none⟩=some (.slice (some ⟨b,o,none⟩) L.length cap):=fun ob=>carry (below_al wr ob) (show w.heap.size+1+1+1<wr.heap.size by omega) x0
    have xa1:∀ o,(wr.alloc o).cell? ⟨w.heap.size+1+1+1,1,none⟩=some (.map (some (w.heap.size+1+1))):=fun o=>carry (below_al wr o) (show w.heap.size+1+1+1<wr.heap.size by omega) x1
    have HBo:Hid (∀ o,But (w.heap.size+1+1) V (wr.alloc o)):=fun o=>HBq.out.on (below_al _ _)
    have HAl:Hid (∀ o,Below wr.heap.size wr (wr.alloc o)):=fun o=>below_al _ _
    by_cases hc0:cdP L 3 i=0
    ·rw [hc0] at HC
     have HNz1:=(show Hid _ from HNz.out hc0)
     clear hc0 HAz HNz
     go_wp2_with fail
     refine Calls.mono (HC.out _ (HAl.out _)) ?_
     rintro e w5 ⟨rfl,hb5,hws5⟩
     have HX:=(show Hid (But (w.heap.size+1+1) V w5∧WS w0 (w.heap.size+1+1) L 3 (i+1) w5) from ⟨(HBo.out _).andThen' hb5,hws5 (by first | rfl | trivial)⟩)
     clear hb5 hws5 xa0 xa1 x0 x1 q0 q1 q2 q3 fq0 fq1 g0 g1 g2 g3 g4 g5
     go_wp2
     go_roundw
     case rel=>exact⟨i+1,by omega,by go_num,HX.out.1,HX.out.2,HNz1.out⟩
     case measure=>simp [intOf];omega
    ·obtain ⟨x,hx⟩:∃ x,cdP L 3 i=x:=⟨_,rfl⟩
     rw [hx] at HC hc0
     have HZ:Hid (res=((i:Int),x)):=HAz.out x hx hc0
     have dx:(x != 0)=true:=by simpa using hc0
     have dx2:(x == 0)=false:=by simpa using hc0
     clear HAz HNz hx
     go_wp2_with fail
     refine Calls.mono (HC.out _ (HAl.out _)) ?_
     rintro e w5 ⟨rfl,hb5,_⟩
     have HB5:=(show Hid (But (w.heap.size+1+1) V w5) from (HBo.out _).andThen' hb5)
     clear hb5 xa0 xa1 x0 x1 q0 q1 q2 q3 fq0 fq1 g0 g1 g2 g3 g4 g5
     obtain ⟨x0,x1,q0,q1,q2,q3,_,_,_,_,_,fq0,fq1,hbw,hzw5⟩:=HCar.out w5 HB5.out
     have HBw:=(show Hid (Below w.heap.size w w5) from hbw)
     have HC0:=(show Hid (x ≠ 0) from hc0)
     clear hbw hc0
     go_wp2
     exact bodyPost_ret (v:=.tuple #[.agg #[.slice none 0 0,.map none],.agg #[.int .i64 (i:Int),.int .i64 x]]) (by simp [results,Tryz.results41,go_sem,q0,q1,q2,q3]) rfl ⟨(((HBw.out.setCell (by simp) _).setCell (by simp) _).setCell (by simp) _).setCell (by simp) _,_,by rw [HZ.out],fun _=>rfl,fun k=>by rw [HZ.out] at k;exact absurd k HC0.out⟩
  ·obtain rfl:z=4:=by omega
   go_wp2_with fail
   generalize wr=wo at *
   go_loopw [33] (fun j33 wr=>∃ i:Nat,i≤L.length∧j33 = .int .i64 (i:Int)∧But (w.heap.size+1+1) V wr∧WS w0 (w.heap.size+1+1) L 4 i wr∧∀ j,j<i→cdP L 4 j=0) (fun j33 _=>L.length - (intOf j33).toNat)
   case atStart=>exact⟨0,Nat.zero_le _,rfl,HBt.out,HW.out,fun j hj=>by omega⟩
   case round =>
    clear x0 x1 q0 q1 q2 q3 f0 f1 f2 f3 f4 fq0 fq1 hzw HBw
    obtain ⟨i,hi,rfl,hbut,hws,hgood⟩:=hrel
    have HG:=(show Hid (∀ j,j<i→cdP L 4 j=0) from hgood)
    have HBq:=(show Hid (But (w.heap.size+1+1) V wr) from hbut)
    obtain ⟨x0,x1,q0,q1,q2,q3,_,_,_,_,_,fq0,fq1,hbw,hzw⟩:=HCar.out wr hbut
    have HBr:=(show Hid (Below w.heap.size w wr) from hbw)
    have HRr:=(show Hid (Below w0.heap.size w0 wr) from HB0.out.trans (hbw.mono HB0.out.size))
    clear hbut hgood hbw
    by_cases hlt:i<L.length
    case neg =>
     obtain rfl:i=L.length:=by omega
     have HPn:=(show Hid (Past L 5) from HPs.out.next HG.out)
     have HWn:=(show Hid (WS w0 (w.heap.size+1+1) L 5 0 wr) from WS.next hws)
     clear HG hws x0 x1 q0 q1 q2 q3 fq0 fq1
     go_wp2
     go_roundw
     case rel=>exact⟨5,5,by omega,rfl,by go_num,HPn.out,HBq.out,HWn.out⟩
     case measure=>simp [intOf]
    obtain ⟨E,es,ck,hwm,hEm,hEi⟩:=hws
    obtain ⟨b,o,rfl,hx⟩:=HA.out i hlt
    obtain ⟨vc,vh,g0,g1,g2,g3,g4,g5,s0,s1,h4,h5⟩:=classAt (hx.mono HRr.out)
    obtain ⟨vc',vh',g0',g1',g2',g3',g4',g5',_,_,h4w,h5w⟩:=classAt hx
    have ev:vc'=vc:=by have:=carry HRr.out (World.block_lt_of_cell? _ _ g4') g4';rw [g4] at this;exact (Option.some.inj this).symm
    have eh:vh'=vh:=by have:=carry HRr.out (World.block_lt_of_cell? _ _ g5') g5';rw [g5] at this;exact (Option.some.inj this).symm
    subst ev eh
    obtain ⟨fa,fc,rfl⟩:=slice_form h4
    obtain ⟨ma,mc,rfl⟩:=slice_form h5
    clear g0' g1' g2' g3' g4' g5'
    have hEm':E.map WE.c=allC L:=by rw [hEm];simp
    have hpt:Part L L.length:=HPs.out.part (by omega)
    have HC:Hid (∀ w',Below wr.heap.size wr w'→Calls Tryz.prog 81 #[.agg #[.slice (some ⟨b,o,none⟩) L.length cap,.map (some (w.heap.size+1+1))],.agg #[.string (nmC L[i]),.string (suC L[i]),.bool (fiC L[i]),.bool (abC L[i]),.slice fa (fsC L[i]).length fc,.slice ma (msC L[i]).length mc]] w' fun e w2=>e = .returned (.int .i64 (cdP L 4 i))∧But (w.heap.size+1+1) w' w2∧(cdP L 4 i=0→WS w0 (w.heap.size+1+1) L 4 (i+1) w2)):=fun w' hb=>by
     have hK:=HMF.out hl10 HPs.out (w.heap.size+1+1) E es ck L[i] fa fc ma mc w' (List.getElem_mem hlt) (hwm.below hb) hEm' (fieldR.slice.mono _ _ _ _ hb h4) (methR.slice.mono _ _ _ _ hb h5)
     unfold wdV clC at hK
     refine Calls.mono hK ?_
     rintro e w2 ⟨rfl,k1⟩
     have e1:cdP L 4 i=cd4 L L[i]:=cdP4 hlt
     refine ⟨by rw [e1],⟨k1.os,k1.tape,k1.output,k1.size,fun b hb _=>k1.block b hb⟩,fun _=>⟨E,es,ck,hwm.below ((hb.trans (k1.mono hb.size))),hEm,hEi⟩⟩
    have HAz:Hid (∀ x:Int,cdP L 4 i=x→x ≠ 0→res=((i:Int),x)):=HAt.out 4 i (by omega) HPs.out hlt HG.out
    have HNz:Hid (cdP L 4 i=0→∀ j,j<i+1→cdP L 4 j=0):=HNx.out 4 i HG.out
    clear hwm hEm hEi h4 h5 h4w h5w hx HG
    have xa0:∀ ob,(wr.alloc ob).cell? ⟨w.heap.size+1+1+1,0,none⟩=some (.slice (some ⟨b,o,none⟩) L.length cap):=fun ob=>carry (below_al wr ob) (show w.heap.size+1+1+1<wr.heap.size by omega) x0
    have xa1:∀ o,(wr.alloc o).cell? ⟨w.heap.size+1+1+1,1,none⟩=some (.map (some (w.heap.size+1+1))):=fun o=>carry (below_al wr o) (show w.heap.size+1+1+1<wr.heap.size by omega) x1
    have HBo:Hid (∀ o,But (w.heap.size+1+1) V (wr.alloc o)):=fun o=>HBq.out.on (below_al _ _)
    have HAl:Hid (∀ o,Below wr.heap.size wr (wr.alloc o)):=fun o=>below_al _ _
    by_cases hc0:cdP L 4 i=0
    ·rw [hc0] at HC
     have HNz1:=(show Hid _ from HNz.out hc0)
     clear hc0 HAz HNz
     go_wp2_with fail
     refine Calls.mono (HC.out _ (HAl.out _)) ?_
     rintro e w5 ⟨rfl,hb5,hws5⟩
     have HX:=(show Hid (But (w.heap.size+1+1) V w5∧WS w0 (w.heap.size+1+1) L 4 (i+1) w5) from ⟨(HBo.out _).andThen' hb5,hws5 (by first | rfl | trivial)⟩)
     clear hb5 hws5 xa0 xa1 x0 x1 q0 q1 q2 q3 fq0 fq1 g0 g1 g2 g3 g4 g5
     go_wp2
     go_roundw
     case rel=>exact⟨i+1,by omega,by go_num,HX.out.1,HX.out.2,HNz1.out⟩
     case measure=>simp [intOf];omega
    ·obtain ⟨x,hx⟩:∃ x,cdP L 4 i=x:=⟨_,rfl⟩
     rw [hx] at HC hc0
     have HZ:Hid (res=((i:Int),x)):=HAz.out x hx hc0
     have dx:(x != 0)=true:=by simpa using hc0
     have dx2:(x == 0)=false:=by simpa using hc0
     clear HAz HNz hx
     go_wp2_with fail
     refine Calls.mono (HC.out _ (HAl.out _)) ?_
     rintro e w5 ⟨rfl,hb5,_⟩
     have HB5:=(show Hid (But (w.heap.size+1+1) V w5) from (HBo.out _).andThen' hb5)
     clear hb5 xa0 xa1 x0 x1 q0 q1 q2 q3 fq0 fq1 g0 g1 g2 g3 g4 g5
     obtain ⟨x0,x1,q0,q1,q2,q3,_,_,_,_,_,fq0,fq1,hbw,hzw5⟩:=HCar.out w5 HB5.out
     have HBw:=(show Hid (Below w.heap.size w w5) from hbw)
     have HC0:=(show Hid (x ≠ 0) from hc0)
     clear hbw hc0
     go_wp2
     exact bodyPost_ret (v:=.tuple #[.agg #[.slice none 0 0,.map none],.agg #[.int .i64 (i:Int),.int .i64 x]]) (by simp [results,Tryz.results41,go_sem,q0,q1,q2,q3]) rfl ⟨(((HBw.out.setCell (by simp) _).setCell (by simp) _).setCell (by simp) _).setCell (by simp) _,_,by rw [HZ.out],fun _=>rfl,fun k=>by rw [HZ.out] at k;exact absurd k HC0.out⟩
end Go.Proofs.YtmhgaggpdggbeaaGreatDoor
