import Derived.Test.YtmhgaggpdggbeaaGreatDoorWfO
import Derived.Test.YtmhgaggpdggbeaaGreatDoorTL
namespace Go.Proofs.YtmhgaggpdggbeaaGreatDoor
open Go.RowKit
set_option maxRecDepth 20000
set_option linter.unusedVariables false
def cntF (fs:List FieldD) (st:Bool):Nat:=(fs.filter fun f=>f.2.2 == st).length
theorem cntF_yes {fs:List FieldD} {k:Nat} {st:Bool} (h:k<fs.length) (e:fs[k].2.2=st):cntF (fs.take (k+1)) st=cntF (fs.take k) st+1:=by
 unfold cntF
 rw [List.take_succ_eq_append_getElem h,List.filter_append,List.length_append]
 simp [e]
theorem cntF_no {fs:List FieldD} {k:Nat} {st:Bool} (h:k<fs.length) (e:fs[k].2.2 ≠ st):cntF (fs.take (k+1)) st=cntF (fs.take k) st:=by
 unfold cntF
 rw [List.take_succ_eq_append_getElem h,List.filter_append,List.length_append]
 simp [e]
theorem cntF_le (fs:List FieldD) (st:Bool):cntF fs st≤fs.length:=List.length_filter_le _ _
def stA (L:List CTup):Nat→Nat
 | 0=>0
 | k+1=>stA L k+((L[k]?).map fun c=>cntF (fsC c) true).getD 0
theorem stA_succ {L:List CTup} {k:Nat} (h:k<L.length):stA L (k+1)=stA L k+cntF (fsC L[k]) true:=by
 show stA L k+_=_
 rw [List.getElem?_eq_getElem h]
 rfl
theorem stA_le {L:List CTup} (h:∀ c ∈ L,(fsC c).length≤8):∀ k,stA L k≤8 * k
 | 0=>Nat.le_refl _
 | k+1=>by
  have:=stA_le h k
  by_cases hk:k<L.length
  ·rw [stA_succ hk]
   have h1:=h _ (List.getElem_mem hk)
   have h2:=cntF_le (fsC L[k]) true
   omega
  ·show stA L k+_≤_
   rw [List.getElem?_eq_none (by omega)]
   simp only [Option.map_none,Option.getD_none]
   omega
def fIx (fs:List FieldD) (n t:ByteArray):Option Nat:=fs.findIdx? fun f=>decide (f.1=n∧f.2.1=t)
theorem fIx_some {fs:List FieldD} {n t:ByteArray} {i:Nat} (h:i<fs.length) (e:fs[i].1=n∧fs[i].2.1=t) (hno:∀ j (hj:j<fs.length),j<i→¬ (fs[j].1=n∧fs[j].2.1=t)):fIx fs n t=some i :=
 List.findIdx?_eq_some_iff_getElem.2 ⟨h,by simpa using e,fun j hj=>by simpa using hno j (by omega) hj⟩
theorem fIx_none {fs:List FieldD} {n t:ByteArray} (hno:∀ j (hj:j<fs.length),¬ (fs[j].1=n∧fs[j].2.1=t)):fIx fs n t=none :=
 List.findIdx?_eq_none_iff.2 fun x hx=>by
  obtain ⟨j,hj,rfl⟩:=List.mem_iff_getElem.1 hx
  simpa using hno j hj
def ffP (L:List CTup) (c:CTup) (i:Nat):Int:=if ((fsC c)[i]?).elim false (·.2.2) then ((stA L ((fixG nmC L (nmC c)).getD 0)+cntF ((fsC c).take i) true:Nat):Int) else (((fldL L (suC c)).length+cntF ((fsC c).take i) false:Nat):Int)
theorem ffP_st {L:List CTup} {c:CTup} {i:Nat} (h:i<(fsC c).length) (e:(fsC c)[i].2.2=true):ffP L c i=((stA L ((fixG nmC L (nmC c)).getD 0):Nat):Int)+((cntF ((fsC c).take i) true:Nat):Int):=by
 unfold ffP
 rw [List.getElem?_eq_getElem h]
 simp [e]
theorem ffP_no {L:List CTup} {c:CTup} {i:Nat} (h:i<(fsC c).length) (e:(fsC c)[i].2.2=false):ffP L c i=(((fldL L (suC c)).length:Nat):Int)+((cntF ((fsC c).take i) false:Nat):Int):=by
 unfold ffP
 rw [List.getElem?_eq_getElem h]
 simp [e]
def ffU (L:List CTup) (n t:ByteArray):List CTup→ByteArray × Int × Int
 | []=>(tE,0,8)
 | c :: r=>match fIx (fsC c) n t with
  | some i=>(nmC c,ffP L c i,0)
  | none=>ffU L n t r
theorem ffU_bare (L:List CTup) (n t:ByteArray) (tl:List CTup) (h:∀ c ∈ tl,fsC c=[]):∀ A,ffU L n t (A ++ tl)=ffU L n t A:=by
 intro A
 induction A with
 | nil =>
  rw [List.nil_append]
  induction tl with
  | nil=>rfl
  | cons c r ih =>
   unfold ffU
   rw [h c (by simp),show fIx [] n t=none from rfl]
   exact (ih fun c hc=>h c (by simp [hc])).trans rfl
 | cons c A ih =>
  rw [List.cons_append]
  unfold ffU
  cases fIx (fsC c) n t with
  | some i=>rfl
  | none=>exact ih
def ffL (L:List CTup) (cl n t:ByteArray):ByteArray × Int × Int:=ffU L n t (CH nmC suC L cl)
noncomputable def ffV (L:List CTup) (cl n d:ByteArray):ByteArray × Int × Int:=if 400<L.length ∨ 20000<cl.size ∨ 20000<n.size ∨ 20000<d.size then (tE,0,2) else if rtB L then ffL L cl n d else (tE,0,0)
theorem ff_tie {E:List WE} {L:List CTup} (hR:Right L) (h:E.map WE.c=allC L) (cl n t:ByteArray):ffU L n t ((wyG E cl).map WE.c)=ffL L cl n t:=by
 obtain ⟨tl,h1,h2⟩:=wyS hR h cl
 rw [h1]
 exact ffU_bare L n t tl (fun c hc=>bi_fs c (h2 c hc)) _
theorem fld_take {w:World} {a:Option Addr} {c:Nat} {fs:List FieldD} {i:Nat} (h:fieldR.slice.In w [.slice a fs.length c] fs) (hi:i≤fs.length):fieldR.slice.In w [.slice a i c] (fs.take i):=by
 obtain ⟨a',cap,hv,hn,hcap,hat⟩:=h
 cases hv
 have e:(fs.take i).length=i:=by rw [List.length_take];omega
 refine ⟨a,c,by rw [e],by rw [e];omega,hcap,fun j hj=>?_⟩
 obtain ⟨x,h1,h2⟩:=hat j (by omega)
 exact⟨x,h1,by rw [List.getElem_take];exact h2⟩
set_option maxHeartbeats 2000000 in
theorem implCount (fs:List FieldD) (v:Value) (st:Bool) (w:World) (h:fieldR.slice.In w [v] fs) :
  Calls Tryz.prog 89 #[v,.bool st] w fun e w'=>e = .returned (.int .i64 ((cntF fs st:Nat):Int))∧Below w.heap.size w w':=by
 obtain ⟨a,cap,hv,hn,hcap,hat⟩:=h
 cases hv
 unfold maxLen at hcap
 have HA:Hid (∀ i (h:i<fs.length),∃ x,a=some x∧fieldR.At w x i fs[i]):=hat
 clear hat
 go_enter Tryz.func89,Tryz.ntmps89
 go_wp2_with fail
 go_loopw [5,10] (fun j5 j10 wr=>∃ m:Nat,m≤fs.length∧j10 = .int .i64 (m:Int)∧j5 = .int .i64 ((cntF (fs.take m) st:Nat):Int)∧Below w.heap.size w wr) (fun _ j10 _=>fs.length - (intOf j10).toNat)
 case atStart=>exact⟨0,Nat.zero_le _,rfl,by simp [cntF],Below.refl _ _⟩
 case round =>
  obtain ⟨m,hm,rfl,rfl,hbel⟩:=hrel
  have HW:Hid (Below w.heap.size w wr):=hbel
  clear hbel
  by_cases hlt:m<fs.length
  ·obtain ⟨x,rfl,hx⟩:=HA.out m hlt
   obtain ⟨b,o,rfl⟩:∃ b o,x=⟨b,o,none⟩:=by
    obtain ⟨x0,e0,h0⟩:=HA.out 0 (by omega)
    cases e0
    exact h0.plain (by decide)
   obtain ⟨cs,hc,hin⟩:=hx.mono HW.out
   obtain ⟨rfl,_⟩:=fieldR_in hin
   have hk:fieldR.k=3:=rfl
   rw [hk] at hc
   have g0:=hc 0 (by omega)
   have g1:=hc 1 (by omega)
   have g2:=hc 2 (by omega)
   have hcl:cntF (fs.take m) st≤m:=Nat.le_trans (cntF_le _ _) (by rw [List.length_take];omega)
   have HB:Hid (∀ o,Below w.heap.size w (wr.alloc o)):=fun o=>HW.out.alloc HW.out.size o
   have HY:=(show Hid _ from fun e=>cntF_yes (st:=st) hlt e)
   have HN:=(show Hid _ from fun e=>cntF_no (st:=st) hlt e)
   obtain ⟨d,hd⟩:∃ d,fs[m]=d:=⟨_,rfl⟩
   rw [hd] at g0 g1 g2 HY HN
   obtain ⟨d0,d1,d2⟩:=d
   simp only at HY HN
   simp only [fieldC,List.getElem?_cons_zero,List.getElem?_cons_succ] at g0 g1 g2
   simp only [plain_add,← Nat.add_assoc,Nat.add_zero] at g0 g1 g2
   generalize cntF (fs.take m) st=q at *
   clear hx hc hin hd
   by_cases e:d2=st
   ·have HZ:=(show Hid _ from HY.out e)
    subst e
    have dd:(d2 == d2)=true:=by simp
    clear HY HN
    go_wp2
    go_roundw
    case rel=>exact⟨m+1,by omega,by go_num,by rw [HZ.out];go_num,HB.out _⟩
    case measure=>simp [intOf];omega
   ·have HZ:=(show Hid _ from HN.out e)
    have dd:(d2 == st)=false:=by simpa using e
    clear HY HN e
    go_wp2
    go_roundw
    case rel=>exact⟨m+1,by omega,by go_num,by rw [HZ.out],HB.out _⟩
    case measure=>simp [intOf];omega
  ·obtain rfl:m=fs.length:=by omega
   have HZ:Hid (fs.take fs.length=fs):=List.take_length
   rw [HZ.out]
   go_wp2
   go_ret
   exact⟨rfl,HW.out⟩
def clV (x:CTup) (fa:Option Addr) (fc:Nat) (ma:Option Addr) (mc:Nat):Value:=.agg #[.string (nmC x),.string (suC x),.bool (fiC x),.bool (abC x),.slice fa (fsC x).length fc,.slice ma (msC x).length mc]
set_option maxHeartbeats 2000000 in
theorem implAheadNo (L:List CTup) (va:Option Addr) (vcap r:Nat) (E:List WE) (es:Array MapEntry) (ck:Nat) (x:CTup) (fa:Option Addr) (fc:Nat) (ma:Option Addr) (mc:Nat) (w:World) (h:WmIs w r E es ck) (hR:Right L) (hE:E.map WE.c=allC L) (hs:(suC x).size≤maxLen) :
  Calls Tryz.prog 88 #[.agg #[.slice va L.length vcap,.map (some r)],clV x fa fc ma mc,.bool false] w fun e w'=>e = .returned (.int .i64 (((fldL L (suC x)).length:Nat):Int))∧Below w.heap.size w w':=by
 have HF:Hid (∀ w',Below w.heap.size w w'→Calls Tryz.prog 42 #[.agg #[.slice va L.length vcap,.map (some r)],.string (suC x)] w' fun e w2=>∃ u c,e = .returned (.slice u (fldL L (suC x)).length c)∧Below w'.heap.size w' w2):=fun w' hb=>by
  have:=implFieldsW (.slice va L.length vcap) r E es ck (suC x) w' (h.below hb) hs ⟨_,_,_,rfl⟩ (all_len' hE hR) (fun y hy=>cls_f8 hR _ (by rw [← hE];exact List.mem_map_of_mem hy))
  rw [fs_tie hR hE] at this
  refine Calls.mono this ?_
  rintro e w2 ⟨hb2,v,rfl,ho⟩
  obtain ⟨u,c,rfl⟩:=own_sl3 ho
  exact⟨u,c,rfl,hb2⟩
 clear h hE hR
 unfold clV
 generalize fldL L (suC x)=q at *
 have HB:Hid (∀ o1 o2,Below w.heap.size w ((w.alloc o1).alloc o2)):=fun o1 o2=>below_al2 w o1 o2
 go_enter Tryz.func88,Tryz.ntmps88
 go_wp2_with fail
 refine Calls.mono (HF.out _ (HB.out _ _)) ?_
 rintro e w1 ⟨u,c,rfl,hb1⟩
 have HB1:Hid (Below w.heap.size w w1):=(HB.out _ _).trans (hb1.mono (by simp;omega))
 clear hb1
 go_wp2
 go_ret
 exact⟨rfl,HB1.out⟩
set_option maxHeartbeats 4000000 in
theorem implAheadSt (L:List CTup) (va:Option Addr) (vcap:Nat) (r:Option Nat) (x:CTup) (fa:Option Addr) (fc:Nat) (ma:Option Addr) (mc up:Nat) (w:World) (h:classR.slice.In w [.slice va L.length vcap] L) (h10:L.length≤10) (h8:∀ c ∈ L,(fsC c).length≤8) (hup:fixG nmC L (nmC x)=some up) :
  Calls Tryz.prog 88 #[.agg #[.slice va L.length vcap,.map r],clV x fa fc ma mc,.bool true] w fun e w'=>e = .returned (.int .i64 ((stA L up:Nat):Int))∧Below w.heap.size w w':=by
 obtain ⟨hul,hun,_,huj⟩:=fix_some hup
 obtain ⟨a,cap,hv,hvn,hvc,hat⟩:=slice_open (by decide) h
 cases hv
 unfold maxLen at hvc
 have HA:Hid (∀ i (h:i<L.length),∃ b o,va=some ⟨b,o,none⟩∧classR.At w ⟨b,o,none⟩ i L[i]):=hat
 have HNE:Hid (∀ i (h:i<L.length),i<up→((nmC L[i]).toList == (nmC x).toList)=false):=fun i h k=>tx_ne (huj i h k)
 have HEQ:Hid (∀ i (h:i<L.length),i=up→((nmC L[i]).toList == (nmC x).toList)=true):=fun i h k=>by subst k;exact tx_eq hun
 have HC:Hid (∀ i (h:i<L.length) v w',fieldR.slice.In w' [v] (fsC L[i])→Calls Tryz.prog 89 #[v,.bool true] w' fun e w2=>e = .returned (.int .i64 ((cntF (fsC L[i]) true:Nat):Int))∧Below w'.heap.size w' w2):=fun i _ v w' k=>implCount _ v true w' k
 have HSA:=(show Hid (∀ k,stA L k≤8 * k) from stA_le h8)
 have HC8:Hid (∀ i (h:i<L.length),cntF (fsC L[i]) true≤8):=fun i hi=>Nat.le_trans (cntF_le _ _) (h8 _ (List.getElem_mem hi))
 clear h hup hun huj hat h8
 unfold clV
 go_enter Tryz.func88,Tryz.ntmps88
 go_wp2_with fail
 have HB0:Hid (∀ o1 o2,Below w.heap.size w ((w.alloc o1).alloc o2)):=fun o1 o2=>below_al2 w o1 o2
 have n0:∀ o,((w.alloc o).alloc (.cells #[.string (nmC x),.string (suC x),.bool (fiC x),.bool (abC x),.slice fa (fsC x).length fc,.slice ma (msC x).length mc] 51)).cell? ⟨w.heap.size+1,0,none⟩=some (.string (nmC x)):=fun o=>by simp [go_sem]
 obtain ⟨W,hW⟩:∃ W,((w.alloc (.cells #[.slice va L.length vcap,.map r] 72)).alloc (.cells #[.string (nmC x),.string (suC x),.bool (fiC x),.bool (abC x),.slice fa (fsC x).length fc,.slice ma (msC x).length mc] 51))=W:=⟨_,rfl⟩
 have n1:=n0 (.cells #[.slice va L.length vcap,.map r] 72)
 have hzW:w.heap.size+1<W.heap.size:=by rw [← hW];simp
 have HBW:Hid (Below w.heap.size w W):=hW ▸ HB0.out _ _
 rw [hW] at n1 ⊢
 clear n0 HB0 hW
 go_loopw [7,20] (fun j7 j20 wr=>∃ i:Nat,i≤up∧j20 = .int .i64 (i:Int)∧j7 = .int .i64 ((stA L i:Nat):Int)∧Below W.heap.size W wr) (fun _ j20 _=>L.length - (intOf j20).toNat)
 case atStart=>exact⟨0,Nat.zero_le _,rfl,rfl,Below.refl _ _⟩
 case round =>
  obtain ⟨i,hi,rfl,rfl,hb⟩:=hrel
  have HBr:Hid (Below W.heap.size W wr):=hb
  have HBw:Hid (Below w.heap.size w wr):=HBW.out.trans (hb.mono HBW.out.size)
  have n2:=carry hb (show w.heap.size+1<W.heap.size from hzW) n1
  have hz2:w.heap.size+1<wr.heap.size:=Nat.lt_of_lt_of_le hzW hb.size
  have n3:∀ o,(wr.alloc o).cell? ⟨w.heap.size+1,0,none⟩=some (.string (nmC x)):=fun o=>carry (below_al wr o) hz2 n2
  clear hb
  have hlt:i<L.length:=by omega
  have hSi:=HSA.out i
  obtain ⟨b,o,rfl,hx⟩:=HA.out i hlt
  have HX:=(show Hid _ from fun w' (hb:Below w.heap.size w w')=>hx.mono hb)
  obtain ⟨vc,vh,g0,g1,g2,g3,g4,g5,s0,s1,h4,h5⟩:=classAt (HX.out _ HBw.out)
  have H4:=(show Hid (fieldR.slice.In wr [vc] (fsC L[i])) from h4)
  obtain ⟨fa',fc',rfl⟩:=slice_form h4
  obtain ⟨ma',mc',rfl⟩:=slice_form h5
  have HBa:Hid (∀ o,Below W.heap.size W (wr.alloc o)):=fun o=>HBr.out.alloc HBr.out.size o
  have HBwa:Hid (∀ o,Below w.heap.size w (wr.alloc o)):=fun o=>HBw.out.alloc HBw.out.size o
  clear hx h4 h5 s0 s1
  by_cases e:i=up
  ·have d:=HEQ.out i hlt e
   subst e
   clear HNE HEQ HX H4
   generalize L[i]=y at *
   go_wp2
   go_ret
   exact⟨rfl,HBwa.out _⟩
  ·have d:=HNE.out i hlt (by omega)
   have HCi:=(show Hid _ from HC.out i hlt)
   have H4a:Hid (∀ o,fieldR.slice.In (wr.alloc o) [.slice fa' (fsC L[i]).length fc'] (fsC L[i])):=fun o=>fieldR.slice.mono _ _ _ _ (below_al wr o) H4.out
   have hq:=HC8.out i hlt
   have HS:Hid (stA L (i+1)=stA L i+cntF (fsC L[i]) true):=stA_succ hlt
   clear HNE HEQ HX H4
   generalize L[i]=y at *
   go_wp2_with fail
   refine Calls.mono (HCi.out _ _ (H4a.out _)) ?_
   rintro e w2 ⟨rfl,hb2⟩
   have HB2:Hid (Below W.heap.size W w2):=(HBa.out _).trans (hb2.mono (HBa.out _).size)
   clear hb2 H4a HCi
   go_wp2
   go_roundw
   case rel=>exact⟨i+1,by omega,by go_num,by rw [HS.out];go_num,HB2.out⟩
   case measure=>simp [intOf];omega
theorem tkF (i:Nat) {P:Program} {ops:Array Oper} {Q:Exit→Act→World→Prop} {md:Region.Mode} {S:World→Prop} {oi:Oper} {v:Value} {fuel:Nat} {listed:Array Bool} {a:Act} {w:World} (hi:ops[i]?=some oi)
  (hy:∀ w,S w→(execOp a.eval oi).run P w = .ok (.value v) w) (hS:S w) (h:wpAnyH P md ops Q S fuel (listed.setIfInBounds i true) (a.put oi.dst v) w)
  (hs:Region.noSelect ops=true:=by kernel_rfl) (hf:Region.free md ops listed i=true:=by kernel_rfl) (hr:(Region.ready md ops listed).contains i=true:=by kernel_rfl)
  (hQ:∀ c a w,Q (.panic c) (a.put oi.dst v) w→Q (.panic c) a w:=by exact fun _ _ _ h=>h) (hw:Region.wanted oi (yielded ops a.tmps)=true:=by kernel_rfl):wpAnyH P md ops Q S (fuel+1) listed a w :=
 wpAnyH_take hi hs hf hr hQ (.inl ⟨hw,hy⟩) hS h
theorem ff_mem {L:List CTup} {c:CTup} {j:Nat} (hc:c ∈ allC L) (hj:j<(fsC c).length):c ∈ L:=by
 rcases List.mem_append.1 hc with h | h
 ·rw [bi_fs c h] at hj
  simp at hj
 ·exact h
set_option maxRecDepth 20000 in
set_option maxHeartbeats 8000000 in
theorem findFieldCore (T:List WE) (F:Nat→ByteArray × Int × Int) (Pl:Nat→Nat→Int) (va:Option Addr) (ln vcap r:Nat) (cl n t:ByteArray) (w:World) (hcl:cl.size≤maxLen) (hn:n.size≤maxLen) (hd:t.size≤maxLen) (hT1:T.length≤100) (hln:ln≤maxLen)
  (HWu:Hid (∀ w',Below w.heap.size w w'→Calls Tryz.prog 83 #[.agg #[.slice va ln vcap,.map (some r)],.string cl] w' fun e w2=>Below w'.heap.size w' w2∧∃ v,e = .returned v∧w2.ownsRow w'.heap.size 102 7 v T.length (T.flatMap weC)))
  (HFl:Hid (∀ i (hi:i<T.length) w',Below w.heap.size w w'→fieldR.slice.In w' [.slice T[i].fa (fsC T[i].c).length T[i].fc] (fsC T[i].c)))
  (HF8:Hid (∀ i (hi:i<T.length),(fsC T[i].c).length≤8))
  (HAh:Hid (∀ i (hi:i<T.length) j (hj:j<(fsC T[i].c).length) st,(fsC T[i].c)[j].2.2=st→∃ q:Nat,q≤1000∧(q:Int)+((cntF ((fsC T[i].c).take j) st:Nat):Int)=Pl i j∧∀ w',Below w.heap.size w w'→Calls Tryz.prog 88 #[.agg #[.slice va ln vcap,.map (some r)],clV T[i].c T[i].fa T[i].fc T[i].ma T[i].mc,.bool st] w' fun e w2=>e = .returned (.int .i64 (q:Int))∧Below w'.heap.size w' w2))
  (HCl:Hid (∀ i (hi:i<T.length) w',Calls Tryz.prog 43 #[.string (nmC T[i].c)] w' fun e w2=>e = .returned (.string (nmC T[i].c))∧Below w'.heap.size w' w2))
  (HF:Hid (∀ i (hi:i<T.length),F i=match fIx (fsC T[i].c) n t with
   | some j=>(nmC T[i].c,Pl i j,0)
   | none=>F (i+1)))
  (HFe:Hid (F T.length=(tE,0,8))) :
  Calls Tryz.prog 50 #[.agg #[.slice va ln vcap,.map (some r)],.string cl,.string n,.string t] w fun e w'=>e = .returned (fdV (F 0))∧Below w.heap.size w w':=by
 unfold maxLen at hcl hn hd
 go_enter Tryz.func50,Tryz.ntmps50
 go_wp2_with fail
 refine Calls.mono (HWu.out _ (below_al2 _ _ _)) ?_
 rintro e w1 ⟨hb1,v,rfl,ho⟩
 have HB1:Hid (Below w.heap.size w w1):=(below_al2 _ _ _).trans (hb1.mono (by simp;omega))
 have k0:=cC hb1 (w.heap.size) 0 (.slice va ln vcap) (by first | (simp;done) | (simp;omega)) (by simp [go_sem])
 have k1:=cC hb1 (w.heap.size) 1 (.map (some r)) (by first | (simp;done) | (simp;omega)) (by simp [go_sem])
 have r0:=cC hb1 (w.heap.size+1) 0 (.string ⟨#[]⟩) (by simp) (by simp [go_sem])
 have r1:=cC hb1 (w.heap.size+1) 1 (.int .i64 0) (by simp) (by simp [go_sem])
 have r2:=cC hb1 (w.heap.size+1) 2 (.int .i64 0) (by simp) (by simp [go_sem])
 have fr:∀ j,w1.frozen? ⟨w.heap.size+1,j,none⟩=false:=fun j=>carryF hb1 (by simp) (by simp [go_sem])
 have hz:w.heap.size+1<w1.heap.size:=by have:=hb1.size;simp at this;omega
 have HO1:=(show Hid (WyAt w1 (w.heap.size+2) v T) from (WyAt.mk ho).base (by simp))
 obtain ⟨va1,vcap1,rfl,hcap,hvc,_⟩:=HO1.out.slice
 unfold maxLen at hcap
 clear hb1 ho HWu
 go_wp2_with fail
 go_loopw [18] (fun j18 wr=>∃ i:Nat,i≤T.length∧j18 = .int .i64 (i:Int)∧Below w1.heap.size w1 wr∧F 0=F i) (fun j18 _=>T.length - (intOf j18).toNat)
 case atStart=>exact⟨0,Nat.zero_le _,rfl,Below.refl _ _,rfl⟩
 case round =>
  obtain ⟨i,hi,rfl,hb,hres⟩:=hrel
  have HRs:=(show Hid (F 0=F i) from hres)
  have HBr:Hid (Below w.heap.size w wr):=HB1.out.trans (hb.mono HB1.out.size)
  have HBo:Hid (Below w1.heap.size w1 wr):=hb
  replace k0:=carry hb (show w.heap.size<w1.heap.size by omega) k0
  replace k1:=carry hb (show w.heap.size<w1.heap.size by omega) k1
  replace r0:=carry hb hz r0
  replace r1:=carry hb hz r1
  replace r2:=carry hb hz r2
  replace fr:∀ j,wr.frozen? ⟨w.heap.size+1,j,none⟩=false:=fun j=>carryF hb hz (fr j)
  have hz1:w.heap.size+1<wr.heap.size:=Nat.lt_of_lt_of_le hz hb.size
  have HOr:=(show Hid (WyAt wr (w.heap.size+2) (.slice va1 T.length vcap1) T) from HO1.out.below hb)
  clear hb hres
  by_cases hlt:i<T.length
  ·obtain ⟨va',vcap',ev,_,_,hcell⟩:=HOr.out.slice
   cases ev
   obtain ⟨g,rfl,hg1,hg2,c0,c1,c2,c3,c4,c5,c6⟩:=hcell i hlt
   clear hcell HOr
   unfold WE.vc at c4
   unfold WE.vh at c5
   have hfi:=HF.out i hlt
   rw [← HRs.out] at hfi
   have HFi:=(show Hid _ from hfi)
   have HCl1:=(show Hid _ from HCl.out i hlt)
   have HAh1:=(show Hid _ from HAh.out i hlt)
   have HFl1:=(show Hid _ from HFl.out i hlt)
   have h8:=HF8.out i hlt
   clear hfi HRs
   obtain ⟨y,hy⟩:∃ y,T[i]=y:=⟨_,rfl⟩
   rw [hy] at c0 c1 c2 c3 c4 c5 c6 HFi HCl1 HAh1 HFl1 h8
   clear hy
   obtain ⟨yc,fa,fc,ma,mc,rm⟩:=y
   dsimp only at c0 c1 c2 c3 c4 c5 c6 HFi HCl1 HAh1 HFl1 h8
   go_wp2_with fail
   obtain ⟨xo,hxo⟩:∃ xo,wr=xo:=⟨_,rfl⟩
   subst wr
   obtain ⟨X,hX⟩:∃ X,xo.alloc (.cells #[.string (nmC yc),.string (suC yc),.bool (fiC yc),.bool (abC yc),.slice fa (fsC yc).length fc,.slice ma (msC yc).length mc,.map (some rm)] 102)=X:=⟨_,rfl⟩
   have hBX:Below xo.heap.size xo X:=hX ▸ below_al xo _
   have hzX:xo.heap.size<X.heap.size:=by rw [← hX];simp
   have HXC:Hid (X.cell? ⟨xo.heap.size,0,none⟩=some (.string (nmC yc))∧X.cell? ⟨xo.heap.size,1,none⟩=some (.string (suC yc))∧X.cell? ⟨xo.heap.size,2,none⟩=some (.bool (fiC yc))∧X.cell? ⟨xo.heap.size,3,none⟩=some (.bool (abC yc))∧X.cell? ⟨xo.heap.size,4,none⟩=some (.slice fa (fsC yc).length fc)∧X.cell? ⟨xo.heap.size,5,none⟩=some (.slice ma (msC yc).length mc)):=by rw [← hX];exact⟨by simp [go_sem],by simp [go_sem],by simp [go_sem],by simp [go_sem],by simp [go_sem],by simp [go_sem]⟩
   have HXR:Hid (X.cell? ⟨w.heap.size,0,none⟩=some (.slice va ln vcap)∧X.cell? ⟨w.heap.size,1,none⟩=some (.map (some r))∧X.cell? ⟨w.heap.size+1,0,none⟩=some (.string ⟨#[]⟩)∧X.cell? ⟨w.heap.size+1,1,none⟩=some (.int .i64 0)∧X.cell? ⟨w.heap.size+1,2,none⟩=some (.int .i64 0)∧∀ j,X.frozen? ⟨w.heap.size+1,j,none⟩=false):=⟨carry hBX (by show w.heap.size<_;omega) k0,carry hBX (by show w.heap.size<_;omega) k1,carry hBX hz1 r0,carry hBX hz1 r1,carry hBX hz1 r2,fun j=>carryF hBX hz1 (fr j)⟩
   have HBX:Hid (Below w.heap.size w X):=HBr.out.trans (hBX.mono HBr.out.size)
   have HBXo:Hid (Below w1.heap.size w1 X):=HBo.out.trans (hBX.mono HBo.out.size)
   rw [hX]
   clear hX hBX k0 k1 r0 r1 r2 fr c0 c1 c2 c3 c4 c5 c6
   go_wp2_with fail
   go_loopw [26] (fun j26 xr=>∃ j:Nat,j≤(fsC yc).length∧j26 = .int .i64 (j:Int)∧Below X.heap.size X xr∧∀ k (hk:k<(fsC yc).length),k<j→¬ ((fsC yc)[k].1=n∧(fsC yc)[k].2.1=t)) (fun j26 _=>(fsC yc).length - (intOf j26).toNat)
   case atStart=>exact⟨0,Nat.zero_le _,rfl,Below.refl _ _,fun k _ h=>by omega⟩
   case round =>
    obtain ⟨j,hj,rfl,hbx,hno⟩:=hrel
    have HBx:Hid (Below X.heap.size X wr):=hbx
    have HBw:Hid (Below w.heap.size w wr):=HBX.out.trans (hbx.mono HBX.out.size)
    have HNo:=(show Hid _ from hno)
    have hzx:xo.heap.size<wr.heap.size:=Nat.lt_of_lt_of_le hzX hbx.size
    clear hbx hno
    by_cases hjl:j<(fsC yc).length
    ·obtain ⟨a',cap',hv,hnn,hcap',hat⟩:=HFl1.out wr HBw.out
     cases hv
     obtain ⟨x,e1,hx⟩:=hat j hjl
     subst e1
     obtain ⟨b,o,rfl⟩:∃ b o,x=⟨b,o,none⟩:=by
      obtain ⟨x0,e0,h0⟩:=hat 0 (by omega)
      cases e0
      exact h0.plain (by decide)
     obtain ⟨cs,hc,hin⟩:=hx
     obtain ⟨rfl,_⟩:=fieldR_in hin
     have hk:fieldR.k=3:=rfl
     rw [hk] at hc
     have g0:=hc 0 (by omega)
     have g1:=hc 1 (by omega)
     have g2:=hc 2 (by omega)
     simp only [fieldC,List.getElem?_cons_zero,List.getElem?_cons_succ] at g0 g1 g2
     simp only [plain_add,← Nat.add_assoc,Nat.add_zero] at g0 g1 g2
     unfold maxLen at hcap'
     have hAq:=HAh1.out j hjl _ rfl
     have HFt:Hid (∀ w',Below w.heap.size w w'→∀ st,Calls Tryz.prog 89 #[.slice (some ⟨b,o,none⟩) j fc,.bool st] w' fun e w2=>e = .returned (.int .i64 ((cntF ((fsC yc).take j) st:Nat):Int))∧Below w'.heap.size w' w2):=fun w' hb st=>implCount _ _ st w' (fld_take (HFl1.out w' hb) hj)
     have HSM:Hid ((fsC yc)[j].1=n→(fsC yc)[j].2.1=t→F 0=(nmC yc,Pl i j,0)):=fun e1 e2=>by rw [HFi.out,fIx_some hjl ⟨e1,e2⟩ HNo.out]
     have HNM:Hid (¬ ((fsC yc)[j].1=n∧(fsC yc)[j].2.1=t)→∀ k (hk:k<(fsC yc).length),k<j+1→¬ ((fsC yc)[k].1=n∧(fsC yc)[k].2.1=t)):=fun e k hk hkj=>by
      by_cases e2:k=j
      ·subst e2;exact e
      ·exact HNo.out k hk (by omega)
     have hcl2:∀ st,cntF ((fsC yc).take j) st≤8:=fun st=>Nat.le_trans (cntF_le _ _) (by rw [List.length_take];omega)
     clear hc hin hat HNo
     obtain ⟨d,hdd⟩:∃ d,(fsC yc)[j]=d:=⟨_,rfl⟩
     rw [hdd] at g0 g1 g2 hAq HSM HNM
     clear hdd
     obtain ⟨d0,d1,d2⟩:=d
     dsimp only at g0 g1 g2 hAq HSM HNM
     have hji:(j:Int)<(fsC yc).length:=by omega
     have hjc:j≤fc:=by omega
     have HBa:Hid (∀ o,Below X.heap.size X (wr.alloc o)):=fun o=>HBx.out.alloc HBx.out.size o
     by_cases e1:d0=n
     ·have t1:=tx_eq e1
      by_cases e2:d1=t
      ·have t2:=tx_eq e2
       have HZ:=(show Hid _ from HSM.out e1 e2)
       obtain ⟨q,hq1,hq2,hq3⟩:=hAq
       unfold clV at hq3
       have HQ:=(show Hid _ from hq3)
       have HE:=(show Hid _ from hq2)
       have hc8:=hcl2 d2
       have HCt:=(show Hid _ from fun w' hb=>HFt.out w' hb d2)
       clear HSM HNM e1 e2 hq2 hq3 hcl2 HFt
       generalize cntF ((fsC yc).take j) d2=ct at *
       have HBW0:Hid (Below X.heap.size X (wr.alloc (.cells #[.string d0,.string d1,.bool d2] 61))):=HBa.out _
       have hcW:(wr.alloc (.cells #[.string d0,.string d1,.bool d2] 61)).cell? ⟨wr.heap.size,2,none⟩=some (.bool d2):=by simp [go_sem]
       have hzW:wr.heap.size<(wr.alloc (.cells #[.string d0,.string d1,.bool d2] 61)).heap.size:=by simp
       have HSX:Hid (∀ w',Below (wr.alloc (.cells #[.string d0,.string d1,.bool d2] 61)).heap.size (wr.alloc (.cells #[.string d0,.string d1,.bool d2] 61)) w'→(w'.cell? ⟨w.heap.size,0,none⟩=some (.slice va ln vcap)∧w'.cell? ⟨w.heap.size,1,none⟩=some (.map (some r))∧w'.cell? ⟨xo.heap.size,0,none⟩=some (.string (nmC yc))∧w'.cell? ⟨xo.heap.size,1,none⟩=some (.string (suC yc))∧w'.cell? ⟨xo.heap.size,2,none⟩=some (.bool (fiC yc))∧w'.cell? ⟨xo.heap.size,3,none⟩=some (.bool (abC yc))∧w'.cell? ⟨xo.heap.size,4,none⟩=some (.slice (some ⟨b,o,none⟩) (fsC yc).length fc)∧w'.cell? ⟨xo.heap.size,5,none⟩=some (.slice ma (msC yc).length mc)∧w'.cell? ⟨wr.heap.size,2,none⟩=some (.bool d2))∧Below w.heap.size w w'):=fun w' hb=>by
        have hB:=HBW0.out.trans (hb.mono HBW0.out.size)
        obtain ⟨x0,x1,x2,x3,x4,x5⟩:=HXC.out
        obtain ⟨y0,y1,_⟩:=HXR.out
        exact⟨⟨carry hB (by show w.heap.size<_;omega) y0,carry hB (by show w.heap.size<_;omega) y1,carry hB hzX x0,carry hB hzX x1,carry hB hzX x2,carry hB hzX x3,carry hB hzX x4,carry hB hzX x5,carry hb hzW hcW⟩,HBX.out.trans (hB.mono HBX.out.size)⟩
       have HRR:Hid (∀ w',Below (wr.alloc (.cells #[.string d0,.string d1,.bool d2] 61)).heap.size (wr.alloc (.cells #[.string d0,.string d1,.bool d2] 61)) w'→w'.cell? ⟨w.heap.size+1,0,none⟩=some (.string ⟨#[]⟩)∧w'.cell? ⟨w.heap.size+1,1,none⟩=some (.int .i64 0)∧w'.cell? ⟨w.heap.size+1,2,none⟩=some (.int .i64 0)∧∀ j,w'.frozen? ⟨w.heap.size+1,j,none⟩=false):=fun w' hb=>by
        have hB:=HBW0.out.trans (hb.mono HBW0.out.size)
        obtain ⟨_,_,y0,y1,y2,y3⟩:=HXR.out
        have hzr:w.heap.size+1<X.heap.size:=by omega
        exact⟨carry hB hzr y0,carry hB hzr y1,carry hB hzr y2,fun j=>carryF hB hzr (y3 j)⟩
       clear hcW hzW
       go_upto_region 8 with fail
       refine wp_region_held_drew (S:=fun w'=>w'.cell? ⟨w.heap.size,0,none⟩=some (.slice va ln vcap)∧w'.cell? ⟨w.heap.size,1,none⟩=some (.map (some r))∧w'.cell? ⟨xo.heap.size,0,none⟩=some (.string (nmC yc))∧w'.cell? ⟨xo.heap.size,1,none⟩=some (.string (suC yc))∧w'.cell? ⟨xo.heap.size,2,none⟩=some (.bool (fiC yc))∧w'.cell? ⟨xo.heap.size,3,none⟩=some (.bool (abC yc))∧w'.cell? ⟨xo.heap.size,4,none⟩=some (.slice (some ⟨b,o,none⟩) (fsC yc).length fc)∧w'.cell? ⟨xo.heap.size,5,none⟩=some (.slice ma (msC yc).length mc)∧w'.cell? ⟨wr.heap.size,2,none⟩=some (.bool d2)) (by kernel_rfl) ((HSX.out _ (Below.refl _ _).drew).1) (fun hHeld=>?_)
       refine tkF 0 rfl (by intro w hSw;(try dsimp only at hSw);go_simp;try with_reducible rfl) hHeld ?_
       (try simp only [Act.put,List.getElem_toArray,List.getElem_cons_zero,List.setIfInBounds_toArray,List.set_cons_zero,List.set_cons_succ])
       refine tkF 1 rfl (by intro w hSw;(try dsimp only at hSw);go_simp;try with_reducible rfl) hHeld ?_
       (try simp only [Act.put,List.getElem_toArray,List.getElem_cons_zero,List.getElem_cons_succ,List.setIfInBounds_toArray,List.set_cons_zero,List.set_cons_succ])
       refine tkF 2 rfl (by intro w hSw;(try dsimp only at hSw);go_simp;try with_reducible rfl) hHeld ?_
       (try simp only [Act.put,List.getElem_toArray,List.getElem_cons_zero,List.getElem_cons_succ,List.setIfInBounds_toArray,List.set_cons_zero,List.set_cons_succ])
       refine tkF 3 rfl (by intro w hSw;(try dsimp only at hSw);go_simp;try with_reducible rfl) hHeld ?_
       (try simp only [Act.put,List.getElem_toArray,List.getElem_cons_zero,List.getElem_cons_succ,List.setIfInBounds_toArray,List.set_cons_zero,List.set_cons_succ])
       refine tkF 4 rfl (by intro w hSw;(try dsimp only at hSw);go_simp;try with_reducible rfl) hHeld ?_
       (try simp only [Act.put,List.getElem_toArray,List.getElem_cons_zero,List.getElem_cons_succ,List.setIfInBounds_toArray,List.set_cons_zero,List.set_cons_succ])
       refine tkF 6 rfl (by intro w hSw;(try dsimp only at hSw);go_simp;try with_reducible rfl) hHeld ?_
       (try simp only [Act.put,List.getElem_toArray,List.getElem_cons_zero,List.getElem_cons_succ,List.setIfInBounds_toArray,List.set_cons_zero,List.set_cons_succ])
       refine tkF 7 rfl (by intro w hSw;(try dsimp only at hSw);go_simp;try with_reducible rfl) hHeld ?_
       (try simp only [Act.put,List.getElem_toArray,List.getElem_cons_zero,List.getElem_cons_succ,List.setIfInBounds_toArray,List.set_cons_zero,List.set_cons_succ])
       refine tkF 8 rfl (by intro w hSw;(try dsimp only at hSw);go_simp;try with_reducible rfl) hHeld ?_
       (try simp only [Act.put,List.getElem_toArray,List.getElem_cons_zero,List.getElem_cons_succ,List.setIfInBounds_toArray,List.set_cons_zero,List.set_cons_succ])
       refine tkF 9 rfl (by intro w hSw;(try dsimp only at hSw);go_simp;try with_reducible rfl) hHeld ?_
       (try simp only [Act.put,List.getElem_toArray,List.getElem_cons_zero,List.getElem_cons_succ,List.setIfInBounds_toArray,List.set_cons_zero,List.set_cons_succ])
       refine tkF 10 rfl (by intro w hSw;(try dsimp only at hSw);go_simp;try with_reducible rfl) hHeld ?_
       (try simp only [Act.put,List.getElem_toArray,List.getElem_cons_zero,List.getElem_cons_succ,List.setIfInBounds_toArray,List.set_cons_zero,List.set_cons_succ])
       refine tkF 11 rfl (by intro w hSw;(try dsimp only at hSw);go_simp;try with_reducible rfl) hHeld ?_
       (try simp only [Act.put,List.getElem_toArray,List.getElem_cons_zero,List.getElem_cons_succ,List.setIfInBounds_toArray,List.set_cons_zero,List.set_cons_succ])
       refine tkF 12 rfl (by intro w hSw;(try dsimp only at hSw);go_simp;try with_reducible rfl) hHeld ?_
       (try simp only [Act.put,List.getElem_toArray,List.getElem_cons_zero,List.getElem_cons_succ,List.setIfInBounds_toArray,List.set_cons_zero,List.set_cons_succ])
       refine wpAnyH_ready (rs:=[5]) (by kernel_rfl) (by simp) ?_
       refine AllReadyH.cons rfl (fun K hK=>?_) AllReadyH.nil
       simp only [List.getElem_toArray,List.getElem_cons_zero,List.getElem_cons_succ]
       go_simp
       refine Calls.mono (HQ.out _ (HSX.out _ (Below.refl _ _).drew).2) ?_
       rintro e w2 ⟨rfl,hb2⟩
       have hB2:Below (wr.alloc (.cells #[.string d0,.string d1,.bool d2] 61)).heap.size (wr.alloc (.cells #[.string d0,.string d1,.bool d2] 61)) w2:=(Below.refl _ _).drew.trans hb2
       refine hK.out _ _ ((HSX.out _ hB2).1) (fun hHeld=>?_)
       clear hK K
       (try simp only [Act.put,List.getElem_toArray,List.getElem_cons_zero,List.getElem_cons_succ,List.setIfInBounds_toArray,List.set_cons_zero,List.set_cons_succ])
       refine wpAnyH_ready (rs:=[13]) (by kernel_rfl) (by simp) ?_
       refine AllReadyH.cons rfl (fun K hK=>?_) AllReadyH.nil
       simp only [List.getElem_toArray,List.getElem_cons_zero,List.getElem_cons_succ]
       go_simp
       refine Calls.mono (HCt.out _ (HSX.out _ hB2).2) ?_
       rintro e w3 ⟨rfl,hb3⟩
       have hB3:Below (wr.alloc (.cells #[.string d0,.string d1,.bool d2] 61)).heap.size (wr.alloc (.cells #[.string d0,.string d1,.bool d2] 61)) w3:=hB2.trans (hb3.mono hB2.size)
       refine hK.out _ _ ((HSX.out _ hB3).1) (fun hHeld=>?_)
       clear hK K
       (try simp only [Act.put,List.getElem_toArray,List.getElem_cons_zero,List.getElem_cons_succ,List.setIfInBounds_toArray,List.set_cons_zero,List.set_cons_succ])
       refine tkF 14 rfl (by intro w hSw;(try dsimp only at hSw);go_simp;try with_reducible rfl) hHeld ?_
       (try simp only [Act.put,List.getElem_toArray,List.getElem_cons_zero,List.getElem_cons_succ,List.setIfInBounds_toArray,List.set_cons_zero,List.set_cons_succ])
       refine tkF 15 rfl (by intro w hSw;(try dsimp only at hSw);go_simp;try with_reducible rfl) hHeld ?_
       (try simp only [Act.put,List.getElem_toArray,List.getElem_cons_zero,List.getElem_cons_succ,List.setIfInBounds_toArray,List.set_cons_zero,List.set_cons_succ])
       refine wpAnyH_done (by kernel_rfl) ?_ _
       obtain ⟨r0,r1,r2,fr⟩:=HRR.out _ hB3
       obtain ⟨⟨_,_,n0,_⟩,hBw3⟩:=HSX.out _ hB3
       have HB3:Hid (Below w.heap.size w w3):=hBw3
       have hz3:w.heap.size+1<w3.heap.size:=World.block_lt_of_cell? _ ⟨w.heap.size+1,0,none⟩ r0
       clear hHeld hb2 hb3 hB2 hB3 hBw3 HSX HRR HBa HQ HCt
       go_wp2_with fail
       refine Calls.mono (HCl1.out _) ?_
       rintro e w4 ⟨rfl,hb4⟩
       have HB4:Hid (Below w.heap.size w w4):=HB3.out.trans (hb4.mono HB3.out.size)
       have s0:=carry hb4 hz3 r0
       have s1:=carry hb4 hz3 r1
       have s2:=carry hb4 hz3 r2
       have fs:∀ j,w4.frozen? ⟨w.heap.size+1,j,none⟩=false:=fun j=>carryF hb4 hz3 (fr j)
       clear hb4 r0 r1 r2 fr n0
       go_wp2
       exact bodyPost_ret (v:=.agg #[.string (nmC yc),.int .i64 ((q:Int)+(ct:Int)),.int .i64 0]) (by simp [results,Tryz.results50,go_sem,s0,s1,s2]) rfl ⟨by rw [HZ.out,← HE.out];rfl,((HB4.out.setCell (by simp) _).setCell (by simp) _).setCell (by simp) _⟩
      ·have t2:=tx_ne e2
       have HN2:=(show Hid _ from HNM.out fun k=>e2 k.2)
       clear HSM HNM e1 e2 hAq HFt
       go_wp2
       go_roundw
       case rel=>exact⟨j+1,by omega,by go_num,HBa.out _,HN2.out⟩
       case measure=>simp [intOf];omega
     ·have t1:=tx_ne e1
      have HN2:=(show Hid _ from HNM.out fun k=>e1 k.1)
      clear HSM HNM e1 hAq HFt
      go_wp2
      go_roundw
      case rel=>exact⟨j+1,by omega,by go_num,HBa.out _,HN2.out⟩
      case measure=>simp [intOf];omega
    ·have HFn:Hid (F 0=F (i+1)):=by
      show _=_
      rw [HFi.out,fIx_none fun k hk=>HNo.out k hk (by omega)]
     obtain rfl:j=(fsC yc).length:=by omega
     clear HNo HFi
     go_wp2
     go_roundw
     case rel=>exact⟨i+1,by omega,by go_num,HBXo.out.trans (HBx.out.mono HBXo.out.size),HFn.out⟩
     case measure=>simp [intOf];omega
  ·obtain rfl:i=T.length:=by omega
   have HZ:Hid (F 0=(tE,0,8)):=HRs.out.trans HFe.out
   clear HRs HOr
   go_wp2
   exact bodyPost_ret (v:=.agg #[.string ⟨#[]⟩,.int .i64 0,.int .i64 8]) (by simp [results,Tryz.results50,go_sem,r0,r1,r2]) rfl ⟨by rw [HZ.out];rfl,((HBr.out.setCell (by simp) _).setCell (by simp) _).setCell (by simp) _⟩
set_option maxRecDepth 20000 in
set_option maxHeartbeats 8000000 in
theorem implFindFieldW (L:List CTup) (va:Option Addr) (vcap r:Nat) (E:List WE) (es:Array MapEntry) (ck:Nat) (cl n t:ByteArray) (w:World) (h:WmIs w r E es ck) (hL:classR.slice.In w [.slice va L.length vcap] L) (hR:Right L) (hE:E.map WE.c=allC L) (hcl:cl.size≤maxLen) (hn:n.size≤maxLen) (hd:t.size≤maxLen) :
  Calls Tryz.prog 50 #[.agg #[.slice va L.length vcap,.map (some r)],.string cl,.string n,.string t] w fun e w'=>e = .returned (fdV (ffL L cl n t))∧Below w.heap.size w w':=by
 have HWu:Hid (∀ w',Below w.heap.size w w'→Calls Tryz.prog 83 #[.agg #[.slice va L.length vcap,.map (some r)],.string cl] w' fun e w2=>Below w'.heap.size w' w2∧∃ v,e = .returned v∧w2.ownsRow w'.heap.size 102 7 v (wyG E cl).length ((wyG E cl).flatMap weC)):=fun w' hb=>implWayUp _ r E es ck cl w' (h.below hb) hcl ⟨_,_,_,rfl⟩ (all_len' hE hR)
 have hmem:∀ i (hi:i<(wyG E cl).length),(wyG E cl)[i].c ∈ allC L:=fun i hi=>by rw [← hE];exact List.mem_map_of_mem (wy_sub E cl _ (List.getElem_mem hi))
 have HFl:Hid (∀ i (hi:i<(wyG E cl).length) w',Below w.heap.size w w'→fieldR.slice.In w' [.slice (wyG E cl)[i].fa (fsC (wyG E cl)[i].c).length (wyG E cl)[i].fc] (fsC (wyG E cl)[i].c)):=fun i hi w' hb=>fieldR.slice.mono _ _ _ _ hb (h.lies _ (wy_sub E cl _ (List.getElem_mem hi))).f
 have HF8:Hid (∀ i (hi:i<(wyG E cl).length),(fsC (wyG E cl)[i].c).length≤8):=fun i hi=>cls_f8 hR _ (hmem i hi)
 have HAh:Hid (∀ i (hi:i<(wyG E cl).length) j (hj:j<(fsC (wyG E cl)[i].c).length) st,(fsC (wyG E cl)[i].c)[j].2.2=st→∃ q:Nat,q≤1000∧(q:Int)+((cntF ((fsC (wyG E cl)[i].c).take j) st:Nat):Int)=ffP L (wyG E cl)[i].c j∧∀ w',Below w.heap.size w w'→Calls Tryz.prog 88 #[.agg #[.slice va L.length vcap,.map (some r)],clV (wyG E cl)[i].c (wyG E cl)[i].fa (wyG E cl)[i].fc (wyG E cl)[i].ma (wyG E cl)[i].mc,.bool st] w' fun e w2=>e = .returned (.int .i64 (q:Int))∧Below w'.heap.size w' w2):=fun i hi j hj st hst=>by
  have hcL:=ff_mem (hmem i hi) hj
  have hf8:∀ c ∈ L,(fsC c).length≤8:=fun c hc=>cls_f8 hR c (List.mem_append_right _ hc)
  cases st with
  | false =>
   refine ⟨(fldL L (suC (wyG E cl)[i].c)).length,?_,(ffP_no hj hst).symm,fun w' hb=>implAheadNo L va vcap r E es ck _ _ _ _ _ w' (h.below hb) hR hE (h.lies _ (wy_sub E cl _ (List.getElem_mem hi))).s⟩
   have:=fldL_len (Past.acyL fun q hq=>hR.2 q (by omega)) hf8 (suC (wyG E cl)[i].c)
   have:=hR.1
   omega
  | true =>
   obtain ⟨up,hup⟩:∃ up,fixG nmC L (nmC (wyG E cl)[i].c)=some up:=by
    rcases fix_cases nmC L (nmC (wyG E cl)[i].c) with ⟨_,k2⟩ | ⟨k,hk,k1,_⟩
    ·exact absurd rfl (lkG_none.1 k2 _ hcL)
    ·exact⟨k,k1⟩
   obtain ⟨hul,_⟩:=fix_some hup
   refine ⟨stA L up,?_,?_,fun w' hb=>implAheadSt L va vcap (some r) _ _ _ _ _ up w' (classR.slice.mono _ _ _ _ hb hL) hR.1 hf8 hup⟩
   ·have:=stA_le hf8 up
    have:=hR.1
    omega
   ·rw [ffP_st hj hst,hup]
    rfl
 have HCl:Hid (∀ i (hi:i<(wyG E cl).length) w',Calls Tryz.prog 43 #[.string (nmC (wyG E cl)[i].c)] w' fun e w2=>e = .returned (.string (nmC (wyG E cl)[i].c))∧Below w'.heap.size w' w2):=fun i hi w'=>libClone _ w' (Nat.le_trans (all_size hR.part _ (hmem i hi)) (by decide))
 have HF0:Hid (ffL L cl n t=ffU L n t (((wyG E cl).drop 0).map WE.c)):=(ff_tie hR hE cl n t).symm
 have hT1:(wyG E cl).length≤100:=Nat.le_trans (wy_len E cl) (all_len' hE hR)
 have hlm:L.length≤maxLen:=by have:=hR.1;unfold maxLen;omega
 rw [HF0.out]
 exact findFieldCore (wyG E cl) (fun i=>ffU L n t (((wyG E cl).drop i).map WE.c)) (fun i j=>if h:i<(wyG E cl).length then ffP L (wyG E cl)[i].c j else 0) va L.length vcap r cl n t w hcl hn hd hT1 hlm HWu HFl HF8 (fun i hi j hj st e=>by obtain ⟨q,q1,q2,q3⟩:=HAh.out i hi j hj st e;exact⟨q,q1,by rw [q2,dif_pos hi],q3⟩) HCl (fun i hi=>by simp only [dif_pos hi];rw [List.drop_eq_getElem_cons hi];rfl) (by show ffU L n t (((wyG E cl).drop (wyG E cl).length).map WE.c)=_;rw [List.drop_length];rfl)
end Go.Proofs.YtmhgaggpdggbeaaGreatDoor
