import Derived.Test.YtmhgaggpdggbeaaGreatDoorWi10
import Derived.Test.YtmhgaggpdggbeaaGreatDoorCR2
namespace Go.Proofs.YtmhgaggpdggbeaaGreatDoor
open Go.RowKit
set_option maxRecDepth 20000
set_option linter.unusedVariables false

theorem obj_ne {n:ByteArray} (h:n ≠ objN):(n.toList == [79,98,106,101,99,116])=false:=by
 rw [beq_eq_false_iff_ne]
 intro e
 rw [ByteArray.toList_eq] at e
 exact h (WideShapes.bytes_inj (by rw [e];rfl))
theorem obj_eq {n:ByteArray} (h:n=objN):(n.toList == [79,98,106,101,99,116])=true:=by rw [h,ByteArray.toList_eq];rfl
theorem err_ne {n:ByteArray} (h:n ≠ errN):(n.toList == [69,114,114,111,114])=false:=by
 rw [beq_eq_false_iff_ne]
 intro e
 rw [ByteArray.toList_eq] at e
 exact h (WideShapes.bytes_inj (by rw [e];rfl))
theorem err_eq {n:ByteArray} (h:n=errN):(n.toList == [69,114,114,111,114])=true:=by rw [h,ByteArray.toList_eq];rfl
set_option maxRecDepth 100000 in
set_option maxHeartbeats 1000000 in
theorem implBuiltInClass (n:ByteArray) (w:World) :
  Calls Tryz.prog 104 #[.string n] w fun e w'=>e = .returned (clC (biC1 n) none 0 none 0)∧Below w.heap.size w w':=by
 by_cases h0:n=objN
 ·have d0:=obj_eq h0
  have HZ:Hid (clC (biC1 n) none 0 none 0 = .agg #[.string n,.string ⟨#[]⟩,.bool false,.bool false,.slice none 0 0,.slice none 0 0]):=by show _=_;unfold biC1;rw [if_pos h0];rfl
  generalize clC (biC1 n) none 0 none 0=res at *
  clear h0
  go_enter Tryz.func104,Tryz.ntmps104
  go_wp2
  exact bodyPost_ret (v:=.agg #[.string n,.string ⟨#[]⟩,.bool false,.bool false,.slice none 0 0,.slice none 0 0]) (by simp [results,Tryz.results104,go_sem]) rfl ⟨by rw [HZ.out],(Below.refl _ _).alloc (Nat.le_refl _) _⟩
 ·have d0:=obj_ne h0
  by_cases h1:n=errN
  ·have d1:=err_eq h1
   have HZ:Hid (clC (biC1 n) none 0 none 0 = .agg #[.string n,.string objN,.bool false,.bool false,.slice none 0 0,.slice none 0 0]):=by show _=_;unfold biC1;rw [if_neg h0,if_pos h1];rfl
   generalize clC (biC1 n) none 0 none 0=res at *
   unfold objN at HZ
   clear h0 h1
   go_enter Tryz.func104,Tryz.ntmps104
   go_wp2
   exact bodyPost_ret (v:=.agg #[.string n,.string ⟨#[79,98,106,101,99,116]⟩,.bool false,.bool false,.slice none 0 0,.slice none 0 0]) (by simp [results,Tryz.results104,go_sem]) rfl ⟨by rw [HZ.out],(Below.refl _ _).alloc (Nat.le_refl _) _⟩
  ·have d1:=err_ne h1
   have HZ:Hid (clC (biC1 n) none 0 none 0 = .agg #[.string n,.string errN,.bool true,.bool false,.slice none 0 0,.slice none 0 0]):=by show _=_;unfold biC1;rw [if_neg h0,if_neg h1];rfl
   generalize clC (biC1 n) none 0 none 0=res at *
   unfold errN at HZ
   clear h0 h1
   go_enter Tryz.func104,Tryz.ntmps104
   go_wp2
   exact bodyPost_ret (v:=.agg #[.string n,.string ⟨#[69,114,114,111,114]⟩,.bool true,.bool false,.slice none 0 0,.slice none 0 0]) (by simp [results,Tryz.results104,go_sem]) rfl ⟨by rw [HZ.out],(Below.refl _ _).alloc (Nat.le_refl _) _⟩
theorem WmIs.push {w:World} {r:Nat} {E:List WE} {es:Array MapEntry} {ck:Nat} (h:WmIs w r E es ck) (x:WE) (hn:lkG nmE E (nmE x)=none) (hx:x.rm ≠ r) (hk:MmIs w x.rm (mKeys x.c)) (h1:(nmC x.c).size≤maxLen) (h2:(suC x.c).size≤maxLen)
  (hin:∀ y ∈ E ++ [x],fieldR.slice.In (mapPut w r (.map (es.push { key:=.string (nmE x),val:=weV x,born:=ck }) (ck+1))) [y.vc] (fsC y.c)∧methR.slice.In (mapPut w r (.map (es.push { key:=.string (nmE x),val:=weV x,born:=ck }) (ck+1))) [y.vh] (msC y.c)) :
  WmIs (mapPut w r (.map (es.push { key:=.string (nmE x),val:=weV x,born:=ck }) (ck+1))) r (E ++ [x]) (es.push { key:=.string (nmE x),val:=weV x,born:=ck }) (ck+1):=by
 have mm:∀ y:WE,y.rm ≠ r→MmIs w y.rm (mKeys y.c)→MmIs (mapPut w r (.map (es.push { key:=.string (nmE x),val:=weV x,born:=ck }) (ck+1))) y.rm (mKeys y.c):=fun y hy hm=>by
  obtain ⟨⟨es',ck',k1,k2⟩,k3,k4⟩:=hm
  exact⟨⟨es',ck',(mapPut_other hy).trans k1,k2⟩,k3,k4⟩
 refine ⟨mapPut_at h.hm,by simp [h.size],fun i hi=>?_,fun y hy=>?_,?_,fun y hy=>?_⟩
 ·simp at hi
  by_cases e:i<E.length
  ·obtain ⟨z,q1,q2,q3⟩:=h.at' i e
   refine ⟨z,?_,?_,?_⟩
   ·rw [Array.getElem?_push,if_neg (by rw [h.size];omega)];exact q1
   ·rw [List.getElem_append_left e];exact q2
   ·rw [List.getElem_append_left e];exact q3
  ·have e2:i=E.length:=by omega
   subst e2
   refine ⟨{ key:=.string (nmE x),val:=weV x,born:=ck },?_,?_,?_⟩
   ·rw [Array.getElem?_push,if_pos h.size.symm]
   ·simp
   ·simp
 ·have hy2:=hin y hy
  rcases List.mem_append.1 hy with k | k
  ·have l:=h.lies y k
   exact⟨hy2.1,hy2.2,l.n,l.s,mm y (h.apart y k) l.k⟩
  ·simp at k
   subst k
   exact⟨hy2.1,hy2.2,h1,h2,mm y hx hk⟩
 ·rw [List.map_append,List.nodup_append]
  refine ⟨h.nd,by simp,fun a ha b hb e=>?_⟩
  simp at hb
  obtain ⟨y,hy,rfl⟩:=List.mem_map.1 ha
  exact lkG_none.1 hn y hy (e.trans hb)
 ·rcases List.mem_append.1 hy with k | k
  ·exact h.apart y k
  ·simp at k;subst k;exact hx
theorem in_none (w:World):fieldR.slice.In w [.slice none 0 0] []∧methR.slice.In w [.slice none 0 0] [] :=
 ⟨⟨none,0,rfl,Nat.le_refl _,by simp [maxLen],fun i hi=>absurd hi (by simp)⟩,⟨none,0,rfl,Nat.le_refl _,by simp [maxLen],fun i hi=>absurd hi (by simp)⟩⟩
theorem isBi_mem {n:ByteArray} (h:n ∈ biN):isBi n=true:=by unfold isBi;rw [List.any_eq_true];exact⟨n,h,by simp⟩
theorem bi_keys {n:ByteArray} (h:n ∈ biN):mKeys (biC1 n)=[(initN,initD,-1)]:=by unfold mKeys;rw [biC1_nm,isBi_mem h];rfl
set_option maxRecDepth 100000 in
set_option maxHeartbeats 2000000 in
theorem implAddBuiltIn (lv:Value) (r:Nat) (w:World) (h:w.heap[r]?=some (.map #[] 0)) (hl:∃ a k c,lv = .slice a k c) :
  Calls Tryz.prog 76 #[wdV lv r] w fun e w'=>e = .returned (.tuple #[])∧But r w w'∧∃ E es ck,WmIs w' r E es ck∧E.map (fun x=>x.c)=biC∧∀ y ∈ E,y.fa=none∧y.fc=0∧y.ma=none∧y.mc=0:=by
 have HBC:Hid (∀ w' n,Calls Tryz.prog 104 #[.string n] w' fun e w2=>e = .returned (clC (biC1 n) none 0 none 0)∧Below w'.heap.size w' w2):=fun w' n=>implBuiltInClass n w'
 have HBI:Hid (∀ w',Calls Tryz.prog 103 #[] w' fun e w2=>Below w'.heap.size w' w2∧∃ v,e = .returned v∧w2.ownsRow w'.heap.size 9 1 v biN.length (sC biN)):=implBuiltIn
 obtain ⟨la,lk,lc,rfl⟩:=hl
 have hrl:r<w.heap.size:=(Array.getElem?_eq_some_iff.1 h).1
 unfold wdV
 go_enter Tryz.func76,Tryz.ntmps76
 go_wp2_with fail
 refine Calls.mono (HBI.out _) ?_
 rintro e w1 ⟨hb1,v,rfl,ho⟩
 obtain ⟨ta,tc,rfl,hs1,hta,_⟩:=own_row ho biN_sz
 have HTa:Hid (∀ x,ta=some x→x.block ≠ r):=fun x e=>by have:=(hta x e).1;simp at this;omega
 clear hta
 have x1:=cC hb1 (w.heap.size) 1 (.map (some r)) (by simp) (by simp [go_sem])
 have h1:w1.heap[r]?=some (.map #[] 0):=(((below_al w _).trans (hb1.mono (by simp))).block r hrl).trans h
 have HB1:Hid (Below w.heap.size w w1):=(below_al w _).trans (hb1.mono (by simp))
 have HZ1:Hid (w.heap.size<w1.heap.size):=by show _<_;have:=hb1.size;simp at this;omega
 clear hb1 ho
 have hmm:=@run_makeMap Tryz.prog
 have HS1:=(show Hid (Strs w1 ta tc biN) from hs1)
 have hcp:=hs1.cap
 unfold maxLen at hcp
 have hz1:w.heap.size<w1.heap.size:=HZ1.out
 have HBt:Hid (But r w w1):=⟨HB1.out.os,HB1.out.tape,HB1.out.output,HB1.out.size,fun b hb _=>HB1.out.block b hb⟩
 clear hs1 h
 go_wp2_with fail
 go_loopw [8] (fun j8 wr=>∃ (i:Nat) (E:List WE) (es:Array MapEntry) (ck:Nat),i≤biN.length∧j8 = .int .i64 (i:Int)∧But r w1 wr∧WmIs wr r E es ck∧E.map (fun x=>x.c)=(biN.take i).map biC1∧∀ y ∈ E,y.fa=none∧y.fc=0∧y.ma=none∧y.mc=0) (fun j8 _=>biN.length - (intOf j8).toNat)
 case atStart=>exact⟨0,[],#[],0,Nat.zero_le _,rfl,But.refl _ _,⟨h1,rfl,fun i hi=>absurd hi (by simp),(fun y hy=>by cases hy),(by simp),(fun y hy=>by cases hy)⟩,by simp,(fun y hy=>by cases hy)⟩
 case round =>
  obtain ⟨i,E,es,ck,hi,rfl,hbut,hwm,hmap,hemp⟩:=hrel
  have hrr:=hwm.lt
  have hzr:w.heap.size<wr.heap.size:=Nat.lt_of_lt_of_le hz1 hbut.size
  replace x1:wr.cell? ⟨w.heap.size,1,none⟩=some (.map (some r)):=hbut.cell (p:=⟨w.heap.size,1,none⟩) hz1 (by simp;omega) x1
  have HSr:=(show Hid (Strs wr ta tc biN) from strs_but HS1.out hbut HTa.out)
  have HWr:=(show Hid (WmIs wr r E es ck) from hwm)
  have HBr:=(show Hid (But r w1 wr) from hbut)
  have HMp:=(show Hid (E.map (fun x=>x.c)=(biN.take i).map biC1∧∀ y ∈ E,y.fa=none∧y.fc=0∧y.ma=none∧y.mc=0) from ⟨hmap,hemp⟩)
  clear hbut hwm hmap hemp
  by_cases hlt:i<biN.length
  case neg =>
   have HBf:Hid (But r w wr):=by
    refine ⟨HBr.out.os.trans HBt.out.os,HBr.out.tape.trans HBt.out.tape,HBr.out.output.trans HBt.out.output,Nat.le_trans HBt.out.size HBr.out.size,fun b hb hn=>?_⟩
    exact (HBr.out.block b (Nat.lt_of_lt_of_le hb HBt.out.size) hn).trans (HBt.out.block b hb hn)
   have HEq:Hid (E.map (fun x=>x.c)=biC):=by show _=_;rw [HMp.out.1,List.take_of_length_le (by omega)];rfl
   have HEy:=(show Hid _ from HMp.out.2)
   clear HSr HMp
   go_wp2
   refine bodyPost_end (v:=.tuple #[]) (by simp [results,go_sem]) rfl ⟨rfl,HBf.out,E,es,ck,HWr.out,HEq.out,HEy.out⟩
  obtain ⟨xa,rfl,hc⟩:=HSr.out.cell i hlt
  have eg:biN.getD i ByteArray.empty=biN[i]:=by rw [List.getD_eq_getElem?_getD,List.getElem?_eq_getElem hlt];rfl
  rw [eg] at hc
  have hnz:biN[i].size≤maxLen:=biN_sz _ (List.getElem_mem hlt)
  have HNo:Hid (lkG nmE E biN[i]=none):=by
   show _=_
   rw [lkG_none]
   intro y hy e
   have hm:y.c ∈ (biN.take i).map biC1:=by rw [← HMp.out.1];exact List.mem_map.2 ⟨y,hy,rfl⟩
   obtain ⟨m,hm1,hm2⟩:=List.mem_map.1 hm
   have e2:m=biN[i]:=by rw [← e,show nmE y=nmC y.c from rfl,← hm2,biC1_nm]
   obtain ⟨j,hj,hj2⟩:=List.mem_take_iff_getElem.1 hm1
   have hnd:biN.Nodup:=by decide
   exact (List.pairwise_iff_getElem.1 hnd) j i (by omega) hlt (by omega) (hj2.trans e2)
  have HTk:Hid ((biN.take (i+1)).map biC1=(biN.take i).map biC1 ++ [biC1 biN[i]]):=by
   show _=_
   have e:biN.take (i+1)=biN.take i ++ [biN[i]]:=by rw [List.take_add_one,List.getElem?_eq_getElem hlt];rfl
   rw [e,List.map_append]
   rfl
  have HKs:Hid (mKeys (biC1 biN[i])=[(initN,initD,-1)]):=bi_keys (List.getElem_mem hlt)
  have HEm:Hid (fsC (biC1 biN[i])=[]∧msC (biC1 biN[i])=[]):=by
   have:=biC_empty (biC1 biN[i]) (List.mem_map.2 ⟨_,List.getElem_mem hlt,rfl⟩)
   exact⟨this.1,this.2.1⟩
  have HSu:Hid ((suC (biC1 biN[i])).size≤maxLen):=by
   show _≤_
   unfold biC1 maxLen
   split
   ·show tE.size≤_;decide
   ·split
    ·show objN.size≤_;decide
    ·show errN.size≤_;decide
  have HNm:Hid (nmC (biC1 biN[i])=biN[i]):=biC1_nm _
  clear HSr eg
  generalize biN[i]=n at *
  have hup2:(Instr.mapUpdate 100 (.map (some (wr.heap.size+1))) (.agg #[.string ⟨#[60,105,110,105,116,62]⟩,.string ⟨#[40,41,86]⟩]) (.int .i64 (-1))).run Tryz.prog ((wr.alloc (.cells #[.string ⟨#[60,105,110,105,116,62]⟩,.string ⟨#[40,41,86]⟩] 95)).alloc (.map #[] 0)) = .ok () (mapPut ((wr.alloc (.cells #[.string ⟨#[60,105,110,105,116,62]⟩,.string ⟨#[40,41,86]⟩] 95)).alloc (.map #[] 0)) (wr.heap.size+1) (.map #[{ key:=.agg #[.string initN,.string initD],val:=.int .i64 (-1),born:=0 }] 1)):=by
   obtain ⟨l,hx⟩:=key_pair initN initD (by unfold maxLen;decide) (by unfold maxLen;decide)
   have hb:((wr.alloc (.cells #[.string ⟨#[60,105,110,105,116,62]⟩,.string ⟨#[40,41,86]⟩] 95)).alloc (.map #[] 0)).heap[wr.heap.size+1]?=some (.map #[] 0):=by
    have:=heap_alloc_new (wr.alloc (.cells #[.string ⟨#[60,105,110,105,116,62]⟩,.string ⟨#[40,41,86]⟩] 95)) (.map #[] 0)
    simpa using this
   rcases run_upd pairLaw Tryz.underlying100 hb (by simp) hx (.int .i64 (-1)) with ⟨_,hu⟩ | ⟨j,e,hj,_⟩
   ·exact hu
   ·simp at hj
  obtain ⟨w3,hw3⟩:∃ x,mapPut ((wr.alloc (.cells #[.string ⟨#[60,105,110,105,116,62]⟩,.string ⟨#[40,41,86]⟩] 95)).alloc (.map #[] 0)) (wr.heap.size+1) (.map #[{ key:=.agg #[.string initN,.string initD],val:=.int .i64 (-1),born:=0 }] 1)=x:=⟨_,rfl⟩
  have hb3:Below wr.heap.size wr w3:=hw3 ▸ mapPut_below (below_al2 wr _ _) (by omega) _
  have hs3:w3.heap.size=wr.heap.size+2:=by rw [← hw3,mapPut_size];simp
  have hm3:w3.heap[wr.heap.size+1]?=some (.map #[{ key:=.agg #[.string initN,.string initD],val:=.int .i64 (-1),born:=0 }] 1):=by
   rw [← hw3]
   refine mapPut_at (o:=.map #[] 0) ?_
   have:=heap_alloc_new (wr.alloc (.cells #[.string ⟨#[60,105,110,105,116,62]⟩,.string ⟨#[40,41,86]⟩] 95)) (.map #[] 0)
   simpa using this
  rw [hw3] at hup2
  have HMm:Hid (MmIs w3 (wr.heap.size+1) (mKeys (biC1 n))):=by
   rw [HKs.out]
   refine ⟨⟨_,_,hm3,rfl,fun i hi=>?_⟩,?_,fun i j hi hj hij=>?_⟩
   ·obtain rfl:i=0:=by simp at hi;omega
    exact⟨_,rfl,rfl,rfl⟩
   ·intro k hk
    simp at hk
    subst hk
    unfold maxLen
    decide
   ·simp at hi hj
    omega
  have HW3:=(show Hid (WmIs w3 r E es ck) from HWr.out.below hb3)
  have x3:=carry hb3 hzr x1
  have hr3:r<w3.heap.size:=by omega
  have hz3:w.heap.size<w3.heap.size:=by omega
  have HB3:Hid (Below wr.heap.size wr w3):=hb3
  have HSz3:Hid (w3.heap.size=wr.heap.size+2):=hs3
  clear hb3 hs3 hm3 hw3
  have HB1n:=(show Hid (∀ w',Calls Tryz.prog 104 #[.string n] w' fun e w2=>e = .returned (clC (biC1 n) none 0 none 0)∧Below w'.heap.size w' w2) from fun w'=>HBC.out w' n)
  have HUp:Hid (∀ w4,Below w3.heap.size w3 w4→∀ v,(Instr.mapUpdate 70 (.map (some r)) (.string n) v).run Tryz.prog w4 = .ok () (mapPut w4 r (.map (es.push { key:=.string n,val:=v,born:=ck }) (ck+1)))):=fun w4 hb4 v=>by
   rcases (HW3.out.below hb4).look n hnz with ⟨_,_,_,k⟩ | ⟨y,_,_,k,_⟩
   ·exact k v
   ·rw [HNo.out] at k;cases k
  have HFin:Hid (∀ w4,Below w3.heap.size w3 w4→But r w1 (mapPut w4 r (.map (es.push { key:=.string n,val:=weV ⟨biC1 n,none,0,none,0,wr.heap.size+1⟩,born:=ck }) (ck+1)))∧WmIs (mapPut w4 r (.map (es.push { key:=.string n,val:=weV ⟨biC1 n,none,0,none,0,wr.heap.size+1⟩,born:=ck }) (ck+1))) r (E ++ [⟨biC1 n,none,0,none,0,wr.heap.size+1⟩]) (es.push { key:=.string n,val:=weV ⟨biC1 n,none,0,none,0,wr.heap.size+1⟩,born:=ck }) (ck+1)):=fun w4 hb4=>by
   have hb34:Below wr.heap.size wr w4:=HB3.out.trans (hb4.mono HB3.out.size)
   constructor
   ·refine ⟨hb34.os.trans HBr.out.os,hb34.tape.trans HBr.out.tape,hb34.output.trans HBr.out.output,by rw [mapPut_size];exact Nat.le_trans HBr.out.size hb34.size,fun b hb hn=>?_⟩
    rw [mapPut_other hn,hb34.block b (Nat.lt_of_lt_of_le hb HBr.out.size)]
    exact HBr.out.block b hb hn
   ·have hp:=(HW3.out.below hb4).push ⟨biC1 n,none,0,none,0,wr.heap.size+1⟩ (by rw [show nmE ⟨biC1 n,none,0,none,0,wr.heap.size+1⟩=n from HNm.out];exact HNo.out) (by show wr.heap.size+1 ≠ r;omega) (HMm.out.below hb4) (by rw [show nmC (WE.c ⟨biC1 n,none,0,none,0,wr.heap.size+1⟩)=n from HNm.out];exact hnz) HSu.out (fun y hy=>by
     rcases List.mem_append.1 hy with k | k
     ·have hc:y.c ∈ (biN.take i).map biC1:=by rw [← HMp.out.1];exact List.mem_map.2 ⟨y,k,rfl⟩
      obtain ⟨m,hm1,hm2⟩:=List.mem_map.1 hc
      have he:=biC_empty y.c (hm2 ▸ List.mem_map.2 ⟨m,List.mem_of_mem_take hm1,rfl⟩)
      obtain ⟨q1,q2,q3,q4⟩:=HMp.out.2 y k
      unfold WE.vc WE.vh
      rw [q1,q2,q3,q4,he.1,he.2.1]
      exact in_none _
     ·simp at k
      subst k
      unfold WE.vc WE.vh
      simp only
      rw [HEm.out.1,HEm.out.2]
      exact in_none _)
    rw [show nmE ⟨biC1 n,none,0,none,0,wr.heap.size+1⟩=n from HNm.out] at hp
    exact hp
  have HRel:Hid ((E ++ [(⟨biC1 n,none,0,none,0,wr.heap.size+1⟩:WE)]).map (fun x=>x.c)=(biN.take (i+1)).map biC1∧∀ y ∈ E ++ [(⟨biC1 n,none,0,none,0,wr.heap.size+1⟩:WE)],y.fa=none∧y.fc=0∧y.ma=none∧y.mc=0):=by
   refine ⟨by rw [List.map_append,HMp.out.1,HTk.out];rfl,fun y hy=>?_⟩
   rcases List.mem_append.1 hy with k | k
   ·exact HMp.out.2 y k
   ·simp at k;subst k;exact⟨rfl,rfl,rfl,rfl⟩
  unfold clC at HB1n
  unfold weV WE.vc WE.vh at HFin
  clear HMp HNo HTk HKs HMm HW3 HWr
  go_wp2_with fail
  go_region_with (go_at_call 104;refine Calls.mono (HB1n.out _) ?_;rintro e w4 ⟨rfl,hb4⟩;have hb4':Below w3.heap.size w3 w4:=(by first | exact (Below.refl _ _).drew.trans hb4 | exact hb4);have x4:=carry hb4' hz3 x3;have hup4:=HUp.out w4 hb4';have HF4:=(show Hid _ from HFin.out w4 hb4');clear hb4 hb4')
  all_goals
   go_wp2
   go_roundw
   case rel=>exact⟨i+1,_,_,_,by omega,by go_num,HF4.out.1,HF4.out.2,HRel.out.1,HRel.out.2⟩
   case measure=>simp [intOf];omega
end Go.Proofs.YtmhgaggpdggbeaaGreatDoor

namespace Go.Proofs.YtmhgaggpdggbeaaGreatDoor
open Go.RowKit
set_option linter.unusedVariables false

structure MmFill (w:World) (rm:Nat) (ms:List MTup) (i:Nat):Prop where
 ex:∃ es ck,w.heap[rm]?=some (.map es ck)∧es.size=i∧∀ j (h:j<ms.length),j<i→∃ e,es[j]?=some e∧e.key = .agg #[.string (mD ms[j]).name,.string (mD ms[j]).desc]∧e.val = .int .i64 (j:Int)
theorem mKeys_user {c:CTup} (h:isBi (nmC c)=false):mKeys c=(List.range (msC c).length).map (mKey1 (msC c)):=by unfold mKeys;rw [h];rfl
theorem mKey1_at {ms:List MTup} {j:Nat} (h:j<ms.length):mKey1 ms j=((mD ms[j]).name,(mD ms[j]).desc,(j:Int)):=by unfold mKey1;rw [List.getElem?_eq_getElem h]
theorem MmFill.done {w:World} {rm:Nat} {c:CTup} (h:MmFill w rm (msC c) (msC c).length) (hb:isBi (nmC c)=false) (hs:∀ j (hj:j<(msC c).length),(mD (msC c)[j]).name.size≤maxLen∧(mD (msC c)[j]).desc.size≤maxLen)
  (hd:∀ i j (hi:i<(msC c).length) (hj:j<(msC c).length),i<j→¬ ((mD (msC c)[i]).name=(mD (msC c)[j]).name∧(mD (msC c)[i]).desc=(mD (msC c)[j]).desc)):MmIs w rm (mKeys c):=by
 obtain ⟨es,ck,h1,h2,h3⟩:=h.ex
 rw [mKeys_user hb]
 refine ⟨⟨es,ck,h1,by simp [h2],fun i hi=>?_⟩,fun k hk=>?_,fun i j hi hj hij=>?_⟩
 ·simp at hi
  obtain ⟨e,q1,q2,q3⟩:=h3 i hi hi
  refine ⟨e,q1,?_,?_⟩
  ·simp [mKey1_at hi];exact q2
  ·simp [mKey1_at hi];exact q3
 ·obtain ⟨j,hj,rfl⟩:=List.mem_map.1 hk
  have hj':j<(msC c).length:=by simpa using hj
  rw [mKey1_at hj']
  exact hs j hj'
 ·simp at hi hj
  simp only [List.getElem_map,List.getElem_range,mKey1_at hi,mKey1_at hj]
  exact hd i j hi hj hij
theorem MmFill.step {w:World} {rm:Nat} {ms:List MTup} {i:Nat} (h:MmFill w rm ms i) (hi:i<ms.length) (hs:∀ j (hj:j<ms.length),(mD ms[j]).name.size≤maxLen∧(mD ms[j]).desc.size≤maxLen)
  (hd:∀ i j (hi:i<ms.length) (hj:j<ms.length),i<j→¬ ((mD ms[i]).name=(mD ms[j]).name∧(mD ms[i]).desc=(mD ms[j]).desc)) :
  ∃ o,(Instr.mapUpdate 100 (.map (some rm)) (.agg #[.string (mD ms[i]).name,.string (mD ms[i]).desc]) (.int .i64 (i:Int))).run Tryz.prog w = .ok () (mapPut w rm o)∧MmFill (mapPut w rm o) rm ms (i+1):=by
 obtain ⟨es,ck,h1,h2,h3⟩:=h.ex
 have hat:∀ e ∈ es.toList,∃ j,∃ hj:j<ms.length,j<i∧e.key = .agg #[.string (mD ms[j]).name,.string (mD ms[j]).desc]:=fun e he=>by
  rw [Array.mem_toList_iff,Array.mem_iff_getElem?] at he
  obtain ⟨j,hj⟩:=he
  have hl:j<i:=by rw [← h2];exact (Array.getElem?_eq_some_iff.1 hj).1
  obtain ⟨x,q1,q2,_⟩:=h3 j (by omega) hl
  rw [hj] at q1
  cases q1
  exact⟨j,by omega,hl,q2⟩
 have hks:∀ e ∈ es.toList,∃ l,keyOf Tryz.prog 95 e.key=some l:=fun e he=>by
  obtain ⟨j,hj,_,q⟩:=hat e he
  rw [q]
  exact key_pair _ _ (hs j hj).1 (hs j hj).2
 obtain ⟨l,hx⟩:=key_pair (mD ms[i]).name (mD ms[i]).desc (hs i hi).1 (hs i hi).2
 rcases run_upd pairLaw Tryz.underlying100 h1 hks hx (.int .i64 (i:Int)) with ⟨_,hu⟩ | ⟨j,e,hj,hk,_⟩
 ·refine ⟨_,hu,⟨_,_,mapPut_at h1,by simp [h2],fun j hj hji=>?_⟩⟩
  by_cases e:j<i
  ·obtain ⟨z,q1,q2,q3⟩:=h3 j hj e
   refine ⟨z,?_,q2,q3⟩
   rw [Array.getElem?_push,if_neg (by omega)];exact q1
  ·have e2:j=i:=by omega
   subst e2
   refine ⟨{ key:=.agg #[.string (mD ms[j]).name,.string (mD ms[j]).desc],val:=.int .i64 (j:Int),born:=ck },?_,rfl,rfl⟩
   rw [Array.getElem?_push,if_pos h2.symm]
 ·exfalso
  obtain ⟨m,hm,hmi,q⟩:=hat e (MapFrom.at_mem hj)
  rw [hk] at q
  have:(mD ms[i]).name=(mD ms[m]).name∧(mD ms[i]).desc=(mD ms[m]).desc:=by simpa using q
  exact hd m i hm hi hmi ⟨this.1.symm,this.2.symm⟩
noncomputable def adC (E:List WE) (c:CTup):Int:=if clsOk (cD c) then (if (lkG nmE E (nmC c)).isSome then 7 else 0) else 1
set_option maxRecDepth 100000 in
set_option maxHeartbeats 4000000 in
theorem implAdd (lv:Value) (r:Nat) (E:List WE) (es:Array MapEntry) (ck:Nat) (c:CTup) (fa:Option Addr) (fc:Nat) (ma:Option Addr) (mc:Nat) (w0 w:World) (h:WmIs w r E es ck) (hl:∃ a k c,lv = .slice a k c)
  (hb0:Below w0.heap.size w0 w) (hr0:w0.heap.size≤r) (hE0:∀ y ∈ E,fieldR.slice.In w0 [y.vc] (fsC y.c)∧methR.slice.In w0 [y.vh] (msC y.c)) (hcf:fieldR.slice.In w0 [.slice fa (fsC c).length fc] (fsC c)) (hcm:methR.slice.In w0 [.slice ma (msC c).length mc] (msC c))
  (hsn:(nmC c).size≤maxLen) (hss:(suC c).size≤maxLen) (ht:Tab w) (hg:Glob w) (hbi:∀ n ∈ biN,(lkG nmE E n).isSome=true) :
  Calls Tryz.prog 77 #[wdV lv r,clC c fa fc ma mc] w fun e w'=>e = .returned (.int .i64 (adC E c))∧But r w w'∧(adC E c ≠ 0→Below w.heap.size w w')∧(adC E c=0→∃ rm es' ck',WmIs w' r (E ++ [⟨c,fa,fc,ma,mc,rm⟩]) es' ck'):=by
 have HCR:Hid (∀ w',Below w.heap.size w w'→Calls Tryz.prog 105 #[clC c fa fc ma mc] w' fun e w2=>e = .returned (.bool (clsOk (cD c)))∧Below w'.heap.size w' w2):=fun w' hb=>implClassRight (cD c) _ _ w' hsn hss (fieldR.slice.mono _ _ _ _ (hb0.trans (hb.mono hb0.size)) hcf) (methR.slice.mono _ _ _ _ (hb0.trans (hb.mono hb0.size)) hcm) (ht.mono hb) (hg.mono hb)
 have HKn:Hid (∀ w',Below w.heap.size w w'→Calls Tryz.prog 71 #[.agg #[lv,.map (some r)],.string (nmC c)] w' fun e w2=>e = .returned (.bool (lkG nmE E (nmC c)).isSome)∧Below w'.heap.size w' w2):=fun w' hb=>implKnown lv r E es ck (nmC c) w' (h.below hb) hsn hl
 obtain ⟨la,lk,lc,rfl⟩:=hl
 have bb:∀ w',Below w.heap.size w w'→But r w w':=fun w' k=>⟨k.os,k.tape,k.output,k.size,fun b hb _=>k.block b hb⟩
 have HBb:=(show Hid (∀ w',Below w.heap.size w w'→But r w w') from bb)
 clear bb
 unfold wdV
 rcases clsOk_cases (cD c) with ⟨e1,hP⟩ | ⟨e1,hP⟩
 case inr =>
  have HZ:Hid (adC E c=1):=by show _=_;unfold adC;rw [e1];rfl
  generalize adC E c=res at *
  rw [e1] at HCR
  unfold clC at *
  clear e1 hP
  go_enter Tryz.func77,Tryz.ntmps77
  go_wp2_with fail
  refine Calls.mono (HCR.out _ (below_al2 _ _ _)) ?_
  rintro e w1 ⟨rfl,hb1⟩
  have HB1:Hid (Below w.heap.size w w1):=(below_al2 _ _ _).trans (hb1.mono (by simp;omega))
  clear hb1
  go_wp2
  go_ret
  exact⟨by rw [HZ.out];rfl,HBb.out _ HB1.out,fun _=>HB1.out,fun k=>by rw [HZ.out] at k;cases k⟩
 rw [e1] at HCR
 cases hq:(lkG nmE E (nmC c)).isSome
 case true =>
  have HZ:Hid (adC E c=7):=by show _=_;unfold adC;rw [e1,hq];rfl
  generalize adC E c=res at *
  rw [hq] at HKn
  unfold clC at *
  clear e1 hP hq
  go_enter Tryz.func77,Tryz.ntmps77
  go_wp2_with fail
  refine Calls.mono (HCR.out _ (below_al2 _ _ _)) ?_
  rintro e w1 ⟨rfl,hb1⟩
  have HB1:Hid (Below w.heap.size w w1):=(below_al2 _ _ _).trans (hb1.mono (by simp;omega))
  have x0:=cC hb1 (w.heap.size) 0 (.slice la lk lc) (by simp;omega) (by simp [go_sem])
  have x1:=cC hb1 (w.heap.size) 1 (.map (some r)) (by simp;omega) (by simp [go_sem])
  have y0:=cC hb1 (w.heap.size+1) 0 (.string (nmC c)) (by simp) (by simp [go_sem])
  clear hb1
  go_wp2_with fail
  refine Calls.mono (HKn.out _ HB1.out) ?_
  rintro e w2 ⟨rfl,hb2⟩
  have HB2:Hid (Below w.heap.size w w2):=HB1.out.trans (hb2.mono HB1.out.size)
  clear hb2
  go_wp2
  go_ret
  exact⟨by rw [HZ.out];rfl,HBb.out _ HB2.out,fun _=>HB2.out,fun k=>by rw [HZ.out] at k;cases k⟩
 have HZ:Hid (adC E c=0):=by show _=_;unfold adC;rw [e1,hq];rfl
 generalize adC E c=res at *
 rw [hq] at HKn
 unfold clC at *
 have hmm:=@run_makeMap Tryz.prog
 go_enter Tryz.func77,Tryz.ntmps77
 go_wp2_with fail
 refine Calls.mono (HCR.out _ (below_al2 _ _ _)) ?_
 rintro e w1 ⟨rfl,hb1⟩
 have HB1:Hid (Below w.heap.size w w1):=(below_al2 _ _ _).trans (hb1.mono (by simp;omega))
 have x0:=cC hb1 (w.heap.size) 0 (.slice la lk lc) (by simp;omega) (by simp [go_sem])
 have x1:=cC hb1 (w.heap.size) 1 (.map (some r)) (by simp;omega) (by simp [go_sem])
 have y0:=cC hb1 (w.heap.size+1) 0 (.string (nmC c)) (by simp) (by simp [go_sem])
 have y1:=cC hb1 (w.heap.size+1) 1 (.string (suC c)) (by simp) (by simp [go_sem])
 have y2:=cC hb1 (w.heap.size+1) 2 (.bool (fiC c)) (by simp) (by simp [go_sem])
 have y3:=cC hb1 (w.heap.size+1) 3 (.bool (abC c)) (by simp) (by simp [go_sem])
 have y4:=cC hb1 (w.heap.size+1) 4 (.slice fa (fsC c).length fc) (by simp) (by simp [go_sem])
 have y5:=cC hb1 (w.heap.size+1) 5 (.slice ma (msC c).length mc) (by simp) (by simp [go_sem])
 have hz1:w.heap.size+1<w1.heap.size:=by have:=hb1.size;simp at this;omega
 clear hb1
 go_wp2_with fail
 refine Calls.mono (HKn.out _ HB1.out) ?_
 rintro e w2 ⟨rfl,hb2⟩
 have HB2:Hid (Below w.heap.size w w2):=HB1.out.trans (hb2.mono HB1.out.size)
 replace x0:=carry hb2 (show w.heap.size<w1.heap.size by omega) x0
 replace x1:=carry hb2 (show w.heap.size<w1.heap.size by omega) x1
 replace y0:=carry hb2 hz1 y0
 replace y1:=carry hb2 hz1 y1
 replace y2:=carry hb2 hz1 y2
 replace y3:=carry hb2 hz1 y3
 replace y4:=carry hb2 hz1 y4
 replace y5:=carry hb2 hz1 y5
 have hz2:w.heap.size+1<w2.heap.size:=Nat.lt_of_lt_of_le hz1 hb2.size
 clear hb2
 have HB02:Hid (Below w0.heap.size w0 w2):=hb0.trans (HB2.out.mono hb0.size)
 have hw02:w0.heap.size≤w2.heap.size:=HB02.out.size
 have hrw:r<w.heap.size:=h.lt
 obtain ⟨_,_,em,mn0,mcap,mat⟩:=slice_open (by decide) hcm
 cases em
 unfold maxLen at mcap
 have HM:Hid (∀ i (h:i<(msC c).length),∃ b o,ma=some ⟨b,o,none⟩∧methR.At w0 ⟨b,o,none⟩ i (msC c)[i]):=mat
 have HSz:Hid (∀ j (hj:j<(msC c).length),(mD (msC c)[j]).name.size≤maxLen∧(mD (msC c)[j]).desc.size≤maxLen):=fun j hj=>by
  obtain ⟨b,o,_,hx⟩:=HM.out j hj
  obtain ⟨_,_,_,_,_,_,_,_,_,_,_,s0,s1,_⟩:=methAt hx
  exact⟨s0,s1⟩
 have HDd:=(show Hid (∀ i j (hi:i<(msC c).length) (hj:j<(msC c).length),i<j→¬ ((mD (msC c)[i]).name=(mD (msC c)[j]).name∧(mD (msC c)[i]).desc=(mD (msC c)[j]).desc)) from hP.md)
 have HNb:Hid (isBi (nmC c)=false):=by
  show _=_
  cases hbb:isBi (nmC c)
  ·rfl
  ·unfold isBi at hbb
   rw [List.any_eq_true] at hbb
   obtain ⟨b,hb,e⟩:=hbb
   have e':b=nmC c:=by simpa using e
   have:=hbi b hb
   rw [e',hq] at this
   cases this
 have HW:=(show Hid (WmIs w r E es ck) from h)
 have HLn:Hid (lkG nmE E (nmC c)=none):=by show _=_;cases hh:lkG nmE E (nmC c) with | none=>rfl | some y=>rw [hh] at hq;cases hq
 have HE0:=(show Hid ((∀ y ∈ E,fieldR.slice.In w0 [y.vc] (fsC y.c)∧methR.slice.In w0 [y.vh] (msC y.c))∧fieldR.slice.In w0 [.slice fa (fsC c).length fc] (fsC c)∧methR.slice.In w0 [.slice ma (msC c).length mc] (msC c)) from ⟨hE0,hcf,hcm⟩)
 have HKy:Hid (∀ w' mn md mst mab mfi msk mlo vc vh,Calls Tryz.prog 106 #[.agg #[.string mn,.string md,.bool mst,.bool mab,.bool mfi,.int .i64 msk,.int .i64 mlo,vc,vh]] w' fun e w2=>e = .returned (.agg #[.string mn,.string md])∧Below w'.heap.size w' w2):=fun w' mn md mst mab mfi msk mlo vc vh=>implKeyMeth mn md mst mab mfi msk mlo vc vh w'
 clear mat hP hq h hE0 hcf hcm e1 hbi ht hg
 go_wp2_with fail
 go_loopw [19] (fun j19 wr=>∃ i:Nat,i≤(msC c).length∧j19 = .int .i64 (i:Int)∧Below w2.heap.size w2 wr∧MmFill wr w2.heap.size (msC c) i) (fun j19 _=>(msC c).length - (intOf j19).toNat)
 case atStart=>exact⟨0,Nat.zero_le _,rfl,below_al _ _,⟨#[],0,heap_alloc_new w2 _,rfl,fun j _ h=>absurd h (by omega)⟩⟩
 case round =>
  obtain ⟨i,hi,rfl,hb,hfill⟩:=hrel
  have HBr:Hid (Below w2.heap.size w2 wr):=hb
  have HFl:=(show Hid (MmFill wr w2.heap.size (msC c) i) from hfill)
  have HB0r:Hid (Below w0.heap.size w0 wr):=HB02.out.trans (hb.mono hw02)
  replace x1:=carry hb (show w.heap.size<w2.heap.size by omega) x1
  replace y0:=carry hb hz2 y0
  replace y1:=carry hb hz2 y1
  replace y2:=carry hb hz2 y2
  replace y3:=carry hb hz2 y3
  replace y4:=carry hb hz2 y4
  replace y5:=carry hb hz2 y5
  have hsr:w2.heap.size≤wr.heap.size:=hb.size
  clear hb hfill
  by_cases hlt:i<(msC c).length
  ·obtain ⟨b,o,rfl,hx⟩:=HM.out i hlt
   obtain ⟨wc,wh,m0,m1,m2,m3,m4,m5,m6,m7,m8,_,_,_,_,hm7,hm8⟩:=methAt (hx.mono HB0r.out)
   obtain ⟨wca,wcc,rfl⟩:=slice_form hm7
   obtain ⟨wha,whc,rfl⟩:=slice_form hm8
   clear hx hm7 hm8
   go_wp2_with fail
   refine Calls.mono (HKy.out _ _ _ _ _ _ _ _ _ _) ?_
   rintro e w4 ⟨rfl,hb4⟩
   have hbr4:Below wr.heap.size wr w4:=(below_al wr _).trans (hb4.mono (by simp))
   have hf4:MmFill w4 w2.heap.size (msC c) i:=by
    obtain ⟨es',ck',q1,q2⟩:=HFl.out.ex
    exact⟨es',ck',(hbr4.block _ (Array.getElem?_eq_some_iff.1 q1).1).trans q1,q2⟩
   obtain ⟨ob,hup,hnext⟩:=hf4.step hlt HSz.out HDd.out
   have HRel:Hid (Below w2.heap.size w2 (mapPut w4 w2.heap.size ob)∧MmFill (mapPut w4 w2.heap.size ob) w2.heap.size (msC c) (i+1)):=⟨mapPut_below (HBr.out.trans (hbr4.mono hsr)) (Nat.le_refl _) _,hnext⟩
   clear hb4 hbr4 hf4 hnext m0 m1 m2 m3 m4 m5 m6 m7 m8
   go_wp2
   go_roundw
   case rel=>exact⟨i+1,by omega,by go_num,HRel.out.1,HRel.out.2⟩
   case measure=>simp [intOf];omega
  ·obtain rfl:i=(msC c).length:=by omega
   have HBw:Hid (Below w.heap.size w wr):=HB2.out.trans (HBr.out.mono HB2.out.size)
   have HWr:=(show Hid (WmIs wr r E es ck) from HW.out.below HBw.out)
   have HKs:=(show Hid (MmIs wr w2.heap.size (mKeys c)) from HFl.out.done HNb.out HSz.out HDd.out)
   have hup:∀ v,(Instr.mapUpdate 70 (.map (some r)) (.string (nmC c)) v).run Tryz.prog wr = .ok () (mapPut wr r (.map (es.push { key:=.string (nmC c),val:=v,born:=ck }) (ck+1))):=by
    rcases HWr.out.look (nmC c) hsn with ⟨_,_,_,k⟩ | ⟨y,_,_,k,_⟩
    ·exact k
    ·rw [HLn.out] at k;cases k
   have HFin:Hid (But r w (mapPut wr r (.map (es.push { key:=.string (nmC c),val:=weV ⟨c,fa,fc,ma,mc,w2.heap.size⟩,born:=ck }) (ck+1)))∧WmIs (mapPut wr r (.map (es.push { key:=.string (nmC c),val:=weV ⟨c,fa,fc,ma,mc,w2.heap.size⟩,born:=ck }) (ck+1))) r (E ++ [⟨c,fa,fc,ma,mc,w2.heap.size⟩]) (es.push { key:=.string (nmC c),val:=weV ⟨c,fa,fc,ma,mc,w2.heap.size⟩,born:=ck }) (ck+1)):=by
    constructor
    ·exact⟨HBw.out.os,HBw.out.tape,HBw.out.output,by rw [mapPut_size];exact HBw.out.size,fun b hb hn=>by rw [mapPut_other hn];exact HBw.out.block b hb⟩
    ·have hb0':∀ o,Below w0.heap.size w0 (mapPut wr r o):=fun o=>mapPut_below HB0r.out hr0 o
     exact HWr.out.push ⟨c,fa,fc,ma,mc,w2.heap.size⟩ HLn.out (by show w2.heap.size ≠ r;omega) HKs.out hsn hss (fun y hy=>by
      rcases List.mem_append.1 hy with k | k
      ·exact⟨fieldR.slice.mono _ _ _ _ (hb0' _) (HE0.out.1 y k).1,methR.slice.mono _ _ _ _ (hb0' _) (HE0.out.1 y k).2⟩
      ·simp at k
       subst k
       exact⟨fieldR.slice.mono _ _ _ _ (hb0' _) HE0.out.2.1,methR.slice.mono _ _ _ _ (hb0' _) HE0.out.2.2⟩)
   unfold weV WE.vc WE.vh at HFin
   simp only at HFin
   clear HKs HWr HFl
   go_wp2
   go_ret
   exact⟨by rw [HZ.out];rfl,HFin.out.1,fun k=>absurd HZ.out k,fun _=>⟨_,_,_,HFin.out.2⟩⟩
end Go.Proofs.YtmhgaggpdggbeaaGreatDoor
