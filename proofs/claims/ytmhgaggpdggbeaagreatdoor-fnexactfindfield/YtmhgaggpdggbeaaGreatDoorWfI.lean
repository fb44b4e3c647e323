import Derived.RangeFuncNested
import Derived.RangeFuncBound
import Derived.RangeFuncCalls
import Derived.RangeFuncLeaves
import Derived.Shelf.Abstract
import Derived.Shelf.RegionOpen
import Derived.OwnWalkIn
import Derived.TacticsInMore
import Derived.LoopNIn
import Derived.LoopIn
import Derived.Test.YtmhgaggpdggbeaaGreatDoorWi10
import Derived.Test.YtmhgaggpdggbeaaGreatDoorWfM
namespace Go.Proofs.YtmhgaggpdggbeaaGreatDoor
open Go.RowKit Go.Shelf
set_option linter.unusedVariables false
attribute [local go_sem] Oper.semAt_some
structure Kq (m N B:Nat) (W W':World):Prop where
 bel:Below m W W'
 blk:∀ k,k<N→k ≠ B→W'.heap[k]?=W.heap[k]?
theorem Kq.refl (m N B:Nat) (W:World):Kq m N B W W:=⟨Below.refl _ _,fun _ _ _=>rfl⟩
theorem Kq.trans {m N B:Nat} {X Y Z:World} (h:Kq m N B X Y) (k:Kq m N B Y Z):Kq m N B X Z:=⟨h.bel.trans k.bel,fun i hi hB=>(k.blk i hi hB).trans (h.blk i hi hB)⟩
theorem Kq.cell {m N B:Nat} {W W':World} (h:Kq m N B W W') {p:Addr} {v:Value} (hN:p.block<N) (hB:p.block ≠ B) (hc:W.cell? p=some v):W'.cell? p=some v:=(World.cell?_of_block (h.blk _ hN hB)).trans hc
theorem Kq.alloc {m N B:Nat} {W:World} (hm:m≤N) (hN:N≤W.heap.size) (o:Obj):Kq m N B W (W.alloc o):=⟨(Below.refl _ _).alloc (Nat.le_trans hm hN) _,fun k hk _=>Below.heap_alloc _ _ _ (by omega)⟩
theorem Kq.set {m N B j:Nat} {W:World} (hm:m≤B) (v:Value):Kq m N B W (W.setCell ⟨B,j,none⟩ v):=⟨(Below.refl _ _).setCell (p:=⟨B,j,none⟩) hm v,fun k _ hB=>Below.heap_setCell _ _ _ _ hB⟩
theorem Kq.side {m N B p j:Nat} {W:World} (hm:m≤N) (hp:N≤p) (v:Value):Kq m N B W (W.setCell ⟨p,j,none⟩ v):=⟨(Below.refl _ _).setCell (p:=⟨p,j,none⟩) (Nat.le_trans hm hp) v,fun k hk _=>Below.heap_setCell _ _ _ _ (by show k ≠ p;omega)⟩
theorem Kq.grown {m N B:Nat} {W W':World} {row:Option Nat} (hm:m≤N) (hN:N≤W.heap.size) (hg:W.grownBy W' row) (hr:∀ k,row=some k→N≤k):Kq m N B W W' :=
 ⟨(Below.refl _ _).grown hg (Nat.le_trans hm hN) (fun k e=>Nat.le_trans hm (hr k e)),fun k hk _=>hg.block k (by omega) (fun e=>by have:=hr k e.symm;omega)⟩
theorem Kq.put {m N B:Nat} (hm:m≤N) (W:World) (l:Nat) (o o':Obj) (hl:N≤l) (h:W.heap[l]?=some o):Kq m N B W (W.putObj l o') :=
 ⟨(Below.refl m W).grown (grownBy_putObj' W l o') (by have:=(Array.getElem?_eq_some_iff.1 h).1;omega) (fun k e=>by cases e;omega),fun k hk _=>World.putObj_heap_other (by omega)⟩
def bkV (xs:List WE) (x:Fin xs.length):Array Value:=#[.int .i64 (x.1:Int),weV xs[x.1]]
set_option maxRecDepth 100000 in
set_option maxHeartbeats 2000000 in
theorem back1 (n:Nat) (hn:1≤n) (l Bs m N B cap:Nat) (wa:Option Addr) (xs:List WE) (hx:xs.length≤maxLen) (J Jx:List (Fin xs.length)→World→Prop)
  (hY:∀ pre x W,J pre W→pre.length<xs.length→YieldAt Fence.wide (n - 1) Tryz.prog l (bkV xs x) W fun e W'=>(e = .returned (.bool true)∧J (pre ++ [x]) W'∧Kq m N B W W') ∨ (e = .returned (.bool false)∧Jx (pre ++ [x]) W'))
  (W:World) (hBs:W.cell? ⟨Bs,0,none⟩=some (.slice wa xs.length cap)) (hc:∀ i (h:i<xs.length),∃ b,wa=some ⟨b,0,none⟩∧∀ wr,Kq m N B W wr→∀ k,k<7→wr.cell? ⟨b,i * 7+k,none⟩=(weC xs[i])[k]?) (hB0:Bs<N∧Bs ≠ B) (h0:J [] W) :
  CallsIn Fence.wide n Tryz.prog 111 #[.func (.yield l) #[] #[],.pointer (some ⟨Bs,0,none⟩)] W fun e W'=>(∃ v,e = .returned v) ∧
   ((∃ ys:List (Fin xs.length),ys.map Fin.val=(List.range xs.length).reverse∧J ys W') ∨ (∃ pre,True∧Jx pre W')):=by
 unfold maxLen at hx
 refine callsIn_of_wp Tryz.func111 rfl trivial ?_ rfl
 simp only [Tryz.ntmps111,List.size_toArray,List.length_cons,List.length_nil,Nat.reduceAdd,Nat.reduceSub,Array.replicate_succ,Array.replicate_zero,List.push_toArray,List.append_toArray,List.nil_append,List.cons_append]
 gi_wp2
 gi_loopw [3] (fun i wr=>∃ k:Nat,k≤xs.length∧i = .int .i64 ((xs.length:Int) - 1 - k)∧∃ pre:List (Fin xs.length),pre.map Fin.val=(List.range xs.length).reverse.take k∧J pre wr∧Kq m N B W wr) (fun i _=>(intOf i+1).toNat)
 case atStart=>exact⟨0,Nat.zero_le _,by simp,[],by simp,h0,Kq.refl _ _ _ _⟩
 case round =>
  obtain ⟨k,hk,rfl,pre,hpre,hJs,hnx⟩:=hrel
  have hBs':wr.cell? ⟨Bs,0,none⟩=some (.slice wa xs.length cap):=hnx.cell (p:=⟨Bs,0,none⟩) hB0.1 hB0.2 hBs
  have hlen:pre.length=k:=by
   have:=congrArg List.length hpre
   simpa [Nat.min_eq_left hk] using this
  by_cases hlt:k<xs.length
  ·obtain ⟨i,hi⟩:∃ i:Nat,i+k+1=xs.length:=⟨xs.length - 1 - k,by omega⟩
   have hi2:i<xs.length:=by omega
   obtain ⟨fn,tmps,assign,body,hy,hR⟩:=hY pre ⟨i,hi2⟩ wr hJs (by omega)
   have e0:((xs.length:Int) - 1 - k)=(i:Int):=by omega
   rw [e0]
   obtain ⟨b,hwa,hc'⟩:=hc i hi2
   subst hwa
   have c0:=hc' wr hnx 0 (by omega)
   have c1:=hc' wr hnx 1 (by omega)
   have c2:=hc' wr hnx 2 (by omega)
   have c3:=hc' wr hnx 3 (by omega)
   have c4:=hc' wr hnx 4 (by omega)
   have c5:=hc' wr hnx 5 (by omega)
   have c6:=hc' wr hnx 6 (by omega)
   obtain ⟨x,hx'⟩:∃ x,xs[i]=x:=⟨_,rfl⟩
   simp only [bkV] at hy
   simp only [hx',weC,weV,List.getElem?_cons_zero,List.getElem?_cons_succ,Nat.add_zero] at c0 c1 c2 c3 c4 c5 c6 hy
   have hii:(i:Int)<xs.length:=by omega
   have hnext:(pre ++ [(⟨i,hi2⟩:Fin xs.length)]).map Fin.val=(List.range xs.length).reverse.take (k+1):=by
    rw [List.map_append,hpre,List.take_succ_eq_append_getElem (by simp;omega)]
    simp
    omega
   clear hc hc' hx' e0
   gi_wp2
   refine hR.mono ?_
   rintro e W3 (⟨rfl,hJ3,hk3⟩ | ⟨rfl,hJx3⟩)
   ·gi_wp2
    go_roundw
    case rel=>exact⟨k+1,by omega,by congr 1<;>omega,_,hnext,hJ3,hnx.trans hk3⟩
    case measure=>simp [intOf]<;>omega
   ·gi_wp2
    refine bodyPost_ret (results_none rfl _ _ _) rfl ?_
    exact⟨⟨_,rfl⟩,.inr ⟨_,trivial,hJx3⟩⟩
  ·obtain rfl:k=xs.length:=by omega
   gi_wp2
   go_end0
   exact⟨⟨_,rfl⟩,.inl ⟨pre,by rw [hpre,List.take_of_length_le (by simp)],hJs⟩⟩
set_option maxHeartbeats 1000000 in
theorem backF (n:Nat) (a:Option Addr) (len cap:Nat) (w:World) :
  CallsIn Fence.wide n Tryz.prog 82 #[.slice a len cap] w fun e w'=>e = .returned (.func (.func 111) #[] #[.pointer (some ⟨w.heap.size,0,none⟩)])∧w'=w.alloc (.cells #[.slice a len cap] 114):=by
 refine callsIn_of_wp Tryz.func82 rfl trivial ?_ rfl
 simp only [Tryz.ntmps82,List.size_toArray,List.length_cons,List.length_nil,Nat.reduceAdd,Nat.reduceSub,Array.replicate_succ,Array.replicate_zero,List.push_toArray,List.append_toArray,List.nil_append,List.cons_append]
 gi_wp2
 go_ret
 exact⟨rfl,rfl⟩
theorem own_row_apart {W:World} {N e sz n:Nat} {v:Value} {xs:List Value} {row:Option Nat} (h:W.ownsRow N e sz v n xs) (hr:∀ r,row=some r→∃ o:Obj,W.heap[r]?=some o∧o.isCells=false):v.ownBlock=none ∨ v.ownBlock ≠ row:=by
 rcases h.2 with ⟨rfl,_⟩ | ⟨g,cap,cur,rfl,_,hg,_⟩
 ·exact .inl rfl
 ·refine .inr fun e=>?_
  obtain ⟨o,ho,hc⟩:=hr g e.symm
  rw [hg] at ho
  cases ho
  cases hc
structure IL (w:World) (B N:Nat) (L:List FieldD) (W:World):Prop where
 ex:∃ v,W.cell? ⟨B,0,none⟩=some v∧W.frozen? ⟨B,0,none⟩=false∧W.ownsRow N 61 3 v L.length (L.flatMap cFd)
 bel:Below w.heap.size w W
 big:N≤W.heap.size
theorem IL.own {β:Type} {w:World} {B N:Nat} (f:β→List FieldD) (hN:w.heap.size≤N):OwnFrom N (fun s W=>IL w B N (f s) W):=fun s W W' row hs hg hr=>by
 obtain ⟨⟨v,h1,h2,h3⟩,h4,h5⟩:=hs
 exact⟨⟨v,(cell_kept h1 hg (fun r e=>(hr r e).2)),(frozen_kept h1 hg (fun r e=>(hr r e).2)).trans h2,h3.kept hg (own_row_apart h3 fun r e=>(hr r e).2)⟩,h4.grown hg h4.size (fun k e=>Nat.le_trans hN (hr k e).1),Nat.le_trans h5 hg.size⟩
theorem IL.alloc {w:World} {B N:Nat} {L:List FieldD} {W:World} (h:IL w B N L W) (hN:w.heap.size≤N) (o:Obj):IL w B N L (W.alloc o):=by
 obtain ⟨⟨v,h1,h2,h3⟩,h4,h5⟩:=h
 have hl:=World.block_lt_of_cell? _ _ h1
 exact⟨⟨v,(World.cell?_of_block (Below.heap_alloc _ _ _ hl)).trans h1,(World.frozen?_of_block (Below.heap_alloc _ _ _ hl)).trans h2,h3.alloc o⟩,h4.alloc h4.size _,by simp;omega⟩
theorem flat8 {β:Type} {f:β→List FieldD}:∀ (l:List β),(∀ y,(f y).length≤8)→(l.flatMap f).length≤8 * l.length
 | [],_=>by simp
 | y :: l,h=>by
  have h1:=flat8 l h
  have h2:=h y
  simp only [List.flatMap_cons,List.length_append,List.length_cons]
  omega
def fsW (T:List WE):List FieldD:=T.reverse.flatMap fun x=>ownF x.c
theorem fs_of_range (T:List WE) (ys:List (Fin T.length)) (h:ys.map Fin.val=(List.range T.length).reverse):ys.flatMap (fun x=>ownF (T[x.1]).c)=fsW T:=by
 have e1:ys.flatMap (fun x=>ownF (T[x.1]).c)=(ys.map Fin.val).flatMap fun j=>(T[j]?).elim [] fun x=>ownF x.c:=by
  rw [List.flatMap_map]
  congr 1
  funext x
  simp
 have e2:(List.range T.length).map (fun j=>T[j]?)=T.map some:=by
  apply List.ext_getElem
  ·simp
  ·intro i h1 h2
   simp at h1
   simp [h1]
 have e3:∀ l:List Nat,(l.flatMap fun j=>(T[j]?).elim [] fun x=>ownF x.c)=(l.map fun j=>T[j]?).flatMap fun o=>o.elim [] fun x=>ownF x.c:=fun l=>by rw [List.flatMap_map]
 rw [e1,h,e3,List.map_reverse,e2,← List.map_reverse,List.flatMap_map]
 rfl
theorem own_cells {W:World} {N e sz n r:Nat} {v:Value} {xs:List Value} {o:Obj} (h:W.ownsRow N e sz v n xs) (hr:v.ownBlock=some r) (ho:W.heap[r]?=some o):o.isCells=true:=by
 rcases h.2 with ⟨rfl,_⟩ | ⟨g,cap,cur,rfl,_,hg,_⟩
 ·simp [Value.ownBlock] at hr
 ·simp [Value.ownBlock] at hr
  subst hr
  rw [hg] at ho
  cases ho
  rfl
theorem own_low3 {w:World} {B B' e s n:Nat} {v:Value} {xs:List Value} (h:w.ownsRow B e s v n xs) (hB:B'≤B):w.ownsRow B' e s v n xs:=by
 refine ⟨h.1,?_⟩
 rcases h.2 with hn | ⟨g,cap,cur,rfl,hb,rest⟩
 ·exact .inl hn
 ·exact .inr ⟨g,cap,cur,rfl,Nat.le_trans hB hb,rest⟩
theorem nodup_len3:∀ (l L:List ByteArray),l.Nodup→(∀ x ∈ l,x ∈ L)→l.length≤L.length
 | [],_,_,_=>Nat.zero_le _
 | x :: xs,L,hn,hs=>by
  have hx:=hs x (by simp)
  have h1:=nodup_len3 xs (L.eraseP fun y=>decide (y=x)) (List.nodup_cons.1 hn).2 fun y hy=>(List.mem_eraseP_of_neg (by simp only [decide_eq_true_eq];intro e;subst e;exact (List.nodup_cons.1 hn).1 hy)).2 (hs y (by simp [hy]))
  have h2:=List.length_eraseP_of_mem (p:=fun y=>decide (y=x)) hx (by simp)
  have h3:=List.length_pos_of_mem hx
  simp only [List.length_cons]
  omega
theorem wy_len (E:List WE) (n:ByteArray):(wyG E n).length≤E.length:=by
 have h:=wayG_inv (nm:=nmE) (su:=suE) E (E.length+1) [] n (by simp) (by simp)
 have:=nodup_len3 ((wyG E n).map nmE) (E.map nmE) h.1 (fun x hx=>by obtain ⟨y,hy,rfl⟩:=List.mem_map.1 hx;exact List.mem_map_of_mem (h.2.1 y hy))
 simpa using this
set_option maxRecDepth 100000 in
set_option maxHeartbeats 4000000 in
theorem implFieldsG (lv:Value) (r:Option Nat) (T:List WE) (n:ByteArray) (w:World) (hT1:T.length≤100) (hl:∃ a k c,lv = .slice a k c)
  (hw:∀ w',Below w.heap.size w w'→Calls Tryz.prog 83 #[.agg #[lv,.map r],.string n] w' fun e w2=>Below w'.heap.size w' w2∧∃ v,e = .returned v∧w2.ownsRow w'.heap.size 102 7 v T.length (T.flatMap weC))
  (hel:∀ x ∈ T,(fsC x.c).length≤8∧fieldR.slice.In w [x.vc] (fsC x.c)) :
  Calls Tryz.prog 42 #[.agg #[lv,.map r],.string n] w fun e w'=>Below w.heap.size w w'∧∃ u,e = .returned u∧w'.ownsRow w.heap.size 61 3 u (fsW T).length ((fsW T).flatMap cFd):=by
 have HWu:Hid (∀ w',Below w.heap.size w w'→CallsIn Fence.wide 7 Tryz.prog 83 #[.agg #[lv,.map r],.string n] w' fun e w2=>Below w'.heap.size w' w2∧∃ v,e = .returned v∧w2.ownsRow w'.heap.size 102 7 v T.length (T.flatMap weC)):=fun w' hb=>callsIn_wide.2 (hw w' hb)
 obtain ⟨la,lk,lc,rfl⟩:=hl
 refine (callsIn_wide (n:=8)).1 ?_
 refine callsIn_of_wp_marks Tryz.func42 rfl trivial ?_ rfl
 simp only [Tryz.ntmps42,List.size_toArray,List.length_cons,List.length_nil,Nat.reduceAdd,Nat.reduceSub,Array.replicate_succ,Array.replicate_zero,List.push_toArray,List.append_toArray,List.nil_append,List.cons_append]
 have HB0:Hid (∀ o1 o2,Below w.heap.size w ((w.alloc o1).alloc o2)):=fun o1 o2=>((Below.refl _ _).alloc (Nat.le_refl _) _).alloc (by simp) _
 gi_wp2
 refine ⟨trivial,(HWu.out _ (HB0.out _ _)).mono ?_⟩
 rintro e w2 ⟨hb2,v,rfl,hown⟩
 obtain ⟨wa,wc,rfl⟩:=own_sl3 hown
 gi_wp2
 refine ⟨trivial,(backF _ _ _ _ _).mono ?_⟩
 rintro e w3 ⟨rfl,hw3⟩
 gi_wp2
 have hz2:w.heap.size+2≤w2.heap.size:=by have:=hb2.size;simpa using this
 have HB2:Hid (Below w.heap.size w w2):=(HB0.out (.cells #[.slice la lk lc,.map r] 72) (.cells #[.slice none 0 0] 24)).trans (hb2.mono (by simp;omega))
 have HCB:Hid (w2.cell? ⟨w.heap.size+1,0,none⟩=some (.slice none 0 0)∧w2.frozen? ⟨w.heap.size+1,0,none⟩=false):=by
  have e:=hb2.block (w.heap.size+1) (by simp)
  exact⟨(World.cell?_of_block e).trans (by simp [go_sem]),(World.frozen?_of_block e).trans (by simp [go_sem])⟩
 have HWY:Hid (∀ i (h:i<T.length),∃ b,wa=some ⟨b,0,none⟩∧b<w2.heap.size∧b ≠ w.heap.size+1∧∀ k,k<7→w2.cell? ⟨b,i * 7+k,none⟩=(weC T[i])[k]?):=fun i hi=>by
  rcases hown.2 with ⟨e,h0⟩ | ⟨g,cap,cur,e,h2,h3,_⟩
  ·omega
  ·injection e with e1 e2 e3
   subst e1
   subst e3
   exact⟨g,rfl,(Array.getElem?_eq_some_iff.1 h3).1,by simp at h2;omega,fun k hk=>by rw [hown.cellAt (i * 7+k) (by omega),flat7 _ i k hi hk]⟩
 have hT:T.length≤maxLen:=by
  rcases hown.2 with ⟨e,h0⟩ | ⟨g,cap,cur,e,h2,h3,h4,h5,_⟩
  ·omega
  ·omega
 have HEL:=(show Hid (∀ x ∈ T,(fsC x.c).length≤8∧fieldR.slice.In w [x.vc] (fsC x.c)) from hel)
 obtain ⟨i0,hi0,hz0,hz1,hz2'⟩:=info_parts infoFld
 have HIF:Hid (Tryz.prog.info? 61 = some i0∧i0.zero=some (.agg #[.string ⟨#[]⟩,.string ⟨#[]⟩,.bool false])∧i0.size=3∧i0.bytes=40):=⟨hi0,hz0,hz1,hz2'⟩
 clear hi0 hz0 hz1 hz2' hb2 hown hel hw HWu HB0
 obtain ⟨w3,hw3⟩:∃ w3,w2.alloc (.cells #[.slice wa T.length wc] 114)=w3:=⟨_,rfl⟩
 have hN:w3.heap.size=w2.heap.size+1:=by rw [← hw3];simp
 have hB3:Below w2.heap.size w2 w3:=by rw [← hw3];exact (Below.refl _ _).alloc (Nat.le_refl _) _
 have hBs:w3.cell? ⟨w2.heap.size,0,none⟩=some (.slice wa T.length wc):=by rw [← hw3];simp [go_sem]
 rw [hw3]
 clear hw3
 have h0:IL w (w.heap.size+1) w3.heap.size [] w3:=⟨⟨.slice none 0 0,carry hB3 (by show w.heap.size+1<w2.heap.size;omega) HCB.out.1,carryF hB3 (by show w.heap.size+1<w2.heap.size;omega) HCB.out.2,World.ownsRow_nil _ _ _ _⟩,HB2.out.trans (hB3.mono HB2.out.size),Nat.le_refl _⟩
 have hseq:SeqStopsK Fence.wide 7 Tryz.prog 111 #[.pointer (some ⟨w2.heap.size,0,none⟩)] (bkV T) (Kq w.heap.size w3.heap.size (w.heap.size+1)) (fun ys=>ys.map Fin.val=(List.range T.length).reverse) (fun _=>True) T.length w3:=fun l J Jx W hW _ _ hY h0' =>
  back1 7 (by omega) l w2.heap.size w.heap.size w3.heap.size (w.heap.size+1) wc wa T hT J Jx hY W (carry hW (by show w2.heap.size<w3.heap.size;omega) hBs) (fun i hi=>by
   obtain ⟨b,e,hb1,hb2,hb3⟩:=HWY.out i hi
   refine ⟨b,e,fun wr hk k hk7=>?_⟩
   rw [← hb3 k hk7]
   have e1:wr.heap[b]?=w2.heap[b]?:=(hk.blk b (by omega) hb2).trans ((hW.block b (by omega)).trans (hB3.block b hb1))
   exact World.cell?_of_block e1) ⟨by omega,by omega⟩ h0'
 refine wpIn_rangeFunc_ownH rfl (by omega) (gf:=111) (lb:=#[.pointer (some ⟨w2.heap.size,0,none⟩)]) rfl trivial (enters_of Tryz.func111 (by kernel_rfl) rfl)
  hseq Kq.trans (fun W l o o' hl h _ _=>Kq.put (m:=w.heap.size) (N:=w3.heap.size) (B:=w.heap.size+1) (by omega) W l o o' hl h) (Below.refl _ _) (fun _=>rfl)
  (fun pre W=>IL w (w.heap.size+1) w3.heap.size (pre.flatMap fun x=>ownF (T[x.1]).c) W)
  (fun _ _ _=>False)
  (IL.own (w:=w) (N:=w3.heap.size) (B:=w.heap.size+1) _ (by omega))
  (fun _ _ _ _ _ hs _ _=>hs)
  h0
  (fun x a' W=>∃ Bx,w3.heap.size≤Bx∧W.cell? ⟨Bx,4,none⟩=some (T[x.1]).vc∧a' = { tmps:=#[.agg #[.slice la lk lc,.map r],.string n,.pointer (some ⟨w.heap.size,0,none⟩),undef,.slice none 0 0,.pointer (some ⟨w.heap.size+1,0,none⟩),undef,.pointer (some ⟨Bx,0,none⟩),undef,undef,.agg #[.slice la lk lc,.map r],.string n,.slice wa T.length wc,.func (.func 111) #[] #[.pointer (some ⟨w2.heap.size,0,none⟩)],.int .i64 (x.1:Int),weV T[x.1],undef,undef,undef,undef,undef,undef,undef,undef,undef,undef,undef,undef,undef,undef,undef,undef,undef],defers:=[] })
  (fun x a' _ X Y row hs hg hr=>by obtain ⟨Bx,h1,h2,h3⟩:=hs;exact⟨Bx,h1,cell_kept h2 hg (fun r e=>(hr r e).2),h3⟩)
  ?assign ?body ?done ?stop
 case assign =>
  rintro l pre x W K hI hK
  simp only [bkV]
  obtain ⟨X,hX⟩:∃ X,T[x.1]=X:=⟨_,rfl⟩
  rw [hX] at hK ⊢
  simp only [weV] at hK ⊢
  gi_wp2
  exact hK _ _ ((KeepsOthers.alloc _ _).from _) (Kq.alloc (by omega) hI.big _) (hI.alloc (by omega) _) ⟨W.heap.size,hI.big,by simp [go_sem],rfl⟩
 case body =>
  rintro l pre x a' W hl ⟨rr,hrr⟩ hI ⟨Bx,hBx,bX,rfl⟩ hlt
  obtain ⟨X,hX⟩:∃ X,T[x.1]=X:=⟨_,rfl⟩
  have hXm:X ∈ T:=by rw [← hX];exact List.getElem_mem _
  have hGE:Hid ((pre ++ [x]).flatMap (fun x=>ownF (T[x.1]).c)=pre.flatMap (fun x=>ownF (T[x.1]).c) ++ ownF X.c):=by show _=_;simp [hX]
  obtain ⟨hx8,hxf⟩:=HEL.out X hXm
  rw [hX] at bX ⊢
  obtain ⟨g,hg⟩:∃ g,pre.flatMap (fun x=>ownF (T[x.1]).c)=g:=⟨_,rfl⟩
  rw [hg] at hI hGE
  have hgl:g.length≤8 * pre.length:=by rw [← hg];exact flat8 _ fun y=>Nat.le_trans (List.length_filter_le _ _) (HEL.out _ (List.getElem_mem y.2)).1
  have HG:=(show Hid (IL w (w.heap.size+1) w3.heap.size g W) from hI)
  clear hg hX
  obtain ⟨fa,fcap,e9,hfn,hfc,hfat⟩:=slice_open (by decide) hxf
  have HFA:=(show Hid (∀ k (h:k<(fsC X.c).length),∃ b o,fa=some ⟨b,o,none⟩∧fieldR.At w ⟨b,o,none⟩ k (fsC X.c)[k]) from hfat)
  have HOF:Hid (ownF X.c=ownK (fsC X.c) (fsC X.c).length):=(ownK_all _).symm
  rw [HOF.out] at hGE
  rw [e9] at bX
  obtain ⟨fs,hfs⟩:∃ l,fsC X.c=l:=⟨_,rfl⟩
  rw [hfs] at bX hx8 HFA hGE
  clear hfat hxf e9 hfn HOF hfs
  have hp1:pre.length≤100:=by omega
  have hNw:w.heap.size+1<w3.heap.size:=by omega
  gi_wp2
  gi_loopw [20] (fun j wr=>∃ k:Nat,k≤fs.length∧j = .int .i64 (k:Int)∧IL w (w.heap.size+1) w3.heap.size (g ++ ownK fs k) wr∧KeepsFrom w3.heap.size W wr∧Kq w.heap.size w3.heap.size (w.heap.size+1) W wr) (fun j _=>10 - (intOf j).toNat)
  case atStart=>exact⟨0,by omega,rfl,by simpa [ownK] using HG.out,KeepsFrom.refl _ _,Kq.refl _ _ _ _⟩
  case round =>
   obtain ⟨k,hk,rfl,hIr,hKf,hKq⟩:=hrel
   have HIr:=(show Hid (IL w (w.heap.size+1) w3.heap.size (g ++ ownK fs k) wr) from hIr)
   have HK:=(show Hid (KeepsFrom w3.heap.size W wr∧Kq w.heap.size w3.heap.size (w.heap.size+1) W wr) from ⟨hKf,hKq⟩)
   have hbig:=hIr.big
   clear hKf hKq hI
   by_cases hlt2:k<fs.length
   ·obtain ⟨fb,fo,rfl,hfA⟩:=HFA.out k hlt2
    obtain ⟨f0,f1,f2,t0,t1⟩:=fieldAt hfA
    have hfb:fb<w.heap.size:=World.block_lt_of_cell? _ _ f0
    replace f0:=carry hIr.bel hfb f0
    replace f1:=carry hIr.bel hfb f1
    replace f2:=carry hIr.bel hfb f2
    have hki:(k:Int)<fs.length:=by omega
    have hok:=ownK_len fs k
    cases hst:fs[k].2.2
    ·have HY:=(show Hid (ownK fs (k+1)=ownK fs k ++ [fs[k]]) from ownK_yes hlt2 hst)
     obtain ⟨d,hd⟩:∃ d,fs[k]=d:=⟨_,rfl⟩
     rw [hd] at f0 f1 f2 HY hst t0 t1
     rw [hst] at f2
     obtain ⟨gk,hgk⟩:∃ l,g ++ ownK fs k=l:=⟨_,rfl⟩
     rw [hgk] at hIr
     have hgkl:gk.length≤808:=by rw [← hgk,List.length_append];omega
     have HYG:Hid (g ++ ownK fs (k+1)=gk ++ [d]):=by show _=_;rw [HY.out,← hgk];simp
     have HIr:=(show Hid (IL w (w.heap.size+1) w3.heap.size gk wr) from hIr)
     clear hgk HY
     obtain ⟨v,hv,hvf,hown⟩:=hIr.ex
     obtain ⟨vp,vc,rfl⟩:=own_sl3 hown
     have HO:=(show Hid (wr.ownsRow w3.heap.size 61 3 (.slice vp gk.length vc) gk.length (gk.flatMap cFd)) from hown)
     have HV:=(show Hid (wr.cell? ⟨w.heap.size+1,0,none⟩=some (.slice vp gk.length vc)∧wr.frozen? ⟨w.heap.size+1,0,none⟩=false) from ⟨hv,hvf⟩)
     have HN:Hid (∀ j u,(cFd d)[j]?=some u→((wr.alloc (.cells #[.string d.1,.string d.2.1,.bool false] 61)).alloc (.cells #[.string d.1,.string d.2.1,.bool false] 61)).cell? ((⟨wr.heap.size+1,0,none⟩:Addr).add j)=some u):=by
      have:=fld_news (wr.alloc (.cells #[.string d.1,.string d.2.1,.bool false] 61)) d 61
      rw [hst] at this
      show ∀ j u,_
      simpa using this
     have hvA:∀ o,(wr.alloc o).cell? ⟨w.heap.size+1,0,none⟩=some (.slice vp gk.length vc):=fun o=>(World.cell?_of_block (Below.heap_alloc _ _ _ (World.block_lt_of_cell? _ _ hv))).trans hv
     have hBw:w.heap.size+1<wr.heap.size:=World.block_lt_of_cell? _ _ HV.out.1
     have hrow:∀ r,(Value.slice vp gk.length vc).ownBlock=some r→w3.heap.size≤r:=fun r e=>(HO.out.lt r e).1
     clear hd hst hfA hown hvf hIr
     gi_wp2_with (gi_at_builtin;refine wpListIn_append_own _ rfl _ _ 24 rfl w3.heap.size 61 i0 (.agg #[.string ⟨#[]⟩,.string ⟨#[]⟩,.bool false]) 3 40 Tryz.underlying24 HIF.out.1 HIF.out.2.1 HIF.out.2.2.1 HIF.out.2.2.2 rfl (by decide) _ _ _ rfl ((HO.out.alloc _).alloc _) ⟨wr.heap.size+1,0,none⟩ 1 1 (cFd d) rfl rfl HN.out (fld_one d) (by unfold maxLen;omega) (by omega) (by simp;omega) ?_;intro v' w9 hown9 hgrow _;obtain ⟨tp,tc,rfl⟩:=own_sl3 hown9;have hb9:w9.heap[w.heap.size+1]?=wr.heap[w.heap.size+1]?:=(hgrow.block _ (by simp;omega) (fun e=>by have:=hrow _ e.symm;omega)).trans ((Below.heap_alloc _ _ _ (by simp;omega)).trans (Below.heap_alloc _ _ _ hBw));have hv9:w9.cell? ⟨w.heap.size+1,0,none⟩=some (.slice vp gk.length vc):=(World.cell?_of_block hb9).trans HV.out.1;have hf9:w9.frozen? ⟨w.heap.size+1,0,none⟩=false:=(World.frozen?_of_block hb9).trans HV.out.2)
     have hlen:(gk ++ [d]).length=gk.length+1:=by simp
     have HX:Hid (IL w (w.heap.size+1) w3.heap.size (gk ++ [d]) (w9.setCell ⟨w.heap.size+1,0,none⟩ (.slice tp (gk.length+1) tc))):=by
      have hb:Below w.heap.size w w9:=((HIr.out.bel.alloc HIr.out.bel.size _).alloc (by have:=HIr.out.bel.size;simp;omega) _).grown hgrow (by have:=HIr.out.bel.size;simp;omega) (fun r e=>Nat.le_trans (by omega) (hrow r e))
      refine ⟨⟨_,World.cell?_setCell_same' _ _ _ (by rw [hv9];rfl),by rw [World.frozen?_setCell];exact hf9,?_⟩,hb.setCell (p:=⟨w.heap.size+1,0,none⟩) (by show w.heap.size≤w.heap.size+1;omega) _,?_⟩
      ·have h9:w9.ownsRow w3.heap.size 61 3 (.slice tp (gk.length+1) tc) (gk ++ [d]).length ((gk ++ [d]).flatMap cFd):=by
        rw [hlen]
        simpa [List.flatMap_append] using hown9
       refine h9.kept (grownBy_setCell' w9 (w.heap.size+1) _) ?_
       cases hq:(Value.slice tp (gk.length+1) tc).ownBlock with
       | none=>exact .inl rfl
       | some r=>exact .inr fun e=>by cases e;have:=(h9.lt _ hq).1;omega
      ·have:=hgrow.size
       simp at this
       simp
       omega
     have HX2:Hid (KeepsFrom w3.heap.size W (w9.setCell ⟨w.heap.size+1,0,none⟩ (.slice tp (gk.length+1) tc))∧Kq w.heap.size w3.heap.size (w.heap.size+1) W (w9.setCell ⟨w.heap.size+1,0,none⟩ (.slice tp (gk.length+1) tc))):=by
      have hoc:∀ (r:Nat) (o:Obj),(Value.slice vp gk.length vc).ownBlock=some r→((wr.alloc (.cells #[.string d.1,.string d.2.1,.bool false] 61)).alloc (.cells #[.string d.1,.string d.2.1,.bool false] 61)).heap[r]?=some o→o.isCells=true:=fun r o e ho=>own_cells ((HO.out.alloc _).alloc _) e ho
      exact⟨HK.out.1.trans (((((KeepsOthers.alloc wr (.cells #[.string d.1,.string d.2.1,.bool false] 61)).trans (KeepsOthers.alloc _ (.cells #[.string d.1,.string d.2.1,.bool false] 61))).trans (KeepsOthers.of_grownBy hgrow hoc)).trans (KeepsOthers.setCell _ _ _)).from _),
       HK.out.2.trans (((Kq.alloc (by omega) hbig _).trans (Kq.alloc (by omega) (by simp;omega) _)).trans ((Kq.grown (by omega) (by simp;omega) hgrow hrow).trans (Kq.set (by omega) _)))⟩
     clear hown9 hgrow HN hrow hb9 hlen hvA hv
     gi_wp2
     go_roundw
     case rel=>exact⟨k+1,by omega,by congr 1,by rw [HYG.out];exact HX.out,HX2.out.1,HX2.out.2⟩
     case measure=>simp [intOf];omega
    ·have HY:=(show Hid (ownK fs (k+1)=ownK fs k) from ownK_no hlt2 hst)
     rw [hst] at f2
     obtain ⟨d,hd⟩:∃ d,fs[k]=d:=⟨_,rfl⟩
     rw [hd] at f0 f1
     clear hst hfA hIr hd
     gi_wp2
     go_roundw
     case rel=>exact⟨k+1,by omega,by congr 1,by rw [HY.out];exact HIr.out.alloc (by omega) _,HK.out.1.trans ((KeepsOthers.alloc _ _).from _),HK.out.2.trans (Kq.alloc (by omega) hbig _)⟩
     case measure=>simp [intOf];omega
   ·obtain rfl:k=fs.length:=by omega
    gi_wp2
    exact⟨HK.out.1,HK.out.2,by show IL _ _ _ _ _;rw [hGE.out];exact HIr.out⟩
 case done =>
  rintro D ys W hD hS ⟨⟨v,hv,hvf,hown⟩,hbel,hbig⟩ hK
  have HE:Hid (ys.flatMap (fun x=>ownF (T[x.1]).c)=fsW T):=fs_of_range _ _ hS
  gi_wp2
  refine ⟨by simp,.inl ⟨_,_,rfl,run_takeDeferred hK,?_⟩⟩
  rw [HE.out] at hown
  exact⟨_,results_tmp rfl _ _ _,hbel.trans (belowK_b (w:=w) (Nat.le_refl _) W D _ _ (by omega) hK rfl rfl),v,rfl,own_low3 (ownsRow_putObj hown _ hK rfl) (by omega)⟩
 case stop =>
  rintro D c pre W hD _ h _
  exact h.elim
theorem implFieldsW (lv:Value) (r:Nat) (E:List WE) (es:Array MapEntry) (ck:Nat) (n:ByteArray) (w:World) (h:WmIs w r E es ck) (hn:n.size≤maxLen) (hl:∃ a k c,lv = .slice a k c) (hE:E.length≤100) (hf8:∀ x ∈ E,(fsC x.c).length≤8) :
  Calls Tryz.prog 42 #[wdV lv r,.string n] w fun e w'=>Below w.heap.size w w'∧∃ u,e = .returned u∧w'.ownsRow w.heap.size 61 3 u (fsW (wyG E n)).length ((fsW (wyG E n)).flatMap cFd) :=
 implFieldsG lv (some r) (wyG E n) n w (by have:=wy_len E n;omega) hl (fun w' hb=>implWayUp lv r E es ck n w' (h.below hb) hn hl hE) fun x hx=>⟨hf8 x (wy_sub E n x hx),(h.lies x (wy_sub E n x hx)).f⟩
end Go.Proofs.YtmhgaggpdggbeaaGreatDoor
