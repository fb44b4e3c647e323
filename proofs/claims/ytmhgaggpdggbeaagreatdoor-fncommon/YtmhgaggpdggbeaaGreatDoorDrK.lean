import Derived.Test.YtmhgaggpdggbeaaGreatDoorDrI
namespace Go.Proofs.YtmhgaggpdggbeaaGreatDoor
open Go.RowKit
set_option maxRecDepth 20000
set_option linter.unusedVariables false
abbrev ClT:=CT × Value × Value
def cCl (x:ClT):List Value:=[.string (CT.nm x.1),.string x.1.su,.bool x.1.fi,.bool x.1.ab,x.2.1,x.2.2]
structure okK (c:CT):Prop where
 nm:c.nm.size≤1000
 su:c.su.size≤1000
 fs:∀ d ∈ c.fs,d.1.size≤1000∧d.2.1.size≤1000
 ms:∀ x ∈ c.ms,okM x.1
theorem U_1000 {t:ByteArray} (h:t ∈ U):t.size≤1000:=Nat.le_trans (U_small t h) (by omega)
theorem okC.k {n0 s0:ByteArray} {c:CT} (h:okC n0 s0 c) (h0:n0.size≤1000) (h1:s0.size≤1000):okK c:=by
 have go:∀ t,t ∈ n0 :: s0 :: U→t.size≤1000:=fun t ht=>by
  rcases List.mem_cons.1 ht with rfl | ht
  ·exact h0
  ·rcases List.mem_cons.1 ht with rfl | ht
   ·exact h1
   ·exact U_1000 ht
 exact⟨go _ h.nm,go _ h.su,fun d hd=>⟨U_1000 (h.fs d hd).1,U_1000 (h.fs d hd).2⟩,h.ms⟩
theorem small_max {n:Nat} (h:n≤1000):n≤maxLen:=by unfold maxLen;omega
def kOf (x:ClT):CTup:=(CT.nm x.1,x.1.su,x.1.fi,x.1.ab,x.1.fs,x.1.ms.map fun y=>mOf y.1)
theorem clsIn {w:World} {B:Nat} {x:ClT} (ho:okK x.1) (h:RwC w B x.1 x.2.1 x.2.2):classR.In w (cCl x) (kOf x):=by
 have hf:fieldR.slice.In w [x.2.1] x.1.fs:=by
  have:=owns_in (R:=fieldR) (f:=fun d:FieldD=>d) h.f fun d hd=>⟨rfl,(⟨[.string d.1],_,rfl,⟨rfl,small_max (ho.fs d hd).1⟩,[.string d.2.1],_,rfl,⟨rfl,small_max (ho.fs d hd).2⟩,rfl⟩:fieldR.In w (cFd d) d)⟩
  simpa using this
 have hm:methR.slice.In w [x.2.2] (x.1.ms.map fun y=>mOf y.1):=owns_in (R:=methR) (f:=fun y:MetT=>mOf y.1) h.m fun y hy=>⟨rfl,metIn (ho.ms y hy) (h.r y hy)⟩
 exact⟨[_],_,rfl,⟨rfl,small_max ho.nm⟩,[_],_,rfl,⟨rfl,small_max ho.su⟩,[_],_,rfl,rfl,[_],_,rfl,rfl,[_],[_],rfl,hf,hm⟩
structure RwL (w:World) (B:Nat) (v:Value) (L:List ClT):Prop where
 o:w.ownsRow B 51 6 v L.length (L.flatMap cCl)
 r:∀ x ∈ L,RwC w B x.1 x.2.1 x.2.2
 k:∀ x ∈ L,okK x.1
theorem RwL.lies {w:World} {B:Nat} {v:Value} {L:List ClT} (h:RwL w B v L):classR.slice.In w [v] (L.map kOf) :=
 owns_in (R:=classR) (f:=kOf) h.o fun x hx=>⟨rfl,clsIn (h.k x hx) (h.r x hx)⟩
theorem RwL.blocks {w w':World} {B:Nat} {v:Value} {L:List ClT} (h:RwL w B v L) (hb:∀ k,B≤k→k<w.heap.size→w'.heap[k]?=w.heap[k]?):RwL w' B v L :=
 ⟨own_blocks h.o hb,fun x hx=>(h.r x hx).blocks hb,h.k⟩
theorem RwL.kpt {w w':World} {B b:Nat} {v:Value} {L:List ClT} (h:RwL w B v L) (k:Kpt b w w') (hb:b<B):RwL w' B v L:=h.blocks fun j hj hl=>k.block j hl (by omega)
theorem RwC.grownC {w w1:World} {B B' n:Nat} {c:CT} {vf vm v:Value} {xs:List Value} (h:RwC w B c vf vm) (ho:w.ownsRow B' 51 6 v n xs) (hg:w.grownBy w1 v.ownBlock):RwC w1 B c vf vm :=
 ⟨h.f.kept hg (own_apart h.f ho (by decide)),h.m.kept hg (own_apart h.m ho (by decide)),fun x hx=>⟨(h.r x hx).c.kept hg (own_apart (h.r x hx).c ho (by decide)),(h.r x hx).h.kept hg (own_apart (h.r x hx).h ho (by decide))⟩⟩
theorem RwL.push {w w1:World} {B:Nat} {v v':Value} {L:List ClT} (h:RwL w B v L) {x:ClT} (hx:RwC w B x.1 x.2.1 x.2.2) (hk:okK x.1) (hown:w1.ownsRow B 51 6 v' (L.length+1) (L.flatMap cCl ++ cCl x)) (hg:w.grownBy w1 v.ownBlock):RwL w1 B v' (L ++ [x]) :=
 ⟨by simpa using hown,fun y hy=>by
  rcases List.mem_append.1 hy with hy | hy
  ·exact (h.r y hy).grownC h.o hg
  ·rw [List.mem_singleton.1 hy]
   exact hx.grownC h.o hg,fun y hy=>by
  rcases List.mem_append.1 hy with hy | hy
  ·exact h.k y hy
  ·rw [List.mem_singleton.1 hy]
   exact hk⟩
theorem own_set {w:World} {B e s n cap g:Nat} {xs:List Value} (h:w.ownsRow B e s (.slice (some ⟨g,0,none⟩) n cap) n xs) (i:Nat) (u:Value):(w.setCell ⟨g,i,none⟩ u).ownsRow B e s (.slice (some ⟨g,0,none⟩) n cap) n (xs.set i u):=by
 refine ⟨by rw [List.length_set];exact h.1,?_⟩
 rcases h.2 with ⟨h1,_⟩ | ⟨g',cap',cur,h1,hB,hg,hn,hc,hs,ht⟩
 ·cases h1
 ·cases h1
  refine .inr ⟨g,cap,cur.setIfInBounds i u,rfl,hB,?_,hn,hc,by simpa using hs,?_⟩
  ·simp [World.setCell,Array.getElem?_modify,hg]
  ·rw [Array.toList_setIfInBounds,List.take_set,ht]
theorem own_off {w:World} {B e s n g j:Nat} {v u:Value} {xs:List Value} (h:w.ownsRow B e s v n xs) (hne:v.ownBlock=none ∨ v.ownBlock ≠ some g):(w.setCell ⟨g,j,none⟩ u).ownsRow B e s v n xs:=by
 refine ⟨h.1,?_⟩
 rcases h.2 with hn | ⟨g',cap,cur,rfl,hB,hg,rest⟩
 ·exact .inl hn
 ·refine .inr ⟨g',cap,cur,rfl,hB,?_,rest⟩
  rw [Below.heap_setCell _ _ _ _ (by show g' ≠ g;simp [Value.ownBlock] at hne;exact hne)]
  exact hg
theorem RwC.offC {w:World} {B B' n cap g j:Nat} {c:CT} {vf vm u:Value} {xs:List Value} (h:RwC w B c vf vm) (ho:w.ownsRow B' 51 6 (.slice (some ⟨g,0,none⟩) n cap) n xs):RwC (w.setCell ⟨g,j,none⟩ u) B c vf vm :=
 ⟨own_off h.f (own_apart h.f ho (by decide)),own_off h.m (own_apart h.m ho (by decide)),fun x hx=>⟨own_off (h.r x hx).c (own_apart (h.r x hx).c ho (by decide)),own_off (h.r x hx).h (own_apart (h.r x hx).h ho (by decide))⟩⟩
theorem flat_set6 {x':ClT} {u:Value} {j:Nat} (hj:j<6):∀ (L:List ClT) (k:Nat) (hk:k<L.length),(cCl L[k]).set j u=cCl x'→(L.flatMap cCl).set (k * 6+j) u=(L.set k x').flatMap cCl
 | [],k,hk,_=>by simp at hk
 | x :: L,0,hk,e=>by
  simp only [List.getElem_cons_zero] at e
  rw [List.flatMap_cons,Nat.zero_mul,Nat.zero_add,List.set_append,if_pos (by show j<6;omega),e]
  rfl
 | x :: L,k+1,hk,e=>by
  have e6:(cCl x).length=6:=rfl
  rw [List.flatMap_cons,List.set_append,if_neg (by rw [e6];omega),e6,show (k+1) * 6+j - 6=k * 6+j by omega,flat_set6 hj L k (by simpa using hk) (by simpa using e)]
  rfl
theorem RwL.set {w:World} {B g cap k j:Nat} {u:Value} {L:List ClT} {x':ClT} (h:RwL w B (.slice (some ⟨g,0,none⟩) L.length cap) L) (hk:k<L.length) (hj:j<6) (e:(cCl L[k]).set j u=cCl x') (hx:RwC w B x'.1 x'.2.1 x'.2.2) (ho:okK x'.1):RwL (w.setCell ⟨g,k * 6+j,none⟩ u) B (.slice (some ⟨g,0,none⟩) L.length cap) (L.set k x') :=
 ⟨by
  rw [List.length_set,← flat_set6 hj L k hk e]
  exact own_set h.o _ _,fun y hy=>by
  rcases List.mem_or_eq_of_mem_set hy with hy | rfl
  ·exact (h.r y hy).offC h.o
  ·exact hx.offC h.o,fun y hy=>by
  rcases List.mem_or_eq_of_mem_set hy with hy | rfl
  ·exact h.k y hy
  ·exact ho⟩
theorem RwL.cells {w:World} {B g cap k:Nat} {L:List ClT} (h:RwL w B (.slice (some ⟨g,0,none⟩) L.length cap) L) (hk:k<L.length):∀ j,j<6→w.cell? ⟨g,k * 6+j,none⟩=(cCl L[k])[j]?:=fun j hj=>by
 rw [h.o.cellAt (k * 6+j) (by omega)]
 exact flat_get (c:=cCl) (k:=6) L (fun _ _=>rfl) k hk j hj
def namesW:List ByteArray:=[⟨#[65]⟩,⟨#[66]⟩,⟨#[67]⟩,⟨#[68]⟩]
structure FW (ρ:SRow) (b:Nat) (w0 w:World) (v:Value) (L:List ClT):Prop where
 src:Src ρ w b
 kpt:Kpt b w0 w
 row:RwL w w0.heap.size v L
 hb:b<w0.heap.size
theorem FW.call {ρ:SRow} {b:Nat} {w0 w w':World} {v:Value} {L:List ClT} (h:FW ρ b w0 w v L) (hs:Src ρ w' b) (hk:Kpt b w w'):FW ρ b w0 w' v L :=
 ⟨hs,h.kpt.trans hk,h.row.kpt hk h.hb,h.hb⟩
structure DW (ρ:SRow) (b:Nat) (w0 w:World) (v:Value) (L:List ClT) (g:Nat):Prop extends FW ρ b w0 w v L where
 nms:w.ownsRow w0.heap.size 9 1 (.slice (some ⟨g,0,none⟩) 4 4) 4 (namesW.map .string)
 hr:RB ρ w0.heap.size
 s:L.Pairwise fun x y=>x.2.1.ownBlock=none ∨ x.2.1.ownBlock ≠ y.2.1.ownBlock
 nf:∀ x ∈ L,x.1.fs.length≤4
theorem DW.call {ρ:SRow} {b g:Nat} {w0 w w':World} {v:Value} {L:List ClT} (h:DW ρ b w0 w v L g) (hs:Src ρ w' b) (hk:Kpt b w w'):DW ρ b w0 w' v L g :=
 ⟨h.toFW.call hs hk,own_blocks h.nms fun j hj hl=>hk.block j hl (by have:=h.hb;omega),h.hr,h.s,h.nf⟩
theorem DW.lit {ρ:SRow} {b g:Nat} {w0 w:World} {v:Value} {L:List ClT} (h:DW ρ b w0 w v L g) (o:Obj):DW ρ b w0 (w.alloc o) v L g:=h.call (h.src.keep lit_below) (kpt_alloc b w o)
theorem DW.name {ρ:SRow} {b g:Nat} {w0 w:World} {v:Value} {L:List ClT} (h:DW ρ b w0 w v L g) {i:Nat} (hi:i<4):∃ t,w.cell? ⟨g,i,none⟩=some (.string t)∧t.size≤1000:=by
 refine ⟨namesW.getD i ⟨#[]⟩,?_,?_⟩
 ·rw [h.nms.cellAt i (by omega)]
  match i,hi with
  | 0,_ | 1,_ | 2,_ | 3,_=>rfl
 ·match i,hi with
  | 0,_ | 1,_ | 2,_ | 3,_=>decide
theorem DW.apart {ρ:SRow} {b g:Nat} {w0 w w':World} {v:Value} {L:List ClT} (h:DW ρ b w0 w v L g) {c:CT} {vf vm:Value} (hx:RwC w' w.heap.size c vf vm):∀ y ∈ L,y.2.1.ownBlock=none ∨ y.2.1.ownBlock ≠ vf.ownBlock:=fun y hy=>by
 cases e:y.2.1.ownBlock with
 | none=>exact .inl rfl
 | some p =>
  refine .inr fun e2=>?_
  have h1:=((h.row.r y hy).f.lt p e).2
  have h2:=(hx.f.lt p e2.symm).1
  omega
theorem DW.push {ρ:SRow} {b g:Nat} {w0 w w1:World} {v v':Value} {L:List ClT} (h:DW ρ b w0 w v L g) {x:ClT} (hx:RwC w w0.heap.size x.1 x.2.1 x.2.2) (hk:okK x.1) (hf:x.1.fs.length≤4) (ha:∀ y ∈ L,y.2.1.ownBlock=none ∨ y.2.1.ownBlock ≠ x.2.1.ownBlock) (hown:w1.ownsRow w0.heap.size 51 6 v' (L.length+1) (L.flatMap cCl ++ cCl x)) (hg:w.grownBy w1 v.ownBlock):DW ρ b w0 w1 v' (L ++ [x]) g:=by
 have hB:∀ k,v.ownBlock=some k→w0.heap.size≤k:=fun k e=>(h.row.o.lt k e).1
 exact⟨⟨h.src.grown h.hr hg hB (fun e=>by have:=hB b e;have:=h.hb;omega),h.kpt.grown hg hB,h.row.push hx hk hown hg,h.hb⟩,h.nms.kept hg (own_apart h.nms h.row.o (by decide)),h.hr,by
  rw [List.pairwise_append]
  exact⟨h.s,List.pairwise_singleton _ _,fun y hy z hz=>by rw [List.mem_singleton.1 hz];exact ha y hy⟩,fun y hy=>by
  rcases List.mem_append.1 hy with hy | hy
  ·exact h.nf y hy
  ·rw [List.mem_singleton.1 hy]
   exact hf⟩
theorem DW.set {ρ:SRow} {b g q cap k j:Nat} {w0 w:World} {u:Value} {L:List ClT} {x':ClT} (h:DW ρ b w0 w (.slice (some ⟨q,0,none⟩) L.length cap) L g) (hk:k<L.length) (hj:j<6) (e:(cCl L[k]).set j u=cCl x') (hx:RwC w w0.heap.size x'.1 x'.2.1 x'.2.2) (ho:okK x'.1):FW ρ b w0 (w.setCell ⟨q,k * 6+j,none⟩ u) (.slice (some ⟨q,0,none⟩) L.length cap) (L.set k x'):=by
 have hq:=(h.row.o.lt q rfl).1
 have hb:=h.hb
 exact⟨h.src.off h.hr hq (by omega),h.kpt.set hq,h.row.set hk hj e hx ho,h.hb⟩
theorem DW.setName {ρ:SRow} {b g q cap k:Nat} {w0 w:World} {L:List ClT} (h:DW ρ b w0 w (.slice (some ⟨q,0,none⟩) L.length cap) L g) (hk:k<L.length) (t:ByteArray) (ht:t.size≤1000):FW ρ b w0 (w.setCell ⟨q,k * 6,none⟩ (.string t)) (.slice (some ⟨q,0,none⟩) L.length cap) (L.set k ({ L[k].1 with nm:=t },L[k].2)):=by
 have hm:=List.getElem_mem hk
 exact h.set (j:=0) (x':=({ L[k].1 with nm:=t },L[k].2)) hk (by omega) rfl ⟨(h.row.r _ hm).f,(h.row.r _ hm).m,(h.row.r _ hm).r⟩ ⟨ht,(h.row.k _ hm).su,(h.row.k _ hm).fs,(h.row.k _ hm).ms⟩
theorem DW.setSuper {ρ:SRow} {b g q cap k:Nat} {w0 w:World} {L:List ClT} (h:DW ρ b w0 w (.slice (some ⟨q,0,none⟩) L.length cap) L g) (hk:k<L.length) (t:ByteArray) (ht:t.size≤1000):FW ρ b w0 (w.setCell ⟨q,k * 6+1,none⟩ (.string t)) (.slice (some ⟨q,0,none⟩) L.length cap) (L.set k ({ L[k].1 with su:=t },L[k].2)):=by
 have hm:=List.getElem_mem hk
 exact h.set (j:=1) (x':=({ L[k].1 with su:=t },L[k].2)) hk (by omega) rfl ⟨(h.row.r _ hm).f,(h.row.r _ hm).m,(h.row.r _ hm).r⟩ ⟨(h.row.k _ hm).nm,ht,(h.row.k _ hm).fs,(h.row.k _ hm).ms⟩
theorem DW.pushF {ρ:SRow} {b g q cap k:Nat} {w0 w w1:World} {v':Value} {L:List ClT} {d:FldT} (h:DW ρ b w0 w (.slice (some ⟨q,0,none⟩) L.length cap) L g) (hk:k<L.length) (hd:d.1.size≤1000∧d.2.1.size≤1000)
  (hown:w1.ownsRow w0.heap.size 61 3 v' (L[k].1.fs.length+1) (L[k].1.fs.flatMap cFd ++ cFd d)) (hg:w.grownBy w1 (L[k].2.1).ownBlock) :
  FW ρ b w0 (w1.setCell ⟨q,k * 6+4,none⟩ v') (.slice (some ⟨q,0,none⟩) L.length cap) (L.set k ({ L[k].1 with fs:=L[k].1.fs ++ [d] },v',L[k].2.2)):=by
 have hm:=List.getElem_mem hk
 have hf:=(h.row.r _ hm).f
 have hB:∀ j,(L[k].2.1).ownBlock=some j→w0.heap.size≤j:=fun j e=>(hf.lt j e).1
 have hs1:Src ρ w1 b:=h.src.grown h.hr hg hB (fun e=>by have:=hB b e;have:=h.hb;omega)
 have hk1:Kpt b w0 w1:=h.kpt.grown hg hB
 have ho1:=h.row.o.kept hg (own_apart h.row.o hf (by decide))
 have hq:=(h.row.o.lt q rfl).1
 have hb:=h.hb
 have keepM:∀ x ∈ L,(w1.ownsRow w0.heap.size 55 9 x.2.2 x.1.ms.length (x.1.ms.flatMap cMt)∧∀ y ∈ x.1.ms,Rw w1 w0.heap.size y.1 y.2.1 y.2.2):=fun x hx =>
  have hr:=h.row.r x hx
  ⟨hr.m.kept hg (own_apart hr.m hf (by decide)),fun y hy=>⟨(hr.r y hy).c.kept hg (own_apart (hr.r y hy).c hf (by decide)),(hr.r y hy).h.kept hg (own_apart (hr.r y hy).h hf (by decide))⟩⟩
 have hpw:∀ i (hi:i<L.length),i ≠ k→(L[i].2.1).ownBlock=none ∨ (L[i].2.1).ownBlock ≠ (L[k].2.1).ownBlock:=fun i hi hne=>by
  rcases Nat.lt_or_gt_of_ne hne with hlt | hlt
  ·exact List.pairwise_iff_getElem.1 h.s i k hi hk hlt
  ·rcases List.pairwise_iff_getElem.1 h.s k i hk hi hlt with e | e
   ·by_cases e2:(L[i].2.1).ownBlock=none
    ·exact .inl e2
    ·exact .inr fun e3=>e2 (e3.trans e)
   ·exact .inr fun e3=>e e3.symm
 refine ⟨hs1.off h.hr hq (by omega),hk1.set hq,⟨?_,fun y hy=>?_,fun y hy=>?_⟩,h.hb⟩
 ·rw [List.length_set,← flat_set6 (j:=4) (u:=v') (x':=({ L[k].1 with fs:=L[k].1.fs ++ [d] },v',L[k].2.2)) (by omega) L k hk rfl]
  exact own_set ho1 _ _
 ·obtain ⟨i,hi,rfl⟩:=List.mem_iff_getElem.1 hy
  have hiL:i<L.length:=by simpa using hi
  rw [List.getElem_set]
  split
  ·have hM:=keepM _ hm
   exact RwC.offC ⟨by simpa using hown,hM.1,hM.2⟩ ho1
  ·next hne =>
   have hM:=keepM _ (List.getElem_mem hiL)
   exact RwC.offC ⟨(h.row.r _ (List.getElem_mem hiL)).f.kept hg (hpw i hiL (fun e=>hne e.symm)),hM.1,hM.2⟩ ho1
 ·rcases List.mem_or_eq_of_mem_set hy with hy | rfl
  ·exact h.row.k y hy
  ·exact⟨(h.row.k _ hm).nm,(h.row.k _ hm).su,fun e he=>by
    rcases List.mem_append.1 he with he | he
    ·exact (h.row.k _ hm).fs e he
    ·rw [List.mem_singleton.1 he];exact hd,(h.row.k _ hm).ms⟩
end Go.Proofs.YtmhgaggpdggbeaaGreatDoor
