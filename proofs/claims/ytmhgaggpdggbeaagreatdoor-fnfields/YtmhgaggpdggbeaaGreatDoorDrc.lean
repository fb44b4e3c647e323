import Derived.Test.YtmhgaggpdggbeaaGreatDoorDrH
namespace Go.Proofs.YtmhgaggpdggbeaaGreatDoor
open Go.RowKit
set_option maxRecDepth 20000
set_option linter.unusedVariables false
abbrev FldT:=ByteArray × ByteArray × Bool
abbrev MetT:=MT × Value × Value
def cFd (d:FldT):List Value:=[.string d.1,.string d.2.1,.bool d.2.2]
def cMt (x:MetT):List Value:=[.string (MT.nm x.1),.string x.1.ds,.bool x.1.st,.bool x.1.ab,.bool x.1.fi,.int .i64 x.1.sk,.int .i64 x.1.lo,x.2.1,x.2.2]
structure CT where
 nm:ByteArray
 su:ByteArray
 fi:Bool
 ab:Bool
 fs:List FldT
 ms:List MetT
def CT.zero:CT:=⟨⟨#[]⟩,⟨#[]⟩,false,false,[],[]⟩
structure okC (n0 s0:ByteArray) (c:CT):Prop where
 nm:c.nm ∈ n0 :: s0 :: U
 su:c.su ∈ n0 :: s0 :: U
 fs:∀ d ∈ c.fs,d.1 ∈ U∧d.2.1 ∈ U
 ms:∀ x ∈ c.ms,okM x.1
 nf:c.fs.length≤4
 nm':c.ms.length≤3
structure C6 (w:World) (q:Nat) (c:CT) (vf vm:Value):Prop where
 x0:w.cell? ⟨q,0,none⟩=some (.string c.nm)
 x1:w.cell? ⟨q,1,none⟩=some (.string c.su)
 x2:w.cell? ⟨q,2,none⟩=some (.bool c.fi)
 x3:w.cell? ⟨q,3,none⟩=some (.bool c.ab)
 x4:w.cell? ⟨q,4,none⟩=some vf
 x5:w.cell? ⟨q,5,none⟩=some vm
 fz:∀ j,w.frozen? ⟨q,j,none⟩=false
theorem C6.of_block {w w':World} {q:Nat} {c:CT} {vf vm:Value} (h:C6 w q c vf vm) (hb:w'.heap[q]?=w.heap[q]?):C6 w' q c vf vm :=
 have k:∀ j,w'.cell? ⟨q,j,none⟩=w.cell? ⟨q,j,none⟩:=fun j=>World.cell?_of_block hb
 ⟨(k 0).trans h.x0,(k 1).trans h.x1,(k 2).trans h.x2,(k 3).trans h.x3,(k 4).trans h.x4,(k 5).trans h.x5,fun j=>(World.frozen?_of_block hb).trans (h.fz j)⟩
theorem C6.lt {w:World} {q:Nat} {c:CT} {vf vm:Value} (h:C6 w q c vf vm):q<w.heap.size:=World.block_lt_of_cell? _ ⟨q,0,none⟩ h.x0
theorem C6.set0 {w:World} {q:Nat} {c:CT} {vf vm:Value} (h:C6 w q c vf vm) (v:ByteArray):C6 (w.setCell ⟨q,0,none⟩ (.string v)) q { c with nm:=v } vf vm:=by
 obtain ⟨x0,x1,x2,x3,x4,x5,fz⟩:=h
 exact⟨by simp [go_sem,x0],by simp [go_sem,x1],by simp [go_sem,x2],by simp [go_sem,x3],by simp [go_sem,x4],by simp [go_sem,x5],fun j=>by simp [go_sem,fz]⟩
theorem C6.set1 {w:World} {q:Nat} {c:CT} {vf vm:Value} (h:C6 w q c vf vm) (v:ByteArray):C6 (w.setCell ⟨q,1,none⟩ (.string v)) q { c with su:=v } vf vm:=by
 obtain ⟨x0,x1,x2,x3,x4,x5,fz⟩:=h
 exact⟨by simp [go_sem,x0],by simp [go_sem,x1],by simp [go_sem,x2],by simp [go_sem,x3],by simp [go_sem,x4],by simp [go_sem,x5],fun j=>by simp [go_sem,fz]⟩
theorem C6.set2 {w:World} {q:Nat} {c:CT} {vf vm:Value} (h:C6 w q c vf vm) (v:Bool):C6 (w.setCell ⟨q,2,none⟩ (.bool v)) q { c with fi:=v } vf vm:=by
 obtain ⟨x0,x1,x2,x3,x4,x5,fz⟩:=h
 exact⟨by simp [go_sem,x0],by simp [go_sem,x1],by simp [go_sem,x2],by simp [go_sem,x3],by simp [go_sem,x4],by simp [go_sem,x5],fun j=>by simp [go_sem,fz]⟩
theorem C6.set3 {w:World} {q:Nat} {c:CT} {vf vm:Value} (h:C6 w q c vf vm) (v:Bool):C6 (w.setCell ⟨q,3,none⟩ (.bool v)) q { c with ab:=v } vf vm:=by
 obtain ⟨x0,x1,x2,x3,x4,x5,fz⟩:=h
 exact⟨by simp [go_sem,x0],by simp [go_sem,x1],by simp [go_sem,x2],by simp [go_sem,x3],by simp [go_sem,x4],by simp [go_sem,x5],fun j=>by simp [go_sem,fz]⟩
theorem C6.set4 {w:World} {q:Nat} {c:CT} {vf vm:Value} (h:C6 w q c vf vm) (v:Value) (L:List FldT):C6 (w.setCell ⟨q,4,none⟩ v) q { c with fs:=L } v vm:=by
 obtain ⟨x0,x1,x2,x3,x4,x5,fz⟩:=h
 exact⟨by simp [go_sem,x0],by simp [go_sem,x1],by simp [go_sem,x2],by simp [go_sem,x3],by simp [go_sem,x4],by simp [go_sem,x5],fun j=>by simp [go_sem,fz]⟩
theorem C6.set5 {w:World} {q:Nat} {c:CT} {vf vm:Value} (h:C6 w q c vf vm) (v:Value) (L:List MetT):C6 (w.setCell ⟨q,5,none⟩ v) q { c with ms:=L } vf v:=by
 obtain ⟨x0,x1,x2,x3,x4,x5,fz⟩:=h
 exact⟨by simp [go_sem,x0],by simp [go_sem,x1],by simp [go_sem,x2],by simp [go_sem,x3],by simp [go_sem,x4],by simp [go_sem,x5],fun j=>by simp [go_sem,fz]⟩
structure RwC (w:World) (B:Nat) (c:CT) (vf vm:Value):Prop where
 f:w.ownsRow B 61 3 vf c.fs.length (c.fs.flatMap cFd)
 m:w.ownsRow B 55 9 vm c.ms.length (c.ms.flatMap cMt)
 r:∀ x ∈ c.ms,Rw w B x.1 x.2.1 x.2.2
theorem own_blocks {w w':World} {B e s n:Nat} {v:Value} {xs:List Value} (hh:w.ownsRow B e s v n xs) (hb:∀ k,B≤k→k<w.heap.size→w'.heap[k]?=w.heap[k]?):w'.ownsRow B e s v n xs:=by
 refine ⟨hh.1,?_⟩
 rcases hh.2 with hn | ⟨g,cap,cur,rfl,hB,hgg,rest⟩
 ·exact .inl hn
 ·exact .inr ⟨g,cap,cur,rfl,hB,(hb g hB (Array.getElem?_eq_some_iff.1 hgg).1).trans hgg,rest⟩
theorem RwC.blocks {w w':World} {B:Nat} {c:CT} {vf vm:Value} (h:RwC w B c vf vm) (hb:∀ k,B≤k→k<w.heap.size→w'.heap[k]?=w.heap[k]?):RwC w' B c vf vm :=
 ⟨own_blocks h.f hb,own_blocks h.m hb,fun x hx=>(h.r x hx).blocks hb⟩
theorem RwC.low {w:World} {B B':Nat} {c:CT} {vf vm:Value} (h:RwC w B c vf vm) (hB:B'≤B):RwC w B' c vf vm:=⟨own_low h.f hB,own_low h.m hB,fun x hx=>(h.r x hx).low hB⟩
structure DC (ρ:SRow) (b:Nat) (w0 w:World) (q:Nat) (c:CT):Prop where
 src:Src ρ w b
 kpt:Kpt b w0 w
 cls:∃ vf vm,C6 w q c vf vm∧RwC w (q+1) c vf vm
 res:C6 w w0.heap.size CT.zero (.slice none 0 0) (.slice none 0 0)
 hq:w0.heap.size<q∧b<w0.heap.size
theorem DC.call {ρ:SRow} {b q:Nat} {w0 w w':World} {c:CT} (h:DC ρ b w0 w q c) (hs:Src ρ w' b) (hk:Kpt b w w'):DC ρ b w0 w' q c:=by
 have hq:=h.hq
 obtain ⟨vf,vm,hi,hr⟩:=h.cls
 exact⟨hs,h.kpt.trans hk,⟨vf,vm,hi.of_block (hk.block q hi.lt (by omega)),hr.blocks fun k hB hl=>hk.block k hl (by omega)⟩,h.res.of_block (hk.block _ h.res.lt (by omega)),hq⟩
theorem DC.lit {ρ:SRow} {b q:Nat} {w0 w:World} {c:CT} (h:DC ρ b w0 w q c) (o:Obj):DC ρ b w0 (w.alloc o) q c:=h.call (h.src.keep lit_below) (kpt_alloc b w o)
theorem DC.set0 {ρ:SRow} {b q:Nat} {w0 w:World} {c:CT} (h:DC ρ b w0 w q c) (hr:RB ρ w0.heap.size) (v:ByteArray):DC ρ b w0 (w.setCell ⟨q,0,none⟩ (.string v)) q { c with nm:=v }:=by
 have hq:=h.hq
 obtain ⟨vf,vm,hi,hw⟩:=h.cls
 have hw2:=hw.blocks (w':=w.setCell ⟨q,0,none⟩ (.string v)) fun k hB _=>Below.heap_setCell _ _ _ _ (by show k ≠ q;omega)
 exact⟨h.src.off hr (by omega) (by omega),h.kpt.set (by omega),⟨vf,vm,hi.set0 v,hw2.f,hw2.m,hw2.r⟩,h.res.of_block (Below.heap_setCell _ _ _ _ (by show w0.heap.size ≠ q;omega)),hq⟩
theorem DC.set1 {ρ:SRow} {b q:Nat} {w0 w:World} {c:CT} (h:DC ρ b w0 w q c) (hr:RB ρ w0.heap.size) (v:ByteArray):DC ρ b w0 (w.setCell ⟨q,1,none⟩ (.string v)) q { c with su:=v }:=by
 have hq:=h.hq
 obtain ⟨vf,vm,hi,hw⟩:=h.cls
 have hw2:=hw.blocks (w':=w.setCell ⟨q,1,none⟩ (.string v)) fun k hB _=>Below.heap_setCell _ _ _ _ (by show k ≠ q;omega)
 exact⟨h.src.off hr (by omega) (by omega),h.kpt.set (by omega),⟨vf,vm,hi.set1 v,hw2.f,hw2.m,hw2.r⟩,h.res.of_block (Below.heap_setCell _ _ _ _ (by show w0.heap.size ≠ q;omega)),hq⟩
theorem DC.set2 {ρ:SRow} {b q:Nat} {w0 w:World} {c:CT} (h:DC ρ b w0 w q c) (hr:RB ρ w0.heap.size) (v:Bool):DC ρ b w0 (w.setCell ⟨q,2,none⟩ (.bool v)) q { c with fi:=v }:=by
 have hq:=h.hq
 obtain ⟨vf,vm,hi,hw⟩:=h.cls
 have hw2:=hw.blocks (w':=w.setCell ⟨q,2,none⟩ (.bool v)) fun k hB _=>Below.heap_setCell _ _ _ _ (by show k ≠ q;omega)
 exact⟨h.src.off hr (by omega) (by omega),h.kpt.set (by omega),⟨vf,vm,hi.set2 v,hw2.f,hw2.m,hw2.r⟩,h.res.of_block (Below.heap_setCell _ _ _ _ (by show w0.heap.size ≠ q;omega)),hq⟩
theorem DC.set3 {ρ:SRow} {b q:Nat} {w0 w:World} {c:CT} (h:DC ρ b w0 w q c) (hr:RB ρ w0.heap.size) (v:Bool):DC ρ b w0 (w.setCell ⟨q,3,none⟩ (.bool v)) q { c with ab:=v }:=by
 have hq:=h.hq
 obtain ⟨vf,vm,hi,hw⟩:=h.cls
 have hw2:=hw.blocks (w':=w.setCell ⟨q,3,none⟩ (.bool v)) fun k hB _=>Below.heap_setCell _ _ _ _ (by show k ≠ q;omega)
 exact⟨h.src.off hr (by omega) (by omega),h.kpt.set (by omega),⟨vf,vm,hi.set3 v,hw2.f,hw2.m,hw2.r⟩,h.res.of_block (Below.heap_setCell _ _ _ _ (by show w0.heap.size ≠ q;omega)),hq⟩
theorem DC.push4 {ρ:SRow} {b q:Nat} {w0 w w1:World} {c:CT} {vf vm v':Value} (h:DC ρ b w0 w q c) (hr:RB ρ w0.heap.size) (hc:C6 w q c vf vm) (hw:RwC w (q+1) c vf vm) (d:FldT)
  (hown:w1.ownsRow (q+1) 61 3 v' (c.fs.length+1) (c.fs.flatMap cFd ++ cFd d)) (hg:w.grownBy w1 vf.ownBlock) :
  DC ρ b w0 (w1.setCell ⟨q,4,none⟩ v') q { c with fs:=c.fs ++ [d] }:=by
 have hq:=h.hq
 have hB:∀ k,vf.ownBlock=some k→q+1≤k:=fun k e=>(hw.f.lt k e).1
 have hne:∀ k,k≤q→some k ≠ vf.ownBlock:=fun k hk e=>by have:=hB k e.symm;omega
 have hc1:C6 w1 q c vf vm:=hc.of_block (hg.block q hc.lt (hne q (Nat.le_refl _)))
 have ho:=hw.m.kept hg (own_apart hw.m hw.f (by decide))
 have hs1:Src ρ w1 b:=h.src.grown hr hg (fun k e=>by have:=hB k e;omega) (fun e=>by have:=hB b e;omega)
 have hk1:Kpt b w0 w1:=h.kpt.grown hg (fun k e=>by have:=hB k e;omega)
 have hres:=h.res.of_block (hg.block _ h.res.lt (hne _ (by omega)))
 have hw2:RwC w1 (q+1) { c with fs:=c.fs ++ [d] } v' vm:=⟨by simpa using hown,ho,fun x hx=>⟨(hw.r x hx).c.kept hg (own_apart (hw.r x hx).c hw.f (by decide)),(hw.r x hx).h.kept hg (own_apart (hw.r x hx).h hw.f (by decide))⟩⟩
 exact⟨hs1.off hr (by omega) (by omega),hk1.set (by omega),⟨_,_,hc1.set4 v' _,hw2.blocks (fun k hB _=>Below.heap_setCell _ _ _ _ (by show k ≠ q;omega))⟩,hres.of_block (Below.heap_setCell _ _ _ _ (by show w0.heap.size ≠ q;omega)),hq⟩
theorem DC.push5 {ρ:SRow} {b q:Nat} {w0 w w1:World} {c:CT} {vf vm v':Value} (h:DC ρ b w0 w q c) (hr:RB ρ w0.heap.size) (hc:C6 w q c vf vm) (hw:RwC w (q+1) c vf vm) (d:MetT) (hd:Rw w (q+1) d.1 d.2.1 d.2.2)
  (hown:w1.ownsRow (q+1) 55 9 v' (c.ms.length+1) (c.ms.flatMap cMt ++ cMt d)) (hg:w.grownBy w1 vm.ownBlock) :
  DC ρ b w0 (w1.setCell ⟨q,5,none⟩ v') q { c with ms:=c.ms ++ [d] }:=by
 have hq:=h.hq
 have hB:∀ k,vm.ownBlock=some k→q+1≤k:=fun k e=>(hw.m.lt k e).1
 have hne:∀ k,k≤q→some k ≠ vm.ownBlock:=fun k hk e=>by have:=hB k e.symm;omega
 have hc1:C6 w1 q c vf vm:=hc.of_block (hg.block q hc.lt (hne q (Nat.le_refl _)))
 have ho:=hw.f.kept hg (own_apart hw.f hw.m (by decide))
 have hs1:Src ρ w1 b:=h.src.grown hr hg (fun k e=>by have:=hB k e;omega) (fun e=>by have:=hB b e;omega)
 have hk1:Kpt b w0 w1:=h.kpt.grown hg (fun k e=>by have:=hB k e;omega)
 have hres:=h.res.of_block (hg.block _ h.res.lt (hne _ (by omega)))
 have hR:∀ {x:MetT},Rw w (q+1) x.1 x.2.1 x.2.2→Rw w1 (q+1) x.1 x.2.1 x.2.2:=fun {x} hx=>⟨hx.c.kept hg (own_apart hx.c hw.m (by decide)),hx.h.kept hg (own_apart hx.h hw.m (by decide))⟩
 have hw2:RwC w1 (q+1) { c with ms:=c.ms ++ [d] } vf v':=⟨ho,by simpa using hown,fun x hx=>(List.mem_append.1 hx).elim (fun hx=>hR (hw.r x hx)) (fun hx=>by have:=List.mem_singleton.1 hx;subst this;exact hR hd)⟩
 exact⟨hs1.off hr (by omega) (by omega),hk1.set (by omega),⟨_,_,hc1.set5 v' _,hw2.blocks (fun k hB _=>Below.heap_setCell _ _ _ _ (by show k ≠ q;omega))⟩,hres.of_block (Below.heap_setCell _ _ _ _ (by show w0.heap.size ≠ q;omega)),hq⟩
structure E0 (ρ:SRow) (b:Nat) (w0 w:World):Prop where
 src:Src ρ w b
 kpt:Kpt b w0 w
 res:C6 w w0.heap.size CT.zero (.slice none 0 0) (.slice none 0 0)
 hq:w0.heap.size<w.heap.size∧b<w0.heap.size
theorem E0.call {ρ:SRow} {b:Nat} {w0 w w':World} (h:E0 ρ b w0 w) (hs:Src ρ w' b) (hk:Kpt b w w'):E0 ρ b w0 w' :=
 ⟨hs,h.kpt.trans hk,h.res.of_block (hk.block _ h.res.lt (by have:=h.hq;omega)),by have:=h.hq;have:=hk.size;omega⟩
theorem E0.lit {ρ:SRow} {b:Nat} {w0 w:World} (h:E0 ρ b w0 w) (o:Obj):E0 ρ b w0 (w.alloc o):=h.call (h.src.keep lit_below) (kpt_alloc b w o)
def cObj (nm su:ByteArray) (fi ab:Bool):Obj:=.cells #[.string nm,.string su,.bool fi,.bool ab,.slice none 0 0,.slice none 0 0] 51
theorem C6.made (w:World) (nm su:ByteArray) (fi ab:Bool):C6 (w.alloc (cObj nm su fi ab)) w.heap.size ⟨nm,su,fi,ab,[],[]⟩ (.slice none 0 0) (.slice none 0 0):=by
 unfold cObj
 exact⟨by simp [go_sem],by simp [go_sem],by simp [go_sem],by simp [go_sem],by simp [go_sem],by simp [go_sem],fun j=>by simp [go_sem]⟩
theorem E0.start {ρ:SRow} {b:Nat} {w:World} (h:Src ρ w b):E0 ρ b w (w.alloc (cObj ⟨#[]⟩ ⟨#[]⟩ false false)) :=
 ⟨h.keep lit_below,kpt_alloc b w _,C6.made w _ _ _ _,by have:=h.lt;simp;omega⟩
theorem E0.make {ρ:SRow} {b:Nat} {w0 w:World} (h:E0 ρ b w0 w) (nm su:ByteArray) (fi ab:Bool):DC ρ b w0 (w.alloc (cObj nm su fi ab)) w.heap.size ⟨nm,su,fi,ab,[],[]⟩ :=
 have h2:=h.lit (cObj nm su fi ab)
 ⟨h2.src,h2.kpt,⟨_,_,C6.made w _ _ _ _,World.ownsRow_nil _ _ _ _,World.ownsRow_nil _ _ _ _,fun _ hx=>by cases hx⟩,h2.res,h.hq.1,h.hq.2⟩
def CX (ρ:SRow) (b:Nat) (w0 w:World) (q:Nat) (n0 s0:ByteArray) (n h:Nat):Prop:=∃ c,DC ρ b w0 w q c∧okC n0 s0 c∧c.fs.length≤n∧c.ms.length≤h
theorem CX.call {ρ:SRow} {b q n h:Nat} {n0 s0:ByteArray} {w0 w w':World} (H:CX ρ b w0 w q n0 s0 n h) (hs:Src ρ w' b) (hk:Kpt b w w'):CX ρ b w0 w' q n0 s0 n h :=
 let ⟨c,hd,ho,hn,hh⟩:=H
 ⟨c,hd.call hs hk,ho,hn,hh⟩
theorem CX.lit {ρ:SRow} {b q n h:Nat} {n0 s0:ByteArray} {w0 w:World} (H:CX ρ b w0 w q n0 s0 n h) (o:Obj):CX ρ b w0 (w.alloc o) q n0 s0 n h :=
 let ⟨c,hd,ho,hn,hh⟩:=H
 ⟨c,hd.lit o,ho,hn,hh⟩
theorem CX.mono {ρ:SRow} {b q n h n' h':Nat} {n0 s0:ByteArray} {w0 w:World} (H:CX ρ b w0 w q n0 s0 n h) (hn':n≤n') (hh':h≤h'):CX ρ b w0 w q n0 s0 n' h' :=
 let ⟨c,hd,ho,hn,hh⟩:=H
 ⟨c,hd,ho,Nat.le_trans hn hn',Nat.le_trans hh hh'⟩
theorem CX.src {ρ:SRow} {b q n h:Nat} {n0 s0:ByteArray} {w0 w:World} (H:CX ρ b w0 w q n0 s0 n h):Src ρ w b:=let ⟨c,hd,_⟩:=H;hd.src
theorem CX.kpt {ρ:SRow} {b q n h:Nat} {n0 s0:ByteArray} {w0 w:World} (H:CX ρ b w0 w q n0 s0 n h):Kpt b w0 w:=let ⟨c,hd,_⟩:=H;hd.kpt
theorem CX.hq {ρ:SRow} {b q n h:Nat} {n0 s0:ByteArray} {w0 w:World} (H:CX ρ b w0 w q n0 s0 n h):w0.heap.size<q∧b<w0.heap.size:=let ⟨c,hd,_⟩:=H;hd.hq
theorem CX.lt {ρ:SRow} {b q n h:Nat} {n0 s0:ByteArray} {w0 w:World} (H:CX ρ b w0 w q n0 s0 n h):q<w.heap.size:=let ⟨c,hd,_⟩:=H;let ⟨_,_,hi,_⟩:=hd.cls;hi.lt
theorem CX.res {ρ:SRow} {b q n h:Nat} {n0 s0:ByteArray} {w0 w:World} (H:CX ρ b w0 w q n0 s0 n h):C6 w w0.heap.size CT.zero (.slice none 0 0) (.slice none 0 0):=let ⟨c,hd,_⟩:=H;hd.res
theorem CX.opn {ρ:SRow} {b q n h:Nat} {n0 s0:ByteArray} {w0 w:World} (H:CX ρ b w0 w q n0 s0 n h):∃ c vf vm,C6 w q c vf vm∧RwC w (q+1) c vf vm∧okC n0 s0 c∧c.fs.length≤n∧c.ms.length≤h :=
 let ⟨c,hd,ho,hn,hh⟩:=H
 let ⟨vf,vm,hi,hr⟩:=hd.cls
 ⟨c,vf,vm,hi,hr,ho,hn,hh⟩
theorem CX.set0 {ρ:SRow} {b q n h:Nat} {n0 s0:ByteArray} {w0 w:World} (H:CX ρ b w0 w q n0 s0 n h) (hr:RB ρ w0.heap.size) (v:ByteArray) (hv:v ∈ n0 :: s0 :: U):CX ρ b w0 (w.setCell ⟨q,0,none⟩ (.string v)) q n0 s0 n h :=
 let ⟨c,hd,ho,hn,hh⟩:=H
 ⟨_,hd.set0 hr v,⟨hv,ho.su,ho.fs,ho.ms,ho.nf,ho.nm'⟩,hn,hh⟩
theorem CX.set1 {ρ:SRow} {b q n h:Nat} {n0 s0:ByteArray} {w0 w:World} (H:CX ρ b w0 w q n0 s0 n h) (hr:RB ρ w0.heap.size) (v:ByteArray) (hv:v ∈ n0 :: s0 :: U):CX ρ b w0 (w.setCell ⟨q,1,none⟩ (.string v)) q n0 s0 n h :=
 let ⟨c,hd,ho,hn,hh⟩:=H
 ⟨_,hd.set1 hr v,⟨ho.nm,hv,ho.fs,ho.ms,ho.nf,ho.nm'⟩,hn,hh⟩
theorem CX.set2 {ρ:SRow} {b q n h:Nat} {n0 s0:ByteArray} {w0 w:World} (H:CX ρ b w0 w q n0 s0 n h) (hr:RB ρ w0.heap.size) (v:Bool) (hv:True):CX ρ b w0 (w.setCell ⟨q,2,none⟩ (.bool v)) q n0 s0 n h :=
 let ⟨c,hd,ho,hn,hh⟩:=H
 ⟨_,hd.set2 hr v,⟨ho.nm,ho.su,ho.fs,ho.ms,ho.nf,ho.nm'⟩,hn,hh⟩
theorem CX.set3 {ρ:SRow} {b q n h:Nat} {n0 s0:ByteArray} {w0 w:World} (H:CX ρ b w0 w q n0 s0 n h) (hr:RB ρ w0.heap.size) (v:Bool) (hv:True):CX ρ b w0 (w.setCell ⟨q,3,none⟩ (.bool v)) q n0 s0 n h :=
 let ⟨c,hd,ho,hn,hh⟩:=H
 ⟨_,hd.set3 hr v,⟨ho.nm,ho.su,ho.fs,ho.ms,ho.nf,ho.nm'⟩,hn,hh⟩
theorem CX.push4 {ρ:SRow} {b q n h:Nat} {n0 s0:ByteArray} {w0 w w1:World} {c:CT} {vf vm v':Value} (H:CX ρ b w0 w q n0 s0 n h) (hr:RB ρ w0.heap.size) (hc:C6 w q c vf vm) (hw:RwC w (q+1) c vf vm) (ho:okC n0 s0 c) (hn:c.fs.length≤n) (hh:c.ms.length≤h) (hb:n+1≤4) (d:FldT) (hd:d.1 ∈ U∧d.2.1 ∈ U)
  (hown:w1.ownsRow (q+1) 61 3 v' (c.fs.length+1) (c.fs.flatMap cFd ++ cFd d)) (hg:w.grownBy w1 vf.ownBlock) :
  CX ρ b w0 (w1.setCell ⟨q,4,none⟩ v') q n0 s0 (n+1) h:=by
 obtain ⟨c',hd',_⟩:=H
 have D:DC ρ b w0 w q c:=⟨hd'.src,hd'.kpt,⟨vf,vm,hc,hw⟩,hd'.res,hd'.hq⟩
 exact⟨_,D.push4 hr hc hw d hown hg,⟨ho.nm,ho.su,fun x hx=>(List.mem_append.1 hx).elim (ho.fs x) (fun hx=>by have:=List.mem_singleton.1 hx;subst this;exact hd),ho.ms,by simp;omega,ho.nm'⟩,by simp;omega,hh⟩
theorem CX.push5 {ρ:SRow} {b q n h:Nat} {n0 s0:ByteArray} {w0 w w1:World} {c:CT} {vf vm v':Value} (H:CX ρ b w0 w q n0 s0 n h) (hr:RB ρ w0.heap.size) (hc:C6 w q c vf vm) (hw:RwC w (q+1) c vf vm) (ho:okC n0 s0 c) (hn:c.fs.length≤n) (hh:c.ms.length≤h) (hb:h+1≤3) (d:MetT) (hd:okM d.1) (hdr:Rw w (q+1) d.1 d.2.1 d.2.2)
  (hown:w1.ownsRow (q+1) 55 9 v' (c.ms.length+1) (c.ms.flatMap cMt ++ cMt d)) (hg:w.grownBy w1 vm.ownBlock) :
  CX ρ b w0 (w1.setCell ⟨q,5,none⟩ v') q n0 s0 n (h+1):=by
 obtain ⟨c',hd',_⟩:=H
 have D:DC ρ b w0 w q c:=⟨hd'.src,hd'.kpt,⟨vf,vm,hc,hw⟩,hd'.res,hd'.hq⟩
 exact⟨_,D.push5 hr hc hw d hdr hown hg,⟨ho.nm,ho.su,ho.fs,fun x hx=>(List.mem_append.1 hx).elim (ho.ms x) (fun hx=>by have:=List.mem_singleton.1 hx;subst this;exact hd),ho.nf,by simp;omega⟩,hn,by simp;omega⟩
end Go.Proofs.YtmhgaggpdggbeaaGreatDoor
