import Derived.Test.YtmhgaggpdggbeaaGreatDoorDrw
namespace Go.Proofs.YtmhgaggpdggbeaaGreatDoor
open Go.RowKit
set_option maxRecDepth 20000
set_option linter.unusedVariables false
abbrev InsT:=Int × Int × ByteArray × ByteArray × ByteArray
abbrev HanT:=Int × Int × Int × ByteArray
def cI (d:InsT):List Value:=[.int .i64 d.1,.int .i64 d.2.1,.string d.2.2.1,.string d.2.2.2.1,.string d.2.2.2.2]
def cH (d:HanT):List Value:=[.int .i64 d.1,.int .i64 d.2.1,.int .i64 d.2.2.1,.string d.2.2.2]
def okI (d:InsT):Prop:=smI d.1 d.2.1 d.2.2.1 d.2.2.2.1 d.2.2.2.2
def okH (d:HanT):Prop:=fits d.1∧fits d.2.1∧fits d.2.2.1∧d.2.2.2 ∈ U
structure MT where
 nm:ByteArray
 ds:ByteArray
 st:Bool
 ab:Bool
 fi:Bool
 sk:Int
 lo:Int
 cs:List InsT
 hs:List HanT
def MT.zero:MT:=⟨⟨#[]⟩,⟨#[]⟩,false,false,false,0,0,[],[]⟩
structure okM (m:MT):Prop where
 nm:m.nm ∈ U
 ds:m.ds ∈ U
 sk:fits m.sk
 lo:fits m.lo
 cs:∀ d ∈ m.cs,okI d
 hs:∀ d ∈ m.hs,okH d
 nc:m.cs.length≤70
 nh:m.hs.length≤2
structure M9 (w:World) (q:Nat) (m:MT) (vc vh:Value):Prop where
 x0:w.cell? ⟨q,0,none⟩=some (.string m.nm)
 x1:w.cell? ⟨q,1,none⟩=some (.string m.ds)
 x2:w.cell? ⟨q,2,none⟩=some (.bool m.st)
 x3:w.cell? ⟨q,3,none⟩=some (.bool m.ab)
 x4:w.cell? ⟨q,4,none⟩=some (.bool m.fi)
 x5:w.cell? ⟨q,5,none⟩=some (.int .i64 m.sk)
 x6:w.cell? ⟨q,6,none⟩=some (.int .i64 m.lo)
 x7:w.cell? ⟨q,7,none⟩=some vc
 x8:w.cell? ⟨q,8,none⟩=some vh
 fz:∀ j,w.frozen? ⟨q,j,none⟩=false
theorem M9.of_block {w w':World} {q:Nat} {m:MT} {vc vh:Value} (h:M9 w q m vc vh) (hb:w'.heap[q]?=w.heap[q]?):M9 w' q m vc vh :=
 have k:∀ j,w'.cell? ⟨q,j,none⟩=w.cell? ⟨q,j,none⟩:=fun j=>World.cell?_of_block hb
 ⟨(k 0).trans h.x0,(k 1).trans h.x1,(k 2).trans h.x2,(k 3).trans h.x3,(k 4).trans h.x4,(k 5).trans h.x5,(k 6).trans h.x6,(k 7).trans h.x7,(k 8).trans h.x8,fun j=>(World.frozen?_of_block hb).trans (h.fz j)⟩
theorem M9.lt {w:World} {q:Nat} {m:MT} {vc vh:Value} (h:M9 w q m vc vh):q<w.heap.size:=World.block_lt_of_cell? _ ⟨q,0,none⟩ h.x0
theorem M9.set0 {w:World} {q:Nat} {m:MT} {vc vh:Value} (h:M9 w q m vc vh) (v:ByteArray):M9 (w.setCell ⟨q,0,none⟩ (.string v)) q { m with nm:=v } vc vh:=by
 obtain ⟨x0,x1,x2,x3,x4,x5,x6,x7,x8,fz⟩:=h
 exact⟨by simp [go_sem,x0],by simp [go_sem,x1],by simp [go_sem,x2],by simp [go_sem,x3],by simp [go_sem,x4],by simp [go_sem,x5],by simp [go_sem,x6],by simp [go_sem,x7],by simp [go_sem,x8],fun j=>by simp [go_sem,fz]⟩
theorem M9.set1 {w:World} {q:Nat} {m:MT} {vc vh:Value} (h:M9 w q m vc vh) (v:ByteArray):M9 (w.setCell ⟨q,1,none⟩ (.string v)) q { m with ds:=v } vc vh:=by
 obtain ⟨x0,x1,x2,x3,x4,x5,x6,x7,x8,fz⟩:=h
 exact⟨by simp [go_sem,x0],by simp [go_sem,x1],by simp [go_sem,x2],by simp [go_sem,x3],by simp [go_sem,x4],by simp [go_sem,x5],by simp [go_sem,x6],by simp [go_sem,x7],by simp [go_sem,x8],fun j=>by simp [go_sem,fz]⟩
theorem M9.set2 {w:World} {q:Nat} {m:MT} {vc vh:Value} (h:M9 w q m vc vh) (v:Bool):M9 (w.setCell ⟨q,2,none⟩ (.bool v)) q { m with st:=v } vc vh:=by
 obtain ⟨x0,x1,x2,x3,x4,x5,x6,x7,x8,fz⟩:=h
 exact⟨by simp [go_sem,x0],by simp [go_sem,x1],by simp [go_sem,x2],by simp [go_sem,x3],by simp [go_sem,x4],by simp [go_sem,x5],by simp [go_sem,x6],by simp [go_sem,x7],by simp [go_sem,x8],fun j=>by simp [go_sem,fz]⟩
theorem M9.set3 {w:World} {q:Nat} {m:MT} {vc vh:Value} (h:M9 w q m vc vh) (v:Bool):M9 (w.setCell ⟨q,3,none⟩ (.bool v)) q { m with ab:=v } vc vh:=by
 obtain ⟨x0,x1,x2,x3,x4,x5,x6,x7,x8,fz⟩:=h
 exact⟨by simp [go_sem,x0],by simp [go_sem,x1],by simp [go_sem,x2],by simp [go_sem,x3],by simp [go_sem,x4],by simp [go_sem,x5],by simp [go_sem,x6],by simp [go_sem,x7],by simp [go_sem,x8],fun j=>by simp [go_sem,fz]⟩
theorem M9.set4 {w:World} {q:Nat} {m:MT} {vc vh:Value} (h:M9 w q m vc vh) (v:Bool):M9 (w.setCell ⟨q,4,none⟩ (.bool v)) q { m with fi:=v } vc vh:=by
 obtain ⟨x0,x1,x2,x3,x4,x5,x6,x7,x8,fz⟩:=h
 exact⟨by simp [go_sem,x0],by simp [go_sem,x1],by simp [go_sem,x2],by simp [go_sem,x3],by simp [go_sem,x4],by simp [go_sem,x5],by simp [go_sem,x6],by simp [go_sem,x7],by simp [go_sem,x8],fun j=>by simp [go_sem,fz]⟩
theorem M9.set5 {w:World} {q:Nat} {m:MT} {vc vh:Value} (h:M9 w q m vc vh) (v:Int):M9 (w.setCell ⟨q,5,none⟩ (.int .i64 v)) q { m with sk:=v } vc vh:=by
 obtain ⟨x0,x1,x2,x3,x4,x5,x6,x7,x8,fz⟩:=h
 exact⟨by simp [go_sem,x0],by simp [go_sem,x1],by simp [go_sem,x2],by simp [go_sem,x3],by simp [go_sem,x4],by simp [go_sem,x5],by simp [go_sem,x6],by simp [go_sem,x7],by simp [go_sem,x8],fun j=>by simp [go_sem,fz]⟩
theorem M9.set6 {w:World} {q:Nat} {m:MT} {vc vh:Value} (h:M9 w q m vc vh) (v:Int):M9 (w.setCell ⟨q,6,none⟩ (.int .i64 v)) q { m with lo:=v } vc vh:=by
 obtain ⟨x0,x1,x2,x3,x4,x5,x6,x7,x8,fz⟩:=h
 exact⟨by simp [go_sem,x0],by simp [go_sem,x1],by simp [go_sem,x2],by simp [go_sem,x3],by simp [go_sem,x4],by simp [go_sem,x5],by simp [go_sem,x6],by simp [go_sem,x7],by simp [go_sem,x8],fun j=>by simp [go_sem,fz]⟩
theorem M9.set7 {w:World} {q:Nat} {m:MT} {vc vh:Value} (h:M9 w q m vc vh) (v:Value) (L:List InsT):M9 (w.setCell ⟨q,7,none⟩ v) q { m with cs:=L } v vh:=by
 obtain ⟨x0,x1,x2,x3,x4,x5,x6,x7,x8,fz⟩:=h
 exact⟨by simp [go_sem,x0],by simp [go_sem,x1],by simp [go_sem,x2],by simp [go_sem,x3],by simp [go_sem,x4],by simp [go_sem,x5],by simp [go_sem,x6],by simp [go_sem,x7],by simp [go_sem,x8],fun j=>by simp [go_sem,fz]⟩
theorem M9.set8 {w:World} {q:Nat} {m:MT} {vc vh:Value} (h:M9 w q m vc vh) (v:Value) (L:List HanT):M9 (w.setCell ⟨q,8,none⟩ v) q { m with hs:=L } vc v:=by
 obtain ⟨x0,x1,x2,x3,x4,x5,x6,x7,x8,fz⟩:=h
 exact⟨by simp [go_sem,x0],by simp [go_sem,x1],by simp [go_sem,x2],by simp [go_sem,x3],by simp [go_sem,x4],by simp [go_sem,x5],by simp [go_sem,x6],by simp [go_sem,x7],by simp [go_sem,x8],fun j=>by simp [go_sem,fz]⟩
structure Rw (w:World) (B:Nat) (m:MT) (vc vh:Value):Prop where
 c:w.ownsRow B 149 5 vc m.cs.length (m.cs.flatMap cI)
 h:w.ownsRow B 151 4 vh m.hs.length (m.hs.flatMap cH)
theorem own_apart {w:World} {B B' e e' s s' n n':Nat} {v v':Value} {xs xs':List Value} (h:w.ownsRow B e s v n xs) (h':w.ownsRow B' e' s' v' n' xs') (he:e ≠ e'):v.ownBlock=none ∨ v.ownBlock ≠ v'.ownBlock:=by
 rcases h.2 with ⟨rfl,_⟩ | ⟨g,cap,cur,rfl,_,hg,_⟩
 ·exact .inl rfl
 ·refine .inr fun hb=>?_
  rcases h'.2 with ⟨rfl,_⟩ | ⟨g',cap',cur',rfl,_,hg',_⟩
  ·simp [Value.ownBlock] at hb
  ·simp [Value.ownBlock] at hb
   subst hb
   rw [hg] at hg'
   simp at hg'
   exact he hg'.2
theorem Rw.blocks {w w':World} {B:Nat} {m:MT} {vc vh:Value} (h:Rw w B m vc vh) (hb:∀ k,B≤k→k<w.heap.size→w'.heap[k]?=w.heap[k]?):Rw w' B m vc vh:=by
 have go:∀ {e s n:Nat} {v:Value} {xs:List Value},w.ownsRow B e s v n xs→w'.ownsRow B e s v n xs:=fun {e s n v xs} hh=>by
  refine ⟨hh.1,?_⟩
  rcases hh.2 with hn | ⟨g,cap,cur,rfl,hB,hgg,rest⟩
  ·exact .inl hn
  ·exact .inr ⟨g,cap,cur,rfl,hB,(hb g hB (Array.getElem?_eq_some_iff.1 hgg).1).trans hgg,rest⟩
 exact⟨go h.c,go h.h⟩
theorem Src.grown {ρ:SRow} {w w':World} {b B:Nat} {row:Option Nat} (h:Src ρ w b) (hr:RB ρ B) (hg:w.grownBy w' row) (hB:∀ k,row=some k→B≤k) (hb:row ≠ some b):Src ρ w' b:=by
 have hlt:=h.lt
 obtain ⟨at_,mix,size,h⟩:=h
 have hbl:w'.heap[b]?=w.heap[b]?:=hg.block b hlt (fun e=>hb e.symm)
 have hc:∀ o,w'.cell? ⟨b,o,none⟩=w.cell? ⟨b,o,none⟩:=fun o=>World.cell?_of_block hbl
 have hf:∀ o,w'.frozen? ⟨b,o,none⟩=w.frozen? ⟨b,o,none⟩:=fun o=>World.frozen?_of_block hbl
 refine ⟨at_,mix,size,(hc 0).trans h.c0,(hc 1).trans h.c1,(hc 2).trans h.c2,(hc 3).trans h.c3,(hf 1).trans h.f1,(hf 2).trans h.f2,(hf 3).trans h.f3,h.at0,h.len1,h.sz,?_,h.rb⟩
 rcases h.row with hz | ⟨x,hx,h1,h2,h3,h4,h5⟩
 ·exact .inl hz
 ·refine .inr ⟨x,hx,h1,h2,h3,fun i hi=>?_,h5⟩
  have hxb:=hr x hx (by omega)
  have hl:=World.block_lt_of_cell? w _ (h4 i hi)
  rw [add_block] at hl
  refine (World.cell?_of_block ?_).trans (h4 i hi)
  rw [add_block]
  exact hg.block _ hl (fun e=>by have:=hB _ e.symm;omega)
theorem Kpt.grown {b:Nat} {w0 w w':World} {row:Option Nat} (h:Kpt b w0 w) (hg:w.grownBy w' row) (hB:∀ k,row=some k→w0.heap.size≤k):Kpt b w0 w' :=
 ⟨hg.os.trans h.os,hg.tape.trans h.tape,hg.output.trans h.output,Nat.le_trans h.size hg.size,fun k hk hb=>(hg.block k (Nat.lt_of_lt_of_le hk h.size) (fun e=>by have:=hB k e.symm;omega)).trans (h.block k hk hb)⟩
structure DM (ρ:SRow) (b:Nat) (w0 w:World) (q:Nat) (m:MT):Prop where
 src:Src ρ w b
 kpt:Kpt b w0 w
 met:∃ vc vh,M9 w q m vc vh∧Rw w (q+1) m vc vh
 res:M9 w w0.heap.size MT.zero (.slice none 0 0) (.slice none 0 0)
 hq:w0.heap.size<q∧b<w0.heap.size
theorem DM.call {ρ:SRow} {b q:Nat} {w0 w w':World} {m:MT} (h:DM ρ b w0 w q m) (hs:Src ρ w' b) (hk:Kpt b w w'):DM ρ b w0 w' q m:=by
 have hq:=h.hq
 obtain ⟨vc,vh,hi,hr⟩:=h.met
 exact⟨hs,h.kpt.trans hk,⟨vc,vh,hi.of_block (hk.block q hi.lt (by omega)),hr.blocks fun k hB hl=>hk.block k hl (by omega)⟩,h.res.of_block (hk.block _ h.res.lt (by omega)),hq⟩
theorem DM.lit {ρ:SRow} {b q:Nat} {w0 w:World} {m:MT} (h:DM ρ b w0 w q m) (o:Obj):DM ρ b w0 (w.alloc o) q m:=h.call (h.src.keep lit_below) (kpt_alloc b w o)
theorem DM.set0 {ρ:SRow} {b q:Nat} {w0 w:World} {m:MT} (h:DM ρ b w0 w q m) (hr:RB ρ w0.heap.size) (v:ByteArray):DM ρ b w0 (w.setCell ⟨q,0,none⟩ (.string v)) q { m with nm:=v }:=by
 have hq:=h.hq
 obtain ⟨vc,vh,hi,hw⟩:=h.met
 exact⟨h.src.off hr (by omega) (by omega),h.kpt.set (by omega),⟨vc,vh,hi.set0 v,(hw.blocks (fun k hB _=>Below.heap_setCell _ _ _ _ (by show k ≠ q;omega))).c,(hw.blocks (fun k hB _=>Below.heap_setCell _ _ _ _ (by show k ≠ q;omega))).h⟩,h.res.of_block (Below.heap_setCell _ _ _ _ (by show w0.heap.size ≠ q;omega)),hq⟩
theorem DM.set1 {ρ:SRow} {b q:Nat} {w0 w:World} {m:MT} (h:DM ρ b w0 w q m) (hr:RB ρ w0.heap.size) (v:ByteArray):DM ρ b w0 (w.setCell ⟨q,1,none⟩ (.string v)) q { m with ds:=v }:=by
 have hq:=h.hq
 obtain ⟨vc,vh,hi,hw⟩:=h.met
 exact⟨h.src.off hr (by omega) (by omega),h.kpt.set (by omega),⟨vc,vh,hi.set1 v,(hw.blocks (fun k hB _=>Below.heap_setCell _ _ _ _ (by show k ≠ q;omega))).c,(hw.blocks (fun k hB _=>Below.heap_setCell _ _ _ _ (by show k ≠ q;omega))).h⟩,h.res.of_block (Below.heap_setCell _ _ _ _ (by show w0.heap.size ≠ q;omega)),hq⟩
theorem DM.set2 {ρ:SRow} {b q:Nat} {w0 w:World} {m:MT} (h:DM ρ b w0 w q m) (hr:RB ρ w0.heap.size) (v:Bool):DM ρ b w0 (w.setCell ⟨q,2,none⟩ (.bool v)) q { m with st:=v }:=by
 have hq:=h.hq
 obtain ⟨vc,vh,hi,hw⟩:=h.met
 exact⟨h.src.off hr (by omega) (by omega),h.kpt.set (by omega),⟨vc,vh,hi.set2 v,(hw.blocks (fun k hB _=>Below.heap_setCell _ _ _ _ (by show k ≠ q;omega))).c,(hw.blocks (fun k hB _=>Below.heap_setCell _ _ _ _ (by show k ≠ q;omega))).h⟩,h.res.of_block (Below.heap_setCell _ _ _ _ (by show w0.heap.size ≠ q;omega)),hq⟩
theorem DM.set3 {ρ:SRow} {b q:Nat} {w0 w:World} {m:MT} (h:DM ρ b w0 w q m) (hr:RB ρ w0.heap.size) (v:Bool):DM ρ b w0 (w.setCell ⟨q,3,none⟩ (.bool v)) q { m with ab:=v }:=by
 have hq:=h.hq
 obtain ⟨vc,vh,hi,hw⟩:=h.met
 exact⟨h.src.off hr (by omega) (by omega),h.kpt.set (by omega),⟨vc,vh,hi.set3 v,(hw.blocks (fun k hB _=>Below.heap_setCell _ _ _ _ (by show k ≠ q;omega))).c,(hw.blocks (fun k hB _=>Below.heap_setCell _ _ _ _ (by show k ≠ q;omega))).h⟩,h.res.of_block (Below.heap_setCell _ _ _ _ (by show w0.heap.size ≠ q;omega)),hq⟩
theorem DM.set4 {ρ:SRow} {b q:Nat} {w0 w:World} {m:MT} (h:DM ρ b w0 w q m) (hr:RB ρ w0.heap.size) (v:Bool):DM ρ b w0 (w.setCell ⟨q,4,none⟩ (.bool v)) q { m with fi:=v }:=by
 have hq:=h.hq
 obtain ⟨vc,vh,hi,hw⟩:=h.met
 exact⟨h.src.off hr (by omega) (by omega),h.kpt.set (by omega),⟨vc,vh,hi.set4 v,(hw.blocks (fun k hB _=>Below.heap_setCell _ _ _ _ (by show k ≠ q;omega))).c,(hw.blocks (fun k hB _=>Below.heap_setCell _ _ _ _ (by show k ≠ q;omega))).h⟩,h.res.of_block (Below.heap_setCell _ _ _ _ (by show w0.heap.size ≠ q;omega)),hq⟩
theorem DM.set5 {ρ:SRow} {b q:Nat} {w0 w:World} {m:MT} (h:DM ρ b w0 w q m) (hr:RB ρ w0.heap.size) (v:Int):DM ρ b w0 (w.setCell ⟨q,5,none⟩ (.int .i64 v)) q { m with sk:=v }:=by
 have hq:=h.hq
 obtain ⟨vc,vh,hi,hw⟩:=h.met
 exact⟨h.src.off hr (by omega) (by omega),h.kpt.set (by omega),⟨vc,vh,hi.set5 v,(hw.blocks (fun k hB _=>Below.heap_setCell _ _ _ _ (by show k ≠ q;omega))).c,(hw.blocks (fun k hB _=>Below.heap_setCell _ _ _ _ (by show k ≠ q;omega))).h⟩,h.res.of_block (Below.heap_setCell _ _ _ _ (by show w0.heap.size ≠ q;omega)),hq⟩
theorem DM.set6 {ρ:SRow} {b q:Nat} {w0 w:World} {m:MT} (h:DM ρ b w0 w q m) (hr:RB ρ w0.heap.size) (v:Int):DM ρ b w0 (w.setCell ⟨q,6,none⟩ (.int .i64 v)) q { m with lo:=v }:=by
 have hq:=h.hq
 obtain ⟨vc,vh,hi,hw⟩:=h.met
 exact⟨h.src.off hr (by omega) (by omega),h.kpt.set (by omega),⟨vc,vh,hi.set6 v,(hw.blocks (fun k hB _=>Below.heap_setCell _ _ _ _ (by show k ≠ q;omega))).c,(hw.blocks (fun k hB _=>Below.heap_setCell _ _ _ _ (by show k ≠ q;omega))).h⟩,h.res.of_block (Below.heap_setCell _ _ _ _ (by show w0.heap.size ≠ q;omega)),hq⟩
theorem DM.push7 {ρ:SRow} {b q:Nat} {w0 w w1:World} {m:MT} {vc vh v':Value} (h:DM ρ b w0 w q m) (hr:RB ρ w0.heap.size) (hm:M9 w q m vc vh) (hw:Rw w (q+1) m vc vh) (d:InsT)
  (hown:w1.ownsRow (q+1) 149 5 v' (m.cs.length+1) (m.cs.flatMap cI ++ cI d)) (hg:w.grownBy w1 vc.ownBlock) :
  DM ρ b w0 (w1.setCell ⟨q,7,none⟩ v') q { m with cs:=m.cs ++ [d] }:=by
 have hq:=h.hq
 have hB:∀ k,vc.ownBlock=some k→q+1≤k:=fun k e=>(hw.c.lt k e).1
 have hne:∀ k,k≤q→some k ≠ vc.ownBlock:=fun k hk e=>by have:=hB k e.symm;omega
 have hm1:M9 w1 q m vc vh:=hm.of_block (hg.block q hm.lt (hne q (Nat.le_refl _)))
 have ho:=hw.h.kept hg (own_apart hw.h hw.c (by decide))
 have hs1:Src ρ w1 b:=h.src.grown hr hg (fun k e=>by have:=hB k e;omega) (fun e=>by have:=hB b e;omega)
 have hk1:Kpt b w0 w1:=h.kpt.grown hg (fun k e=>by have:=hB k e;omega)
 have hres:=h.res.of_block (hg.block _ h.res.lt (hne _ (by omega)))
 have hw2:Rw w1 (q+1) { m with cs:=m.cs ++ [d] } v' vh:=⟨by simpa using hown,ho⟩
 exact⟨hs1.off hr (by omega) (by omega),hk1.set (by omega),⟨_,_,hm1.set7 v' _,hw2.blocks (fun k hB _=>Below.heap_setCell _ _ _ _ (by show k ≠ q;omega))⟩,hres.of_block (Below.heap_setCell _ _ _ _ (by show w0.heap.size ≠ q;omega)),hq⟩
theorem DM.push8 {ρ:SRow} {b q:Nat} {w0 w w1:World} {m:MT} {vc vh v':Value} (h:DM ρ b w0 w q m) (hr:RB ρ w0.heap.size) (hm:M9 w q m vc vh) (hw:Rw w (q+1) m vc vh) (d:HanT)
  (hown:w1.ownsRow (q+1) 151 4 v' (m.hs.length+1) (m.hs.flatMap cH ++ cH d)) (hg:w.grownBy w1 vh.ownBlock) :
  DM ρ b w0 (w1.setCell ⟨q,8,none⟩ v') q { m with hs:=m.hs ++ [d] }:=by
 have hq:=h.hq
 have hB:∀ k,vh.ownBlock=some k→q+1≤k:=fun k e=>(hw.h.lt k e).1
 have hne:∀ k,k≤q→some k ≠ vh.ownBlock:=fun k hk e=>by have:=hB k e.symm;omega
 have hm1:M9 w1 q m vc vh:=hm.of_block (hg.block q hm.lt (hne q (Nat.le_refl _)))
 have ho:=hw.c.kept hg (own_apart hw.c hw.h (by decide))
 have hs1:Src ρ w1 b:=h.src.grown hr hg (fun k e=>by have:=hB k e;omega) (fun e=>by have:=hB b e;omega)
 have hk1:Kpt b w0 w1:=h.kpt.grown hg (fun k e=>by have:=hB k e;omega)
 have hres:=h.res.of_block (hg.block _ h.res.lt (hne _ (by omega)))
 have hw2:Rw w1 (q+1) { m with hs:=m.hs ++ [d] } vc v':=⟨ho,by simpa using hown⟩
 exact⟨hs1.off hr (by omega) (by omega),hk1.set (by omega),⟨_,_,hm1.set8 v' _,hw2.blocks (fun k hB _=>Below.heap_setCell _ _ _ _ (by show k ≠ q;omega))⟩,hres.of_block (Below.heap_setCell _ _ _ _ (by show w0.heap.size ≠ q;omega)),hq⟩
structure D0 (ρ:SRow) (b:Nat) (w0 w:World):Prop where
 src:Src ρ w b
 kpt:Kpt b w0 w
 res:M9 w w0.heap.size MT.zero (.slice none 0 0) (.slice none 0 0)
 hq:w0.heap.size<w.heap.size∧b<w0.heap.size
theorem D0.call {ρ:SRow} {b:Nat} {w0 w w':World} (h:D0 ρ b w0 w) (hs:Src ρ w' b) (hk:Kpt b w w'):D0 ρ b w0 w' :=
 ⟨hs,h.kpt.trans hk,h.res.of_block (hk.block _ h.res.lt (by have:=h.hq;omega)),by have:=h.hq;have:=hk.size;omega⟩
theorem D0.lit {ρ:SRow} {b:Nat} {w0 w:World} (h:D0 ρ b w0 w) (o:Obj):D0 ρ b w0 (w.alloc o):=h.call (h.src.keep lit_below) (kpt_alloc b w o)
def mObj (nm ds:ByteArray) (st ab fi:Bool) (sk lo:Int):Obj:=.cells #[.string nm,.string ds,.bool st,.bool ab,.bool fi,.int .i64 sk,.int .i64 lo,.slice none 0 0,.slice none 0 0] 55
theorem M9.made (w:World) (nm ds:ByteArray) (st ab fi:Bool) (sk lo:Int):M9 (w.alloc (mObj nm ds st ab fi sk lo)) w.heap.size ⟨nm,ds,st,ab,fi,sk,lo,[],[]⟩ (.slice none 0 0) (.slice none 0 0):=by
 unfold mObj
 exact⟨by simp [go_sem],by simp [go_sem],by simp [go_sem],by simp [go_sem],by simp [go_sem],by simp [go_sem],by simp [go_sem],by simp [go_sem],by simp [go_sem],fun j=>by simp [go_sem]⟩
theorem D0.start {ρ:SRow} {b:Nat} {w:World} (h:Src ρ w b):D0 ρ b w (w.alloc (mObj ⟨#[]⟩ ⟨#[]⟩ false false false 0 0)) :=
 ⟨h.keep lit_below,kpt_alloc b w _,M9.made w _ _ _ _ _ _ _,by have:=h.lt;simp;omega⟩
theorem D0.make {ρ:SRow} {b:Nat} {w0 w:World} (h:D0 ρ b w0 w) (nm ds:ByteArray) (st ab fi:Bool) (sk lo:Int):DM ρ b w0 (w.alloc (mObj nm ds st ab fi sk lo)) w.heap.size ⟨nm,ds,st,ab,fi,sk,lo,[],[]⟩ :=
 have h2:=h.lit (mObj nm ds st ab fi sk lo)
 ⟨h2.src,h2.kpt,⟨_,_,M9.made w _ _ _ _ _ _ _,World.ownsRow_nil _ _ _ _,World.ownsRow_nil _ _ _ _⟩,h2.res,h.hq.1,h.hq.2⟩
def DX (ρ:SRow) (b:Nat) (w0 w:World) (q n h:Nat):Prop:=∃ m,DM ρ b w0 w q m∧okM m∧m.cs.length≤n∧m.hs.length≤h
theorem DX.call {ρ:SRow} {b q n h:Nat} {w0 w w':World} (H:DX ρ b w0 w q n h) (hs:Src ρ w' b) (hk:Kpt b w w'):DX ρ b w0 w' q n h :=
 let ⟨m,hd,ho,hn,hh⟩:=H
 ⟨m,hd.call hs hk,ho,hn,hh⟩
theorem DX.lit {ρ:SRow} {b q n h:Nat} {w0 w:World} (H:DX ρ b w0 w q n h) (o:Obj):DX ρ b w0 (w.alloc o) q n h :=
 let ⟨m,hd,ho,hn,hh⟩:=H
 ⟨m,hd.lit o,ho,hn,hh⟩
theorem DX.mono {ρ:SRow} {b q n h n' h':Nat} {w0 w:World} (H:DX ρ b w0 w q n h) (hn':n≤n') (hh':h≤h'):DX ρ b w0 w q n' h' :=
 let ⟨m,hd,ho,hn,hh⟩:=H
 ⟨m,hd,ho,Nat.le_trans hn hn',Nat.le_trans hh hh'⟩
theorem DX.src {ρ:SRow} {b q n h:Nat} {w0 w:World} (H:DX ρ b w0 w q n h):Src ρ w b:=let ⟨m,hd,_⟩:=H;hd.src
theorem DX.kpt {ρ:SRow} {b q n h:Nat} {w0 w:World} (H:DX ρ b w0 w q n h):Kpt b w0 w:=let ⟨m,hd,_⟩:=H;hd.kpt
theorem DX.hq {ρ:SRow} {b q n h:Nat} {w0 w:World} (H:DX ρ b w0 w q n h):w0.heap.size<q∧b<w0.heap.size:=let ⟨m,hd,_⟩:=H;hd.hq
theorem DX.lt {ρ:SRow} {b q n h:Nat} {w0 w:World} (H:DX ρ b w0 w q n h):q<w.heap.size:=let ⟨m,hd,_⟩:=H;let ⟨_,_,hi,_⟩:=hd.met;hi.lt
theorem DX.opn {ρ:SRow} {b q n h:Nat} {w0 w:World} (H:DX ρ b w0 w q n h):∃ m vc vh,M9 w q m vc vh∧Rw w (q+1) m vc vh∧okM m∧m.cs.length≤n∧m.hs.length≤h :=
 let ⟨m,hd,ho,hn,hh⟩:=H
 let ⟨vc,vh,hi,hr⟩:=hd.met
 ⟨m,vc,vh,hi,hr,ho,hn,hh⟩
theorem DX.set0 {ρ:SRow} {b q n h:Nat} {w0 w:World} (H:DX ρ b w0 w q n h) (hr:RB ρ w0.heap.size) (v:ByteArray) (hv:v ∈ U):DX ρ b w0 (w.setCell ⟨q,0,none⟩ (.string v)) q n h :=
 let ⟨m,hd,ho,hn,hh⟩:=H
 ⟨_,hd.set0 hr v,⟨hv,ho.ds,ho.sk,ho.lo,ho.cs,ho.hs,ho.nc,ho.nh⟩,hn,hh⟩
theorem DX.set1 {ρ:SRow} {b q n h:Nat} {w0 w:World} (H:DX ρ b w0 w q n h) (hr:RB ρ w0.heap.size) (v:ByteArray) (hv:v ∈ U):DX ρ b w0 (w.setCell ⟨q,1,none⟩ (.string v)) q n h :=
 let ⟨m,hd,ho,hn,hh⟩:=H
 ⟨_,hd.set1 hr v,⟨ho.nm,hv,ho.sk,ho.lo,ho.cs,ho.hs,ho.nc,ho.nh⟩,hn,hh⟩
theorem DX.set2 {ρ:SRow} {b q n h:Nat} {w0 w:World} (H:DX ρ b w0 w q n h) (hr:RB ρ w0.heap.size) (v:Bool) (hv:True):DX ρ b w0 (w.setCell ⟨q,2,none⟩ (.bool v)) q n h :=
 let ⟨m,hd,ho,hn,hh⟩:=H
 ⟨_,hd.set2 hr v,⟨ho.nm,ho.ds,ho.sk,ho.lo,ho.cs,ho.hs,ho.nc,ho.nh⟩,hn,hh⟩
theorem DX.set3 {ρ:SRow} {b q n h:Nat} {w0 w:World} (H:DX ρ b w0 w q n h) (hr:RB ρ w0.heap.size) (v:Bool) (hv:True):DX ρ b w0 (w.setCell ⟨q,3,none⟩ (.bool v)) q n h :=
 let ⟨m,hd,ho,hn,hh⟩:=H
 ⟨_,hd.set3 hr v,⟨ho.nm,ho.ds,ho.sk,ho.lo,ho.cs,ho.hs,ho.nc,ho.nh⟩,hn,hh⟩
theorem DX.set4 {ρ:SRow} {b q n h:Nat} {w0 w:World} (H:DX ρ b w0 w q n h) (hr:RB ρ w0.heap.size) (v:Bool) (hv:True):DX ρ b w0 (w.setCell ⟨q,4,none⟩ (.bool v)) q n h :=
 let ⟨m,hd,ho,hn,hh⟩:=H
 ⟨_,hd.set4 hr v,⟨ho.nm,ho.ds,ho.sk,ho.lo,ho.cs,ho.hs,ho.nc,ho.nh⟩,hn,hh⟩
theorem DX.set5 {ρ:SRow} {b q n h:Nat} {w0 w:World} (H:DX ρ b w0 w q n h) (hr:RB ρ w0.heap.size) (v:Int) (hv:fits v):DX ρ b w0 (w.setCell ⟨q,5,none⟩ (.int .i64 v)) q n h :=
 let ⟨m,hd,ho,hn,hh⟩:=H
 ⟨_,hd.set5 hr v,⟨ho.nm,ho.ds,hv,ho.lo,ho.cs,ho.hs,ho.nc,ho.nh⟩,hn,hh⟩
theorem DX.set6 {ρ:SRow} {b q n h:Nat} {w0 w:World} (H:DX ρ b w0 w q n h) (hr:RB ρ w0.heap.size) (v:Int) (hv:fits v):DX ρ b w0 (w.setCell ⟨q,6,none⟩ (.int .i64 v)) q n h :=
 let ⟨m,hd,ho,hn,hh⟩:=H
 ⟨_,hd.set6 hr v,⟨ho.nm,ho.ds,ho.sk,hv,ho.cs,ho.hs,ho.nc,ho.nh⟩,hn,hh⟩
theorem own_low {w:World} {B B' e s n:Nat} {v:Value} {xs:List Value} (h:w.ownsRow B e s v n xs) (hB:B'≤B):w.ownsRow B' e s v n xs:=by
 refine ⟨h.1,?_⟩
 rcases h.2 with hn | ⟨g,cap,cur,rfl,hb,rest⟩
 ·exact .inl hn
 ·exact .inr ⟨g,cap,cur,rfl,Nat.le_trans hB hb,rest⟩
theorem Rw.low {w:World} {B B':Nat} {m:MT} {vc vh:Value} (h:Rw w B m vc vh) (hB:B'≤B):Rw w B' m vc vh:=⟨own_low h.c hB,own_low h.h hB⟩
theorem DX.nil7 {ρ:SRow} {b q n h:Nat} {w0 w:World} (H:DX ρ b w0 w q n h) (hr:RB ρ w0.heap.size):DX ρ b w0 (w.setCell ⟨q,7,none⟩ (.slice none 0 0)) q n h:=by
 obtain ⟨m,hd,ho,hn,hh⟩:=H
 obtain ⟨vc,vh,hi,hw⟩:=hd.met
 have hq:=hd.hq
 have hw1:=hw.blocks (w':=w.setCell ⟨q,7,none⟩ (.slice none 0 0)) fun k hB _=>Below.heap_setCell _ _ _ _ (by show k ≠ q;omega)
 exact⟨{ m with cs:=[] },⟨hd.src.off hr (by omega) (by omega),hd.kpt.set (by omega),⟨(.slice none 0 0),vh,hi.set7 _ [],⟨World.ownsRow_nil _ _ _ _,hw1.h⟩⟩,hd.res.of_block (Below.heap_setCell _ _ _ _ (by show w0.heap.size ≠ q;omega)),hq⟩,⟨ho.nm,ho.ds,ho.sk,ho.lo,by simp,ho.hs,by simp,ho.nh⟩,by simp,hh⟩
theorem DX.nil8 {ρ:SRow} {b q n h:Nat} {w0 w:World} (H:DX ρ b w0 w q n h) (hr:RB ρ w0.heap.size):DX ρ b w0 (w.setCell ⟨q,8,none⟩ (.slice none 0 0)) q n h:=by
 obtain ⟨m,hd,ho,hn,hh⟩:=H
 obtain ⟨vc,vh,hi,hw⟩:=hd.met
 have hq:=hd.hq
 have hw1:=hw.blocks (w':=w.setCell ⟨q,8,none⟩ (.slice none 0 0)) fun k hB _=>Below.heap_setCell _ _ _ _ (by show k ≠ q;omega)
 exact⟨{ m with hs:=[] },⟨hd.src.off hr (by omega) (by omega),hd.kpt.set (by omega),⟨vc,(.slice none 0 0),hi.set8 _ [],⟨hw1.c,World.ownsRow_nil _ _ _ _⟩⟩,hd.res.of_block (Below.heap_setCell _ _ _ _ (by show w0.heap.size ≠ q;omega)),hq⟩,⟨ho.nm,ho.ds,ho.sk,ho.lo,ho.cs,by simp,ho.nc,by simp⟩,hn,by simp⟩
theorem DX.push7 {ρ:SRow} {b q n h:Nat} {w0 w w1:World} {m:MT} {vc vh v':Value} (H:DX ρ b w0 w q n h) (hr:RB ρ w0.heap.size) (hm:M9 w q m vc vh) (hw:Rw w (q+1) m vc vh) (ho:okM m) (hn:m.cs.length≤n) (hh:m.hs.length≤h) (hc:n+1≤70) (d:InsT) (hd:okI d)
  (hown:w1.ownsRow (q+1) 149 5 v' (m.cs.length+1) (m.cs.flatMap cI ++ cI d)) (hg:w.grownBy w1 vc.ownBlock) :
  DX ρ b w0 (w1.setCell ⟨q,7,none⟩ v') q (n+1) h:=by
 obtain ⟨m',hd',_⟩:=H
 have D:DM ρ b w0 w q m:=⟨hd'.src,hd'.kpt,⟨vc,vh,hm,hw⟩,hd'.res,hd'.hq⟩
 exact⟨_,D.push7 hr hm hw d hown hg,⟨ho.nm,ho.ds,ho.sk,ho.lo,fun x hx=>(List.mem_append.1 hx).elim (ho.cs x) (fun hx=>by have:=List.mem_singleton.1 hx;subst this;exact hd),ho.hs,by simp;omega,ho.nh⟩,by simp;omega,hh⟩
theorem DX.push8 {ρ:SRow} {b q n h:Nat} {w0 w w1:World} {m:MT} {vc vh v':Value} (H:DX ρ b w0 w q n h) (hr:RB ρ w0.heap.size) (hm:M9 w q m vc vh) (hw:Rw w (q+1) m vc vh) (ho:okM m) (hn:m.cs.length≤n) (hh:m.hs.length≤h) (hc:h+1≤2) (d:HanT) (hd:okH d)
  (hown:w1.ownsRow (q+1) 151 4 v' (m.hs.length+1) (m.hs.flatMap cH ++ cH d)) (hg:w.grownBy w1 vh.ownBlock) :
  DX ρ b w0 (w1.setCell ⟨q,8,none⟩ v') q n (h+1):=by
 obtain ⟨m',hd',_⟩:=H
 have D:DM ρ b w0 w q m:=⟨hd'.src,hd'.kpt,⟨vc,vh,hm,hw⟩,hd'.res,hd'.hq⟩
 exact⟨_,D.push8 hr hm hw d hown hg,⟨ho.nm,ho.ds,ho.sk,ho.lo,ho.cs,fun x hx=>(List.mem_append.1 hx).elim (ho.hs x) (fun hx=>by have:=List.mem_singleton.1 hx;subst this;exact hd),ho.nc,by simp;omega⟩,hn,by simp;omega⟩
end Go.Proofs.YtmhgaggpdggbeaaGreatDoor
