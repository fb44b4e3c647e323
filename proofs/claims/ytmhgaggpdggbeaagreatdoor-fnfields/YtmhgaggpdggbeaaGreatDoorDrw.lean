import Derived.Test.YtmhgaggpdggbeaaGreatDoorWord
import Derived.Test.YtmhgaggpdggbeaaGreatDoorOpF
import Derived.Deep.CutBlock
namespace Go.Proofs.YtmhgaggpdggbeaaGreatDoor
open Go.RowKit
set_option maxRecDepth 20000
set_option linter.unusedVariables false
def U:List ByteArray:=wordsA ++ (wordsB ++ ([⟨#[73]⟩,⟨#[73]⟩,⟨#[76,65,59]⟩,⟨#[76,66,59]⟩,⟨#[76,79,98,106,101,99,116,59]⟩,⟨#[91,73]⟩,⟨#[91,76,65,59]⟩] ++ ([⟨#[]⟩,⟨#[86]⟩,⟨#[76,59]⟩,⟨#[76,65]⟩,⟨#[91,91,73]⟩,⟨#[73,59]⟩,⟨#[76,49,59]⟩,⟨#[76,97,98,99,100,101,102,103,104,105,106,107,108,109,110,111,112,113,114,115,116,59]⟩,⟨#[76,97,98,99,100,101,102,103,104,105,106,107,108,109,110,111,112,113,114,115,116,117,59]⟩] ++ ([⟨#[65]⟩,⟨#[66]⟩,⟨#[79,98,106,101,99,116]⟩] ++ ([⟨#[73]⟩,⟨#[76,65,59]⟩] ++ ([⟨#[65]⟩] ++ ([⟨#[120]⟩,⟨#[121]⟩] ++ ([⟨#[73]⟩] ++ ([⟨#[102]⟩,⟨#[60,105,110,105,116,62]⟩] ++ ([⟨#[40,41,86]⟩,⟨#[40,73,41,73]⟩] ++ ([⟨#[]⟩] ++ ([⟨#[102]⟩,⟨#[103]⟩,⟨#[109,97,105,110]⟩,⟨#[60,105,110,105,116,62]⟩] ++ ([⟨#[40,41,86]⟩,⟨#[40,73,41,73]⟩,⟨#[40,73,76,65,59,41,76,65,59]⟩] ++ ([⟨#[40,41,86]⟩,⟨#[40,73,41,86]⟩] ++ ([⟨#[69,114,114,111,114]⟩] ++ ([⟨#[120]⟩,⟨#[121]⟩,⟨#[122]⟩] ++ ([⟨#[73]⟩,⟨#[76,65,59]⟩,⟨#[91,73]⟩] ++ ([⟨#[120]⟩]))))))))))))))))))
theorem words_U {t:ByteArray} (h:t ∈ wordsA ∨ t ∈ wordsB):t ∈ U:=h.elim (fun h=>List.mem_append.2 (.inl h)) (fun h=>List.mem_append.2 (.inr (List.mem_append.2 (.inl h))))
theorem mU0 {t:ByteArray} (h:t ∈ ([⟨#[73]⟩,⟨#[73]⟩,⟨#[76,65,59]⟩,⟨#[76,66,59]⟩,⟨#[76,79,98,106,101,99,116,59]⟩,⟨#[91,73]⟩,⟨#[91,76,65,59]⟩]:List ByteArray)):t ∈ U:=List.mem_append.2 (.inr (List.mem_append.2 (.inr (List.mem_append.2 (.inl h)))))
theorem mU1 {t:ByteArray} (h:t ∈ ([⟨#[]⟩,⟨#[86]⟩,⟨#[76,59]⟩,⟨#[76,65]⟩,⟨#[91,91,73]⟩,⟨#[73,59]⟩,⟨#[76,49,59]⟩,⟨#[76,97,98,99,100,101,102,103,104,105,106,107,108,109,110,111,112,113,114,115,116,59]⟩,⟨#[76,97,98,99,100,101,102,103,104,105,106,107,108,109,110,111,112,113,114,115,116,117,59]⟩]:List ByteArray)):t ∈ U:=List.mem_append.2 (.inr (List.mem_append.2 (.inr (List.mem_append.2 (.inr (List.mem_append.2 (.inl h)))))))
theorem mU2 {t:ByteArray} (h:t ∈ ([⟨#[65]⟩,⟨#[66]⟩,⟨#[79,98,106,101,99,116]⟩]:List ByteArray)):t ∈ U:=List.mem_append.2 (.inr (List.mem_append.2 (.inr (List.mem_append.2 (.inr (List.mem_append.2 (.inr (List.mem_append.2 (.inl h)))))))))
theorem mU3 {t:ByteArray} (h:t ∈ ([⟨#[73]⟩,⟨#[76,65,59]⟩]:List ByteArray)):t ∈ U:=List.mem_append.2 (.inr (List.mem_append.2 (.inr (List.mem_append.2 (.inr (List.mem_append.2 (.inr (List.mem_append.2 (.inr (List.mem_append.2 (.inl h)))))))))))
theorem mU4 {t:ByteArray} (h:t ∈ ([⟨#[65]⟩]:List ByteArray)):t ∈ U:=List.mem_append.2 (.inr (List.mem_append.2 (.inr (List.mem_append.2 (.inr (List.mem_append.2 (.inr (List.mem_append.2 (.inr (List.mem_append.2 (.inr (List.mem_append.2 (.inl h)))))))))))))
theorem mU5 {t:ByteArray} (h:t ∈ ([⟨#[120]⟩,⟨#[121]⟩]:List ByteArray)):t ∈ U:=List.mem_append.2 (.inr (List.mem_append.2 (.inr (List.mem_append.2 (.inr (List.mem_append.2 (.inr (List.mem_append.2 (.inr (List.mem_append.2 (.inr (List.mem_append.2 (.inr (List.mem_append.2 (.inl h)))))))))))))))
theorem mU6 {t:ByteArray} (h:t ∈ ([⟨#[73]⟩]:List ByteArray)):t ∈ U:=List.mem_append.2 (.inr (List.mem_append.2 (.inr (List.mem_append.2 (.inr (List.mem_append.2 (.inr (List.mem_append.2 (.inr (List.mem_append.2 (.inr (List.mem_append.2 (.inr (List.mem_append.2 (.inr (List.mem_append.2 (.inl h)))))))))))))))))
theorem mU7 {t:ByteArray} (h:t ∈ ([⟨#[102]⟩,⟨#[60,105,110,105,116,62]⟩]:List ByteArray)):t ∈ U:=List.mem_append.2 (.inr (List.mem_append.2 (.inr (List.mem_append.2 (.inr (List.mem_append.2 (.inr (List.mem_append.2 (.inr (List.mem_append.2 (.inr (List.mem_append.2 (.inr (List.mem_append.2 (.inr (List.mem_append.2 (.inr (List.mem_append.2 (.inl h)))))))))))))))))))
theorem mU8 {t:ByteArray} (h:t ∈ ([⟨#[40,41,86]⟩,⟨#[40,73,41,73]⟩]:List ByteArray)):t ∈ U:=List.mem_append.2 (.inr (List.mem_append.2 (.inr (List.mem_append.2 (.inr (List.mem_append.2 (.inr (List.mem_append.2 (.inr (List.mem_append.2 (.inr (List.mem_append.2 (.inr (List.mem_append.2 (.inr (List.mem_append.2 (.inr (List.mem_append.2 (.inr (List.mem_append.2 (.inl h)))))))))))))))))))))
theorem mU9 {t:ByteArray} (h:t ∈ ([⟨#[]⟩]:List ByteArray)):t ∈ U:=List.mem_append.2 (.inr (List.mem_append.2 (.inr (List.mem_append.2 (.inr (List.mem_append.2 (.inr (List.mem_append.2 (.inr (List.mem_append.2 (.inr (List.mem_append.2 (.inr (List.mem_append.2 (.inr (List.mem_append.2 (.inr (List.mem_append.2 (.inr (List.mem_append.2 (.inr (List.mem_append.2 (.inl h)))))))))))))))))))))))
theorem mU10 {t:ByteArray} (h:t ∈ ([⟨#[102]⟩,⟨#[103]⟩,⟨#[109,97,105,110]⟩,⟨#[60,105,110,105,116,62]⟩]:List ByteArray)):t ∈ U:=List.mem_append.2 (.inr (List.mem_append.2 (.inr (List.mem_append.2 (.inr (List.mem_append.2 (.inr (List.mem_append.2 (.inr (List.mem_append.2 (.inr (List.mem_append.2 (.inr (List.mem_append.2 (.inr (List.mem_append.2 (.inr (List.mem_append.2 (.inr (List.mem_append.2 (.inr (List.mem_append.2 (.inr (List.mem_append.2 (.inl h)))))))))))))))))))))))))
theorem mU11 {t:ByteArray} (h:t ∈ ([⟨#[40,41,86]⟩,⟨#[40,73,41,73]⟩,⟨#[40,73,76,65,59,41,76,65,59]⟩]:List ByteArray)):t ∈ U:=List.mem_append.2 (.inr (List.mem_append.2 (.inr (List.mem_append.2 (.inr (List.mem_append.2 (.inr (List.mem_append.2 (.inr (List.mem_append.2 (.inr (List.mem_append.2 (.inr (List.mem_append.2 (.inr (List.mem_append.2 (.inr (List.mem_append.2 (.inr (List.mem_append.2 (.inr (List.mem_append.2 (.inr (List.mem_append.2 (.inr (List.mem_append.2 (.inl h)))))))))))))))))))))))))))
theorem mU12 {t:ByteArray} (h:t ∈ ([⟨#[40,41,86]⟩,⟨#[40,73,41,86]⟩]:List ByteArray)):t ∈ U:=List.mem_append.2 (.inr (List.mem_append.2 (.inr (List.mem_append.2 (.inr (List.mem_append.2 (.inr (List.mem_append.2 (.inr (List.mem_append.2 (.inr (List.mem_append.2 (.inr (List.mem_append.2 (.inr (List.mem_append.2 (.inr (List.mem_append.2 (.inr (List.mem_append.2 (.inr (List.mem_append.2 (.inr (List.mem_append.2 (.inr (List.mem_append.2 (.inr (List.mem_append.2 (.inl h)))))))))))))))))))))))))))))
theorem mU13 {t:ByteArray} (h:t ∈ ([⟨#[69,114,114,111,114]⟩]:List ByteArray)):t ∈ U:=List.mem_append.2 (.inr (List.mem_append.2 (.inr (List.mem_append.2 (.inr (List.mem_append.2 (.inr (List.mem_append.2 (.inr (List.mem_append.2 (.inr (List.mem_append.2 (.inr (List.mem_append.2 (.inr (List.mem_append.2 (.inr (List.mem_append.2 (.inr (List.mem_append.2 (.inr (List.mem_append.2 (.inr (List.mem_append.2 (.inr (List.mem_append.2 (.inr (List.mem_append.2 (.inr (List.mem_append.2 (.inl h)))))))))))))))))))))))))))))))
theorem mU14 {t:ByteArray} (h:t ∈ ([⟨#[120]⟩,⟨#[121]⟩,⟨#[122]⟩]:List ByteArray)):t ∈ U:=List.mem_append.2 (.inr (List.mem_append.2 (.inr (List.mem_append.2 (.inr (List.mem_append.2 (.inr (List.mem_append.2 (.inr (List.mem_append.2 (.inr (List.mem_append.2 (.inr (List.mem_append.2 (.inr (List.mem_append.2 (.inr (List.mem_append.2 (.inr (List.mem_append.2 (.inr (List.mem_append.2 (.inr (List.mem_append.2 (.inr (List.mem_append.2 (.inr (List.mem_append.2 (.inr (List.mem_append.2 (.inr (List.mem_append.2 (.inl h)))))))))))))))))))))))))))))))))
theorem mU15 {t:ByteArray} (h:t ∈ ([⟨#[73]⟩,⟨#[76,65,59]⟩,⟨#[91,73]⟩]:List ByteArray)):t ∈ U:=List.mem_append.2 (.inr (List.mem_append.2 (.inr (List.mem_append.2 (.inr (List.mem_append.2 (.inr (List.mem_append.2 (.inr (List.mem_append.2 (.inr (List.mem_append.2 (.inr (List.mem_append.2 (.inr (List.mem_append.2 (.inr (List.mem_append.2 (.inr (List.mem_append.2 (.inr (List.mem_append.2 (.inr (List.mem_append.2 (.inr (List.mem_append.2 (.inr (List.mem_append.2 (.inr (List.mem_append.2 (.inr (List.mem_append.2 (.inr (List.mem_append.2 (.inl h)))))))))))))))))))))))))))))))))))
theorem mU16 {t:ByteArray} (h:t ∈ ([⟨#[120]⟩]:List ByteArray)):t ∈ U:=List.mem_append.2 (.inr (List.mem_append.2 (.inr (List.mem_append.2 (.inr (List.mem_append.2 (.inr (List.mem_append.2 (.inr (List.mem_append.2 (.inr (List.mem_append.2 (.inr (List.mem_append.2 (.inr (List.mem_append.2 (.inr (List.mem_append.2 (.inr (List.mem_append.2 (.inr (List.mem_append.2 (.inr (List.mem_append.2 (.inr (List.mem_append.2 (.inr (List.mem_append.2 (.inr (List.mem_append.2 (.inr (List.mem_append.2 (.inr (List.mem_append.2 (.inr (h))))))))))))))))))))))))))))))))))))
theorem U_small:∀ t ∈ U,t.size≤100:=by decide
def RB (ρ:SRow) (B:Nat):Prop:=∀ x,ρ.a=some x→0<ρ.zs.length→x.block<B
theorem RB.mono {ρ:SRow} {B B':Nat} (h:RB ρ B) (hb:B≤B'):RB ρ B':=fun x e hz=>Nat.lt_of_lt_of_le (h x e hz) hb
theorem Src.off {ρ:SRow} {w:World} {b q j B:Nat} {v:Value} (h:Src ρ w b) (hr:RB ρ B) (hB:B≤q) (hq:q ≠ b):Src ρ (w.setCell ⟨q,j,none⟩ v) b:=by
 obtain ⟨at_,mix,size,h⟩:=h
 have hc:∀ o,(w.setCell ⟨q,j,none⟩ v).cell? ⟨b,o,none⟩=w.cell? ⟨b,o,none⟩:=fun o=>World.cell?_of_block (Below.heap_setCell _ _ _ _ (by show b ≠ q;omega))
 have hf:∀ o,(w.setCell ⟨q,j,none⟩ v).frozen? ⟨b,o,none⟩=w.frozen? ⟨b,o,none⟩:=fun o=>by simp
 refine ⟨at_,mix,size,(hc 0).trans h.c0,(hc 1).trans h.c1,(hc 2).trans h.c2,(hc 3).trans h.c3,(hf 1).trans h.f1,(hf 2).trans h.f2,(hf 3).trans h.f3,h.at0,h.len1,h.sz,?_,h.rb⟩
 refine h.row.mono fun x e i hi=>?_
 refine World.cell?_of_block (Below.heap_setCell _ _ _ _ ?_)
 rw [add_block]
 have:=hr x e (by omega)
 show x.block ≠ q
 omega
theorem Kpt.set {b q j:Nat} {w0 w:World} {v:Value} (h:Kpt b w0 w) (hq:w0.heap.size≤q):Kpt b w0 (w.setCell ⟨q,j,none⟩ v) :=
 ⟨h.os,h.tape,h.output,by simpa using h.size,fun k hk hb=>(Below.heap_setCell _ _ _ _ (by show k ≠ q;omega)).trans (h.block k hk hb)⟩
structure I5 (w:World) (q:Nat) (op a:Int) (c n d:ByteArray):Prop where
 x0:w.cell? ⟨q,0,none⟩=some (.int .i64 op)
 x1:w.cell? ⟨q,1,none⟩=some (.int .i64 a)
 x2:w.cell? ⟨q,2,none⟩=some (.string c)
 x3:w.cell? ⟨q,3,none⟩=some (.string n)
 x4:w.cell? ⟨q,4,none⟩=some (.string d)
 fz:∀ j,w.frozen? ⟨q,j,none⟩=false
theorem I5.of_block {w w':World} {q:Nat} {op a:Int} {c n d:ByteArray} (h:I5 w q op a c n d) (hb:w'.heap[q]?=w.heap[q]?):I5 w' q op a c n d :=
 have k:∀ j,w'.cell? ⟨q,j,none⟩=w.cell? ⟨q,j,none⟩:=fun j=>World.cell?_of_block hb
 ⟨(k 0).trans h.x0,(k 1).trans h.x1,(k 2).trans h.x2,(k 3).trans h.x3,(k 4).trans h.x4,fun j=>(World.frozen?_of_block hb).trans (h.fz j)⟩
theorem I5.lt {w:World} {q:Nat} {op a:Int} {c n d:ByteArray} (h:I5 w q op a c n d):q<w.heap.size:=World.block_lt_of_cell? _ ⟨q,0,none⟩ h.x0
theorem I5.set0 {w:World} {q:Nat} {op a:Int} {c n d:ByteArray} (h:I5 w q op a c n d) (v:Int):I5 (w.setCell ⟨q,0,none⟩ (.int .i64 v)) q v a c n d:=by
 obtain ⟨x0,x1,x2,x3,x4,fz⟩:=h
 exact⟨by simp [go_sem,x0],by simp [go_sem,x1],by simp [go_sem,x2],by simp [go_sem,x3],by simp [go_sem,x4],fun j=>by simp [go_sem,fz]⟩
theorem I5.set1 {w:World} {q:Nat} {op a:Int} {c n d:ByteArray} (h:I5 w q op a c n d) (v:Int):I5 (w.setCell ⟨q,1,none⟩ (.int .i64 v)) q op v c n d:=by
 obtain ⟨x0,x1,x2,x3,x4,fz⟩:=h
 exact⟨by simp [go_sem,x0],by simp [go_sem,x1],by simp [go_sem,x2],by simp [go_sem,x3],by simp [go_sem,x4],fun j=>by simp [go_sem,fz]⟩
theorem I5.set2 {w:World} {q:Nat} {op a:Int} {c n d:ByteArray} (h:I5 w q op a c n d) (v:ByteArray):I5 (w.setCell ⟨q,2,none⟩ (.string v)) q op a v n d:=by
 obtain ⟨x0,x1,x2,x3,x4,fz⟩:=h
 exact⟨by simp [go_sem,x0],by simp [go_sem,x1],by simp [go_sem,x2],by simp [go_sem,x3],by simp [go_sem,x4],fun j=>by simp [go_sem,fz]⟩
theorem I5.set3 {w:World} {q:Nat} {op a:Int} {c n d:ByteArray} (h:I5 w q op a c n d) (v:ByteArray):I5 (w.setCell ⟨q,3,none⟩ (.string v)) q op a c v d:=by
 obtain ⟨x0,x1,x2,x3,x4,fz⟩:=h
 exact⟨by simp [go_sem,x0],by simp [go_sem,x1],by simp [go_sem,x2],by simp [go_sem,x3],by simp [go_sem,x4],fun j=>by simp [go_sem,fz]⟩
theorem I5.set4 {w:World} {q:Nat} {op a:Int} {c n d:ByteArray} (h:I5 w q op a c n d) (v:ByteArray):I5 (w.setCell ⟨q,4,none⟩ (.string v)) q op a c n v:=by
 obtain ⟨x0,x1,x2,x3,x4,fz⟩:=h
 exact⟨by simp [go_sem,x0],by simp [go_sem,x1],by simp [go_sem,x2],by simp [go_sem,x3],by simp [go_sem,x4],fun j=>by simp [go_sem,fz]⟩
def smI (op a:Int) (c n d:ByteArray):Prop:=fits op∧fits a∧c ∈ U∧n ∈ U∧d ∈ U
structure DI (ρ:SRow) (b:Nat) (w0 w:World) (q:Nat):Prop where
 src:Src ρ w b
 kpt:Kpt b w0 w
 ins:∃ op a c n d,I5 w q op a c n d∧smI op a c n d
 res:I5 w w0.heap.size 0 0 ⟨#[]⟩ ⟨#[]⟩ ⟨#[]⟩
 hq:w0.heap.size<q∧b<w0.heap.size
theorem DI.call {ρ:SRow} {b q:Nat} {w0 w w':World} (h:DI ρ b w0 w q) (hs:Src ρ w' b) (hk:Kpt b w w'):DI ρ b w0 w' q:=by
 have hq:=h.hq
 obtain ⟨op,a,c,n,d,hi,hm⟩:=h.ins
 exact⟨hs,h.kpt.trans hk,⟨op,a,c,n,d,hi.of_block (hk.block q hi.lt (by omega)),hm⟩,h.res.of_block (hk.block _ h.res.lt (by omega)),hq⟩
theorem DI.lit {ρ:SRow} {b q:Nat} {w0 w:World} (h:DI ρ b w0 w q) (o:Obj):DI ρ b w0 (w.alloc o) q:=h.call (h.src.keep lit_below) (kpt_alloc b w o)
theorem DI.set0 {ρ:SRow} {b q:Nat} {w0 w:World} (h:DI ρ b w0 w q) (hr:RB ρ w0.heap.size) (v:Int) (hv:fits v):DI ρ b w0 (w.setCell ⟨q,0,none⟩ (.int .i64 v)) q:=by
 have hq:=h.hq
 obtain ⟨op,a,c,n,d,hi,m⟩:=h.ins
 exact⟨h.src.off hr (by omega) (by omega),h.kpt.set (by omega),⟨_,_,_,_,_,hi.set0 v,hv,m.2.1,m.2.2.1,m.2.2.2.1,m.2.2.2.2⟩,h.res.of_block (Below.heap_setCell _ _ _ _ (by show w0.heap.size ≠ q;omega)),hq⟩
theorem DI.set1 {ρ:SRow} {b q:Nat} {w0 w:World} (h:DI ρ b w0 w q) (hr:RB ρ w0.heap.size) (v:Int) (hv:fits v):DI ρ b w0 (w.setCell ⟨q,1,none⟩ (.int .i64 v)) q:=by
 have hq:=h.hq
 obtain ⟨op,a,c,n,d,hi,m⟩:=h.ins
 exact⟨h.src.off hr (by omega) (by omega),h.kpt.set (by omega),⟨_,_,_,_,_,hi.set1 v,m.1,hv,m.2.2.1,m.2.2.2.1,m.2.2.2.2⟩,h.res.of_block (Below.heap_setCell _ _ _ _ (by show w0.heap.size ≠ q;omega)),hq⟩
theorem DI.set2 {ρ:SRow} {b q:Nat} {w0 w:World} (h:DI ρ b w0 w q) (hr:RB ρ w0.heap.size) (v:ByteArray) (hv:v ∈ U):DI ρ b w0 (w.setCell ⟨q,2,none⟩ (.string v)) q:=by
 have hq:=h.hq
 obtain ⟨op,a,c,n,d,hi,m⟩:=h.ins
 exact⟨h.src.off hr (by omega) (by omega),h.kpt.set (by omega),⟨_,_,_,_,_,hi.set2 v,m.1,m.2.1,hv,m.2.2.2.1,m.2.2.2.2⟩,h.res.of_block (Below.heap_setCell _ _ _ _ (by show w0.heap.size ≠ q;omega)),hq⟩
theorem DI.set3 {ρ:SRow} {b q:Nat} {w0 w:World} (h:DI ρ b w0 w q) (hr:RB ρ w0.heap.size) (v:ByteArray) (hv:v ∈ U):DI ρ b w0 (w.setCell ⟨q,3,none⟩ (.string v)) q:=by
 have hq:=h.hq
 obtain ⟨op,a,c,n,d,hi,m⟩:=h.ins
 exact⟨h.src.off hr (by omega) (by omega),h.kpt.set (by omega),⟨_,_,_,_,_,hi.set3 v,m.1,m.2.1,m.2.2.1,hv,m.2.2.2.2⟩,h.res.of_block (Below.heap_setCell _ _ _ _ (by show w0.heap.size ≠ q;omega)),hq⟩
theorem DI.set4 {ρ:SRow} {b q:Nat} {w0 w:World} (h:DI ρ b w0 w q) (hr:RB ρ w0.heap.size) (v:ByteArray) (hv:v ∈ U):DI ρ b w0 (w.setCell ⟨q,4,none⟩ (.string v)) q:=by
 have hq:=h.hq
 obtain ⟨op,a,c,n,d,hi,m⟩:=h.ins
 exact⟨h.src.off hr (by omega) (by omega),h.kpt.set (by omega),⟨_,_,_,_,_,hi.set4 v,m.1,m.2.1,m.2.2.1,m.2.2.2.1,hv⟩,h.res.of_block (Below.heap_setCell _ _ _ _ (by show w0.heap.size ≠ q;omega)),hq⟩
set_option maxHeartbeats 2000000 in
theorem srcType {ρ:SRow} (b:Nat) (w:World) (hS:Src ρ w b) :
  Calls Tryz.prog 115 #[.pointer (some ⟨b,0,none⟩)] w fun e w'=>∃ t,e = .returned (.string t)∧t ∈ U∧Src ρ w' b∧Kpt b w w':=by
 go_enter Tryz.func115,Tryz.ntmps115
 go_wp2_with fail
 refine (srcOne b _ 30 (by decide) (by decide) hS).mono ?_
 rintro e w1 ⟨r,rfl,hS1,hO1⟩
 have HK1:Hid (Kpt b w w1):=hO1.kept
 have HS1:Hid (Src ρ w1 b):=hS1
 clear hS hS1 hO1
 cases r
 ·go_wp2_with fail
  refine (srcPick b w1.heap.size 7 [⟨#[73]⟩,⟨#[73]⟩,⟨#[76,65,59]⟩,⟨#[76,66,59]⟩,⟨#[76,79,98,106,101,99,116,59]⟩,⟨#[91,73]⟩,⟨#[91,76,65,59]⟩] _ rfl (by decide) (by decide) (HS1.out.keep lit_below) (by have:=HS1.out.lt;omega) (by intro j hj;rw [World.cell?_alloc_mark];match j,hj with | 0,_ | 1,_ | 2,_ | 3,_ | 4,_ | 5,_ | 6,_=>rfl)).mono ?_
  rintro e w2 ⟨t,rfl,ht,hS2,hO2⟩
  have ht2:t ∈ U:=mU0 ht
  have HX:Hid (t ∈ U∧Src ρ w2 b∧Kpt b w w2):=⟨ht2,hS2,HK1.out.trans ((kpt_alloc b w1 _).trans hO2.kept)⟩
  clear ht ht2 hS2 hO2 HK1 HS1
  go_wp2
  go_ret
  exact⟨_,rfl,HX.out⟩
 ·go_wp2_with fail
  refine (srcPick b w1.heap.size 9 [⟨#[]⟩,⟨#[86]⟩,⟨#[76,59]⟩,⟨#[76,65]⟩,⟨#[91,91,73]⟩,⟨#[73,59]⟩,⟨#[76,49,59]⟩,⟨#[76,97,98,99,100,101,102,103,104,105,106,107,108,109,110,111,112,113,114,115,116,59]⟩,⟨#[76,97,98,99,100,101,102,103,104,105,106,107,108,109,110,111,112,113,114,115,116,117,59]⟩] _ rfl (by decide) (by decide) (HS1.out.keep lit_below) (by have:=HS1.out.lt;omega) (by intro j hj;rw [World.cell?_alloc_mark];match j,hj with | 0,_ | 1,_ | 2,_ | 3,_ | 4,_ | 5,_ | 6,_ | 7,_ | 8,_=>rfl)).mono ?_
  rintro e w2 ⟨t,rfl,ht,hS2,hO2⟩
  have ht2:t ∈ U:=mU1 ht
  have HX:Hid (t ∈ U∧Src ρ w2 b∧Kpt b w w2):=⟨ht2,hS2,HK1.out.trans ((kpt_alloc b w1 _).trans hO2.kept)⟩
  clear ht ht2 hS2 hO2 HK1 HS1
  go_wp2
  go_ret
  exact⟨_,rfl,HX.out⟩
set_option maxHeartbeats 4000000 in
theorem srcIns {ρ:SRow} (b:Nat) (w:World) (hS:Src ρ w b) (hr:RB ρ w.heap.size) :
  Calls Tryz.prog 135 #[.pointer (some ⟨b,0,none⟩)] w fun e w'=>∃ op a c n d,e = .returned (.agg #[.int .i64 op,.int .i64 a,.string c,.string n,.string d])∧smI op a c n d∧Src ρ w' b∧Kpt b w w':=by
 have hlt:=hS.lt
 have HS:=(show Hid (Src ρ w b) from hS)
 clear hS
 go_enter Tryz.func135,Tryz.ntmps135
 go_wp2_with fail
 refine (srcN b _ 44 (by decide) (by decide) (HS.out.keep lit_below)).mono ?_
 rintro e w1 ⟨r,rfl,⟨r0,r1⟩,hs1,ho1⟩
 have hz1:Hid (w1.heap.size=w.heap.size+1):=by show _=_;rw [ho1.size];simp
 have HK1:Hid (Kpt b w w1):=(kpt_alloc b w _).trans ho1.kept
 have HR1:Hid (I5 w1 w.heap.size 0 0 ⟨#[]⟩ ⟨#[]⟩ ⟨#[]⟩):=(show I5 (w.alloc _) w.heap.size 0 0 ⟨#[]⟩ ⟨#[]⟩ ⟨#[]⟩ from ⟨by simp [go_sem],by simp [go_sem],by simp [go_sem],by simp [go_sem],by simp [go_sem],fun j=>by simp [go_sem]⟩).of_block (ho1.block _ (by omega))
 have HS1:=(show Hid (Src ρ w1 b) from hs1)
 clear hs1 ho1
 go_wp2_with fail
 refine (specOpForm (1+r) _ (by omega)).mono ?_
 rintro e w2 ⟨rfl,hb2⟩
 have D2:Hid (DI ρ b w w2 w1.heap.size):=by
  have hd:DI ρ b w (w1.alloc (.cells #[.int .i64 (1+r),.int .i64 0,.string ⟨#[]⟩,.string ⟨#[]⟩,.string ⟨#[]⟩] 149)) w1.heap.size :=
   ⟨HS1.out.keep lit_below,HK1.out.trans (kpt_alloc b w1 _),⟨1+r,0,⟨#[]⟩,⟨#[]⟩,⟨#[]⟩,⟨by simp [go_sem],by simp [go_sem],by simp [go_sem],by simp [go_sem],by simp [go_sem],fun j=>by simp [go_sem]⟩,by unfold smI fits;refine ⟨by omega,by omega,mU9 (List.mem_singleton.2 rfl),mU9 (List.mem_singleton.2 rfl),mU9 (List.mem_singleton.2 rfl)⟩⟩,
    HR1.out.of_block (lit_below.block _ (by have:=hz1.out;omega)),by have:=hz1.out;omega⟩
  exact hd.call (hd.src.keep hb2) (kpt_below hb2)
 generalize fmS (1+r)=s
 clear hb2 HS1 HK1 HR1 r0 r1 HS
 go_upto_block 0 with fail
 go_cut [] from 11 to 57 (fun wx=>DI ρ b w wx w1.heap.size)
 case first =>
  rcases Bool.eq_false_or_eq_true (s.toList == [110]) with h110 | h110
  ·skip
   go_wp2_with fail
   refine (srcN b _ 20 (by decide) (by decide) D2.out.src).mono ?_
   rintro e w3 ⟨r,rfl,⟨r0,r1⟩,hs,ho⟩
   have D3:Hid (DI ρ b w w3 w1.heap.size):=D2.out.call hs ho.kept
   clear hs ho
   obtain ⟨op,a,c,n,d,hi,hm⟩:=D3.out.ins
   have x1:=hi.x1
   have fz:=hi.fz
   clear hi hm
   go_wp2_with fail
   go_meet
   exact D3.out.set1 hr _ (by unfold fits;omega)
  rcases Bool.eq_false_or_eq_true (s.toList == [105]) with h105 | h105
  ·skip
   go_wp2_with fail
   refine (srcN b _ 4 (by decide) (by decide) D2.out.src).mono ?_
   rintro e w3 ⟨r,rfl,⟨r0,r1⟩,hs,ho⟩
   have D3:Hid (DI ρ b w w3 w1.heap.size):=D2.out.call hs ho.kept
   clear hs ho
   obtain ⟨op,a,c,n,d,hi,hm⟩:=D3.out.ins
   have x1:=hi.x1
   have fz:=hi.fz
   clear hi hm
   go_wp2_with fail
   go_meet
   exact D3.out.set1 hr _ (by unfold fits;omega)
  rcases Bool.eq_false_or_eq_true (s.toList == [116]) with h116 | h116
  ·skip
   go_wp2_with fail
   refine (srcN b _ 6 (by decide) (by decide) D2.out.src).mono ?_
   rintro e w3 ⟨r,rfl,⟨r0,r1⟩,hs,ho⟩
   have D3:Hid (DI ρ b w w3 w1.heap.size):=D2.out.call hs ho.kept
   clear hs ho
   obtain ⟨op,a,c,n,d,hi,hm⟩:=D3.out.ins
   have x1:=hi.x1
   have fz:=hi.fz
   clear hi hm
   go_wp2_with fail
   go_meet
   exact D3.out.set1 hr _ (by unfold fits;omega)
  rcases Bool.eq_false_or_eq_true (s.toList == [99]) with h99 | h99
  ·skip
   go_wp2_with fail
   refine (srcPick b w2.heap.size 3 [⟨#[65]⟩,⟨#[66]⟩,⟨#[79,98,106,101,99,116]⟩] _ rfl (by decide) (by decide) (D2.out.lit _).src (by have:=D2.out.src.lt;omega) (by intro j hj;rw [World.cell?_alloc_mark];match j,hj with | 0,_ | 1,_ | 2,_=>rfl)).mono ?_
   rintro e w3 ⟨t,rfl,ht,hs,ho⟩
   have ht2:t ∈ U:=mU2 ht
   have D3:Hid (DI ρ b w w3 w1.heap.size):=(D2.out.lit _).call hs ho.kept
   clear hs ho ht
   obtain ⟨op,a,c,n,d,hi,hm⟩:=D3.out.ins
   have x2:=hi.x2
   have fz:=hi.fz
   clear hi hm
   go_wp2_with fail
   go_meet
   exact D3.out.set2 hr _ ht2
  rcases Bool.eq_false_or_eq_true (s.toList == [121]) with h121 | h121
  ·skip
   go_wp2_with fail
   refine (srcPick b w2.heap.size 2 [⟨#[73]⟩,⟨#[76,65,59]⟩] _ rfl (by decide) (by decide) (D2.out.lit _).src (by have:=D2.out.src.lt;omega) (by intro j hj;rw [World.cell?_alloc_mark];match j,hj with | 0,_ | 1,_=>rfl)).mono ?_
   rintro e w3 ⟨t,rfl,ht,hs,ho⟩
   have ht2:t ∈ U:=mU3 ht
   have D3:Hid (DI ρ b w w3 w1.heap.size):=(D2.out.lit _).call hs ho.kept
   clear hs ho ht
   obtain ⟨op,a,c,n,d,hi,hm⟩:=D3.out.ins
   have x4:=hi.x4
   have fz:=hi.fz
   clear hi hm
   go_wp2_with fail
   go_meet
   exact D3.out.set4 hr _ ht2
  rcases Bool.eq_false_or_eq_true (s.toList == [102]) with h102 | h102
  ·skip
   obtain ⟨op,a,c,n,d,hi,hm⟩:=D2.out.ins
   have x2:=hi.x2
   have fz:=hi.fz
   clear hi hm
   have D2b:Hid (DI ρ b w (w2.setCell ⟨w1.heap.size,2,none⟩ (.string ⟨#[65]⟩)) w1.heap.size):=D2.out.set2 hr _ (mU4 (List.mem_singleton.2 rfl))
   go_wp2_with fail
   refine (srcPick b _ 2 [⟨#[120]⟩,⟨#[121]⟩] _ rfl (by decide) (by decide) (D2b.out.lit _).src ?_ (by intro j hj;match j,hj with | 0,_ | 1,_=>simp [go_sem])).mono ?_
   ·have:=D2b.out.src.lt;simp at this;omega
   rintro e w3 ⟨t,rfl,ht,hs,ho⟩
   have ht2:t ∈ U:=mU5 ht
   have D3:Hid (DI ρ b w w3 w1.heap.size):=(D2b.out.lit _).call hs ho.kept
   clear hs ho ht
   clear x2 fz
   obtain ⟨op,a,c,n,d,hi,hm⟩:=D3.out.ins
   have x3:=hi.x3
   have x4:=hi.x4
   have fz:=hi.fz
   clear hi hm
   go_wp2_with fail
   go_meet
   exact (D3.out.set3 hr _ ht2).set4 hr _ (mU6 (List.mem_singleton.2 rfl))
  rcases Bool.eq_false_or_eq_true (s.toList == [109]) with h109 | h109
  ·skip
   obtain ⟨op,a,c,n,d,hi,hm⟩:=D2.out.ins
   have x2:=hi.x2
   have fz:=hi.fz
   clear hi hm
   have D2b:Hid (DI ρ b w (w2.setCell ⟨w1.heap.size,2,none⟩ (.string ⟨#[65]⟩)) w1.heap.size):=D2.out.set2 hr _ (mU4 (List.mem_singleton.2 rfl))
   go_wp2_with fail
   refine (srcPick b _ 2 [⟨#[102]⟩,⟨#[60,105,110,105,116,62]⟩] _ rfl (by decide) (by decide) (D2b.out.lit _).src ?_ (by intro j hj;match j,hj with | 0,_ | 1,_=>simp [go_sem])).mono ?_
   ·have:=D2b.out.src.lt;simp at this;omega
   rintro e w3 ⟨t,rfl,ht,hs,ho⟩
   have ht2:t ∈ U:=mU7 ht
   have D3:Hid (DI ρ b w w3 w1.heap.size):=(D2b.out.lit _).call hs ho.kept
   clear hs ho ht
   clear x2 fz
   obtain ⟨op,a,c,n,d,hi,hm⟩:=D3.out.ins
   have x3:=hi.x3
   have fz:=hi.fz
   clear hi hm
   have D3b:Hid (DI ρ b w (w3.setCell ⟨w1.heap.size,3,none⟩ (.string t)) w1.heap.size):=D3.out.set3 hr _ ht2
   clear ht2
   go_wp2_with fail
   refine (srcPick b _ 2 [⟨#[40,41,86]⟩,⟨#[40,73,41,73]⟩] _ rfl (by decide) (by decide) (D3b.out.lit _).src ?_ (by intro j hj;match j,hj with | 0,_ | 1,_=>simp [go_sem])).mono ?_
   ·have:=D3b.out.src.lt;simp at this;omega
   rintro e w4 ⟨t,rfl,ht,hs,ho⟩
   have ht2:t ∈ U:=mU8 ht
   have D4:Hid (DI ρ b w w4 w1.heap.size):=(D3b.out.lit _).call hs ho.kept
   clear hs ho ht
   clear x3 fz
   obtain ⟨op,a,c,n,d,hi,hm⟩:=D4.out.ins
   have x4:=hi.x4
   have fz:=hi.fz
   clear hi hm
   go_wp2_with fail
   go_meet
   exact D4.out.set4 hr _ ht2
  go_wp2_with fail
  go_meet
  exact D2.out
 case rest =>
 have D4:=(show Hid (DI ρ b w wc w1.heap.size) from hcut)
 clear hcut D2
 go_wp2_with fail
 refine (srcOne b _ 12 (by decide) (by decide) D4.out.src).mono ?_
 rintro e w5 ⟨g,rfl,hs,ho⟩
 have D5:Hid (DI ρ b w w5 w1.heap.size):=D4.out.call hs ho.kept
 clear hs ho D4
 cases g
 ·obtain ⟨op,a,c,n,d,⟨x0,x1,x2,x3,x4,fz⟩,hm⟩:=D5.out.ins
  obtain ⟨y0,y1,y2,y3,y4,fy⟩:=D5.out.res
  have HX:Hid (smI op a c n d∧Src ρ (((((w5.setCell ⟨w.heap.size,0,none⟩ (.int .i64 op)).setCell ⟨w.heap.size,1,none⟩ (.int .i64 a)).setCell ⟨w.heap.size,2,none⟩ (.string c)).setCell ⟨w.heap.size,3,none⟩ (.string n)).setCell ⟨w.heap.size,4,none⟩ (.string d)) b∧Kpt b w (((((w5.setCell ⟨w.heap.size,0,none⟩ (.int .i64 op)).setCell ⟨w.heap.size,1,none⟩ (.int .i64 a)).setCell ⟨w.heap.size,2,none⟩ (.string c)).setCell ⟨w.heap.size,3,none⟩ (.string n)).setCell ⟨w.heap.size,4,none⟩ (.string d))) :=
   ⟨hm,((((D5.out.src.off hr (Nat.le_refl _) (by omega)).off hr (Nat.le_refl _) (by omega)).off hr (Nat.le_refl _) (by omega)).off hr (Nat.le_refl _) (by omega)).off hr (Nat.le_refl _) (by omega),((((D5.out.kpt.set (Nat.le_refl _)).set (Nat.le_refl _)).set (Nat.le_refl _)).set (Nat.le_refl _)).set (Nat.le_refl _)⟩
  clear hm D5
  go_wp2
  exact bodyPost_ret (v:=.agg #[.int .i64 op,.int .i64 a,.string c,.string n,.string d]) (by simp [results,Tryz.results135,go_sem,y0,y1,y2,y3,y4]) rfl ⟨_,_,_,_,_,rfl,HX.out⟩
 ·go_wp2_with fail
  refine (srcN b _ 5 (by decide) (by decide) D5.out.src).mono ?_
  rintro e w7 ⟨k,rfl,⟨k0,k1⟩,hs,ho⟩
  have D7:Hid (DI ρ b w w7 w1.heap.size):=D5.out.call hs ho.kept
  clear hs ho D5
  go_upto_block 1 with fail
  go_cut [] from 62 to 85 (fun wx=>DI ρ b w wx w1.heap.size)
  case first =>
   rcases Bool.eq_false_or_eq_true (k == 0) with k0 | k0
   ·skip
    go_wp2_with fail
    refine (srcN b _ 47 (by decide) (by decide) D7.out.src).mono ?_
    rintro e w8 ⟨r,rfl,⟨r0,r1⟩,hs,ho⟩
    have D8:Hid (DI ρ b w w8 w1.heap.size):=D7.out.call hs ho.kept
    clear hs ho
    obtain ⟨op,a,c,n,d,hi,hm⟩:=D8.out.ins
    have x0:=hi.x0
    have fz:=hi.fz
    clear hi hm
    go_wp2_with fail
    go_meet
    exact D8.out.set0 hr _ (by unfold fits;omega)
   rcases Bool.eq_false_or_eq_true (k == 1) with k1 | k1
   ·skip
    go_wp2_with fail
    refine (srcEdge b _ D7.out.src).mono ?_
    rintro e w8 ⟨r,rfl,hf,hs,ho⟩
    have D8:Hid (DI ρ b w w8 w1.heap.size):=D7.out.call hs ho
    clear hs ho
    obtain ⟨op,a,c,n,d,hi,hm⟩:=D8.out.ins
    have x1:=hi.x1
    have fz:=hi.fz
    clear hi hm
    go_wp2_with fail
    go_meet
    exact D8.out.set1 hr _ hf
   rcases Bool.eq_false_or_eq_true (k == 2) with k2 | k2
   ·skip
    go_wp2_with fail
    refine (srcWord b _ D7.out.src).mono ?_
    rintro e w8 ⟨t,rfl,ht,hs,ho⟩
    have ht2:t ∈ U:=words_U ht
    have D8:Hid (DI ρ b w w8 w1.heap.size):=D7.out.call hs ho
    clear ht hs ho
    obtain ⟨op,a,c,n,d,hi,hm⟩:=D8.out.ins
    have x2:=hi.x2
    have fz:=hi.fz
    clear hi hm
    go_wp2_with fail
    go_meet
    exact D8.out.set2 hr _ ht2
   rcases Bool.eq_false_or_eq_true (k == 3) with k3 | k3
   ·skip
    go_wp2_with fail
    refine (srcWord b _ D7.out.src).mono ?_
    rintro e w8 ⟨t,rfl,ht,hs,ho⟩
    have ht2:t ∈ U:=words_U ht
    have D8:Hid (DI ρ b w w8 w1.heap.size):=D7.out.call hs ho
    clear ht hs ho
    obtain ⟨op,a,c,n,d,hi,hm⟩:=D8.out.ins
    have x3:=hi.x3
    have fz:=hi.fz
    clear hi hm
    go_wp2_with fail
    go_meet
    exact D8.out.set3 hr _ ht2
   go_wp2_with fail
   refine (srcType b _ D7.out.src).mono ?_
   rintro e w8 ⟨t,rfl,ht2,hs,ho⟩
   have D8:Hid (DI ρ b w w8 w1.heap.size):=D7.out.call hs ho
   clear hs ho
   obtain ⟨op,a,c,n,d,hi,hm⟩:=D8.out.ins
   have x4:=hi.x4
   have fz:=hi.fz
   clear hi hm
   go_wp2_with fail
   go_meet
   exact D8.out.set4 hr _ ht2
  case rest =>
  have D9:=(show Hid (DI ρ b w wc w1.heap.size) from hcut)
  clear hcut D7
  obtain ⟨op,a,c,n,d,⟨x0,x1,x2,x3,x4,fz⟩,hm⟩:=D9.out.ins
  obtain ⟨y0,y1,y2,y3,y4,fy⟩:=D9.out.res
  have HX:Hid (smI op a c n d∧Src ρ (((((wc.setCell ⟨w.heap.size,0,none⟩ (.int .i64 op)).setCell ⟨w.heap.size,1,none⟩ (.int .i64 a)).setCell ⟨w.heap.size,2,none⟩ (.string c)).setCell ⟨w.heap.size,3,none⟩ (.string n)).setCell ⟨w.heap.size,4,none⟩ (.string d)) b∧Kpt b w (((((wc.setCell ⟨w.heap.size,0,none⟩ (.int .i64 op)).setCell ⟨w.heap.size,1,none⟩ (.int .i64 a)).setCell ⟨w.heap.size,2,none⟩ (.string c)).setCell ⟨w.heap.size,3,none⟩ (.string n)).setCell ⟨w.heap.size,4,none⟩ (.string d))) :=
  ⟨hm,((((D9.out.src.off hr (Nat.le_refl _) (by omega)).off hr (Nat.le_refl _) (by omega)).off hr (Nat.le_refl _) (by omega)).off hr (Nat.le_refl _) (by omega)).off hr (Nat.le_refl _) (by omega),((((D9.out.kpt.set (Nat.le_refl _)).set (Nat.le_refl _)).set (Nat.le_refl _)).set (Nat.le_refl _)).set (Nat.le_refl _)⟩
  clear hm D9
  go_wp2
  exact bodyPost_ret (v:=.agg #[.int .i64 op,.int .i64 a,.string c,.string n,.string d]) (by simp [results,Tryz.results135,go_sem,y0,y1,y2,y3,y4]) rfl ⟨_,_,_,_,_,rfl,HX.out⟩
end Go.Proofs.YtmhgaggpdggbeaaGreatDoor
