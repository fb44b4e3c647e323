import Derived.Test.YtmhgaggpdggbeaaGreatDoorSrc
namespace Go.Proofs.YtmhgaggpdggbeaaGreatDoor
open Go.RowKit
set_option maxRecDepth 20000

structure Kpt (b:Nat) (w w':World):Prop where
 os:w'.os=w.os
 tape:w'.tape=w.tape
 output:w'.output=w.output
 size:w.heap.size≤w'.heap.size
 block:∀ k,k<w.heap.size→k ≠ b→w'.heap[k]?=w.heap[k]?

theorem Kpt.refl (b:Nat) (w:World):Kpt b w w:=⟨rfl,rfl,rfl,Nat.le_refl _,fun _ _ _=>rfl⟩
theorem Kpt.trans {b:Nat} {x y z:World} (h:Kpt b x y) (k:Kpt b y z):Kpt b x z :=
 ⟨k.os.trans h.os,k.tape.trans h.tape,k.output.trans h.output,Nat.le_trans h.size k.size,fun j hj hb=>(k.block j (Nat.lt_of_lt_of_le hj h.size) hb).trans (h.block j hj hb)⟩
theorem Onl.kept {b:Nat} {w w':World} (h:Onl b w w'):Kpt b w w':=⟨h.os,h.tape,h.output,Nat.le_of_eq h.size.symm,fun k _ hk=>h.block k hk⟩
theorem kpt_below {b:Nat} {w w':World} (h:Below w.heap.size w w'):Kpt b w w':=⟨h.os,h.tape,h.output,h.size,fun k hk _=>h.block k hk⟩
theorem kpt_alloc (b:Nat) (w:World) (o:Obj):Kpt b w (w.alloc o):=kpt_below ((Below.refl _ _).alloc (Nat.le_refl _) _)
theorem Kpt.below {b:Nat} {w w1 w2:World} (h:Below b w w1) (hb:b≤w1.heap.size) (k:Kpt b w1 w2):Below b w w2 :=
 h.trans ⟨k.os,k.tape,k.output,k.size,fun j hj=>k.block j (by omega) (by omega)⟩

theorem Src.lt {ρ:SRow} {w:World} {b:Nat} (h:Src ρ w b):b<w.heap.size:=by
 obtain ⟨a,len,cap,zs⟩:=ρ
 obtain ⟨at_,mix,size,h⟩:=h
 simp only at h
 exact World.block_lt_of_cell? w ⟨b,0,none⟩ h.c0

theorem Src.keep {ρ:SRow} {w w':World} {b:Nat} (h:Src ρ w b) (k:Below w.heap.size w w'):Src ρ w' b:=by
 have hb:=h.lt
 obtain ⟨a,len,cap,zs⟩:=ρ
 obtain ⟨at_,mix,size,h⟩:=h
 simp only at h
 have hc:∀ o,w'.cell? ⟨b,o,none⟩=w.cell? ⟨b,o,none⟩:=fun o=>k.cell (p:=⟨b,o,none⟩) hb
 have hf:∀ o,w'.frozen? ⟨b,o,none⟩=w.frozen? ⟨b,o,none⟩:=fun o=>k.frozen (p:=⟨b,o,none⟩) hb
 refine ⟨at_,mix,size,(hc 0).trans h.c0,(hc 1).trans h.c1,(hc 2).trans h.c2,(hc 3).trans h.c3,(hf 1).trans h.f1,(hf 2).trans h.f2,(hf 3).trans h.f3,h.at0,h.len1,h.sz,?_,h.rb⟩
 rcases h.row with hr | ⟨x,rfl,h1,h2,h3,h4,h5⟩
 ·exact .inl hr
 ·exact .inr ⟨x,rfl,h1,h2,h3,fun i hi=>(k.cell (World.block_lt_of_cell? w _ (h4 i hi))).trans (h4 i hi),h5⟩

theorem lit_cell {w w1:World} {C:Array Value} {t:TypeId} {b:Nat} (hb:b<w.heap.size) (h:Onl b (w.alloc (.cells C t)) w1) (j:Nat):w1.cell? ⟨w.heap.size,j,none⟩=C[j]? :=
 (h.cell (p:=⟨w.heap.size,j,none⟩) (by show w.heap.size ≠ b;omega)).trans (World.cell?_alloc_mark w C t (0,0) j)

theorem lit_below {w:World} {o:Obj}:Below w.heap.size w (w.alloc o):=(Below.refl _ _).alloc (Nat.le_refl _) _

def fits (n:Int):Prop:=-9223372036854775808≤n∧n≤9223372036854775807

set_option maxHeartbeats 1000000 in
theorem srcOne {ρ:SRow} (b:Nat) (w:World) (of_:Int) (h1:1<of_) (h2:of_≤1000000) (hS:Src ρ w b) :
  Calls Tryz.prog 59 #[.pointer (some ⟨b,0,none⟩),.int .i64 of_] w fun e w'=>∃ r:Bool,e = .returned (.bool r)∧Src ρ w' b∧Onl b w w':=by
 go_enter Tryz.func59,Tryz.ntmps59
 go_wp2_with fail
 refine (srcN b _ of_ h1 h2 hS).mono ?_
 rintro e w1 ⟨r,rfl,⟨_,_⟩,hS1,hO⟩
 go_wp2
 go_ret
 exact⟨_,rfl,hS1,hO⟩

set_option maxHeartbeats 1000000 in
theorem srcEdge {ρ:SRow} (b:Nat) (w:World) (hS:Src ρ w b) :
  Calls Tryz.prog 157 #[.pointer (some ⟨b,0,none⟩)] w fun e w'=>∃ r:Int,e = .returned (.int .i64 r)∧fits r∧Src ρ w' b∧Kpt b w w':=by
 have hlt:=hS.lt
 have HS:Hid (Src ρ w b):=hS
 clear hS
 go_enter Tryz.func157,Tryz.ntmps157
 go_wp2_with fail
 refine (srcN b _ 14 (by decide) (by decide) (HS.out.keep lit_below)).mono ?_
 rintro e w1 ⟨r,rfl,⟨h0,h1⟩,hS1,hO⟩
 have hK:=(kpt_alloc b w _).trans hO.kept
 have hcell:=lit_cell hlt hO r.toNat
 have HS1:Hid (Src ρ w1 b):=hS1
 have HK:Hid (Kpt b w w1):=hK
 clear hS1 hK hO
 obtain ⟨k,rfl⟩:=Int.eq_ofNat_of_zero_le h0
 have hk:k<14:=by omega
 match k,hk with
 | 0,_ | 1,_ | 2,_ | 3,_ | 4,_ | 5,_ | 6,_ | 7,_ | 8,_ | 9,_ | 10,_ | 11,_ | 12,_ | 13,_ =>
  simp at hcell
  go_wp2
  go_ret
  exact⟨_,rfl,by unfold fits;omega,HS1.out,HK.out⟩
end Go.Proofs.YtmhgaggpdggbeaaGreatDoor
