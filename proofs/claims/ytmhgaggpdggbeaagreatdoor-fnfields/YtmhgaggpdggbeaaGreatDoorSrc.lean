import Derived.Test.YtmhgaggpdggbeaaGreatDoorRows
import Derived.WalkKit
import Derived.ProofKit
import Derived.OpenShut
import Derived.ShutString
import Derived.ChangeOld
import Derived.Below
import Derived.WalkLawsBesides
import Derived.BigQuiet
import Derived.Deep.QuietTactic
import Derived.RegionTactic
import Derived.BigRegion
import Derived.ChangeAlike
import Derived.Laws.IdiomStrings
namespace Go.Proofs.YtmhgaggpdggbeaaGreatDoor
open Go.RowKit
set_option maxRecDepth 20000

def IsRow (k:IntKind) (w:World) (a:Option Addr) (len cap:Nat) (zs:List Int):Prop :=
 (a=none∧len=0∧cap=0∧zs=[]) ∨
 ∃ x,a=some x∧len≤cap∧cap≤maxLen∧zs.length=cap∧(∀ i,i<zs.length→w.cell? (x.add i)=some (.int k (zs.getD i 0)))∧∀ n ∈ zs,(Lit.int k n).wf=true

structure Onl (b:Nat) (w w':World):Prop where
 os:w'.os=w.os
 tape:w'.tape=w.tape
 output:w'.output=w.output
 size:w'.heap.size=w.heap.size
 block:∀ k,k ≠ b→w'.heap[k]?=w.heap[k]?

theorem Onl.refl (b:Nat) (w:World):Onl b w w:=⟨rfl,rfl,rfl,rfl,fun _ _=>rfl⟩
theorem Onl.trans {b:Nat} {x y z:World} (h:Onl b x y) (k:Onl b y z):Onl b x z :=
 ⟨k.os.trans h.os,k.tape.trans h.tape,k.output.trans h.output,k.size.trans h.size,fun j hj=>(k.block j hj).trans (h.block j hj)⟩
theorem Onl.drewN {b:Nat} {x y:World} (h:Onl b x y) (n:Nat):Onl b x (y.drewN n):=⟨h.os,h.tape,h.output,h.size,h.block⟩
theorem Onl.drew {b:Nat} {x y:World} (h:Onl b x y):Onl b x y.drew:=⟨h.os,h.tape,h.output,h.size,h.block⟩
theorem Onl.below {b:Nat} {w w':World} (h:Onl b w w'):Below b w w':=⟨h.os,h.tape,h.output,Nat.le_of_eq h.size.symm,fun k hk=>h.block k (by omega)⟩

theorem set_twice (w:World) (b o:Nat) (v v':Value):(w.setCell ⟨b,o,none⟩ v).setCell ⟨b,o,none⟩ v'=w.setCell ⟨b,o,none⟩ v':=by
 unfold World.setCell
 congr 1
 apply Array.ext
 ·simp
 ·intro i h1 h2
  simp only [Array.getElem_modify]
  by_cases e:b=i
  ·subst e
   have hb:b<w.heap.size:=by simpa using h2
   generalize w.heap[b]=o
   cases o<;>simp
  ·simp [e]

theorem Onl.setCell {b:Nat} {x y:World} (h:Onl b x y) (o:Nat) (v:Value):Onl b x (y.setCell ⟨b,o,none⟩ v) :=
 h.trans ⟨rfl,rfl,rfl,by simp [World.setCell],fun k hk=>Below.heap_setCell y ⟨b,o,none⟩ v k hk⟩

theorem cell_same {w:World} {b o:Nat} {u v:Value} (h:w.cell? ⟨b,o,none⟩=some u):(w.setCell ⟨b,o,none⟩ v).cell? ⟨b,o,none⟩=some v :=
 World.cell?_setCell_same _ _ _ h
theorem cell_off {w:World} {b o o':Nat} {v:Value} (h:o ≠ o'):(w.setCell ⟨b,o,none⟩ v).cell? ⟨b,o',none⟩=w.cell? ⟨b,o',none⟩ :=
 World.cell?_setCell_other _ _ _ _ (fun e=>h (congrArg Addr.off e))
theorem froz {w:World} {a c:Addr} {v:Value}:(w.setCell a v).frozen? c=w.frozen? c:=by simp

structure SrcAt (w:World) (b:Nat) (a:Option Addr) (len cap:Nat) (zs:List Int) (at_ mix size:Int):Prop where
 c0:w.cell? ⟨b,0,none⟩=some (.slice a len cap)
 c1:w.cell? ⟨b,1,none⟩=some (.int .i64 at_)
 c2:w.cell? ⟨b,2,none⟩=some (.int .u64 mix)
 c3:w.cell? ⟨b,3,none⟩=some (.int .i64 size)
 f1:w.frozen? ⟨b,1,none⟩=false
 f2:w.frozen? ⟨b,2,none⟩=false
 f3:w.frozen? ⟨b,3,none⟩=false
 at0:0≤at_
 len1:len≤1048576
 sz:0≤size∧size≤12
 row:IsRow .u8 w a len cap zs
 rb:∀ x:Addr,a=some x→0<zs.length→x.block ≠ b

structure SRow where
 a:Option Addr
 len:Nat
 cap:Nat
 zs:List Int
def Src (ρ:SRow) (w:World) (b:Nat):Prop:=∃ at_ mix size,SrcAt w b ρ.a ρ.len ρ.cap ρ.zs at_ mix size

theorem IsRow.mono {k:IntKind} {w w':World} {a:Option Addr} {len cap:Nat} {zs:List Int} (h:IsRow k w a len cap zs) (hc:∀ x:Addr,a=some x→∀ i,i<zs.length→w'.cell? (x.add i)=w.cell? (x.add i)):IsRow k w' a len cap zs:=by
 rcases h with h | ⟨x,rfl,h1,h2,h3,h4,h5⟩
 ·exact .inl h
 ·exact .inr ⟨x,rfl,h1,h2,h3,fun i hi=>(hc x rfl i hi).trans (h4 i hi),h5⟩

theorem add_block (x:Addr) (i:Nat):(x.add i).block=x.block:=by unfold Addr.add;split<;>rfl

theorem Onl.cell {b:Nat} {w w':World} (h:Onl b w w') {p:Addr} (hp:p.block ≠ b):w'.cell? p=w.cell? p:=World.cell?_of_block (w:=w) (h.block p.block hp)
theorem Onl.frozen {b:Nat} {w w':World} (h:Onl b w w') {p:Addr} (hp:p.block ≠ b):w'.frozen? p=w.frozen? p:=World.frozen?_of_block (w:=w) (h.block p.block hp)

theorem SrcAt.turn {w w':World} {b:Nat} {a:Option Addr} {len cap:Nat} {zs:List Int} {at_ mix size at' mix':Int} (h:SrcAt w b a len cap zs at_ mix size) (ho:Onl b w w')
  (c0:w'.cell? ⟨b,0,none⟩=w.cell? ⟨b,0,none⟩) (c1:w'.cell? ⟨b,1,none⟩=some (.int .i64 at')) (c2:w'.cell? ⟨b,2,none⟩=some (.int .u64 mix')) (c3:w'.cell? ⟨b,3,none⟩=w.cell? ⟨b,3,none⟩)
  (fz:∀ o,w'.frozen? ⟨b,o,none⟩=w.frozen? ⟨b,o,none⟩) (h0:0≤at'):SrcAt w' b a len cap zs at' mix' size :=
 ⟨c0.trans h.c0,c1,c2,c3.trans h.c3,(fz 1).trans h.f1,(fz 2).trans h.f2,(fz 3).trans h.f3,h0,h.len1,h.sz,
  h.row.mono (fun x hx i hi=>ho.cell (by rw [add_block];exact h.rb x hx (by omega))),h.rb⟩

theorem src_took {w:World} {b:Nat} {a:Option Addr} {len cap:Nat} {zs:List Int} {at_ mix size:Int} (h:SrcAt w b a len cap zs at_ mix size) (k:Nat) (at' mix':Int) (h0:0≤at') :
  Src ⟨a,len,cap,zs⟩ (((((w.drewN k).setCell ⟨b,1,none⟩ (.int .i64 at')).setCell ⟨b,2,none⟩ (.int .u64 mix')).drew.drew.drew)) b ∧
  Onl b w (((((w.drewN k).setCell ⟨b,1,none⟩ (.int .i64 at')).setCell ⟨b,2,none⟩ (.int .u64 mix')).drew.drew.drew)):=by
 have ho:Onl b w (((((w.drewN k).setCell ⟨b,1,none⟩ (.int .i64 at')).setCell ⟨b,2,none⟩ (.int .u64 mix')).drew.drew.drew)) :=
  (((((Onl.refl b w).drewN k).setCell 1 _).setCell 2 _).drew.drew.drew)
 refine ⟨⟨at',mix',size,h.turn ho ?_ ?_ ?_ ?_ ?_ h0⟩,ho⟩
 ·show (((w.drewN k).setCell ⟨b,1,none⟩ _).setCell ⟨b,2,none⟩ _).cell? ⟨b,0,none⟩=_
  rw [cell_off (by decide),cell_off (by decide)];rfl
 ·show (((w.drewN k).setCell ⟨b,1,none⟩ _).setCell ⟨b,2,none⟩ _).cell? ⟨b,1,none⟩=_
  rw [cell_off (by decide)]
  exact cell_same (u:=.int .i64 at_) h.c1
 ·show (((w.drewN k).setCell ⟨b,1,none⟩ _).setCell ⟨b,2,none⟩ _).cell? ⟨b,2,none⟩=_
  refine cell_same (u:=.int .u64 mix) ?_
  rw [cell_off (by decide)]
  exact h.c2
 ·show (((w.drewN k).setCell ⟨b,1,none⟩ _).setCell ⟨b,2,none⟩ _).cell? ⟨b,3,none⟩=_
  rw [cell_off (by decide),cell_off (by decide)];rfl
 ·intro o
  show (((w.drewN k).setCell ⟨b,1,none⟩ _).setCell ⟨b,2,none⟩ _).frozen? ⟨b,o,none⟩=_
  rw [froz,froz];rfl

theorem src_none {w:World} {b:Nat} {a:Option Addr} {len cap:Nat} {zs:List Int} {at_ mix size:Int} (h:SrcAt w b a len cap zs at_ mix size) (k:Nat) (mix':Int) :
  Src ⟨a,len,cap,zs⟩ ((((w.drewN k).setCell ⟨b,2,none⟩ (.int .u64 mix')).drew.drew)) b ∧
  Onl b w ((((w.drewN k).setCell ⟨b,2,none⟩ (.int .u64 mix')).drew.drew)):=by
 have ho:Onl b w ((((w.drewN k).setCell ⟨b,2,none⟩ (.int .u64 mix')).drew.drew)) :=
  ((((Onl.refl b w).drewN k).setCell 2 _).drew.drew)
 refine ⟨⟨at_,mix',size,h.turn ho ?_ ?_ ?_ ?_ ?_ h.at0⟩,ho⟩
 ·show ((w.drewN k).setCell ⟨b,2,none⟩ _).cell? ⟨b,0,none⟩=_
  rw [cell_off (by decide)];rfl
 ·show ((w.drewN k).setCell ⟨b,2,none⟩ _).cell? ⟨b,1,none⟩=_
  rw [cell_off (by decide)]
  exact h.c1
 ·exact cell_same (w:=w.drewN k) (u:=.int .u64 mix) h.c2
 ·show ((w.drewN k).setCell ⟨b,2,none⟩ _).cell? ⟨b,3,none⟩=_
  rw [cell_off (by decide)];rfl
 ·intro o
  show ((w.drewN k).setCell ⟨b,2,none⟩ _).frozen? ⟨b,o,none⟩=_
  rw [froz];rfl

theorem mod_small (x most:Int) (h1:1<most) (h2:most≤1000000):wrap64 ((IntKind.u64.wrap x).tmod most)=(IntKind.u64.wrap x).tmod most∧0≤(IntKind.u64.wrap x).tmod most∧(IntKind.u64.wrap x).tmod most<most:=by
 have h0:0≤IntKind.u64.wrap x:=by simp [IntKind.wrap,IntKind.bits,IntKind.signed];omega
 have a:=Int.tmod_nonneg most h0
 have b:=Int.tmod_lt_of_pos (IntKind.u64.wrap x) (by omega:0<most)
 exact⟨by unfold wrap64;omega,a,b⟩

set_option maxHeartbeats 4000000 in
theorem srcN_took (b:Nat) (w:World) (most at_ mix size:Int) (rb off len cap:Nat) (zs:List Int) (z:Int)
  (h1:1<most) (h2:most≤1000000) (hS:SrcAt w b (some ⟨rb,off,none⟩) len cap zs at_ mix size) (hlt:at_<len)
  (cz:w.cell? ⟨rb,off+at_.toNat,none⟩=some (.int .u8 z)) :
  Calls Tryz.prog 58 #[.pointer (some ⟨b,0,none⟩),.int .i64 most] w fun e w'=>∃ r:Int,e = .returned (.int .i64 r)∧(0≤r∧r<most)∧Src ⟨some ⟨rb,off,none⟩,len,cap,zs⟩ w' b∧Onl b w w':=by
 have c0:=hS.c0;have c1:=hS.c1;have c2:=hS.c2;have f1:=hS.f1;have f2:=hS.f2
 have h0:=hS.at0;have hl:=hS.len1
 have HS:Hid (SrcAt w b (some ⟨rb,off,none⟩) len cap zs at_ mix size):=hS
 clear hS
 have hss:∀ (w:World) v v',(w.setCell ⟨b,2,none⟩ v).setCell ⟨b,2,none⟩ v'=w.setCell ⟨b,2,none⟩ v':=fun w v v'=>set_twice w b 2 v v'
 go_enter Tryz.func58,Tryz.ntmps58
 go_wp2
 go_quiet (fail)
 go_wp2
 go_quiet (fail)
 go_wp2
 go_region
 go_wp2
 go_region
 go_wp2
 go_region
 go_wp2
 go_ret
 exact⟨_,rfl,(by rw [(mod_small _ most h1 h2).1];exact (mod_small _ most h1 h2).2),src_took HS.out _ _ _ (by omega)⟩

set_option maxHeartbeats 4000000 in
theorem srcN_none (b:Nat) (w:World) (most at_ mix size:Int) (a:Option Addr) (len cap:Nat) (zs:List Int)
  (h1:1<most) (h2:most≤1000000) (hS:SrcAt w b a len cap zs at_ mix size) (hlt:¬ at_<len) :
  Calls Tryz.prog 58 #[.pointer (some ⟨b,0,none⟩),.int .i64 most] w fun e w'=>∃ r:Int,e = .returned (.int .i64 r)∧(0≤r∧r<most)∧Src ⟨a,len,cap,zs⟩ w' b∧Onl b w w':=by
 have c0:=hS.c0;have c1:=hS.c1;have c2:=hS.c2;have f1:=hS.f1;have f2:=hS.f2
 have h0:=hS.at0;have hl:=hS.len1
 have HS:Hid (SrcAt w b a len cap zs at_ mix size):=hS
 clear hS
 have hss:∀ (w:World) v v',(w.setCell ⟨b,2,none⟩ v).setCell ⟨b,2,none⟩ v'=w.setCell ⟨b,2,none⟩ v':=fun w v v'=>set_twice w b 2 v v'
 go_enter Tryz.func58,Tryz.ntmps58
 go_wp2
 go_quiet (fail)
 go_wp2
 go_region
 go_wp2
 go_region
 go_wp2
 go_region
 go_wp2
 go_ret
 exact⟨_,rfl,(by rw [(mod_small _ most h1 h2).1];exact (mod_small _ most h1 h2).2),src_none HS.out _ _⟩

theorem srcN {ρ:SRow} (b:Nat) (w:World) (most:Int) (h1:1<most) (h2:most≤1000000) (hS:Src ρ w b) :
  Calls Tryz.prog 58 #[.pointer (some ⟨b,0,none⟩),.int .i64 most] w fun e w'=>∃ r:Int,e = .returned (.int .i64 r)∧(0≤r∧r<most)∧Src ρ w' b∧Onl b w w':=by
 obtain ⟨a,len,cap,zs⟩:=ρ
 obtain ⟨at_,mix,size,h⟩:=hS
 simp only at h
 by_cases hlt:at_<len
 ·have h0:=h.at0
  rcases h.row with ⟨_,rfl,_⟩ | ⟨x,rfl,hl,hm,hz,hcell,_⟩
  ·simp at hlt;omega
  ·have hc:=hcell at_.toNat (by omega)
   obtain ⟨rb,off,spot⟩:=x
   have hspot:spot=none:=by simpa [Addr.add] using World.cell?_spot (hcell 0 (by omega))
   subst hspot
   have hp:(⟨rb,off,none⟩:Addr).add at_.toNat=⟨rb,off+at_.toNat,none⟩:=by unfold Addr.add;split<;>simp_all
   rw [hp] at hc
   exact srcN_took b w most at_ mix size rb off len cap zs _ h1 h2 h hlt hc
 ·exact srcN_none b w most at_ mix size a len cap zs h1 h2 h hlt
theorem set_last (w:World) (C:Array Value) (t:TypeId) (n o:Nat) (v:Value):((w.alloc (.cells C t)).drewN n).setCell ⟨w.heap.size,o,none⟩ v=(w.alloc (.cells (C.setIfInBounds o v) t)).drewN n:=by
 show ((w.alloc (.cells C t)).setCell ⟨w.heap.size,o,none⟩ v).drewN n=_
 rw [World.setCell_alloc_at C t w.heap.size o v rfl]

def srcCells (a:Option Addr) (len cap:Nat) (mix size:Int):Array Value:=#[.slice a len cap,.int .i64 0,.int .u64 mix,.int .i64 size]

theorem src_made {w:World} {a:Option Addr} {len cap:Nat} {zs:List Int} (hr:IsRow .u8 w a len cap zs) (hl:len≤1048576) (mix size:Int) (hz:0≤size∧size≤12) (n:Nat) :
  Src ⟨a,len,cap,zs⟩ ((w.alloc (.cells (srcCells a len cap mix size) 123)).drewN n) w.heap.size ∧
  Below w.heap.size w ((w.alloc (.cells (srcCells a len cap mix size) 123)).drewN n):=by
 have hb:Below w.heap.size w ((w.alloc (.cells (srcCells a len cap mix size) 123)).drewN n):=below_drewN ((Below.refl _ _).alloc (Nat.le_refl _) _) _
 have hc:∀ j,((w.alloc (.cells (srcCells a len cap mix size) 123)).drewN n).cell? ⟨w.heap.size,j,none⟩=(srcCells a len cap mix size)[j]? :=
  fun j=>World.cell?_alloc_mark w (srcCells a len cap mix size) 123 (0,0) j
 have hf:∀ j,((w.alloc (.cells (srcCells a len cap mix size) 123)).drewN n).frozen? ⟨w.heap.size,j,none⟩=false:=fun j=>by
  show (w.alloc (.cells (srcCells a len cap mix size) 123)).frozen? ⟨w.heap.size,j,none⟩=false
  simp
 have hx:∀ x:Addr,a=some x→0<zs.length→x.block<w.heap.size:=fun x hx h0=>by
  rcases hr with ⟨h,_⟩ | ⟨y,hy,_,_,_,h4,_⟩
  ·rw [h] at hx;cases hx
  ·rw [hy] at hx;cases hx
   have:=World.block_lt_of_cell? w _ (h4 0 h0)
   rwa [add_block] at this
 refine ⟨⟨0,mix,size,⟨hc 0,hc 1,hc 2,hc 3,hf 1,hf 2,hf 3,Int.le_refl _,hl,hz,hr.mono (fun x hx' i hi=>hb.cell ?_),fun x hx' h0=>?_⟩⟩,hb⟩
 ·rw [add_block];exact hx x hx' (by omega)
 ·have:=hx x hx' h0;omega

set_option maxHeartbeats 4000000 in
theorem srcMake (a:Option Addr) (len cap:Nat) (zs:List Int) (w:World) (hr:IsRow .u8 w a len cap zs) (hl:len≤1048576) :
  Calls Tryz.prog 56 #[.slice a len cap] w fun e w'=>e = .returned (.pointer (some ⟨w.heap.size,0,none⟩))∧Src ⟨a,len,cap,zs⟩ w' w.heap.size∧Below w.heap.size w w':=by
 have hend:∀ mix size n,0≤size→size≤12→Src ⟨a,len,cap,zs⟩ ((w.alloc (.cells #[.slice a len cap,.int .i64 0,.int .u64 mix,.int .i64 size] 123)).drewN n) w.heap.size ∧
   Below w.heap.size w ((w.alloc (.cells #[.slice a len cap,.int .i64 0,.int .u64 mix,.int .i64 size] 123)).drewN n) :=
  fun mix size n h1 h2=>src_made hr hl mix size ⟨h1,h2⟩ n
 have HE:Hid (∀ mix size n,0≤size→size≤12→Src ⟨a,len,cap,zs⟩ ((w.alloc (.cells #[.slice a len cap,.int .i64 0,.int .u64 mix,.int .i64 size] 123)).drewN n) w.heap.size ∧
   Below w.heap.size w ((w.alloc (.cells #[.slice a len cap,.int .i64 0,.int .u64 mix,.int .i64 size] 123)).drewN n)):=hend
 have HR:Hid (IsRow .u8 w a len cap zs):=hr
 clear hend hr
 have hset:∀ (C:Array Value) (n o:Nat) (v:Value),((w.alloc (.cells C 123)).drewN n).setCell ⟨w.heap.size,o,none⟩ v=(w.alloc (.cells (C.setIfInBounds o v) 123)).drewN n:=fun C n o v=>set_last w C 123 n o v
 go_enter Tryz.func56,Tryz.ntmps56
 go_wp2
 go_loopw [4] (fun j wr=>∃ (m nq:Nat) (mix:Int),m≤64∧m≤len∧j = .int .i64 (m:Int)∧wr=(w.alloc (.cells #[.slice a len cap,.int .i64 0,.int .u64 mix,.int .i64 0] 123)).drewN nq) (fun j _=>64 - (intOf j).toNat)
 case atStart=>exact⟨0,0,88172645463325252,by omega,by omega,rfl,rfl⟩
 case round =>
  obtain ⟨m,nq,mix,hm,hml,rfl,rfl⟩:=hrel
  by_cases hlt:m<len∧m<64
  ·obtain ⟨hl1,hl2⟩:=hlt
   obtain ⟨rb,off,z,rfl,hc,hrb⟩:∃ rb off z,a=some ⟨rb,off,none⟩∧w.cell? ⟨rb,off+m,none⟩=some (.int .u8 z)∧rb<w.heap.size:=by
    rcases HR.out with ⟨_,rfl,_⟩ | ⟨x,rfl,hl',hm',hz,hcell,_⟩
    ·omega
    ·have hc:=hcell m (by omega)
     obtain ⟨rb,off,spot⟩:=x
     have hspot:spot=none:=by simpa [Addr.add] using World.cell?_spot (hcell 0 (by omega))
     subst hspot
     have hp:(⟨rb,off,none⟩:Addr).add m=⟨rb,off+m,none⟩:=by unfold Addr.add;split<;>simp_all
     rw [hp] at hc
     exact⟨rb,off,_,rfl,hc,World.block_lt_of_cell? w _ hc⟩
   have hc2:∀ o,(w.alloc o).cell? ⟨rb,off+m,none⟩=some (.int .u8 z):=fun o=>(((Below.refl _ w).alloc (Nat.le_refl _) o).cell (p:=⟨rb,off+m,none⟩) hrb).trans hc
   have d1:decide ((m:Int)<(len:Int))=true:=by simp;omega
   have d2:decide ((m:Int)<64)=true:=by simp;omega
   have x1:(m:Int)<(len:Int):=by omega
   clear HR
   go_wp2
   go_region
   go_wp2
   exact⟨⟨m+1,_,_,by omega,by omega,by go_num,rfl⟩,by simp [intOf];omega⟩
  ·go_wp2
   all_goals go_ret
   all_goals exact⟨rfl,HE.out _ _ _ (by omega) (by omega)⟩
end Go.Proofs.YtmhgaggpdggbeaaGreatDoor
