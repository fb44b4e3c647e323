import Derived.Test.YtmhgaggpdggbeaaGreatDoorDrm
import Derived.Deep.RegionHeld3
namespace Go.Proofs.YtmhgaggpdggbeaaGreatDoor
open Go.RowKit
set_option maxRecDepth 20000
set_option linter.unusedVariables false
theorem lit_at {w:World} {C:Array Value} {t:TypeId} {g j:Nat} (hg:g=w.heap.size):(w.alloc (.cells C t)).cell? ⟨g,j,none⟩=C[j]?:=by subst hg;exact World.cell?_alloc_mark w C t (0,0) j
def zI:Value:=.agg #[.int .i64 0,.int .i64 0,.string ⟨#[]⟩,.string ⟨#[]⟩,.string ⟨#[]⟩]
theorem infoInsT:(Tryz.prog.info? 149).map (fun i=>(i.zero,i.size,i.bytes))=some (some zI,5,64):=by kernel_rfl
def zH:Value:=.agg #[.int .i64 0,.int .i64 0,.int .i64 0,.string ⟨#[]⟩]
theorem infoHanT:(Tryz.prog.info? 151).map (fun i=>(i.zero,i.size,i.bytes))=some (some zH,4,40):=by kernel_rfl
structure LI (ρ:SRow) (b:Nat) (w6 w:World):Prop where
 src:Src ρ w b
 kpt:Kpt b w6 w
 ins:∃ op a c n d,I5 w w6.heap.size op a c n d∧smI op a c n d
 hb:b<w6.heap.size
theorem LI.call {ρ:SRow} {b:Nat} {w6 w w':World} (h:LI ρ b w6 w) (hs:Src ρ w' b) (hk:Kpt b w w'):LI ρ b w6 w':=by
 have hb:=h.hb
 obtain ⟨op,a,c,n,d,hi,hm⟩:=h.ins
 exact⟨hs,h.kpt.trans hk,⟨op,a,c,n,d,hi.of_block (hk.block _ hi.lt (by omega)),hm⟩,hb⟩
theorem LI.nul {ρ:SRow} {b:Nat} {w6 w:World} (h:LI ρ b w6 w) (hr:RB ρ w6.heap.size):LI ρ b w6 (w.setCell ⟨w6.heap.size,1,none⟩ (.int .i64 0)):=by
 have hb:=h.hb
 obtain ⟨op,a,c,n,d,hi,m⟩:=h.ins
 exact⟨h.src.off hr (Nat.le_refl _) (by omega),h.kpt.set (Nat.le_refl _),⟨_,_,_,_,_,hi.set1 0,m.1,by unfold fits;omega,m.2.2⟩,hb⟩
theorem LI.made {ρ:SRow} {b:Nat} {w6:World} (hs:Src ρ w6 b) (op a:Int) (c n d:ByteArray) (hm:smI op a c n d):LI ρ b w6 (w6.alloc (.cells #[.int .i64 op,.int .i64 a,.string c,.string n,.string d] 149)) :=
 ⟨hs.keep lit_below,kpt_alloc b w6 _,⟨op,a,c,n,d,⟨by simp [go_sem],by simp [go_sem],by simp [go_sem],by simp [go_sem],by simp [go_sem],fun j=>by simp [go_sem]⟩,hm⟩,hs.lt⟩
theorem lit_add {w:World} {C:Array Value} {t:TypeId} {g j:Nat} (hg:g=w.heap.size):(w.alloc (.cells C t)).cell? ((⟨g,0,none⟩:Addr).add j)=C[j]?:=by
 subst hg
 rw [show ((⟨w.heap.size,0,none⟩:Addr).add j)=⟨w.heap.size,j,none⟩ by unfold Addr.add;split<;>simp_all]
 exact World.cell?_alloc_mark w C t (0,0) j
theorem own_sl {w:World} {B e s n:Nat} {v:Value} {xs:List Value} (h:w.ownsRow B e s v n xs):∃ p l c,v = .slice p l c:=by
 rcases h.2 with ⟨rfl,_⟩ | ⟨g,cap,cur,rfl,_⟩
 ·exact⟨_,_,_,rfl⟩
 ·exact⟨_,_,_,rfl⟩
theorem own_sn {w:World} {B e s n:Nat} {v:Value} {xs:List Value} (h:w.ownsRow B e s v n xs):∃ p c,v = .slice p n c:=by
 rcases h.2 with ⟨rfl,h0⟩ | ⟨g,cap,cur,rfl,_⟩
 ·exact⟨_,_,by rw [h0]⟩
 ·exact⟨_,_,rfl⟩
structure DO (ρ:SRow) (b:Nat) (w0 w:World) (B:Nat) (m:MT) (vc vh:Value):Prop where
 rw:Rw w B m vc vh
 src:Src ρ w b
 kpt:Kpt b w0 w
 hb:b<w0.heap.size
 hB:w0.heap.size<B
theorem DO.set {ρ:SRow} {b B:Nat} {w0 w:World} {m:MT} {vc vh:Value} (h:DO ρ b w0 w B m vc vh) (j:Nat) (v:Value) (hr:RB ρ w0.heap.size):DO ρ b w0 (w.setCell ⟨w0.heap.size,j,none⟩ v) B m vc vh:=by
 have h1:=h.hb
 have h2:=h.hB
 exact⟨h.rw.blocks fun k hk _=>Below.heap_setCell _ _ _ _ (by show k ≠ w0.heap.size;omega),h.src.off hr (Nat.le_refl _) (by omega),h.kpt.set (Nat.le_refl _),h1,h2⟩
theorem DX.res {ρ:SRow} {b q n h:Nat} {w0 w:World} (H:DX ρ b w0 w q n h):M9 w w0.heap.size MT.zero (.slice none 0 0) (.slice none 0 0):=let ⟨_,hd,_⟩:=H;hd.res
def lnA (w:World) (q:Nat):Nat:=match w.cell? ⟨q,7,none⟩ with
 | some (.slice _ n _)=>n
 | _=>0
theorem lnA_of {w:World} {q n c:Nat} {p:Option Addr} (h:w.cell? ⟨q,7,none⟩=some (.slice p n c)):lnA w q=n:=by unfold lnA;rw [h]
theorem own_len {w:World} {B e s n:Nat} {p:Option Addr} {l c:Nat} {xs:List Value} (h:w.ownsRow B e s (.slice p l c) n xs):l=n:=by
 rcases h.2 with ⟨h1,h0⟩ | ⟨g,cap,cur,h1,_⟩
 ·injection h1 with e1 e2 e3;omega
 ·injection h1
theorem okI5:okI (5,0,⟨#[]⟩,⟨#[]⟩,⟨#[]⟩):=⟨by unfold fits;decide,by unfold fits;decide,mU9 (List.mem_singleton.2 rfl),mU9 (List.mem_singleton.2 rfl),mU9 (List.mem_singleton.2 rfl)⟩
theorem maxLen_ge:1000≤maxLen:=by unfold maxLen;omega
end Go.Proofs.YtmhgaggpdggbeaaGreatDoor
