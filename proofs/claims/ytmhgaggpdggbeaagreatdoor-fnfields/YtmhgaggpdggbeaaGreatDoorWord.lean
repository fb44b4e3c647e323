import Derived.Test.YtmhgaggpdggbeaaGreatDoorDraw
import Derived.Laws.BytesArg
namespace Go.Proofs.YtmhgaggpdggbeaaGreatDoor
open Go.RowKit
set_option maxRecDepth 20000

set_option maxHeartbeats 1000000 in
theorem srcPick {ρ:SRow} (b g n:Nat) (L:List ByteArray) (w:World) (hn:L.length=n) (h1:1<n) (h2:n≤1000) (hS:Src ρ w b) (hg:g ≠ b)
  (hc:∀ j,j<n→w.cell? ⟨g,j,none⟩=some (.string (L.getD j ⟨#[]⟩))) :
  Calls Tryz.prog 60 #[.pointer (some ⟨b,0,none⟩),.slice (some ⟨g,0,none⟩) n n] w fun e w'=>∃ t,e = .returned (.string t)∧t ∈ L∧Src ρ w' b∧Onl b w w':=by
 have HC:Hid (∀ j,j<n→w.cell? ⟨g,j,none⟩=some (.string (L.getD j ⟨#[]⟩))):=hc
 have HL:Hid (∀ j,j<n→L.getD j ⟨#[]⟩ ∈ L):=fun j hj=>by
  have hj':j<L.length:=by omega
  simp [List.getD,List.getElem?_eq_getElem hj']
 clear hc
 go_enter Tryz.func60,Tryz.ntmps60
 go_wp2_with fail
 refine (srcN b _ n (by omega) (by omega) hS).mono ?_
 rintro e w1 ⟨r,rfl,⟨r0,r1⟩,hS1,hO⟩
 obtain ⟨j,rfl⟩:=Int.eq_ofNat_of_zero_le r0
 have hj:j<n:=by omega
 have hcell:w1.cell? ⟨g,j,none⟩=some (.string (L.getD j ⟨#[]⟩)):=(hO.cell (p:=⟨g,j,none⟩) hg).trans (HC.out j hj)
 have hq:=HL.out j hj
 generalize L.getD j ⟨#[]⟩=q at hcell hq
 have HX:Hid (q ∈ L∧Src ρ w1 b∧Onl b w w1):=⟨hq,hS1,hO⟩
 clear hS hS1 hO HC HL hq
 go_wp2
 go_ret
 exact⟨_,rfl,HX.out⟩

def wordsA:List ByteArray:=[⟨#[]⟩,⟨#[49,97]⟩,⟨#[97,32,98]⟩,⟨#[97,98,99,100,101,102,103,104,105,106,107,108,109,110,111,112,113,114,115,116]⟩,⟨#[97,98,99,100,101,102,103,104,105,106,107,108,109,110,111,112,113,114,115,116,117]⟩,⟨#[10]⟩,⟨#[255]⟩]
def wordsB:List ByteArray:=[⟨#[65]⟩,⟨#[66]⟩,⟨#[79,98,106,101,99,116]⟩,⟨#[120,36,49]⟩,⟨#[114,117,110]⟩,⟨#[102]⟩,⟨#[109,97,105,110]⟩]

set_option maxHeartbeats 2000000 in
theorem srcWord {ρ:SRow} (b:Nat) (w:World) (hS:Src ρ w b) :
  Calls Tryz.prog 114 #[.pointer (some ⟨b,0,none⟩)] w fun e w'=>∃ t,e = .returned (.string t)∧(t ∈ wordsA ∨ t ∈ wordsB)∧Src ρ w' b∧Kpt b w w':=by
 go_enter Tryz.func114,Tryz.ntmps114
 go_wp2_with fail
 refine (srcOne b _ 30 (by decide) (by decide) hS).mono ?_
 rintro e w1 ⟨r,rfl,hS1,hO1⟩
 have HK1:Hid (Kpt b w w1):=hO1.kept
 have hlt:=hS1.lt
 have HS1:Hid (Src ρ w1 b):=hS1
 clear hS hS1 hO1
 cases r
 ·go_wp2_with fail
  refine (srcPick b w1.heap.size 7 wordsB _ rfl (by decide) (by decide) (HS1.out.keep lit_below) (by omega) ?_).mono ?_
  ·intro j hj
   rw [World.cell?_alloc_mark]
   match j,hj with
   | 0,_ | 1,_ | 2,_ | 3,_ | 4,_ | 5,_ | 6,_=>rfl
  rintro e w2 ⟨t,rfl,ht,hS2,hO2⟩
  have HX:Hid ((t ∈ wordsA ∨ t ∈ wordsB)∧Src ρ w2 b∧Kpt b w w2):=⟨.inr ht,hS2,HK1.out.trans ((kpt_alloc b w1 _).trans hO2.kept)⟩
  clear ht hS2 hO2 HK1 HS1
  go_wp2
  go_ret
  exact⟨_,rfl,HX.out⟩
 ·go_wp2_with fail
  refine (srcPick b w1.heap.size 7 wordsA _ rfl (by decide) (by decide) (HS1.out.keep lit_below) (by omega) ?_).mono ?_
  ·intro j hj
   rw [World.cell?_alloc_mark]
   match j,hj with
   | 0,_ | 1,_ | 2,_ | 3,_ | 4,_ | 5,_ | 6,_=>rfl
  rintro e w2 ⟨t,rfl,ht,hS2,hO2⟩
  have HX:Hid ((t ∈ wordsA ∨ t ∈ wordsB)∧Src ρ w2 b∧Kpt b w w2):=⟨.inl ht,hS2,HK1.out.trans ((kpt_alloc b w1 _).trans hO2.kept)⟩
  clear ht hS2 hO2 HK1 HS1
  go_wp2
  go_ret
  exact⟨_,rfl,HX.out⟩

end Go.Proofs.YtmhgaggpdggbeaaGreatDoor
