import Derived.Test.YtmhgaggpdggbeaaGreatDoorDrT
import Derived.Test.YtmhgaggpdggbeaaGreatDoorDrI
import Derived.Test.YtmhgaggpdggbeaaGreatDoorMR2
import Derived.Deep.RegionHeld3
namespace Go.Proofs.YtmhgaggpdggbeaaGreatDoor
open Go.RowKit
set_option maxRecDepth 20000
set_option linter.unusedVariables false
theorem wpAnyH_strong {P:Program} {md:Region.Mode} {ops:Array Oper} {Q:Exit→Act→World→Prop} {S S':World→Prop} (hS:∀ w,S' w→S w):∀ (fuel:Nat) (listed:Array Bool) (a:Act) (w:World),wpAnyH P md ops Q S' fuel listed a w→wpAnyH P md ops Q S fuel listed a w
 | 0,_,_,_,h=>h
 | fuel+1,_,_,_,h=>⟨h.1,fun i hi=>wpOp_mono (fun a' w' h'=>⟨hS _ h'.1,wpAnyH_strong hS fuel _ a' w' h'.2⟩) (h.2 i hi)⟩
def zF:Value:=.agg #[.string ⟨#[]⟩,.string ⟨#[]⟩,.bool false]
theorem infoFldT:(Tryz.prog.info? 61).map (fun i=>(i.zero,i.size,i.bytes))=some (some zF,3,40):=by kernel_rfl
def zM:Value:=.agg #[.string ⟨#[]⟩,.string ⟨#[]⟩,.bool false,.bool false,.bool false,.int .i64 0,.int .i64 0,.slice none 0 0,.slice none 0 0]
theorem infoMetT:(Tryz.prog.info? 55).map (fun i=>(i.zero,i.size,i.bytes))=some (some zM,9,104):=by kernel_rfl
theorem off_block {w:World} {p c:Addr} {v:Value} (h:c.block ≠ p.block):(w.setCell p v).cell? c=w.cell? c:=World.cell?_of_block (Below.heap_setCell _ _ _ _ h)
def MX (w:World) (B g:Nat):Prop:=∃ m vc vh,M9 w g m vc vh∧Rw w B m vc vh∧okM m
theorem MX.call {w w':World} {b B g:Nat} (h:MX w B g) (hB:b<B) (hg:g ≠ b) (hk:Kpt b w w'):MX w' B g :=
 let ⟨m,vc,vh,h1,h2,h3⟩:=h
 ⟨m,vc,vh,h1.of_block (hk.block _ h1.lt hg),h2.blocks fun k hb hl=>hk.block k hl (by omega),h3⟩
structure DOC (ρ:SRow) (b:Nat) (w0 w:World) (B:Nat) (c:CT) (vf vm:Value):Prop where
 rw:RwC w B c vf vm
 src:Src ρ w b
 kpt:Kpt b w0 w
 hb:b<w0.heap.size
 hB:w0.heap.size<B
theorem DOC.set {ρ:SRow} {b B:Nat} {w0 w:World} {c:CT} {vf vm:Value} (h:DOC ρ b w0 w B c vf vm) (j:Nat) (v:Value) (hr:RB ρ w0.heap.size):DOC ρ b w0 (w.setCell ⟨w0.heap.size,j,none⟩ v) B c vf vm:=by
 have h1:=h.hb
 have h2:=h.hB
 exact⟨h.rw.blocks fun k hk _=>Below.heap_setCell _ _ _ _ (by show k ≠ w0.heap.size;omega),h.src.off hr (Nat.le_refl _) (by omega),h.kpt.set (Nat.le_refl _),h1,h2⟩
set_option pp.maxSteps 200000 in
set_option maxHeartbeats 8000000 in
theorem srcClass {ρ:SRow} (b:Nat) (n0 s0:ByteArray) (w:World) (hS:Src ρ w b) (hr:RB ρ w.heap.size) :
  Calls Tryz.prog 90 #[.pointer (some ⟨b,0,none⟩),.string n0,.string s0] w fun e w'=>∃ c vf vm,e = .returned (.agg #[.string (CT.nm c),.string c.su,.bool c.fi,.bool c.ab,vf,vm])∧okC n0 s0 c∧RwC w' w.heap.size c vf vm∧Src ρ w' b∧Kpt b w w':=by
 obtain ⟨i0,hi,hz0,hz1,hz2⟩:=info_parts infoFldT
 have HF:Hid (Tryz.prog.info? 61 = some i0∧i0.zero=some zF∧i0.size=3∧i0.bytes=40):=⟨hi,hz0,hz1,hz2⟩
 clear hi hz0 hz1 hz2
 obtain ⟨im,hi,hz0,hz1,hz2⟩:=info_parts infoMetT
 have HM:Hid (Tryz.prog.info? 55 = some im∧im.zero=some zM∧im.size=9∧im.bytes=104):=⟨hi,hz0,hz1,hz2⟩
 clear hi hz0 hz1 hz2
 have H0:=(show Hid (E0 ρ b w (w.alloc (cObj ⟨#[]⟩ ⟨#[]⟩ false false))) from E0.start hS)
 clear hS
 go_enter Tryz.func90,Tryz.ntmps90
 go_wp2_with fail
 refine (srcOne b _ 4 (by decide) (by decide) H0.out.src).mono ?_
 rintro e w1 ⟨r1,rfl,hs,ho⟩
 have H1:Hid (E0 ρ b w w1):=H0.out.call hs ho.kept
 clear hs ho H0
 have X0:Hid (CX ρ b w (w1.alloc (cObj n0 s0 false r1)) w1.heap.size n0 s0 0 0):=⟨_,H1.out.make _ _ _ _,⟨by simp,by simp,by simp,by simp,by simp,by simp⟩,by simp,by simp⟩
 clear H1
 go_wp2_with fail
 refine (srcN b _ 3 (by decide) (by decide) X0.out.src).mono ?_
 rintro e w2 ⟨k1,rfl,⟨k10,k11⟩,hs,ho⟩
 have X1:Hid (CX ρ b w w2 w1.heap.size n0 s0 0 0):=X0.out.call hs ho.kept
 clear hs ho X0
 go_upto_block 0 with fail
 go_cut [8] from 9 (fun _ wx=>CX ρ b w wx w1.heap.size n0 s0 2 0)
 case first =>
  obtain ⟨k1,rfl⟩:=Int.eq_ofNat_of_zero_le k10
  go_wp2_with fail
  go_loopw [8] (fun j wr=>∃ k n:Nat,n+k=k1∧j = .int .i64 (k:Int)∧CX ρ b w wr w1.heap.size n0 s0 n 0) (fun j _=>(intOf j).toNat)
  case atStart=>exact⟨k1,0,by omega,rfl,X1.out⟩
  case round =>
   obtain ⟨k,n,hkn,rfl,hx⟩:=hrel
   have G0:=(show Hid (CX ρ b w wr w1.heap.size n0 s0 n 0) from hx)
   clear X1 hx
   by_cases hm:0<k
   ·go_upto_region 5 with fail
    have hn1:n≤1:=by omega
    go_cut [9] from 23 to 40 (fun v wx=>(∃ g nm t r,v = .pointer (some ⟨g,0,none⟩)∧wx.cell? ⟨g,0,none⟩=some (.string nm)∧wx.cell? ⟨g,1,none⟩=some (.string t)∧wx.cell? ⟨g,2,none⟩=some (.bool r)∧nm ∈ U∧t ∈ U)∧CX ρ b w wx w1.heap.size n0 s0 n 0)
    case first =>
     obtain ⟨c,vf,vm,HC,hw,ho,hn,hh⟩:=G0.out.opn
     obtain ⟨fp,fc,rfl⟩:=own_sn hw.f
     have HS0:Hid (∀ w',Kpt b wr w'→w'.cell? ⟨w1.heap.size,4,none⟩=some (.slice fp c.fs.length fc)):=fun w' hk=>(HC.of_block (hk.block _ HC.lt (by have:=G0.out.hq;omega))).x4
     obtain ⟨xi,hxi,hxU⟩:∃ xi,Hid ((#[.string ⟨#[120]⟩,.string ⟨#[121]⟩,.string ⟨#[122]⟩]:Array Value)[c.fs.length]?=some (.string xi))∧xi ∈ U:=by
      have hl:c.fs.length<2:=by omega
      match hc2:c.fs.length,hl with
      | 0,_=>exact⟨_,rfl,mU14 (by simp)⟩
      | 1,_=>exact⟨_,rfl,mU14 (List.mem_cons_of_mem _ (List.mem_cons_self ..))⟩
     have hlt3:c.fs.length<3:=by omega
     have G:Hid (CX ρ b w wr.drew w1.heap.size n0 s0 n 0):=G0.out.call (G0.out.src.keep (Below.refl _ _).drew) (kpt_below (Below.refl _ _).drew)
     have K0:Hid (Kpt b wr wr.drew):=kpt_below (Below.refl _ _).drew
     clear HC hw ho hn hh G0
     refine wp_region_held_drew (S:=fun w'=>w'.cell? ⟨w1.heap.size,4,none⟩=some (.slice fp c.fs.length fc)) (by kernel_rfl) (HS0.out _ K0.out) (fun hHeld=>?_)
     generalize wr.drew=uc at *
     refine wpAnyH_take (i:=1) rfl (by kernel_rfl) (by kernel_rfl) (by kernel_rfl) (fun _ _ _ h=>h) (.inl ⟨by kernel_rfl,by intro w hSw;(try dsimp only at hSw);go_simp;try with_reducible rfl⟩) hHeld ?_
     (try simp only [Act.put,List.getElem_toArray,List.getElem_cons_zero,List.getElem_cons_succ,List.setIfInBounds_toArray,List.set_cons_zero,List.set_cons_succ])
     refine wpAnyH_take (i:=2) rfl (by kernel_rfl) (by kernel_rfl) (by kernel_rfl) (fun _ _ _ h=>h) (.inl ⟨by kernel_rfl,by intro w hSw;(try dsimp only at hSw);go_simp;try with_reducible rfl⟩) hHeld ?_
     (try simp only [Act.put,List.getElem_toArray,List.getElem_cons_zero,List.getElem_cons_succ,List.setIfInBounds_toArray,List.set_cons_zero,List.set_cons_succ])
     refine wpAnyH_take (i:=3) rfl (by kernel_rfl) (by kernel_rfl) (by kernel_rfl) (fun _ _ _ h=>h) (.inl ⟨by kernel_rfl,by intro w hSw;(try dsimp only at hSw);go_simp;try with_reducible rfl⟩) hHeld ?_
     (try simp only [Act.put,List.getElem_toArray,List.getElem_cons_zero,List.getElem_cons_succ,List.setIfInBounds_toArray,List.set_cons_zero,List.set_cons_succ])
     refine wpAnyH_take (i:=6) rfl (by kernel_rfl) (by kernel_rfl) (by kernel_rfl) (fun _ _ _ h=>h) (.inl ⟨by kernel_rfl,by intro w hSw;(try dsimp only at hSw);go_simp;try with_reducible rfl⟩) hHeld ?_
     (try simp only [Act.put,List.getElem_toArray,List.getElem_cons_zero,List.getElem_cons_succ,List.setIfInBounds_toArray,List.set_cons_zero,List.set_cons_succ])
     refine wpAnyH_take (i:=9) rfl (by kernel_rfl) (by kernel_rfl) (by kernel_rfl) (fun _ _ _ h=>h) (.inl ⟨by kernel_rfl,by intro w hSw;(try dsimp only at hSw);go_simp;try with_reducible rfl⟩) hHeld ?_
     (try simp only [Act.put,List.getElem_toArray,List.getElem_cons_zero,List.getElem_cons_succ,List.setIfInBounds_toArray,List.set_cons_zero,List.set_cons_succ])
     refine wpAnyH_ready (rs:=[0,7,12]) (by kernel_rfl) (by simp) ?_
     refine AllReadyH.cons rfl (fun K hK=>?_) (AllReadyH.cons rfl (fun K hK=>?_) (AllReadyH.cons rfl (fun K hK=>?_) AllReadyH.nil))
     simp only [List.getElem_toArray,List.getElem_cons_zero]
     go_simp
     have hbA1:b<uc.heap.size∧w1.heap.size<uc.heap.size:=by have h1:=G.out.lt;have h2:=G.out.hq;omega
     replace G:Hid (CX ρ b w (uc.alloc (.cells #[.string ⟨#[120]⟩,.string ⟨#[121]⟩,.string ⟨#[122]⟩] 9)) w1.heap.size n0 s0 n 0):=G.out.lit _
     replace K0:Hid (Kpt b wr (uc.alloc (.cells #[.string ⟨#[120]⟩,.string ⟨#[121]⟩,.string ⟨#[122]⟩] 9))):=K0.out.trans (kpt_alloc b _ _)
     have HLA1:Hid (∀ w',Kpt b (uc.alloc (.cells #[.string ⟨#[120]⟩,.string ⟨#[121]⟩,.string ⟨#[122]⟩] 9)) w'→∀ j,w'.cell? ⟨uc.heap.size,j,none⟩=(#[.string ⟨#[120]⟩,.string ⟨#[121]⟩,.string ⟨#[122]⟩]:Array Value)[j]?):=fun w' hk j=>(World.cell?_of_block (hk.block _ (by simp) (by show uc.heap.size ≠ b;omega))).trans (lit_at rfl)
     have KA1:Hid (Kpt b (uc.alloc (.cells #[.string ⟨#[120]⟩,.string ⟨#[121]⟩,.string ⟨#[122]⟩] 9)) (uc.alloc (.cells #[.string ⟨#[120]⟩,.string ⟨#[121]⟩,.string ⟨#[122]⟩] 9))):=Kpt.refl _ _
     have hzA1:uc.heap.size<(uc.alloc (.cells #[.string ⟨#[120]⟩,.string ⟨#[121]⟩,.string ⟨#[122]⟩] 9)).heap.size:=by simp
     generalize hgA1:uc.heap.size=gA1 at *
     generalize uc.alloc (.cells #[.string ⟨#[120]⟩,.string ⟨#[121]⟩,.string ⟨#[122]⟩] 9)=uc at *
     have HS1:Hid (∀ w',Kpt b uc w'→w'.cell? ⟨w1.heap.size,4,none⟩=some (.slice fp c.fs.length fc)∧w'.cell? ⟨gA1,c.fs.length,none⟩=some (.string xi)):=fun w' hk=>⟨HS0.out _ (K0.out.trans hk),(HLA1.out _ hk _).trans hxi.out⟩
     refine hK.out _ _ (HS0.out _ K0.out) (fun hHeld=>?_)
     clear hK K
     (try simp only [Act.put,List.getElem_toArray,List.getElem_cons_zero,List.getElem_cons_succ,List.setIfInBounds_toArray,List.set_cons_zero,List.set_cons_succ])
     refine wpAnyH_strong (S':=fun w'=>w'.cell? ⟨w1.heap.size,4,none⟩=some (.slice fp c.fs.length fc)∧w'.cell? ⟨gA1,c.fs.length,none⟩=some (.string xi)) (fun _ h=>h.1) _ _ _ _ ?_
     replace hHeld:=HS1.out _ KA1.out
     refine wpAnyH_take (i:=4) rfl (by kernel_rfl) (by kernel_rfl) (by kernel_rfl) (fun _ _ _ h=>h) (.inl ⟨by kernel_rfl,by intro w hSw;(try dsimp only at hSw);go_simp;rw [if_pos (by omega)]⟩) hHeld ?_
     (try simp only [Act.put,List.getElem_toArray,List.getElem_cons_zero,List.getElem_cons_succ,List.setIfInBounds_toArray,List.set_cons_zero,List.set_cons_succ])
     refine wpAnyH_take (i:=5) rfl (by kernel_rfl) (by kernel_rfl) (by kernel_rfl) (fun _ _ _ h=>h) (.inl ⟨by kernel_rfl,by intro w hSw;(try dsimp only at hSw);go_simp;try with_reducible rfl⟩) hHeld ?_
     (try simp only [Act.put,List.getElem_toArray,List.getElem_cons_zero,List.getElem_cons_succ,List.setIfInBounds_toArray,List.set_cons_zero,List.set_cons_succ])
     have d_A1:=trivial
     rotate_left
     simp only [List.getElem_toArray,List.getElem_cons_zero,List.getElem_cons_succ]
     go_simp
     have hbA2:b<uc.heap.size∧w1.heap.size<uc.heap.size:=by have h1:=G.out.lt;have h2:=G.out.hq;omega
     replace G:Hid (CX ρ b w (uc.alloc (.cells #[.string ⟨#[73]⟩,.string ⟨#[76,65,59]⟩,.string ⟨#[91,73]⟩] 9)) w1.heap.size n0 s0 n 0):=G.out.lit _
     replace K0:Hid (Kpt b wr (uc.alloc (.cells #[.string ⟨#[73]⟩,.string ⟨#[76,65,59]⟩,.string ⟨#[91,73]⟩] 9))):=K0.out.trans (kpt_alloc b _ _)
     have HLA2:Hid (∀ w',Kpt b (uc.alloc (.cells #[.string ⟨#[73]⟩,.string ⟨#[76,65,59]⟩,.string ⟨#[91,73]⟩] 9)) w'→∀ j,w'.cell? ⟨uc.heap.size,j,none⟩=(#[.string ⟨#[73]⟩,.string ⟨#[76,65,59]⟩,.string ⟨#[91,73]⟩]:Array Value)[j]?):=fun w' hk j=>(World.cell?_of_block (hk.block _ (by simp) (by show uc.heap.size ≠ b;omega))).trans (lit_at rfl)
     have KA2:Hid (Kpt b (uc.alloc (.cells #[.string ⟨#[73]⟩,.string ⟨#[76,65,59]⟩,.string ⟨#[91,73]⟩] 9)) (uc.alloc (.cells #[.string ⟨#[73]⟩,.string ⟨#[76,65,59]⟩,.string ⟨#[91,73]⟩] 9))):=Kpt.refl _ _
     have hzA2:uc.heap.size<(uc.alloc (.cells #[.string ⟨#[73]⟩,.string ⟨#[76,65,59]⟩,.string ⟨#[91,73]⟩] 9)).heap.size:=by simp
     generalize hgA2:uc.heap.size=gA2 at *
     generalize uc.alloc (.cells #[.string ⟨#[73]⟩,.string ⟨#[76,65,59]⟩,.string ⟨#[91,73]⟩] 9)=uc at *
     refine hK.out _ _ (HS0.out _ K0.out) (fun hHeld=>?_)
     clear hK K
     (try simp only [Act.put,List.getElem_toArray,List.getElem_cons_zero,List.getElem_cons_succ,List.setIfInBounds_toArray,List.set_cons_zero,List.set_cons_succ])
     have d_A2:=trivial
     rotate_left
     simp only [List.getElem_toArray,List.getElem_cons_zero,List.getElem_cons_succ]
     go_simp
     have hbF:b<uc.heap.size∧w1.heap.size<uc.heap.size:=by have h1:=G.out.lt;have h2:=G.out.hq;omega
     have GF:=G
     replace G:Hid (CX ρ b w (uc.alloc (.cells #[.string ⟨#[]⟩,.string ⟨#[]⟩,.bool false] 61)) w1.heap.size n0 s0 n 0):=G.out.lit _
     replace K0:Hid (Kpt b wr (uc.alloc (.cells #[.string ⟨#[]⟩,.string ⟨#[]⟩,.bool false] 61))):=K0.out.trans (kpt_alloc b _ _)
     have HLF:Hid (∀ w',Kpt b (uc.alloc (.cells #[.string ⟨#[]⟩,.string ⟨#[]⟩,.bool false] 61)) w'→∀ j,w'.cell? ⟨uc.heap.size,j,none⟩=(#[.string ⟨#[]⟩,.string ⟨#[]⟩,.bool false]:Array Value)[j]?):=fun w' hk j=>(World.cell?_of_block (hk.block _ (by simp) (by show uc.heap.size ≠ b;omega))).trans (lit_at rfl)
     have HFF:Hid (∀ w',Kpt b (uc.alloc (.cells #[.string ⟨#[]⟩,.string ⟨#[]⟩,.bool false] 61)) w'→∀ j,w'.frozen? ⟨uc.heap.size,j,none⟩=false):=fun w' hk j=>(World.frozen?_of_block (hk.block _ (by simp) (by show uc.heap.size ≠ b;omega))).trans (by simp [go_sem])
     have KG:Hid (Kpt b uc (uc.alloc (.cells #[.string ⟨#[]⟩,.string ⟨#[]⟩,.bool false] 61))):=kpt_alloc b _ _
     have KF:Hid (Kpt b (uc.alloc (.cells #[.string ⟨#[]⟩,.string ⟨#[]⟩,.bool false] 61)) (uc.alloc (.cells #[.string ⟨#[]⟩,.string ⟨#[]⟩,.bool false] 61))):=Kpt.refl _ _
     have hzF:uc.heap.size<(uc.alloc (.cells #[.string ⟨#[]⟩,.string ⟨#[]⟩,.bool false] 61)).heap.size:=by simp
     generalize hgF:uc.heap.size=gF at *
     generalize uc.alloc (.cells #[.string ⟨#[]⟩,.string ⟨#[]⟩,.bool false] 61)=uc at *
     refine hK.out _ _ (HS0.out _ K0.out) (fun hHeld=>?_)
     clear hK K
     (try simp only [Act.put,List.getElem_toArray,List.getElem_cons_zero,List.getElem_cons_succ,List.setIfInBounds_toArray,List.set_cons_zero,List.set_cons_succ])
     have d_F:=trivial
     rotate_left
     all_goals first
      | (have d_:=d_A1
         clear d_
         refine wpAnyH_ready (rs:=[7,12]) (by kernel_rfl) (by simp) ?_
         refine AllReadyH.cons rfl (fun K hK=>?_) (AllReadyH.cons rfl (fun K hK=>?_) AllReadyH.nil)
         simp only [List.getElem_toArray,List.getElem_cons_zero,List.getElem_cons_succ]
         go_simp
         have hbA2:b<uc.heap.size∧w1.heap.size<uc.heap.size:=by have h1:=G.out.lt;have h2:=G.out.hq;omega
         replace G:Hid (CX ρ b w (uc.alloc (.cells #[.string ⟨#[73]⟩,.string ⟨#[76,65,59]⟩,.string ⟨#[91,73]⟩] 9)) w1.heap.size n0 s0 n 0):=G.out.lit _
         replace K0:Hid (Kpt b wr (uc.alloc (.cells #[.string ⟨#[73]⟩,.string ⟨#[76,65,59]⟩,.string ⟨#[91,73]⟩] 9))):=K0.out.trans (kpt_alloc b _ _)
         replace KA1:Hid _:=(show Kpt b _ (uc.alloc (.cells #[.string ⟨#[73]⟩,.string ⟨#[76,65,59]⟩,.string ⟨#[91,73]⟩] 9)) from KA1.out.trans (kpt_alloc b _ _))
         have HLA2:Hid (∀ w',Kpt b (uc.alloc (.cells #[.string ⟨#[73]⟩,.string ⟨#[76,65,59]⟩,.string ⟨#[91,73]⟩] 9)) w'→∀ j,w'.cell? ⟨uc.heap.size,j,none⟩=(#[.string ⟨#[73]⟩,.string ⟨#[76,65,59]⟩,.string ⟨#[91,73]⟩]:Array Value)[j]?):=fun w' hk j=>(World.cell?_of_block (hk.block _ (by simp) (by show uc.heap.size ≠ b;omega))).trans (lit_at rfl)
         have KA2:Hid (Kpt b (uc.alloc (.cells #[.string ⟨#[73]⟩,.string ⟨#[76,65,59]⟩,.string ⟨#[91,73]⟩] 9)) (uc.alloc (.cells #[.string ⟨#[73]⟩,.string ⟨#[76,65,59]⟩,.string ⟨#[91,73]⟩] 9))):=Kpt.refl _ _
         have hzA2:uc.heap.size<(uc.alloc (.cells #[.string ⟨#[73]⟩,.string ⟨#[76,65,59]⟩,.string ⟨#[91,73]⟩] 9)).heap.size:=by simp
         generalize hgA2:uc.heap.size=gA2 at *
         generalize uc.alloc (.cells #[.string ⟨#[73]⟩,.string ⟨#[76,65,59]⟩,.string ⟨#[91,73]⟩] 9)=uc at *
         refine hK.out _ _ (HS1.out _ KA1.out) (fun hHeld=>?_)
         clear hK K
         (try simp only [Act.put,List.getElem_toArray,List.getElem_cons_zero,List.getElem_cons_succ,List.setIfInBounds_toArray,List.set_cons_zero,List.set_cons_succ])
         have d_A2:=trivial
         rotate_left
         simp only [List.getElem_toArray,List.getElem_cons_zero,List.getElem_cons_succ]
         go_simp
         have hbF:b<uc.heap.size∧w1.heap.size<uc.heap.size:=by have h1:=G.out.lt;have h2:=G.out.hq;omega
         have hAF:gA1<uc.heap.size:=by have:=KA1.out.size;omega
         have GF:=G
         replace G:Hid (CX ρ b w (uc.alloc (.cells #[.string ⟨#[]⟩,.string ⟨#[]⟩,.bool false] 61)) w1.heap.size n0 s0 n 0):=G.out.lit _
         replace K0:Hid (Kpt b wr (uc.alloc (.cells #[.string ⟨#[]⟩,.string ⟨#[]⟩,.bool false] 61))):=K0.out.trans (kpt_alloc b _ _)
         replace KA1:Hid _:=(show Kpt b _ (uc.alloc (.cells #[.string ⟨#[]⟩,.string ⟨#[]⟩,.bool false] 61)) from KA1.out.trans (kpt_alloc b _ _))
         have HLF:Hid (∀ w',Kpt b (uc.alloc (.cells #[.string ⟨#[]⟩,.string ⟨#[]⟩,.bool false] 61)) w'→∀ j,w'.cell? ⟨uc.heap.size,j,none⟩=(#[.string ⟨#[]⟩,.string ⟨#[]⟩,.bool false]:Array Value)[j]?):=fun w' hk j=>(World.cell?_of_block (hk.block _ (by simp) (by show uc.heap.size ≠ b;omega))).trans (lit_at rfl)
         have HFF:Hid (∀ w',Kpt b (uc.alloc (.cells #[.string ⟨#[]⟩,.string ⟨#[]⟩,.bool false] 61)) w'→∀ j,w'.frozen? ⟨uc.heap.size,j,none⟩=false):=fun w' hk j=>(World.frozen?_of_block (hk.block _ (by simp) (by show uc.heap.size ≠ b;omega))).trans (by simp [go_sem])
         have KG:Hid (Kpt b uc (uc.alloc (.cells #[.string ⟨#[]⟩,.string ⟨#[]⟩,.bool false] 61))):=kpt_alloc b _ _
         have KF:Hid (Kpt b (uc.alloc (.cells #[.string ⟨#[]⟩,.string ⟨#[]⟩,.bool false] 61)) (uc.alloc (.cells #[.string ⟨#[]⟩,.string ⟨#[]⟩,.bool false] 61))):=Kpt.refl _ _
         have hzF:uc.heap.size<(uc.alloc (.cells #[.string ⟨#[]⟩,.string ⟨#[]⟩,.bool false] 61)).heap.size:=by simp
         generalize hgF:uc.heap.size=gF at *
         generalize uc.alloc (.cells #[.string ⟨#[]⟩,.string ⟨#[]⟩,.bool false] 61)=uc at *
         refine hK.out _ _ (HS1.out _ KA1.out) (fun hHeld=>?_)
         clear hK K
         (try simp only [Act.put,List.getElem_toArray,List.getElem_cons_zero,List.getElem_cons_succ,List.setIfInBounds_toArray,List.set_cons_zero,List.set_cons_succ])
         have d_F:=trivial
         rotate_left)
      | (have d_:=d_A2
         clear d_
         refine wpAnyH_ready (rs:=[0,8,12]) (by kernel_rfl) (by simp) ?_
         refine AllReadyH.cons rfl (fun K hK=>?_) (AllReadyH.cons rfl (fun K hK=>?_) (AllReadyH.cons rfl (fun K hK=>?_) AllReadyH.nil))
         simp only [List.getElem_toArray,List.getElem_cons_zero]
         go_simp
         have hbA1:b<uc.heap.size∧w1.heap.size<uc.heap.size:=by have h1:=G.out.lt;have h2:=G.out.hq;omega
         replace G:Hid (CX ρ b w (uc.alloc (.cells #[.string ⟨#[120]⟩,.string ⟨#[121]⟩,.string ⟨#[122]⟩] 9)) w1.heap.size n0 s0 n 0):=G.out.lit _
         replace K0:Hid (Kpt b wr (uc.alloc (.cells #[.string ⟨#[120]⟩,.string ⟨#[121]⟩,.string ⟨#[122]⟩] 9))):=K0.out.trans (kpt_alloc b _ _)
         replace KA2:Hid _:=(show Kpt b _ (uc.alloc (.cells #[.string ⟨#[120]⟩,.string ⟨#[121]⟩,.string ⟨#[122]⟩] 9)) from KA2.out.trans (kpt_alloc b _ _))
         have HLA1:Hid (∀ w',Kpt b (uc.alloc (.cells #[.string ⟨#[120]⟩,.string ⟨#[121]⟩,.string ⟨#[122]⟩] 9)) w'→∀ j,w'.cell? ⟨uc.heap.size,j,none⟩=(#[.string ⟨#[120]⟩,.string ⟨#[121]⟩,.string ⟨#[122]⟩]:Array Value)[j]?):=fun w' hk j=>(World.cell?_of_block (hk.block _ (by simp) (by show uc.heap.size ≠ b;omega))).trans (lit_at rfl)
         have KA1:Hid (Kpt b (uc.alloc (.cells #[.string ⟨#[120]⟩,.string ⟨#[121]⟩,.string ⟨#[122]⟩] 9)) (uc.alloc (.cells #[.string ⟨#[120]⟩,.string ⟨#[121]⟩,.string ⟨#[122]⟩] 9))):=Kpt.refl _ _
         have hzA1:uc.heap.size<(uc.alloc (.cells #[.string ⟨#[120]⟩,.string ⟨#[121]⟩,.string ⟨#[122]⟩] 9)).heap.size:=by simp
         generalize hgA1:uc.heap.size=gA1 at *
         generalize uc.alloc (.cells #[.string ⟨#[120]⟩,.string ⟨#[121]⟩,.string ⟨#[122]⟩] 9)=uc at *
         have HS1:Hid (∀ w',Kpt b uc w'→w'.cell? ⟨w1.heap.size,4,none⟩=some (.slice fp c.fs.length fc)∧w'.cell? ⟨gA1,c.fs.length,none⟩=some (.string xi)):=fun w' hk=>⟨HS0.out _ (K0.out.trans hk),(HLA1.out _ hk _).trans hxi.out⟩
         refine hK.out _ _ (HS0.out _ K0.out) (fun hHeld=>?_)
         clear hK K
         (try simp only [Act.put,List.getElem_toArray,List.getElem_cons_zero,List.getElem_cons_succ,List.setIfInBounds_toArray,List.set_cons_zero,List.set_cons_succ])
         refine wpAnyH_strong (S':=fun w'=>w'.cell? ⟨w1.heap.size,4,none⟩=some (.slice fp c.fs.length fc)∧w'.cell? ⟨gA1,c.fs.length,none⟩=some (.string xi)) (fun _ h=>h.1) _ _ _ _ ?_
         replace hHeld:=HS1.out _ KA1.out
         refine wpAnyH_take (i:=4) rfl (by kernel_rfl) (by kernel_rfl) (by kernel_rfl) (fun _ _ _ h=>h) (.inl ⟨by kernel_rfl,by intro w hSw;(try dsimp only at hSw);go_simp;rw [if_pos (by omega)]⟩) hHeld ?_
         (try simp only [Act.put,List.getElem_toArray,List.getElem_cons_zero,List.getElem_cons_succ,List.setIfInBounds_toArray,List.set_cons_zero,List.set_cons_succ])
         refine wpAnyH_take (i:=5) rfl (by kernel_rfl) (by kernel_rfl) (by kernel_rfl) (fun _ _ _ h=>h) (.inl ⟨by kernel_rfl,by intro w hSw;(try dsimp only at hSw);go_simp;try with_reducible rfl⟩) hHeld ?_
         (try simp only [Act.put,List.getElem_toArray,List.getElem_cons_zero,List.getElem_cons_succ,List.setIfInBounds_toArray,List.set_cons_zero,List.set_cons_succ])
         have d_A1:=trivial
         rotate_left
         simp only [List.getElem_toArray,List.getElem_cons_zero,List.getElem_cons_succ]
         go_simp
         refine Calls.mono (srcPick b _ 3 [⟨#[73]⟩,⟨#[76,65,59]⟩,⟨#[91,73]⟩] _ rfl (by decide) (by decide) G.out.src (by omega) (by intro j hj;rw [HLA2.out _ KA2.out j];match j,hj with | 0,_ | 1,_ | 2,_=>rfl)) ?_
         rintro e uc ⟨t,rfl,ht,hs,ho'⟩
         have htU:t ∈ U:=mU15 ht
         replace G:Hid (CX ρ b w uc w1.heap.size n0 s0 n 0):=G.out.call hs ho'.kept
         replace K0:Hid (Kpt b wr uc):=K0.out.trans ho'.kept
         replace KA2:Hid _:=(show Kpt b _ uc from KA2.out.trans ho'.kept)
         clear hs ho' ht
         refine hK.out _ _ (HS0.out _ K0.out) (fun hHeld=>?_)
         clear hK K
         (try simp only [Act.put,List.getElem_toArray,List.getElem_cons_zero,List.getElem_cons_succ,List.setIfInBounds_toArray,List.set_cons_zero,List.set_cons_succ])
         have d_P:=trivial
         rotate_left
         simp only [List.getElem_toArray,List.getElem_cons_zero,List.getElem_cons_succ]
         go_simp
         have hbF:b<uc.heap.size∧w1.heap.size<uc.heap.size:=by have h1:=G.out.lt;have h2:=G.out.hq;omega
         have GF:=G
         replace G:Hid (CX ρ b w (uc.alloc (.cells #[.string ⟨#[]⟩,.string ⟨#[]⟩,.bool false] 61)) w1.heap.size n0 s0 n 0):=G.out.lit _
         replace K0:Hid (Kpt b wr (uc.alloc (.cells #[.string ⟨#[]⟩,.string ⟨#[]⟩,.bool false] 61))):=K0.out.trans (kpt_alloc b _ _)
         replace KA2:Hid _:=(show Kpt b _ (uc.alloc (.cells #[.string ⟨#[]⟩,.string ⟨#[]⟩,.bool false] 61)) from KA2.out.trans (kpt_alloc b _ _))
         have HLF:Hid (∀ w',Kpt b (uc.alloc (.cells #[.string ⟨#[]⟩,.string ⟨#[]⟩,.bool false] 61)) w'→∀ j,w'.cell? ⟨uc.heap.size,j,none⟩=(#[.string ⟨#[]⟩,.string ⟨#[]⟩,.bool false]:Array Value)[j]?):=fun w' hk j=>(World.cell?_of_block (hk.block _ (by simp) (by show uc.heap.size ≠ b;omega))).trans (lit_at rfl)
         have HFF:Hid (∀ w',Kpt b (uc.alloc (.cells #[.string ⟨#[]⟩,.string ⟨#[]⟩,.bool false] 61)) w'→∀ j,w'.frozen? ⟨uc.heap.size,j,none⟩=false):=fun w' hk j=>(World.frozen?_of_block (hk.block _ (by simp) (by show uc.heap.size ≠ b;omega))).trans (by simp [go_sem])
         have KG:Hid (Kpt b uc (uc.alloc (.cells #[.string ⟨#[]⟩,.string ⟨#[]⟩,.bool false] 61))):=kpt_alloc b _ _
         have KF:Hid (Kpt b (uc.alloc (.cells #[.string ⟨#[]⟩,.string ⟨#[]⟩,.bool false] 61)) (uc.alloc (.cells #[.string ⟨#[]⟩,.string ⟨#[]⟩,.bool false] 61))):=Kpt.refl _ _
         have hzF:uc.heap.size<(uc.alloc (.cells #[.string ⟨#[]⟩,.string ⟨#[]⟩,.bool false] 61)).heap.size:=by simp
         generalize hgF:uc.heap.size=gF at *
         generalize uc.alloc (.cells #[.string ⟨#[]⟩,.string ⟨#[]⟩,.bool false] 61)=uc at *
         refine hK.out _ _ (HS0.out _ K0.out) (fun hHeld=>?_)
         clear hK K
         (try simp only [Act.put,List.getElem_toArray,List.getElem_cons_zero,List.getElem_cons_succ,List.setIfInBounds_toArray,List.set_cons_zero,List.set_cons_succ])
         have d_F:=trivial
         rotate_left)
      | (have d_:=d_F
         clear d_
         refine wpAnyH_ready (rs:=[0,7]) (by kernel_rfl) (by simp) ?_
         refine AllReadyH.cons rfl (fun K hK=>?_) (AllReadyH.cons rfl (fun K hK=>?_) AllReadyH.nil)
         simp only [List.getElem_toArray,List.getElem_cons_zero]
         go_simp
         have hbA1:b<uc.heap.size∧w1.heap.size<uc.heap.size:=by have h1:=G.out.lt;have h2:=G.out.hq;omega
         have hAF:gF<uc.heap.size:=by have:=KF.out.size;omega
         replace G:Hid (CX ρ b w (uc.alloc (.cells #[.string ⟨#[120]⟩,.string ⟨#[121]⟩,.string ⟨#[122]⟩] 9)) w1.heap.size n0 s0 n 0):=G.out.lit _
         replace K0:Hid (Kpt b wr (uc.alloc (.cells #[.string ⟨#[120]⟩,.string ⟨#[121]⟩,.string ⟨#[122]⟩] 9))):=K0.out.trans (kpt_alloc b _ _)
         replace KF:Hid _:=(show Kpt b _ (uc.alloc (.cells #[.string ⟨#[120]⟩,.string ⟨#[121]⟩,.string ⟨#[122]⟩] 9)) from KF.out.trans (kpt_alloc b _ _))
         have HLA1:Hid (∀ w',Kpt b (uc.alloc (.cells #[.string ⟨#[120]⟩,.string ⟨#[121]⟩,.string ⟨#[122]⟩] 9)) w'→∀ j,w'.cell? ⟨uc.heap.size,j,none⟩=(#[.string ⟨#[120]⟩,.string ⟨#[121]⟩,.string ⟨#[122]⟩]:Array Value)[j]?):=fun w' hk j=>(World.cell?_of_block (hk.block _ (by simp) (by show uc.heap.size ≠ b;omega))).trans (lit_at rfl)
         have KA1:Hid (Kpt b (uc.alloc (.cells #[.string ⟨#[120]⟩,.string ⟨#[121]⟩,.string ⟨#[122]⟩] 9)) (uc.alloc (.cells #[.string ⟨#[120]⟩,.string ⟨#[121]⟩,.string ⟨#[122]⟩] 9))):=Kpt.refl _ _
         have hzA1:uc.heap.size<(uc.alloc (.cells #[.string ⟨#[120]⟩,.string ⟨#[121]⟩,.string ⟨#[122]⟩] 9)).heap.size:=by simp
         generalize hgA1:uc.heap.size=gA1 at *
         generalize uc.alloc (.cells #[.string ⟨#[120]⟩,.string ⟨#[121]⟩,.string ⟨#[122]⟩] 9)=uc at *
         have HS1:Hid (∀ w',Kpt b uc w'→w'.cell? ⟨w1.heap.size,4,none⟩=some (.slice fp c.fs.length fc)∧w'.cell? ⟨gA1,c.fs.length,none⟩=some (.string xi)):=fun w' hk=>⟨HS0.out _ (K0.out.trans hk),(HLA1.out _ hk _).trans hxi.out⟩
         refine hK.out _ _ (HS0.out _ K0.out) (fun hHeld=>?_)
         clear hK K
         (try simp only [Act.put,List.getElem_toArray,List.getElem_cons_zero,List.getElem_cons_succ,List.setIfInBounds_toArray,List.set_cons_zero,List.set_cons_succ])
         refine wpAnyH_strong (S':=fun w'=>w'.cell? ⟨w1.heap.size,4,none⟩=some (.slice fp c.fs.length fc)∧w'.cell? ⟨gA1,c.fs.length,none⟩=some (.string xi)) (fun _ h=>h.1) _ _ _ _ ?_
         replace hHeld:=HS1.out _ KA1.out
         refine wpAnyH_take (i:=4) rfl (by kernel_rfl) (by kernel_rfl) (by kernel_rfl) (fun _ _ _ h=>h) (.inl ⟨by kernel_rfl,by intro w hSw;(try dsimp only at hSw);go_simp;rw [if_pos (by omega)]⟩) hHeld ?_
         (try simp only [Act.put,List.getElem_toArray,List.getElem_cons_zero,List.getElem_cons_succ,List.setIfInBounds_toArray,List.set_cons_zero,List.set_cons_succ])
         refine wpAnyH_take (i:=5) rfl (by kernel_rfl) (by kernel_rfl) (by kernel_rfl) (fun _ _ _ h=>h) (.inl ⟨by kernel_rfl,by intro w hSw;(try dsimp only at hSw);go_simp;try with_reducible rfl⟩) hHeld ?_
         (try simp only [Act.put,List.getElem_toArray,List.getElem_cons_zero,List.getElem_cons_succ,List.setIfInBounds_toArray,List.set_cons_zero,List.set_cons_succ])
         have d_A1:=trivial
         rotate_left
         simp only [List.getElem_toArray,List.getElem_cons_zero,List.getElem_cons_succ]
         go_simp
         have hbA2:b<uc.heap.size∧w1.heap.size<uc.heap.size:=by have h1:=G.out.lt;have h2:=G.out.hq;omega
         replace G:Hid (CX ρ b w (uc.alloc (.cells #[.string ⟨#[73]⟩,.string ⟨#[76,65,59]⟩,.string ⟨#[91,73]⟩] 9)) w1.heap.size n0 s0 n 0):=G.out.lit _
         replace K0:Hid (Kpt b wr (uc.alloc (.cells #[.string ⟨#[73]⟩,.string ⟨#[76,65,59]⟩,.string ⟨#[91,73]⟩] 9))):=K0.out.trans (kpt_alloc b _ _)
         replace KF:Hid _:=(show Kpt b _ (uc.alloc (.cells #[.string ⟨#[73]⟩,.string ⟨#[76,65,59]⟩,.string ⟨#[91,73]⟩] 9)) from KF.out.trans (kpt_alloc b _ _))
         have HLA2:Hid (∀ w',Kpt b (uc.alloc (.cells #[.string ⟨#[73]⟩,.string ⟨#[76,65,59]⟩,.string ⟨#[91,73]⟩] 9)) w'→∀ j,w'.cell? ⟨uc.heap.size,j,none⟩=(#[.string ⟨#[73]⟩,.string ⟨#[76,65,59]⟩,.string ⟨#[91,73]⟩]:Array Value)[j]?):=fun w' hk j=>(World.cell?_of_block (hk.block _ (by simp) (by show uc.heap.size ≠ b;omega))).trans (lit_at rfl)
         have KA2:Hid (Kpt b (uc.alloc (.cells #[.string ⟨#[73]⟩,.string ⟨#[76,65,59]⟩,.string ⟨#[91,73]⟩] 9)) (uc.alloc (.cells #[.string ⟨#[73]⟩,.string ⟨#[76,65,59]⟩,.string ⟨#[91,73]⟩] 9))):=Kpt.refl _ _
         have hzA2:uc.heap.size<(uc.alloc (.cells #[.string ⟨#[73]⟩,.string ⟨#[76,65,59]⟩,.string ⟨#[91,73]⟩] 9)).heap.size:=by simp
         generalize hgA2:uc.heap.size=gA2 at *
         generalize uc.alloc (.cells #[.string ⟨#[73]⟩,.string ⟨#[76,65,59]⟩,.string ⟨#[91,73]⟩] 9)=uc at *
         refine hK.out _ _ (HS0.out _ K0.out) (fun hHeld=>?_)
         clear hK K
         (try simp only [Act.put,List.getElem_toArray,List.getElem_cons_zero,List.getElem_cons_succ,List.setIfInBounds_toArray,List.set_cons_zero,List.set_cons_succ])
         have d_A2:=trivial
         rotate_left)
     all_goals first
      | (have d_:=d_A1
         clear d_
         have d_:=d_A2
         clear d_
         refine wpAnyH_ready (rs:=[8,12]) (by kernel_rfl) (by simp) ?_
         refine AllReadyH.cons rfl (fun K hK=>?_) (AllReadyH.cons rfl (fun K hK=>?_) AllReadyH.nil)
         simp only [List.getElem_toArray,List.getElem_cons_zero,List.getElem_cons_succ]
         go_simp
         refine Calls.mono (srcPick b _ 3 [⟨#[73]⟩,⟨#[76,65,59]⟩,⟨#[91,73]⟩] _ rfl (by decide) (by decide) G.out.src (by omega) (by intro j hj;rw [HLA2.out _ KA2.out j];match j,hj with | 0,_ | 1,_ | 2,_=>rfl)) ?_
         rintro e uc ⟨t,rfl,ht,hs,ho'⟩
         have htU:t ∈ U:=mU15 ht
         replace G:Hid (CX ρ b w uc w1.heap.size n0 s0 n 0):=G.out.call hs ho'.kept
         replace K0:Hid (Kpt b wr uc):=K0.out.trans ho'.kept
         replace KA1:Hid _:=(show Kpt b _ uc from KA1.out.trans ho'.kept)
         replace KA2:Hid _:=(show Kpt b _ uc from KA2.out.trans ho'.kept)
         clear hs ho' ht
         refine hK.out _ _ (HS1.out _ KA1.out) (fun hHeld=>?_)
         clear hK K
         (try simp only [Act.put,List.getElem_toArray,List.getElem_cons_zero,List.getElem_cons_succ,List.setIfInBounds_toArray,List.set_cons_zero,List.set_cons_succ])
         have d_P:=trivial
         rotate_left
         simp only [List.getElem_toArray,List.getElem_cons_zero,List.getElem_cons_succ]
         go_simp
         have hbF:b<uc.heap.size∧w1.heap.size<uc.heap.size:=by have h1:=G.out.lt;have h2:=G.out.hq;omega
         have hAF:gA1<uc.heap.size:=by have:=KA1.out.size;omega
         have GF:=G
         replace G:Hid (CX ρ b w (uc.alloc (.cells #[.string ⟨#[]⟩,.string ⟨#[]⟩,.bool false] 61)) w1.heap.size n0 s0 n 0):=G.out.lit _
         replace K0:Hid (Kpt b wr (uc.alloc (.cells #[.string ⟨#[]⟩,.string ⟨#[]⟩,.bool false] 61))):=K0.out.trans (kpt_alloc b _ _)
         replace KA1:Hid _:=(show Kpt b _ (uc.alloc (.cells #[.string ⟨#[]⟩,.string ⟨#[]⟩,.bool false] 61)) from KA1.out.trans (kpt_alloc b _ _))
         replace KA2:Hid _:=(show Kpt b _ (uc.alloc (.cells #[.string ⟨#[]⟩,.string ⟨#[]⟩,.bool false] 61)) from KA2.out.trans (kpt_alloc b _ _))
         have HLF:Hid (∀ w',Kpt b (uc.alloc (.cells #[.string ⟨#[]⟩,.string ⟨#[]⟩,.bool false] 61)) w'→∀ j,w'.cell? ⟨uc.heap.size,j,none⟩=(#[.string ⟨#[]⟩,.string ⟨#[]⟩,.bool false]:Array Value)[j]?):=fun w' hk j=>(World.cell?_of_block (hk.block _ (by simp) (by show uc.heap.size ≠ b;omega))).trans (lit_at rfl)
         have HFF:Hid (∀ w',Kpt b (uc.alloc (.cells #[.string ⟨#[]⟩,.string ⟨#[]⟩,.bool false] 61)) w'→∀ j,w'.frozen? ⟨uc.heap.size,j,none⟩=false):=fun w' hk j=>(World.frozen?_of_block (hk.block _ (by simp) (by show uc.heap.size ≠ b;omega))).trans (by simp [go_sem])
         have KG:Hid (Kpt b uc (uc.alloc (.cells #[.string ⟨#[]⟩,.string ⟨#[]⟩,.bool false] 61))):=kpt_alloc b _ _
         have KF:Hid (Kpt b (uc.alloc (.cells #[.string ⟨#[]⟩,.string ⟨#[]⟩,.bool false] 61)) (uc.alloc (.cells #[.string ⟨#[]⟩,.string ⟨#[]⟩,.bool false] 61))):=Kpt.refl _ _
         have hzF:uc.heap.size<(uc.alloc (.cells #[.string ⟨#[]⟩,.string ⟨#[]⟩,.bool false] 61)).heap.size:=by simp
         generalize hgF:uc.heap.size=gF at *
         generalize uc.alloc (.cells #[.string ⟨#[]⟩,.string ⟨#[]⟩,.bool false] 61)=uc at *
         refine hK.out _ _ (HS1.out _ KA1.out) (fun hHeld=>?_)
         clear hK K
         (try simp only [Act.put,List.getElem_toArray,List.getElem_cons_zero,List.getElem_cons_succ,List.setIfInBounds_toArray,List.set_cons_zero,List.set_cons_succ])
         have d_F:=trivial
         rotate_left)
      | (have d_:=d_A1
         clear d_
         have d_:=d_F
         clear d_
         refine wpAnyH_ready (rs:=[7]) (by kernel_rfl) (by simp) ?_
         refine AllReadyH.cons rfl (fun K hK=>?_) AllReadyH.nil
         simp only [List.getElem_toArray,List.getElem_cons_zero,List.getElem_cons_succ]
         go_simp
         have hbA2:b<uc.heap.size∧w1.heap.size<uc.heap.size:=by have h1:=G.out.lt;have h2:=G.out.hq;omega
         replace G:Hid (CX ρ b w (uc.alloc (.cells #[.string ⟨#[73]⟩,.string ⟨#[76,65,59]⟩,.string ⟨#[91,73]⟩] 9)) w1.heap.size n0 s0 n 0):=G.out.lit _
         replace K0:Hid (Kpt b wr (uc.alloc (.cells #[.string ⟨#[73]⟩,.string ⟨#[76,65,59]⟩,.string ⟨#[91,73]⟩] 9))):=K0.out.trans (kpt_alloc b _ _)
         replace KA1:Hid _:=(show Kpt b _ (uc.alloc (.cells #[.string ⟨#[73]⟩,.string ⟨#[76,65,59]⟩,.string ⟨#[91,73]⟩] 9)) from KA1.out.trans (kpt_alloc b _ _))
         replace KF:Hid _:=(show Kpt b _ (uc.alloc (.cells #[.string ⟨#[73]⟩,.string ⟨#[76,65,59]⟩,.string ⟨#[91,73]⟩] 9)) from KF.out.trans (kpt_alloc b _ _))
         have HLA2:Hid (∀ w',Kpt b (uc.alloc (.cells #[.string ⟨#[73]⟩,.string ⟨#[76,65,59]⟩,.string ⟨#[91,73]⟩] 9)) w'→∀ j,w'.cell? ⟨uc.heap.size,j,none⟩=(#[.string ⟨#[73]⟩,.string ⟨#[76,65,59]⟩,.string ⟨#[91,73]⟩]:Array Value)[j]?):=fun w' hk j=>(World.cell?_of_block (hk.block _ (by simp) (by show uc.heap.size ≠ b;omega))).trans (lit_at rfl)
         have KA2:Hid (Kpt b (uc.alloc (.cells #[.string ⟨#[73]⟩,.string ⟨#[76,65,59]⟩,.string ⟨#[91,73]⟩] 9)) (uc.alloc (.cells #[.string ⟨#[73]⟩,.string ⟨#[76,65,59]⟩,.string ⟨#[91,73]⟩] 9))):=Kpt.refl _ _
         have hzA2:uc.heap.size<(uc.alloc (.cells #[.string ⟨#[73]⟩,.string ⟨#[76,65,59]⟩,.string ⟨#[91,73]⟩] 9)).heap.size:=by simp
         generalize hgA2:uc.heap.size=gA2 at *
         generalize uc.alloc (.cells #[.string ⟨#[73]⟩,.string ⟨#[76,65,59]⟩,.string ⟨#[91,73]⟩] 9)=uc at *
         refine hK.out _ _ (HS1.out _ KA1.out) (fun hHeld=>?_)
         clear hK K
         (try simp only [Act.put,List.getElem_toArray,List.getElem_cons_zero,List.getElem_cons_succ,List.setIfInBounds_toArray,List.set_cons_zero,List.set_cons_succ])
         have d_A2:=trivial)
      | (have d_:=d_A2
         clear d_
         have d_:=d_P
         clear d_
         refine wpAnyH_ready (rs:=[0,10,12]) (by kernel_rfl) (by simp) ?_
         refine AllReadyH.cons rfl (fun K hK=>?_) (AllReadyH.cons rfl (fun K hK=>?_) (AllReadyH.cons rfl (fun K hK=>?_) AllReadyH.nil))
         simp only [List.getElem_toArray,List.getElem_cons_zero]
         go_simp
         have hbA1:b<uc.heap.size∧w1.heap.size<uc.heap.size:=by have h1:=G.out.lt;have h2:=G.out.hq;omega
         replace G:Hid (CX ρ b w (uc.alloc (.cells #[.string ⟨#[120]⟩,.string ⟨#[121]⟩,.string ⟨#[122]⟩] 9)) w1.heap.size n0 s0 n 0):=G.out.lit _
         replace K0:Hid (Kpt b wr (uc.alloc (.cells #[.string ⟨#[120]⟩,.string ⟨#[121]⟩,.string ⟨#[122]⟩] 9))):=K0.out.trans (kpt_alloc b _ _)
         replace KA2:Hid _:=(show Kpt b _ (uc.alloc (.cells #[.string ⟨#[120]⟩,.string ⟨#[121]⟩,.string ⟨#[122]⟩] 9)) from KA2.out.trans (kpt_alloc b _ _))
         have HLA1:Hid (∀ w',Kpt b (uc.alloc (.cells #[.string ⟨#[120]⟩,.string ⟨#[121]⟩,.string ⟨#[122]⟩] 9)) w'→∀ j,w'.cell? ⟨uc.heap.size,j,none⟩=(#[.string ⟨#[120]⟩,.string ⟨#[121]⟩,.string ⟨#[122]⟩]:Array Value)[j]?):=fun w' hk j=>(World.cell?_of_block (hk.block _ (by simp) (by show uc.heap.size ≠ b;omega))).trans (lit_at rfl)
         have KA1:Hid (Kpt b (uc.alloc (.cells #[.string ⟨#[120]⟩,.string ⟨#[121]⟩,.string ⟨#[122]⟩] 9)) (uc.alloc (.cells #[.string ⟨#[120]⟩,.string ⟨#[121]⟩,.string ⟨#[122]⟩] 9))):=Kpt.refl _ _
         have hzA1:uc.heap.size<(uc.alloc (.cells #[.string ⟨#[120]⟩,.string ⟨#[121]⟩,.string ⟨#[122]⟩] 9)).heap.size:=by simp
         generalize hgA1:uc.heap.size=gA1 at *
         generalize uc.alloc (.cells #[.string ⟨#[120]⟩,.string ⟨#[121]⟩,.string ⟨#[122]⟩] 9)=uc at *
         have HS1:Hid (∀ w',Kpt b uc w'→w'.cell? ⟨w1.heap.size,4,none⟩=some (.slice fp c.fs.length fc)∧w'.cell? ⟨gA1,c.fs.length,none⟩=some (.string xi)):=fun w' hk=>⟨HS0.out _ (K0.out.trans hk),(HLA1.out _ hk _).trans hxi.out⟩
         refine hK.out _ _ (HS0.out _ K0.out) (fun hHeld=>?_)
         clear hK K
         (try simp only [Act.put,List.getElem_toArray,List.getElem_cons_zero,List.getElem_cons_succ,List.setIfInBounds_toArray,List.set_cons_zero,List.set_cons_succ])
         refine wpAnyH_strong (S':=fun w'=>w'.cell? ⟨w1.heap.size,4,none⟩=some (.slice fp c.fs.length fc)∧w'.cell? ⟨gA1,c.fs.length,none⟩=some (.string xi)) (fun _ h=>h.1) _ _ _ _ ?_
         replace hHeld:=HS1.out _ KA1.out
         refine wpAnyH_take (i:=4) rfl (by kernel_rfl) (by kernel_rfl) (by kernel_rfl) (fun _ _ _ h=>h) (.inl ⟨by kernel_rfl,by intro w hSw;(try dsimp only at hSw);go_simp;rw [if_pos (by omega)]⟩) hHeld ?_
         (try simp only [Act.put,List.getElem_toArray,List.getElem_cons_zero,List.getElem_cons_succ,List.setIfInBounds_toArray,List.set_cons_zero,List.set_cons_succ])
         refine wpAnyH_take (i:=5) rfl (by kernel_rfl) (by kernel_rfl) (by kernel_rfl) (fun _ _ _ h=>h) (.inl ⟨by kernel_rfl,by intro w hSw;(try dsimp only at hSw);go_simp;try with_reducible rfl⟩) hHeld ?_
         (try simp only [Act.put,List.getElem_toArray,List.getElem_cons_zero,List.getElem_cons_succ,List.setIfInBounds_toArray,List.set_cons_zero,List.set_cons_succ])
         have d_A1:=trivial
         rotate_left
         simp only [List.getElem_toArray,List.getElem_cons_zero,List.getElem_cons_succ]
         go_simp
         refine Calls.mono (srcOne b _ 3 (by decide) (by decide) G.out.src) ?_
         rintro e uc ⟨r2,rfl,hs,ho'⟩
         replace G:Hid (CX ρ b w uc w1.heap.size n0 s0 n 0):=G.out.call hs ho'.kept
         replace K0:Hid (Kpt b wr uc):=K0.out.trans ho'.kept
         replace KA2:Hid _:=(show Kpt b _ uc from KA2.out.trans ho'.kept)
         clear hs ho'
         refine hK.out _ _ (HS0.out _ K0.out) (fun hHeld=>?_)
         clear hK K
         (try simp only [Act.put,List.getElem_toArray,List.getElem_cons_zero,List.getElem_cons_succ,List.setIfInBounds_toArray,List.set_cons_zero,List.set_cons_succ])
         have d_O:=trivial
         rotate_left
         simp only [List.getElem_toArray,List.getElem_cons_zero,List.getElem_cons_succ]
         go_simp
         have hbF:b<uc.heap.size∧w1.heap.size<uc.heap.size:=by have h1:=G.out.lt;have h2:=G.out.hq;omega
         have GF:=G
         replace G:Hid (CX ρ b w (uc.alloc (.cells #[.string ⟨#[]⟩,.string ⟨#[]⟩,.bool false] 61)) w1.heap.size n0 s0 n 0):=G.out.lit _
         replace K0:Hid (Kpt b wr (uc.alloc (.cells #[.string ⟨#[]⟩,.string ⟨#[]⟩,.bool false] 61))):=K0.out.trans (kpt_alloc b _ _)
         replace KA2:Hid _:=(show Kpt b _ (uc.alloc (.cells #[.string ⟨#[]⟩,.string ⟨#[]⟩,.bool false] 61)) from KA2.out.trans (kpt_alloc b _ _))
         have HLF:Hid (∀ w',Kpt b (uc.alloc (.cells #[.string ⟨#[]⟩,.string ⟨#[]⟩,.bool false] 61)) w'→∀ j,w'.cell? ⟨uc.heap.size,j,none⟩=(#[.string ⟨#[]⟩,.string ⟨#[]⟩,.bool false]:Array Value)[j]?):=fun w' hk j=>(World.cell?_of_block (hk.block _ (by simp) (by show uc.heap.size ≠ b;omega))).trans (lit_at rfl)
         have HFF:Hid (∀ w',Kpt b (uc.alloc (.cells #[.string ⟨#[]⟩,.string ⟨#[]⟩,.bool false] 61)) w'→∀ j,w'.frozen? ⟨uc.heap.size,j,none⟩=false):=fun w' hk j=>(World.frozen?_of_block (hk.block _ (by simp) (by show uc.heap.size ≠ b;omega))).trans (by simp [go_sem])
         have KG:Hid (Kpt b uc (uc.alloc (.cells #[.string ⟨#[]⟩,.string ⟨#[]⟩,.bool false] 61))):=kpt_alloc b _ _
         have KF:Hid (Kpt b (uc.alloc (.cells #[.string ⟨#[]⟩,.string ⟨#[]⟩,.bool false] 61)) (uc.alloc (.cells #[.string ⟨#[]⟩,.string ⟨#[]⟩,.bool false] 61))):=Kpt.refl _ _
         have hzF:uc.heap.size<(uc.alloc (.cells #[.string ⟨#[]⟩,.string ⟨#[]⟩,.bool false] 61)).heap.size:=by simp
         generalize hgF:uc.heap.size=gF at *
         generalize uc.alloc (.cells #[.string ⟨#[]⟩,.string ⟨#[]⟩,.bool false] 61)=uc at *
         refine hK.out _ _ (HS0.out _ K0.out) (fun hHeld=>?_)
         clear hK K
         (try simp only [Act.put,List.getElem_toArray,List.getElem_cons_zero,List.getElem_cons_succ,List.setIfInBounds_toArray,List.set_cons_zero,List.set_cons_succ])
         have d_F:=trivial
         rotate_left)
      | (have d_:=d_A2
         clear d_
         have d_:=d_F
         clear d_
         refine wpAnyH_ready (rs:=[0,8]) (by kernel_rfl) (by simp) ?_
         refine AllReadyH.cons rfl (fun K hK=>?_) (AllReadyH.cons rfl (fun K hK=>?_) AllReadyH.nil)
         simp only [List.getElem_toArray,List.getElem_cons_zero]
         go_simp
         have hbA1:b<uc.heap.size∧w1.heap.size<uc.heap.size:=by have h1:=G.out.lt;have h2:=G.out.hq;omega
         have hAF:gF<uc.heap.size:=by have:=KF.out.size;omega
         replace G:Hid (CX ρ b w (uc.alloc (.cells #[.string ⟨#[120]⟩,.string ⟨#[121]⟩,.string ⟨#[122]⟩] 9)) w1.heap.size n0 s0 n 0):=G.out.lit _
         replace K0:Hid (Kpt b wr (uc.alloc (.cells #[.string ⟨#[120]⟩,.string ⟨#[121]⟩,.string ⟨#[122]⟩] 9))):=K0.out.trans (kpt_alloc b _ _)
         replace KA2:Hid _:=(show Kpt b _ (uc.alloc (.cells #[.string ⟨#[120]⟩,.string ⟨#[121]⟩,.string ⟨#[122]⟩] 9)) from KA2.out.trans (kpt_alloc b _ _))
         replace KF:Hid _:=(show Kpt b _ (uc.alloc (.cells #[.string ⟨#[120]⟩,.string ⟨#[121]⟩,.string ⟨#[122]⟩] 9)) from KF.out.trans (kpt_alloc b _ _))
         have HLA1:Hid (∀ w',Kpt b (uc.alloc (.cells #[.string ⟨#[120]⟩,.string ⟨#[121]⟩,.string ⟨#[122]⟩] 9)) w'→∀ j,w'.cell? ⟨uc.heap.size,j,none⟩=(#[.string ⟨#[120]⟩,.string ⟨#[121]⟩,.string ⟨#[122]⟩]:Array Value)[j]?):=fun w' hk j=>(World.cell?_of_block (hk.block _ (by simp) (by show uc.heap.size ≠ b;omega))).trans (lit_at rfl)
         have KA1:Hid (Kpt b (uc.alloc (.cells #[.string ⟨#[120]⟩,.string ⟨#[121]⟩,.string ⟨#[122]⟩] 9)) (uc.alloc (.cells #[.string ⟨#[120]⟩,.string ⟨#[121]⟩,.string ⟨#[122]⟩] 9))):=Kpt.refl _ _
         have hzA1:uc.heap.size<(uc.alloc (.cells #[.string ⟨#[120]⟩,.string ⟨#[121]⟩,.string ⟨#[122]⟩] 9)).heap.size:=by simp
         generalize hgA1:uc.heap.size=gA1 at *
         generalize uc.alloc (.cells #[.string ⟨#[120]⟩,.string ⟨#[121]⟩,.string ⟨#[122]⟩] 9)=uc at *
         have HS1:Hid (∀ w',Kpt b uc w'→w'.cell? ⟨w1.heap.size,4,none⟩=some (.slice fp c.fs.length fc)∧w'.cell? ⟨gA1,c.fs.length,none⟩=some (.string xi)):=fun w' hk=>⟨HS0.out _ (K0.out.trans hk),(HLA1.out _ hk _).trans hxi.out⟩
         refine hK.out _ _ (HS0.out _ K0.out) (fun hHeld=>?_)
         clear hK K
         (try simp only [Act.put,List.getElem_toArray,List.getElem_cons_zero,List.getElem_cons_succ,List.setIfInBounds_toArray,List.set_cons_zero,List.set_cons_succ])
         refine wpAnyH_strong (S':=fun w'=>w'.cell? ⟨w1.heap.size,4,none⟩=some (.slice fp c.fs.length fc)∧w'.cell? ⟨gA1,c.fs.length,none⟩=some (.string xi)) (fun _ h=>h.1) _ _ _ _ ?_
         replace hHeld:=HS1.out _ KA1.out
         refine wpAnyH_take (i:=4) rfl (by kernel_rfl) (by kernel_rfl) (by kernel_rfl) (fun _ _ _ h=>h) (.inl ⟨by kernel_rfl,by intro w hSw;(try dsimp only at hSw);go_simp;rw [if_pos (by omega)]⟩) hHeld ?_
         (try simp only [Act.put,List.getElem_toArray,List.getElem_cons_zero,List.getElem_cons_succ,List.setIfInBounds_toArray,List.set_cons_zero,List.set_cons_succ])
         refine wpAnyH_take (i:=5) rfl (by kernel_rfl) (by kernel_rfl) (by kernel_rfl) (fun _ _ _ h=>h) (.inl ⟨by kernel_rfl,by intro w hSw;(try dsimp only at hSw);go_simp;try with_reducible rfl⟩) hHeld ?_
         (try simp only [Act.put,List.getElem_toArray,List.getElem_cons_zero,List.getElem_cons_succ,List.setIfInBounds_toArray,List.set_cons_zero,List.set_cons_succ])
         have d_A1:=trivial
         rotate_left
         simp only [List.getElem_toArray,List.getElem_cons_zero,List.getElem_cons_succ]
         go_simp
         refine Calls.mono (srcPick b _ 3 [⟨#[73]⟩,⟨#[76,65,59]⟩,⟨#[91,73]⟩] _ rfl (by decide) (by decide) G.out.src (by omega) (by intro j hj;rw [HLA2.out _ KA2.out j];match j,hj with | 0,_ | 1,_ | 2,_=>rfl)) ?_
         rintro e uc ⟨t,rfl,ht,hs,ho'⟩
         have htU:t ∈ U:=mU15 ht
         replace G:Hid (CX ρ b w uc w1.heap.size n0 s0 n 0):=G.out.call hs ho'.kept
         replace K0:Hid (Kpt b wr uc):=K0.out.trans ho'.kept
         replace KA2:Hid _:=(show Kpt b _ uc from KA2.out.trans ho'.kept)
         replace KF:Hid _:=(show Kpt b _ uc from KF.out.trans ho'.kept)
         clear hs ho' ht
         refine hK.out _ _ (HS0.out _ K0.out) (fun hHeld=>?_)
         clear hK K
         (try simp only [Act.put,List.getElem_toArray,List.getElem_cons_zero,List.getElem_cons_succ,List.setIfInBounds_toArray,List.set_cons_zero,List.set_cons_succ])
         have d_P:=trivial
         rotate_left)
     all_goals first
      | (have d_:=d_A1
         clear d_
         have d_:=d_A2
         clear d_
         have d_:=d_P
         clear d_
         refine wpAnyH_ready (rs:=[10,12]) (by kernel_rfl) (by simp) ?_
         refine AllReadyH.cons rfl (fun K hK=>?_) (AllReadyH.cons rfl (fun K hK=>?_) AllReadyH.nil)
         simp only [List.getElem_toArray,List.getElem_cons_zero,List.getElem_cons_succ]
         go_simp
         refine Calls.mono (srcOne b _ 3 (by decide) (by decide) G.out.src) ?_
         rintro e uc ⟨r2,rfl,hs,ho'⟩
         replace G:Hid (CX ρ b w uc w1.heap.size n0 s0 n 0):=G.out.call hs ho'.kept
         replace K0:Hid (Kpt b wr uc):=K0.out.trans ho'.kept
         replace KA1:Hid _:=(show Kpt b _ uc from KA1.out.trans ho'.kept)
         replace KA2:Hid _:=(show Kpt b _ uc from KA2.out.trans ho'.kept)
         clear hs ho'
         refine hK.out _ _ (HS1.out _ KA1.out) (fun hHeld=>?_)
         clear hK K
         (try simp only [Act.put,List.getElem_toArray,List.getElem_cons_zero,List.getElem_cons_succ,List.setIfInBounds_toArray,List.set_cons_zero,List.set_cons_succ])
         refine wpAnyH_take (i:=11) rfl (by kernel_rfl) (by kernel_rfl) (by kernel_rfl) (fun _ _ _ h=>h) (.inl ⟨by kernel_rfl,by intro w hSw;(try dsimp only at hSw);go_simp;try with_reducible rfl⟩) hHeld ?_
         (try simp only [Act.put,List.getElem_toArray,List.getElem_cons_zero,List.getElem_cons_succ,List.setIfInBounds_toArray,List.set_cons_zero,List.set_cons_succ])
         have d_O:=trivial
         rotate_left
         simp only [List.getElem_toArray,List.getElem_cons_zero,List.getElem_cons_succ]
         go_simp
         have hbF:b<uc.heap.size∧w1.heap.size<uc.heap.size:=by have h1:=G.out.lt;have h2:=G.out.hq;omega
         have hAF:gA1<uc.heap.size:=by have:=KA1.out.size;omega
         have GF:=G
         replace G:Hid (CX ρ b w (uc.alloc (.cells #[.string ⟨#[]⟩,.string ⟨#[]⟩,.bool false] 61)) w1.heap.size n0 s0 n 0):=G.out.lit _
         replace K0:Hid (Kpt b wr (uc.alloc (.cells #[.string ⟨#[]⟩,.string ⟨#[]⟩,.bool false] 61))):=K0.out.trans (kpt_alloc b _ _)
         replace KA1:Hid _:=(show Kpt b _ (uc.alloc (.cells #[.string ⟨#[]⟩,.string ⟨#[]⟩,.bool false] 61)) from KA1.out.trans (kpt_alloc b _ _))
         replace KA2:Hid _:=(show Kpt b _ (uc.alloc (.cells #[.string ⟨#[]⟩,.string ⟨#[]⟩,.bool false] 61)) from KA2.out.trans (kpt_alloc b _ _))
         have HLF:Hid (∀ w',Kpt b (uc.alloc (.cells #[.string ⟨#[]⟩,.string ⟨#[]⟩,.bool false] 61)) w'→∀ j,w'.cell? ⟨uc.heap.size,j,none⟩=(#[.string ⟨#[]⟩,.string ⟨#[]⟩,.bool false]:Array Value)[j]?):=fun w' hk j=>(World.cell?_of_block (hk.block _ (by simp) (by show uc.heap.size ≠ b;omega))).trans (lit_at rfl)
         have HFF:Hid (∀ w',Kpt b (uc.alloc (.cells #[.string ⟨#[]⟩,.string ⟨#[]⟩,.bool false] 61)) w'→∀ j,w'.frozen? ⟨uc.heap.size,j,none⟩=false):=fun w' hk j=>(World.frozen?_of_block (hk.block _ (by simp) (by show uc.heap.size ≠ b;omega))).trans (by simp [go_sem])
         have KG:Hid (Kpt b uc (uc.alloc (.cells #[.string ⟨#[]⟩,.string ⟨#[]⟩,.bool false] 61))):=kpt_alloc b _ _
         have KF:Hid (Kpt b (uc.alloc (.cells #[.string ⟨#[]⟩,.string ⟨#[]⟩,.bool false] 61)) (uc.alloc (.cells #[.string ⟨#[]⟩,.string ⟨#[]⟩,.bool false] 61))):=Kpt.refl _ _
         have hzF:uc.heap.size<(uc.alloc (.cells #[.string ⟨#[]⟩,.string ⟨#[]⟩,.bool false] 61)).heap.size:=by simp
         generalize hgF:uc.heap.size=gF at *
         generalize uc.alloc (.cells #[.string ⟨#[]⟩,.string ⟨#[]⟩,.bool false] 61)=uc at *
         refine hK.out _ _ (HS1.out _ KA1.out) (fun hHeld=>?_)
         clear hK K
         (try simp only [Act.put,List.getElem_toArray,List.getElem_cons_zero,List.getElem_cons_succ,List.setIfInBounds_toArray,List.set_cons_zero,List.set_cons_succ])
         have d_F:=trivial
         rotate_left)
      | (have d_:=d_A1
         clear d_
         have d_:=d_A2
         clear d_
         have d_:=d_F
         clear d_
         refine wpAnyH_ready (rs:=[8]) (by kernel_rfl) (by simp) ?_
         refine AllReadyH.cons rfl (fun K hK=>?_) AllReadyH.nil
         simp only [List.getElem_toArray,List.getElem_cons_zero,List.getElem_cons_succ]
         go_simp
         refine Calls.mono (srcPick b _ 3 [⟨#[73]⟩,⟨#[76,65,59]⟩,⟨#[91,73]⟩] _ rfl (by decide) (by decide) G.out.src (by omega) (by intro j hj;rw [HLA2.out _ KA2.out j];match j,hj with | 0,_ | 1,_ | 2,_=>rfl)) ?_
         rintro e uc ⟨t,rfl,ht,hs,ho'⟩
         have htU:t ∈ U:=mU15 ht
         replace G:Hid (CX ρ b w uc w1.heap.size n0 s0 n 0):=G.out.call hs ho'.kept
         replace K0:Hid (Kpt b wr uc):=K0.out.trans ho'.kept
         replace KA1:Hid _:=(show Kpt b _ uc from KA1.out.trans ho'.kept)
         replace KA2:Hid _:=(show Kpt b _ uc from KA2.out.trans ho'.kept)
         replace KF:Hid _:=(show Kpt b _ uc from KF.out.trans ho'.kept)
         clear hs ho' ht
         refine hK.out _ _ (HS1.out _ KA1.out) (fun hHeld=>?_)
         clear hK K
         (try simp only [Act.put,List.getElem_toArray,List.getElem_cons_zero,List.getElem_cons_succ,List.setIfInBounds_toArray,List.set_cons_zero,List.set_cons_succ])
         have d_P:=trivial)
      | (have d_:=d_A2
         clear d_
         have d_:=d_O
         clear d_
         have d_:=d_P
         clear d_
         refine wpAnyH_ready (rs:=[0,12]) (by kernel_rfl) (by simp) ?_
         refine AllReadyH.cons rfl (fun K hK=>?_) (AllReadyH.cons rfl (fun K hK=>?_) AllReadyH.nil)
         simp only [List.getElem_toArray,List.getElem_cons_zero]
         go_simp
         have hbA1:b<uc.heap.size∧w1.heap.size<uc.heap.size:=by have h1:=G.out.lt;have h2:=G.out.hq;omega
         replace G:Hid (CX ρ b w (uc.alloc (.cells #[.string ⟨#[120]⟩,.string ⟨#[121]⟩,.string ⟨#[122]⟩] 9)) w1.heap.size n0 s0 n 0):=G.out.lit _
         replace K0:Hid (Kpt b wr (uc.alloc (.cells #[.string ⟨#[120]⟩,.string ⟨#[121]⟩,.string ⟨#[122]⟩] 9))):=K0.out.trans (kpt_alloc b _ _)
         replace KA2:Hid _:=(show Kpt b _ (uc.alloc (.cells #[.string ⟨#[120]⟩,.string ⟨#[121]⟩,.string ⟨#[122]⟩] 9)) from KA2.out.trans (kpt_alloc b _ _))
         have HLA1:Hid (∀ w',Kpt b (uc.alloc (.cells #[.string ⟨#[120]⟩,.string ⟨#[121]⟩,.string ⟨#[122]⟩] 9)) w'→∀ j,w'.cell? ⟨uc.heap.size,j,none⟩=(#[.string ⟨#[120]⟩,.string ⟨#[121]⟩,.string ⟨#[122]⟩]:Array Value)[j]?):=fun w' hk j=>(World.cell?_of_block (hk.block _ (by simp) (by show uc.heap.size ≠ b;omega))).trans (lit_at rfl)
         have KA1:Hid (Kpt b (uc.alloc (.cells #[.string ⟨#[120]⟩,.string ⟨#[121]⟩,.string ⟨#[122]⟩] 9)) (uc.alloc (.cells #[.string ⟨#[120]⟩,.string ⟨#[121]⟩,.string ⟨#[122]⟩] 9))):=Kpt.refl _ _
         have hzA1:uc.heap.size<(uc.alloc (.cells #[.string ⟨#[120]⟩,.string ⟨#[121]⟩,.string ⟨#[122]⟩] 9)).heap.size:=by simp
         generalize hgA1:uc.heap.size=gA1 at *
         generalize uc.alloc (.cells #[.string ⟨#[120]⟩,.string ⟨#[121]⟩,.string ⟨#[122]⟩] 9)=uc at *
         have HS1:Hid (∀ w',Kpt b uc w'→w'.cell? ⟨w1.heap.size,4,none⟩=some (.slice fp c.fs.length fc)∧w'.cell? ⟨gA1,c.fs.length,none⟩=some (.string xi)):=fun w' hk=>⟨HS0.out _ (K0.out.trans hk),(HLA1.out _ hk _).trans hxi.out⟩
         refine hK.out _ _ (HS0.out _ K0.out) (fun hHeld=>?_)
         clear hK K
         (try simp only [Act.put,List.getElem_toArray,List.getElem_cons_zero,List.getElem_cons_succ,List.setIfInBounds_toArray,List.set_cons_zero,List.set_cons_succ])
         refine wpAnyH_strong (S':=fun w'=>w'.cell? ⟨w1.heap.size,4,none⟩=some (.slice fp c.fs.length fc)∧w'.cell? ⟨gA1,c.fs.length,none⟩=some (.string xi)) (fun _ h=>h.1) _ _ _ _ ?_
         replace hHeld:=HS1.out _ KA1.out
         refine wpAnyH_take (i:=4) rfl (by kernel_rfl) (by kernel_rfl) (by kernel_rfl) (fun _ _ _ h=>h) (.inl ⟨by kernel_rfl,by intro w hSw;(try dsimp only at hSw);go_simp;rw [if_pos (by omega)]⟩) hHeld ?_
         (try simp only [Act.put,List.getElem_toArray,List.getElem_cons_zero,List.getElem_cons_succ,List.setIfInBounds_toArray,List.set_cons_zero,List.set_cons_succ])
         refine wpAnyH_take (i:=5) rfl (by kernel_rfl) (by kernel_rfl) (by kernel_rfl) (fun _ _ _ h=>h) (.inl ⟨by kernel_rfl,by intro w hSw;(try dsimp only at hSw);go_simp;try with_reducible rfl⟩) hHeld ?_
         (try simp only [Act.put,List.getElem_toArray,List.getElem_cons_zero,List.getElem_cons_succ,List.setIfInBounds_toArray,List.set_cons_zero,List.set_cons_succ])
         refine wpAnyH_take (i:=11) rfl (by kernel_rfl) (by kernel_rfl) (by kernel_rfl) (fun _ _ _ h=>h) (.inl ⟨by kernel_rfl,by intro w hSw;(try dsimp only at hSw);go_simp;try with_reducible rfl⟩) hHeld ?_
         (try simp only [Act.put,List.getElem_toArray,List.getElem_cons_zero,List.getElem_cons_succ,List.setIfInBounds_toArray,List.set_cons_zero,List.set_cons_succ])
         have d_A1:=trivial
         rotate_left
         simp only [List.getElem_toArray,List.getElem_cons_zero,List.getElem_cons_succ]
         go_simp
         have hbF:b<uc.heap.size∧w1.heap.size<uc.heap.size:=by have h1:=G.out.lt;have h2:=G.out.hq;omega
         have GF:=G
         replace G:Hid (CX ρ b w (uc.alloc (.cells #[.string ⟨#[]⟩,.string ⟨#[]⟩,.bool false] 61)) w1.heap.size n0 s0 n 0):=G.out.lit _
         replace K0:Hid (Kpt b wr (uc.alloc (.cells #[.string ⟨#[]⟩,.string ⟨#[]⟩,.bool false] 61))):=K0.out.trans (kpt_alloc b _ _)
         replace KA2:Hid _:=(show Kpt b _ (uc.alloc (.cells #[.string ⟨#[]⟩,.string ⟨#[]⟩,.bool false] 61)) from KA2.out.trans (kpt_alloc b _ _))
         have HLF:Hid (∀ w',Kpt b (uc.alloc (.cells #[.string ⟨#[]⟩,.string ⟨#[]⟩,.bool false] 61)) w'→∀ j,w'.cell? ⟨uc.heap.size,j,none⟩=(#[.string ⟨#[]⟩,.string ⟨#[]⟩,.bool false]:Array Value)[j]?):=fun w' hk j=>(World.cell?_of_block (hk.block _ (by simp) (by show uc.heap.size ≠ b;omega))).trans (lit_at rfl)
         have HFF:Hid (∀ w',Kpt b (uc.alloc (.cells #[.string ⟨#[]⟩,.string ⟨#[]⟩,.bool false] 61)) w'→∀ j,w'.frozen? ⟨uc.heap.size,j,none⟩=false):=fun w' hk j=>(World.frozen?_of_block (hk.block _ (by simp) (by show uc.heap.size ≠ b;omega))).trans (by simp [go_sem])
         have KG:Hid (Kpt b uc (uc.alloc (.cells #[.string ⟨#[]⟩,.string ⟨#[]⟩,.bool false] 61))):=kpt_alloc b _ _
         have KF:Hid (Kpt b (uc.alloc (.cells #[.string ⟨#[]⟩,.string ⟨#[]⟩,.bool false] 61)) (uc.alloc (.cells #[.string ⟨#[]⟩,.string ⟨#[]⟩,.bool false] 61))):=Kpt.refl _ _
         have hzF:uc.heap.size<(uc.alloc (.cells #[.string ⟨#[]⟩,.string ⟨#[]⟩,.bool false] 61)).heap.size:=by simp
         generalize hgF:uc.heap.size=gF at *
         generalize uc.alloc (.cells #[.string ⟨#[]⟩,.string ⟨#[]⟩,.bool false] 61)=uc at *
         refine hK.out _ _ (HS0.out _ K0.out) (fun hHeld=>?_)
         clear hK K
         (try simp only [Act.put,List.getElem_toArray,List.getElem_cons_zero,List.getElem_cons_succ,List.setIfInBounds_toArray,List.set_cons_zero,List.set_cons_succ])
         have d_F:=trivial
         rotate_left)
      | (have d_:=d_A2
         clear d_
         have d_:=d_F
         clear d_
         have d_:=d_P
         clear d_
         refine wpAnyH_ready (rs:=[0,10]) (by kernel_rfl) (by simp) ?_
         refine AllReadyH.cons rfl (fun K hK=>?_) (AllReadyH.cons rfl (fun K hK=>?_) AllReadyH.nil)
         simp only [List.getElem_toArray,List.getElem_cons_zero]
         go_simp
         have hbA1:b<uc.heap.size∧w1.heap.size<uc.heap.size:=by have h1:=G.out.lt;have h2:=G.out.hq;omega
         have hAF:gF<uc.heap.size:=by have:=KF.out.size;omega
         replace G:Hid (CX ρ b w (uc.alloc (.cells #[.string ⟨#[120]⟩,.string ⟨#[121]⟩,.string ⟨#[122]⟩] 9)) w1.heap.size n0 s0 n 0):=G.out.lit _
         replace K0:Hid (Kpt b wr (uc.alloc (.cells #[.string ⟨#[120]⟩,.string ⟨#[121]⟩,.string ⟨#[122]⟩] 9))):=K0.out.trans (kpt_alloc b _ _)
         replace KA2:Hid _:=(show Kpt b _ (uc.alloc (.cells #[.string ⟨#[120]⟩,.string ⟨#[121]⟩,.string ⟨#[122]⟩] 9)) from KA2.out.trans (kpt_alloc b _ _))
         replace KF:Hid _:=(show Kpt b _ (uc.alloc (.cells #[.string ⟨#[120]⟩,.string ⟨#[121]⟩,.string ⟨#[122]⟩] 9)) from KF.out.trans (kpt_alloc b _ _))
         have HLA1:Hid (∀ w',Kpt b (uc.alloc (.cells #[.string ⟨#[120]⟩,.string ⟨#[121]⟩,.string ⟨#[122]⟩] 9)) w'→∀ j,w'.cell? ⟨uc.heap.size,j,none⟩=(#[.string ⟨#[120]⟩,.string ⟨#[121]⟩,.string ⟨#[122]⟩]:Array Value)[j]?):=fun w' hk j=>(World.cell?_of_block (hk.block _ (by simp) (by show uc.heap.size ≠ b;omega))).trans (lit_at rfl)
         have KA1:Hid (Kpt b (uc.alloc (.cells #[.string ⟨#[120]⟩,.string ⟨#[121]⟩,.string ⟨#[122]⟩] 9)) (uc.alloc (.cells #[.string ⟨#[120]⟩,.string ⟨#[121]⟩,.string ⟨#[122]⟩] 9))):=Kpt.refl _ _
         have hzA1:uc.heap.size<(uc.alloc (.cells #[.string ⟨#[120]⟩,.string ⟨#[121]⟩,.string ⟨#[122]⟩] 9)).heap.size:=by simp
         generalize hgA1:uc.heap.size=gA1 at *
         generalize uc.alloc (.cells #[.string ⟨#[120]⟩,.string ⟨#[121]⟩,.string ⟨#[122]⟩] 9)=uc at *
         have HS1:Hid (∀ w',Kpt b uc w'→w'.cell? ⟨w1.heap.size,4,none⟩=some (.slice fp c.fs.length fc)∧w'.cell? ⟨gA1,c.fs.length,none⟩=some (.string xi)):=fun w' hk=>⟨HS0.out _ (K0.out.trans hk),(HLA1.out _ hk _).trans hxi.out⟩
         refine hK.out _ _ (HS0.out _ K0.out) (fun hHeld=>?_)
         clear hK K
         (try simp only [Act.put,List.getElem_toArray,List.getElem_cons_zero,List.getElem_cons_succ,List.setIfInBounds_toArray,List.set_cons_zero,List.set_cons_succ])
         refine wpAnyH_strong (S':=fun w'=>w'.cell? ⟨w1.heap.size,4,none⟩=some (.slice fp c.fs.length fc)∧w'.cell? ⟨gA1,c.fs.length,none⟩=some (.string xi)) (fun _ h=>h.1) _ _ _ _ ?_
         replace hHeld:=HS1.out _ KA1.out
         refine wpAnyH_take (i:=4) rfl (by kernel_rfl) (by kernel_rfl) (by kernel_rfl) (fun _ _ _ h=>h) (.inl ⟨by kernel_rfl,by intro w hSw;(try dsimp only at hSw);go_simp;rw [if_pos (by omega)]⟩) hHeld ?_
         (try simp only [Act.put,List.getElem_toArray,List.getElem_cons_zero,List.getElem_cons_succ,List.setIfInBounds_toArray,List.set_cons_zero,List.set_cons_succ])
         refine wpAnyH_take (i:=5) rfl (by kernel_rfl) (by kernel_rfl) (by kernel_rfl) (fun _ _ _ h=>h) (.inl ⟨by kernel_rfl,by intro w hSw;(try dsimp only at hSw);go_simp;try with_reducible rfl⟩) hHeld ?_
         (try simp only [Act.put,List.getElem_toArray,List.getElem_cons_zero,List.getElem_cons_succ,List.setIfInBounds_toArray,List.set_cons_zero,List.set_cons_succ])
         have d_A1:=trivial
         rotate_left
         simp only [List.getElem_toArray,List.getElem_cons_zero,List.getElem_cons_succ]
         go_simp
         refine Calls.mono (srcOne b _ 3 (by decide) (by decide) G.out.src) ?_
         rintro e uc ⟨r2,rfl,hs,ho'⟩
         replace G:Hid (CX ρ b w uc w1.heap.size n0 s0 n 0):=G.out.call hs ho'.kept
         replace K0:Hid (Kpt b wr uc):=K0.out.trans ho'.kept
         replace KA2:Hid _:=(show Kpt b _ uc from KA2.out.trans ho'.kept)
         replace KF:Hid _:=(show Kpt b _ uc from KF.out.trans ho'.kept)
         clear hs ho'
         refine hK.out _ _ (HS0.out _ K0.out) (fun hHeld=>?_)
         clear hK K
         (try simp only [Act.put,List.getElem_toArray,List.getElem_cons_zero,List.getElem_cons_succ,List.setIfInBounds_toArray,List.set_cons_zero,List.set_cons_succ])
         have d_O:=trivial
         rotate_left)
     all_goals first
      | (have d_:=d_A1
         clear d_
         have d_:=d_A2
         clear d_
         have d_:=d_O
         clear d_
         have d_:=d_P
         clear d_
         refine wpAnyH_ready (rs:=[12]) (by kernel_rfl) (by simp) ?_
         refine AllReadyH.cons rfl (fun K hK=>?_) AllReadyH.nil
         simp only [List.getElem_toArray,List.getElem_cons_zero,List.getElem_cons_succ]
         go_simp
         have hbF:b<uc.heap.size∧w1.heap.size<uc.heap.size:=by have h1:=G.out.lt;have h2:=G.out.hq;omega
         have hAF:gA1<uc.heap.size:=by have:=KA1.out.size;omega
         have GF:=G
         replace G:Hid (CX ρ b w (uc.alloc (.cells #[.string ⟨#[]⟩,.string ⟨#[]⟩,.bool false] 61)) w1.heap.size n0 s0 n 0):=G.out.lit _
         replace K0:Hid (Kpt b wr (uc.alloc (.cells #[.string ⟨#[]⟩,.string ⟨#[]⟩,.bool false] 61))):=K0.out.trans (kpt_alloc b _ _)
         replace KA1:Hid _:=(show Kpt b _ (uc.alloc (.cells #[.string ⟨#[]⟩,.string ⟨#[]⟩,.bool false] 61)) from KA1.out.trans (kpt_alloc b _ _))
         replace KA2:Hid _:=(show Kpt b _ (uc.alloc (.cells #[.string ⟨#[]⟩,.string ⟨#[]⟩,.bool false] 61)) from KA2.out.trans (kpt_alloc b _ _))
         have HLF:Hid (∀ w',Kpt b (uc.alloc (.cells #[.string ⟨#[]⟩,.string ⟨#[]⟩,.bool false] 61)) w'→∀ j,w'.cell? ⟨uc.heap.size,j,none⟩=(#[.string ⟨#[]⟩,.string ⟨#[]⟩,.bool false]:Array Value)[j]?):=fun w' hk j=>(World.cell?_of_block (hk.block _ (by simp) (by show uc.heap.size ≠ b;omega))).trans (lit_at rfl)
         have HFF:Hid (∀ w',Kpt b (uc.alloc (.cells #[.string ⟨#[]⟩,.string ⟨#[]⟩,.bool false] 61)) w'→∀ j,w'.frozen? ⟨uc.heap.size,j,none⟩=false):=fun w' hk j=>(World.frozen?_of_block (hk.block _ (by simp) (by show uc.heap.size ≠ b;omega))).trans (by simp [go_sem])
         have KG:Hid (Kpt b uc (uc.alloc (.cells #[.string ⟨#[]⟩,.string ⟨#[]⟩,.bool false] 61))):=kpt_alloc b _ _
         have KF:Hid (Kpt b (uc.alloc (.cells #[.string ⟨#[]⟩,.string ⟨#[]⟩,.bool false] 61)) (uc.alloc (.cells #[.string ⟨#[]⟩,.string ⟨#[]⟩,.bool false] 61))):=Kpt.refl _ _
         have hzF:uc.heap.size<(uc.alloc (.cells #[.string ⟨#[]⟩,.string ⟨#[]⟩,.bool false] 61)).heap.size:=by simp
         generalize hgF:uc.heap.size=gF at *
         generalize uc.alloc (.cells #[.string ⟨#[]⟩,.string ⟨#[]⟩,.bool false] 61)=uc at *
         refine hK.out _ _ (HS1.out _ KA1.out) (fun hHeld=>?_)
         clear hK K
         (try simp only [Act.put,List.getElem_toArray,List.getElem_cons_zero,List.getElem_cons_succ,List.setIfInBounds_toArray,List.set_cons_zero,List.set_cons_succ])
         have d_F:=trivial)
      | (have d_:=d_A1
         clear d_
         have d_:=d_A2
         clear d_
         have d_:=d_F
         clear d_
         have d_:=d_P
         clear d_
         refine wpAnyH_ready (rs:=[10]) (by kernel_rfl) (by simp) ?_
         refine AllReadyH.cons rfl (fun K hK=>?_) AllReadyH.nil
         simp only [List.getElem_toArray,List.getElem_cons_zero,List.getElem_cons_succ]
         go_simp
         refine Calls.mono (srcOne b _ 3 (by decide) (by decide) G.out.src) ?_
         rintro e uc ⟨r2,rfl,hs,ho'⟩
         replace G:Hid (CX ρ b w uc w1.heap.size n0 s0 n 0):=G.out.call hs ho'.kept
         replace K0:Hid (Kpt b wr uc):=K0.out.trans ho'.kept
         replace KA1:Hid _:=(show Kpt b _ uc from KA1.out.trans ho'.kept)
         replace KA2:Hid _:=(show Kpt b _ uc from KA2.out.trans ho'.kept)
         replace KF:Hid _:=(show Kpt b _ uc from KF.out.trans ho'.kept)
         clear hs ho'
         refine hK.out _ _ (HS1.out _ KA1.out) (fun hHeld=>?_)
         clear hK K
         (try simp only [Act.put,List.getElem_toArray,List.getElem_cons_zero,List.getElem_cons_succ,List.setIfInBounds_toArray,List.set_cons_zero,List.set_cons_succ])
         refine wpAnyH_take (i:=11) rfl (by kernel_rfl) (by kernel_rfl) (by kernel_rfl) (fun _ _ _ h=>h) (.inl ⟨by kernel_rfl,by intro w hSw;(try dsimp only at hSw);go_simp;try with_reducible rfl⟩) hHeld ?_
         (try simp only [Act.put,List.getElem_toArray,List.getElem_cons_zero,List.getElem_cons_succ,List.setIfInBounds_toArray,List.set_cons_zero,List.set_cons_succ])
         have d_O:=trivial)
      | (have d_:=d_A2
         clear d_
         have d_:=d_F
         clear d_
         have d_:=d_O
         clear d_
         have d_:=d_P
         clear d_
         refine wpAnyH_ready (rs:=[0]) (by kernel_rfl) (by simp) ?_
         refine AllReadyH.cons rfl (fun K hK=>?_) AllReadyH.nil
         simp only [List.getElem_toArray,List.getElem_cons_zero]
         go_simp
         have hbA1:b<uc.heap.size∧w1.heap.size<uc.heap.size:=by have h1:=G.out.lt;have h2:=G.out.hq;omega
         have hAF:gF<uc.heap.size:=by have:=KF.out.size;omega
         replace G:Hid (CX ρ b w (uc.alloc (.cells #[.string ⟨#[120]⟩,.string ⟨#[121]⟩,.string ⟨#[122]⟩] 9)) w1.heap.size n0 s0 n 0):=G.out.lit _
         replace K0:Hid (Kpt b wr (uc.alloc (.cells #[.string ⟨#[120]⟩,.string ⟨#[121]⟩,.string ⟨#[122]⟩] 9))):=K0.out.trans (kpt_alloc b _ _)
         replace KA2:Hid _:=(show Kpt b _ (uc.alloc (.cells #[.string ⟨#[120]⟩,.string ⟨#[121]⟩,.string ⟨#[122]⟩] 9)) from KA2.out.trans (kpt_alloc b _ _))
         replace KF:Hid _:=(show Kpt b _ (uc.alloc (.cells #[.string ⟨#[120]⟩,.string ⟨#[121]⟩,.string ⟨#[122]⟩] 9)) from KF.out.trans (kpt_alloc b _ _))
         have HLA1:Hid (∀ w',Kpt b (uc.alloc (.cells #[.string ⟨#[120]⟩,.string ⟨#[121]⟩,.string ⟨#[122]⟩] 9)) w'→∀ j,w'.cell? ⟨uc.heap.size,j,none⟩=(#[.string ⟨#[120]⟩,.string ⟨#[121]⟩,.string ⟨#[122]⟩]:Array Value)[j]?):=fun w' hk j=>(World.cell?_of_block (hk.block _ (by simp) (by show uc.heap.size ≠ b;omega))).trans (lit_at rfl)
         have KA1:Hid (Kpt b (uc.alloc (.cells #[.string ⟨#[120]⟩,.string ⟨#[121]⟩,.string ⟨#[122]⟩] 9)) (uc.alloc (.cells #[.string ⟨#[120]⟩,.string ⟨#[121]⟩,.string ⟨#[122]⟩] 9))):=Kpt.refl _ _
         have hzA1:uc.heap.size<(uc.alloc (.cells #[.string ⟨#[120]⟩,.string ⟨#[121]⟩,.string ⟨#[122]⟩] 9)).heap.size:=by simp
         generalize hgA1:uc.heap.size=gA1 at *
         generalize uc.alloc (.cells #[.string ⟨#[120]⟩,.string ⟨#[121]⟩,.string ⟨#[122]⟩] 9)=uc at *
         have HS1:Hid (∀ w',Kpt b uc w'→w'.cell? ⟨w1.heap.size,4,none⟩=some (.slice fp c.fs.length fc)∧w'.cell? ⟨gA1,c.fs.length,none⟩=some (.string xi)):=fun w' hk=>⟨HS0.out _ (K0.out.trans hk),(HLA1.out _ hk _).trans hxi.out⟩
         refine hK.out _ _ (HS0.out _ K0.out) (fun hHeld=>?_)
         clear hK K
         (try simp only [Act.put,List.getElem_toArray,List.getElem_cons_zero,List.getElem_cons_succ,List.setIfInBounds_toArray,List.set_cons_zero,List.set_cons_succ])
         refine wpAnyH_strong (S':=fun w'=>w'.cell? ⟨w1.heap.size,4,none⟩=some (.slice fp c.fs.length fc)∧w'.cell? ⟨gA1,c.fs.length,none⟩=some (.string xi)) (fun _ h=>h.1) _ _ _ _ ?_
         replace hHeld:=HS1.out _ KA1.out
         refine wpAnyH_take (i:=4) rfl (by kernel_rfl) (by kernel_rfl) (by kernel_rfl) (fun _ _ _ h=>h) (.inl ⟨by kernel_rfl,by intro w hSw;(try dsimp only at hSw);go_simp;rw [if_pos (by omega)]⟩) hHeld ?_
         (try simp only [Act.put,List.getElem_toArray,List.getElem_cons_zero,List.getElem_cons_succ,List.setIfInBounds_toArray,List.set_cons_zero,List.set_cons_succ])
         refine wpAnyH_take (i:=5) rfl (by kernel_rfl) (by kernel_rfl) (by kernel_rfl) (fun _ _ _ h=>h) (.inl ⟨by kernel_rfl,by intro w hSw;(try dsimp only at hSw);go_simp;try with_reducible rfl⟩) hHeld ?_
         (try simp only [Act.put,List.getElem_toArray,List.getElem_cons_zero,List.getElem_cons_succ,List.setIfInBounds_toArray,List.set_cons_zero,List.set_cons_succ])
         refine wpAnyH_take (i:=11) rfl (by kernel_rfl) (by kernel_rfl) (by kernel_rfl) (fun _ _ _ h=>h) (.inl ⟨by kernel_rfl,by intro w hSw;(try dsimp only at hSw);go_simp;try with_reducible rfl⟩) hHeld ?_
         (try simp only [Act.put,List.getElem_toArray,List.getElem_cons_zero,List.getElem_cons_succ,List.setIfInBounds_toArray,List.set_cons_zero,List.set_cons_succ])
         have d_A1:=trivial)
     all_goals
      refine wpAnyH_ready (rs:=[13]) (by kernel_rfl) (by simp) ?_
      refine AllReadyH.cons rfl (fun K hK=>?_) AllReadyH.nil
      have f0:uc.cell? ⟨gF,0,none⟩=some (.string ⟨#[]⟩):=HLF.out _ KF.out 0
      have f1:uc.cell? ⟨gF,1,none⟩=some (.string ⟨#[]⟩):=HLF.out _ KF.out 1
      have f2:uc.cell? ⟨gF,2,none⟩=some (.bool false):=HLF.out _ KF.out 2
      have ff:∀ j,uc.frozen? ⟨gF,j,none⟩=false:=HFF.out _ KF.out
      have hq0:=GF.out.hq
      have SR:=G.out.src
      simp only [List.getElem_toArray,List.getElem_cons_zero,List.getElem_cons_succ]
      go_simp
      have XF:Hid (CX ρ b w (((uc.setCell ⟨gF,0,none⟩ (.string xi)).setCell ⟨gF,1,none⟩ (.string t)).setCell ⟨gF,2,none⟩ (.bool r2)) w1.heap.size n0 s0 n 0):=GF.out.call (((SR.off hr (by omega) (by omega)).off hr (by omega) (by omega)).off hr (by omega) (by omega)) ((((KG.out.trans KF.out).set (Nat.le_of_eq hgF)).set (Nat.le_of_eq hgF)).set (Nat.le_of_eq hgF))
      have hS1:=HS1.out _ KA1.out
      refine hK.out _ _ ⟨(off_block (by show w1.heap.size ≠ gF;omega)).trans ((off_block (by show w1.heap.size ≠ gF;omega)).trans ((off_block (by show w1.heap.size ≠ gF;omega)).trans hS1.1)),(off_block (by show gA1 ≠ gF;omega)).trans ((off_block (by show gA1 ≠ gF;omega)).trans ((off_block (by show gA1 ≠ gF;omega)).trans hS1.2))⟩ (fun hHeld=>?_)
      clear hK K
      (try simp only [Act.put,List.getElem_toArray,List.getElem_cons_zero,List.getElem_cons_succ,List.setIfInBounds_toArray,List.set_cons_zero,List.set_cons_succ])
      refine wpAnyH_done (by kernel_rfl) ?_ _
      go_wp2
      go_meet
      exact⟨⟨gF,xi,t,r2,rfl,by simp [go_sem,f0],by simp [go_sem,f1],by simp [go_sem,f2],hxU,htU⟩,XF.out⟩
    case rest =>
    obtain ⟨⟨g,nm,t,r,rfl,f0,f1,f2,hnU,htU⟩,hx⟩:=hcut
    have X2:=(show Hid (CX ρ b w wc w1.heap.size n0 s0 n 0) from hx)
    clear hx G0
    obtain ⟨c,vf,vm,HC,hw,ho,hn,hh⟩:=X2.out.opn
    obtain ⟨fp,fc,rfl⟩:=own_sn hw.f
    have HJ:=(show Hid (C6 wc w1.heap.size c (.slice fp c.fs.length fc) vm∧RwC wc (w1.heap.size+1) c (.slice fp c.fs.length fc) vm∧okC n0 s0 c∧c.fs.length≤n∧c.ms.length≤0) from ⟨HC,hw,ho,hn,hh⟩)
    have x4:=HC.x4
    have hq:=X2.out.hq
    have hz:w1.heap.size<wc.heap.size:=HC.lt
    clear HC hw ho hh
    go_wp2_with (at_builtin;refine wpList_append_own _ rfl _ _ 24 rfl (w1.heap.size+1) 61 i0 zF 3 40 Tryz.underlying24 HF.out.1 HF.out.2.1 HF.out.2.2.1 HF.out.2.2.2 rfl (by decide) _ _ _ rfl (HJ.out.2.1.f.alloc _) ⟨wc.heap.size,0,none⟩ 1 1 (cFd (nm,t,r)) rfl rfl ?q1 ?q2 ?q3 ?q4 ?q5 ?_)
    case q1 =>
     intro j u hj
     rw [lit_add (by simp)]
     simpa [cFd] using hj
    case q2 =>
     intro u hu
     simp only [cFd,List.mem_cons,List.not_mem_nil,or_false] at hu
     rcases hu with rfl | rfl | rfl<;>rfl
    case q3=>have:=maxLen_ge;omega
    case q4=>omega
    case q5 =>
     simp
     omega
    intro v' w9 hown hgrow _
    obtain ⟨tp,tl,tc,rfl⟩:=own_sl hown
    have GL:Hid (CX ρ b w (wc.alloc (.cells #[.string nm,.string t,.bool r] 61)) w1.heap.size n0 s0 n 0):=X2.out.lit _
    have HC9:C6 (wc.alloc (.cells #[.string nm,.string t,.bool r] 61)) w1.heap.size c (.slice fp c.fs.length fc) vm:=HJ.out.1.of_block (heap_alloc_old _ _ hz)
    have hne:some w1.heap.size ≠ (Value.slice fp c.fs.length fc).ownBlock:=fun e=>by have:=(HJ.out.2.1.f.lt _ e.symm).1;omega
    have HC10:=HC9.of_block (hgrow.block _ HC9.lt hne)
    have G4:Hid (CX ρ b w (w9.setCell ⟨w1.heap.size,4,none⟩ (.slice tp tl tc)) w1.heap.size n0 s0 (n+1) 0):=GL.out.push4 hr HC9 ⟨HJ.out.2.1.f.alloc _,HJ.out.2.1.m.alloc _,fun x hx=>⟨(HJ.out.2.1.r x hx).c.alloc _,(HJ.out.2.1.r x hx).h.alloc _⟩⟩ HJ.out.2.2.1 hn HJ.out.2.2.2.2 (by omega) (nm,t,r) ⟨hnU,htU⟩ hown hgrow
    have z4:=HC10.x4
    have zf:=HC10.fz 4
    clear hown hgrow HC9 HC10 GL HJ hne x4 f0 f1 f2 hn
    go_wp2
    go_roundw
    case rel=>exact⟨k - 1,n+1,by omega,by congr 1;omega,G4.out⟩
    case measure=>simp [intOf];omega
   ·go_wp2_with fail
    go_meet
    exact G0.out.mono (by omega) (by omega)
 case rest =>
 have X3:=(show Hid (CX ρ b w wc w1.heap.size n0 s0 2 0) from hcut)
 clear hcut X1 k10 k11
 go_wp2_with fail
 refine (srcN b _ 3 (by decide) (by decide) X3.out.src).mono ?_
 rintro e w3 ⟨k2,rfl,⟨k20,k21⟩,hs,ho⟩
 have X4:Hid (CX ρ b w w3 w1.heap.size n0 s0 2 0):=X3.out.call hs ho.kept
 clear hs ho X3
 go_upto_block 2 with fail
 go_cut [10] from 11 (fun _ wx=>CX ρ b w wx w1.heap.size n0 s0 2 2)
 case first =>
  obtain ⟨k2,rfl⟩:=Int.eq_ofNat_of_zero_le k20
  go_wp2_with fail
  go_loopw [10] (fun j wr=>∃ k n:Nat,n+k=k2∧j = .int .i64 (k:Int)∧CX ρ b w wr w1.heap.size n0 s0 2 n) (fun j _=>(intOf j).toNat)
  case atStart=>exact⟨k2,0,by omega,rfl,X4.out⟩
  case round =>
   obtain ⟨k,n,hkn,rfl,hx⟩:=hrel
   have G0:=(show Hid (CX ρ b w wr w1.heap.size n0 s0 2 n) from hx)
   clear X4 hx
   by_cases hm:0<k
   ·go_wp2_with fail
    refine (srcMethod b _ G0.out.src (hr.mono (by have h1:=G0.out.hq;have h2:=G0.out.lt;omega))).mono ?_
    rintro e w6 ⟨m,vc,vh,rfl,hom,hrw,hs,ho⟩
    have G1:Hid (CX ρ b w w6 w1.heap.size n0 s0 2 n):=G0.out.call hs ho
    have hsz:w1.heap.size<wr.heap.size:=G0.out.lt
    obtain ⟨cp,cc,rfl⟩:=own_sn hrw.c
    obtain ⟨hp,hc,rfl⟩:=own_sn hrw.h
    have MI:Hid (okM m∧Rw w6 (w1.heap.size+1) m (.slice cp m.cs.length cc) (.slice hp m.hs.length hc)):=⟨hom,hrw.low (by omega)⟩
    clear hs ho hom hrw hsz G0
    have G2:Hid (CX ρ b w (w6.alloc (.cells #[.string m.nm,.string m.ds,.bool m.st,.bool m.ab,.bool m.fi,.int .i64 m.sk,.int .i64 m.lo,.slice cp m.cs.length cc,.slice hp m.hs.length hc] 55)) w1.heap.size n0 s0 2 n):=G1.out.lit _
    have MA:Hid (M9 (w6.alloc (.cells #[.string m.nm,.string m.ds,.bool m.st,.bool m.ab,.bool m.fi,.int .i64 m.sk,.int .i64 m.lo,.slice cp m.cs.length cc,.slice hp m.hs.length hc] 55)) w6.heap.size m (.slice cp m.cs.length cc) (.slice hp m.hs.length hc)):=⟨by simp [go_sem],by simp [go_sem],by simp [go_sem],by simp [go_sem],by simp [go_sem],by simp [go_sem],by simp [go_sem],by simp [go_sem],by simp [go_sem],fun j=>by simp [go_sem]⟩
    have MR:Hid (Rw (w6.alloc (.cells #[.string m.nm,.string m.ds,.bool m.st,.bool m.ab,.bool m.fi,.int .i64 m.sk,.int .i64 m.lo,.slice cp m.cs.length cc,.slice hp m.hs.length hc] 55)) (w1.heap.size+1) m (.slice cp m.cs.length cc) (.slice hp m.hs.length hc)):=⟨MI.out.2.c.alloc _,MI.out.2.h.alloc _⟩
    have hgb:w1.heap.size<w6.heap.size:=G1.out.lt
    have hqb:=G1.out.hq
    go_upto_region 11 with fail
    go_cut [63] from 49 to 69 (fun v wx=>(∃ r:Bool,v = .bool r)∧CX ρ b w wx w1.heap.size n0 s0 2 n∧MX wx (w1.heap.size+1) w6.heap.size)
    case first =>
     go_wp2_with fail
     refine (specMethodRight (mD (mOf m)) (.slice cp m.cs.length cc) (.slice hp m.hs.length hc) _ (U_max MI.out.1.nm) (U_max MI.out.1.ds) (MR.out.ins MI.out.1) (MR.out.han MI.out.1)).mono ?_
     rintro e w7 ⟨rfl,hb7⟩
     obtain ⟨r5,h5⟩:∃ x,mOk (mD (mOf m))=x:=⟨_,rfl⟩
     rw [h5]
     clear h5
     have G3:Hid (CX ρ b w w7 w1.heap.size n0 s0 2 n):=G2.out.call (G2.out.src.keep hb7) (kpt_below hb7)
     have M3:Hid (M9 w7 w6.heap.size m (.slice cp m.cs.length cc) (.slice hp m.hs.length hc)):=MA.out.of_block (hb7.block _ (by simp))
     have M4:Hid (Rw w7 (w1.heap.size+1) m (.slice cp m.cs.length cc) (.slice hp m.hs.length hc)):=MR.out.blocks fun k _ hl=>hb7.block k hl
     have MX3:Hid (MX w7 (w1.heap.size+1) w6.heap.size):=⟨m,_,_,M3.out,M4.out,MI.out.1⟩
     clear hb7
     obtain ⟨c,vf,vm,⟨x0,x1,x2,x3,x4,x5,fz⟩,hw,ho,hn,hh⟩:=G3.out.opn
     have y3:=M3.out.x3
     clear hw ho hn hh x0 x1 x2 x4 x5 fz
     obtain ⟨ca,hca⟩:∃ x,c.ab=x:=⟨_,rfl⟩
     obtain ⟨ma,hma⟩:∃ x,m.ab=x:=⟨_,rfl⟩
     rw [hca] at x3
     rw [hma] at y3
     clear hca hma
     cases r5<;>cases ca<;>cases ma
     all_goals go_wp2_with fail
     all_goals first
      | (go_meet;exact⟨⟨_,rfl⟩,G3.out,MX3.out⟩)
      | (refine (srcOne b _ 30 (by decide) (by decide) G3.out.src).mono ?_
         rintro e w8 ⟨r6,rfl,hs,ho⟩
         have G4:Hid (CX ρ b w w8 w1.heap.size n0 s0 2 n∧MX w8 (w1.heap.size+1) w6.heap.size):=⟨G3.out.call hs ho.kept,MX3.out.call (by omega) (by omega) ho.kept⟩
         clear hs ho
         cases r6<;>(go_wp2_with fail;go_meet;exact⟨⟨_,rfl⟩,G4.out⟩))
    case rest =>
    obtain ⟨⟨r6,rfl⟩,hx1,hx2⟩:=hcut
    have G5:=(show Hid (CX ρ b w wc w1.heap.size n0 s0 2 n) from hx1)
    have M5:=(show Hid (MX wc (w1.heap.size+1) w6.heap.size) from hx2)
    clear hx1 hx2 MI MA MR G1 G2
    cases r6
    ·go_wp2_with fail
     go_roundw
     case rel=>exact⟨k - 1,n+1,by omega,by congr 1;omega,G5.out.mono (by omega) (by omega)⟩
     case measure=>simp [intOf];omega
    ·skip
     obtain ⟨c,vf,vm,HC,hw,ho,hn,hh⟩:=G5.out.opn
     obtain ⟨vp,vc,rfl⟩:=own_sn hw.m
     obtain ⟨m,wc1,wh1,HM9,hrw,hom⟩:=M5.out
     obtain ⟨cp,cc,rfl⟩:=own_sn hrw.c
     obtain ⟨hp,hc,rfl⟩:=own_sn hrw.h
     have HJ:=(show Hid (C6 wc w1.heap.size c vf (.slice vp c.ms.length vc)∧RwC wc (w1.heap.size+1) c vf (.slice vp c.ms.length vc)∧okC n0 s0 c∧c.fs.length≤2∧c.ms.length≤n) from ⟨HC,hw,ho,hn,hh⟩)
     have HN:=(show Hid (Rw wc (w1.heap.size+1) m (.slice cp m.cs.length cc) (.slice hp m.hs.length hc)∧okM m) from ⟨hrw,hom⟩)
     have x5:=HC.x5
     obtain ⟨m0,m1,m2,m3,m4,m5,m6,m7,m8,mf⟩:=HM9
     have hq:=G5.out.hq
     have hz:w1.heap.size<wc.heap.size:=HC.lt
     clear HC hw ho hn hrw hom M5 mf
     go_wp2_with (at_builtin;refine wpList_append_own _ rfl _ _ 49 rfl (w1.heap.size+1) 55 im zM 9 104 Tryz.underlying49 HM.out.1 HM.out.2.1 HM.out.2.2.1 HM.out.2.2.2 rfl (by decide) _ _ _ rfl (HJ.out.2.1.m.alloc _) ⟨wc.heap.size,0,none⟩ 1 1 (cMt (m,.slice cp m.cs.length cc,.slice hp m.hs.length hc)) rfl rfl ?p1 ?p2 ?p3 ?p4 ?p5 ?_)
     case p1 =>
      intro j u hj
      rw [lit_add (by simp)]
      simpa [cMt] using hj
     case p2 =>
      intro u hu
      simp only [cMt,List.mem_cons,List.not_mem_nil,or_false] at hu
      rcases hu with rfl | rfl | rfl | rfl | rfl | rfl | rfl | rfl | rfl<;>rfl
     case p3=>have:=maxLen_ge;omega
     case p4=>omega
     case p5 =>
      simp
      omega
     intro v' w9 hown hgrow _
     obtain ⟨tp,tl,tc,rfl⟩:=own_sl hown
     have GL:Hid (CX ρ b w (wc.alloc (.cells #[.string m.nm,.string m.ds,.bool m.st,.bool m.ab,.bool m.fi,.int .i64 m.sk,.int .i64 m.lo,.slice cp m.cs.length cc,.slice hp m.hs.length hc] 55)) w1.heap.size n0 s0 2 n):=G5.out.lit _
     have HC9:C6 (wc.alloc (.cells #[.string m.nm,.string m.ds,.bool m.st,.bool m.ab,.bool m.fi,.int .i64 m.sk,.int .i64 m.lo,.slice cp m.cs.length cc,.slice hp m.hs.length hc] 55)) w1.heap.size c vf (.slice vp c.ms.length vc):=HJ.out.1.of_block (heap_alloc_old _ _ hz)
     have hne:some w1.heap.size ≠ (Value.slice vp c.ms.length vc).ownBlock:=fun e=>by have:=(HJ.out.2.1.m.lt _ e.symm).1;omega
     have HC10:=HC9.of_block (hgrow.block _ HC9.lt hne)
     have G6:Hid (CX ρ b w (w9.setCell ⟨w1.heap.size,5,none⟩ (.slice tp tl tc)) w1.heap.size n0 s0 2 (n+1)):=GL.out.push5 hr HC9 ⟨HJ.out.2.1.f.alloc _,HJ.out.2.1.m.alloc _,fun x hx=>⟨(HJ.out.2.1.r x hx).c.alloc _,(HJ.out.2.1.r x hx).h.alloc _⟩⟩ HJ.out.2.2.1 HJ.out.2.2.2.1 hh (by omega) (m,.slice cp m.cs.length cc,.slice hp m.hs.length hc) HN.out.2 ⟨HN.out.1.c.alloc _,HN.out.1.h.alloc _⟩ hown hgrow
     have z5:=HC10.x5
     have zf:=HC10.fz 5
     clear hown hgrow HC9 HC10 GL HJ HN hne x5 m0 m1 m2 m3 m4 m5 m6 m7 m8 hh
     go_wp2
     go_roundw
     case rel=>exact⟨k - 1,n+1,by omega,by congr 1;omega,G6.out⟩
     case measure=>simp [intOf];omega
   ·go_wp2_with fail
    go_meet
    exact G0.out.mono (by omega) (by omega)
 case rest =>
 have X5:=(show Hid (CX ρ b w wc w1.heap.size n0 s0 2 2) from hcut)
 clear hcut X4 k20 k21
 go_wp2_with fail
 refine (srcOne b _ 15 (by decide) (by decide) X5.out.src).mono ?_
 rintro e w4 ⟨r7,rfl,hs,ho⟩
 have X6:Hid (CX ρ b w w4 w1.heap.size n0 s0 2 2):=X5.out.call hs ho.kept
 clear hs ho X5
 go_upto_if 71 with fail
 go_cut [] from 12 (fun wx=>CX ρ b w wx w1.heap.size n0 s0 3 2)
 case first =>
  cases r7
  ·go_wp2_with fail
   go_meet
   exact X6.out.mono (by omega) (by omega)
  ·go_wp2_with fail
   refine (srcN b _ 4 (by decide) (by decide) X6.out.src).mono ?_
   rintro e w5 ⟨k4,rfl,⟨k40,k41⟩,hs,ho⟩
   have X7:Hid (CX ρ b w w5 w1.heap.size n0 s0 2 2):=X6.out.call hs ho.kept
   clear hs ho X6
   obtain ⟨k,rfl⟩:=Int.eq_ofNat_of_zero_le k40
   have hk:k<4:=by omega
   match k,hk with
   | 0,_ =>
    go_wp2_with fail
    refine (srcWord b _ X7.out.src).mono ?_
    rintro e w6 ⟨t,rfl,ht,hs,ho⟩
    have ht2:t ∈ n0 :: s0 :: U:=List.mem_cons_of_mem _ (List.mem_cons_of_mem _ (words_U ht))
    have X8:Hid (CX ρ b w w6 w1.heap.size n0 s0 2 2):=X7.out.call hs ho
    clear ht hs ho X7
    obtain ⟨c,vf,vm,⟨x0,x1,x2,x3,x4,x5,fz⟩,hw,ho,hn,hh⟩:=X8.out.opn
    clear hw ho hn hh
    go_wp2_with fail
    go_meet
    exact (X8.out.set0 hr _ ht2).mono (by omega) (by omega)
   | 1,_ =>
    obtain ⟨c,vf,vm,⟨x0,x1,x2,x3,x4,x5,fz⟩,hw,ho,hn,hh⟩:=X7.out.opn
    clear hw ho hn hh
    go_wp2_with fail
    go_meet
    exact (X7.out.set2 hr _ trivial).mono (by omega) (by omega)
   | 2,_ =>
    go_wp2_with fail
    obtain ⟨c,vf,vm,HC,hw,ho,hn,hh⟩:=X7.out.opn
    obtain ⟨fp,fc,rfl⟩:=own_sn hw.f
    have HC4:Hid (∀ w',Kpt b w5 w'→w'.cell? ⟨w1.heap.size,4,none⟩=some (.slice fp c.fs.length fc)):=fun w' hk=>(HC.of_block (hk.block _ HC.lt (by have:=X7.out.hq;omega))).x4
    have HC6:Hid (∀ w',Kpt b w5 w'→C6 w' w1.heap.size c (.slice fp c.fs.length fc) vm):=fun w' hk=>HC.of_block (hk.block _ HC.lt (by have:=X7.out.hq;omega))
    have HRW:Hid (∀ w',Kpt b w5 w'→RwC w' (w1.heap.size+1) c (.slice fp c.fs.length fc) vm):=fun w' hk=>hw.blocks fun k hB hl=>hk.block k hl (by have:=X7.out.hq;omega)
    have HOK:Hid (okC n0 s0 c∧c.fs.length≤2∧c.ms.length≤2):=⟨ho,hn,hh⟩
    have G:Hid (CX ρ b w w5.drew w1.heap.size n0 s0 2 2∧Kpt b w5 w5.drew):=⟨X7.out.call (X7.out.src.keep (Below.refl _ _).drew) (kpt_below (Below.refl _ _).drew),kpt_below (Below.refl _ _).drew⟩
    have y4:=HC4.out _ G.out.2
    clear HC hw ho hn hh X7
    refine wp_region_held_drew (S:=fun _=>True) (by kernel_rfl) trivial (fun hHeld=>?_)
    refine wpAnyH_take (i:=0) rfl (by kernel_rfl) (by kernel_rfl) (by kernel_rfl) (fun _ _ _ h=>h) (.inl ⟨by kernel_rfl,by intro w hSw;(try dsimp only at hSw);go_simp;try with_reducible rfl⟩) trivial ?_
    (try simp only [Act.put,List.getElem_toArray,List.getElem_cons_zero,List.setIfInBounds_toArray,List.set_cons_zero,List.set_cons_succ])
    refine wpAnyH_take (i:=2) rfl (by kernel_rfl) (by kernel_rfl) (by kernel_rfl) (fun _ _ _ h=>h) (.inl ⟨by kernel_rfl,by intro w hSw;(try dsimp only at hSw);go_simp;try with_reducible rfl⟩) trivial ?_
    (try simp only [Act.put,List.getElem_toArray,List.getElem_cons_zero,List.getElem_cons_succ,List.setIfInBounds_toArray,List.set_cons_zero,List.set_cons_succ])
    refine wpAnyH_ready (rs:=[1,3]) (by kernel_rfl) (by simp) ?_
    refine AllReadyH.cons rfl (fun K hK=>?_) (AllReadyH.cons rfl (fun K hK=>?_) AllReadyH.nil)
    simp only [List.getElem_toArray,List.getElem_cons_zero,List.getElem_cons_succ]
    go_simp
    refine hK.out _ _ (trivial) (fun hHeld=>?_)
    clear hK K
    (try simp only [Act.put,List.getElem_toArray,List.getElem_cons_zero,List.getElem_cons_succ,List.setIfInBounds_toArray,List.set_cons_zero,List.set_cons_succ])
    have d_L:=trivial
    rotate_left
    simp only [List.getElem_toArray,List.getElem_cons_zero,List.getElem_cons_succ]
    go_simp
    refine Calls.mono (srcType b _ G.out.1.src) ?_
    rintro e uc ⟨t,rfl,htU,hs,ho'⟩
    replace G:Hid (CX ρ b w uc w1.heap.size n0 s0 2 2∧Kpt b w5 uc):=⟨G.out.1.call hs ho',G.out.2.trans ho'⟩
    replace y4:=HC4.out _ G.out.2
    clear hs ho'
    refine hK.out _ _ (trivial) (fun hHeld=>?_)
    clear hK K
    (try simp only [Act.put,List.getElem_toArray,List.getElem_cons_zero,List.getElem_cons_succ,List.setIfInBounds_toArray,List.set_cons_zero,List.set_cons_succ])
    refine wpAnyH_take (i:=4) rfl (by kernel_rfl) (by kernel_rfl) (by kernel_rfl) (fun _ _ _ h=>h) (.inl ⟨by kernel_rfl,by intro w hSw;(try dsimp only at hSw);go_simp;try with_reducible rfl⟩) trivial ?_
    (try simp only [Act.put,List.getElem_toArray,List.getElem_cons_zero,List.getElem_cons_succ,List.setIfInBounds_toArray,List.set_cons_zero,List.set_cons_succ])
    have d_C:=trivial
    rotate_left
    all_goals first
     | (have d_:=d_L
        clear d_
        refine wpAnyH_ready (rs:=[3]) (by kernel_rfl) (by simp) ?_
        refine AllReadyH.cons rfl (fun K hK=>?_) AllReadyH.nil
        simp only [List.getElem_toArray,List.getElem_cons_zero,List.getElem_cons_succ]
        go_simp
        refine Calls.mono (srcType b _ G.out.1.src) ?_
        rintro e uc ⟨t,rfl,htU,hs,ho'⟩
        replace G:Hid (CX ρ b w uc w1.heap.size n0 s0 2 2∧Kpt b w5 uc):=⟨G.out.1.call hs ho',G.out.2.trans ho'⟩
        replace y4:=HC4.out _ G.out.2
        clear hs ho'
        refine hK.out _ _ (trivial) (fun hHeld=>?_)
        clear hK K
        (try simp only [Act.put,List.getElem_toArray,List.getElem_cons_zero,List.getElem_cons_succ,List.setIfInBounds_toArray,List.set_cons_zero,List.set_cons_succ])
        refine wpAnyH_take (i:=4) rfl (by kernel_rfl) (by kernel_rfl) (by kernel_rfl) (fun _ _ _ h=>h) (.inl ⟨by kernel_rfl,by intro w hSw;(try dsimp only at hSw);go_simp;try with_reducible rfl⟩) trivial ?_
        (try simp only [Act.put,List.getElem_toArray,List.getElem_cons_zero,List.getElem_cons_succ,List.setIfInBounds_toArray,List.set_cons_zero,List.set_cons_succ])
        have d_C:=trivial)
     | (have d_:=d_C
        clear d_
        refine wpAnyH_ready (rs:=[1,5]) (by kernel_rfl) (by simp) ?_
        refine AllReadyH.cons rfl (fun K hK=>?_) (AllReadyH.cons rfl (fun K hK=>?_) AllReadyH.nil)
        simp only [List.getElem_toArray,List.getElem_cons_zero,List.getElem_cons_succ]
        go_simp
        refine hK.out _ _ (trivial) (fun hHeld=>?_)
        clear hK K
        (try simp only [Act.put,List.getElem_toArray,List.getElem_cons_zero,List.getElem_cons_succ,List.setIfInBounds_toArray,List.set_cons_zero,List.set_cons_succ])
        have d_L:=trivial
        rotate_left
        simp only [List.getElem_toArray,List.getElem_cons_zero,List.getElem_cons_succ]
        go_simp
        replace y4:=HC4.out _ (G.out.2.trans (kpt_alloc b _ (.cells #[.string ⟨#[120]⟩,.string t,.bool false] 61)))
        refine hK.out _ _ (trivial) (fun hHeld=>?_)
        clear hK K
        (try simp only [Act.put,List.getElem_toArray,List.getElem_cons_zero,List.getElem_cons_succ,List.setIfInBounds_toArray,List.set_cons_zero,List.set_cons_succ])
        have d_A:=trivial
        rotate_left)
    all_goals first
     | (have d_:=d_C
        clear d_
        have d_:=d_L
        clear d_
        refine wpAnyH_ready (rs:=[5]) (by kernel_rfl) (by simp) ?_
        refine AllReadyH.cons rfl (fun K hK=>?_) AllReadyH.nil
        simp only [List.getElem_toArray,List.getElem_cons_zero,List.getElem_cons_succ]
        go_simp
        replace y4:=HC4.out _ (G.out.2.trans (kpt_alloc b _ (.cells #[.string ⟨#[120]⟩,.string t,.bool false] 61)))
        refine hK.out _ _ (trivial) (fun hHeld=>?_)
        clear hK K
        (try simp only [Act.put,List.getElem_toArray,List.getElem_cons_zero,List.getElem_cons_succ,List.setIfInBounds_toArray,List.set_cons_zero,List.set_cons_succ])
        have d_A:=trivial)
     | (have d_:=d_A
        clear d_
        have d_:=d_C
        clear d_
        refine wpAnyH_ready (rs:=[1]) (by kernel_rfl) (by simp) ?_
        refine AllReadyH.cons rfl (fun K hK=>?_) AllReadyH.nil
        simp only [List.getElem_toArray,List.getElem_cons_zero,List.getElem_cons_succ]
        go_simp
        refine hK.out _ _ (trivial) (fun hHeld=>?_)
        clear hK K
        (try simp only [Act.put,List.getElem_toArray,List.getElem_cons_zero,List.getElem_cons_succ,List.setIfInBounds_toArray,List.set_cons_zero,List.set_cons_succ])
        have d_L:=trivial)
    all_goals
     refine wpAnyH_ready (rs:=[6]) (by kernel_rfl) (by simp) ?_
     refine AllReadyH.cons rfl (fun K hK=>?_) AllReadyH.nil
     rw [if_pos (by kernel_rfl)]
     refine wp_append_own _ _ _ 24 rfl (w1.heap.size+1) 61 i0 zF 3 40 Tryz.underlying24 HF.out.1 HF.out.2.1 HF.out.2.2.1 HF.out.2.2.2 rfl (by decide) (.slice fp c.fs.length fc) c.fs.length (c.fs.flatMap cFd) (by rfl) ((HRW.out _ G.out.2).f.alloc _) ⟨uc.heap.size,0,none⟩ 1 1 (cFd (⟨#[120]⟩,t,false)) (by rfl) rfl (by intro j u hj;rw [lit_add (by simp)];simpa [cFd] using hj) (by intro u hu;simp only [cFd,List.mem_cons,List.not_mem_nil,or_false] at hu;rcases hu with rfl | rfl | rfl<;>rfl) (by have:=maxLen_ge;have:=HOK.out.2.1;omega) (by have:=HOK.out.2.1;omega) (by have:=G.out.1.lt;simp;omega) ?_
     intro v' w9 hown hgrow _
     obtain ⟨tp,tl,tc,rfl⟩:=own_sl hown
     have GL:=G.out.1.lit (.cells #[.string ⟨#[120]⟩,.string t,.bool false] 61)
     have HC9:C6 (uc.alloc (.cells #[.string ⟨#[120]⟩,.string t,.bool false] 61)) w1.heap.size c (.slice fp c.fs.length fc) vm:=(HC6.out _ G.out.2).of_block (heap_alloc_old _ _ G.out.1.lt)
     have HR9:=HRW.out _ G.out.2
     have Y5:Hid (CX ρ b w (w9.setCell ⟨w1.heap.size,4,none⟩ (.slice tp tl tc)) w1.heap.size n0 s0 3 2):=GL.push4 hr HC9 ⟨HR9.f.alloc _,HR9.m.alloc _,fun x hx=>⟨(HR9.r x hx).c.alloc _,(HR9.r x hx).h.alloc _⟩⟩ HOK.out.1 HOK.out.2.1 HOK.out.2.2 (by omega) (⟨#[120]⟩,t,false) ⟨mU16 (List.mem_singleton.2 rfl),htU⟩ hown hgrow
     have HC10:=HC9.of_block (hgrow.block _ HC9.lt (fun e=>by have:=(HR9.f.lt _ e.symm).1;omega))
     replace y4:=HC10.x4
     have f4:=HC10.fz 4
     clear hown hgrow HC9 HC10 GL HR9
     refine hK.out _ _ (trivial) (fun hHeld=>?_)
     clear hK K
     (try simp only [Act.put,List.getElem_toArray,List.getElem_cons_zero,List.getElem_cons_succ,List.setIfInBounds_toArray,List.set_cons_zero,List.set_cons_succ])
     refine wpAnyH_take (i:=7) rfl (by kernel_rfl) (by kernel_rfl) (by kernel_rfl) (fun _ _ _ h=>h) (.inl ⟨by kernel_rfl,by intro w hSw;(try dsimp only at hSw);go_simp;try with_reducible rfl⟩) trivial ?_
     (try simp only [Act.put,List.getElem_toArray,List.getElem_cons_zero,List.getElem_cons_succ,List.setIfInBounds_toArray,List.set_cons_zero,List.set_cons_succ])
     refine wpAnyH_ready (rs:=[8]) (by kernel_rfl) (by simp) ?_
     refine AllReadyH.cons rfl (fun K hK=>?_) AllReadyH.nil
     simp only [List.getElem_toArray,List.getElem_cons_zero,List.getElem_cons_succ]
     go_simp
     refine hK.out _ _ (trivial) (fun hHeld=>?_)
     clear hK K
     (try simp only [Act.put,List.getElem_toArray,List.getElem_cons_zero,List.getElem_cons_succ,List.setIfInBounds_toArray,List.set_cons_zero,List.set_cons_succ])
     refine wpAnyH_done (by kernel_rfl) ?_ _
     go_wp2
     go_meet
     exact Y5.out
   | 3,_ =>
    obtain ⟨c,vf,vm,⟨x0,x1,x2,x3,x4,x5,fz⟩,hw,ho,hn,hh⟩:=X7.out.opn
    have hcn:c.nm ∈ n0 :: s0 :: U:=ho.nm
    clear hw ho hn hh
    go_wp2_with fail
    go_meet
    exact (X7.out.set1 hr _ hcn).mono (by omega) (by omega)
 case rest =>
 have X9:=(show Hid (CX ρ b w wc w1.heap.size n0 s0 3 2) from hcut)
 clear hcut X6
 obtain ⟨c,vf,vm,⟨x0,x1,x2,x3,x4,x5,fz⟩,hw,ho,hn,hh⟩:=X9.out.opn
 obtain ⟨y0,y1,y2,y3,y4,y5,fy⟩:=CX.res X9.out
 have hq:=X9.out.hq
 have HX:Hid (okC n0 s0 c∧DOC ρ b w ((((((wc.setCell ⟨w.heap.size,0,none⟩ (.string c.nm)).setCell ⟨w.heap.size,1,none⟩ (.string c.su)).setCell ⟨w.heap.size,2,none⟩ (.bool c.fi)).setCell ⟨w.heap.size,3,none⟩ (.bool c.ab)).setCell ⟨w.heap.size,4,none⟩ vf).setCell ⟨w.heap.size,5,none⟩ vm) (w1.heap.size+1) c vf vm):=⟨ho,(((((((⟨hw,X9.out.src,X9.out.kpt,by omega,by omega⟩:DOC ρ b w wc (w1.heap.size+1) c vf vm).set 0 _ hr).set 1 _ hr).set 2 _ hr).set 3 _ hr).set 4 _ hr).set 5 _ hr)⟩
 obtain ⟨tp,tc,rfl⟩:=own_sn hw.f
 obtain ⟨up,uc,rfl⟩:=own_sn hw.m
 clear hw ho hn hh X9
 go_wp2
 exact bodyPost_ret (v:=.agg #[.string c.nm,.string c.su,.bool c.fi,.bool c.ab,.slice tp c.fs.length tc,.slice up c.ms.length uc]) (by simp [results,Tryz.results90,go_sem,y0,y1,y2,y3,y4,y5]) rfl ⟨c,_,_,rfl,HX.out.1,HX.out.2.rw.low (by omega),HX.out.2.src,HX.out.2.kpt⟩
end Go.Proofs.YtmhgaggpdggbeaaGreatDoor
