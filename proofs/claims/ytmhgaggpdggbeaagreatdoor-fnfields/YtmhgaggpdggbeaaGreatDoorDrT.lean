import Derived.Test.YtmhgaggpdggbeaaGreatDoorDrH
import Derived.Deep.RegionHeld3
namespace Go.Proofs.YtmhgaggpdggbeaaGreatDoor
open Go.RowKit
set_option maxRecDepth 20000
set_option linter.unusedVariables false
set_option maxHeartbeats 4000000 in
theorem srcMethod {ρ:SRow} (b:Nat) (w:World) (hS:Src ρ w b) (hr:RB ρ w.heap.size) :
  Calls Tryz.prog 113 #[.pointer (some ⟨b,0,none⟩)] w fun e w'=>∃ m vc vh,e = .returned (.agg #[.string (MT.nm m),.string m.ds,.bool m.st,.bool m.ab,.bool m.fi,.int .i64 m.sk,.int .i64 m.lo,vc,vh])∧okM m∧Rw w' w.heap.size m vc vh∧Src ρ w' b∧Kpt b w w':=by
 obtain ⟨i0,hi,hz0,hz1,hz2⟩:=info_parts infoInsT
 have HI:Hid (Tryz.prog.info? 149 = some i0∧i0.zero=some zI∧i0.size=5∧i0.bytes=64):=⟨hi,hz0,hz1,hz2⟩
 clear hi hz0 hz1 hz2
 obtain ⟨ih,hi,hz0,hz1,hz2⟩:=info_parts infoHanT
 have HH:Hid (Tryz.prog.info? 151 = some ih∧ih.zero=some zH∧ih.size=4∧ih.bytes=40):=⟨hi,hz0,hz1,hz2⟩
 clear hi hz0 hz1 hz2
 have H0:=(show Hid (D0 ρ b w (w.alloc (mObj ⟨#[]⟩ ⟨#[]⟩ false false false 0 0))) from D0.start hS)
 clear hS
 go_enter Tryz.func113,Tryz.ntmps113
 go_wp2_with fail
 refine (srcPick b _ 4 [⟨#[102]⟩,⟨#[103]⟩,⟨#[109,97,105,110]⟩,⟨#[60,105,110,105,116,62]⟩] _ rfl (by decide) (by decide) (H0.out.lit _).src ?_ (by intro j hj;rw [lit_at (by simp)];match j,hj with | 0,_ | 1,_ | 2,_ | 3,_=>rfl)).mono ?_
 ·have h1:=H0.out.hq;omega
 rintro e w1 ⟨t1,rfl,ht,hs,ho⟩
 have ht1:t1 ∈ U:=mU10 ht
 have H1:Hid (D0 ρ b w w1):=(H0.out.lit _).call hs ho.kept
 clear hs ho ht
 clear H0
 go_wp2_with fail
 refine (srcPick b _ 3 [⟨#[40,41,86]⟩,⟨#[40,73,41,73]⟩,⟨#[40,73,76,65,59,41,76,65,59]⟩] _ rfl (by decide) (by decide) (H1.out.lit _).src ?_ (by intro j hj;rw [lit_at (by simp)];match j,hj with | 0,_ | 1,_ | 2,_=>rfl)).mono ?_
 ·have h1:=H1.out.hq;omega
 rintro e w2 ⟨t2,rfl,ht,hs,ho⟩
 have ht2:t2 ∈ U:=mU11 ht
 have H2:Hid (D0 ρ b w w2):=(H1.out.lit _).call hs ho.kept
 clear hs ho ht
 clear H1
 go_wp2_with fail
 refine (srcN b _ 6 (by decide) (by decide) H2.out.src).mono ?_
 rintro e w3 ⟨k1,rfl,⟨k10,k11⟩,hs,ho⟩
 have H3:Hid (D0 ρ b w w3):=H2.out.call hs ho.kept
 clear hs ho
 clear H2
 go_wp2_with fail
 refine (srcN b _ 3 (by decide) (by decide) H3.out.src).mono ?_
 rintro e w4 ⟨k2,rfl,⟨k20,k21⟩,hs,ho⟩
 have H4:Hid (D0 ρ b w w4):=H3.out.call hs ho.kept
 clear hs ho
 clear H3
 have E0:Hid (DX ρ b w (w4.alloc (mObj t1 t2 false false false k1 (3+k2))) w4.heap.size 0 0):=⟨_,H4.out.make _ _ _ _ _ _ _,⟨ht1,ht2,by unfold fits;show _∧_;simp only;omega,by unfold fits;show _∧_;simp only;omega,by simp,by simp,by simp,by simp⟩,by simp,by simp⟩
 clear H4
 go_upto_if 20 with fail
 go_cut [] from 6 (fun wx=>DX ρ b w wx w4.heap.size 0 0)
 case first =>
  go_wp2_with fail
  ·skip
   refine (srcPick b _ 2 [⟨#[40,41,86]⟩,⟨#[40,73,41,86]⟩] _ rfl (by decide) (by decide) (E0.out.lit _).src ?_ (by intro j hj;rw [lit_at (by simp)];match j,hj with | 0,_ | 1,_=>rfl)).mono ?_
   ·have h1:=E0.out.hq;have h2:=E0.out.lt;omega
   rintro e w5 ⟨t3,rfl,ht,hs,ho⟩
   have ht3:t3 ∈ U:=mU12 ht
   have E1:Hid (DX ρ b w w5 w4.heap.size 0 0):=(E0.out.lit _).call hs ho.kept
   clear hs ho ht
   obtain ⟨m,vc,vh,⟨x0,x1,x2,x3,x4,x5,x6,x7,x8,fz⟩,hw,ho,hn,hh⟩:=E1.out.opn
   go_wp2_with fail
   go_meet
   exact E1.out.set1 hr _ ht3
  ·skip
   refine (srcOne b _ 2 (by decide) (by decide) E0.out.src).mono ?_
   rintro e w5 ⟨r1,rfl,hs,ho⟩
   have E1:Hid (DX ρ b w w5 w4.heap.size 0 0):=E0.out.call hs ho.kept
   clear hs ho
   obtain ⟨m,vc,vh,⟨x0,x1,x2,x3,x4,x5,x6,x7,x8,fz⟩,hw,ho,hn,hh⟩:=E1.out.opn
   have E2:Hid (DX ρ b w (w5.setCell ⟨w4.heap.size,2,none⟩ (.bool r1)) w4.heap.size 0 0):=E1.out.set2 hr _ trivial
   clear E1 hw ho hn hh
   go_wp2_with fail
   refine (srcOne b _ 6 (by decide) (by decide) E2.out.src).mono ?_
   rintro e w6 ⟨r2,rfl,hs,ho⟩
   have E3:Hid (DX ρ b w w6 w4.heap.size 0 0):=E2.out.call hs ho.kept
   clear hs ho
   clear x0 x1 x2 x3 x4 x5 x6 x7 x8 fz
   obtain ⟨m,vc,vh,⟨x0,x1,x2,x3,x4,x5,x6,x7,x8,fz⟩,hw,ho,hn,hh⟩:=E3.out.opn
   go_wp2_with fail
   go_meet
   exact E3.out.set4 hr _ trivial
 case rest =>
 have F0:=(show Hid (DX ρ b w wc w4.heap.size 0 0) from hcut)
 clear hcut E0 ht1 ht2 k10 k11 k20 k21
 go_wp2_with fail
 refine (srcN b _ 6 (by decide) (by decide) F0.out.src).mono ?_
 rintro e w5 ⟨k3,rfl,⟨k30,k31⟩,hs,ho⟩
 have F1:Hid (DX ρ b w w5 w4.heap.size 0 0):=F0.out.call hs ho.kept
 clear hs ho
 clear F0
 go_upto_block 0 with fail
 go_cut [4,5] from 6 (fun _ _ wx=>DX ρ b w wx w4.heap.size 6 0)
 case first =>
  obtain ⟨k3,rfl⟩:=Int.eq_ofNat_of_zero_le k30
  go_wp2_with fail
  go_loopw [4,5] (fun j _ wr=>∃ k n:Nat,n+k=1+k3∧j = .int .i64 (k:Int)∧DX ρ b w wr w4.heap.size n 0) (fun j _ _=>(intOf j).toNat)
  case atStart=>exact⟨1+k3,0,by omega,by congr 1,F1.out⟩
  case round =>
   obtain ⟨k,n,hkn,rfl,hx⟩:=hrel
   have G0:=(show Hid (DX ρ b w wr w4.heap.size n 0) from hx)
   clear F1 hx
   by_cases hm:0<k
   ·go_wp2_with fail
    refine (srcIns b _ G0.out.src (hr.mono (by have h1:=G0.out.hq;have h2:=G0.out.lt;omega))).mono ?_
    rintro e w6 ⟨op,a,c,nm,d,rfl,hsm,hs,ho⟩
    have G1:Hid (DX ρ b w w6 w4.heap.size n 0):=G0.out.call hs ho
    clear hs ho G0
    have L0:Hid (LI ρ b w6 (w6.alloc (.cells #[.int .i64 op,.int .i64 a,.string c,.string nm,.string d] 149))):=LI.made G1.out.src _ _ _ _ _ hsm
    have HR6:Hid (RB ρ w6.heap.size):=hr.mono (by have h1:=G1.out.hq;have h2:=G1.out.lt;omega)
    go_wp2_with fail
    refine (specOpForm op _ hsm.1).mono ?_
    clear hsm
    rintro e w7 ⟨rfl,hb7⟩
    have L1:Hid (LI ρ b w6 w7):=L0.out.call (L0.out.src.keep hb7) (kpt_below hb7)
    clear L0 hb7
    generalize fmS op=s
    go_upto_region 12 with fail
    ·refine (srcOne b _ 20 (by decide) (by decide) L1.out.src).mono ?_
     rintro e w8 ⟨r4,rfl,hs,ho⟩
     have L2:Hid (LI ρ b w6 w8):=L1.out.call hs ho.kept
     clear hs ho L1
     cases r4
     ·have L3:Hid (LI ρ b w6 (w8.setCell ⟨w6.heap.size,1,none⟩ (.int .i64 0))):=L2.out.nul HR6.out
      obtain ⟨op',a',c',nm',d',⟨y0,y1,y2,y3,y4,fy⟩,hsm⟩:=L2.out.ins
      go_upto_region 12 with fail
      clear y0 y1 y2 y3 y4 fy hsm
      have GX:Hid (DX ρ b w (w8.setCell ⟨w6.heap.size,1,none⟩ (.int .i64 0)) w4.heap.size n 0):=G1.out.call L3.out.src L3.out.kpt
      obtain ⟨op',a',c',nm',d',⟨y0,y1,y2,y3,y4,fy⟩,hsm⟩:=L3.out.ins
      obtain ⟨m,vc,vh,HM,hw,ho,hn,hh⟩:=GX.out.opn
      obtain ⟨x0,x1,x2,x3,x4,x5,x6,x7,x8,fz⟩:=(show M9 _ _ _ _ _ from HM)
      have HJ:=(show Hid (M9 (w8.setCell ⟨w6.heap.size,1,none⟩ (.int .i64 0)) w4.heap.size m vc vh∧Rw (w8.setCell ⟨w6.heap.size,1,none⟩ (.int .i64 0)) (w4.heap.size+1) m vc vh∧okM m∧m.cs.length≤n∧m.hs.length≤0∧smI op' a' c' nm' d') from ⟨HM,hw,ho,hn,hh,hsm⟩)
      have hq:=G1.out.hq
      have hz:w4.heap.size<(w8.setCell ⟨w6.heap.size,1,none⟩ (.int .i64 0)).heap.size:=HM.lt
      clear HM hw ho hh hsm x0 x1 x2 x3 x4 x5 x6
      go_wp2_with (at_builtin;refine wpList_append_own _ rfl _ _ 52 rfl (w4.heap.size+1) 149 i0 zI 5 64 Tryz.underlying52 HI.out.1 HI.out.2.1 HI.out.2.2.1 HI.out.2.2.2 rfl (by decide) _ _ _ rfl (HJ.out.2.1.c.alloc _) ⟨w8.heap.size,0,none⟩ 1 1 (cI (op',a',c',nm',d')) rfl rfl ?c1L3 ?c2L3 ?c3L3 ?c4L3 ?c5L3 ?_)
      case c1L3 =>
       intro j u hj
       rw [lit_add (by simp)]
       simpa [cI] using hj
      case c2L3 =>
       intro u hu
       simp only [cI,List.mem_cons,List.not_mem_nil,or_false] at hu
       rcases hu with rfl | rfl | rfl | rfl | rfl<;>rfl
      case c3L3=>have:=maxLen_ge;omega
      case c4L3=>omega
      case c5L3 =>
       have hz2:w4.heap.size<w8.heap.size:=by simpa using hz
       simp
       omega
      intro v' w9 hown hgrow _
      have G3:Hid (DX ρ b w ((w8.setCell ⟨w6.heap.size,1,none⟩ (.int .i64 0)).alloc (.cells #[.int .i64 op',.int .i64 a',.string c',.string nm',.string d'] 149)) w4.heap.size n 0):=GX.out.lit _
      obtain ⟨sp,sl,sc,rfl⟩:=own_sl hown
      have HM9:M9 ((w8.setCell ⟨w6.heap.size,1,none⟩ (.int .i64 0)).alloc (.cells #[.int .i64 op',.int .i64 a',.string c',.string nm',.string d'] 149)) w4.heap.size m vc vh:=HJ.out.1.of_block (heap_alloc_old _ _ hz)
      have hne:some w4.heap.size ≠ vc.ownBlock:=fun e=>by have:=(HJ.out.2.1.c.lt _ e.symm).1;omega
      have HM10:M9 w9 w4.heap.size m vc vh:=HM9.of_block (hgrow.block _ HM9.lt hne)
      have G4:Hid (DX ρ b w (w9.setCell ⟨w4.heap.size,7,none⟩ (.slice sp sl sc)) w4.heap.size (n+1) 0):=G3.out.push7 hr HM9 ⟨HJ.out.2.1.c.alloc _,HJ.out.2.1.h.alloc _⟩ HJ.out.2.2.1 hn HJ.out.2.2.2.2.1 (by omega) (op',a',c',nm',d') HJ.out.2.2.2.2.2 hown hgrow
      obtain ⟨z0,z1,z2,z3,z4,z5,z6,z7,z8,fz9⟩:=HM10
      clear hown hgrow HM9 G3 GX HJ hne z0 z1 z2 z3 z4 z5 z6 x7 x8 y0 y1 y2 y3 y4 fy fz
      go_wp2
      go_roundw
      case rel=>exact⟨k - 1,n+1,by omega,by congr 1;omega,G4.out⟩
      case measure=>simp [intOf];omega
     ·go_upto_region 12 with fail
      have GX:Hid (DX ρ b w w8 w4.heap.size n 0):=G1.out.call L2.out.src L2.out.kpt
      obtain ⟨op',a',c',nm',d',⟨y0,y1,y2,y3,y4,fy⟩,hsm⟩:=L2.out.ins
      obtain ⟨m,vc,vh,HM,hw,ho,hn,hh⟩:=GX.out.opn
      obtain ⟨x0,x1,x2,x3,x4,x5,x6,x7,x8,fz⟩:=(show M9 _ _ _ _ _ from HM)
      have HJ:=(show Hid (M9 w8 w4.heap.size m vc vh∧Rw w8 (w4.heap.size+1) m vc vh∧okM m∧m.cs.length≤n∧m.hs.length≤0∧smI op' a' c' nm' d') from ⟨HM,hw,ho,hn,hh,hsm⟩)
      have hq:=G1.out.hq
      have hz:w4.heap.size<w8.heap.size:=HM.lt
      clear HM hw ho hh hsm x0 x1 x2 x3 x4 x5 x6
      go_wp2_with (at_builtin;refine wpList_append_own _ rfl _ _ 52 rfl (w4.heap.size+1) 149 i0 zI 5 64 Tryz.underlying52 HI.out.1 HI.out.2.1 HI.out.2.2.1 HI.out.2.2.2 rfl (by decide) _ _ _ rfl (HJ.out.2.1.c.alloc _) ⟨w8.heap.size,0,none⟩ 1 1 (cI (op',a',c',nm',d')) rfl rfl ?c1L2 ?c2L2 ?c3L2 ?c4L2 ?c5L2 ?_)
      case c1L2 =>
       intro j u hj
       rw [lit_add (by simp)]
       simpa [cI] using hj
      case c2L2 =>
       intro u hu
       simp only [cI,List.mem_cons,List.not_mem_nil,or_false] at hu
       rcases hu with rfl | rfl | rfl | rfl | rfl<;>rfl
      case c3L2=>have:=maxLen_ge;omega
      case c4L2=>omega
      case c5L2 =>
       have hz2:w4.heap.size<w8.heap.size:=by simpa using hz
       simp
       omega
      intro v' w9 hown hgrow _
      have G3:Hid (DX ρ b w (w8.alloc (.cells #[.int .i64 op',.int .i64 a',.string c',.string nm',.string d'] 149)) w4.heap.size n 0):=GX.out.lit _
      obtain ⟨sp,sl,sc,rfl⟩:=own_sl hown
      have HM9:M9 (w8.alloc (.cells #[.int .i64 op',.int .i64 a',.string c',.string nm',.string d'] 149)) w4.heap.size m vc vh:=HJ.out.1.of_block (heap_alloc_old _ _ hz)
      have hne:some w4.heap.size ≠ vc.ownBlock:=fun e=>by have:=(HJ.out.2.1.c.lt _ e.symm).1;omega
      have HM10:M9 w9 w4.heap.size m vc vh:=HM9.of_block (hgrow.block _ HM9.lt hne)
      have G4:Hid (DX ρ b w (w9.setCell ⟨w4.heap.size,7,none⟩ (.slice sp sl sc)) w4.heap.size (n+1) 0):=G3.out.push7 hr HM9 ⟨HJ.out.2.1.c.alloc _,HJ.out.2.1.h.alloc _⟩ HJ.out.2.2.1 hn HJ.out.2.2.2.2.1 (by omega) (op',a',c',nm',d') HJ.out.2.2.2.2.2 hown hgrow
      obtain ⟨z0,z1,z2,z3,z4,z5,z6,z7,z8,fz9⟩:=HM10
      clear hown hgrow HM9 G3 GX HJ hne z0 z1 z2 z3 z4 z5 z6 x7 x8 y0 y1 y2 y3 y4 fy fz
      go_wp2
      go_roundw
      case rel=>exact⟨k - 1,n+1,by omega,by congr 1;omega,G4.out⟩
      case measure=>simp [intOf];omega
    ·skip
     have GX:Hid (DX ρ b w w7 w4.heap.size n 0):=G1.out.call L1.out.src L1.out.kpt
     obtain ⟨op',a',c',nm',d',⟨y0,y1,y2,y3,y4,fy⟩,hsm⟩:=L1.out.ins
     obtain ⟨m,vc,vh,HM,hw,ho,hn,hh⟩:=GX.out.opn
     obtain ⟨x0,x1,x2,x3,x4,x5,x6,x7,x8,fz⟩:=(show M9 _ _ _ _ _ from HM)
     have HJ:=(show Hid (M9 w7 w4.heap.size m vc vh∧Rw w7 (w4.heap.size+1) m vc vh∧okM m∧m.cs.length≤n∧m.hs.length≤0∧smI op' a' c' nm' d') from ⟨HM,hw,ho,hn,hh,hsm⟩)
     have hq:=G1.out.hq
     have hz:w4.heap.size<w7.heap.size:=HM.lt
     clear HM hw ho hh hsm x0 x1 x2 x3 x4 x5 x6
     go_wp2_with (at_builtin;refine wpList_append_own _ rfl _ _ 52 rfl (w4.heap.size+1) 149 i0 zI 5 64 Tryz.underlying52 HI.out.1 HI.out.2.1 HI.out.2.2.1 HI.out.2.2.2 rfl (by decide) _ _ _ rfl (HJ.out.2.1.c.alloc _) ⟨w7.heap.size,0,none⟩ 1 1 (cI (op',a',c',nm',d')) rfl rfl ?c1L1 ?c2L1 ?c3L1 ?c4L1 ?c5L1 ?_)
     case c1L1 =>
      intro j u hj
      rw [lit_add (by simp)]
      simpa [cI] using hj
     case c2L1 =>
      intro u hu
      simp only [cI,List.mem_cons,List.not_mem_nil,or_false] at hu
      rcases hu with rfl | rfl | rfl | rfl | rfl<;>rfl
     case c3L1=>have:=maxLen_ge;omega
     case c4L1=>omega
     case c5L1 =>
      have hz2:w4.heap.size<w7.heap.size:=by simpa using hz
      simp
      omega
     intro v' w9 hown hgrow _
     have G3:Hid (DX ρ b w (w7.alloc (.cells #[.int .i64 op',.int .i64 a',.string c',.string nm',.string d'] 149)) w4.heap.size n 0):=GX.out.lit _
     obtain ⟨sp,sl,sc,rfl⟩:=own_sl hown
     have HM9:M9 (w7.alloc (.cells #[.int .i64 op',.int .i64 a',.string c',.string nm',.string d'] 149)) w4.heap.size m vc vh:=HJ.out.1.of_block (heap_alloc_old _ _ hz)
     have hne:some w4.heap.size ≠ vc.ownBlock:=fun e=>by have:=(HJ.out.2.1.c.lt _ e.symm).1;omega
     have HM10:M9 w9 w4.heap.size m vc vh:=HM9.of_block (hgrow.block _ HM9.lt hne)
     have G4:Hid (DX ρ b w (w9.setCell ⟨w4.heap.size,7,none⟩ (.slice sp sl sc)) w4.heap.size (n+1) 0):=G3.out.push7 hr HM9 ⟨HJ.out.2.1.c.alloc _,HJ.out.2.1.h.alloc _⟩ HJ.out.2.2.1 hn HJ.out.2.2.2.2.1 (by omega) (op',a',c',nm',d') HJ.out.2.2.2.2.2 hown hgrow
     obtain ⟨z0,z1,z2,z3,z4,z5,z6,z7,z8,fz9⟩:=HM10
     clear hown hgrow HM9 G3 GX HJ hne z0 z1 z2 z3 z4 z5 z6 x7 x8 y0 y1 y2 y3 y4 fy fz
     go_wp2
     go_roundw
     case rel=>exact⟨k - 1,n+1,by omega,by congr 1;omega,G4.out⟩
     case measure=>simp [intOf];omega
   ·go_wp2_with fail
    go_meet
    exact G0.out.mono (by omega) (by omega)
 case rest =>
 have F2:=(show Hid (DX ρ b w wc w4.heap.size 6 0) from hcut)
 clear hcut F1 k30 k31
 go_wp2_with fail
 refine (srcOne b _ 4 (by decide) (by decide) F2.out.src).mono ?_
 rintro e w7 ⟨r5,rfl,hs,ho⟩
 have F3:Hid (DX ρ b w w7 w4.heap.size 6 0):=F2.out.call hs ho.kept
 clear hs ho
 clear F2
 go_upto_if 57 with fail
 go_cut [] from 6 (fun wx=>DX ρ b w wx w4.heap.size 6 1)
 case first =>
  cases r5
  ·go_wp2_with fail
   go_meet
   exact F3.out.mono (by omega) (by omega)
  ·obtain ⟨m,vc,vh,HM,hw,ho,hn,hh⟩:=F3.out.opn
   obtain ⟨sp,sc,rfl⟩:=own_sn hw.c
   obtain ⟨x0,x1,x2,x3,x4,x5,x6,x7,x8,fz⟩:=(show M9 _ _ _ _ _ from HM)
   have HJ:=(show Hid (M9 w7 w4.heap.size m (.slice sp m.cs.length sc) vh∧Rw w7 (w4.heap.size+1) m (.slice sp m.cs.length sc) vh∧okM m∧m.cs.length≤6∧m.hs.length≤0) from ⟨HM,hw,ho,hn,hh⟩)
   have hq:=F3.out.hq
   have hz:w4.heap.size<w7.heap.size:=HM.lt
   clear HM hw ho x0 x1 x2 x3 x4 x5 x6
   go_wp2_with (at_builtin;refine wpList_append_own _ rfl _ _ 53 rfl (w4.heap.size+1) 151 ih zH 4 40 Tryz.underlying53 HH.out.1 HH.out.2.1 HH.out.2.2.1 HH.out.2.2.2 rfl (by decide) _ _ _ rfl (HJ.out.2.1.h.alloc _) ⟨w7.heap.size,0,none⟩ 1 1 (cH (0,(m.cs.length:Int),0,⟨#[69,114,114,111,114]⟩)) rfl rfl ?d1 ?d2 ?d3 ?d4 ?d5 ?_)
   case d1 =>
    intro j u hj
    rw [lit_add (by simp)]
    simpa [cH] using hj
   case d2 =>
    intro u hu
    simp only [cH,List.mem_cons,List.not_mem_nil,or_false] at hu
    rcases hu with rfl | rfl | rfl | rfl<;>rfl
   case d3=>have:=maxLen_ge;omega
   case d4=>omega
   case d5 =>
    simp
    omega
   intro v' w9 hown hgrow _
   have G3:Hid (DX ρ b w (w7.alloc (.cells #[.int .i64 0,.int .i64 m.cs.length,.int .i64 0,.string ⟨#[69,114,114,111,114]⟩] 151)) w4.heap.size 6 0):=F3.out.lit _
   obtain ⟨tp,tl,tc,rfl⟩:=own_sl hown
   have HM9:M9 (w7.alloc (.cells #[.int .i64 0,.int .i64 m.cs.length,.int .i64 0,.string ⟨#[69,114,114,111,114]⟩] 151)) w4.heap.size m (.slice sp m.cs.length sc) vh:=HJ.out.1.of_block (heap_alloc_old _ _ hz)
   have hne:some w4.heap.size ≠ vh.ownBlock:=fun e=>by have:=(HJ.out.2.1.h.lt _ e.symm).1;omega
   have HM10:M9 w9 w4.heap.size m (.slice sp m.cs.length sc) vh:=HM9.of_block (hgrow.block _ HM9.lt hne)
   have G4:Hid (DX ρ b w (w9.setCell ⟨w4.heap.size,8,none⟩ (.slice tp tl tc)) w4.heap.size 6 (0+1)):=G3.out.push8 hr HM9 ⟨HJ.out.2.1.c.alloc _,HJ.out.2.1.h.alloc _⟩ HJ.out.2.2.1 hn hh (by omega) (0,(m.cs.length:Int),0,⟨#[69,114,114,111,114]⟩) (by have:=hn;unfold okH fits;exact⟨by simp only;omega,by simp only;omega,by simp only;omega,mU13 (List.mem_singleton.2 rfl)⟩) hown hgrow
   obtain ⟨z0,z1,z2,z3,z4,z5,z6,z7,z8,fz9⟩:=HM10
   clear hown hgrow HM9 G3 HJ hne z0 z1 z2 z3 z4 z5 z6 x7 x8 fz
   go_wp2
   go_meet
   exact G4.out
 case rest =>
 have F4:=(show Hid (DX ρ b w wc w4.heap.size 6 1) from hcut)
 clear hcut F3
 go_upto_region 15 with fail
 go_cut [73] from 6 (fun v wx=>(∃ r:Bool,v = .bool r)∧DX ρ b w wx w4.heap.size 6 1)
 case first =>
  go_wp2_with fail
  refine (srcOne b _ 8 (by decide) (by decide) F4.out.src).mono ?_
  rintro e w8 ⟨r6,rfl,hs,ho⟩
  have F5:Hid (DX ρ b w w8 w4.heap.size 6 1):=F4.out.call hs ho.kept
  clear hs ho
  obtain ⟨m,vc,vh,⟨x0,x1,x2,x3,x4,x5,x6,x7,x8,fz⟩,hw,ho,hn,hh⟩:=F5.out.opn
  clear hw ho hn hh F4
  cases r6
  ·go_wp2_with fail
   go_meet
   exact⟨⟨_,rfl⟩,F5.out⟩
  ·go_wp2_with fail
   go_meet
   exact⟨⟨_,rfl⟩,F5.out⟩
 case rest =>
 obtain ⟨⟨r6,rfl⟩,hx⟩:=hcut
 have F6:=(show Hid (DX ρ b w wc w4.heap.size 6 1) from hx)
 clear hx F4
 go_upto_if 73 with fail
 go_cut [] from 6 (fun wx=>DX ρ b w wx w4.heap.size 6 1)
 case first =>
  cases r6
  ·go_wp2_with fail
   go_meet
   exact F6.out
  ·obtain ⟨m,vc,vh,⟨x0,x1,x2,x3,x4,x5,x6,x7,x8,fz⟩,hw,ho,hn,hh⟩:=F6.out.opn
   have HO:=(show Hid (m.nm ∈ U∧m.ds ∈ U) from ⟨ho.nm,ho.ds⟩)
   have hq:=F6.out.hq
   have hz:w4.heap.size<wc.heap.size:=F6.out.lt
   clear hw ho hn hh
   go_wp2_with fail
   go_meet
   exact ((((((((F6.out.set0 hr _ HO.out.1).set1 hr _ HO.out.2).set2 hr _ trivial).set3 hr _ trivial).set4 hr _ trivial).set5 hr 0 (by unfold fits;omega)).set6 hr 0 (by unfold fits;omega)).nil7 hr).nil8 hr
 case rest =>
 have F7:=(show Hid (DX ρ b w wc w4.heap.size 6 1) from hcut)
 clear hcut F6
 go_wp2_with fail
 refine (srcOne b _ 20 (by decide) (by decide) F7.out.src).mono ?_
 rintro e w10 ⟨r7,rfl,hs,ho⟩
 have F8:Hid (DX ρ b w w10 w4.heap.size 6 1):=F7.out.call hs ho.kept
 clear hs ho
 clear F7
 go_upto_if 80 with fail
 go_cut [] from 6 (fun wx=>DX ρ b w wx w4.heap.size 70 2)
 case first =>
  cases r7
  ·go_wp2_with fail
   go_meet
   exact F8.out.mono (by omega) (by omega)
  ·go_wp2_with fail
   refine (srcN b _ 6 (by decide) (by decide) F8.out.src).mono ?_
   rintro e w11 ⟨k4,rfl,⟨k40,k41⟩,hs,ho⟩
   have F9:Hid (DX ρ b w w11 w4.heap.size 6 1):=F8.out.call hs ho.kept
   clear hs ho
   clear F8
   obtain ⟨k,rfl⟩:=Int.eq_ofNat_of_zero_le k40
   have hk:k<6:=by omega
   match k,hk with
   | 0,_ =>
    go_wp2_with fail
    refine (srcN b _ 3 (by decide) (by decide) (F9.out.lit _).src).mono ?_
    rintro e w12 ⟨r,rfl,⟨r0,r1⟩,hs,ho⟩
    have hcell:=lit_cell F9.out.src.lt ho r.toNat
    have FA:Hid (DX ρ b w w12 w4.heap.size 6 1):=(F9.out.lit _).call hs ho.kept
    clear hs ho F9
    obtain ⟨m,vc,vh,⟨x0,x1,x2,x3,x4,x5,x6,x7,x8,fz⟩,hw,ho,hn,hh⟩:=FA.out.opn
    clear hw ho hn hh
    obtain ⟨j,rfl⟩:=Int.eq_ofNat_of_zero_le r0
    have hj:j<3:=by omega
    match j,hj with
    | 0,_ | 1,_ | 2,_ =>
     simp at hcell
     go_wp2_with fail
     go_meet
     exact (FA.out.set5 hr _ (by unfold fits;omega)).mono (by omega) (by omega)
   | 1,_ =>
    go_wp2_with fail
    refine (srcN b _ 3 (by decide) (by decide) (F9.out.lit _).src).mono ?_
    rintro e w12 ⟨r,rfl,⟨r0,r1⟩,hs,ho⟩
    have hcell:=lit_cell F9.out.src.lt ho r.toNat
    have FA:Hid (DX ρ b w w12 w4.heap.size 6 1):=(F9.out.lit _).call hs ho.kept
    clear hs ho F9
    obtain ⟨m,vc,vh,⟨x0,x1,x2,x3,x4,x5,x6,x7,x8,fz⟩,hw,ho,hn,hh⟩:=FA.out.opn
    clear hw ho hn hh
    obtain ⟨j,rfl⟩:=Int.eq_ofNat_of_zero_le r0
    have hj:j<3:=by omega
    match j,hj with
    | 0,_ | 1,_ | 2,_ =>
     simp at hcell
     go_wp2_with fail
     go_meet
     exact (FA.out.set6 hr _ (by unfold fits;omega)).mono (by omega) (by omega)
   | 2,_ =>
    go_wp2_with fail
    obtain ⟨m,vc,vh,HM,hw,ho,hn,hh⟩:=F9.out.opn
    obtain ⟨up,uh,rfl⟩:=own_sn hw.h
    have HC8:Hid (∀ w',Kpt b w11 w'→w'.cell? ⟨w4.heap.size,8,none⟩=some (.slice up m.hs.length uh)):=fun w' hk=>(HM.of_block (hk.block _ HM.lt (by have:=F9.out.hq;omega))).x8
    have HM8:Hid (∀ w',Kpt b w11 w'→M9 w' w4.heap.size m vc (.slice up m.hs.length uh)):=fun w' hk=>HM.of_block (hk.block _ HM.lt (by have:=F9.out.hq;omega))
    have HRW:Hid (∀ w',Kpt b w11 w'→Rw w' (w4.heap.size+1) m vc (.slice up m.hs.length uh)):=fun w' hk=>hw.blocks fun k hB hl=>hk.block k hl (by have:=F9.out.hq;omega)
    have HOK:Hid (okM m∧m.cs.length≤6∧m.hs.length≤1):=⟨ho,hn,hh⟩
    have G:Hid (DX ρ b w w11.drew w4.heap.size 6 1∧Kpt b w11 w11.drew):=⟨F9.out.call (F9.out.src.keep (Below.refl _ _).drew) (kpt_below (Below.refl _ _).drew),kpt_below (Below.refl _ _).drew⟩
    have y8:=HC8.out _ G.out.2
    clear HM hw ho hn hh F9
    refine wp_region_held_drew (S:=fun _=>True) (by kernel_rfl) trivial (fun hHeld=>?_)
    refine wpAnyH_take (i:=0) rfl (by kernel_rfl) (by kernel_rfl) (by kernel_rfl) (fun _ _ _ h=>h) (.inl ⟨by kernel_rfl,by intro w hSw;(try dsimp only at hSw);go_simp;try with_reducible rfl⟩) trivial ?_
    (try simp only [Act.put,List.getElem_toArray,List.getElem_cons_zero,List.setIfInBounds_toArray,List.set_cons_zero,List.set_cons_succ])
    refine wpAnyH_take (i:=2) rfl (by kernel_rfl) (by kernel_rfl) (by kernel_rfl) (fun _ _ _ h=>h) (.inl ⟨by kernel_rfl,by intro w hSw;(try dsimp only at hSw);go_simp;try with_reducible rfl⟩) trivial ?_
    (try simp only [Act.put,List.getElem_toArray,List.getElem_cons_zero,List.getElem_cons_succ,List.setIfInBounds_toArray,List.set_cons_zero,List.set_cons_succ])
    refine wpAnyH_take (i:=4) rfl (by kernel_rfl) (by kernel_rfl) (by kernel_rfl) (fun _ _ _ h=>h) (.inl ⟨by kernel_rfl,by intro w hSw;(try dsimp only at hSw);go_simp;try with_reducible rfl⟩) trivial ?_
    (try simp only [Act.put,List.getElem_toArray,List.getElem_cons_zero,List.getElem_cons_succ,List.setIfInBounds_toArray,List.set_cons_zero,List.set_cons_succ])
    refine wpAnyH_take (i:=6) rfl (by kernel_rfl) (by kernel_rfl) (by kernel_rfl) (fun _ _ _ h=>h) (.inl ⟨by kernel_rfl,by intro w hSw;(try dsimp only at hSw);go_simp;try with_reducible rfl⟩) trivial ?_
    (try simp only [Act.put,List.getElem_toArray,List.getElem_cons_zero,List.getElem_cons_succ,List.setIfInBounds_toArray,List.set_cons_zero,List.set_cons_succ])
    refine wpAnyH_take (i:=8) rfl (by kernel_rfl) (by kernel_rfl) (by kernel_rfl) (fun _ _ _ h=>h) (.inl ⟨by kernel_rfl,by intro w hSw;(try dsimp only at hSw);go_simp;try with_reducible rfl⟩) trivial ?_
    (try simp only [Act.put,List.getElem_toArray,List.getElem_cons_zero,List.getElem_cons_succ,List.setIfInBounds_toArray,List.set_cons_zero,List.set_cons_succ])
    refine wpAnyH_ready (rs:=[1,3]) (by kernel_rfl) (by simp) ?_
    refine AllReadyH.cons rfl (fun K hK=>?_) (AllReadyH.cons rfl (fun K hK=>?_) AllReadyH.nil)
    simp only [List.getElem_toArray,List.getElem_cons_zero,List.getElem_cons_succ]
    go_simp
    refine hK.out _ _ (trivial) (fun hHeld=>?_)
    clear hK K
    (try simp only [Act.put,List.getElem_toArray,List.getElem_cons_zero,List.getElem_cons_succ,List.setIfInBounds_toArray,List.set_cons_zero,List.set_cons_succ])
    have d_L:=trivial
    rotate_left
    simp only [List.getElem_toArray,List.getElem_cons_zero,List.getElem_cons_succ]
    go_simp
    refine Calls.mono (srcN b _ 3 (by decide) (by decide) G.out.1.src) ?_
    rintro e uc ⟨r1,rfl,⟨r10,r11⟩,hs,ho'⟩
    replace G:Hid (DX ρ b w uc w4.heap.size 6 1∧Kpt b w11 uc):=⟨G.out.1.call hs ho'.kept,G.out.2.trans ho'.kept⟩
    replace y8:=HC8.out _ G.out.2
    clear hs ho'
    refine hK.out _ _ (trivial) (fun hHeld=>?_)
    clear hK K
    (try simp only [Act.put,List.getElem_toArray,List.getElem_cons_zero,List.getElem_cons_succ,List.setIfInBounds_toArray,List.set_cons_zero,List.set_cons_succ])
    have d_C1:=trivial
    rotate_left
    all_goals first
     | (have d_:=d_L
        clear d_
        refine wpAnyH_ready (rs:=[3]) (by kernel_rfl) (by simp) ?_
        refine AllReadyH.cons rfl (fun K hK=>?_) AllReadyH.nil
        simp only [List.getElem_toArray,List.getElem_cons_zero,List.getElem_cons_succ]
        go_simp
        refine Calls.mono (srcN b _ 3 (by decide) (by decide) G.out.1.src) ?_
        rintro e uc ⟨r1,rfl,⟨r10,r11⟩,hs,ho'⟩
        replace G:Hid (DX ρ b w uc w4.heap.size 6 1∧Kpt b w11 uc):=⟨G.out.1.call hs ho'.kept,G.out.2.trans ho'.kept⟩
        replace y8:=HC8.out _ G.out.2
        clear hs ho'
        refine hK.out _ _ (trivial) (fun hHeld=>?_)
        clear hK K
        (try simp only [Act.put,List.getElem_toArray,List.getElem_cons_zero,List.getElem_cons_succ,List.setIfInBounds_toArray,List.set_cons_zero,List.set_cons_succ])
        have d_C1:=trivial)
     | (have d_:=d_C1
        clear d_
        refine wpAnyH_ready (rs:=[1,5]) (by kernel_rfl) (by simp) ?_
        refine AllReadyH.cons rfl (fun K hK=>?_) (AllReadyH.cons rfl (fun K hK=>?_) AllReadyH.nil)
        simp only [List.getElem_toArray,List.getElem_cons_zero,List.getElem_cons_succ]
        go_simp
        refine hK.out _ _ (trivial) (fun hHeld=>?_)
        clear hK K
        (try simp only [Act.put,List.getElem_toArray,List.getElem_cons_zero,List.getElem_cons_succ,List.setIfInBounds_toArray,List.set_cons_zero,List.set_cons_succ])
        have d_L:=trivial
        rotate_left
        simp only [List.getElem_toArray,List.getElem_cons_zero,List.getElem_cons_succ]
        go_simp
        refine Calls.mono (srcN b _ 3 (by decide) (by decide) G.out.1.src) ?_
        rintro e uc ⟨r2,rfl,⟨r20,r21⟩,hs,ho'⟩
        replace G:Hid (DX ρ b w uc w4.heap.size 6 1∧Kpt b w11 uc):=⟨G.out.1.call hs ho'.kept,G.out.2.trans ho'.kept⟩
        replace y8:=HC8.out _ G.out.2
        clear hs ho'
        refine hK.out _ _ (trivial) (fun hHeld=>?_)
        clear hK K
        (try simp only [Act.put,List.getElem_toArray,List.getElem_cons_zero,List.getElem_cons_succ,List.setIfInBounds_toArray,List.set_cons_zero,List.set_cons_succ])
        have d_C2:=trivial
        rotate_left)
    all_goals first
     | (have d_:=d_C1
        clear d_
        have d_:=d_L
        clear d_
        refine wpAnyH_ready (rs:=[5]) (by kernel_rfl) (by simp) ?_
        refine AllReadyH.cons rfl (fun K hK=>?_) AllReadyH.nil
        simp only [List.getElem_toArray,List.getElem_cons_zero,List.getElem_cons_succ]
        go_simp
        refine Calls.mono (srcN b _ 3 (by decide) (by decide) G.out.1.src) ?_
        rintro e uc ⟨r2,rfl,⟨r20,r21⟩,hs,ho'⟩
        replace G:Hid (DX ρ b w uc w4.heap.size 6 1∧Kpt b w11 uc):=⟨G.out.1.call hs ho'.kept,G.out.2.trans ho'.kept⟩
        replace y8:=HC8.out _ G.out.2
        clear hs ho'
        refine hK.out _ _ (trivial) (fun hHeld=>?_)
        clear hK K
        (try simp only [Act.put,List.getElem_toArray,List.getElem_cons_zero,List.getElem_cons_succ,List.setIfInBounds_toArray,List.set_cons_zero,List.set_cons_succ])
        have d_C2:=trivial)
     | (have d_:=d_C1
        clear d_
        have d_:=d_C2
        clear d_
        refine wpAnyH_ready (rs:=[1,7]) (by kernel_rfl) (by simp) ?_
        refine AllReadyH.cons rfl (fun K hK=>?_) (AllReadyH.cons rfl (fun K hK=>?_) AllReadyH.nil)
        simp only [List.getElem_toArray,List.getElem_cons_zero,List.getElem_cons_succ]
        go_simp
        refine hK.out _ _ (trivial) (fun hHeld=>?_)
        clear hK K
        (try simp only [Act.put,List.getElem_toArray,List.getElem_cons_zero,List.getElem_cons_succ,List.setIfInBounds_toArray,List.set_cons_zero,List.set_cons_succ])
        have d_L:=trivial
        rotate_left
        simp only [List.getElem_toArray,List.getElem_cons_zero,List.getElem_cons_succ]
        go_simp
        refine Calls.mono (srcN b _ 9 (by decide) (by decide) G.out.1.src) ?_
        rintro e uc ⟨r3,rfl,⟨r30,r31⟩,hs,ho'⟩
        replace G:Hid (DX ρ b w uc w4.heap.size 6 1∧Kpt b w11 uc):=⟨G.out.1.call hs ho'.kept,G.out.2.trans ho'.kept⟩
        replace y8:=HC8.out _ G.out.2
        clear hs ho'
        refine hK.out _ _ (trivial) (fun hHeld=>?_)
        clear hK K
        (try simp only [Act.put,List.getElem_toArray,List.getElem_cons_zero,List.getElem_cons_succ,List.setIfInBounds_toArray,List.set_cons_zero,List.set_cons_succ])
        have d_C3:=trivial
        rotate_left)
    all_goals first
     | (have d_:=d_C1
        clear d_
        have d_:=d_C2
        clear d_
        have d_:=d_L
        clear d_
        refine wpAnyH_ready (rs:=[7]) (by kernel_rfl) (by simp) ?_
        refine AllReadyH.cons rfl (fun K hK=>?_) AllReadyH.nil
        simp only [List.getElem_toArray,List.getElem_cons_zero,List.getElem_cons_succ]
        go_simp
        refine Calls.mono (srcN b _ 9 (by decide) (by decide) G.out.1.src) ?_
        rintro e uc ⟨r3,rfl,⟨r30,r31⟩,hs,ho'⟩
        replace G:Hid (DX ρ b w uc w4.heap.size 6 1∧Kpt b w11 uc):=⟨G.out.1.call hs ho'.kept,G.out.2.trans ho'.kept⟩
        replace y8:=HC8.out _ G.out.2
        clear hs ho'
        refine hK.out _ _ (trivial) (fun hHeld=>?_)
        clear hK K
        (try simp only [Act.put,List.getElem_toArray,List.getElem_cons_zero,List.getElem_cons_succ,List.setIfInBounds_toArray,List.set_cons_zero,List.set_cons_succ])
        have d_C3:=trivial)
     | (have d_:=d_C1
        clear d_
        have d_:=d_C2
        clear d_
        have d_:=d_C3
        clear d_
        refine wpAnyH_ready (rs:=[1,9]) (by kernel_rfl) (by simp) ?_
        refine AllReadyH.cons rfl (fun K hK=>?_) (AllReadyH.cons rfl (fun K hK=>?_) AllReadyH.nil)
        simp only [List.getElem_toArray,List.getElem_cons_zero,List.getElem_cons_succ]
        go_simp
        refine hK.out _ _ (trivial) (fun hHeld=>?_)
        clear hK K
        (try simp only [Act.put,List.getElem_toArray,List.getElem_cons_zero,List.getElem_cons_succ,List.setIfInBounds_toArray,List.set_cons_zero,List.set_cons_succ])
        have d_L:=trivial
        rotate_left
        simp only [List.getElem_toArray,List.getElem_cons_zero,List.getElem_cons_succ]
        go_simp
        refine Calls.mono (srcWord b _ G.out.1.src) ?_
        rintro e uc ⟨t4,rfl,ht4,hs,ho'⟩
        have ht4U:t4 ∈ U:=words_U ht4
        clear ht4
        replace G:Hid (DX ρ b w uc w4.heap.size 6 1∧Kpt b w11 uc):=⟨G.out.1.call hs ho',G.out.2.trans ho'⟩
        replace y8:=HC8.out _ G.out.2
        clear hs ho'
        refine hK.out _ _ (trivial) (fun hHeld=>?_)
        clear hK K
        (try simp only [Act.put,List.getElem_toArray,List.getElem_cons_zero,List.getElem_cons_succ,List.setIfInBounds_toArray,List.set_cons_zero,List.set_cons_succ])
        refine wpAnyH_take (i:=10) rfl (by kernel_rfl) (by kernel_rfl) (by kernel_rfl) (fun _ _ _ h=>h) (.inl ⟨by kernel_rfl,by intro w hSw;(try dsimp only at hSw);go_simp;try with_reducible rfl⟩) trivial ?_
        (try simp only [Act.put,List.getElem_toArray,List.getElem_cons_zero,List.getElem_cons_succ,List.setIfInBounds_toArray,List.set_cons_zero,List.set_cons_succ])
        have d_C4:=trivial
        rotate_left)
    all_goals first
     | (have d_:=d_C1
        clear d_
        have d_:=d_C2
        clear d_
        have d_:=d_C3
        clear d_
        have d_:=d_L
        clear d_
        refine wpAnyH_ready (rs:=[9]) (by kernel_rfl) (by simp) ?_
        refine AllReadyH.cons rfl (fun K hK=>?_) AllReadyH.nil
        simp only [List.getElem_toArray,List.getElem_cons_zero,List.getElem_cons_succ]
        go_simp
        refine Calls.mono (srcWord b _ G.out.1.src) ?_
        rintro e uc ⟨t4,rfl,ht4,hs,ho'⟩
        have ht4U:t4 ∈ U:=words_U ht4
        clear ht4
        replace G:Hid (DX ρ b w uc w4.heap.size 6 1∧Kpt b w11 uc):=⟨G.out.1.call hs ho',G.out.2.trans ho'⟩
        replace y8:=HC8.out _ G.out.2
        clear hs ho'
        refine hK.out _ _ (trivial) (fun hHeld=>?_)
        clear hK K
        (try simp only [Act.put,List.getElem_toArray,List.getElem_cons_zero,List.getElem_cons_succ,List.setIfInBounds_toArray,List.set_cons_zero,List.set_cons_succ])
        refine wpAnyH_take (i:=10) rfl (by kernel_rfl) (by kernel_rfl) (by kernel_rfl) (fun _ _ _ h=>h) (.inl ⟨by kernel_rfl,by intro w hSw;(try dsimp only at hSw);go_simp;try with_reducible rfl⟩) trivial ?_
        (try simp only [Act.put,List.getElem_toArray,List.getElem_cons_zero,List.getElem_cons_succ,List.setIfInBounds_toArray,List.set_cons_zero,List.set_cons_succ])
        have d_C4:=trivial)
     | (have d_:=d_C1
        clear d_
        have d_:=d_C2
        clear d_
        have d_:=d_C3
        clear d_
        have d_:=d_C4
        clear d_
        refine wpAnyH_ready (rs:=[1,11]) (by kernel_rfl) (by simp) ?_
        refine AllReadyH.cons rfl (fun K hK=>?_) (AllReadyH.cons rfl (fun K hK=>?_) AllReadyH.nil)
        simp only [List.getElem_toArray,List.getElem_cons_zero,List.getElem_cons_succ]
        go_simp
        refine hK.out _ _ (trivial) (fun hHeld=>?_)
        clear hK K
        (try simp only [Act.put,List.getElem_toArray,List.getElem_cons_zero,List.getElem_cons_succ,List.setIfInBounds_toArray,List.set_cons_zero,List.set_cons_succ])
        have d_L:=trivial
        rotate_left
        simp only [List.getElem_toArray,List.getElem_cons_zero,List.getElem_cons_succ]
        go_simp
        replace y8:=HC8.out _ (G.out.2.trans (kpt_alloc b _ (.cells #[.int .i64 r1,.int .i64 r2,.int .i64 r3,.string t4] 151)))
        refine hK.out _ _ (trivial) (fun hHeld=>?_)
        clear hK K
        (try simp only [Act.put,List.getElem_toArray,List.getElem_cons_zero,List.getElem_cons_succ,List.setIfInBounds_toArray,List.set_cons_zero,List.set_cons_succ])
        have d_A:=trivial
        rotate_left)
    all_goals first
     | (have d_:=d_C1
        clear d_
        have d_:=d_C2
        clear d_
        have d_:=d_C3
        clear d_
        have d_:=d_C4
        clear d_
        have d_:=d_L
        clear d_
        refine wpAnyH_ready (rs:=[11]) (by kernel_rfl) (by simp) ?_
        refine AllReadyH.cons rfl (fun K hK=>?_) AllReadyH.nil
        simp only [List.getElem_toArray,List.getElem_cons_zero,List.getElem_cons_succ]
        go_simp
        replace y8:=HC8.out _ (G.out.2.trans (kpt_alloc b _ (.cells #[.int .i64 r1,.int .i64 r2,.int .i64 r3,.string t4] 151)))
        refine hK.out _ _ (trivial) (fun hHeld=>?_)
        clear hK K
        (try simp only [Act.put,List.getElem_toArray,List.getElem_cons_zero,List.getElem_cons_succ,List.setIfInBounds_toArray,List.set_cons_zero,List.set_cons_succ])
        have d_A:=trivial)
     | (have d_:=d_A
        clear d_
        have d_:=d_C1
        clear d_
        have d_:=d_C2
        clear d_
        have d_:=d_C3
        clear d_
        have d_:=d_C4
        clear d_
        refine wpAnyH_ready (rs:=[1]) (by kernel_rfl) (by simp) ?_
        refine AllReadyH.cons rfl (fun K hK=>?_) AllReadyH.nil
        simp only [List.getElem_toArray,List.getElem_cons_zero,List.getElem_cons_succ]
        go_simp
        refine hK.out _ _ (trivial) (fun hHeld=>?_)
        clear hK K
        (try simp only [Act.put,List.getElem_toArray,List.getElem_cons_zero,List.getElem_cons_succ,List.setIfInBounds_toArray,List.set_cons_zero,List.set_cons_succ])
        have d_L:=trivial)
    all_goals
     refine wpAnyH_ready (rs:=[12]) (by kernel_rfl) (by simp) ?_
     refine AllReadyH.cons rfl (fun K hK=>?_) AllReadyH.nil
     rw [if_pos (by kernel_rfl)]
     refine wp_append_own _ _ _ 53 rfl (w4.heap.size+1) 151 ih zH 4 40 Tryz.underlying53 HH.out.1 HH.out.2.1 HH.out.2.2.1 HH.out.2.2.2 rfl (by decide) (.slice up m.hs.length uh) m.hs.length (m.hs.flatMap cH) (by rfl) ((HRW.out _ G.out.2).h.alloc _) ⟨uc.heap.size,0,none⟩ 1 1 (cH (r1,r2,r3,t4)) (by rfl) rfl (by intro j u hj;rw [lit_add (by simp)];simpa [cH] using hj) (by intro u hu;simp only [cH,List.mem_cons,List.not_mem_nil,or_false] at hu;rcases hu with rfl | rfl | rfl | rfl<;>rfl) (by have:=maxLen_ge;have:=HOK.out.2.2;omega) (by have:=HOK.out.2.2;omega) (by have:=G.out.1.lt;simp;omega) ?_
     intro v' w9 hown hgrow _
     obtain ⟨tp,tl,tc,rfl⟩:=own_sl hown
     have GL:=G.out.1.lit (.cells #[.int .i64 r1,.int .i64 r2,.int .i64 r3,.string t4] 151)
     have HM9:M9 (uc.alloc (.cells #[.int .i64 r1,.int .i64 r2,.int .i64 r3,.string t4] 151)) w4.heap.size m vc (.slice up m.hs.length uh):=(HM8.out _ G.out.2).of_block (heap_alloc_old _ _ G.out.1.lt)
     have G5:Hid (DX ρ b w (w9.setCell ⟨w4.heap.size,8,none⟩ (.slice tp tl tc)) w4.heap.size 6 2):=GL.push8 hr HM9 ⟨(HRW.out _ G.out.2).c.alloc _,(HRW.out _ G.out.2).h.alloc _⟩ HOK.out.1 HOK.out.2.1 HOK.out.2.2 (by omega) (r1,r2,r3,t4) (by unfold okH fits;exact⟨by simp only;omega,by simp only;omega,by simp only;omega,ht4U⟩) hown hgrow
     have HM10:=HM9.of_block (hgrow.block _ HM9.lt (fun e=>by have:=((HRW.out _ G.out.2).h.lt _ e.symm).1;omega))
     replace y8:=HM10.x8
     have f8:=HM10.fz 8
     clear hown hgrow HM9 HM10 GL
     refine hK.out _ _ (trivial) (fun hHeld=>?_)
     clear hK K
     (try simp only [Act.put,List.getElem_toArray,List.getElem_cons_zero,List.getElem_cons_succ,List.setIfInBounds_toArray,List.set_cons_zero,List.set_cons_succ])
     refine wpAnyH_take (i:=13) rfl (by kernel_rfl) (by kernel_rfl) (by kernel_rfl) (fun _ _ _ h=>h) (.inl ⟨by kernel_rfl,by intro w hSw;(try dsimp only at hSw);go_simp;try with_reducible rfl⟩) trivial ?_
     (try simp only [Act.put,List.getElem_toArray,List.getElem_cons_zero,List.getElem_cons_succ,List.setIfInBounds_toArray,List.set_cons_zero,List.set_cons_succ])
     refine wpAnyH_ready (rs:=[14]) (by kernel_rfl) (by simp) ?_
     refine AllReadyH.cons rfl (fun K hK=>?_) AllReadyH.nil
     simp only [List.getElem_toArray,List.getElem_cons_zero,List.getElem_cons_succ]
     go_simp
     refine hK.out _ _ (trivial) (fun hHeld=>?_)
     clear hK K
     (try simp only [Act.put,List.getElem_toArray,List.getElem_cons_zero,List.getElem_cons_succ,List.setIfInBounds_toArray,List.set_cons_zero,List.set_cons_succ])
     refine wpAnyH_done (by kernel_rfl) ?_ _
     go_wp2
     go_meet
     exact G5.out.mono (by omega) (by omega)
   | 3,_ =>
    go_wp2_with fail
    go_loopw [] (fun wr=>DX ρ b w wr w4.heap.size 61 1) (fun wr=>70 - lnA wr w4.heap.size)
    case atStart=>exact F9.out.mono (by omega) (by omega)
    case round =>
     have G0:=(show Hid (DX ρ b w wr w4.heap.size 61 1) from hrel)
     clear hrel F9
     obtain ⟨m,vc,vh,HM,hw,ho,hn,hh⟩:=G0.out.opn
     obtain ⟨sp,sc,rfl⟩:=own_sn hw.c
     have hlen:=lnA_of HM.x7
     have HC7:Hid (∀ w',Kpt b wr w'→w'.cell? ⟨w4.heap.size,7,none⟩=some (.slice sp m.cs.length sc)):=fun w' hk=>(HM.of_block (hk.block _ HM.lt (by have:=G0.out.hq;omega))).x7
     have HM8:Hid (∀ w',Kpt b wr w'→M9 w' w4.heap.size m (.slice sp m.cs.length sc) vh):=fun w' hk=>HM.of_block (hk.block _ HM.lt (by have:=G0.out.hq;omega))
     have HRW:Hid (∀ w',Kpt b wr w'→Rw w' (w4.heap.size+1) m (.slice sp m.cs.length sc) vh):=fun w' hk=>hw.blocks fun k hB hl=>hk.block k hl (by have:=G0.out.hq;omega)
     have HOK:Hid (okM m∧m.cs.length≤61∧m.hs.length≤1):=⟨ho,hn,hh⟩
     have HD:Hid (DX ρ b w wr.drew w4.heap.size 61 1):=G0.out.call (G0.out.src.keep (Below.refl _ _).drew) (kpt_below (Below.refl _ _).drew)
     have hn61:m.cs.length≤61:=hn
     have HL5:=(show Hid (lnA wr w4.heap.size=m.cs.length) from hlen)
     clear HM hw ho hn hh hlen
     go_upto_region 27 with fail
     refine wp_region_held_drew (S:=fun w'=>w'.cell? ⟨w4.heap.size,7,none⟩=some (.slice sp m.cs.length sc)) (by kernel_rfl) (HC7.out _ (kpt_below (Below.refl _ _).drew)) (fun hHeld=>?_)
     refine wpAnyH_take (i:=0) rfl (by kernel_rfl) (by kernel_rfl) (by kernel_rfl) (fun _ _ _ h=>h) (.inl ⟨by kernel_rfl,by intro w hSw;(try dsimp only at hSw);go_simp;try with_reducible rfl⟩) hHeld ?_
     (try simp only [Act.put,List.getElem_toArray,List.getElem_cons_zero,List.setIfInBounds_toArray,List.set_cons_zero,List.set_cons_succ])
     refine wpAnyH_take (i:=1) rfl (by kernel_rfl) (by kernel_rfl) (by kernel_rfl) (fun _ _ _ h=>h) (.inl ⟨by kernel_rfl,by intro w hSw;(try dsimp only at hSw);go_simp;try with_reducible rfl⟩) hHeld ?_
     (try simp only [Act.put,List.getElem_toArray,List.getElem_cons_zero,List.getElem_cons_succ,List.setIfInBounds_toArray,List.set_cons_zero,List.set_cons_succ])
     refine wpAnyH_take (i:=2) rfl (by kernel_rfl) (by kernel_rfl) (by kernel_rfl) (fun _ _ _ h=>h) (.inl ⟨by kernel_rfl,by intro w hSw;(try dsimp only at hSw);go_simp;try with_reducible rfl⟩) hHeld ?_
     (try simp only [Act.put,List.getElem_toArray,List.getElem_cons_zero,List.getElem_cons_succ,List.setIfInBounds_toArray,List.set_cons_zero,List.set_cons_succ])
     refine wpAnyH_take (i:=3) rfl (by kernel_rfl) (by kernel_rfl) (by kernel_rfl) (fun _ _ _ h=>h) (.inl ⟨by kernel_rfl,by intro w hSw;(try dsimp only at hSw);go_simp;try with_reducible rfl⟩) hHeld ?_
     (try simp only [Act.put,List.getElem_toArray,List.getElem_cons_zero,List.getElem_cons_succ,List.setIfInBounds_toArray,List.set_cons_zero,List.set_cons_succ])
     refine wpAnyH_ready (rs:=[4]) (by kernel_rfl) (by simp) ?_
     refine AllReadyH.cons rfl (fun K hK=>?_) AllReadyH.nil
     simp only [List.getElem_toArray,List.getElem_cons_zero,List.getElem_cons_succ]
     go_simp
     refine Calls.mono (srcN b _ 3 (by decide) (by decide) HD.out.src) ?_
     rintro e v1 ⟨r1,rfl,⟨r10,r11⟩,hs,ho'⟩
     have hk1:Hid (Kpt b wr v1):=(kpt_below (Below.refl _ _).drew).trans ho'.kept
     have G1:Hid (DX ρ b w v1 w4.heap.size 61 1):=HD.out.call hs ho'.kept
     clear hs ho'
     refine hK.out _ _ (HC7.out _ hk1.out) (fun hHeld=>?_)
     clear hK K
     (try simp only [Act.put,List.getElem_toArray,List.getElem_cons_zero,List.getElem_cons_succ,List.setIfInBounds_toArray,List.set_cons_zero,List.set_cons_succ])
     refine wpAnyH_take (i:=5) rfl (by kernel_rfl) (by kernel_rfl) (by kernel_rfl) (fun _ _ _ h=>h) (.inl ⟨by kernel_rfl,by intro w hSw;(try dsimp only at hSw);go_simp;try with_reducible rfl⟩) hHeld ?_
     (try simp only [Act.put,List.getElem_toArray,List.getElem_cons_zero,List.getElem_cons_succ,List.setIfInBounds_toArray,List.set_cons_zero,List.set_cons_succ])
     refine wpAnyH_take (i:=6) rfl (by kernel_rfl) (by kernel_rfl) (by kernel_rfl) (fun _ _ _ h=>h) (.inl ⟨by kernel_rfl,by intro w hSw;(try dsimp only at hSw);go_simp;try with_reducible rfl⟩) hHeld ?_
     (try simp only [Act.put,List.getElem_toArray,List.getElem_cons_zero,List.getElem_cons_succ,List.setIfInBounds_toArray,List.set_cons_zero,List.set_cons_succ])
     refine wpAnyH_done (by kernel_rfl) ?_ _
     have hwr:IntKind.i64.wrap (59+r1)=59+r1:=by
      simp [IntKind.wrap,IntKind.signed,IntKind.bits]
      omega
     by_cases hc:(m.cs.length:Int)<59+r1
     ·have hc60:m.cs.length≤60:=by omega
      have HX60:Hid (DX ρ b w v1 w4.heap.size 60 1):=⟨m,⟨G1.out.src,G1.out.kpt,⟨_,_,HM8.out _ hk1.out,HRW.out _ hk1.out⟩,DX.res G1.out,G1.out.hq⟩,HOK.out.1,hc60,HOK.out.2.2⟩
      obtain ⟨m7,m8⟩:=(show _∧_ from ⟨(HM8.out _ hk1.out).x7,(HM8.out _ hk1.out).fz 7⟩)
      go_wp2_with (at_builtin;refine wpList_append_own _ rfl _ _ 52 rfl (w4.heap.size+1) 149 i0 zI 5 64 Tryz.underlying52 HI.out.1 HI.out.2.1 HI.out.2.2.1 HI.out.2.2.2 rfl (by decide) _ _ _ rfl ((HRW.out _ hk1.out).c.alloc _) ⟨v1.heap.size,0,none⟩ 1 1 (cI (5,0,⟨#[]⟩,⟨#[]⟩,⟨#[]⟩)) rfl rfl ?l1 ?l2 ?l3 ?l4 ?l5 ?_)
      case l1 =>
       intro j u hj
       rw [lit_add (by simp)]
       simpa [cI] using hj
      case l2 =>
       intro u hu
       simp only [cI,List.mem_cons,List.not_mem_nil,or_false] at hu
       rcases hu with rfl | rfl | rfl | rfl | rfl<;>rfl
      case l3=>have:=maxLen_ge;omega
      case l4=>omega
      case l5 =>
       have:=G1.out.lt
       simp
       omega
      intro v' w9 hown hgrow _
      obtain ⟨tp,tl,tc,rfl⟩:=own_sl hown
      have GL:Hid (DX ρ b w (v1.alloc (.cells #[.int .i64 5,.int .i64 0,.string ⟨#[]⟩,.string ⟨#[]⟩,.string ⟨#[]⟩] 149)) w4.heap.size 60 1):=HX60.out.lit _
      have HM9:M9 (v1.alloc (.cells #[.int .i64 5,.int .i64 0,.string ⟨#[]⟩,.string ⟨#[]⟩,.string ⟨#[]⟩] 149)) w4.heap.size m (.slice sp m.cs.length sc) vh:=(HM8.out _ hk1.out).of_block (heap_alloc_old _ _ G1.out.lt)
      have G5:Hid (DX ρ b w (w9.setCell ⟨w4.heap.size,7,none⟩ (.slice tp tl tc)) w4.heap.size 61 1):=GL.out.push7 hr HM9 ⟨(HRW.out _ hk1.out).c.alloc _,(HRW.out _ hk1.out).h.alloc _⟩ HOK.out.1 hc60 HOK.out.2.2 (by omega) (5,0,⟨#[]⟩,⟨#[]⟩,⟨#[]⟩) okI5 hown hgrow
      have HM10:=HM9.of_block (hgrow.block _ HM9.lt (fun e=>by have:=((HRW.out _ hk1.out).c.lt _ e.symm).1;omega))
      have HLN:Hid (lnA (w9.setCell ⟨w4.heap.size,7,none⟩ (.slice tp tl tc)) w4.heap.size=m.cs.length+1):=by
       rw [(own_len hown:tl=_)]
       exact lnA_of (cell_same HM10.x7)
      obtain ⟨y7,f7⟩:=(show _∧_ from ⟨HM10.x7,HM10.fz 7⟩)
      clear hown hgrow HM9 HM10 GL m7 m8
      go_wp2
      go_roundw
      case rel=>exact G5.out
      case measure=>rw [HLN.out,HL5.out];omega
     ·go_wp2_with fail
      go_meet
      exact G1.out.mono (by omega) (by omega)
   | 4,_ =>
    obtain ⟨m,vc,vh,⟨x0,x1,x2,x3,x4,x5,x6,x7,x8,fz⟩,hw,ho,hn,hh⟩:=F9.out.opn
    clear hw ho hn hh
    go_wp2_with fail
    go_meet
    exact (F9.out.set3 hr _ trivial).mono (by omega) (by omega)
   | 5,_ =>
    go_wp2_with fail
    refine (srcWord b _ F9.out.src).mono ?_
    rintro e w12 ⟨t,rfl,ht,hs,ho⟩
    have ht2:t ∈ U:=words_U ht
    have FA:Hid (DX ρ b w w12 w4.heap.size 6 1):=F9.out.call hs ho
    clear ht hs ho F9
    obtain ⟨m,vc,vh,⟨x0,x1,x2,x3,x4,x5,x6,x7,x8,fz⟩,hw,ho,hn,hh⟩:=FA.out.opn
    clear hw ho hn hh
    go_wp2_with fail
    go_meet
    exact (FA.out.set0 hr _ ht2).mono (by omega) (by omega)
 case rest =>
 have F10:=(show Hid (DX ρ b w wc w4.heap.size 70 2) from hcut)
 clear hcut F8
 obtain ⟨m,vc,vh,⟨x0,x1,x2,x3,x4,x5,x6,x7,x8,fz⟩,hw,ho,hn,hh⟩:=F10.out.opn
 obtain ⟨y0,y1,y2,y3,y4,y5,y6,y7,y8,fy⟩:=DX.res F10.out
 have hq:=F10.out.hq
 have HX:Hid (okM m∧DO ρ b w (((((((((wc.setCell ⟨w.heap.size,0,none⟩ (.string m.nm)).setCell ⟨w.heap.size,1,none⟩ (.string m.ds)).setCell ⟨w.heap.size,2,none⟩ (.bool m.st)).setCell ⟨w.heap.size,3,none⟩ (.bool m.ab)).setCell ⟨w.heap.size,4,none⟩ (.bool m.fi)).setCell ⟨w.heap.size,5,none⟩ (.int .i64 m.sk)).setCell ⟨w.heap.size,6,none⟩ (.int .i64 m.lo)).setCell ⟨w.heap.size,7,none⟩ (vc)).setCell ⟨w.heap.size,8,none⟩ (vh)) (w4.heap.size+1) m vc vh):=⟨ho,((((((((((⟨hw,F10.out.src,F10.out.kpt,by omega,by omega⟩:DO ρ b w wc (w4.heap.size+1) m vc vh).set 0 _ hr).set 1 _ hr).set 2 _ hr).set 3 _ hr).set 4 _ hr).set 5 _ hr).set 6 _ hr).set 7 _ hr).set 8 _ hr)⟩
 obtain ⟨tp,tc,rfl⟩:=own_sn hw.c
 obtain ⟨up,uc,rfl⟩:=own_sn hw.h
 clear hw ho hn hh F10
 go_wp2
 exact bodyPost_ret (v:=.agg #[.string m.nm,.string m.ds,.bool m.st,.bool m.ab,.bool m.fi,.int .i64 m.sk,.int .i64 m.lo,.slice tp m.cs.length tc,.slice up m.hs.length uc]) (by simp [results,Tryz.results113,go_sem,y0,y1,y2,y3,y4,y5,y6,y7,y8]) rfl ⟨m,_,_,rfl,HX.out.1,HX.out.2.rw.low (by omega),HX.out.2.src,HX.out.2.kpt⟩
end Go.Proofs.YtmhgaggpdggbeaaGreatDoor
