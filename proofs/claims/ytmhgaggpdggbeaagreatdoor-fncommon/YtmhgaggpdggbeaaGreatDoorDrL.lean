import Derived.Test.YtmhgaggpdggbeaaGreatDoorDrK
import Derived.Test.YtmhgaggpdggbeaaGreatDoorDrd
import Derived.Test.YtmhgaggpdggbeaaGreatDoorDec
namespace Go.Proofs.YtmhgaggpdggbeaaGreatDoor
open Go.RowKit
set_option maxRecDepth 20000
set_option linter.unusedVariables false
theorem itoa_l (a:Int) (h0:0≤a) (h1:a≤1000):(Lib.itoa a).length≤21:=by
 have h:=dec_len 19 a.natAbs (by omega)
 rw [itoa_pos (by omega)]
 omega
def zCl:Value:=.agg #[.string ⟨#[]⟩,.string ⟨#[]⟩,.bool false,.bool false,.slice none 0 0,.slice none 0 0]
theorem infoClT:(Tryz.prog.info? 51).map (fun i=>(i.zero,i.size,i.bytes))=some (some zCl,6,88):=by kernel_rfl
theorem srcN1 {ρ:SRow} (b:Nat) (w:World) (most:Int) (h1:1≤most) (h2:most≤1000000) (hS:Src ρ w b) :
  Calls Tryz.prog 58 #[.pointer (some ⟨b,0,none⟩),.int .i64 most] w fun e w'=>∃ r:Int,e = .returned (.int .i64 r)∧(0≤r∧r<most)∧Src ρ w' b∧Onl b w w':=by
 by_cases h:1<most
 ·exact srcN b w most h h2 hS
 ·obtain rfl:most=1:=by omega
  go_enter Tryz.func58,Tryz.ntmps58
  go_wp2
  go_ret
  exact⟨0,rfl,by omega,hS,Onl.refl _ _⟩
theorem DW.start {ρ:SRow} {b:Nat} {w:World} (hS:Src ρ w b) (hr:RB ρ w.heap.size):DW ρ b w ((w.alloc (.cells #[] 51)).alloc (.cells #[.string ⟨#[65]⟩,.string ⟨#[66]⟩,.string ⟨#[67]⟩,.string ⟨#[68]⟩] 9)) (.slice (some ⟨w.heap.size,0,none⟩) 0 0) [] (w.heap.size+1):=by
 have h1:=World.ownsRow_lit (base:=w.heap.size) (e:=9) (size:=1) (w.alloc (.cells #[] 51)) #[.string ⟨#[65]⟩,.string ⟨#[66]⟩,.string ⟨#[67]⟩,.string ⟨#[68]⟩] 4 (by simp) (by unfold maxLen;omega) rfl
 rw [World.size_alloc] at h1
 exact⟨⟨(hS.keep lit_below).keep lit_below,(kpt_alloc b w _).trans (kpt_alloc b _ _),⟨(World.ownsRow_made w #[] 0 (Nat.le_refl _) (by unfold maxLen;omega) rfl).alloc _,by simp,by simp⟩,hS.lt⟩,h1,hr,List.Pairwise.nil,by simp⟩
theorem RwC.lit {w:World} {B:Nat} {c:CT} {vf vm:Value} (h:RwC w B c vf vm) (o:Obj):RwC (w.alloc o) B c vf vm:=h.blocks fun k _ hk=>Below.heap_alloc _ _ _ hk
theorem DW.some {ρ:SRow} {b g:Nat} {w0 w:World} {v:Value} {L:List ClT} (h:DW ρ b w0 w v L g) (hl:0<L.length):∃ q cap,v = .slice (some ⟨q,0,none⟩) L.length cap:=by
 rcases h.row.o.2 with ⟨_,h0⟩ | ⟨q,cap,cur,e,_⟩
 ·omega
 ·exact⟨q,cap,e⟩
theorem own_froz {w:World} {B e s g n cap:Nat} {xs:List Value} (h:w.ownsRow B e s (.slice (some ⟨g,0,none⟩) n cap) n xs):∀ j,w.frozen? ⟨g,j,none⟩=false:=fun j=>by
 rcases h.2 with ⟨h1,_⟩ | ⟨g',cap,cur,h1,hB,hgg,_⟩
 ·cases h1
 ·cases h1
  simp [World.frozen?,hgg]
set_option maxRecDepth 20000 in
set_option maxHeartbeats 16000000 in
theorem srcWorld {ρ:SRow} (b:Nat) (w:World) (hS:Src ρ w b) (hr:RB ρ w.heap.size) :
  Calls Tryz.prog 57 #[.pointer (some ⟨b,0,none⟩)] w fun e w'=>∃ v L,e = .returned v∧1≤L.length∧L.length≤20∧FW ρ b w w' v L:=by
 obtain ⟨ic,hi,hz0,hz1,hz2⟩:=info_parts infoClT
 have HC:Hid (Tryz.prog.info? 51 = some ic∧ic.zero=some zCl∧ic.size=6∧ic.bytes=88):=⟨hi,hz0,hz1,hz2⟩
 obtain ⟨i0,hi0,hz0',hz1',hz2'⟩:=info_parts infoFldT
 have HF:Hid (Tryz.prog.info? 61 = some i0∧i0.zero=some zF∧i0.size=3∧i0.bytes=40):=⟨hi0,hz0',hz1',hz2'⟩
 clear hi hz0 hz1 hz2 hi0 hz0' hz1' hz2'
 have HST:=(show Hid _ from DW.start hS hr)
 have hbw:=hS.lt
 have HRB:=(show Hid (RB ρ w.heap.size) from hr)
 clear hS hr
 go_enter Tryz.func57,Tryz.ntmps57
 go_wp2_with fail
 refine (srcN b _ 3 (by decide) (by decide) HST.out.src).mono ?_
 rintro e w1 ⟨n0,rfl,⟨n00,n01⟩,hs,ho⟩
 have X1:=(show Hid _ from HST.out.call hs ho.kept)
 clear hs ho HST
 obtain ⟨n0,rfl⟩:=Int.eq_ofNat_of_zero_le n00
 go_wp2_with fail
 go_loopw [3,6] (fun j3 j6 wr=>∃ (L:List ClT) (v:Value),L.length≤n0+1∧j3=v∧j6 = .int .i64 (L.length:Int)∧DW ρ b w wr v L (w.heap.size+1)) (fun _ j6 _=>n0+1 - (intOf j6).toNat)
 case atStart=>exact⟨[],_,by simp,rfl,rfl,X1.out⟩
 case round =>
  obtain ⟨L,v,hL,hv,rfl,hx⟩:=hrel
  obtain ⟨vp,vc,rfl⟩:=own_sn hx.row.o
  subst hv
  obtain ⟨ln,hln⟩:∃ ln,L.length=ln:=⟨_,rfl⟩
  rw [hln] at hL hx ⊢
  have HLN:Hid (L.length=ln):=hln
  have X2:=(show Hid (DW ρ b w wr (.slice vp ln vc) L (w.heap.size+1)) from hx)
  clear hx X1 hln
  by_cases hlt:ln<n0+1
  ·have dl:decide ((ln:Int)<1+(n0:Int))=true:=decide_eq_true (by omega)
   have hwr:w.heap.size≤wr.heap.size:=X2.out.kpt.size
   go_wp2_with fail
   refine Calls.mono (srcPick b wr.heap.size 2 [⟨#[79,98,106,101,99,116]⟩,⟨#[69,114,114,111,114]⟩] _ rfl (by decide) (by decide) (X2.out.lit _).src (by omega) ?_) ?_
   ·intro j hj
    rw [World.cell?_alloc_mark]
    match j,hj with
    | 0,_ | 1,_=>rfl
   rintro e w2 ⟨t,rfl,ht,hs,ho⟩
   have htz:t.size≤1000:=by
    simp only [List.mem_cons,List.not_mem_nil,or_false] at ht
    rcases ht with rfl | rfl<;>decide
   have X3:Hid (DW ρ b w w2 (.slice vp ln vc) L (w.heap.size+1)):=(X2.out.lit _).call hs ho.kept
   clear hs ho ht X2
   by_cases h0:¬ 0<ln
   ·skip
    obtain ⟨nm,cnm,hnm⟩:=X3.out.name (i:=ln) (by omega)
    have hw5:w.heap.size≤w2.heap.size:=X3.out.kpt.size
    go_wp2_with fail
    refine (srcClass b nm t w2 X3.out.src (HRB.out.mono hw5)).mono ?_
    rintro e w6 ⟨c,vf,vm,rfl,hok,hrw,hs,hk⟩
    obtain ⟨fp,fc,rfl⟩:=own_sn hrw.f
    obtain ⟨mp,mc,rfl⟩:=own_sn hrw.m
    have X6:Hid (DW ρ b w w6 (.slice vp ln vc) L (w.heap.size+1)):=X3.out.call hs hk
    have HA:=(show Hid _ from X3.out.apart hrw)
    have HOK:Hid (okK c):=hok.k hnm htz
    have HNF:Hid (c.fs.length≤4):=hok.nf
    have HRW:=(show Hid (RwC w6 w.heap.size c (.slice fp c.fs.length fc) (.slice mp c.ms.length mc)) from hrw.low hw5)
    clear hs hk hok hrw X3 cnm
    go_wp2_with (at_builtin;refine wpList_append_own _ rfl _ _ 26 rfl w.heap.size 51 ic zCl 6 88 Tryz.underlying26 HC.out.1 HC.out.2.1 HC.out.2.2.1 HC.out.2.2.2 rfl (by decide) _ _ _ rfl (X6.out.lit _).row.o ⟨w6.heap.size,0,none⟩ 1 1 (cCl (c,.slice fp c.fs.length fc,.slice mp c.ms.length mc)) rfl rfl ?qa0 ?qb0 ?qc0 ?qd0 ?qe0 ?_)
    case qa0 =>
     intro j u hj
     rw [lit_add (by simp)]
     simpa [cCl] using hj
    case qb0 =>
     intro u hu
     simp only [cCl,List.mem_cons,List.not_mem_nil,or_false] at hu
     rcases hu with rfl | rfl | rfl | rfl | rfl | rfl<;>rfl
    case qc0=>have:=maxLen_ge;have:=HLN.out;omega
    case qd0=>have:=HLN.out;omega
    case qe0 =>
     have:=X6.out.kpt.size
     simp
     omega
    intro v' w9 hown hgrow _
    obtain ⟨tp,tl,tc,rfl⟩:=own_sl hown
    have X9:Hid (DW ρ b w w9 (.slice tp tl tc) (L ++ [(c,.slice fp c.fs.length fc,.slice mp c.ms.length mc)]) (w.heap.size+1)):=(X6.out.lit _).push (x:=(c,.slice fp c.fs.length fc,.slice mp c.ms.length mc)) (HRW.out.lit _) HOK.out HNF.out HA.out hown hgrow
    clear hown hgrow HA HOK HNF HRW X6
    go_wp2
    go_roundw
    case rel=>exact⟨L ++ [(c,.slice fp c.fs.length fc,.slice mp c.ms.length mc)],_,by rw [List.length_append,HLN.out];simp;omega,rfl,by rw [List.length_append,HLN.out];simp,X9.out⟩
    case measure=>simp [intOf];omega
   ·have h0:0<ln:=by omega
    go_wp2_with fail
    refine (srcOne b _ 2 (by decide) (by decide) X3.out.src).mono ?_
    rintro e w3 ⟨r,rfl,hs,ho⟩
    have X4:Hid (DW ρ b w w3 (.slice vp ln vc) L (w.heap.size+1)):=X3.out.call hs ho.kept
    clear hs ho X3
    cases r with
    | false =>
     obtain ⟨nm,cnm,hnm⟩:=X4.out.name (i:=ln) (by omega)
     have hw5:w.heap.size≤w3.heap.size:=X4.out.kpt.size
     go_wp2_with fail
     refine (srcClass b nm t w3 X4.out.src (HRB.out.mono hw5)).mono ?_
     rintro e w6 ⟨c,vf,vm,rfl,hok,hrw,hs,hk⟩
     obtain ⟨fp,fc,rfl⟩:=own_sn hrw.f
     obtain ⟨mp,mc,rfl⟩:=own_sn hrw.m
     have X6:Hid (DW ρ b w w6 (.slice vp ln vc) L (w.heap.size+1)):=X4.out.call hs hk
     have HA:=(show Hid _ from X4.out.apart hrw)
     have HOK:Hid (okK c):=hok.k hnm htz
     have HNF:Hid (c.fs.length≤4):=hok.nf
     have HRW:=(show Hid (RwC w6 w.heap.size c (.slice fp c.fs.length fc) (.slice mp c.ms.length mc)) from hrw.low hw5)
     clear hs hk hok hrw X4 cnm
     go_wp2_with (at_builtin;refine wpList_append_own _ rfl _ _ 26 rfl w.heap.size 51 ic zCl 6 88 Tryz.underlying26 HC.out.1 HC.out.2.1 HC.out.2.2.1 HC.out.2.2.2 rfl (by decide) _ _ _ rfl (X6.out.lit _).row.o ⟨w6.heap.size,0,none⟩ 1 1 (cCl (c,.slice fp c.fs.length fc,.slice mp c.ms.length mc)) rfl rfl ?qa1 ?qb1 ?qc1 ?qd1 ?qe1 ?_)
     case qa1 =>
      intro j u hj
      rw [lit_add (by simp)]
      simpa [cCl] using hj
     case qb1 =>
      intro u hu
      simp only [cCl,List.mem_cons,List.not_mem_nil,or_false] at hu
      rcases hu with rfl | rfl | rfl | rfl | rfl | rfl<;>rfl
     case qc1=>have:=maxLen_ge;have:=HLN.out;omega
     case qd1=>have:=HLN.out;omega
     case qe1 =>
      have:=X6.out.kpt.size
      simp
      omega
     intro v' w9 hown hgrow _
     obtain ⟨tp,tl,tc,rfl⟩:=own_sl hown
     have X9:Hid (DW ρ b w w9 (.slice tp tl tc) (L ++ [(c,.slice fp c.fs.length fc,.slice mp c.ms.length mc)]) (w.heap.size+1)):=(X6.out.lit _).push (x:=(c,.slice fp c.fs.length fc,.slice mp c.ms.length mc)) (HRW.out.lit _) HOK.out HNF.out HA.out hown hgrow
     clear hown hgrow HA HOK HNF HRW X6
     go_wp2
     go_roundw
     case rel=>exact⟨L ++ [(c,.slice fp c.fs.length fc,.slice mp c.ms.length mc)],_,by rw [List.length_append,HLN.out];simp;omega,rfl,by rw [List.length_append,HLN.out];simp,X9.out⟩
     case measure=>simp [intOf];omega
    | true =>
     go_wp2_with fail
     refine (srcN1 b _ (ln:Int) (by omega) (by omega) X4.out.src).mono ?_
     rintro e w4 ⟨r,rfl,⟨r0,r1⟩,hs,ho⟩
     have X5:Hid (DW ρ b w w4 (.slice vp ln vc) L (w.heap.size+1)):=X4.out.call hs ho.kept
     clear hs ho X4
     obtain ⟨r,rfl⟩:=Int.eq_ofNat_of_zero_le r0
     obtain ⟨t2,ct2,ht2⟩:=X5.out.name (i:=r) (by omega)
     obtain ⟨nm,cnm,hnm⟩:=X5.out.name (i:=ln) (by omega)
     have hw5:w.heap.size≤w4.heap.size:=X5.out.kpt.size
     go_wp2_with fail
     refine (srcClass b nm t2 w4 X5.out.src (HRB.out.mono hw5)).mono ?_
     rintro e w6 ⟨c,vf,vm,rfl,hok,hrw,hs,hk⟩
     obtain ⟨fp,fc,rfl⟩:=own_sn hrw.f
     obtain ⟨mp,mc,rfl⟩:=own_sn hrw.m
     have X6:Hid (DW ρ b w w6 (.slice vp ln vc) L (w.heap.size+1)):=X5.out.call hs hk
     have HA:=(show Hid _ from X5.out.apart hrw)
     have HOK:Hid (okK c):=hok.k hnm ht2
     have HNF:Hid (c.fs.length≤4):=hok.nf
     have HRW:=(show Hid (RwC w6 w.heap.size c (.slice fp c.fs.length fc) (.slice mp c.ms.length mc)) from hrw.low hw5)
     clear hs hk hok hrw X5 cnm
     go_wp2_with (at_builtin;refine wpList_append_own _ rfl _ _ 26 rfl w.heap.size 51 ic zCl 6 88 Tryz.underlying26 HC.out.1 HC.out.2.1 HC.out.2.2.1 HC.out.2.2.2 rfl (by decide) _ _ _ rfl (X6.out.lit _).row.o ⟨w6.heap.size,0,none⟩ 1 1 (cCl (c,.slice fp c.fs.length fc,.slice mp c.ms.length mc)) rfl rfl ?qa2 ?qb2 ?qc2 ?qd2 ?qe2 ?_)
     case qa2 =>
      intro j u hj
      rw [lit_add (by simp)]
      simpa [cCl] using hj
     case qb2 =>
      intro u hu
      simp only [cCl,List.mem_cons,List.not_mem_nil,or_false] at hu
      rcases hu with rfl | rfl | rfl | rfl | rfl | rfl<;>rfl
     case qc2=>have:=maxLen_ge;have:=HLN.out;omega
     case qd2=>have:=HLN.out;omega
     case qe2 =>
      have:=X6.out.kpt.size
      simp
      omega
     intro v' w9 hown hgrow _
     obtain ⟨tp,tl,tc,rfl⟩:=own_sl hown
     have X9:Hid (DW ρ b w w9 (.slice tp tl tc) (L ++ [(c,.slice fp c.fs.length fc,.slice mp c.ms.length mc)]) (w.heap.size+1)):=(X6.out.lit _).push (x:=(c,.slice fp c.fs.length fc,.slice mp c.ms.length mc)) (HRW.out.lit _) HOK.out HNF.out HA.out hown hgrow
     clear hown hgrow HA HOK HNF HRW X6
     go_wp2
     go_roundw
     case rel=>exact⟨L ++ [(c,.slice fp c.fs.length fc,.slice mp c.ms.length mc)],_,by rw [List.length_append,HLN.out];simp;omega,rfl,by rw [List.length_append,HLN.out];simp,X9.out⟩
     case measure=>simp [intOf];omega
  ·have HLe:Hid (ln=n0+1):=by show _=_;omega
   have hl13:1≤ln∧ln≤3:=by omega
   have dl:decide ((ln:Int)<1+(n0:Int))=false:=decide_eq_false (by omega)
   have hwr:w.heap.size≤wr.heap.size:=X2.out.kpt.size
   clear hlt hL
   go_wp2_with fail
   refine (srcOne b _ 12 (by decide) (by decide) X2.out.src).mono ?_
   rintro e w2 ⟨r,rfl,hs,ho⟩
   have X3:Hid (DW ρ b w w2 (.slice vp ln vc) L (w.heap.size+1)):=X2.out.call hs ho.kept
   clear hs ho X2
   cases r with
   | false =>
    go_wp2
    go_ret
    exact⟨_,L,rfl,by rw [HLN.out];omega,by rw [HLN.out];omega,X3.out.toFW⟩
   | true =>
    go_wp2_with fail
    refine (srcN1 b _ (1+(n0:Int)) (by omega) (by omega) X3.out.src).mono ?_
    rintro e w3 ⟨k,rfl,⟨k0,k1⟩,hs,ho⟩
    have X4:Hid (DW ρ b w w3 (.slice vp ln vc) L (w.heap.size+1)):=X3.out.call hs ho.kept
    clear hs ho X3
    obtain ⟨k,rfl⟩:=Int.eq_ofNat_of_zero_le k0
    have hkl:k<ln:=by have:=HLe.out;omega
    have hk:k<L.length:=by rw [HLN.out];exact hkl
    have hkI:(k:Int)<(ln:Int):=by omega
    go_wp2_with fail
    refine (srcN b _ 5 (by decide) (by decide) X4.out.src).mono ?_
    rintro e w4 ⟨sw,rfl,⟨s0,s1⟩,hs,ho⟩
    have X5:Hid (DW ρ b w w4 (.slice vp ln vc) L (w.heap.size+1)):=X4.out.call hs ho.kept
    clear hs ho X4
    obtain ⟨q,cap,hv⟩:=X5.out.some (by rw [HLN.out];omega)
    rw [HLN.out] at hv
    cases hv
    have hw4:w.heap.size≤w4.heap.size:=X5.out.kpt.size
    have X5L:Hid (DW ρ b w w4 (.slice (some ⟨q,0,none⟩) L.length vc) L (w.heap.size+1)):=by rw [HLN.out];exact X5
    have hsw:sw=0 ∨ sw=1 ∨ sw=2 ∨ sw=3 ∨ sw=4:=by omega
    clear s0 s1
    rcases hsw with rfl | rfl | rfl | rfl | rfl
    ·skip
     go_wp2_with fail
     refine Calls.mono (srcPick b w4.heap.size 3 [⟨#[65]⟩,⟨#[79,98,106,101,99,116]⟩,⟨#[69,114,114,111,114]⟩] _ rfl (by decide) (by decide) (X5.out.lit _).src (by omega) ?_) ?_
     ·intro j hj
      rw [World.cell?_alloc_mark]
      match j,hj with
      | 0,_ | 1,_ | 2,_=>rfl
     rintro e w5 ⟨t,rfl,ht,hs,ho⟩
     have htz:t.size≤1000:=by
      simp only [List.mem_cons,List.not_mem_nil,or_false] at ht
      rcases ht with rfl | rfl | rfl<;>decide
     have X6:Hid (DW ρ b w w5 (.slice (some ⟨q,0,none⟩) ln vc) L (w.heap.size+1)):=(X5.out.lit _).call hs ho.kept
     have X6L:Hid (DW ρ b w w5 (.slice (some ⟨q,0,none⟩) L.length vc) L (w.heap.size+1)):=by rw [HLN.out];exact X6
     have c0:w5.cell? ⟨q,k * 6,none⟩=some (.string L[k].1.nm):=X6L.out.row.cells hk 0 (by omega)
     have hfz:∀ j,w5.frozen? ⟨q,j,none⟩=false:=own_froz X6L.out.row.o
     have F:Hid (FW ρ b w (w5.setCell ⟨q,k * 6,none⟩ (.string t)) (.slice (some ⟨q,0,none⟩) ln vc) (L.set k ({ L[k].1 with nm:=t },L[k].2))):=by
      have h:=X6L.out.setName hk t htz
      rw [HLN.out] at h
      exact h
     obtain ⟨x0,hx0⟩:∃ x0,L[k].1.nm=x0:=⟨_,rfl⟩
     rw [hx0] at c0
     clear hs ho ht X5 X5L X6 X6L hx0
     go_wp2
     go_ret
     exact⟨_,_,rfl,by rw [List.length_set,HLN.out];omega,by rw [List.length_set,HLN.out];omega,F.out⟩
    ·skip
     go_wp2_with fail
     refine Calls.mono (srcPick b w4.heap.size 4 [⟨#[77,97,116,104,69,114,114,111,114]⟩,⟨#[90]⟩,⟨#[67]⟩,⟨#[66]⟩] _ rfl (by decide) (by decide) (X5.out.lit _).src (by omega) ?_) ?_
     ·intro j hj
      rw [World.cell?_alloc_mark]
      match j,hj with
      | 0,_ | 1,_ | 2,_ | 3,_=>rfl
     rintro e w5 ⟨t,rfl,ht,hs,ho⟩
     have htz:t.size≤1000:=by
      simp only [List.mem_cons,List.not_mem_nil,or_false] at ht
      rcases ht with rfl | rfl | rfl | rfl<;>decide
     have X6:Hid (DW ρ b w w5 (.slice (some ⟨q,0,none⟩) ln vc) L (w.heap.size+1)):=(X5.out.lit _).call hs ho.kept
     have X6L:Hid (DW ρ b w w5 (.slice (some ⟨q,0,none⟩) L.length vc) L (w.heap.size+1)):=by rw [HLN.out];exact X6
     have c0:w5.cell? ⟨q,k * 6+1,none⟩=some (.string L[k].1.su):=X6L.out.row.cells hk 1 (by omega)
     have hfz:∀ j,w5.frozen? ⟨q,j,none⟩=false:=own_froz X6L.out.row.o
     have F:Hid (FW ρ b w (w5.setCell ⟨q,k * 6+1,none⟩ (.string t)) (.slice (some ⟨q,0,none⟩) ln vc) (L.set k ({ L[k].1 with su:=t },L[k].2))):=by
      have h:=X6L.out.setSuper hk t htz
      rw [HLN.out] at h
      exact h
     obtain ⟨x0,hx0⟩:∃ x0,L[k].1.su=x0:=⟨_,rfl⟩
     rw [hx0] at c0
     clear hs ho ht X5 X5L X6 X6L hx0
     go_wp2
     go_ret
     exact⟨_,_,rfl,by rw [List.length_set,HLN.out];omega,by rw [List.length_set,HLN.out];omega,F.out⟩
    ·have e1:1+(n0:Int) - 1=(n0:Int):=by omega
     obtain ⟨t,ct,htz⟩:=X5.out.name (i:=n0) (by omega)
     have hk0:0<L.length:=by rw [HLN.out];omega
     have hk0I:(0:Int)<(ln:Int):=by omega
     have hn4:(n0:Int)<4:=by omega
     have c0:w4.cell? ⟨q,1,none⟩=some (.string L[0].1.su):=X5L.out.row.cells hk0 1 (by omega)
     have hfz:∀ j,w4.frozen? ⟨q,j,none⟩=false:=own_froz X5L.out.row.o
     have F:Hid (FW ρ b w (w4.setCell ⟨q,1,none⟩ (.string t)) (.slice (some ⟨q,0,none⟩) ln vc) (L.set 0 ({ L[0].1 with su:=t },L[0].2))):=by
      have h:=X5L.out.setSuper hk0 t htz
      rw [HLN.out] at h
      exact h
     obtain ⟨x0,hx0⟩:∃ x0,L[0].1.su=x0:=⟨_,rfl⟩
     rw [hx0] at c0
     clear X5 X5L hx0
     go_wp2
     go_ret
     exact⟨_,_,rfl,by rw [List.length_set,HLN.out];omega,by rw [List.length_set,HLN.out];omega,F.out⟩
    ·clear X5L hw4 dl HLe hk hkI hkl k0 k1
     go_wp2_with fail
     go_loopw [3] (fun j3 wr=>∃ (L:List ClT) (v:Value),j3=v∧1≤L.length∧L.length≤12∧DW ρ b w wr v L (w.heap.size+1)) (fun j3 _=>match j3 with | .slice _ n _=>20 - n | _=>0)
     case atStart=>exact⟨L,_,rfl,by rw [HLN.out];omega,by rw [HLN.out];omega,X5.out⟩
     case round =>
      obtain ⟨L',v,hv,hl1,hl2,hx⟩:=hrel
      obtain ⟨vp',vc',rfl⟩:=own_sn hx.row.o
      subst hv
      obtain ⟨lm,hlm⟩:∃ lm,L'.length=lm:=⟨_,rfl⟩
      rw [hlm] at hl1 hl2 hx ⊢
      have HLM:Hid (L'.length=lm):=hlm
      have X6:=(show Hid (DW ρ b w wr (.slice vp' lm vc') L' (w.heap.size+1)) from hx)
      clear hx hlm X5
      go_wp2_with fail
      refine (srcN b _ 2 (by decide) (by decide) X6.out.src).mono ?_
      rintro e w6 ⟨r,rfl,⟨r0,r1⟩,hs,ho⟩
      have X7:Hid (DW ρ b w w6 (.slice vp' lm vc') L' (w.heap.size+1)):=X6.out.call hs ho.kept
      clear hs ho X6
      by_cases hlt:(lm:Int)<10+r
      ·have dl:decide ((lm:Int)<10+r)=true:=decide_eq_true hlt
       have hdl:=itoa_l (lm:Int) (by omega) (by omega)
       have HD:=(show Hid _ from fun w'=>specDec (lm:Int) w' (by omega) (by omega))
       obtain ⟨d,hd⟩:∃ d:ByteArray,⟨(Lib.itoa (lm:Int)).toArray⟩=d:=⟨_,rfl⟩
       have hdz:d.size≤21:=by rw [← hd];simpa [ByteArray.size] using hdl
       rw [hd] at HD
       clear hd hdl
       go_wp2_with fail
       refine (HD.out _).mono ?_
       rintro e w7 ⟨rfl,hb7⟩
       have X8:Hid (DW ρ b w w7 (.slice vp' lm vc') L' (w.heap.size+1)):=X7.out.call (X7.out.src.keep hb7) (kpt_below hb7)
       have hw7:w.heap.size≤w7.heap.size:=X8.out.kpt.size
       clear hb7 X7 HD
       have hcat:((⟨#[75]⟩:ByteArray) ++ d).size≤1000:=by rw [ByteArray.size_append];show 1+d.size≤1000;omega
       go_wp2_with (at_builtin;refine wpList_append_own _ rfl _ _ 26 rfl w.heap.size 51 ic zCl 6 88 Tryz.underlying26 HC.out.1 HC.out.2.1 HC.out.2.2.1 HC.out.2.2.2 rfl (by decide) _ _ _ rfl (X8.out.lit _).row.o ⟨w7.heap.size,0,none⟩ 1 1 (cCl (⟨(⟨#[75]⟩:ByteArray) ++ d,⟨#[79,98,106,101,99,116]⟩,false,false,[],[]⟩,.slice none 0 0,.slice none 0 0)) rfl rfl ?qa8 ?qb8 ?qc8 ?qd8 ?qe8 ?_)
       case qa8 =>
        intro j u hj
        rw [lit_add (by simp)]
        simpa [cCl] using hj
       case qb8 =>
        intro u hu
        simp only [cCl,List.mem_cons,List.not_mem_nil,or_false] at hu
        rcases hu with rfl | rfl | rfl | rfl | rfl | rfl<;>rfl
       case qc8=>have:=maxLen_ge;have:=HLM.out;omega
       case qd8=>have:=HLM.out;omega
       case qe8 =>
        simp
        omega
       intro v' w9 hown hgrow _
       obtain ⟨tp,tl,tc,rfl⟩:=own_sl hown
       have X9:Hid (DW ρ b w w9 (.slice tp tl tc) (L' ++ [(⟨(⟨#[75]⟩:ByteArray) ++ d,⟨#[79,98,106,101,99,116]⟩,false,false,[],[]⟩,.slice none 0 0,.slice none 0 0)]) (w.heap.size+1)):=(X8.out.lit _).push (x:=(⟨(⟨#[75]⟩:ByteArray) ++ d,⟨#[79,98,106,101,99,116]⟩,false,false,[],[]⟩,.slice none 0 0,.slice none 0 0)) ⟨World.ownsRow_nil _ _ _ _,World.ownsRow_nil _ _ _ _,(fun x hx=>by cases hx)⟩ ⟨hcat,(by show (⟨#[79,98,106,101,99,116]⟩:ByteArray).size≤1000;decide),(fun d hd=>by cases hd),(fun x hx=>by cases hx)⟩ (by simp) (fun y hy=>by
        cases y.2.1.ownBlock with
        | none=>exact .inl rfl
        | some p=>exact .inr (by simp [Value.ownBlock])) hown hgrow
       have htl:tl=lm+1:=by
        rcases hown.2 with ⟨h1,h2⟩ | ⟨g',cap',cur',h1,_⟩
        ·rw [HLM.out] at h2;omega
        ·rw [HLM.out] at h1;cases h1;rfl
       clear hown hgrow X8
       go_wp2
       go_roundw
       case rel=>exact⟨L' ++ [(⟨(⟨#[75]⟩:ByteArray) ++ d,⟨#[79,98,106,101,99,116]⟩,false,false,[],[]⟩,.slice none 0 0,.slice none 0 0)],_,rfl,by rw [List.length_append];simp,by rw [List.length_append,HLM.out];simp;omega,X9.out⟩
       case measure=>simp only [];omega
      ·have dl:decide ((lm:Int)<10+r)=false:=decide_eq_false hlt
       go_wp2
       go_ret
       exact⟨_,L',rfl,by rw [HLM.out];omega,by rw [HLM.out];omega,X7.out.toFW⟩
    ·have c0:w4.cell? ⟨q,k * 6+4,none⟩=some L[k].2.1:=X5L.out.row.cells hk 4 (by omega)
     have hfz:∀ j,w4.frozen? ⟨q,j,none⟩=false:=own_froz X5L.out.row.o
     have hFo:=(X5.out.row.r _ (List.getElem_mem hk)).f
     have hnf:=X5.out.nf _ (List.getElem_mem hk)
     obtain ⟨fp,fc,hfs⟩:=own_sn hFo
     have HPU:=(show Hid _ from fun (w1:World) (v':Value) h1 h2=>(X5L.out.lit (.cells #[.string ⟨#[113]⟩,.string ⟨#[76,90,59]⟩,.bool false] 61)).pushF (w1:=w1) (v':=v') (d:=(⟨#[113]⟩,⟨#[76,90,59]⟩,false)) hk (by decide) h1 h2)
     rw [hfs] at c0 hFo HPU
     have HFo:=(show Hid (w4.ownsRow w.heap.size 61 3 (.slice fp L[k].1.fs.length fc) L[k].1.fs.length (L[k].1.fs.flatMap cFd)) from hFo)
     have HCA:Hid (∀ o,(w4.alloc o).cell? ⟨q,k * 6+4,none⟩=some (.slice fp L[k].1.fs.length fc)):=fun o=>(World.cell?_of_block (Below.heap_alloc _ _ _ (World.block_lt_of_cell? _ _ c0))).trans c0
     clear hFo hfs
     obtain ⟨nf,hnf2⟩:∃ nf,L[k].1.fs.length=nf:=⟨_,rfl⟩
     have HNF2:Hid (L[k].1.fs.length=nf):=hnf2
     rw [hnf2] at c0 hnf HCA
     have HFo2:Hid (w4.ownsRow w.heap.size 61 3 (.slice fp nf fc) nf (L[k].1.fs.flatMap cFd)):=by rw [← HNF2.out];exact HFo
     clear hnf2
     go_wp2_with (at_builtin;refine wpList_append_own _ rfl _ _ 24 rfl w.heap.size 61 i0 zF 3 40 Tryz.underlying24 HF.out.1 HF.out.2.1 HF.out.2.2.1 HF.out.2.2.2 rfl (by decide) _ _ _ rfl (HFo2.out.alloc _) ⟨w4.heap.size,0,none⟩ 1 1 (cFd (⟨#[113]⟩,⟨#[76,90,59]⟩,false)) rfl rfl ?qa9 ?qb9 ?qc9 ?qd9 ?qe9 ?_)
     case qa9 =>
      intro j u hj
      rw [lit_add (by simp)]
      simpa [cFd] using hj
     case qb9 =>
      intro u hu
      simp only [cFd,List.mem_cons,List.not_mem_nil,or_false] at hu
      rcases hu with rfl | rfl | rfl<;>rfl
     case qc9=>have:=maxLen_ge;omega
     case qd9=>omega
     case qe9 =>
      simp
      omega
     intro v' w9 hown hgrow _
     obtain ⟨tp,tl,tc,rfl⟩:=own_sl hown
     have hb9:(w9.cell? ⟨q,k * 6+4,none⟩=some (.slice fp nf fc))∧∀ j,w9.frozen? ⟨q,j,none⟩=false:=by
      have hne:some q ≠ (Value.slice fp nf fc).ownBlock:=fun e=>by
       rcases own_apart HFo2.out X5L.out.row.o (by decide) with h | h
       ·rw [h] at e;cases e
       ·exact h e.symm
      have hq4:q<w4.heap.size:=(X5L.out.row.o.lt q rfl).2
      have h9:=(hgrow.block q (by simp;omega) hne).trans (Below.heap_alloc _ _ _ hq4)
      exact⟨(World.cell?_of_block h9).trans c0,fun j=>(World.frozen?_of_block h9).trans (hfz j)⟩
     have F:Hid (FW ρ b w (w9.setCell ⟨q,k * 6+4,none⟩ (.slice tp tl tc)) (.slice (some ⟨q,0,none⟩) ln vc) (L.set k ({ L[k].1 with fs:=L[k].1.fs ++ [(⟨#[113]⟩,⟨#[76,90,59]⟩,false)] },.slice tp tl tc,L[k].2.2))):=by
      have h:=HPU.out w9 (.slice tp tl tc) (by rw [HNF2.out];exact hown) (by rw [HNF2.out];exact hgrow)
      rw [HLN.out] at h
      exact h
     obtain ⟨z9,zf9⟩:=hb9
     clear X5 X5L HPU HFo HFo2 HCA hown hgrow c0 hfz
     go_wp2
     go_ret
     exact⟨_,rfl,_,by rw [List.length_set,HLN.out];omega,by rw [List.length_set,HLN.out];omega,F.out⟩
end Go.Proofs.YtmhgaggpdggbeaaGreatDoor
