import Derived.Test.YtmhgaggpdggbeaaGreatDoorDrL
namespace Go.Proofs.YtmhgaggpdggbeaaGreatDoor
open Go.RowKit
set_option maxRecDepth 20000
set_option linter.unusedVariables false
set_option maxHeartbeats 1000000 in
theorem srcName {ρ:SRow} (b:Nat) (w:World) (hS:Src ρ w b) :
  Calls Tryz.prog 61 #[.pointer (some ⟨b,0,none⟩)] w fun e w'=>∃ t,e = .returned (.string t)∧t.size≤1000∧Src ρ w' b∧Kpt b w w':=by
 have hlt:=hS.lt
 go_enter Tryz.func61,Tryz.ntmps61
 go_wp2_with fail
 refine Calls.mono (srcPick b w.heap.size 7 [⟨#[65]⟩,⟨#[66]⟩,⟨#[67]⟩,⟨#[79,98,106,101,99,116]⟩,⟨#[69,114,114,111,114]⟩,⟨#[77,97,116,104,69,114,114,111,114]⟩,⟨#[90]⟩] _ rfl (by decide) (by decide) (hS.keep lit_below) (by omega) ?_) ?_
 ·intro j hj
  rw [World.cell?_alloc_mark]
  match j,hj with
  | 0,_ | 1,_ | 2,_ | 3,_ | 4,_ | 5,_ | 6,_=>rfl
 rintro e w1 ⟨t,rfl,ht,hs,ho⟩
 have htz:t.size≤1000:=by
  simp only [List.mem_cons,List.not_mem_nil,or_false] at ht
  rcases ht with rfl | rfl | rfl | rfl | rfl | rfl | rfl<;>decide
 have HX:Hid (Src ρ w1 b∧Kpt b w w1):=⟨hs,(kpt_alloc b w _).trans ho.kept⟩
 clear hS hs ho ht
 go_wp2
 go_ret
 exact⟨_,rfl,htz,HX.out⟩
theorem row_RB {w:World} {a:Option Addr} {len cap:Nat} {zs:List Int} (hr:IsRow .u8 w a len cap zs):RB ⟨a,len,cap,zs⟩ w.heap.size:=fun x hx hz=>by
 rcases hr with ⟨h,_⟩ | ⟨y,hy,h1,h2,h3,h4,h5⟩
 ·simp_all
 ·have e:x=y:=by simpa [hy] using hx.symm
  subst e
  have hl:=World.block_lt_of_cell? w _ (h4 0 hz)
  rwa [add_block] at hl
set_option maxHeartbeats 4000000 in
theorem drawPair (a:Option Addr) (len cap:Nat) (zs:List Int) (w:World) (hr:IsRow .u8 w a len cap zs) (hl:len≤1048576) :
  Calls Tryz.prog 51 #[.slice a len cap] w fun e w'=>∃ v L t1 t2,e = .returned (.tuple #[v,.string t1,.string t2])∧t1.size≤1000∧t2.size≤1000∧classR.slice.In w' [v] L∧Below w.heap.size w w':=by
 have HR:=(show Hid (RB ⟨a,len,cap,zs⟩ w.heap.size) from row_RB hr)
 have HM:=(show Hid _ from srcMake a len cap zs w hr hl)
 clear hr hl
 go_enter Tryz.func51,Tryz.ntmps51
 go_wp2_with fail
 refine Calls.mono HM.out ?_
 rintro e w1 ⟨rfl,hS1,hb1⟩
 have HB1:Hid (Below w.heap.size w w1):=hb1
 have HW:=(show Hid _ from srcWorld w.heap.size w1 hS1 (HR.out.mono hb1.size))
 clear hS1 hb1 HM
 go_wp2_with fail
 refine Calls.mono HW.out ?_
 rintro e w2 ⟨v,L,rfl,hl1,hl2,hf⟩
 have F2:=(show Hid (FW ⟨a,len,cap,zs⟩ w.heap.size w1 w2 v L) from hf)
 clear hf HW
 obtain ⟨vp,vc,rfl⟩:=own_sn F2.out.row.o
 go_wp2_with fail
 refine Calls.mono (srcName w.heap.size w2 F2.out.src) ?_
 rintro e w3 ⟨t1,rfl,hz1,hs,hk⟩
 have F3:Hid (FW ⟨a,len,cap,zs⟩ w.heap.size w1 w3 (.slice vp L.length vc) L):=F2.out.call hs hk
 clear hs hk F2
 go_wp2_with fail
 refine Calls.mono (srcName w.heap.size w3 F3.out.src) ?_
 rintro e w4 ⟨t2,rfl,hz2,hs,hk⟩
 have F4:Hid (FW ⟨a,len,cap,zs⟩ w.heap.size w1 w4 (.slice vp L.length vc) L):=F3.out.call hs hk
 clear hs hk F3
 have HX:Hid (classR.slice.In w4 [.slice vp L.length vc] (L.map kOf)∧Below w.heap.size w w4):=⟨F4.out.row.lies,F4.out.kpt.below HB1.out HB1.out.size⟩
 go_wp2
 exact bodyPost_ret (v:=.tuple #[.slice vp L.length vc,.string t1,.string t2]) (by simp [results,Tryz.results51,go_sem]) rfl ⟨_,_,_,_,rfl,hz1,hz2,HX.out.1,HX.out.2⟩
theorem drawCommonOf (a:Option Addr) (len cap:Nat) (zs:List Int) (w:World) (hr:IsRow .u8 w a len cap zs) (hl:len≤1048576) :
  Calls Tryz.prog 21 #[.slice a len cap] w fun e w'=>∃ p L k c t1 t2,e = .returned (.tuple #[.slice p k c,.string t1,.string t2])∧t1.size≤1000∧t2.size≤1000∧classR.slice.In w' [.slice p k c] L∧Below w.heap.size w w':=by
 have HP:=(show Hid _ from drawPair a len cap zs w hr hl)
 clear hr hl
 go_enter Tryz.func21,Tryz.ntmps21
 go_wp2_with fail
 refine Calls.mono HP.out ?_
 rintro e w1 ⟨v,L,t1,t2,rfl,h1,h2,hin,hb⟩
 obtain ⟨p,c,rfl,_⟩:=slice_open (by decide) hin
 have HX:Hid (classR.slice.In w1 [.slice p L.length c] L∧Below w.heap.size w w1):=⟨hin,hb⟩
 clear hin hb HP
 go_wp2
 exact bodyPost_ret (v:=.tuple #[.slice p L.length c,.string t1,.string t2]) (by simp [results,Tryz.results21,go_sem]) rfl ⟨p,L,_,c,t1,t2,rfl,h1,h2,HX.out.1,HX.out.2⟩
end Go.Proofs.YtmhgaggpdggbeaaGreatDoor
