import Derived.Test.YtmhgaggpdggbeaaGreatDoorWi10
import Derived.Test.YtmhgaggpdggbeaaGreatDoorAP
import Derived.Deep.RegionHeld3
import Derived.Test.YtmhgaggpdggbeaaGreatDoorWiE
namespace Go.Proofs.YtmhgaggpdggbeaaGreatDoor
open Go.RowKit
set_option maxRecDepth 20000
set_option linter.unusedVariables false

def mtV (mn md:ByteArray) (mst mab mfi:Bool) (msk mlo:Int) (va:Option Addr) (vn vc:Nat) (ha:Option Addr) (hn hc:Nat):Value:=.agg #[.string mn,.string md,.bool mst,.bool mab,.bool mfi,.int .i64 msk,.int .i64 mlo,.slice va vn vc,.slice ha hn hc]
set_option maxRecDepth 100000 in
set_option maxHeartbeats 1500000 in
theorem implWritten (lv:Value) (r:Nat) (E:List WE) (es:Array MapEntry) (ck:Nat) (x:WE) (fa:Option Addr) (fc:Nat) (ma:Option Addr) (mc:Nat) (w:World) (h:WmIs w r E es ck) (hx:x ∈ E) (hl:∃ a k c,lv = .slice a k c) (hmi:methR.slice.In w [.slice ma (msC x.c).length mc] (msC x.c))
  (mn md:ByteArray) (mst mab mfi:Bool) (msk mlo:Int) (va:Option Addr) (vn vc:Nat) (ha:Option Addr) (hn hc:Nat) (smn:mn.size≤maxLen) (smd:md.size≤maxLen) (q:Bool)
  (hq:(kLk x.c mn md=none∧q=false) ∨ ∃ j,∃ hj:j<(msC x.c).length,kLk x.c mn md=some (j:Int)∧q=(mfi || (mst != (mD (msC x.c)[j]).static))) :
  Calls Tryz.prog 109 #[wdV lv r,clC x.c fa fc ma mc,mtV mn md mst mab mfi msk mlo va vn vc ha hn hc] w fun e w'=>e = .returned (.bool q)∧Below w.heap.size w w':=by
 have HW:=(show Hid (WmIs w r E es ck) from h)
 have hin:=h.lies x hx
 have HLk:Hid (∀ w',Below w.heap.size w w'→(Instr.lookup 70 (.map (some r)) (.string (nmC x.c)) false).run Tryz.prog w' = .ok (weV x) w'):=fun w' hb=>by
  rcases (HW.out.below hb).look (nmC x.c) hin.n with ⟨e,_⟩ | ⟨y,_,_,e,_,e2⟩
  ·rw [show lkG nmE E (nmC x.c)=some x from lkG_mem HW.out.nd hx] at e;cases e
  ·rw [show lkG nmE E (nmC x.c)=some x from lkG_mem HW.out.nd hx] at e;cases e;exact e2
 have HKy:Hid (∀ w',Calls Tryz.prog 106 #[.agg #[.string mn,.string md,.bool mst,.bool mab,.bool mfi,.int .i64 msk,.int .i64 mlo,.slice va vn vc,.slice ha hn hc]] w' fun e w2=>e = .returned (.agg #[.string mn,.string md])∧Below w'.heap.size w' w2):=fun w'=>implKeyMeth mn md mst mab mfi msk mlo _ _ w'
 have HMk:=(show Hid (∀ w',Below w.heap.size w w'→(kLk x.c mn md=none∧(Instr.lookup 100 (.map (some x.rm)) (.agg #[.string mn,.string md]) true).run Tryz.prog w' = .ok (.tuple #[.int .i64 0,.bool false]) w') ∨
  (∃ p,kLk x.c mn md=some p∧(Instr.lookup 100 (.map (some x.rm)) (.agg #[.string mn,.string md]) true).run Tryz.prog w' = .ok (.tuple #[.int .i64 p,.bool true]) w')) from fun w' hb=>(hin.k.below hb).look mn md smn smd)
 obtain ⟨la,lk,lc,rfl⟩:=hl
 obtain ⟨_,_,em,mn0,mcap,mat⟩:=slice_open (by decide) hmi
 cases em
 unfold maxLen at mcap
 have f1:=fieldWE1
 unfold wdV clC mtV
 unfold weV WE.vc WE.vh at HLk
 rcases hq with ⟨e1,e2⟩ | ⟨j,hj,e1,e2⟩
 ·have HM1:=(show Hid (∀ w',Below w.heap.size w w'→(Instr.lookup 100 (.map (some x.rm)) (.agg #[.string mn,.string md]) true).run Tryz.prog w' = .ok (.tuple #[.int .i64 0,.bool false]) w') from fun w' hb=>by
   rcases HMk.out w' hb with ⟨_,k⟩ | ⟨p,k,_⟩
   ·exact k
   ·rw [e1] at k;cases k)
  clear HMk mat h hin e1
  subst e2
  go_enter Tryz.func109,Tryz.ntmps109
  go_wp2_with fail
  have x1:(((w.alloc (.cells #[.slice la lk lc,.map (some r)] 72)).alloc (.cells #[.string (nmC x.c),.string (suC x.c),.bool (fiC x.c),.bool (abC x.c),.slice fa (fsC x.c).length fc,.slice ma (msC x.c).length mc] 51)).alloc (.cells #[.string mn,.string md,.bool mst,.bool mab,.bool mfi,.int .i64 msk,.int .i64 mlo,.slice va vn vc,.slice ha hn hc] 55)).cell? ⟨w.heap.size,1,none⟩=some (.map (some r)):=by simp [go_sem]
  have y0:(((w.alloc (.cells #[.slice la lk lc,.map (some r)] 72)).alloc (.cells #[.string (nmC x.c),.string (suC x.c),.bool (fiC x.c),.bool (abC x.c),.slice fa (fsC x.c).length fc,.slice ma (msC x.c).length mc] 51)).alloc (.cells #[.string mn,.string md,.bool mst,.bool mab,.bool mfi,.int .i64 msk,.int .i64 mlo,.slice va vn vc,.slice ha hn hc] 55)).cell? ⟨w.heap.size+1,0,none⟩=some (.string (nmC x.c)):=by simp [go_sem]
  have y5:(((w.alloc (.cells #[.slice la lk lc,.map (some r)] 72)).alloc (.cells #[.string (nmC x.c),.string (suC x.c),.bool (fiC x.c),.bool (abC x.c),.slice fa (fsC x.c).length fc,.slice ma (msC x.c).length mc] 51)).alloc (.cells #[.string mn,.string md,.bool mst,.bool mab,.bool mfi,.int .i64 msk,.int .i64 mlo,.slice va vn vc,.slice ha hn hc] 55)).cell? ⟨w.heap.size+1,5,none⟩=some (.slice ma (msC x.c).length mc):=by simp [go_sem]
  have z0:(((w.alloc (.cells #[.slice la lk lc,.map (some r)] 72)).alloc (.cells #[.string (nmC x.c),.string (suC x.c),.bool (fiC x.c),.bool (abC x.c),.slice fa (fsC x.c).length fc,.slice ma (msC x.c).length mc] 51)).alloc (.cells #[.string mn,.string md,.bool mst,.bool mab,.bool mfi,.int .i64 msk,.int .i64 mlo,.slice va vn vc,.slice ha hn hc] 55)).cell? ⟨w.heap.size+1+1,0,none⟩=some (.string mn):=by simp [go_sem]
  have z1:(((w.alloc (.cells #[.slice la lk lc,.map (some r)] 72)).alloc (.cells #[.string (nmC x.c),.string (suC x.c),.bool (fiC x.c),.bool (abC x.c),.slice fa (fsC x.c).length fc,.slice ma (msC x.c).length mc] 51)).alloc (.cells #[.string mn,.string md,.bool mst,.bool mab,.bool mfi,.int .i64 msk,.int .i64 mlo,.slice va vn vc,.slice ha hn hc] 55)).cell? ⟨w.heap.size+1+1,1,none⟩=some (.string md):=by simp [go_sem]
  have z2:(((w.alloc (.cells #[.slice la lk lc,.map (some r)] 72)).alloc (.cells #[.string (nmC x.c),.string (suC x.c),.bool (fiC x.c),.bool (abC x.c),.slice fa (fsC x.c).length fc,.slice ma (msC x.c).length mc] 51)).alloc (.cells #[.string mn,.string md,.bool mst,.bool mab,.bool mfi,.int .i64 msk,.int .i64 mlo,.slice va vn vc,.slice ha hn hc] 55)).cell? ⟨w.heap.size+1+1,2,none⟩=some (.bool mst):=by simp [go_sem]
  have z3:(((w.alloc (.cells #[.slice la lk lc,.map (some r)] 72)).alloc (.cells #[.string (nmC x.c),.string (suC x.c),.bool (fiC x.c),.bool (abC x.c),.slice fa (fsC x.c).length fc,.slice ma (msC x.c).length mc] 51)).alloc (.cells #[.string mn,.string md,.bool mst,.bool mab,.bool mfi,.int .i64 msk,.int .i64 mlo,.slice va vn vc,.slice ha hn hc] 55)).cell? ⟨w.heap.size+1+1,3,none⟩=some (.bool mab):=by simp [go_sem]
  have z4:(((w.alloc (.cells #[.slice la lk lc,.map (some r)] 72)).alloc (.cells #[.string (nmC x.c),.string (suC x.c),.bool (fiC x.c),.bool (abC x.c),.slice fa (fsC x.c).length fc,.slice ma (msC x.c).length mc] 51)).alloc (.cells #[.string mn,.string md,.bool mst,.bool mab,.bool mfi,.int .i64 msk,.int .i64 mlo,.slice va vn vc,.slice ha hn hc] 55)).cell? ⟨w.heap.size+1+1,4,none⟩=some (.bool mfi):=by simp [go_sem]
  have z5:(((w.alloc (.cells #[.slice la lk lc,.map (some r)] 72)).alloc (.cells #[.string (nmC x.c),.string (suC x.c),.bool (fiC x.c),.bool (abC x.c),.slice fa (fsC x.c).length fc,.slice ma (msC x.c).length mc] 51)).alloc (.cells #[.string mn,.string md,.bool mst,.bool mab,.bool mfi,.int .i64 msk,.int .i64 mlo,.slice va vn vc,.slice ha hn hc] 55)).cell? ⟨w.heap.size+1+1,5,none⟩=some (.int .i64 msk):=by simp [go_sem]
  have z6:(((w.alloc (.cells #[.slice la lk lc,.map (some r)] 72)).alloc (.cells #[.string (nmC x.c),.string (suC x.c),.bool (fiC x.c),.bool (abC x.c),.slice fa (fsC x.c).length fc,.slice ma (msC x.c).length mc] 51)).alloc (.cells #[.string mn,.string md,.bool mst,.bool mab,.bool mfi,.int .i64 msk,.int .i64 mlo,.slice va vn vc,.slice ha hn hc] 55)).cell? ⟨w.heap.size+1+1,6,none⟩=some (.int .i64 mlo):=by simp [go_sem]
  have z7:(((w.alloc (.cells #[.slice la lk lc,.map (some r)] 72)).alloc (.cells #[.string (nmC x.c),.string (suC x.c),.bool (fiC x.c),.bool (abC x.c),.slice fa (fsC x.c).length fc,.slice ma (msC x.c).length mc] 51)).alloc (.cells #[.string mn,.string md,.bool mst,.bool mab,.bool mfi,.int .i64 msk,.int .i64 mlo,.slice va vn vc,.slice ha hn hc] 55)).cell? ⟨w.heap.size+1+1,7,none⟩=some (.slice va vn vc):=by simp [go_sem]
  have z8:(((w.alloc (.cells #[.slice la lk lc,.map (some r)] 72)).alloc (.cells #[.string (nmC x.c),.string (suC x.c),.bool (fiC x.c),.bool (abC x.c),.slice fa (fsC x.c).length fc,.slice ma (msC x.c).length mc] 51)).alloc (.cells #[.string mn,.string md,.bool mst,.bool mab,.bool mfi,.int .i64 msk,.int .i64 mlo,.slice va vn vc,.slice ha hn hc] 55)).cell? ⟨w.heap.size+1+1,8,none⟩=some (.slice ha hn hc):=by simp [go_sem]
  have HB:Hid (Below w.heap.size w (((w.alloc (.cells #[.slice la lk lc,.map (some r)] 72)).alloc (.cells #[.string (nmC x.c),.string (suC x.c),.bool (fiC x.c),.bool (abC x.c),.slice fa (fsC x.c).length fc,.slice ma (msC x.c).length mc] 51)).alloc (.cells #[.string mn,.string md,.bool mst,.bool mab,.bool mfi,.int .i64 msk,.int .i64 mlo,.slice va vn vc,.slice ha hn hc] 55))):=below_al3 _ _ _ _
  have hz:w.heap.size+1+1<(((w.alloc (.cells #[.slice la lk lc,.map (some r)] 72)).alloc (.cells #[.string (nmC x.c),.string (suC x.c),.bool (fiC x.c),.bool (abC x.c),.slice fa (fsC x.c).length fc,.slice ma (msC x.c).length mc] 51)).alloc (.cells #[.string mn,.string md,.bool mst,.bool mab,.bool mfi,.int .i64 msk,.int .i64 mlo,.slice va vn vc,.slice ha hn hc] 55)).heap.size:=by simp
  generalize (((w.alloc (.cells #[.slice la lk lc,.map (some r)] 72)).alloc (.cells #[.string (nmC x.c),.string (suC x.c),.bool (fiC x.c),.bool (abC x.c),.slice fa (fsC x.c).length fc,.slice ma (msC x.c).length mc] 51)).alloc (.cells #[.string mn,.string md,.bool mst,.bool mab,.bool mfi,.int .i64 msk,.int .i64 mlo,.slice va vn vc,.slice ha hn hc] 55))=W at *
  have l0:=HLk.out W HB.out
  have l1:=HLk.out W.drew HB.out.drew
  have l2:=HLk.out W.drew.drew HB.out.drew.drew
  have n0:=HM1.out W HB.out
  have n1:=HM1.out W.drew HB.out.drew
  have n2:=HM1.out W.drew.drew HB.out.drew.drew
  have HS:Hid (∀ w',Below W.heap.size W w'→w'.cell? ⟨w.heap.size,1,none⟩=some (.map (some r))∧w'.cell? ⟨w.heap.size+1,0,none⟩=some (.string (nmC x.c))∧w'.cell? ⟨w.heap.size+1+1,0,none⟩=some (.string mn)∧w'.cell? ⟨w.heap.size+1+1,1,none⟩=some (.string md)∧w'.cell? ⟨w.heap.size+1+1,2,none⟩=some (.bool mst)∧w'.cell? ⟨w.heap.size+1+1,3,none⟩=some (.bool mab)∧w'.cell? ⟨w.heap.size+1+1,4,none⟩=some (.bool mfi)∧w'.cell? ⟨w.heap.size+1+1,5,none⟩=some (.int .i64 msk)∧w'.cell? ⟨w.heap.size+1+1,6,none⟩=some (.int .i64 mlo)∧w'.cell? ⟨w.heap.size+1+1,7,none⟩=some (.slice va vn vc)∧w'.cell? ⟨w.heap.size+1+1,8,none⟩=some (.slice ha hn hc)∧(Instr.lookup 70 (.map (some r)) (.string (nmC x.c)) false).run Tryz.prog w' = .ok (.agg #[.string (nmC x.c),.string (suC x.c),.bool (fiC x.c),.bool (abC x.c),.slice x.fa (fsC x.c).length x.fc,.slice x.ma (msC x.c).length x.mc,.map (some x.rm)]) w'∧(Instr.lookup 100 (.map (some x.rm)) (.agg #[.string mn,.string md]) true).run Tryz.prog w' = .ok (.tuple #[.int .i64 0,.bool false]) w'∧Below W.heap.size W w'):=fun w' hb=>⟨carry hb (show w.heap.size<W.heap.size by omega) x1,carry hb (show w.heap.size+1<W.heap.size by omega) y0,carry hb hz z0,carry hb hz z1,carry hb hz z2,carry hb hz z3,carry hb hz z4,carry hb hz z5,carry hb hz z6,carry hb hz z7,carry hb hz z8,HLk.out w' (HB.out.trans (hb.mono HB.out.size)),HM1.out w' (HB.out.trans (hb.mono HB.out.size)),hb⟩
  clear l0 l1 l2 n0 n1 n2
  go_region_held3 (fun w'=>w'.cell? ⟨w.heap.size,1,none⟩=some (.map (some r))∧w'.cell? ⟨w.heap.size+1,0,none⟩=some (.string (nmC x.c))∧w'.cell? ⟨w.heap.size+1+1,0,none⟩=some (.string mn)∧w'.cell? ⟨w.heap.size+1+1,1,none⟩=some (.string md)∧w'.cell? ⟨w.heap.size+1+1,2,none⟩=some (.bool mst)∧w'.cell? ⟨w.heap.size+1+1,3,none⟩=some (.bool mab)∧w'.cell? ⟨w.heap.size+1+1,4,none⟩=some (.bool mfi)∧w'.cell? ⟨w.heap.size+1+1,5,none⟩=some (.int .i64 msk)∧w'.cell? ⟨w.heap.size+1+1,6,none⟩=some (.int .i64 mlo)∧w'.cell? ⟨w.heap.size+1+1,7,none⟩=some (.slice va vn vc)∧w'.cell? ⟨w.heap.size+1+1,8,none⟩=some (.slice ha hn hc)∧(Instr.lookup 70 (.map (some r)) (.string (nmC x.c)) false).run Tryz.prog w' = .ok (.agg #[.string (nmC x.c),.string (suC x.c),.bool (fiC x.c),.bool (abC x.c),.slice x.fa (fsC x.c).length x.fc,.slice x.ma (msC x.c).length x.mc,.map (some x.rm)]) w'∧(Instr.lookup 100 (.map (some x.rm)) (.agg #[.string mn,.string md]) true).run Tryz.prog w' = .ok (.tuple #[.int .i64 0,.bool false]) w'∧Below W.heap.size W w')
   (first | exact HS.out _ (Below.refl _ _) | exact HS.out _ (Below.refl _ _).drew | (go_split_ands;exact HS.out _ (hb4x)) )
   (first | (go_at_call 106;refine Calls.mono (HKy.out _) ?_;rintro e w4 ⟨rfl,hb4⟩;have hb4x:Below W.heap.size W w4:=(Below.refl _ _).drew.trans hb4))
  all_goals
   have HB4:Hid (Below w.heap.size w w4):=HB.out.trans (hb4x.mono HB.out.size)
   have zz2:=carry hb4x hz z2
   have zz4:=carry hb4x hz z4
   have yy5:=carry hb4x (show w.heap.size+1<W.heap.size by omega) y5
   clear hb4 hb4x
   go_wp2_with fail
   go_quiet (fail)
   go_wp2
   go_ret
   exact⟨rfl,by first | exact below_drewN HB4.out _ | exact below_drewN (below_drewN HB4.out _) _ | exact below_drewN HB4.out.drew _⟩
 ·have HM1:=(show Hid (∀ w',Below w.heap.size w w'→(Instr.lookup 100 (.map (some x.rm)) (.agg #[.string mn,.string md]) true).run Tryz.prog w' = .ok (.tuple #[.int .i64 (j:Int),.bool true]) w') from fun w' hb=>by
   rcases HMk.out w' hb with ⟨k,_⟩ | ⟨p,k,k2⟩
   ·rw [e1] at k;cases k
   ·rw [e1] at k;cases k;exact k2)
  obtain ⟨bm,om,ema,hxm⟩:=mat j hj
  obtain ⟨_,_,q0,q1,c2,qr⟩:=methAt hxm
  have hbm:bm<w.heap.size:=World.block_lt_of_cell? _ _ c2
  clear HMk mat h hin e1 q0 q1 qr hxm
  have HQ:=(show Hid (q=(mfi || (mst != (mD (msC x.c)[j]).static))) from e2)
  clear e2
  generalize (mD (msC x.c)[j]).static=cst at *
  rw [ema]
  generalize hml:(msC x.c).length=ml at *
  go_enter Tryz.func109,Tryz.ntmps109
  go_wp2_with fail
  have x1:(((w.alloc (.cells #[.slice la lk lc,.map (some r)] 72)).alloc (.cells #[.string (nmC x.c),.string (suC x.c),.bool (fiC x.c),.bool (abC x.c),.slice fa (fsC x.c).length fc,.slice (some ⟨bm,om,none⟩) ml mc] 51)).alloc (.cells #[.string mn,.string md,.bool mst,.bool mab,.bool mfi,.int .i64 msk,.int .i64 mlo,.slice va vn vc,.slice ha hn hc] 55)).cell? ⟨w.heap.size,1,none⟩=some (.map (some r)):=by simp [go_sem]
  have y0:(((w.alloc (.cells #[.slice la lk lc,.map (some r)] 72)).alloc (.cells #[.string (nmC x.c),.string (suC x.c),.bool (fiC x.c),.bool (abC x.c),.slice fa (fsC x.c).length fc,.slice (some ⟨bm,om,none⟩) ml mc] 51)).alloc (.cells #[.string mn,.string md,.bool mst,.bool mab,.bool mfi,.int .i64 msk,.int .i64 mlo,.slice va vn vc,.slice ha hn hc] 55)).cell? ⟨w.heap.size+1,0,none⟩=some (.string (nmC x.c)):=by simp [go_sem]
  have y5:(((w.alloc (.cells #[.slice la lk lc,.map (some r)] 72)).alloc (.cells #[.string (nmC x.c),.string (suC x.c),.bool (fiC x.c),.bool (abC x.c),.slice fa (fsC x.c).length fc,.slice (some ⟨bm,om,none⟩) ml mc] 51)).alloc (.cells #[.string mn,.string md,.bool mst,.bool mab,.bool mfi,.int .i64 msk,.int .i64 mlo,.slice va vn vc,.slice ha hn hc] 55)).cell? ⟨w.heap.size+1,5,none⟩=some (.slice (some ⟨bm,om,none⟩) ml mc):=by simp [go_sem]
  have z0:(((w.alloc (.cells #[.slice la lk lc,.map (some r)] 72)).alloc (.cells #[.string (nmC x.c),.string (suC x.c),.bool (fiC x.c),.bool (abC x.c),.slice fa (fsC x.c).length fc,.slice (some ⟨bm,om,none⟩) ml mc] 51)).alloc (.cells #[.string mn,.string md,.bool mst,.bool mab,.bool mfi,.int .i64 msk,.int .i64 mlo,.slice va vn vc,.slice ha hn hc] 55)).cell? ⟨w.heap.size+1+1,0,none⟩=some (.string mn):=by simp [go_sem]
  have z1:(((w.alloc (.cells #[.slice la lk lc,.map (some r)] 72)).alloc (.cells #[.string (nmC x.c),.string (suC x.c),.bool (fiC x.c),.bool (abC x.c),.slice fa (fsC x.c).length fc,.slice (some ⟨bm,om,none⟩) ml mc] 51)).alloc (.cells #[.string mn,.string md,.bool mst,.bool mab,.bool mfi,.int .i64 msk,.int .i64 mlo,.slice va vn vc,.slice ha hn hc] 55)).cell? ⟨w.heap.size+1+1,1,none⟩=some (.string md):=by simp [go_sem]
  have z2:(((w.alloc (.cells #[.slice la lk lc,.map (some r)] 72)).alloc (.cells #[.string (nmC x.c),.string (suC x.c),.bool (fiC x.c),.bool (abC x.c),.slice fa (fsC x.c).length fc,.slice (some ⟨bm,om,none⟩) ml mc] 51)).alloc (.cells #[.string mn,.string md,.bool mst,.bool mab,.bool mfi,.int .i64 msk,.int .i64 mlo,.slice va vn vc,.slice ha hn hc] 55)).cell? ⟨w.heap.size+1+1,2,none⟩=some (.bool mst):=by simp [go_sem]
  have z3:(((w.alloc (.cells #[.slice la lk lc,.map (some r)] 72)).alloc (.cells #[.string (nmC x.c),.string (suC x.c),.bool (fiC x.c),.bool (abC x.c),.slice fa (fsC x.c).length fc,.slice (some ⟨bm,om,none⟩) ml mc] 51)).alloc (.cells #[.string mn,.string md,.bool mst,.bool mab,.bool mfi,.int .i64 msk,.int .i64 mlo,.slice va vn vc,.slice ha hn hc] 55)).cell? ⟨w.heap.size+1+1,3,none⟩=some (.bool mab):=by simp [go_sem]
  have z4:(((w.alloc (.cells #[.slice la lk lc,.map (some r)] 72)).alloc (.cells #[.string (nmC x.c),.string (suC x.c),.bool (fiC x.c),.bool (abC x.c),.slice fa (fsC x.c).length fc,.slice (some ⟨bm,om,none⟩) ml mc] 51)).alloc (.cells #[.string mn,.string md,.bool mst,.bool mab,.bool mfi,.int .i64 msk,.int .i64 mlo,.slice va vn vc,.slice ha hn hc] 55)).cell? ⟨w.heap.size+1+1,4,none⟩=some (.bool mfi):=by simp [go_sem]
  have z5:(((w.alloc (.cells #[.slice la lk lc,.map (some r)] 72)).alloc (.cells #[.string (nmC x.c),.string (suC x.c),.bool (fiC x.c),.bool (abC x.c),.slice fa (fsC x.c).length fc,.slice (some ⟨bm,om,none⟩) ml mc] 51)).alloc (.cells #[.string mn,.string md,.bool mst,.bool mab,.bool mfi,.int .i64 msk,.int .i64 mlo,.slice va vn vc,.slice ha hn hc] 55)).cell? ⟨w.heap.size+1+1,5,none⟩=some (.int .i64 msk):=by simp [go_sem]
  have z6:(((w.alloc (.cells #[.slice la lk lc,.map (some r)] 72)).alloc (.cells #[.string (nmC x.c),.string (suC x.c),.bool (fiC x.c),.bool (abC x.c),.slice fa (fsC x.c).length fc,.slice (some ⟨bm,om,none⟩) ml mc] 51)).alloc (.cells #[.string mn,.string md,.bool mst,.bool mab,.bool mfi,.int .i64 msk,.int .i64 mlo,.slice va vn vc,.slice ha hn hc] 55)).cell? ⟨w.heap.size+1+1,6,none⟩=some (.int .i64 mlo):=by simp [go_sem]
  have z7:(((w.alloc (.cells #[.slice la lk lc,.map (some r)] 72)).alloc (.cells #[.string (nmC x.c),.string (suC x.c),.bool (fiC x.c),.bool (abC x.c),.slice fa (fsC x.c).length fc,.slice (some ⟨bm,om,none⟩) ml mc] 51)).alloc (.cells #[.string mn,.string md,.bool mst,.bool mab,.bool mfi,.int .i64 msk,.int .i64 mlo,.slice va vn vc,.slice ha hn hc] 55)).cell? ⟨w.heap.size+1+1,7,none⟩=some (.slice va vn vc):=by simp [go_sem]
  have z8:(((w.alloc (.cells #[.slice la lk lc,.map (some r)] 72)).alloc (.cells #[.string (nmC x.c),.string (suC x.c),.bool (fiC x.c),.bool (abC x.c),.slice fa (fsC x.c).length fc,.slice (some ⟨bm,om,none⟩) ml mc] 51)).alloc (.cells #[.string mn,.string md,.bool mst,.bool mab,.bool mfi,.int .i64 msk,.int .i64 mlo,.slice va vn vc,.slice ha hn hc] 55)).cell? ⟨w.heap.size+1+1,8,none⟩=some (.slice ha hn hc):=by simp [go_sem]
  have HB:Hid (Below w.heap.size w (((w.alloc (.cells #[.slice la lk lc,.map (some r)] 72)).alloc (.cells #[.string (nmC x.c),.string (suC x.c),.bool (fiC x.c),.bool (abC x.c),.slice fa (fsC x.c).length fc,.slice (some ⟨bm,om,none⟩) ml mc] 51)).alloc (.cells #[.string mn,.string md,.bool mst,.bool mab,.bool mfi,.int .i64 msk,.int .i64 mlo,.slice va vn vc,.slice ha hn hc] 55))):=below_al3 _ _ _ _
  have hz:w.heap.size+1+1<(((w.alloc (.cells #[.slice la lk lc,.map (some r)] 72)).alloc (.cells #[.string (nmC x.c),.string (suC x.c),.bool (fiC x.c),.bool (abC x.c),.slice fa (fsC x.c).length fc,.slice (some ⟨bm,om,none⟩) ml mc] 51)).alloc (.cells #[.string mn,.string md,.bool mst,.bool mab,.bool mfi,.int .i64 msk,.int .i64 mlo,.slice va vn vc,.slice ha hn hc] 55)).heap.size:=by simp
  generalize (((w.alloc (.cells #[.slice la lk lc,.map (some r)] 72)).alloc (.cells #[.string (nmC x.c),.string (suC x.c),.bool (fiC x.c),.bool (abC x.c),.slice fa (fsC x.c).length fc,.slice (some ⟨bm,om,none⟩) ml mc] 51)).alloc (.cells #[.string mn,.string md,.bool mst,.bool mab,.bool mfi,.int .i64 msk,.int .i64 mlo,.slice va vn vc,.slice ha hn hc] 55))=W at *
  have l0:=HLk.out W HB.out
  have l1:=HLk.out W.drew HB.out.drew
  have l2:=HLk.out W.drew.drew HB.out.drew.drew
  have n0:=HM1.out W HB.out
  have n1:=HM1.out W.drew HB.out.drew
  have n2:=HM1.out W.drew.drew HB.out.drew.drew
  have c2W:W.cell? ⟨bm,om+j * 9+2,none⟩=some (.bool cst):=carry HB.out hbm c2
  have HS:Hid (∀ w',Below W.heap.size W w'→w'.cell? ⟨w.heap.size,1,none⟩=some (.map (some r))∧w'.cell? ⟨w.heap.size+1,0,none⟩=some (.string (nmC x.c))∧w'.cell? ⟨w.heap.size+1+1,0,none⟩=some (.string mn)∧w'.cell? ⟨w.heap.size+1+1,1,none⟩=some (.string md)∧w'.cell? ⟨w.heap.size+1+1,2,none⟩=some (.bool mst)∧w'.cell? ⟨w.heap.size+1+1,3,none⟩=some (.bool mab)∧w'.cell? ⟨w.heap.size+1+1,4,none⟩=some (.bool mfi)∧w'.cell? ⟨w.heap.size+1+1,5,none⟩=some (.int .i64 msk)∧w'.cell? ⟨w.heap.size+1+1,6,none⟩=some (.int .i64 mlo)∧w'.cell? ⟨w.heap.size+1+1,7,none⟩=some (.slice va vn vc)∧w'.cell? ⟨w.heap.size+1+1,8,none⟩=some (.slice ha hn hc)∧(Instr.lookup 70 (.map (some r)) (.string (nmC x.c)) false).run Tryz.prog w' = .ok (.agg #[.string (nmC x.c),.string (suC x.c),.bool (fiC x.c),.bool (abC x.c),.slice x.fa (fsC x.c).length x.fc,.slice x.ma ml x.mc,.map (some x.rm)]) w'∧(Instr.lookup 100 (.map (some x.rm)) (.agg #[.string mn,.string md]) true).run Tryz.prog w' = .ok (.tuple #[.int .i64 (j:Int),.bool true]) w'∧Below W.heap.size W w'):=fun w' hb=>⟨carry hb (show w.heap.size<W.heap.size by omega) x1,carry hb (show w.heap.size+1<W.heap.size by omega) y0,carry hb hz z0,carry hb hz z1,carry hb hz z2,carry hb hz z3,carry hb hz z4,carry hb hz z5,carry hb hz z6,carry hb hz z7,carry hb hz z8,HLk.out w' (HB.out.trans (hb.mono HB.out.size)),HM1.out w' (HB.out.trans (hb.mono HB.out.size)),hb⟩
  clear l0 l1 l2 n0 n1 n2
  go_region_held3 (fun w'=>w'.cell? ⟨w.heap.size,1,none⟩=some (.map (some r))∧w'.cell? ⟨w.heap.size+1,0,none⟩=some (.string (nmC x.c))∧w'.cell? ⟨w.heap.size+1+1,0,none⟩=some (.string mn)∧w'.cell? ⟨w.heap.size+1+1,1,none⟩=some (.string md)∧w'.cell? ⟨w.heap.size+1+1,2,none⟩=some (.bool mst)∧w'.cell? ⟨w.heap.size+1+1,3,none⟩=some (.bool mab)∧w'.cell? ⟨w.heap.size+1+1,4,none⟩=some (.bool mfi)∧w'.cell? ⟨w.heap.size+1+1,5,none⟩=some (.int .i64 msk)∧w'.cell? ⟨w.heap.size+1+1,6,none⟩=some (.int .i64 mlo)∧w'.cell? ⟨w.heap.size+1+1,7,none⟩=some (.slice va vn vc)∧w'.cell? ⟨w.heap.size+1+1,8,none⟩=some (.slice ha hn hc)∧(Instr.lookup 70 (.map (some r)) (.string (nmC x.c)) false).run Tryz.prog w' = .ok (.agg #[.string (nmC x.c),.string (suC x.c),.bool (fiC x.c),.bool (abC x.c),.slice x.fa (fsC x.c).length x.fc,.slice x.ma ml x.mc,.map (some x.rm)]) w'∧(Instr.lookup 100 (.map (some x.rm)) (.agg #[.string mn,.string md]) true).run Tryz.prog w' = .ok (.tuple #[.int .i64 (j:Int),.bool true]) w'∧Below W.heap.size W w')
   (first | exact HS.out _ (Below.refl _ _) | exact HS.out _ (Below.refl _ _).drew | (go_split_ands;exact HS.out _ (hb4x)) )
   (first | (go_at_call 106;refine Calls.mono (HKy.out _) ?_;rintro e w4 ⟨rfl,hb4⟩;have hb4x:Below W.heap.size W w4:=(Below.refl _ _).drew.trans hb4))
  all_goals
   have HB4:Hid (Below w.heap.size w w4):=HB.out.trans (hb4x.mono HB.out.size)
   have zz2:=carry hb4x hz z2
   have zz4:=carry hb4x hz z4
   have yy5:=carry hb4x (show w.heap.size+1<W.heap.size by omega) y5
   have cc4:=carry hb4x (show bm<W.heap.size by omega) c2W
   clear hb4 hb4x
   cases mfi
   ·cases mst<;>cases cst
    all_goals
     go_wp2_with fail
     go_quiet (fail)
     go_wp2
     go_ret
     exact⟨by rw [HQ.out];rfl,by first | exact below_drewN HB4.out _ | exact below_drewN (below_drewN HB4.out _) _ | exact below_drewN HB4.out.drew _⟩
   ·go_wp2_with fail
    go_quiet (fail)
    go_wp2
    go_ret
    exact⟨by rw [HQ.out];rfl,by first | exact below_drewN HB4.out _ | exact below_drewN (below_drewN HB4.out _) _ | exact below_drewN HB4.out.drew _⟩
end Go.Proofs.YtmhgaggpdggbeaaGreatDoor

namespace Go.Proofs.YtmhgaggpdggbeaaGreatDoor
open Go.RowKit
set_option linter.unusedVariables false
set_option maxRecDepth 100000 in
set_option maxHeartbeats 1500000 in
theorem implLeftOpen (lv:Value) (r:Nat) (E:List WE) (es:Array MapEntry) (ck:Nat) (x:WE) (fa:Option Addr) (fc:Nat) (ma:Option Addr) (mc:Nat) (w:World) (h:WmIs w r E es ck) (hx:x ∈ E) (hl:∃ a k c,lv = .slice a k c) (hE:E.length≤100) (hsm:∀ x ∈ E,(nmC x.c).size≤281474976710656)
  (mn md:ByteArray) (mst mab mfi:Bool) (msk mlo:Int) (va:Option Addr) (vn vc:Nat) (ha:Option Addr) (hn hc:Nat) (smn:mn.size≤maxLen) (smd:md.size≤maxLen) (q:Bool)
  (hq:((abC x.c || !mab)=true∧q=false) ∨ (abC x.c=false∧mab=true∧∃ y ∈ E,∃ k,∃ hk:k<(msC y.c).length,fmF mn md (wyG E (nmC x.c))=(nmC y.c,(k:Int),0)∧q=(mD (msC y.c)[k]).abs)) :
  Calls Tryz.prog 110 #[wdV lv r,clC x.c fa fc ma mc,mtV mn md mst mab mfi msk mlo va vn vc ha hn hc] w fun e w'=>e = .returned (.bool q)∧Below w.heap.size w w':=by
 have HW:=(show Hid (WmIs w r E es ck) from h)
 have hin:=h.lies x hx
 have HKy:Hid (∀ w',Calls Tryz.prog 106 #[.agg #[.string mn,.string md,.bool mst,.bool mab,.bool mfi,.int .i64 msk,.int .i64 mlo,.slice va vn vc,.slice ha hn hc]] w' fun e w2=>e = .returned (.agg #[.string mn,.string md])∧Below w'.heap.size w' w2):=fun w'=>implKeyMeth mn md mst mab mfi msk mlo _ _ w'
 have HFm:Hid (∀ w',Below w.heap.size w w'→Calls Tryz.prog 62 #[.agg #[lv,.map (some r)],.string (nmC x.c),.agg #[.string mn,.string md]] w' fun e w2=>e = .returned (fdV (fmF mn md (wyG E (nmC x.c))))∧Below w'.heap.size w' w2):=fun w' hb=>implFindMethod lv r E es ck (nmC x.c) mn md w' (h.below hb) hl hE hin.n smn smd hsm
 obtain ⟨la,lk,lc,rfl⟩:=hl
 unfold wdV clC mtV
 rcases hq with ⟨e1,rfl⟩ | ⟨e1,e2,y,hy,k,hk,e3,e4⟩
 ·clear HW hin h HKy HFm
  generalize abC x.c=ca at *
  cases ca
  ·cases mab
   ·go_enter Tryz.func110,Tryz.ntmps110
    go_wp2_with fail
    go_wp2
    go_ret
    exact⟨rfl,below_al3 _ _ _ _⟩
   ·simp at e1
  ·go_enter Tryz.func110,Tryz.ntmps110
   go_wp2_with fail
   go_wp2
   go_ret
   exact⟨rfl,below_al3 _ _ _ _⟩
 ·have hiny:=h.lies y hy
  have HLk:Hid (∀ w',Below w.heap.size w w'→(Instr.lookup 70 (.map (some r)) (.string (nmC y.c)) false).run Tryz.prog w' = .ok (weV y) w'):=fun w' hb=>by
   rcases (HW.out.below hb).look (nmC y.c) hiny.n with ⟨e,_⟩ | ⟨y',_,_,e,_,e2⟩
   ·rw [show lkG nmE E (nmC y.c)=some y from lkG_mem HW.out.nd hy] at e;cases e
   ·rw [show lkG nmE E (nmC y.c)=some y from lkG_mem HW.out.nd hy] at e;cases e;exact e2
  obtain ⟨_,_,em,mn0,mcap,mat⟩:=slice_open (by decide) hiny.m
  cases em
  unfold maxLen at mcap
  obtain ⟨bm,om,ema,hxm⟩:=mat k hk
  obtain ⟨_,_,q0,q1,q2,c3,qr⟩:=methAt hxm
  have hbm:bm<w.heap.size:=World.block_lt_of_cell? _ _ c3
  have HQ:=(show Hid (q=(mD (msC y.c)[k]).abs) from e4)
  rw [e3] at HFm
  unfold fdV at HFm
  simp only at HFm
  unfold weV WE.vc WE.vh at HLk
  rw [ema] at HLk
  have f0:=fieldWE0
  have f5:=fieldCl5
  clear mat h hin hiny e3 e4 q0 q1 q2 qr hxm
  generalize (mD (msC y.c)[k]).abs=cab at *
  generalize hml:(msC y.c).length=ml at *
  rw [e1]
  subst e2
  clear e1
  go_enter Tryz.func110,Tryz.ntmps110
  go_wp2_with fail
  have x0:(((w.alloc (.cells #[.slice la lk lc,.map (some r)] 72)).alloc (.cells #[.string (nmC x.c),.string (suC x.c),.bool (fiC x.c),.bool false,.slice fa (fsC x.c).length fc,.slice ma (msC x.c).length mc] 51)).alloc (.cells #[.string mn,.string md,.bool mst,.bool true,.bool mfi,.int .i64 msk,.int .i64 mlo,.slice va vn vc,.slice ha hn hc] 55)).cell? ⟨w.heap.size,0,none⟩=some (.slice la lk lc):=by simp [go_sem]
  have x1:(((w.alloc (.cells #[.slice la lk lc,.map (some r)] 72)).alloc (.cells #[.string (nmC x.c),.string (suC x.c),.bool (fiC x.c),.bool false,.slice fa (fsC x.c).length fc,.slice ma (msC x.c).length mc] 51)).alloc (.cells #[.string mn,.string md,.bool mst,.bool true,.bool mfi,.int .i64 msk,.int .i64 mlo,.slice va vn vc,.slice ha hn hc] 55)).cell? ⟨w.heap.size,1,none⟩=some (.map (some r)):=by simp [go_sem]
  have y0:(((w.alloc (.cells #[.slice la lk lc,.map (some r)] 72)).alloc (.cells #[.string (nmC x.c),.string (suC x.c),.bool (fiC x.c),.bool false,.slice fa (fsC x.c).length fc,.slice ma (msC x.c).length mc] 51)).alloc (.cells #[.string mn,.string md,.bool mst,.bool true,.bool mfi,.int .i64 msk,.int .i64 mlo,.slice va vn vc,.slice ha hn hc] 55)).cell? ⟨w.heap.size+1,0,none⟩=some (.string (nmC x.c)):=by simp [go_sem]
  have y3:(((w.alloc (.cells #[.slice la lk lc,.map (some r)] 72)).alloc (.cells #[.string (nmC x.c),.string (suC x.c),.bool (fiC x.c),.bool false,.slice fa (fsC x.c).length fc,.slice ma (msC x.c).length mc] 51)).alloc (.cells #[.string mn,.string md,.bool mst,.bool true,.bool mfi,.int .i64 msk,.int .i64 mlo,.slice va vn vc,.slice ha hn hc] 55)).cell? ⟨w.heap.size+1,3,none⟩=some (.bool false):=by simp [go_sem]
  have z0:(((w.alloc (.cells #[.slice la lk lc,.map (some r)] 72)).alloc (.cells #[.string (nmC x.c),.string (suC x.c),.bool (fiC x.c),.bool false,.slice fa (fsC x.c).length fc,.slice ma (msC x.c).length mc] 51)).alloc (.cells #[.string mn,.string md,.bool mst,.bool true,.bool mfi,.int .i64 msk,.int .i64 mlo,.slice va vn vc,.slice ha hn hc] 55)).cell? ⟨w.heap.size+1+1,0,none⟩=some (.string mn):=by simp [go_sem]
  have z1:(((w.alloc (.cells #[.slice la lk lc,.map (some r)] 72)).alloc (.cells #[.string (nmC x.c),.string (suC x.c),.bool (fiC x.c),.bool false,.slice fa (fsC x.c).length fc,.slice ma (msC x.c).length mc] 51)).alloc (.cells #[.string mn,.string md,.bool mst,.bool true,.bool mfi,.int .i64 msk,.int .i64 mlo,.slice va vn vc,.slice ha hn hc] 55)).cell? ⟨w.heap.size+1+1,1,none⟩=some (.string md):=by simp [go_sem]
  have z2:(((w.alloc (.cells #[.slice la lk lc,.map (some r)] 72)).alloc (.cells #[.string (nmC x.c),.string (suC x.c),.bool (fiC x.c),.bool false,.slice fa (fsC x.c).length fc,.slice ma (msC x.c).length mc] 51)).alloc (.cells #[.string mn,.string md,.bool mst,.bool true,.bool mfi,.int .i64 msk,.int .i64 mlo,.slice va vn vc,.slice ha hn hc] 55)).cell? ⟨w.heap.size+1+1,2,none⟩=some (.bool mst):=by simp [go_sem]
  have z3:(((w.alloc (.cells #[.slice la lk lc,.map (some r)] 72)).alloc (.cells #[.string (nmC x.c),.string (suC x.c),.bool (fiC x.c),.bool false,.slice fa (fsC x.c).length fc,.slice ma (msC x.c).length mc] 51)).alloc (.cells #[.string mn,.string md,.bool mst,.bool true,.bool mfi,.int .i64 msk,.int .i64 mlo,.slice va vn vc,.slice ha hn hc] 55)).cell? ⟨w.heap.size+1+1,3,none⟩=some (.bool true):=by simp [go_sem]
  have z4:(((w.alloc (.cells #[.slice la lk lc,.map (some r)] 72)).alloc (.cells #[.string (nmC x.c),.string (suC x.c),.bool (fiC x.c),.bool false,.slice fa (fsC x.c).length fc,.slice ma (msC x.c).length mc] 51)).alloc (.cells #[.string mn,.string md,.bool mst,.bool true,.bool mfi,.int .i64 msk,.int .i64 mlo,.slice va vn vc,.slice ha hn hc] 55)).cell? ⟨w.heap.size+1+1,4,none⟩=some (.bool mfi):=by simp [go_sem]
  have z5:(((w.alloc (.cells #[.slice la lk lc,.map (some r)] 72)).alloc (.cells #[.string (nmC x.c),.string (suC x.c),.bool (fiC x.c),.bool false,.slice fa (fsC x.c).length fc,.slice ma (msC x.c).length mc] 51)).alloc (.cells #[.string mn,.string md,.bool mst,.bool true,.bool mfi,.int .i64 msk,.int .i64 mlo,.slice va vn vc,.slice ha hn hc] 55)).cell? ⟨w.heap.size+1+1,5,none⟩=some (.int .i64 msk):=by simp [go_sem]
  have z6:(((w.alloc (.cells #[.slice la lk lc,.map (some r)] 72)).alloc (.cells #[.string (nmC x.c),.string (suC x.c),.bool (fiC x.c),.bool false,.slice fa (fsC x.c).length fc,.slice ma (msC x.c).length mc] 51)).alloc (.cells #[.string mn,.string md,.bool mst,.bool true,.bool mfi,.int .i64 msk,.int .i64 mlo,.slice va vn vc,.slice ha hn hc] 55)).cell? ⟨w.heap.size+1+1,6,none⟩=some (.int .i64 mlo):=by simp [go_sem]
  have z7:(((w.alloc (.cells #[.slice la lk lc,.map (some r)] 72)).alloc (.cells #[.string (nmC x.c),.string (suC x.c),.bool (fiC x.c),.bool false,.slice fa (fsC x.c).length fc,.slice ma (msC x.c).length mc] 51)).alloc (.cells #[.string mn,.string md,.bool mst,.bool true,.bool mfi,.int .i64 msk,.int .i64 mlo,.slice va vn vc,.slice ha hn hc] 55)).cell? ⟨w.heap.size+1+1,7,none⟩=some (.slice va vn vc):=by simp [go_sem]
  have z8:(((w.alloc (.cells #[.slice la lk lc,.map (some r)] 72)).alloc (.cells #[.string (nmC x.c),.string (suC x.c),.bool (fiC x.c),.bool false,.slice fa (fsC x.c).length fc,.slice ma (msC x.c).length mc] 51)).alloc (.cells #[.string mn,.string md,.bool mst,.bool true,.bool mfi,.int .i64 msk,.int .i64 mlo,.slice va vn vc,.slice ha hn hc] 55)).cell? ⟨w.heap.size+1+1,8,none⟩=some (.slice ha hn hc):=by simp [go_sem]
  have HB:Hid (Below w.heap.size w (((w.alloc (.cells #[.slice la lk lc,.map (some r)] 72)).alloc (.cells #[.string (nmC x.c),.string (suC x.c),.bool (fiC x.c),.bool false,.slice fa (fsC x.c).length fc,.slice ma (msC x.c).length mc] 51)).alloc (.cells #[.string mn,.string md,.bool mst,.bool true,.bool mfi,.int .i64 msk,.int .i64 mlo,.slice va vn vc,.slice ha hn hc] 55))):=below_al3 _ _ _ _
  have hkI:(k:Int)<(ml:Int):=by omega
  have hk0:(0:Int)≤(k:Int):=by omega
  have hz:w.heap.size+1+1<(((w.alloc (.cells #[.slice la lk lc,.map (some r)] 72)).alloc (.cells #[.string (nmC x.c),.string (suC x.c),.bool (fiC x.c),.bool false,.slice fa (fsC x.c).length fc,.slice ma (msC x.c).length mc] 51)).alloc (.cells #[.string mn,.string md,.bool mst,.bool true,.bool mfi,.int .i64 msk,.int .i64 mlo,.slice va vn vc,.slice ha hn hc] 55)).heap.size:=by simp
  generalize (((w.alloc (.cells #[.slice la lk lc,.map (some r)] 72)).alloc (.cells #[.string (nmC x.c),.string (suC x.c),.bool (fiC x.c),.bool false,.slice fa (fsC x.c).length fc,.slice ma (msC x.c).length mc] 51)).alloc (.cells #[.string mn,.string md,.bool mst,.bool true,.bool mfi,.int .i64 msk,.int .i64 mlo,.slice va vn vc,.slice ha hn hc] 55))=W at *
  have c3W:W.cell? ⟨bm,om+k * 9+3,none⟩=some (.bool cab):=carry HB.out hbm c3
  have HS:Hid (∀ w',Below W.heap.size W w'→w'.cell? ⟨w.heap.size,0,none⟩=some (.slice la lk lc)∧w'.cell? ⟨w.heap.size,1,none⟩=some (.map (some r))∧w'.cell? ⟨w.heap.size+1,0,none⟩=some (.string (nmC x.c))∧w'.cell? ⟨w.heap.size+1+1,0,none⟩=some (.string mn)∧w'.cell? ⟨w.heap.size+1+1,1,none⟩=some (.string md)∧w'.cell? ⟨w.heap.size+1+1,2,none⟩=some (.bool mst)∧w'.cell? ⟨w.heap.size+1+1,3,none⟩=some (.bool true)∧w'.cell? ⟨w.heap.size+1+1,4,none⟩=some (.bool mfi)∧w'.cell? ⟨w.heap.size+1+1,5,none⟩=some (.int .i64 msk)∧w'.cell? ⟨w.heap.size+1+1,6,none⟩=some (.int .i64 mlo)∧w'.cell? ⟨w.heap.size+1+1,7,none⟩=some (.slice va vn vc)∧w'.cell? ⟨w.heap.size+1+1,8,none⟩=some (.slice ha hn hc)∧Below W.heap.size W w'):=fun w' hb=>⟨carry hb (show w.heap.size<W.heap.size by omega) x0,carry hb (show w.heap.size<W.heap.size by omega) x1,carry hb (show w.heap.size+1<W.heap.size by omega) y0,carry hb hz z0,carry hb hz z1,carry hb hz z2,carry hb hz z3,carry hb hz z4,carry hb hz z5,carry hb hz z6,carry hb hz z7,carry hb hz z8,hb⟩
  go_region_held3 (fun w'=>w'.cell? ⟨w.heap.size,0,none⟩=some (.slice la lk lc)∧w'.cell? ⟨w.heap.size,1,none⟩=some (.map (some r))∧w'.cell? ⟨w.heap.size+1,0,none⟩=some (.string (nmC x.c))∧w'.cell? ⟨w.heap.size+1+1,0,none⟩=some (.string mn)∧w'.cell? ⟨w.heap.size+1+1,1,none⟩=some (.string md)∧w'.cell? ⟨w.heap.size+1+1,2,none⟩=some (.bool mst)∧w'.cell? ⟨w.heap.size+1+1,3,none⟩=some (.bool true)∧w'.cell? ⟨w.heap.size+1+1,4,none⟩=some (.bool mfi)∧w'.cell? ⟨w.heap.size+1+1,5,none⟩=some (.int .i64 msk)∧w'.cell? ⟨w.heap.size+1+1,6,none⟩=some (.int .i64 mlo)∧w'.cell? ⟨w.heap.size+1+1,7,none⟩=some (.slice va vn vc)∧w'.cell? ⟨w.heap.size+1+1,8,none⟩=some (.slice ha hn hc)∧Below W.heap.size W w')
   (first | exact HS.out _ (Below.refl _ _) | exact HS.out _ (Below.refl _ _).drew | exact HS.out _ ((Below.refl _ _).alloc (Nat.le_refl _) _) | exact HS.out _ ((Below.refl _ _).drew.alloc (Nat.le_refl _) _) | exact HS.out _ hb4x | exact HS.out _ hb4x.drew | exact HS.out _ (hb4x.alloc hb4x.size _) | exact HS.out _ (((hb4x.setCell hA _).setCell hA _).setCell hA _))
   (first | (go_at_call 106; refine Calls.mono (HKy.out _) ?_; rintro e w4 ⟨rfl, hb4⟩; have n0 : w4.cell? ⟨W.heap.size, 0, none⟩ = some (.string ⟨#[]⟩) := carry hb4 (by simp) (by simp [go_sem]); have n1 : w4.cell? ⟨W.heap.size, 1, none⟩ = some (.int .i64 0) := carry hb4 (by simp) (by simp [go_sem]); have n2 : w4.cell? ⟨W.heap.size, 2, none⟩ = some (.int .i64 0) := carry hb4 (by simp) (by simp [go_sem]); have nf : ∀ j, w4.frozen? ⟨W.heap.size, j, none⟩ = false := fun j => carryF hb4 (by simp) (by simp [go_sem]); have hA : W.heap.size ≤ W.heap.size := Nat.le_refl _; have hA4 : W.heap.size < w4.heap.size := (by have := hb4.size; simp at this; omega); have hb4x : Below W.heap.size W w4 := ((Below.refl _ _).drew.alloc (Nat.le_refl _) _).trans (hb4.mono (by simp)); clear hb4)
             | (go_at_call 106;refine Calls.mono (HKy.out _) ?_;rintro e w4 ⟨rfl,hb4⟩;have hb4x:Below W.heap.size W w4:=(Below.refl _ _).drew.trans hb4;clear hb4)
             | (go_at_call 62;refine Calls.mono (HFm.out _ (HB.out.trans ((hb4x.alloc hb4x.size _).mono HB.out.size))) ?_;rintro e w6 ⟨rfl,hb6⟩;have n0:w6.cell? ⟨w4.heap.size,0,none⟩=some (.string ⟨#[]⟩):=carry hb6 (by simp) (by simp [go_sem]);have n1:w6.cell? ⟨w4.heap.size,1,none⟩=some (.int .i64 0):=carry hb6 (by simp) (by simp [go_sem]);have n2:w6.cell? ⟨w4.heap.size,2,none⟩=some (.int .i64 0):=carry hb6 (by simp) (by simp [go_sem]);have nf:∀ j,w6.frozen? ⟨w4.heap.size,j,none⟩=false:=fun j=>carryF hb6 (by simp) (by simp [go_sem]);have hA:W.heap.size≤w4.heap.size:=hb4x.size;have hb4x:Below W.heap.size W w6:=(hb4x.alloc hb4x.size _).trans (hb6.mono (by have:=hb4x.size;simp;omega));clear hb6)
             | (go_at_call 62;refine Calls.mono (HFm.out _ (HB.out.trans (hb4x.mono HB.out.size))) ?_;rintro e w6 ⟨rfl,hb6⟩;replace n0:=carry hb6 hA4 n0;replace n1:=carry hb6 hA4 n1;replace n2:=carry hb6 hA4 n2;replace nf:∀ j,w6.frozen? ⟨W.heap.size,j,none⟩=false:=fun j=>carryF hb6 hA4 (nf j);have hb4x:Below W.heap.size W w6:=hb4x.trans (hb6.mono hb4x.size);clear hb6)
             | (go_at_call 62;refine Calls.mono (HFm.out _ (HB.out.trans (hb4x.mono HB.out.size))) ?_;rintro e w6 ⟨rfl,hb6⟩;have hb4x:Below W.heap.size W w6:=hb4x.trans (hb6.mono hb4x.size);clear hb6))
  ·have hbf:Below W.heap.size W (w6.alloc (.cells #[.string (nmC y.c),.int .i64 (k:Int),.int .i64 0] 34)):=hb4x.alloc hb4x.size _
   have a0:(w6.alloc (.cells #[.string (nmC y.c),.int .i64 (k:Int),.int .i64 0] 34)).cell? ⟨w6.heap.size,0,none⟩=some (.string (nmC y.c)):=by simp [go_sem]
   have a1:(w6.alloc (.cells #[.string (nmC y.c),.int .i64 (k:Int),.int .i64 0] 34)).cell? ⟨w6.heap.size,1,none⟩=some (.int .i64 (k:Int)):=by simp [go_sem]
   generalize w6.alloc (.cells #[.string (nmC y.c),.int .i64 (k:Int),.int .i64 0] 34)=V at *
   have HBV:Hid (Below w.heap.size w V):=HB.out.trans (hbf.mono HB.out.size)
   have x1V:=carry hbf (show w.heap.size<W.heap.size by omega) x1
   have c3V:=carry hbf (show bm<W.heap.size by omega) c3W
   have lV:=HLk.out V HBV.out
   clear hbf x0 x1 y0 y3 z0 z1 z2 z3 z4 z5 z6 z7 z8 c3W c3 HS HLk HFm HKy
   go_wp2
   go_ret
   exact⟨rB HQ.out.symm,by first | exact HBV.out | exact below_drewN HBV.out _ | exact HBV.out.drew⟩
  ·have hbf:Below W.heap.size W (((w6.setCell ⟨w4.heap.size,0,none⟩ (.string (nmC y.c))).setCell ⟨w4.heap.size,1,none⟩ (.int .i64 (k:Int))).setCell ⟨w4.heap.size,2,none⟩ (.int .i64 0)):=((hb4x.setCell hA _).setCell hA _).setCell hA _
   have a0:(((w6.setCell ⟨w4.heap.size,0,none⟩ (.string (nmC y.c))).setCell ⟨w4.heap.size,1,none⟩ (.int .i64 (k:Int))).setCell ⟨w4.heap.size,2,none⟩ (.int .i64 0)).cell? ⟨w4.heap.size,0,none⟩=some (.string (nmC y.c)):=by simp [go_sem,n0]
   have a1:(((w6.setCell ⟨w4.heap.size,0,none⟩ (.string (nmC y.c))).setCell ⟨w4.heap.size,1,none⟩ (.int .i64 (k:Int))).setCell ⟨w4.heap.size,2,none⟩ (.int .i64 0)).cell? ⟨w4.heap.size,1,none⟩=some (.int .i64 (k:Int)):=by simp [go_sem,n1]
   generalize ((w6.setCell ⟨w4.heap.size,0,none⟩ (.string (nmC y.c))).setCell ⟨w4.heap.size,1,none⟩ (.int .i64 (k:Int))).setCell ⟨w4.heap.size,2,none⟩ (.int .i64 0)=V at *
   have HBV:Hid (Below w.heap.size w V):=HB.out.trans (hbf.mono HB.out.size)
   have x1V:=carry hbf (show w.heap.size<W.heap.size by omega) x1
   have c3V:=carry hbf (show bm<W.heap.size by omega) c3W
   have lV:=HLk.out V HBV.out
   clear hbf x0 x1 y0 y3 z0 z1 z2 z3 z4 z5 z6 z7 z8 c3W c3 HS HLk HFm HKy
   go_wp2
   go_ret
   exact⟨rB HQ.out.symm,by first | exact HBV.out | exact below_drewN HBV.out _ | exact HBV.out.drew⟩
  ·have hbf:Below W.heap.size W (((w6.setCell ⟨W.heap.size,0,none⟩ (.string (nmC y.c))).setCell ⟨W.heap.size,1,none⟩ (.int .i64 (k:Int))).setCell ⟨W.heap.size,2,none⟩ (.int .i64 0)):=((hb4x.setCell hA _).setCell hA _).setCell hA _
   have a0:(((w6.setCell ⟨W.heap.size,0,none⟩ (.string (nmC y.c))).setCell ⟨W.heap.size,1,none⟩ (.int .i64 (k:Int))).setCell ⟨W.heap.size,2,none⟩ (.int .i64 0)).cell? ⟨W.heap.size,0,none⟩=some (.string (nmC y.c)):=by simp [go_sem,n0]
   have a1:(((w6.setCell ⟨W.heap.size,0,none⟩ (.string (nmC y.c))).setCell ⟨W.heap.size,1,none⟩ (.int .i64 (k:Int))).setCell ⟨W.heap.size,2,none⟩ (.int .i64 0)).cell? ⟨W.heap.size,1,none⟩=some (.int .i64 (k:Int)):=by simp [go_sem,n1]
   generalize ((w6.setCell ⟨W.heap.size,0,none⟩ (.string (nmC y.c))).setCell ⟨W.heap.size,1,none⟩ (.int .i64 (k:Int))).setCell ⟨W.heap.size,2,none⟩ (.int .i64 0)=V at *
   have HBV:Hid (Below w.heap.size w V):=HB.out.trans (hbf.mono HB.out.size)
   have x1V:=carry hbf (show w.heap.size<W.heap.size by omega) x1
   have c3V:=carry hbf (show bm<W.heap.size by omega) c3W
   have lV:=HLk.out V HBV.out
   clear hbf x0 x1 y0 y3 z0 z1 z2 z3 z4 z5 z6 z7 z8 c3W c3 HS HLk HFm HKy
   go_wp2
   go_ret
   exact⟨rB HQ.out.symm,by first | exact HBV.out | exact below_drewN HBV.out _ | exact HBV.out.drew⟩
end Go.Proofs.YtmhgaggpdggbeaaGreatDoor

namespace Go.Proofs.YtmhgaggpdggbeaaGreatDoor
open Go.RowKit
set_option linter.unusedVariables false

noncomputable def wrB (c:CTup) (m:MTup):Bool:=@decide (wrongM c m) (Classical.propDecidable _)
noncomputable def opB (L:List CTup) (c:CTup) (m:MTup):Bool:=@decide (openM L c m) (Classical.propDecidable _)
noncomputable def mB (L:List CTup) (c:CTup) (m:MTup):Bool:=decide ((mD m).name ≠ initN) && (wrB c m || opB L c m)
noncomputable def mfB (L:List CTup) (c:CTup) (T:List WE):Bool:=T.any fun y=>(msC y.c).any (mB L c)
theorem wrB_iff {c:CTup} {m:MTup}:wrB c m=true ↔ wrongM c m:=by unfold wrB;exact @decide_eq_true_iff _ (Classical.propDecidable _)
theorem opB_iff {L:List CTup} {c:CTup} {m:MTup}:opB L c m=true ↔ openM L c m:=by unfold opB;exact @decide_eq_true_iff _ (Classical.propDecidable _)
theorem wy_split {E:List WE} {L:List CTup} (hp:Past L 4) (h:E.map WE.c=allC L) (n:ByteArray):∃ tl,(wyG E n).map WE.c=CH nmC suC L n ++ tl∧∀ b ∈ tl,b ∈ biC:=by
 rw [wyE hp.acy h n]
 exact (hp.part (by omega)).two.chain hp.acy hp.acyL _ n (Nat.le_refl _)
theorem mf_cd4 {E:List WE} {L:List CTup} (hp:Past L 4) (h:E.map WE.c=allC L) (c:CTup):(if mfB L c (wyG E (suC c)) then (14:Int) else 0)=cd4 L c:=by
 obtain ⟨tl,h1,h2⟩:=wy_split hp h (suC c)
 unfold cd4
 by_cases ha:accP L c
 ·rw [@if_pos _ (Classical.propDecidable _) ha,if_neg]
  intro hm
  unfold mfB at hm
  obtain ⟨y,hy,hm⟩:=List.any_eq_true.1 hm
  obtain ⟨m,hm1,hm2⟩:=List.any_eq_true.1 hm
  have hyc:y.c ∈ CH nmC suC L (suC c) ++ tl:=by rw [← h1];exact List.mem_map.2 ⟨y,hy,rfl⟩
  rcases List.mem_append.1 hyc with k | k
  ·unfold mB at hm2
   simp only [Bool.and_eq_true,decide_eq_true_eq,Bool.or_eq_true] at hm2
   have:=ha y.c k m hm1 hm2.1
   rcases hm2.2 with q | q
   ·exact this.1 (wrB_iff.1 q)
   ·exact this.2 (opB_iff.1 q)
  ·rw [(biC_empty y.c (h2 _ k)).2.1] at hm1
   cases hm1
 ·rw [@if_neg _ (Classical.propDecidable _) ha,if_pos]
  unfold accP at ha
  simp only [Classical.not_forall] at ha
  obtain ⟨u,hu,m,hm,hn,hbad⟩:=ha
  unfold mfB
  have huc:u ∈ (wyG E (suC c)).map WE.c:=by rw [h1];exact List.mem_append.2 (.inl hu)
  obtain ⟨y,hy,rfl⟩:=List.mem_map.1 huc
  refine List.any_eq_true.2 ⟨y,hy,List.any_eq_true.2 ⟨m,hm,?_⟩⟩
  unfold mB
  simp only [Bool.and_eq_true,decide_eq_true_eq,Bool.or_eq_true]
  refine ⟨hn,?_⟩
  by_cases q:wrongM c m
  ·exact .inl (wrB_iff.2 q)
  ·refine .inr (opB_iff.2 (Classical.byContradiction fun k=>hbad ⟨q,k⟩))
theorem wr_ask {L:List CTup} {E:List WE} (hp:Part L L.length) {x:WE} (hx:x.c ∈ L) (m:MTup) (nd:∀ i j (hi:i<(mKeys x.c).length) (hj:j<(mKeys x.c).length),i<j→¬ ((mKeys x.c)[i].1=(mKeys x.c)[j].1∧(mKeys x.c)[i].2.1=(mKeys x.c)[j].2.1)) :
  (kLk x.c (mD m).name (mD m).desc=none∧wrB x.c m=false) ∨ ∃ j,∃ hj:j<(msC x.c).length,kLk x.c (mD m).name (mD m).desc=some (j:Int)∧wrB x.c m=((mD m).fin || ((mD m).static != (mD (msC x.c)[j]).static)):=by
 have hk:=kLk_user (n:=(mD m).name) (d:=(mD m).desc) (isBi_user hp hx) nd
 cases hm:mFixL (msC x.c) (mD m).name (mD m).desc with
 | none =>
  rw [hm] at hk
  refine .inl ⟨hk,?_⟩
  cases hb:wrB x.c m with
  | false=>rfl
  | true =>
   obtain ⟨k,_,h1,_⟩:=wrB_iff.1 hb
   rw [hm] at h1
   cases h1
 | some k =>
  rw [hm] at hk
  obtain ⟨hkl,_⟩:=mFx_some hm
  refine .inr ⟨k,hkl,hk,?_⟩
  cases hq:((mD m).fin || ((mD m).static != (mD (msC x.c)[k]).static)) with
  | true =>
   refine wrB_iff.2 ⟨k,hkl,hm,?_⟩
   simp only [Bool.or_eq_true,bne_iff_ne,ne_eq] at hq
   exact hq
  | false =>
   cases hb:wrB x.c m with
   | false=>rfl
   | true =>
    obtain ⟨k',hk',h1,h2⟩:=wrB_iff.1 hb
    rw [hm] at h1
    cases h1
    simp only [Bool.or_eq_false_iff,bne_eq_false_iff_eq] at hq
    rcases h2 with q | q
    ·rw [hq.1] at q;cases q
    ·exact absurd hq.2 q
theorem near_some {W:List CTup} {n d:ByteArray} {u:CTup} {m:MTup} (hu:u ∈ W) (hm:m ∈ msC u) (h1:(mD m).name=n) (h2:(mD m).desc=d):∃ u' k,nearM W n d=some (u',k):=by
 unfold nearM
 cases h:W.findSome? fun u=>(mFixL (msC u) n d).map fun k=>(u,k) with
 | some y=>exact⟨y.1,y.2,rfl⟩
 | none =>
  rw [List.findSome?_eq_none_iff] at h
  have:=h u hu
  rw [Option.map_eq_none_iff] at this
  obtain ⟨j,hj,rfl⟩:=List.mem_iff_getElem.1 hm
  exact absurd ⟨h1,h2⟩ (mFx_none this j hj)
theorem op_ask {L:List CTup} {E:List WE} (hp:Past L 4) (h:E.map WE.c=allC L) {x:WE} (hx:x.c ∈ L) (hnd:∀ y ∈ E,∀ i j (hi:i<(mKeys y.c).length) (hj:j<(mKeys y.c).length),i<j→¬ ((mKeys y.c)[i].1=(mKeys y.c)[j].1∧(mKeys y.c)[i].2.1=(mKeys y.c)[j].2.1)) {y:WE} (hy:y ∈ wyG E (suC x.c)) {m:MTup} (hm:m ∈ msC y.c) (hn:(mD m).name ≠ initN) :
  ((abC x.c || !(mD m).abs)=true∧opB L x.c m=false) ∨ (abC x.c=false∧(mD m).abs=true∧∃ y ∈ E,∃ k,∃ hk:k<(msC y.c).length,fmF (mD m).name (mD m).desc (wyG E (nmC x.c))=(nmC y.c,(k:Int),0)∧opB L x.c m=(mD (msC y.c)[k]).abs):=by
 cases hq:(abC x.c || !(mD m).abs) with
 | true =>
  refine .inl ⟨rfl,?_⟩
  cases hb:opB L x.c m with
  | false=>rfl
  | true =>
   obtain ⟨k1,k2,_⟩:=opB_iff.1 hb
   rw [k1,k2] at hq
   cases hq
 | false =>
  right
  simp only [Bool.or_eq_false_iff,Bool.not_eq_false'] at hq
  refine ⟨hq.1,hq.2,?_⟩
  have hpt:=hp.part (by omega)
  have hlk:lkG nmC L (nmC x.c)=some x.c:=lkG_mem hpt.nodup hx
  have hch:=hp.acyL.CH_some hlk
  obtain ⟨tl0,s1,s2⟩:=wy_split hp h (suC x.c)
  have hyc:y.c ∈ CH nmC suC L (suC x.c):=by
   have:y.c ∈ CH nmC suC L (suC x.c) ++ tl0:=by rw [← s1];exact List.mem_map.2 ⟨y,hy,rfl⟩
   rcases List.mem_append.1 this with k | k
   ·exact k
   ·rw [(biC_empty y.c (s2 _ k)).2.1] at hm;cases hm
  obtain ⟨u,k,hnear⟩:=near_some (W:=CH nmC suC L (nmC x.c)) (n:=(mD m).name) (d:=(mD m).desc) (by rw [hch];exact List.mem_cons_of_mem _ hyc) hm rfl rfl
  obtain ⟨tl,t1,t2⟩:=wy_split hp h (nmC x.c)
  obtain ⟨z,hz,e1,⟨hk,_⟩,e3⟩:=fm_near hn (wyG E (nmC x.c)) _ tl t1 (fun c hc=>isBi_user hpt (CH_sub c hc)) (fun c hc=>isBi_bi (t2 c hc)) (fun y hy=>hnd y (wy_sub E _ y hy)) u k hnear
  subst e1
  refine ⟨z,wy_sub E _ z hz,k,hk,e3,?_⟩
  cases hb:(mD (msC z.c)[k]).abs with
  | true=>exact opB_iff.2 ⟨hq.2,hq.1,z.c,k,hk,hnear,hb⟩
  | false =>
   cases hb2:opB L x.c m with
   | false=>rfl
   | true =>
    obtain ⟨_,_,u',k',hk',e4,e5⟩:=opB_iff.1 hb2
    rw [hnear] at e4
    cases e4
    rw [hb] at e5
    cases e5
set_option maxRecDepth 100000 in
set_option maxHeartbeats 4000000 in
theorem implMethodsFault (L:List CTup) (lv:Value) (r:Nat) (E:List WE) (es:Array MapEntry) (ck:Nat) (x:WE) (fa:Option Addr) (fc:Nat) (ma:Option Addr) (mc:Nat) (w:World) (hp:Past L 4) (hEL:E.map WE.c=allC L) (hxL:x.c ∈ L) (h:WmIs w r E es ck) (hx:x ∈ E) (hl:∃ a k c,lv = .slice a k c) (hE:E.length≤100) (hsm:∀ x ∈ E,(nmC x.c).size≤281474976710656) (hmi:methR.slice.In w [.slice ma (msC x.c).length mc] (msC x.c)) :
  Calls Tryz.prog 81 #[wdV lv r,clC x.c fa fc ma mc] w fun e w'=>e = .returned (.int .i64 (cd4 L x.c))∧Below w.heap.size w w':=by
 have hin:=h.lies x hx
 have HWu:Hid (∀ w',Below w.heap.size w w'→Calls Tryz.prog 83 #[.agg #[lv,.map (some r)],.string (suC x.c)] w' fun e w2=>Below w'.heap.size w' w2∧∃ v,e = .returned v∧w2.ownsRow w'.heap.size 102 7 v (wyG E (suC x.c)).length ((wyG E (suC x.c)).flatMap weC)):=fun w' hb=>implWayUp lv r E es ck (suC x.c) w' (h.below hb) hin.s hl hE
 have hnd:∀ y ∈ E,∀ i j (hi:i<(mKeys y.c).length) (hj:j<(mKeys y.c).length),i<j→¬ ((mKeys y.c)[i].1=(mKeys y.c)[j].1∧(mKeys y.c)[i].2.1=(mKeys y.c)[j].2.1):=fun y hy=>(h.lies y hy).k.nd
 have HWr:Hid (∀ w' (m:MTup) va vn vc ha hn hc,Below w.heap.size w w'→(mD m).name.size≤maxLen→(mD m).desc.size≤maxLen→Calls Tryz.prog 109 #[.agg #[lv,.map (some r)],.agg #[.string (nmC x.c),.string (suC x.c),.bool (fiC x.c),.bool (abC x.c),.slice fa (fsC x.c).length fc,.slice ma (msC x.c).length mc],.agg #[.string (mD m).name,.string (mD m).desc,.bool (mD m).static,.bool (mD m).abs,.bool (mD m).fin,.int .i64 (mD m).stack,.int .i64 (mD m).locals,.slice va vn vc,.slice ha hn hc]] w' fun e w2=>e = .returned (.bool (wrB x.c m))∧Below w'.heap.size w' w2):=fun w' m va vn vc ha hn hc hb s0 s1 =>
  implWritten lv r E es ck x fa fc ma mc w' (h.below hb) hx hl (methR.slice.mono _ _ _ _ hb hmi) _ _ _ _ _ _ _ va vn vc ha hn hc s0 s1 _ (wr_ask (E:=E) (hp.part (by omega)) hxL m (hnd x hx))
 have HOp:Hid (∀ w' (y:WE) (m:MTup) va vn vc ha hn hc,Below w.heap.size w w'→y ∈ wyG E (suC x.c)→m ∈ msC y.c→(mD m).name ≠ initN→(mD m).name.size≤maxLen→(mD m).desc.size≤maxLen→Calls Tryz.prog 110 #[.agg #[lv,.map (some r)],.agg #[.string (nmC x.c),.string (suC x.c),.bool (fiC x.c),.bool (abC x.c),.slice fa (fsC x.c).length fc,.slice ma (msC x.c).length mc],.agg #[.string (mD m).name,.string (mD m).desc,.bool (mD m).static,.bool (mD m).abs,.bool (mD m).fin,.int .i64 (mD m).stack,.int .i64 (mD m).locals,.slice va vn vc,.slice ha hn hc]] w' fun e w2=>e = .returned (.bool (opB L x.c m))∧Below w'.heap.size w' w2):=fun w' y m va vn vc ha hn hc hb hy hm hni s0 s1 =>
  implLeftOpen lv r E es ck x fa fc ma mc w' (h.below hb) hx hl hE hsm _ _ _ _ _ _ _ va vn vc ha hn hc s0 s1 _ (op_ask hp hEL hxL hnd hy hm hni)
 have HMe:Hid (∀ i (hi:i<(wyG E (suC x.c)).length),methR.slice.In w [.slice (wyG E (suC x.c))[i].ma (msC (wyG E (suC x.c))[i].c).length (wyG E (suC x.c))[i].mc] (msC (wyG E (suC x.c))[i].c)):=fun i hi=>(h.lies _ (wy_sub E _ _ (List.getElem_mem hi))).m
 rw [← mf_cd4 hp hEL x.c]
 obtain ⟨la,lk,lc,rfl⟩:=hl
 have HTm:Hid (∀ i (hi:i<(wyG E (suC x.c)).length),(wyG E (suC x.c))[i] ∈ wyG E (suC x.c)):=fun i hi=>List.getElem_mem hi
 generalize hT:wyG E (suC x.c)=T at *
 clear hT
 obtain ⟨rv,hrv⟩:∃ rv:Int,(if mfB L x.c T then (14:Int) else 0)=rv:=⟨_,rfl⟩
 have HRT:Hid (mfB L x.c T=true→14=rv):=fun k=>by rw [k] at hrv;exact hrv
 have HRF:Hid (mfB L x.c T=false→0=rv):=fun k=>by rw [k] at hrv;exact hrv
 rw [hrv]
 clear hrv
 have HF:Hid (∀ i (hi:i<T.length),mfB L x.c (T.drop i)=((msC T[i].c).any (mB L x.c) || mfB L x.c (T.drop (i+1)))):=fun i hi=>by unfold mfB;rw [List.drop_eq_getElem_cons hi,List.any_cons]
 have HF0:Hid (mfB L x.c T=mfB L x.c (T.drop 0)):=rfl
 have HG:Hid (∀ (ms:List MTup) k (hk:k<ms.length),(ms.drop k).any (mB L x.c)=(mB L x.c ms[k] || (ms.drop (k+1)).any (mB L x.c))):=fun ms k hk=>by rw [List.drop_eq_getElem_cons hk,List.any_cons]
 have HFE:Hid (mfB L x.c (T.drop T.length)=false):=by show _=_;rw [List.drop_length];rfl
 generalize mfB L x.c T=res at *
 unfold wdV clC
 clear h hin hnd hsm hmi hp hEL hE
 go_enter Tryz.func81,Tryz.ntmps81
 go_wp2_with fail
 refine Calls.mono (HWu.out _ (below_al2 _ _ _)) ?_
 rintro e w1 ⟨hb1,v,rfl,ho⟩
 have HB1:Hid (Below w.heap.size w w1):=(below_al2 _ _ _).trans (hb1.mono (by simp;omega))
 have x0:=cC hb1 (w.heap.size) 0 (.slice la lk lc) (by first | (simp;done) | (simp;omega)) (by simp [go_sem])
 have x1:=cC hb1 (w.heap.size) 1 (.map (some r)) (by first | (simp;done) | (simp;omega)) (by simp [go_sem])
 have y0:=cC hb1 (w.heap.size+1) 0 (.string (nmC x.c)) (by first | (simp;done) | (simp;omega)) (by simp [go_sem])
 have y1:=cC hb1 (w.heap.size+1) 1 (.string (suC x.c)) (by first | (simp;done) | (simp;omega)) (by simp [go_sem])
 have y2:=cC hb1 (w.heap.size+1) 2 (.bool (fiC x.c)) (by first | (simp;done) | (simp;omega)) (by simp [go_sem])
 have y3:=cC hb1 (w.heap.size+1) 3 (.bool (abC x.c)) (by first | (simp;done) | (simp;omega)) (by simp [go_sem])
 have y4:=cC hb1 (w.heap.size+1) 4 (.slice fa (fsC x.c).length fc) (by first | (simp;done) | (simp;omega)) (by simp [go_sem])
 have y5:=cC hb1 (w.heap.size+1) 5 (.slice ma (msC x.c).length mc) (by first | (simp;done) | (simp;omega)) (by simp [go_sem])
 have hz:w.heap.size+1<w1.heap.size:=by have:=hb1.size;simp at this;omega
 have HO1:=(show Hid (WyAt w1 (w.heap.size+2) v T) from (WyAt.mk ho).base (by simp))
 obtain ⟨va,vcap,rfl,hcap,hvc,_⟩:=HO1.out.slice
 unfold maxLen at hcap
 clear hb1 ho HWu
 go_wp2_with fail
 go_loopw [14] (fun j14 wr=>∃ i:Nat,i≤T.length∧j14 = .int .i64 (i:Int)∧Below w1.heap.size w1 wr∧res=mfB L x.c (T.drop i)) (fun j14 _=>T.length - (intOf j14).toNat)
 case atStart=>exact⟨0,Nat.zero_le _,rfl,Below.refl _ _,HF0.out⟩
 case round =>
  obtain ⟨i,hi,rfl,hbb,hres⟩:=hrel
  have HRs:=(show Hid (res=mfB L x.c (T.drop i)) from hres)
  have HBr:Hid (Below w.heap.size w wr):=HB1.out.trans (hbb.mono HB1.out.size)
  have HBo:Hid (Below w1.heap.size w1 wr):=hbb
  have HOr:=(show Hid (WyAt wr (w.heap.size+2) (.slice va T.length vcap) T) from HO1.out.below hbb)
  replace x0:=carry hbb (show w.heap.size<w1.heap.size by omega) x0
  replace x1:=carry hbb (show w.heap.size<w1.heap.size by omega) x1
  replace y0:=carry hbb hz y0
  replace y1:=carry hbb hz y1
  replace y2:=carry hbb hz y2
  replace y3:=carry hbb hz y3
  replace y4:=carry hbb hz y4
  replace y5:=carry hbb hz y5
  have hz1:w.heap.size+1<wr.heap.size:=Nat.lt_of_lt_of_le hz hbb.size
  clear hbb hres
  by_cases hlt:i<T.length
  case neg =>
   obtain rfl:i=T.length:=by omega
   have HZ:Hid (0=rv):=HRF.out (by rw [HRs.out,HFE.out])
   clear HRs HOr
   go_wp2
   go_ret
   exact⟨rI HZ.out,HBr.out⟩
  obtain ⟨va',vcap',ev,_,_,hcell⟩:=HOr.out.slice
  cases ev
  obtain ⟨g,rfl,hg1,hg2,c0,c1,c2,c3,c4,c5,c6⟩:=hcell i hlt
  clear hcell HOr
  unfold WE.vc at c4
  unfold WE.vh at c5
  have hfi:=HF.out i hlt
  rw [← HRs.out] at hfi
  have HFi:=(show Hid (res=((msC T[i].c).any (mB L x.c) || mfB L x.c (T.drop (i+1)))) from hfi)
  have HMi:=(show Hid _ from HMe.out i hlt)
  have HTi:=(show Hid _ from HTm.out i hlt)
  have HOp1:=(show Hid _ from fun w' m va vn vc ha hn hc (hb:Below w.heap.size w w') (hm:m ∈ msC T[i].c) h1 h2 h3=>HOp.out w' T[i] m va vn vc ha hn hc hb HTi.out hm h1 h2 h3)
  clear hfi HRs
  obtain ⟨rest,hrest⟩:∃ rest,mfB L x.c (T.drop (i+1))=rest:=⟨_,rfl⟩
  have HRest:Hid (rest=mfB L x.c (T.drop (i+1))):=hrest.symm
  rw [hrest] at HFi
  clear hrest
  generalize T[i]=y at *
  obtain ⟨_,_,em,mn0,mcap,mat⟩:=slice_open (by decide) HMi.out
  cases em
  unfold maxLen at mcap
  have HMt:=(show Hid _ from mat)
  clear mat HMi HTi
  go_wp2_with fail
  have HBo1:Hid (∀ o,Below w1.heap.size w1 (wr.alloc o)):=fun o=>HBo.out.alloc HBo.out.size o
  have HBr1:Hid (∀ o,Below w.heap.size w (wr.alloc o)):=fun o=>HBr.out.alloc HBr.out.size o
  have x0a:∀ o,(wr.alloc o).cell? ⟨w.heap.size,0,none⟩=some (.slice la lk lc):=fun o=>carry (below_al wr o) (show w.heap.size<wr.heap.size by omega) x0
  have x1a:∀ o,(wr.alloc o).cell? ⟨w.heap.size,1,none⟩=some (.map (some r)):=fun o=>carry (below_al wr o) (show w.heap.size<wr.heap.size by omega) x1
  have y0a:∀ o,(wr.alloc o).cell? ⟨w.heap.size+1,0,none⟩=some (.string (nmC x.c)):=fun o=>carry (below_al wr o) (show w.heap.size+1<wr.heap.size by omega) y0
  have y1a:∀ o,(wr.alloc o).cell? ⟨w.heap.size+1,1,none⟩=some (.string (suC x.c)):=fun o=>carry (below_al wr o) (show w.heap.size+1<wr.heap.size by omega) y1
  have y2a:∀ o,(wr.alloc o).cell? ⟨w.heap.size+1,2,none⟩=some (.bool (fiC x.c)):=fun o=>carry (below_al wr o) (show w.heap.size+1<wr.heap.size by omega) y2
  have y3a:∀ o,(wr.alloc o).cell? ⟨w.heap.size+1,3,none⟩=some (.bool (abC x.c)):=fun o=>carry (below_al wr o) (show w.heap.size+1<wr.heap.size by omega) y3
  have y4a:∀ o,(wr.alloc o).cell? ⟨w.heap.size+1,4,none⟩=some (.slice fa (fsC x.c).length fc):=fun o=>carry (below_al wr o) (show w.heap.size+1<wr.heap.size by omega) y4
  have y5a:∀ o,(wr.alloc o).cell? ⟨w.heap.size+1,5,none⟩=some (.slice ma (msC x.c).length mc):=fun o=>carry (below_al wr o) (show w.heap.size+1<wr.heap.size by omega) y5
  have hza:∀ o,(wr.alloc o).heap.size=wr.heap.size+1:=fun o=>by simp
  have hml:(msC y.c).length≤maxLen:=by unfold maxLen;omega
  have HBo2:=(show Hid _ from HBo1.out (.cells #[.string (nmC y.c),.string (suC y.c),.bool (fiC y.c),.bool (abC y.c),.slice y.fa (fsC y.c).length y.fc,.slice y.ma (msC y.c).length y.mc,.map (some y.rm)] 102))
  have HBr2:=(show Hid _ from HBr1.out (.cells #[.string (nmC y.c),.string (suC y.c),.bool (fiC y.c),.bool (abC y.c),.slice y.fa (fsC y.c).length y.fc,.slice y.ma (msC y.c).length y.mc,.map (some y.rm)] 102))
  have x0b:=x0a (.cells #[.string (nmC y.c),.string (suC y.c),.bool (fiC y.c),.bool (abC y.c),.slice y.fa (fsC y.c).length y.fc,.slice y.ma (msC y.c).length y.mc,.map (some y.rm)] 102)
  have x1b:=x1a (.cells #[.string (nmC y.c),.string (suC y.c),.bool (fiC y.c),.bool (abC y.c),.slice y.fa (fsC y.c).length y.fc,.slice y.ma (msC y.c).length y.mc,.map (some y.rm)] 102)
  have y0b:=y0a (.cells #[.string (nmC y.c),.string (suC y.c),.bool (fiC y.c),.bool (abC y.c),.slice y.fa (fsC y.c).length y.fc,.slice y.ma (msC y.c).length y.mc,.map (some y.rm)] 102)
  have y1b:=y1a (.cells #[.string (nmC y.c),.string (suC y.c),.bool (fiC y.c),.bool (abC y.c),.slice y.fa (fsC y.c).length y.fc,.slice y.ma (msC y.c).length y.mc,.map (some y.rm)] 102)
  have y2b:=y2a (.cells #[.string (nmC y.c),.string (suC y.c),.bool (fiC y.c),.bool (abC y.c),.slice y.fa (fsC y.c).length y.fc,.slice y.ma (msC y.c).length y.mc,.map (some y.rm)] 102)
  have y3b:=y3a (.cells #[.string (nmC y.c),.string (suC y.c),.bool (fiC y.c),.bool (abC y.c),.slice y.fa (fsC y.c).length y.fc,.slice y.ma (msC y.c).length y.mc,.map (some y.rm)] 102)
  have y4b:=y4a (.cells #[.string (nmC y.c),.string (suC y.c),.bool (fiC y.c),.bool (abC y.c),.slice y.fa (fsC y.c).length y.fc,.slice y.ma (msC y.c).length y.mc,.map (some y.rm)] 102)
  have y5b:=y5a (.cells #[.string (nmC y.c),.string (suC y.c),.bool (fiC y.c),.bool (abC y.c),.slice y.fa (fsC y.c).length y.fc,.slice y.ma (msC y.c).length y.mc,.map (some y.rm)] 102)
  have hzb:=hza (.cells #[.string (nmC y.c),.string (suC y.c),.bool (fiC y.c),.bool (abC y.c),.slice y.fa (fsC y.c).length y.fc,.slice y.ma (msC y.c).length y.mc,.map (some y.rm)] 102)
  clear HBo1 HBr1 hza x0a x1a y0a y1a y2a y3a y4a y5a x0 x1 y0 y1 y2 y3 y4 y5 c0 c1 c2 c3 c4 c5 c6
  have x0:=x0b
  have x1:=x1b
  have y0:=y0b
  have y1:=y1b
  have y2:=y2b
  have y3:=y3b
  have y4:=y4b
  have y5:=y5b
  clear x0b x1b y0b y1b y2b y3b y4b y5b
  generalize wr.alloc (.cells #[.string (nmC y.c),.string (suC y.c),.bool (fiC y.c),.bool (abC y.c),.slice y.fa (fsC y.c).length y.fc,.slice y.ma (msC y.c).length y.mc,.map (some y.rm)] 102)=wo at *
  go_loopw [22] (fun j22 wi=>∃ k:Nat,k≤(msC y.c).length∧j22 = .int .i64 (k:Int)∧Below wo.heap.size wo wi∧res=(((msC y.c).drop k).any (mB L x.c) || rest)) (fun j22 _=>(msC y.c).length - (intOf j22).toNat)
  case atStart=>exact⟨0,Nat.zero_le _,rfl,Below.refl _ _,HFi.out⟩
  case round =>
   obtain ⟨k,hk,rfl,hbi,hres⟩:=hrel
   have HRs:=(show Hid (res=(((msC y.c).drop k).any (mB L x.c) || rest)) from hres)
   have HBio:Hid (Below wo.heap.size wo wr):=hbi
   have HBi:Hid (Below w.heap.size w wr):=HBr2.out.trans (hbi.mono HBr2.out.size)
   have hwo:w.heap.size+1<wo.heap.size:=Nat.lt_of_lt_of_le hz HBo2.out.size
   have hwi:wo.heap.size≤wr.heap.size:=hbi.size
   replace x0:=carry hbi (show w.heap.size<wo.heap.size by omega) x0
   replace x1:=carry hbi (show w.heap.size<wo.heap.size by omega) x1
   replace y0:=carry hbi (hwo) y0
   replace y1:=carry hbi (hwo) y1
   replace y2:=carry hbi (hwo) y2
   replace y3:=carry hbi (hwo) y3
   replace y4:=carry hbi (hwo) y4
   replace y5:=carry hbi (hwo) y5
   clear hbi hres
   by_cases hlt2:k<(msC y.c).length
   case neg =>
    obtain rfl:k=(msC y.c).length:=by omega
    have HZ:Hid (res=rest):=by show _=_;rw [HRs.out,List.drop_length];simp
    have HBx:Hid (Below w1.heap.size w1 wr):=HBo2.out.trans (HBio.out.mono HBo2.out.size)
    clear HRs
    go_wp2
    go_roundw
    case rel=>exact⟨i+1,by omega,by go_num,HBx.out,by rw [HZ.out];exact HRest.out⟩
    case measure=>simp [intOf];omega
   obtain ⟨bm,om,ema,hxm⟩:=HMt.out k hlt2
   obtain ⟨wc,wh,c0,c1,c2,c3,c4,c5,c6,c7,c8,s0,s1,_,_,hm7,hm8⟩:=methAt (hxm.mono HBi.out)
   obtain ⟨wca,wcc,rfl⟩:=slice_form hm7
   obtain ⟨wha,whc,rfl⟩:=slice_form hm8
   have hgk:=HG.out (msC y.c) k hlt2
   have HGk:=(show Hid (res=((mB L x.c (msC y.c)[k] || ((msC y.c).drop (k+1)).any (mB L x.c)) || rest)) from by show _=_;rw [HRs.out,hgk])
   have HW1:=(show Hid _ from fun w' (hb:Below w.heap.size w w')=>HWr.out w' (msC y.c)[k] wca (mD (msC y.c)[k]).code.length wcc wha (mD (msC y.c)[k]).hands.length whc hb s0 s1)
   have HO1:=(show Hid _ from fun (hni:(mD (msC y.c)[k]).name ≠ initN) w' (hb:Below w.heap.size w w')=>HOp1.out w' (msC y.c)[k] wca (mD (msC y.c)[k]).code.length wcc wha (mD (msC y.c)[k]).hands.length whc hb (List.getElem_mem hlt2) hni s0 s1)
   have HmB:Hid (mB L x.c (msC y.c)[k]=(decide ((mD (msC y.c)[k]).name ≠ initN) && (wrB x.c (msC y.c)[k] || opB L x.c (msC y.c)[k]))):=rfl
   clear hgk HRs hm7 hm8 hxm s0 s1
   rw [ema]
   obtain ⟨rest2,hrest2⟩:∃ rest2,((msC y.c).drop (k+1)).any (mB L x.c)=rest2:=⟨_,rfl⟩
   have HRest2:Hid (rest2=((msC y.c).drop (k+1)).any (mB L x.c)):=hrest2.symm
   rw [hrest2] at HGk
   clear hrest2
   generalize mB L x.c (msC y.c)[k]=mb at *
   generalize wrB x.c (msC y.c)[k]=q1 at *
   generalize opB L x.c (msC y.c)[k]=q2 at *
   generalize (msC y.c)[k]=m at *
   generalize (mD m).code.length=wcn at *
   generalize (mD m).hands.length=whn at *
   by_cases hni:(mD m).name=initN
   ·have HZ:Hid (res=(rest2 || rest)):=by
     show _=_
     rw [HGk.out,HmB.out,hni]
     simp
    have d:=init_eq' hni
    have HBfo:Hid (∀ o,Below wo.heap.size wo (wr.alloc o)):=fun o=>HBio.out.alloc HBio.out.size o
    clear HGk HmB HW1 HO1 hni
    go_wp2
    go_roundw
    case rel=>exact⟨k+1,by omega,by go_num,HBfo.out _,by rw [HZ.out,HRest2.out]⟩
    case measure=>simp [intOf];omega
   ·have d:=init_ne' hni
    replace HO1:=(show Hid _ from HO1.out hni)
    have HmB2:Hid (mb=(q1 || q2)):=by show _=_;rw [HmB.out];simp [hni]
    clear HmB hni
    have x0a:(wr.alloc (.cells #[.string (mD m).name,.string (mD m).desc,.bool (mD m).static,.bool (mD m).abs,.bool (mD m).fin,.int .i64 (mD m).stack,.int .i64 (mD m).locals,.slice wca wcn wcc,.slice wha whn whc] 55)).cell? ⟨w.heap.size,0,none⟩=some (.slice la lk lc):=carry (below_al wr _) (show w.heap.size<wr.heap.size by omega) x0
    have x1a:(wr.alloc (.cells #[.string (mD m).name,.string (mD m).desc,.bool (mD m).static,.bool (mD m).abs,.bool (mD m).fin,.int .i64 (mD m).stack,.int .i64 (mD m).locals,.slice wca wcn wcc,.slice wha whn whc] 55)).cell? ⟨w.heap.size,1,none⟩=some (.map (some r)):=carry (below_al wr _) (show w.heap.size<wr.heap.size by omega) x1
    have y0a:(wr.alloc (.cells #[.string (mD m).name,.string (mD m).desc,.bool (mD m).static,.bool (mD m).abs,.bool (mD m).fin,.int .i64 (mD m).stack,.int .i64 (mD m).locals,.slice wca wcn wcc,.slice wha whn whc] 55)).cell? ⟨w.heap.size+1,0,none⟩=some (.string (nmC x.c)):=carry (below_al wr _) (show w.heap.size+1<wr.heap.size by omega) y0
    have y1a:(wr.alloc (.cells #[.string (mD m).name,.string (mD m).desc,.bool (mD m).static,.bool (mD m).abs,.bool (mD m).fin,.int .i64 (mD m).stack,.int .i64 (mD m).locals,.slice wca wcn wcc,.slice wha whn whc] 55)).cell? ⟨w.heap.size+1,1,none⟩=some (.string (suC x.c)):=carry (below_al wr _) (show w.heap.size+1<wr.heap.size by omega) y1
    have y2a:(wr.alloc (.cells #[.string (mD m).name,.string (mD m).desc,.bool (mD m).static,.bool (mD m).abs,.bool (mD m).fin,.int .i64 (mD m).stack,.int .i64 (mD m).locals,.slice wca wcn wcc,.slice wha whn whc] 55)).cell? ⟨w.heap.size+1,2,none⟩=some (.bool (fiC x.c)):=carry (below_al wr _) (show w.heap.size+1<wr.heap.size by omega) y2
    have y3a:(wr.alloc (.cells #[.string (mD m).name,.string (mD m).desc,.bool (mD m).static,.bool (mD m).abs,.bool (mD m).fin,.int .i64 (mD m).stack,.int .i64 (mD m).locals,.slice wca wcn wcc,.slice wha whn whc] 55)).cell? ⟨w.heap.size+1,3,none⟩=some (.bool (abC x.c)):=carry (below_al wr _) (show w.heap.size+1<wr.heap.size by omega) y3
    have y4a:(wr.alloc (.cells #[.string (mD m).name,.string (mD m).desc,.bool (mD m).static,.bool (mD m).abs,.bool (mD m).fin,.int .i64 (mD m).stack,.int .i64 (mD m).locals,.slice wca wcn wcc,.slice wha whn whc] 55)).cell? ⟨w.heap.size+1,4,none⟩=some (.slice fa (fsC x.c).length fc):=carry (below_al wr _) (show w.heap.size+1<wr.heap.size by omega) y4
    have y5a:(wr.alloc (.cells #[.string (mD m).name,.string (mD m).desc,.bool (mD m).static,.bool (mD m).abs,.bool (mD m).fin,.int .i64 (mD m).stack,.int .i64 (mD m).locals,.slice wca wcn wcc,.slice wha whn whc] 55)).cell? ⟨w.heap.size+1,5,none⟩=some (.slice ma (msC x.c).length mc):=carry (below_al wr _) (show w.heap.size+1<wr.heap.size by omega) y5
    have HBW:Hid (Below w.heap.size w (wr.alloc (.cells #[.string (mD m).name,.string (mD m).desc,.bool (mD m).static,.bool (mD m).abs,.bool (mD m).fin,.int .i64 (mD m).stack,.int .i64 (mD m).locals,.slice wca wcn wcc,.slice wha whn whc] 55))):=HBi.out.alloc HBi.out.size _
    have HBWo:Hid (Below wo.heap.size wo (wr.alloc (.cells #[.string (mD m).name,.string (mD m).desc,.bool (mD m).static,.bool (mD m).abs,.bool (mD m).fin,.int .i64 (mD m).stack,.int .i64 (mD m).locals,.slice wca wcn wcc,.slice wha whn whc] 55))):=HBio.out.alloc HBio.out.size _
    go_wp2_with fail
    refine Calls.mono (HW1.out _ HBW.out) ?_
    rintro e w5 ⟨rfl,hb5⟩
    have HB5:Hid (Below w.heap.size w w5):=HBW.out.trans (hb5.mono HBW.out.size)
    have HB5o:Hid (Below wo.heap.size wo w5):=HBWo.out.trans (hb5.mono HBWo.out.size)
    have x0c:=carry hb5 (by first | (simp;done) | (simp;omega)) x0a
    have x1c:=carry hb5 (by first | (simp;done) | (simp;omega)) x1a
    have y0c:=carry hb5 (by first | (simp;done) | (simp;omega)) y0a
    have y1c:=carry hb5 (by first | (simp;done) | (simp;omega)) y1a
    have y2c:=carry hb5 (by first | (simp;done) | (simp;omega)) y2a
    have y3c:=carry hb5 (by first | (simp;done) | (simp;omega)) y3a
    have y4c:=carry hb5 (by first | (simp;done) | (simp;omega)) y4a
    have y5c:=carry hb5 (by first | (simp;done) | (simp;omega)) y5a
    have m0:=cC hb5 (wr.heap.size) 0 (.string (mD m).name) (by simp) (by simp [go_sem])
    have m1:=cC hb5 (wr.heap.size) 1 (.string (mD m).desc) (by simp) (by simp [go_sem])
    have m2:=cC hb5 (wr.heap.size) 2 (.bool (mD m).static) (by simp) (by simp [go_sem])
    have m3:=cC hb5 (wr.heap.size) 3 (.bool (mD m).abs) (by simp) (by simp [go_sem])
    have m4:=cC hb5 (wr.heap.size) 4 (.bool (mD m).fin) (by simp) (by simp [go_sem])
    have m5:=cC hb5 (wr.heap.size) 5 (.int .i64 (mD m).stack) (by simp) (by simp [go_sem])
    have m6:=cC hb5 (wr.heap.size) 6 (.int .i64 (mD m).locals) (by simp) (by simp [go_sem])
    have m7:=cC hb5 (wr.heap.size) 7 (.slice wca wcn wcc) (by simp) (by simp [go_sem])
    have m8:=cC hb5 (wr.heap.size) 8 (.slice wha whn whc) (by simp) (by simp [go_sem])
    clear hb5 x0a x1a y0a y1a y2a y3a y4a y5a x0 x1 y0 y1 y2 y3 y4 y5
    cases q1
    ·cases q2
     ·have HZ:Hid (res=(rest2 || rest)):=by show _=_;rw [HGk.out,HmB2.out];simp
      go_wp2_with fail
      refine Calls.mono (HO1.out _ HB5.out) ?_
      rintro e w6 ⟨rfl,hb6⟩
      have HBf:Hid (Below w.heap.size w w6):=HB5.out.trans (hb6.mono HB5.out.size)
      have HBfo:Hid (Below wo.heap.size wo w6):=HB5o.out.trans (hb6.mono HB5o.out.size)
      clear hb6
      go_wp2
      go_roundw
      case rel=>exact⟨k+1,by omega,by go_num,by first | exact HBfo.out | exact HBfo.out.drew | exact below_drewN HBfo.out _,by rw [HZ.out,HRest2.out]⟩
      case measure=>simp [intOf];omega
     ·have HZ:Hid (14=rv):=HRT.out (by rw [HGk.out,HmB2.out];simp)
      go_wp2_with fail
      refine Calls.mono (HO1.out _ HB5.out) ?_
      rintro e w6 ⟨rfl,hb6⟩
      have HBf:Hid (Below w.heap.size w w6):=HB5.out.trans (hb6.mono HB5.out.size)
      have HBfo:Hid (Below wo.heap.size wo w6):=HB5o.out.trans (hb6.mono HB5o.out.size)
      clear hb6
      go_wp2
      go_ret
      exact⟨rI HZ.out,by first | exact HBf.out | exact HBf.out.drew | exact below_drewN HBf.out _⟩
    ·have HZ:Hid (14=rv):=HRT.out (by rw [HGk.out,HmB2.out];simp)
     go_wp2
     go_ret
     exact⟨rI HZ.out,by first | exact HB5.out | exact HB5.out.drew | exact below_drewN HB5.out _⟩
end Go.Proofs.YtmhgaggpdggbeaaGreatDoor
