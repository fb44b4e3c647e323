import Derived.Test.YtmhgaggpdggbeaaGreatDoorFfI
namespace Go.Proofs.YtmhgaggpdggbeaaGreatDoor
open Go.RowKit
set_option maxRecDepth 20000
set_option linter.unusedVariables false
theorem found3_al2 {w:World} {R:Nat} {u0 u1 u2:Value} (hR:R<w.heap.size) (r0:w.cell? ⟨R,0,none⟩=some u0) (r1:w.cell? ⟨R,1,none⟩=some u1) (r2:w.cell? ⟨R,2,none⟩=some u2) (v0 v1 v2:Value) (o1 o2:Obj) :
  (((((w.setCell ⟨R,0,none⟩ v0).setCell ⟨R,1,none⟩ v1).setCell ⟨R,2,none⟩ v2).alloc o1).alloc o2).cell? ⟨R,0,none⟩=some v0∧(((((w.setCell ⟨R,0,none⟩ v0).setCell ⟨R,1,none⟩ v1).setCell ⟨R,2,none⟩ v2).alloc o1).alloc o2).cell? ⟨R,1,none⟩=some v1∧(((((w.setCell ⟨R,0,none⟩ v0).setCell ⟨R,1,none⟩ v1).setCell ⟨R,2,none⟩ v2).alloc o1).alloc o2).cell? ⟨R,2,none⟩=some v2 :=
 ⟨carry (below_al2 _ o1 o2) (by simpa using hR) (found3 r0 r1 r2 v0 v1 v2).1,carry (below_al2 _ o1 o2) (by simpa using hR) (found3 r0 r1 r2 v0 v1 v2).2.1,carry (below_al2 _ o1 o2) (by simpa using hR) (found3 r0 r1 r2 v0 v1 v2).2.2⟩
theorem any3 (a b c:ByteArray):(([a,b,c]:List ByteArray).any fun x=>decide (20000<x.size))=(decide (20000<a.size) || (decide (20000<b.size) || decide (20000<c.size))):=by simp
set_option maxHeartbeats 2000000 in
theorem implFindFieldOf (L:List CTup) (v:Value) (cl n d:ByteArray) (w:World) (h:classR.slice.In w [v] L) (ht:Tab w) (hg:Glob w) (h1:cl.size≤maxLen) (h2:n.size≤maxLen) (h3:d.size≤maxLen) :
  Calls Tryz.prog 19 #[v,.string cl,.string n,.string d] w fun e w'=>e = .returned (fdV (ffV L cl n d))∧Below w.heap.size w w':=by
 have HLg:Hid ((400<L.length ∨ 20000<cl.size ∨ 20000<n.size ∨ 20000<d.size)→ffV L cl n d=(tE,0,2)):=fun k=>by unfold ffV;rw [if_pos k]
 have HSh:Hid (¬ (400<L.length ∨ 20000<cl.size ∨ 20000<n.size ∨ 20000<d.size)→ffV L cl n d=if rtB L then ffL L cl n d else (tE,0,0)):=fun k=>by unfold ffV;rw [if_neg k]
 have HT:Hid (∀ g w',(w'.cell? ⟨g,0,none⟩=some (.string cl)∧w'.cell? ⟨g,1,none⟩=some (.string n)∧w'.cell? ⟨g,2,none⟩=some (.string d))→Calls Tryz.prog 49 #[.slice (some ⟨g,0,none⟩) 3 3] w' fun e w2=>e = .returned (.bool (decide (20000<cl.size) || (decide (20000<n.size) || decide (20000<d.size))))∧w2=w'):=fun g w' hc=>by
  have:=implTooLong [cl,n,d] g w' rfl (by simp;exact⟨h1,h2,h3⟩) (fun i hi=>by
   match i,hi with
   | 0,_=>exact hc.1
   | 1,_=>exact hc.2.1
   | 2,_=>exact hc.2.2)
  rw [any3] at this
  exact this
 have HMk:Hid (∀ w',Below w.heap.size w w'→(rtB L=false∧Calls Tryz.prog 41 #[v] w' fun e w2=>Below w'.heap.size w' w2∧e = .returned (.tuple #[.agg #[.slice none 0 0,.map none],.agg #[.int .i64 (wOut L).1,.int .i64 (wOut L).2]])) ∨
  (rtB L=true∧Right L∧Calls Tryz.prog 41 #[v] w' fun e w2=>Below w'.heap.size w' w2∧∃ r E es ck,e = .returned (.tuple #[wdV v r,.agg #[.int .i64 (wOut L).1,.int .i64 (wOut L).2]])∧WmIs w2 r E es ck∧E.map WE.c=allC L)):=fun w' hb=>implMake2 L v w' (classR.slice.mono _ _ _ _ hb h) (ht.mono hb) (hg.mono hb)
 have HLI:=(show Hid (classR.slice.In w [v] L) from h)
 have HO:Hid ((rtB L=false→(wOut L).2 ≠ 0)∧(rtB L=true→(wOut L).2=0)):=by
  unfold rtB
  exact⟨fun k=>by simpa using k,fun k=>by simpa using k⟩
 obtain ⟨va,vcap,rfl,hvn,hvc,_⟩:=slice_open (by decide) h
 have H123:=(show Hid (cl.size≤maxLen∧n.size≤maxLen∧d.size≤maxLen) from ⟨h1,h2,h3⟩)
 unfold maxLen at h1 h2 h3 hvc
 clear h ht hg
 generalize ffV L cl n d=res at *
 by_cases k0:400<L.length
 ·have HZ:Hid (res=(tE,0,2)):=HLg.out (.inl k0)
  have c0:decide ((400:Int)<(L.length:Int))=true:=by simp;omega
  clear HLg HSh
  go_enter Tryz.func19,Tryz.ntmps19
  go_wp2
  exact bodyPost_ret (v:=.agg #[.string ⟨#[]⟩,.int .i64 0,.int .i64 2]) (by simp [results,Tryz.results19,go_sem]) rfl ⟨by rw [HZ.out];rfl,by first | exact below_al _ _ | exact (((below_al _ _).setCell (by simp) _).setCell (by simp) _).setCell (by simp) _⟩
 have c0:decide ((400:Int)<(L.length:Int))=false:=by simp;omega
 by_cases kk:20000<cl.size ∨ 20000<n.size ∨ 20000<d.size
 ·have HZ:Hid (res=(tE,0,2)):=HLg.out (.inr kk)
  have HT1:Hid (∀ g w',(w'.cell? ⟨g,0,none⟩=some (.string cl)∧w'.cell? ⟨g,1,none⟩=some (.string n)∧w'.cell? ⟨g,2,none⟩=some (.string d))→Calls Tryz.prog 49 #[.slice (some ⟨g,0,none⟩) 3 3] w' fun e w2=>e = .returned (.bool true)∧w2=w'):=fun g w' hc=>by
   have:=HT.out g w' hc
   rw [show (decide (20000<cl.size) || (decide (20000<n.size) || decide (20000<d.size)))=true by simpa using kk] at this
   exact this
  clear HLg HSh HT kk
  go_enter Tryz.func19,Tryz.ntmps19
  go_wp2_with fail
  have HBW:Hid (Below w.heap.size w ((w.alloc (.cells #[.string ⟨#[]⟩,.int .i64 0,.int .i64 0] 34)).alloc (.cells #[.string cl,.string n,.string d] 9))):=below_al2 _ _ _
  have r0:((w.alloc (.cells #[.string ⟨#[]⟩,.int .i64 0,.int .i64 0] 34)).alloc (.cells #[.string cl,.string n,.string d] 9)).cell? ⟨w.heap.size,0,none⟩=some (.string ⟨#[]⟩):=by simp [go_sem]
  have r1:((w.alloc (.cells #[.string ⟨#[]⟩,.int .i64 0,.int .i64 0] 34)).alloc (.cells #[.string cl,.string n,.string d] 9)).cell? ⟨w.heap.size,1,none⟩=some (.int .i64 0):=by simp [go_sem]
  have r2:((w.alloc (.cells #[.string ⟨#[]⟩,.int .i64 0,.int .i64 0] 34)).alloc (.cells #[.string cl,.string n,.string d] 9)).cell? ⟨w.heap.size,2,none⟩=some (.int .i64 0):=by simp [go_sem]
  have fr:∀ j,((w.alloc (.cells #[.string ⟨#[]⟩,.int .i64 0,.int .i64 0] 34)).alloc (.cells #[.string cl,.string n,.string d] 9)).frozen? ⟨w.heap.size,j,none⟩=false:=fun j=>by simp [go_sem]
  have s0:((w.alloc (.cells #[.string ⟨#[]⟩,.int .i64 0,.int .i64 0] 34)).alloc (.cells #[.string cl,.string n,.string d] 9)).cell? ⟨w.heap.size+1,0,none⟩=some (.string cl):=by simp [go_sem]
  have s1:((w.alloc (.cells #[.string ⟨#[]⟩,.int .i64 0,.int .i64 0] 34)).alloc (.cells #[.string cl,.string n,.string d] 9)).cell? ⟨w.heap.size+1,1,none⟩=some (.string n):=by simp [go_sem]
  have s2:((w.alloc (.cells #[.string ⟨#[]⟩,.int .i64 0,.int .i64 0] 34)).alloc (.cells #[.string cl,.string n,.string d] 9)).cell? ⟨w.heap.size+1,2,none⟩=some (.string d):=by simp [go_sem]
  have hz:w.heap.size<((w.alloc (.cells #[.string ⟨#[]⟩,.int .i64 0,.int .i64 0] 34)).alloc (.cells #[.string cl,.string n,.string d] 9)).heap.size:=by simp;omega
  generalize ((w.alloc (.cells #[.string ⟨#[]⟩,.int .i64 0,.int .i64 0] 34)).alloc (.cells #[.string cl,.string n,.string d] 9))=W at *
  refine Calls.mono (HT1.out _ _ ⟨s0,s1,s2⟩) ?_
  rintro e w1 ⟨rfl,hw1⟩
  subst w1
  clear s0 s1 s2
  have q:=found3 r0 r1 r2 (.string ⟨#[]⟩) (.int .i64 0) (.int .i64 2)
  go_wp2
  exact bodyPost_ret (v:=.agg #[.string ⟨#[]⟩,.int .i64 0,.int .i64 2]) (by simp [results,Tryz.results19,go_sem,q.1,q.2.1,q.2.2]) rfl ⟨by rw [HZ.out];rfl,((HBW.out.setCell (by simp) _).setCell (by simp) _).setCell (by simp) _⟩
 have HT1:Hid (∀ g w',(w'.cell? ⟨g,0,none⟩=some (.string cl)∧w'.cell? ⟨g,1,none⟩=some (.string n)∧w'.cell? ⟨g,2,none⟩=some (.string d))→Calls Tryz.prog 49 #[.slice (some ⟨g,0,none⟩) 3 3] w' fun e w2=>e = .returned (.bool false)∧w2=w'):=fun g w' hc=>by
  have:=HT.out g w' hc
  rw [show (decide (20000<cl.size) || (decide (20000<n.size) || decide (20000<d.size)))=false by simp;omega] at this
  exact this
 have HS:=(show Hid _ from HSh.out (by omega))
 clear HLg HSh HT
 go_enter Tryz.func19,Tryz.ntmps19
 go_wp2_with fail
 have HBW:Hid (Below w.heap.size w ((w.alloc (.cells #[.string ⟨#[]⟩,.int .i64 0,.int .i64 0] 34)).alloc (.cells #[.string cl,.string n,.string d] 9))):=below_al2 _ _ _
 have r0:((w.alloc (.cells #[.string ⟨#[]⟩,.int .i64 0,.int .i64 0] 34)).alloc (.cells #[.string cl,.string n,.string d] 9)).cell? ⟨w.heap.size,0,none⟩=some (.string ⟨#[]⟩):=by simp [go_sem]
 have r1:((w.alloc (.cells #[.string ⟨#[]⟩,.int .i64 0,.int .i64 0] 34)).alloc (.cells #[.string cl,.string n,.string d] 9)).cell? ⟨w.heap.size,1,none⟩=some (.int .i64 0):=by simp [go_sem]
 have r2:((w.alloc (.cells #[.string ⟨#[]⟩,.int .i64 0,.int .i64 0] 34)).alloc (.cells #[.string cl,.string n,.string d] 9)).cell? ⟨w.heap.size,2,none⟩=some (.int .i64 0):=by simp [go_sem]
 have fr:∀ j,((w.alloc (.cells #[.string ⟨#[]⟩,.int .i64 0,.int .i64 0] 34)).alloc (.cells #[.string cl,.string n,.string d] 9)).frozen? ⟨w.heap.size,j,none⟩=false:=fun j=>by simp [go_sem]
 have s0:((w.alloc (.cells #[.string ⟨#[]⟩,.int .i64 0,.int .i64 0] 34)).alloc (.cells #[.string cl,.string n,.string d] 9)).cell? ⟨w.heap.size+1,0,none⟩=some (.string cl):=by simp [go_sem]
 have s1:((w.alloc (.cells #[.string ⟨#[]⟩,.int .i64 0,.int .i64 0] 34)).alloc (.cells #[.string cl,.string n,.string d] 9)).cell? ⟨w.heap.size+1,1,none⟩=some (.string n):=by simp [go_sem]
 have s2:((w.alloc (.cells #[.string ⟨#[]⟩,.int .i64 0,.int .i64 0] 34)).alloc (.cells #[.string cl,.string n,.string d] 9)).cell? ⟨w.heap.size+1,2,none⟩=some (.string d):=by simp [go_sem]
 have hz:w.heap.size<((w.alloc (.cells #[.string ⟨#[]⟩,.int .i64 0,.int .i64 0] 34)).alloc (.cells #[.string cl,.string n,.string d] 9)).heap.size:=by simp;omega
 generalize ((w.alloc (.cells #[.string ⟨#[]⟩,.int .i64 0,.int .i64 0] 34)).alloc (.cells #[.string cl,.string n,.string d] 9))=W at *
 refine Calls.mono (HT1.out _ _ ⟨s0,s1,s2⟩) ?_
 rintro e w1 ⟨rfl,hw1⟩
 subst w1
 clear s0 s1 s2
 go_wp2_with fail
 rcases HMk.out _ HBW.out with ⟨hr,hm⟩ | ⟨hr,hR,hm⟩
 ·have HZ:Hid (res=(tE,0,0)):=by show _=_;rw [HS.out,hr];rfl
  have ho:=HO.out.1 hr
  clear HS HMk HO hr
  generalize (wOut L).1=o1 at *
  generalize (wOut L).2=o2 at *
  have d1:(o2 != 0)=true:=by simpa using ho
  have d2:(o2 == 0)=false:=by simpa using ho
  refine Calls.mono hm ?_
  rintro e w2 ⟨hb2,rfl⟩
  have HB2:Hid (Below w.heap.size w w2):=HBW.out.trans (hb2.mono HBW.out.size)
  replace r0:=carry hb2 hz r0
  replace r1:=carry hb2 hz r1
  replace r2:=carry hb2 hz r2
  replace fr:∀ j,w2.frozen? ⟨w.heap.size,j,none⟩=false:=fun j=>carryF hb2 hz (fr j)
  have hz2:w.heap.size<w2.heap.size:=Nat.lt_of_lt_of_le hz hb2.size
  clear hb2 hm ho
  go_wp2
  have q:=found3_al2 hz2 r0 r1 r2 (.string ⟨#[]⟩) (.int .i64 0) (.int .i64 0) (.cells #[.slice none 0 0,.map none] 72) (.cells #[.int .i64 o1,.int .i64 o2] 47)
  exact bodyPost_ret (v:=.agg #[.string ⟨#[]⟩,.int .i64 0,.int .i64 0]) (by simp [results,Tryz.results19,go_sem,q.1,q.2.1,q.2.2]) rfl ⟨by rw [HZ.out];rfl,((((HB2.out.setCell (by simp) _).setCell (by simp) _).setCell (by simp) _).alloc (by simp;omega) _).alloc (by simp;omega) _⟩
 ·have HZ:Hid (res=ffL L cl n d):=by show _=_;rw [HS.out,hr];rfl
  have ho:=HO.out.2 hr
  rw [ho] at hm
  clear HS HMk HO hr ho
  generalize (wOut L).1=o1 at *
  refine Calls.mono hm ?_
  rintro e w2 ⟨hb2,r,E,es,ck,rfl,hwm,hE⟩
  have HB2:Hid (Below w.heap.size w w2):=HBW.out.trans (hb2.mono HBW.out.size)
  replace r0:=carry hb2 hz r0
  replace r1:=carry hb2 hz r1
  replace r2:=carry hb2 hz r2
  replace fr:∀ j,w2.frozen? ⟨w.heap.size,j,none⟩=false:=fun j=>carryF hb2 hz (fr j)
  have hz2:w.heap.size<w2.heap.size:=Nat.lt_of_lt_of_le hz hb2.size
  have HF:Hid (∀ w',Below w2.heap.size w2 w'→Calls Tryz.prog 50 #[.agg #[.slice va L.length vcap,.map (some r)],.string cl,.string n,.string d] w' fun e w3=>e = .returned (fdV (ffL L cl n d))∧Below w'.heap.size w' w3):=fun w' hb=>by
   exact implFindFieldW L va vcap r E es ck cl n d w' (hwm.below hb) (classR.slice.mono _ _ _ _ (HB2.out.trans (hb.mono HB2.out.size)) HLI.out) hR hE H123.out.1 H123.out.2.1 H123.out.2.2
  clear hb2 hm hwm hE hR
  generalize ffL L cl n d=fd at *
  obtain ⟨f0,f1,f2⟩:=fd
  unfold fdV at HF
  simp only at HF
  unfold wdV
  have hza:∀ o1 o2,((w2.alloc o1).alloc o2).heap.size=w2.heap.size+2:=fun o1 o2=>by simp
  have ra0:∀ o1 o2,((w2.alloc o1).alloc o2).cell? ⟨w.heap.size,0,none⟩=some (.string ⟨#[]⟩):=fun o1 o2=>carry (below_al2 w2 o1 o2) hz2 r0
  have ra1:∀ o1 o2,((w2.alloc o1).alloc o2).cell? ⟨w.heap.size,1,none⟩=some (.int .i64 0):=fun o1 o2=>carry (below_al2 w2 o1 o2) hz2 r1
  have ra2:∀ o1 o2,((w2.alloc o1).alloc o2).cell? ⟨w.heap.size,2,none⟩=some (.int .i64 0):=fun o1 o2=>carry (below_al2 w2 o1 o2) hz2 r2
  have fra:∀ o1 o2 j,((w2.alloc o1).alloc o2).frozen? ⟨w.heap.size,j,none⟩=false:=fun o1 o2 j=>carryF (below_al2 w2 o1 o2) hz2 (fr j)
  go_wp2_with fail
  refine Calls.mono (HF.out _ (below_al2 _ _ _)) ?_
  rintro e w3 ⟨rfl,hb3⟩
  have HB3:Hid (Below w.heap.size w w3):=(HB2.out.trans ((below_al2 _ _ _).mono HB2.out.size)).trans (hb3.mono (by have:=HB2.out.size;simp;omega))
  replace r0:=carry hb3 (by simp;omega) (ra0 _ _)
  replace r1:=carry hb3 (by simp;omega) (ra1 _ _)
  replace r2:=carry hb3 (by simp;omega) (ra2 _ _)
  replace fr:∀ j,w3.frozen? ⟨w.heap.size,j,none⟩=false:=fun j=>carryF hb3 (by simp;omega) (fra _ _ j)
  clear hb3 ra0 ra1 ra2 fra hza
  have q:=found3 r0 r1 r2 (.string f0) (.int .i64 f1) (.int .i64 f2)
  go_wp2
  exact bodyPost_ret (v:=.agg #[.string f0,.int .i64 f1,.int .i64 f2]) (by simp [results,Tryz.results19,go_sem,q.1,q.2.1,q.2.2]) rfl ⟨by rw [HZ.out];rfl,((HB3.out.setCell (by simp) _).setCell (by simp) _).setCell (by simp) _⟩
end Go.Proofs.YtmhgaggpdggbeaaGreatDoor
