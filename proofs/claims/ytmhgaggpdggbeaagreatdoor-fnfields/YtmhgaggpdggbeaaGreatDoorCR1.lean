import Derived.Test.YtmhgaggpdggbeaaGreatDoorCR0
import Derived.Test.YtmhgaggpdggbeaaGreatDoorMR2
namespace Go.Proofs.YtmhgaggpdggbeaaGreatDoor
open Go.RowKit
set_option maxRecDepth 20000
set_option linter.unusedVariables false

set_option maxRecDepth 8000 in
set_option maxHeartbeats 8000000 in
theorem specClassRight (c:ClsD) (vc vh:Value) (w:World) (hnm:c.name.size≤maxLen) (hsu:c.super.size≤maxLen) (hc:fieldR.slice.In w [vc] c.fields) (hh:methR.slice.In w [vh] c.meths) :
  Calls Tryz.prog 64 #[clsV c vc vh] w fun e w'=>e = .returned (.bool (clsOk c))∧Below w.heap.size w w':=by
 obtain ⟨a,ca,rfl,hc1,hc2,hc3⟩:=slice_open (by decide) hc
 obtain ⟨b,cb,rfl,hh1,hh2,hh3⟩:=slice_open (by decide) hh
 obtain ⟨nm,su,fi,ab,fs,ms⟩:=c
 simp only at hnm hsu hc1 hc2 hc3 hh1 hh2 hh3
 unfold maxLen at hc2 hh2
 have HN1:Hid (∀ w,Calls Tryz.prog 93 #[.string nm] w fun e w'=>e = .returned (.bool (nameB nm))∧w'=w):=fun w=>specNameRight nm w hnm
 have HN2:Hid (∀ w,Calls Tryz.prog 93 #[.string su] w fun e w'=>e = .returned (.bool (nameB su))∧w'=w):=fun w=>specNameRight su w hsu
 have HC:=(show Hid (∀ i (h:i<fs.length),∃ b o,a=some ⟨b,o,none⟩∧fieldR.At w ⟨b,o,none⟩ i fs[i]) from hc3)
 have HH:=(show Hid (∀ i (h:i<ms.length),∃ b_1 o,b=some ⟨b_1,o,none⟩∧methR.At w ⟨b_1,o,none⟩ i ms[i]) from hh3)
 have HNo:Hid (¬ ClsP ⟨nm,su,fi,ab,fs,ms⟩→false=clsOk ⟨nm,su,fi,ab,fs,ms⟩):=fun h=>clsOk_no h
 have HYes:Hid (ClsP ⟨nm,su,fi,ab,fs,ms⟩→true=clsOk ⟨nm,su,fi,ab,fs,ms⟩):=fun h=>clsOk_yes h
 clear hc hh hc3 hh3 hnm hsu
 unfold clsV
 simp only
 generalize hres:clsOk ⟨nm,su,fi,ab,fs,ms⟩=res at *
 clear hres
 cases hb1:nameB nm
 ·have HZ:Hid (false=res):=HNo.out (fun h=>by have:=h.n;simp only at this;rw [hb1] at this;cases this)
  rw [hb1] at HN1
  go_enter Tryz.func64,Tryz.ntmps64
  go_wp2_with fail
  have x0:(w.alloc (.cells #[.string nm,.string su,.bool fi,.bool ab,.slice a fs.length ca,.slice b ms.length cb] 51)).cell? ⟨w.heap.size,0,none⟩=some (.string nm):=by simp [go_sem]
  have x1:(w.alloc (.cells #[.string nm,.string su,.bool fi,.bool ab,.slice a fs.length ca,.slice b ms.length cb] 51)).cell? ⟨w.heap.size,1,none⟩=some (.string su):=by simp [go_sem]
  have x2:(w.alloc (.cells #[.string nm,.string su,.bool fi,.bool ab,.slice a fs.length ca,.slice b ms.length cb] 51)).cell? ⟨w.heap.size,2,none⟩=some (.bool fi):=by simp [go_sem]
  have x3:(w.alloc (.cells #[.string nm,.string su,.bool fi,.bool ab,.slice a fs.length ca,.slice b ms.length cb] 51)).cell? ⟨w.heap.size,3,none⟩=some (.bool ab):=by simp [go_sem]
  have x4:(w.alloc (.cells #[.string nm,.string su,.bool fi,.bool ab,.slice a fs.length ca,.slice b ms.length cb] 51)).cell? ⟨w.heap.size,4,none⟩=some (.slice a fs.length ca):=by simp [go_sem]
  have x5:(w.alloc (.cells #[.string nm,.string su,.bool fi,.bool ab,.slice a fs.length ca,.slice b ms.length cb] 51)).cell? ⟨w.heap.size,5,none⟩=some (.slice b ms.length cb):=by simp [go_sem]
  have hz:w.heap.size<(w.alloc (.cells #[.string nm,.string su,.bool fi,.bool ab,.slice a fs.length ca,.slice b ms.length cb] 51)).heap.size:=by simp
  have HB:Hid (Below w.heap.size w (w.alloc (.cells #[.string nm,.string su,.bool fi,.bool ab,.slice a fs.length ca,.slice b ms.length cb] 51))):=(Below.refl _ _).alloc (Nat.le_refl _) _
  generalize w.alloc (.cells #[.string nm,.string su,.bool fi,.bool ab,.slice a fs.length ca,.slice b ms.length cb] 51)=W at *
  refine Calls.mono (HN1.out _) ?_
  rintro e w2 ⟨rfl,hw2⟩
  subst w2
  go_wp2
  go_ret
  exact⟨rB HZ.out,HB.out⟩
 rw [hb1] at HN1
 cases hb2:nameB su
 ·have HZ:Hid (false=res):=HNo.out (fun h=>by have:=h.s;simp only at this;rw [hb2] at this;cases this)
  rw [hb2] at HN2
  go_enter Tryz.func64,Tryz.ntmps64
  go_wp2_with fail
  have x0:(w.alloc (.cells #[.string nm,.string su,.bool fi,.bool ab,.slice a fs.length ca,.slice b ms.length cb] 51)).cell? ⟨w.heap.size,0,none⟩=some (.string nm):=by simp [go_sem]
  have x1:(w.alloc (.cells #[.string nm,.string su,.bool fi,.bool ab,.slice a fs.length ca,.slice b ms.length cb] 51)).cell? ⟨w.heap.size,1,none⟩=some (.string su):=by simp [go_sem]
  have x2:(w.alloc (.cells #[.string nm,.string su,.bool fi,.bool ab,.slice a fs.length ca,.slice b ms.length cb] 51)).cell? ⟨w.heap.size,2,none⟩=some (.bool fi):=by simp [go_sem]
  have x3:(w.alloc (.cells #[.string nm,.string su,.bool fi,.bool ab,.slice a fs.length ca,.slice b ms.length cb] 51)).cell? ⟨w.heap.size,3,none⟩=some (.bool ab):=by simp [go_sem]
  have x4:(w.alloc (.cells #[.string nm,.string su,.bool fi,.bool ab,.slice a fs.length ca,.slice b ms.length cb] 51)).cell? ⟨w.heap.size,4,none⟩=some (.slice a fs.length ca):=by simp [go_sem]
  have x5:(w.alloc (.cells #[.string nm,.string su,.bool fi,.bool ab,.slice a fs.length ca,.slice b ms.length cb] 51)).cell? ⟨w.heap.size,5,none⟩=some (.slice b ms.length cb):=by simp [go_sem]
  have hz:w.heap.size<(w.alloc (.cells #[.string nm,.string su,.bool fi,.bool ab,.slice a fs.length ca,.slice b ms.length cb] 51)).heap.size:=by simp
  have HB:Hid (Below w.heap.size w (w.alloc (.cells #[.string nm,.string su,.bool fi,.bool ab,.slice a fs.length ca,.slice b ms.length cb] 51))):=(Below.refl _ _).alloc (Nat.le_refl _) _
  generalize w.alloc (.cells #[.string nm,.string su,.bool fi,.bool ab,.slice a fs.length ca,.slice b ms.length cb] 51)=W at *
  refine Calls.mono (HN1.out _) ?_
  rintro e w2 ⟨rfl,hw2⟩
  subst w2
  go_wp2_with fail
  refine Calls.mono (HN2.out _) ?_
  rintro e w2 ⟨rfl,hw2⟩
  subst w2
  go_wp2
  go_ret
  exact⟨rB HZ.out,HB.out⟩
 rw [hb2] at HN2
 by_cases hne:nm=su
 ·have HZ:Hid (false=res):=HNo.out (fun h=>h.ne hne)
  have ee:=text_eq hne
  clear hne
  go_enter Tryz.func64,Tryz.ntmps64
  go_wp2_with fail
  have x0:(w.alloc (.cells #[.string nm,.string su,.bool fi,.bool ab,.slice a fs.length ca,.slice b ms.length cb] 51)).cell? ⟨w.heap.size,0,none⟩=some (.string nm):=by simp [go_sem]
  have x1:(w.alloc (.cells #[.string nm,.string su,.bool fi,.bool ab,.slice a fs.length ca,.slice b ms.length cb] 51)).cell? ⟨w.heap.size,1,none⟩=some (.string su):=by simp [go_sem]
  have x2:(w.alloc (.cells #[.string nm,.string su,.bool fi,.bool ab,.slice a fs.length ca,.slice b ms.length cb] 51)).cell? ⟨w.heap.size,2,none⟩=some (.bool fi):=by simp [go_sem]
  have x3:(w.alloc (.cells #[.string nm,.string su,.bool fi,.bool ab,.slice a fs.length ca,.slice b ms.length cb] 51)).cell? ⟨w.heap.size,3,none⟩=some (.bool ab):=by simp [go_sem]
  have x4:(w.alloc (.cells #[.string nm,.string su,.bool fi,.bool ab,.slice a fs.length ca,.slice b ms.length cb] 51)).cell? ⟨w.heap.size,4,none⟩=some (.slice a fs.length ca):=by simp [go_sem]
  have x5:(w.alloc (.cells #[.string nm,.string su,.bool fi,.bool ab,.slice a fs.length ca,.slice b ms.length cb] 51)).cell? ⟨w.heap.size,5,none⟩=some (.slice b ms.length cb):=by simp [go_sem]
  have hz:w.heap.size<(w.alloc (.cells #[.string nm,.string su,.bool fi,.bool ab,.slice a fs.length ca,.slice b ms.length cb] 51)).heap.size:=by simp
  have HB:Hid (Below w.heap.size w (w.alloc (.cells #[.string nm,.string su,.bool fi,.bool ab,.slice a fs.length ca,.slice b ms.length cb] 51))):=(Below.refl _ _).alloc (Nat.le_refl _) _
  generalize w.alloc (.cells #[.string nm,.string su,.bool fi,.bool ab,.slice a fs.length ca,.slice b ms.length cb] 51)=W at *
  refine Calls.mono (HN1.out _) ?_
  rintro e w2 ⟨rfl,hw2⟩
  subst w2
  go_wp2_with fail
  refine Calls.mono (HN2.out _) ?_
  rintro e w2 ⟨rfl,hw2⟩
  subst w2
  go_wp2
  go_ret
  exact⟨rB HZ.out,HB.out⟩
 have ee:=text_ne hne
 by_cases hfl:fs.length≤8
 case neg =>
  have HZ:Hid (false=res):=HNo.out (fun h=>hfl h.fl)
  have fg:decide ((8:Int)<fs.length)=true:=by rw [decide_eq_true_eq];omega
  cases fi
  ·go_enter Tryz.func64,Tryz.ntmps64
   go_wp2_with fail
   have x0:(w.alloc (.cells #[.string nm,.string su,.bool false,.bool ab,.slice a fs.length ca,.slice b ms.length cb] 51)).cell? ⟨w.heap.size,0,none⟩=some (.string nm):=by simp [go_sem]
   have x1:(w.alloc (.cells #[.string nm,.string su,.bool false,.bool ab,.slice a fs.length ca,.slice b ms.length cb] 51)).cell? ⟨w.heap.size,1,none⟩=some (.string su):=by simp [go_sem]
   have x2:(w.alloc (.cells #[.string nm,.string su,.bool false,.bool ab,.slice a fs.length ca,.slice b ms.length cb] 51)).cell? ⟨w.heap.size,2,none⟩=some (.bool false):=by simp [go_sem]
   have x3:(w.alloc (.cells #[.string nm,.string su,.bool false,.bool ab,.slice a fs.length ca,.slice b ms.length cb] 51)).cell? ⟨w.heap.size,3,none⟩=some (.bool ab):=by simp [go_sem]
   have x4:(w.alloc (.cells #[.string nm,.string su,.bool false,.bool ab,.slice a fs.length ca,.slice b ms.length cb] 51)).cell? ⟨w.heap.size,4,none⟩=some (.slice a fs.length ca):=by simp [go_sem]
   have x5:(w.alloc (.cells #[.string nm,.string su,.bool false,.bool ab,.slice a fs.length ca,.slice b ms.length cb] 51)).cell? ⟨w.heap.size,5,none⟩=some (.slice b ms.length cb):=by simp [go_sem]
   have hz:w.heap.size<(w.alloc (.cells #[.string nm,.string su,.bool false,.bool ab,.slice a fs.length ca,.slice b ms.length cb] 51)).heap.size:=by simp
   have HB:Hid (Below w.heap.size w (w.alloc (.cells #[.string nm,.string su,.bool false,.bool ab,.slice a fs.length ca,.slice b ms.length cb] 51))):=(Below.refl _ _).alloc (Nat.le_refl _) _
   generalize w.alloc (.cells #[.string nm,.string su,.bool false,.bool ab,.slice a fs.length ca,.slice b ms.length cb] 51)=W at *
   refine Calls.mono (HN1.out _) ?_
   rintro e w2 ⟨rfl,hw2⟩
   subst w2
   go_wp2_with fail
   refine Calls.mono (HN2.out _) ?_
   rintro e w2 ⟨rfl,hw2⟩
   subst w2
   go_wp2
   go_ret
   exact⟨rB HZ.out,HB.out⟩
  ·cases ab
   ·go_enter Tryz.func64,Tryz.ntmps64
    go_wp2_with fail
    have x0:(w.alloc (.cells #[.string nm,.string su,.bool true,.bool false,.slice a fs.length ca,.slice b ms.length cb] 51)).cell? ⟨w.heap.size,0,none⟩=some (.string nm):=by simp [go_sem]
    have x1:(w.alloc (.cells #[.string nm,.string su,.bool true,.bool false,.slice a fs.length ca,.slice b ms.length cb] 51)).cell? ⟨w.heap.size,1,none⟩=some (.string su):=by simp [go_sem]
    have x2:(w.alloc (.cells #[.string nm,.string su,.bool true,.bool false,.slice a fs.length ca,.slice b ms.length cb] 51)).cell? ⟨w.heap.size,2,none⟩=some (.bool true):=by simp [go_sem]
    have x3:(w.alloc (.cells #[.string nm,.string su,.bool true,.bool false,.slice a fs.length ca,.slice b ms.length cb] 51)).cell? ⟨w.heap.size,3,none⟩=some (.bool false):=by simp [go_sem]
    have x4:(w.alloc (.cells #[.string nm,.string su,.bool true,.bool false,.slice a fs.length ca,.slice b ms.length cb] 51)).cell? ⟨w.heap.size,4,none⟩=some (.slice a fs.length ca):=by simp [go_sem]
    have x5:(w.alloc (.cells #[.string nm,.string su,.bool true,.bool false,.slice a fs.length ca,.slice b ms.length cb] 51)).cell? ⟨w.heap.size,5,none⟩=some (.slice b ms.length cb):=by simp [go_sem]
    have hz:w.heap.size<(w.alloc (.cells #[.string nm,.string su,.bool true,.bool false,.slice a fs.length ca,.slice b ms.length cb] 51)).heap.size:=by simp
    have HB:Hid (Below w.heap.size w (w.alloc (.cells #[.string nm,.string su,.bool true,.bool false,.slice a fs.length ca,.slice b ms.length cb] 51))):=(Below.refl _ _).alloc (Nat.le_refl _) _
    generalize w.alloc (.cells #[.string nm,.string su,.bool true,.bool false,.slice a fs.length ca,.slice b ms.length cb] 51)=W at *
    refine Calls.mono (HN1.out _) ?_
    rintro e w2 ⟨rfl,hw2⟩
    subst w2
    go_wp2_with fail
    refine Calls.mono (HN2.out _) ?_
    rintro e w2 ⟨rfl,hw2⟩
    subst w2
    go_wp2
    go_ret
    exact⟨rB HZ.out,HB.out⟩
   ·go_enter Tryz.func64,Tryz.ntmps64
    go_wp2_with fail
    have x0:(w.alloc (.cells #[.string nm,.string su,.bool true,.bool true,.slice a fs.length ca,.slice b ms.length cb] 51)).cell? ⟨w.heap.size,0,none⟩=some (.string nm):=by simp [go_sem]
    have x1:(w.alloc (.cells #[.string nm,.string su,.bool true,.bool true,.slice a fs.length ca,.slice b ms.length cb] 51)).cell? ⟨w.heap.size,1,none⟩=some (.string su):=by simp [go_sem]
    have x2:(w.alloc (.cells #[.string nm,.string su,.bool true,.bool true,.slice a fs.length ca,.slice b ms.length cb] 51)).cell? ⟨w.heap.size,2,none⟩=some (.bool true):=by simp [go_sem]
    have x3:(w.alloc (.cells #[.string nm,.string su,.bool true,.bool true,.slice a fs.length ca,.slice b ms.length cb] 51)).cell? ⟨w.heap.size,3,none⟩=some (.bool true):=by simp [go_sem]
    have x4:(w.alloc (.cells #[.string nm,.string su,.bool true,.bool true,.slice a fs.length ca,.slice b ms.length cb] 51)).cell? ⟨w.heap.size,4,none⟩=some (.slice a fs.length ca):=by simp [go_sem]
    have x5:(w.alloc (.cells #[.string nm,.string su,.bool true,.bool true,.slice a fs.length ca,.slice b ms.length cb] 51)).cell? ⟨w.heap.size,5,none⟩=some (.slice b ms.length cb):=by simp [go_sem]
    have hz:w.heap.size<(w.alloc (.cells #[.string nm,.string su,.bool true,.bool true,.slice a fs.length ca,.slice b ms.length cb] 51)).heap.size:=by simp
    have HB:Hid (Below w.heap.size w (w.alloc (.cells #[.string nm,.string su,.bool true,.bool true,.slice a fs.length ca,.slice b ms.length cb] 51))):=(Below.refl _ _).alloc (Nat.le_refl _) _
    generalize w.alloc (.cells #[.string nm,.string su,.bool true,.bool true,.slice a fs.length ca,.slice b ms.length cb] 51)=W at *
    refine Calls.mono (HN1.out _) ?_
    rintro e w2 ⟨rfl,hw2⟩
    subst w2
    go_wp2_with fail
    refine Calls.mono (HN2.out _) ?_
    rintro e w2 ⟨rfl,hw2⟩
    subst w2
    go_wp2
    go_ret
    exact⟨rB HZ.out,HB.out⟩
 have fg:decide ((8:Int)<fs.length)=false:=by rw [decide_eq_false_iff_not];omega
 by_cases hml:ms.length≤10
 case neg =>
  have HZ:Hid (false=res):=HNo.out (fun h=>hml h.ml)
  have mg:decide ((10:Int)<ms.length)=true:=by rw [decide_eq_true_eq];omega
  cases fi
  ·go_enter Tryz.func64,Tryz.ntmps64
   go_wp2_with fail
   have x0:(w.alloc (.cells #[.string nm,.string su,.bool false,.bool ab,.slice a fs.length ca,.slice b ms.length cb] 51)).cell? ⟨w.heap.size,0,none⟩=some (.string nm):=by simp [go_sem]
   have x1:(w.alloc (.cells #[.string nm,.string su,.bool false,.bool ab,.slice a fs.length ca,.slice b ms.length cb] 51)).cell? ⟨w.heap.size,1,none⟩=some (.string su):=by simp [go_sem]
   have x2:(w.alloc (.cells #[.string nm,.string su,.bool false,.bool ab,.slice a fs.length ca,.slice b ms.length cb] 51)).cell? ⟨w.heap.size,2,none⟩=some (.bool false):=by simp [go_sem]
   have x3:(w.alloc (.cells #[.string nm,.string su,.bool false,.bool ab,.slice a fs.length ca,.slice b ms.length cb] 51)).cell? ⟨w.heap.size,3,none⟩=some (.bool ab):=by simp [go_sem]
   have x4:(w.alloc (.cells #[.string nm,.string su,.bool false,.bool ab,.slice a fs.length ca,.slice b ms.length cb] 51)).cell? ⟨w.heap.size,4,none⟩=some (.slice a fs.length ca):=by simp [go_sem]
   have x5:(w.alloc (.cells #[.string nm,.string su,.bool false,.bool ab,.slice a fs.length ca,.slice b ms.length cb] 51)).cell? ⟨w.heap.size,5,none⟩=some (.slice b ms.length cb):=by simp [go_sem]
   have hz:w.heap.size<(w.alloc (.cells #[.string nm,.string su,.bool false,.bool ab,.slice a fs.length ca,.slice b ms.length cb] 51)).heap.size:=by simp
   have HB:Hid (Below w.heap.size w (w.alloc (.cells #[.string nm,.string su,.bool false,.bool ab,.slice a fs.length ca,.slice b ms.length cb] 51))):=(Below.refl _ _).alloc (Nat.le_refl _) _
   generalize w.alloc (.cells #[.string nm,.string su,.bool false,.bool ab,.slice a fs.length ca,.slice b ms.length cb] 51)=W at *
   refine Calls.mono (HN1.out _) ?_
   rintro e w2 ⟨rfl,hw2⟩
   subst w2
   go_wp2_with fail
   refine Calls.mono (HN2.out _) ?_
   rintro e w2 ⟨rfl,hw2⟩
   subst w2
   go_wp2
   go_ret
   exact⟨rB HZ.out,HB.out⟩
  ·cases ab
   ·go_enter Tryz.func64,Tryz.ntmps64
    go_wp2_with fail
    have x0:(w.alloc (.cells #[.string nm,.string su,.bool true,.bool false,.slice a fs.length ca,.slice b ms.length cb] 51)).cell? ⟨w.heap.size,0,none⟩=some (.string nm):=by simp [go_sem]
    have x1:(w.alloc (.cells #[.string nm,.string su,.bool true,.bool false,.slice a fs.length ca,.slice b ms.length cb] 51)).cell? ⟨w.heap.size,1,none⟩=some (.string su):=by simp [go_sem]
    have x2:(w.alloc (.cells #[.string nm,.string su,.bool true,.bool false,.slice a fs.length ca,.slice b ms.length cb] 51)).cell? ⟨w.heap.size,2,none⟩=some (.bool true):=by simp [go_sem]
    have x3:(w.alloc (.cells #[.string nm,.string su,.bool true,.bool false,.slice a fs.length ca,.slice b ms.length cb] 51)).cell? ⟨w.heap.size,3,none⟩=some (.bool false):=by simp [go_sem]
    have x4:(w.alloc (.cells #[.string nm,.string su,.bool true,.bool false,.slice a fs.length ca,.slice b ms.length cb] 51)).cell? ⟨w.heap.size,4,none⟩=some (.slice a fs.length ca):=by simp [go_sem]
    have x5:(w.alloc (.cells #[.string nm,.string su,.bool true,.bool false,.slice a fs.length ca,.slice b ms.length cb] 51)).cell? ⟨w.heap.size,5,none⟩=some (.slice b ms.length cb):=by simp [go_sem]
    have hz:w.heap.size<(w.alloc (.cells #[.string nm,.string su,.bool true,.bool false,.slice a fs.length ca,.slice b ms.length cb] 51)).heap.size:=by simp
    have HB:Hid (Below w.heap.size w (w.alloc (.cells #[.string nm,.string su,.bool true,.bool false,.slice a fs.length ca,.slice b ms.length cb] 51))):=(Below.refl _ _).alloc (Nat.le_refl _) _
    generalize w.alloc (.cells #[.string nm,.string su,.bool true,.bool false,.slice a fs.length ca,.slice b ms.length cb] 51)=W at *
    refine Calls.mono (HN1.out _) ?_
    rintro e w2 ⟨rfl,hw2⟩
    subst w2
    go_wp2_with fail
    refine Calls.mono (HN2.out _) ?_
    rintro e w2 ⟨rfl,hw2⟩
    subst w2
    go_wp2
    go_ret
    exact⟨rB HZ.out,HB.out⟩
   ·go_enter Tryz.func64,Tryz.ntmps64
    go_wp2_with fail
    have x0:(w.alloc (.cells #[.string nm,.string su,.bool true,.bool true,.slice a fs.length ca,.slice b ms.length cb] 51)).cell? ⟨w.heap.size,0,none⟩=some (.string nm):=by simp [go_sem]
    have x1:(w.alloc (.cells #[.string nm,.string su,.bool true,.bool true,.slice a fs.length ca,.slice b ms.length cb] 51)).cell? ⟨w.heap.size,1,none⟩=some (.string su):=by simp [go_sem]
    have x2:(w.alloc (.cells #[.string nm,.string su,.bool true,.bool true,.slice a fs.length ca,.slice b ms.length cb] 51)).cell? ⟨w.heap.size,2,none⟩=some (.bool true):=by simp [go_sem]
    have x3:(w.alloc (.cells #[.string nm,.string su,.bool true,.bool true,.slice a fs.length ca,.slice b ms.length cb] 51)).cell? ⟨w.heap.size,3,none⟩=some (.bool true):=by simp [go_sem]
    have x4:(w.alloc (.cells #[.string nm,.string su,.bool true,.bool true,.slice a fs.length ca,.slice b ms.length cb] 51)).cell? ⟨w.heap.size,4,none⟩=some (.slice a fs.length ca):=by simp [go_sem]
    have x5:(w.alloc (.cells #[.string nm,.string su,.bool true,.bool true,.slice a fs.length ca,.slice b ms.length cb] 51)).cell? ⟨w.heap.size,5,none⟩=some (.slice b ms.length cb):=by simp [go_sem]
    have hz:w.heap.size<(w.alloc (.cells #[.string nm,.string su,.bool true,.bool true,.slice a fs.length ca,.slice b ms.length cb] 51)).heap.size:=by simp
    have HB:Hid (Below w.heap.size w (w.alloc (.cells #[.string nm,.string su,.bool true,.bool true,.slice a fs.length ca,.slice b ms.length cb] 51))):=(Below.refl _ _).alloc (Nat.le_refl _) _
    generalize w.alloc (.cells #[.string nm,.string su,.bool true,.bool true,.slice a fs.length ca,.slice b ms.length cb] 51)=W at *
    refine Calls.mono (HN1.out _) ?_
    rintro e w2 ⟨rfl,hw2⟩
    subst w2
    go_wp2_with fail
    refine Calls.mono (HN2.out _) ?_
    rintro e w2 ⟨rfl,hw2⟩
    subst w2
    go_wp2
    go_ret
    exact⟨rB HZ.out,HB.out⟩
 have mg:decide ((10:Int)<ms.length)=false:=by rw [decide_eq_false_iff_not];omega
 have HMk:Hid (¬ (fi=true∧ab=true)→(∀ i (h:i<fs.length),fGood fs[i]=true)→(∀ i j (hi:i<fs.length) (hj:j<fs.length),i<j→fs[i].1 ≠ fs[j].1)→(∀ i (h:i<ms.length),mOk (mD ms[i])=true∧((mD ms[i]).abs=true→ab=true))→(∀ i j (hi:i<ms.length) (hj:j<ms.length),i<j→¬ ((mD ms[i]).name=(mD ms[j]).name∧(mD ms[i]).desc=(mD ms[j]).desc))→true=res):=fun h1 h2 h3 h4 h5=>HYes.out ⟨hb1,hb2,hne,h1,hfl,hml,h2,h3,h4,h5⟩
 have HNg:Hid (∀ i (h:i<fs.length),fGood fs[i]=false→false=res):=fun i h e=>HNo.out (fun p=>by have:=p.fg i h;simp only at this;rw [e] at this;cases this)
 have HNd:Hid (∀ i j (hi:i<fs.length) (hj:j<fs.length),i<j→fs[i].1=fs[j].1→false=res):=fun i j hi hj hij e=>HNo.out (fun p=>p.fd i j hi hj hij e)
 have HNm:Hid (∀ i (h:i<ms.length),mOk (mD ms[i])=false→false=res):=fun i h e=>HNo.out (fun p=>by have:=(p.mg i h).1;simp only at this;rw [e] at this;cases this)
 have HNa:Hid (∀ i (h:i<ms.length),(mD ms[i]).abs=true→ab=false→false=res):=fun i h e e2=>HNo.out (fun p=>by have:=(p.mg i h).2 e;simp only at this;rw [e2] at this;cases this)
 have HNe:Hid (∀ i j (hi:i<ms.length) (hj:j<ms.length),i<j→(mD ms[i]).name=(mD ms[j]).name→(mD ms[i]).desc=(mD ms[j]).desc→false=res):=fun i j hi hj hij e e2=>HNo.out (fun p=>p.md i j hi hj hij ⟨e,e2⟩)
 have HNf:Hid (fi=true→ab=true→false=res):=fun h1 h2=>HNo.out (fun p=>p.fa ⟨h1,h2⟩)
 clear HNo HYes hb1 hb2 hne hfl hml
 cases fi
 ·cases ab
  ·go_enter Tryz.func64,Tryz.ntmps64
   go_wp2_with fail
   have x0:(w.alloc (.cells #[.string nm,.string su,.bool false,.bool false,.slice a fs.length ca,.slice b ms.length cb] 51)).cell? ⟨w.heap.size,0,none⟩=some (.string nm):=by simp [go_sem]
   have x1:(w.alloc (.cells #[.string nm,.string su,.bool false,.bool false,.slice a fs.length ca,.slice b ms.length cb] 51)).cell? ⟨w.heap.size,1,none⟩=some (.string su):=by simp [go_sem]
   have x2:(w.alloc (.cells #[.string nm,.string su,.bool false,.bool false,.slice a fs.length ca,.slice b ms.length cb] 51)).cell? ⟨w.heap.size,2,none⟩=some (.bool false):=by simp [go_sem]
   have x3:(w.alloc (.cells #[.string nm,.string su,.bool false,.bool false,.slice a fs.length ca,.slice b ms.length cb] 51)).cell? ⟨w.heap.size,3,none⟩=some (.bool false):=by simp [go_sem]
   have x4:(w.alloc (.cells #[.string nm,.string su,.bool false,.bool false,.slice a fs.length ca,.slice b ms.length cb] 51)).cell? ⟨w.heap.size,4,none⟩=some (.slice a fs.length ca):=by simp [go_sem]
   have x5:(w.alloc (.cells #[.string nm,.string su,.bool false,.bool false,.slice a fs.length ca,.slice b ms.length cb] 51)).cell? ⟨w.heap.size,5,none⟩=some (.slice b ms.length cb):=by simp [go_sem]
   have hz:w.heap.size<(w.alloc (.cells #[.string nm,.string su,.bool false,.bool false,.slice a fs.length ca,.slice b ms.length cb] 51)).heap.size:=by simp
   have HB:Hid (Below w.heap.size w (w.alloc (.cells #[.string nm,.string su,.bool false,.bool false,.slice a fs.length ca,.slice b ms.length cb] 51))):=(Below.refl _ _).alloc (Nat.le_refl _) _
   generalize w.alloc (.cells #[.string nm,.string su,.bool false,.bool false,.slice a fs.length ca,.slice b ms.length cb] 51)=W at *
   refine Calls.mono (HN1.out _) ?_
   rintro e w2 ⟨rfl,hw2⟩
   subst w2
   go_wp2_with fail
   refine Calls.mono (HN2.out _) ?_
   rintro e w2 ⟨rfl,hw2⟩
   subst w2
   go_wp2_with fail
   go_loopw [3] (fun j3 wr=>∃ i:Nat,i≤fs.length∧j3 = .int .i64 (i:Int)∧Below W.heap.size W wr∧∀ k (hk:k<fs.length),k<i→fGood fs[k]=true∧∀ j (hj:j<fs.length),j<k→fs[j].1 ≠ fs[k].1) (fun j3 _=>fs.length - (intOf j3).toNat)
   case atStart=>exact⟨0,Nat.zero_le _,rfl,Below.refl _ _,fun k hk hk0=>by omega⟩
   case round =>
    obtain ⟨i,hi2,rfl,hb,hgood⟩:=hrel
    replace x0:=carry hb (show w.heap.size<W.heap.size by omega) x0
    replace x1:=carry hb (show w.heap.size<W.heap.size by omega) x1
    replace x2:=carry hb (show w.heap.size<W.heap.size by omega) x2
    replace x3:=carry hb (show w.heap.size<W.heap.size by omega) x3
    replace x4:=carry hb (show w.heap.size<W.heap.size by omega) x4
    replace x5:=carry hb (show w.heap.size<W.heap.size by omega) x5
    have hwr:W.heap.size≤wr.heap.size:=hb.size
    have HBr:Hid (Below w.heap.size w wr):=HB.out.trans (hb.mono HB.out.size)
    have HBW:Hid (Below W.heap.size W wr):=hb
    have HGd:=(show Hid (∀ k (hk:k<fs.length),k<i→fGood fs[k]=true∧∀ j (hj:j<fs.length),j<k→fs[j].1 ≠ fs[k].1) from hgood)
    clear hb hgood
    by_cases hlt:i<fs.length
    ·obtain ⟨bb,o,rfl,hx⟩:=HC.out i hlt
     obtain ⟨g0,g1,g2,s0,s1⟩:=fieldAt (hx.mono HBr.out)
     have HE:Hid (fGood fs[i]=false→false=res):=fun e=>HNg.out i hlt e
     have HD:Hid (∀ j (hj:j<fs.length),j<i→fs[j].1=fs[i].1→false=res):=fun j hj hji e=>HNd.out j i hj hlt hji e
     have HE2:Hid (fGood fs[i]=true→(∀ j (hj:j<fs.length),j<i→fs[j].1 ≠ fs[i].1)→∀ k (hk:k<fs.length),k<i+1→fGood fs[k]=true∧∀ j (hj:j<fs.length),j<k→fs[j].1 ≠ fs[k].1):=fun hf hdd k hk hk1=>by
      by_cases e:k=i
      ·subst e;exact⟨hf,hdd⟩
      ·exact HGd.out k hk (by omega)
     clear hx HGd
     unfold fGood at HE
     have HF:Hid (fGood fs[i]=(nameB fs[i].1 && tyB fs[i].2.1)):=rfl
     have HNn:Hid (∀ w,Calls Tryz.prog 93 #[.string fs[i].1] w fun e w'=>e = .returned (.bool (nameB fs[i].1))∧w'=w):=fun w=>specNameRight fs[i].1 w s0
     have HTt:Hid (∀ w,Calls Tryz.prog 94 #[.string fs[i].2.1] w fun e w'=>e = .returned (.bool (tyB fs[i].2.1))∧w'=w):=fun w=>specTypeRight fs[i].2.1 w s1
     have hbl:bb<wr.heap.size:=World.block_lt_of_cell? _ _ g0
     clear s0 s1
     generalize hfi:fs[i]=d at *
     obtain ⟨fn,ft,fst⟩:=d
     simp only at g0 g1 g2 HE HD HE2 HF HNn HTt
     generalize nameB fn=q1 at *
     generalize tyB ft=q2 at *
     go_wp2_with fail
     refine Calls.mono (HNn.out _) ?_
     rintro e w3 ⟨rfl,hw3⟩
     subst w3
     cases q1
     ·go_wp2
      go_ret
      exact⟨rB (HE.out rfl),HBr.out⟩
     ·go_wp2_with fail
      refine Calls.mono (HTt.out _) ?_
      rintro e w3 ⟨rfl,hw3⟩
      subst w3
      cases q2
      ·go_wp2
       go_ret
       exact⟨rB (HE.out rfl),HBr.out⟩
      ·obtain ⟨wo,hwo⟩:∃ x:World,x=wr:=⟨_,rfl⟩
       subst wr
       go_wp2_with fail
       go_loopw [4] (fun j4 wq=>∃ k:Nat,k≤i∧j4 = .int .i64 (k:Int)∧Below wo.heap.size wo wq∧∀ j (hj:j<fs.length),j<k→fs[j].1 ≠ fn) (fun j4 _=>i - (intOf j4).toNat)
       case atStart=>exact⟨0,Nat.zero_le _,rfl,Below.refl _ _,fun j hj hj0=>by omega⟩
       case round =>
        obtain ⟨k,hk2,rfl,hb,hd⟩:=hrel
        replace x0:=carry hb (show w.heap.size<wo.heap.size by omega) x0
        replace x1:=carry hb (show w.heap.size<wo.heap.size by omega) x1
        replace x2:=carry hb (show w.heap.size<wo.heap.size by omega) x2
        replace x3:=carry hb (show w.heap.size<wo.heap.size by omega) x3
        replace x4:=carry hb (show w.heap.size<wo.heap.size by omega) x4
        replace x5:=carry hb (show w.heap.size<wo.heap.size by omega) x5
        replace g0:=carry hb hbl g0
        have hwq:wo.heap.size≤wr.heap.size:=hb.size
        have HBq:Hid (Below w.heap.size w wr):=HBr.out.trans (hb.mono HBr.out.size)
        have HBw2:Hid (Below W.heap.size W wr):=HBW.out.trans (hb.mono HBW.out.size)
        have HBo:Hid (Below wo.heap.size wo wr):=hb
        have HDd:=(show Hid (∀ j (hj:j<fs.length),j<k→fs[j].1 ≠ fn) from hd)
        clear hb hd
        by_cases hki:k<i
        ·have hkl:k<fs.length:=by omega
         obtain ⟨bb2,o2,eb,hx2⟩:=HC.out k hkl
         cases eb
         obtain ⟨k0,_,_,_,_⟩:=fieldAt (hx2.mono HBq.out)
         clear hx2
         by_cases heq:fs[k].1=fn
         ·have HZ:Hid (false=res):=HD.out k hkl hki heq
          have ek:=text_eq heq
          generalize fs[k].1=fk at *
          clear heq
          go_wp2_with fail
          go_quiet (fail)
          go_wp2
          go_ret
          exact⟨rB HZ.out,below_drewN HBq.out _⟩
         ·have ek:=text_ne heq
          have HDn:Hid (∀ j (hj:j<fs.length),j<k+1→fs[j].1 ≠ fn):=fun j hj hj1=>by
           by_cases e:j=k
           ·subst e;exact heq
           ·exact HDd.out j hj (by omega)
          generalize fs[k].1=fk at *
          clear heq HDd
          go_wp2_with fail
          go_quiet (fail)
          go_wp2
          go_roundw
          case rel=>exact⟨k+1,by omega,by go_num,below_drewN HBo.out _,HDn.out⟩
          case measure=>simp [intOf];omega
        ·obtain rfl:k=i:=by omega
         have HNx:=(show Hid _ from HE2.out HF.out HDd.out)
         clear HDd HE2
         go_wp2
         go_roundw
         case rel=>exact⟨k+1,by omega,by go_num,HBw2.out,HNx.out⟩
         case measure=>simp [intOf];omega
    ·obtain rfl:i=fs.length:=by omega
     have HG1:Hid (∀ i (h:i<fs.length),fGood fs[i]=true):=fun i h=>(HGd.out i h h).1
     have HG2:Hid (∀ i j (hi:i<fs.length) (hj:j<fs.length),i<j→fs[i].1 ≠ fs[j].1):=fun i j hi hj hij=>(HGd.out j hj hj).2 i hi hij
     clear HGd HNg HNd
     obtain ⟨wo,hwo⟩:∃ x:World,x=wr:=⟨_,rfl⟩
     subst wr
     go_wp2_with fail
     go_loopw [5] (fun j5 wr=>∃ i:Nat,i≤ms.length∧j5 = .int .i64 (i:Int)∧Below wo.heap.size wo wr∧∀ k (hk:k<ms.length),k<i→(mOk (mD ms[k])=true∧((mD ms[k]).abs=true→false=true))∧∀ j (hj:j<ms.length),j<k→¬ ((mD ms[j]).name=(mD ms[k]).name∧(mD ms[j]).desc=(mD ms[k]).desc)) (fun j5 _=>ms.length - (intOf j5).toNat)
     case atStart=>exact⟨0,Nat.zero_le _,rfl,Below.refl _ _,fun k hk hk0=>by omega⟩
     case round =>
      obtain ⟨i,hi3,rfl,hb,hgood⟩:=hrel
      replace x0:=carry hb (show w.heap.size<wo.heap.size by omega) x0
      replace x1:=carry hb (show w.heap.size<wo.heap.size by omega) x1
      replace x2:=carry hb (show w.heap.size<wo.heap.size by omega) x2
      replace x3:=carry hb (show w.heap.size<wo.heap.size by omega) x3
      replace x4:=carry hb (show w.heap.size<wo.heap.size by omega) x4
      replace x5:=carry hb (show w.heap.size<wo.heap.size by omega) x5
      have hwr2:wo.heap.size≤wr.heap.size:=hb.size
      have HBs:Hid (Below w.heap.size w wr):=HBr.out.trans (hb.mono HBr.out.size)
      have HBo:Hid (Below wo.heap.size wo wr):=hb
      have HGd:=(show Hid (∀ k (hk:k<ms.length),k<i→(mOk (mD ms[k])=true∧((mD ms[k]).abs=true→false=true))∧∀ j (hj:j<ms.length),j<k→¬ ((mD ms[j]).name=(mD ms[k]).name∧(mD ms[j]).desc=(mD ms[k]).desc)) from hgood)
      clear hb hgood
      by_cases hlt:i<ms.length
      ·obtain ⟨bb,o,rfl,hx⟩:=HH.out i hlt
       obtain ⟨vc,vh,g0,g1,g2,g3,g4,g5,g6,g7,g8,s0,s1,_,_,h7,h8⟩:=methAt (hx.mono HBs.out)
       have HE:Hid (mOk (mD ms[i])=false→false=res):=fun e=>HNm.out i hlt e
       have HEa:Hid ((mD ms[i]).abs=true→false=false→false=res):=fun e e2=>HNa.out i hlt e (by first | exact e2 | trivial)
       have HD:Hid (∀ j (hj:j<ms.length),j<i→(mD ms[j]).name=(mD ms[i]).name→(mD ms[j]).desc=(mD ms[i]).desc→false=res):=fun j hj hji e e2=>HNe.out j i hj hlt hji e e2
       have HE2:Hid (mOk (mD ms[i])=true→((mD ms[i]).abs=true→false=true)→(∀ j (hj:j<ms.length),j<i→¬ ((mD ms[j]).name=(mD ms[i]).name∧(mD ms[j]).desc=(mD ms[i]).desc))→∀ k (hk:k<ms.length),k<i+1→(mOk (mD ms[k])=true∧((mD ms[k]).abs=true→false=true))∧∀ j (hj:j<ms.length),j<k→¬ ((mD ms[j]).name=(mD ms[k]).name∧(mD ms[j]).desc=(mD ms[k]).desc)):=fun hf ha hdd k hk hk1=>by
        by_cases e:k=i
        ·subst e;exact⟨⟨hf,ha⟩,hdd⟩
        ·exact HGd.out k hk (by omega)
       clear hx HGd
       have HMe:Hid (∀ o,Calls Tryz.prog 95 #[methV (mD ms[i]) vc vh] (wr.alloc o) fun e w'=>e = .returned (.bool (mOk (mD ms[i])))∧Below (wr.alloc o).heap.size (wr.alloc o) w'):=fun o=>specMethodRight (mD ms[i]) vc vh (wr.alloc o) s0 s1 (insR.slice.mono _ _ _ _ ((Below.refl _ _).alloc (Nat.le_refl _) o) h7) (handlerR.slice.mono _ _ _ _ ((Below.refl _ _).alloc (Nat.le_refl _) o) h8)
       obtain ⟨fa7,fc7,e7⟩:=slice_form h7
       obtain ⟨fa8,fc8,e8⟩:=slice_form h8
       clear s0 s1 h7 h8
       subst e7 e8
       generalize mOk (mD ms[i])=q at *
       generalize mD ms[i]=md at *
       obtain ⟨mn,mds,mst,mab,mfi,msk,mlo,mco,mha⟩:=md
       unfold methV at HMe
       simp only at HMe HEa HD HE2 g0 g1 g2 g3 g4 g5 g6 g7 g8
       have hbl:bb<wr.heap.size:=World.block_lt_of_cell? _ _ g0
       go_wp2_with fail
       refine Calls.mono (HMe.out _) ?_
       rintro e w3 ⟨rfl,hb3⟩
       replace x3:w3.cell? ⟨w.heap.size,3,none⟩=some (.bool false):=carry hb3 (by simp;omega) (carry ((Below.refl wr.heap.size wr).alloc (Nat.le_refl _) _) (show w.heap.size<wr.heap.size by omega) x3)
       replace x5:w3.cell? ⟨w.heap.size,5,none⟩=some (.slice (some ⟨bb,o,none⟩) ms.length cb):=carry hb3 (by simp;omega) (carry ((Below.refl wr.heap.size wr).alloc (Nat.le_refl _) _) (show w.heap.size<wr.heap.size by omega) x5)
       have z0:=cC hb3 (wr.heap.size) 0 (.string mn) (by simp) (by simp [go_sem])
       have z1:=cC hb3 (wr.heap.size) 1 (.string mds) (by simp) (by simp [go_sem])
       have z3:=cC hb3 (wr.heap.size) 3 (.bool mab) (by simp) (by simp [go_sem])
       have hw3:wr.heap.size<w3.heap.size:=by have:=hb3.size;simp at this;omega
       have HB3o:Hid (Below wr.heap.size wr w3):=((Below.refl _ _).alloc (Nat.le_refl _) _).trans (hb3.mono (by simp))
       have HB3:Hid (Below w.heap.size w w3):=HBs.out.trans (HB3o.out.mono HBs.out.size)
       have HBo3:Hid (Below wo.heap.size wo w3):=HBo.out.trans (HB3o.out.mono HBo.out.size)
       clear hb3 HB3o
       generalize wr.heap.size=B3 at *
       cases q
       ·go_wp2
        go_ret
        exact⟨rB (HE.out (by first | rfl | trivial)),HB3.out⟩
       ·cases mab
        ·have HAbs:Hid (false=true→false=true):=fun h=>by cases h
         go_wp2_with fail
         go_loopw [7] (fun j7 wq=>∃ k:Nat,k≤i∧j7 = .int .i64 (k:Int)∧Below w3.heap.size w3 wq∧∀ j (hj:j<ms.length),j<k→¬ ((mD ms[j]).name=mn∧(mD ms[j]).desc=mds)) (fun j7 _=>i - (intOf j7).toNat)
         case atStart=>exact⟨0,Nat.zero_le _,rfl,Below.refl _ _,fun j hj hj0=>by omega⟩
         case round =>
          obtain ⟨k,hk2,rfl,hb,hd⟩:=hrel
          replace x3:=carry hb (show w.heap.size<w3.heap.size by omega) x3
          replace x5:=carry hb (show w.heap.size<w3.heap.size by omega) x5
          replace z0:=carry hb hw3 z0
          replace z1:=carry hb hw3 z1
          replace z3:=carry hb hw3 z3
          have HBq:Hid (Below w.heap.size w wr):=HB3.out.trans (hb.mono HB3.out.size)
          have HB3q:Hid (Below w3.heap.size w3 wr):=hb
          have HBo4:Hid (Below wo.heap.size wo wr):=HBo3.out.trans (hb.mono HBo3.out.size)
          have HDd:=(show Hid (∀ j (hj:j<ms.length),j<k→¬ ((mD ms[j]).name=mn∧(mD ms[j]).desc=mds)) from hd)
          clear hb hd
          by_cases hki:k<i
          ·have hkl:k<ms.length:=by omega
           obtain ⟨bb2,o2,eb,hx2⟩:=HH.out k hkl
           cases eb
           obtain ⟨_,_,k0,k1,_,_,_,_,_,_,_,_,_,_,_,_,_⟩:=methAt (hx2.mono HBq.out)
           clear hx2
           by_cases heq:(mD ms[k]).name=mn
           ·by_cases heq2:(mD ms[k]).desc=mds
            ·have HZ:Hid (false=res):=HD.out k hkl hki heq heq2
             have ek:=text_eq heq
             have ek2:=text_eq heq2
             generalize (mD ms[k]).name=kn at *
             generalize (mD ms[k]).desc=kd at *
             clear heq heq2
             go_wp2_with fail
             go_quiet (fail)
             go_wp2
             go_ret
             exact⟨rB HZ.out,below_drewN HBq.out _⟩
            ·have ek:=text_eq heq
             have ek2:=text_ne heq2
             have HDn:Hid (∀ j (hj:j<ms.length),j<k+1→¬ ((mD ms[j]).name=mn∧(mD ms[j]).desc=mds)):=fun j hj hj1=>by
              by_cases e:j=k
              ·subst e;exact fun h=>heq2 h.2
              ·exact HDd.out j hj (by omega)
             generalize (mD ms[k]).name=kn at *
             generalize (mD ms[k]).desc=kd at *
             clear heq heq2 HDd
             go_wp2_with fail
             go_quiet (fail)
             go_wp2
             go_roundw
             case rel=>exact⟨k+1,by omega,by go_num,below_drewN HB3q.out _,HDn.out⟩
             case measure=>simp [intOf];omega
           ·have ek:=text_ne heq
            have HDn:Hid (∀ j (hj:j<ms.length),j<k+1→¬ ((mD ms[j]).name=mn∧(mD ms[j]).desc=mds)):=fun j hj hj1=>by
             by_cases e:j=k
             ·subst e;exact fun h=>heq h.1
             ·exact HDd.out j hj (by omega)
            generalize (mD ms[k]).name=kn at *
            generalize (mD ms[k]).desc=kd at *
            clear heq HDd
            go_wp2_with fail
            go_quiet (fail)
            go_wp2
            go_roundw
            case rel=>exact⟨k+1,by omega,by go_num,below_drewN HB3q.out _,HDn.out⟩
            case measure=>simp [intOf];omega
          ·obtain rfl:k=i:=by omega
           have HNx:=(show Hid _ from HE2.out (by first | rfl | trivial) (by first | exact HAbs.out | (intro h;cases h) | (intro h;trivial)) HDd.out)
           clear HDd HE2
           go_wp2
           go_roundw
           case rel=>exact⟨k+1,by omega,by go_num,HBo4.out,HNx.out⟩
           case measure=>simp [intOf];omega
        ·have HZ:Hid (false=res):=HEa.out (by first | rfl | trivial) (by first | rfl | trivial)
         go_wp2
         go_ret
         exact⟨rB HZ.out,HB3.out⟩
      ·obtain rfl:i=ms.length:=by omega
       have HZ:Hid (true=res):=HMk.out (by simp) HG1.out HG2.out (fun i h=>⟨(HGd.out i h h).1.1,by first | exact (HGd.out i h h).1.2 | (intro _;trivial)⟩) (fun i j hi hj hij=>(HGd.out j hj hj).2 i hi hij)
       clear HGd HG1 HG2 HMk
       go_wp2
       go_ret
       exact⟨rB HZ.out,HBs.out⟩
  ·go_enter Tryz.func64,Tryz.ntmps64
   go_wp2_with fail
   have x0:(w.alloc (.cells #[.string nm,.string su,.bool false,.bool true,.slice a fs.length ca,.slice b ms.length cb] 51)).cell? ⟨w.heap.size,0,none⟩=some (.string nm):=by simp [go_sem]
   have x1:(w.alloc (.cells #[.string nm,.string su,.bool false,.bool true,.slice a fs.length ca,.slice b ms.length cb] 51)).cell? ⟨w.heap.size,1,none⟩=some (.string su):=by simp [go_sem]
   have x2:(w.alloc (.cells #[.string nm,.string su,.bool false,.bool true,.slice a fs.length ca,.slice b ms.length cb] 51)).cell? ⟨w.heap.size,2,none⟩=some (.bool false):=by simp [go_sem]
   have x3:(w.alloc (.cells #[.string nm,.string su,.bool false,.bool true,.slice a fs.length ca,.slice b ms.length cb] 51)).cell? ⟨w.heap.size,3,none⟩=some (.bool true):=by simp [go_sem]
   have x4:(w.alloc (.cells #[.string nm,.string su,.bool false,.bool true,.slice a fs.length ca,.slice b ms.length cb] 51)).cell? ⟨w.heap.size,4,none⟩=some (.slice a fs.length ca):=by simp [go_sem]
   have x5:(w.alloc (.cells #[.string nm,.string su,.bool false,.bool true,.slice a fs.length ca,.slice b ms.length cb] 51)).cell? ⟨w.heap.size,5,none⟩=some (.slice b ms.length cb):=by simp [go_sem]
   have hz:w.heap.size<(w.alloc (.cells #[.string nm,.string su,.bool false,.bool true,.slice a fs.length ca,.slice b ms.length cb] 51)).heap.size:=by simp
   have HB:Hid (Below w.heap.size w (w.alloc (.cells #[.string nm,.string su,.bool false,.bool true,.slice a fs.length ca,.slice b ms.length cb] 51))):=(Below.refl _ _).alloc (Nat.le_refl _) _
   generalize w.alloc (.cells #[.string nm,.string su,.bool false,.bool true,.slice a fs.length ca,.slice b ms.length cb] 51)=W at *
   refine Calls.mono (HN1.out _) ?_
   rintro e w2 ⟨rfl,hw2⟩
   subst w2
   go_wp2_with fail
   refine Calls.mono (HN2.out _) ?_
   rintro e w2 ⟨rfl,hw2⟩
   subst w2
   go_wp2_with fail
   go_loopw [3] (fun j3 wr=>∃ i:Nat,i≤fs.length∧j3 = .int .i64 (i:Int)∧Below W.heap.size W wr∧∀ k (hk:k<fs.length),k<i→fGood fs[k]=true∧∀ j (hj:j<fs.length),j<k→fs[j].1 ≠ fs[k].1) (fun j3 _=>fs.length - (intOf j3).toNat)
   case atStart=>exact⟨0,Nat.zero_le _,rfl,Below.refl _ _,fun k hk hk0=>by omega⟩
   case round =>
    obtain ⟨i,hi2,rfl,hb,hgood⟩:=hrel
    replace x0:=carry hb (show w.heap.size<W.heap.size by omega) x0
    replace x1:=carry hb (show w.heap.size<W.heap.size by omega) x1
    replace x2:=carry hb (show w.heap.size<W.heap.size by omega) x2
    replace x3:=carry hb (show w.heap.size<W.heap.size by omega) x3
    replace x4:=carry hb (show w.heap.size<W.heap.size by omega) x4
    replace x5:=carry hb (show w.heap.size<W.heap.size by omega) x5
    have hwr:W.heap.size≤wr.heap.size:=hb.size
    have HBr:Hid (Below w.heap.size w wr):=HB.out.trans (hb.mono HB.out.size)
    have HBW:Hid (Below W.heap.size W wr):=hb
    have HGd:=(show Hid (∀ k (hk:k<fs.length),k<i→fGood fs[k]=true∧∀ j (hj:j<fs.length),j<k→fs[j].1 ≠ fs[k].1) from hgood)
    clear hb hgood
    by_cases hlt:i<fs.length
    ·obtain ⟨bb,o,rfl,hx⟩:=HC.out i hlt
     obtain ⟨g0,g1,g2,s0,s1⟩:=fieldAt (hx.mono HBr.out)
     have HE:Hid (fGood fs[i]=false→false=res):=fun e=>HNg.out i hlt e
     have HD:Hid (∀ j (hj:j<fs.length),j<i→fs[j].1=fs[i].1→false=res):=fun j hj hji e=>HNd.out j i hj hlt hji e
     have HE2:Hid (fGood fs[i]=true→(∀ j (hj:j<fs.length),j<i→fs[j].1 ≠ fs[i].1)→∀ k (hk:k<fs.length),k<i+1→fGood fs[k]=true∧∀ j (hj:j<fs.length),j<k→fs[j].1 ≠ fs[k].1):=fun hf hdd k hk hk1=>by
      by_cases e:k=i
      ·subst e;exact⟨hf,hdd⟩
      ·exact HGd.out k hk (by omega)
     clear hx HGd
     unfold fGood at HE
     have HF:Hid (fGood fs[i]=(nameB fs[i].1 && tyB fs[i].2.1)):=rfl
     have HNn:Hid (∀ w,Calls Tryz.prog 93 #[.string fs[i].1] w fun e w'=>e = .returned (.bool (nameB fs[i].1))∧w'=w):=fun w=>specNameRight fs[i].1 w s0
     have HTt:Hid (∀ w,Calls Tryz.prog 94 #[.string fs[i].2.1] w fun e w'=>e = .returned (.bool (tyB fs[i].2.1))∧w'=w):=fun w=>specTypeRight fs[i].2.1 w s1
     have hbl:bb<wr.heap.size:=World.block_lt_of_cell? _ _ g0
     clear s0 s1
     generalize hfi:fs[i]=d at *
     obtain ⟨fn,ft,fst⟩:=d
     simp only at g0 g1 g2 HE HD HE2 HF HNn HTt
     generalize nameB fn=q1 at *
     generalize tyB ft=q2 at *
     go_wp2_with fail
     refine Calls.mono (HNn.out _) ?_
     rintro e w3 ⟨rfl,hw3⟩
     subst w3
     cases q1
     ·go_wp2
      go_ret
      exact⟨rB (HE.out rfl),HBr.out⟩
     ·go_wp2_with fail
      refine Calls.mono (HTt.out _) ?_
      rintro e w3 ⟨rfl,hw3⟩
      subst w3
      cases q2
      ·go_wp2
       go_ret
       exact⟨rB (HE.out rfl),HBr.out⟩
      ·obtain ⟨wo,hwo⟩:∃ x:World,x=wr:=⟨_,rfl⟩
       subst wr
       go_wp2_with fail
       go_loopw [4] (fun j4 wq=>∃ k:Nat,k≤i∧j4 = .int .i64 (k:Int)∧Below wo.heap.size wo wq∧∀ j (hj:j<fs.length),j<k→fs[j].1 ≠ fn) (fun j4 _=>i - (intOf j4).toNat)
       case atStart=>exact⟨0,Nat.zero_le _,rfl,Below.refl _ _,fun j hj hj0=>by omega⟩
       case round =>
        obtain ⟨k,hk2,rfl,hb,hd⟩:=hrel
        replace x0:=carry hb (show w.heap.size<wo.heap.size by omega) x0
        replace x1:=carry hb (show w.heap.size<wo.heap.size by omega) x1
        replace x2:=carry hb (show w.heap.size<wo.heap.size by omega) x2
        replace x3:=carry hb (show w.heap.size<wo.heap.size by omega) x3
        replace x4:=carry hb (show w.heap.size<wo.heap.size by omega) x4
        replace x5:=carry hb (show w.heap.size<wo.heap.size by omega) x5
        replace g0:=carry hb hbl g0
        have hwq:wo.heap.size≤wr.heap.size:=hb.size
        have HBq:Hid (Below w.heap.size w wr):=HBr.out.trans (hb.mono HBr.out.size)
        have HBw2:Hid (Below W.heap.size W wr):=HBW.out.trans (hb.mono HBW.out.size)
        have HBo:Hid (Below wo.heap.size wo wr):=hb
        have HDd:=(show Hid (∀ j (hj:j<fs.length),j<k→fs[j].1 ≠ fn) from hd)
        clear hb hd
        by_cases hki:k<i
        ·have hkl:k<fs.length:=by omega
         obtain ⟨bb2,o2,eb,hx2⟩:=HC.out k hkl
         cases eb
         obtain ⟨k0,_,_,_,_⟩:=fieldAt (hx2.mono HBq.out)
         clear hx2
         by_cases heq:fs[k].1=fn
         ·have HZ:Hid (false=res):=HD.out k hkl hki heq
          have ek:=text_eq heq
          generalize fs[k].1=fk at *
          clear heq
          go_wp2_with fail
          go_quiet (fail)
          go_wp2
          go_ret
          exact⟨rB HZ.out,below_drewN HBq.out _⟩
         ·have ek:=text_ne heq
          have HDn:Hid (∀ j (hj:j<fs.length),j<k+1→fs[j].1 ≠ fn):=fun j hj hj1=>by
           by_cases e:j=k
           ·subst e;exact heq
           ·exact HDd.out j hj (by omega)
          generalize fs[k].1=fk at *
          clear heq HDd
          go_wp2_with fail
          go_quiet (fail)
          go_wp2
          go_roundw
          case rel=>exact⟨k+1,by omega,by go_num,below_drewN HBo.out _,HDn.out⟩
          case measure=>simp [intOf];omega
        ·obtain rfl:k=i:=by omega
         have HNx:=(show Hid _ from HE2.out HF.out HDd.out)
         clear HDd HE2
         go_wp2
         go_roundw
         case rel=>exact⟨k+1,by omega,by go_num,HBw2.out,HNx.out⟩
         case measure=>simp [intOf];omega
    ·obtain rfl:i=fs.length:=by omega
     have HG1:Hid (∀ i (h:i<fs.length),fGood fs[i]=true):=fun i h=>(HGd.out i h h).1
     have HG2:Hid (∀ i j (hi:i<fs.length) (hj:j<fs.length),i<j→fs[i].1 ≠ fs[j].1):=fun i j hi hj hij=>(HGd.out j hj hj).2 i hi hij
     clear HGd HNg HNd
     obtain ⟨wo,hwo⟩:∃ x:World,x=wr:=⟨_,rfl⟩
     subst wr
     go_wp2_with fail
     go_loopw [5] (fun j5 wr=>∃ i:Nat,i≤ms.length∧j5 = .int .i64 (i:Int)∧Below wo.heap.size wo wr∧∀ k (hk:k<ms.length),k<i→(mOk (mD ms[k])=true∧((mD ms[k]).abs=true→true=true))∧∀ j (hj:j<ms.length),j<k→¬ ((mD ms[j]).name=(mD ms[k]).name∧(mD ms[j]).desc=(mD ms[k]).desc)) (fun j5 _=>ms.length - (intOf j5).toNat)
     case atStart=>exact⟨0,Nat.zero_le _,rfl,Below.refl _ _,fun k hk hk0=>by omega⟩
     case round =>
      obtain ⟨i,hi3,rfl,hb,hgood⟩:=hrel
      replace x0:=carry hb (show w.heap.size<wo.heap.size by omega) x0
      replace x1:=carry hb (show w.heap.size<wo.heap.size by omega) x1
      replace x2:=carry hb (show w.heap.size<wo.heap.size by omega) x2
      replace x3:=carry hb (show w.heap.size<wo.heap.size by omega) x3
      replace x4:=carry hb (show w.heap.size<wo.heap.size by omega) x4
      replace x5:=carry hb (show w.heap.size<wo.heap.size by omega) x5
      have hwr2:wo.heap.size≤wr.heap.size:=hb.size
      have HBs:Hid (Below w.heap.size w wr):=HBr.out.trans (hb.mono HBr.out.size)
      have HBo:Hid (Below wo.heap.size wo wr):=hb
      have HGd:=(show Hid (∀ k (hk:k<ms.length),k<i→(mOk (mD ms[k])=true∧((mD ms[k]).abs=true→true=true))∧∀ j (hj:j<ms.length),j<k→¬ ((mD ms[j]).name=(mD ms[k]).name∧(mD ms[j]).desc=(mD ms[k]).desc)) from hgood)
      clear hb hgood
      by_cases hlt:i<ms.length
      ·obtain ⟨bb,o,rfl,hx⟩:=HH.out i hlt
       obtain ⟨vc,vh,g0,g1,g2,g3,g4,g5,g6,g7,g8,s0,s1,_,_,h7,h8⟩:=methAt (hx.mono HBs.out)
       have HE:Hid (mOk (mD ms[i])=false→false=res):=fun e=>HNm.out i hlt e
       have HEa:Hid ((mD ms[i]).abs=true→true=false→false=res):=fun e e2=>HNa.out i hlt e (by first | exact e2 | trivial)
       have HD:Hid (∀ j (hj:j<ms.length),j<i→(mD ms[j]).name=(mD ms[i]).name→(mD ms[j]).desc=(mD ms[i]).desc→false=res):=fun j hj hji e e2=>HNe.out j i hj hlt hji e e2
       have HE2:Hid (mOk (mD ms[i])=true→((mD ms[i]).abs=true→true=true)→(∀ j (hj:j<ms.length),j<i→¬ ((mD ms[j]).name=(mD ms[i]).name∧(mD ms[j]).desc=(mD ms[i]).desc))→∀ k (hk:k<ms.length),k<i+1→(mOk (mD ms[k])=true∧((mD ms[k]).abs=true→true=true))∧∀ j (hj:j<ms.length),j<k→¬ ((mD ms[j]).name=(mD ms[k]).name∧(mD ms[j]).desc=(mD ms[k]).desc)):=fun hf ha hdd k hk hk1=>by
        by_cases e:k=i
        ·subst e;exact⟨⟨hf,ha⟩,hdd⟩
        ·exact HGd.out k hk (by omega)
       clear hx HGd
       have HMe:Hid (∀ o,Calls Tryz.prog 95 #[methV (mD ms[i]) vc vh] (wr.alloc o) fun e w'=>e = .returned (.bool (mOk (mD ms[i])))∧Below (wr.alloc o).heap.size (wr.alloc o) w'):=fun o=>specMethodRight (mD ms[i]) vc vh (wr.alloc o) s0 s1 (insR.slice.mono _ _ _ _ ((Below.refl _ _).alloc (Nat.le_refl _) o) h7) (handlerR.slice.mono _ _ _ _ ((Below.refl _ _).alloc (Nat.le_refl _) o) h8)
       obtain ⟨fa7,fc7,e7⟩:=slice_form h7
       obtain ⟨fa8,fc8,e8⟩:=slice_form h8
       clear s0 s1 h7 h8
       subst e7 e8
       generalize mOk (mD ms[i])=q at *
       generalize mD ms[i]=md at *
       obtain ⟨mn,mds,mst,mab,mfi,msk,mlo,mco,mha⟩:=md
       unfold methV at HMe
       simp only at HMe HEa HD HE2 g0 g1 g2 g3 g4 g5 g6 g7 g8
       have hbl:bb<wr.heap.size:=World.block_lt_of_cell? _ _ g0
       go_wp2_with fail
       refine Calls.mono (HMe.out _) ?_
       rintro e w3 ⟨rfl,hb3⟩
       replace x3:w3.cell? ⟨w.heap.size,3,none⟩=some (.bool true):=carry hb3 (by simp;omega) (carry ((Below.refl wr.heap.size wr).alloc (Nat.le_refl _) _) (show w.heap.size<wr.heap.size by omega) x3)
       replace x5:w3.cell? ⟨w.heap.size,5,none⟩=some (.slice (some ⟨bb,o,none⟩) ms.length cb):=carry hb3 (by simp;omega) (carry ((Below.refl wr.heap.size wr).alloc (Nat.le_refl _) _) (show w.heap.size<wr.heap.size by omega) x5)
       have z0:=cC hb3 (wr.heap.size) 0 (.string mn) (by simp) (by simp [go_sem])
       have z1:=cC hb3 (wr.heap.size) 1 (.string mds) (by simp) (by simp [go_sem])
       have z3:=cC hb3 (wr.heap.size) 3 (.bool mab) (by simp) (by simp [go_sem])
       have hw3:wr.heap.size<w3.heap.size:=by have:=hb3.size;simp at this;omega
       have HB3o:Hid (Below wr.heap.size wr w3):=((Below.refl _ _).alloc (Nat.le_refl _) _).trans (hb3.mono (by simp))
       have HB3:Hid (Below w.heap.size w w3):=HBs.out.trans (HB3o.out.mono HBs.out.size)
       have HBo3:Hid (Below wo.heap.size wo w3):=HBo.out.trans (HB3o.out.mono HBo.out.size)
       clear hb3 HB3o
       generalize wr.heap.size=B3 at *
       cases q
       ·go_wp2
        go_ret
        exact⟨rB (HE.out (by first | rfl | trivial)),HB3.out⟩
       ·cases mab
        ·have HAbs:Hid (false=true→true=true):=fun h=>by cases h
         go_wp2_with fail
         go_loopw [7] (fun j7 wq=>∃ k:Nat,k≤i∧j7 = .int .i64 (k:Int)∧Below w3.heap.size w3 wq∧∀ j (hj:j<ms.length),j<k→¬ ((mD ms[j]).name=mn∧(mD ms[j]).desc=mds)) (fun j7 _=>i - (intOf j7).toNat)
         case atStart=>exact⟨0,Nat.zero_le _,rfl,Below.refl _ _,fun j hj hj0=>by omega⟩
         case round =>
          obtain ⟨k,hk2,rfl,hb,hd⟩:=hrel
          replace x3:=carry hb (show w.heap.size<w3.heap.size by omega) x3
          replace x5:=carry hb (show w.heap.size<w3.heap.size by omega) x5
          replace z0:=carry hb hw3 z0
          replace z1:=carry hb hw3 z1
          replace z3:=carry hb hw3 z3
          have HBq:Hid (Below w.heap.size w wr):=HB3.out.trans (hb.mono HB3.out.size)
          have HB3q:Hid (Below w3.heap.size w3 wr):=hb
          have HBo4:Hid (Below wo.heap.size wo wr):=HBo3.out.trans (hb.mono HBo3.out.size)
          have HDd:=(show Hid (∀ j (hj:j<ms.length),j<k→¬ ((mD ms[j]).name=mn∧(mD ms[j]).desc=mds)) from hd)
          clear hb hd
          by_cases hki:k<i
          ·have hkl:k<ms.length:=by omega
           obtain ⟨bb2,o2,eb,hx2⟩:=HH.out k hkl
           cases eb
           obtain ⟨_,_,k0,k1,_,_,_,_,_,_,_,_,_,_,_,_,_⟩:=methAt (hx2.mono HBq.out)
           clear hx2
           by_cases heq:(mD ms[k]).name=mn
           ·by_cases heq2:(mD ms[k]).desc=mds
            ·have HZ:Hid (false=res):=HD.out k hkl hki heq heq2
             have ek:=text_eq heq
             have ek2:=text_eq heq2
             generalize (mD ms[k]).name=kn at *
             generalize (mD ms[k]).desc=kd at *
             clear heq heq2
             go_wp2_with fail
             go_quiet (fail)
             go_wp2
             go_ret
             exact⟨rB HZ.out,below_drewN HBq.out _⟩
            ·have ek:=text_eq heq
             have ek2:=text_ne heq2
             have HDn:Hid (∀ j (hj:j<ms.length),j<k+1→¬ ((mD ms[j]).name=mn∧(mD ms[j]).desc=mds)):=fun j hj hj1=>by
              by_cases e:j=k
              ·subst e;exact fun h=>heq2 h.2
              ·exact HDd.out j hj (by omega)
             generalize (mD ms[k]).name=kn at *
             generalize (mD ms[k]).desc=kd at *
             clear heq heq2 HDd
             go_wp2_with fail
             go_quiet (fail)
             go_wp2
             go_roundw
             case rel=>exact⟨k+1,by omega,by go_num,below_drewN HB3q.out _,HDn.out⟩
             case measure=>simp [intOf];omega
           ·have ek:=text_ne heq
            have HDn:Hid (∀ j (hj:j<ms.length),j<k+1→¬ ((mD ms[j]).name=mn∧(mD ms[j]).desc=mds)):=fun j hj hj1=>by
             by_cases e:j=k
             ·subst e;exact fun h=>heq h.1
             ·exact HDd.out j hj (by omega)
            generalize (mD ms[k]).name=kn at *
            generalize (mD ms[k]).desc=kd at *
            clear heq HDd
            go_wp2_with fail
            go_quiet (fail)
            go_wp2
            go_roundw
            case rel=>exact⟨k+1,by omega,by go_num,below_drewN HB3q.out _,HDn.out⟩
            case measure=>simp [intOf];omega
          ·obtain rfl:k=i:=by omega
           have HNx:=(show Hid _ from HE2.out (by first | rfl | trivial) (by first | exact HAbs.out | (intro h;cases h) | (intro h;trivial)) HDd.out)
           clear HDd HE2
           go_wp2
           go_roundw
           case rel=>exact⟨k+1,by omega,by go_num,HBo4.out,HNx.out⟩
           case measure=>simp [intOf];omega
        ·have HAbs:Hid (true=true→true=true):=fun h=>h
         go_wp2_with fail
         go_loopw [7] (fun j7 wq=>∃ k:Nat,k≤i∧j7 = .int .i64 (k:Int)∧Below w3.heap.size w3 wq∧∀ j (hj:j<ms.length),j<k→¬ ((mD ms[j]).name=mn∧(mD ms[j]).desc=mds)) (fun j7 _=>i - (intOf j7).toNat)
         case atStart=>exact⟨0,Nat.zero_le _,rfl,Below.refl _ _,fun j hj hj0=>by omega⟩
         case round =>
          obtain ⟨k,hk2,rfl,hb,hd⟩:=hrel
          replace x3:=carry hb (show w.heap.size<w3.heap.size by omega) x3
          replace x5:=carry hb (show w.heap.size<w3.heap.size by omega) x5
          replace z0:=carry hb hw3 z0
          replace z1:=carry hb hw3 z1
          replace z3:=carry hb hw3 z3
          have HBq:Hid (Below w.heap.size w wr):=HB3.out.trans (hb.mono HB3.out.size)
          have HB3q:Hid (Below w3.heap.size w3 wr):=hb
          have HBo4:Hid (Below wo.heap.size wo wr):=HBo3.out.trans (hb.mono HBo3.out.size)
          have HDd:=(show Hid (∀ j (hj:j<ms.length),j<k→¬ ((mD ms[j]).name=mn∧(mD ms[j]).desc=mds)) from hd)
          clear hb hd
          by_cases hki:k<i
          ·have hkl:k<ms.length:=by omega
           obtain ⟨bb2,o2,eb,hx2⟩:=HH.out k hkl
           cases eb
           obtain ⟨_,_,k0,k1,_,_,_,_,_,_,_,_,_,_,_,_,_⟩:=methAt (hx2.mono HBq.out)
           clear hx2
           by_cases heq:(mD ms[k]).name=mn
           ·by_cases heq2:(mD ms[k]).desc=mds
            ·have HZ:Hid (false=res):=HD.out k hkl hki heq heq2
             have ek:=text_eq heq
             have ek2:=text_eq heq2
             generalize (mD ms[k]).name=kn at *
             generalize (mD ms[k]).desc=kd at *
             clear heq heq2
             go_wp2_with fail
             go_quiet (fail)
             go_wp2
             go_ret
             exact⟨rB HZ.out,below_drewN HBq.out _⟩
            ·have ek:=text_eq heq
             have ek2:=text_ne heq2
             have HDn:Hid (∀ j (hj:j<ms.length),j<k+1→¬ ((mD ms[j]).name=mn∧(mD ms[j]).desc=mds)):=fun j hj hj1=>by
              by_cases e:j=k
              ·subst e;exact fun h=>heq2 h.2
              ·exact HDd.out j hj (by omega)
             generalize (mD ms[k]).name=kn at *
             generalize (mD ms[k]).desc=kd at *
             clear heq heq2 HDd
             go_wp2_with fail
             go_quiet (fail)
             go_wp2
             go_roundw
             case rel=>exact⟨k+1,by omega,by go_num,below_drewN HB3q.out _,HDn.out⟩
             case measure=>simp [intOf];omega
           ·have ek:=text_ne heq
            have HDn:Hid (∀ j (hj:j<ms.length),j<k+1→¬ ((mD ms[j]).name=mn∧(mD ms[j]).desc=mds)):=fun j hj hj1=>by
             by_cases e:j=k
             ·subst e;exact fun h=>heq h.1
             ·exact HDd.out j hj (by omega)
            generalize (mD ms[k]).name=kn at *
            generalize (mD ms[k]).desc=kd at *
            clear heq HDd
            go_wp2_with fail
            go_quiet (fail)
            go_wp2
            go_roundw
            case rel=>exact⟨k+1,by omega,by go_num,below_drewN HB3q.out _,HDn.out⟩
            case measure=>simp [intOf];omega
          ·obtain rfl:k=i:=by omega
           have HNx:=(show Hid _ from HE2.out (by first | rfl | trivial) (by first | exact HAbs.out | (intro h;cases h) | (intro h;trivial)) HDd.out)
           clear HDd HE2
           go_wp2
           go_roundw
           case rel=>exact⟨k+1,by omega,by go_num,HBo4.out,HNx.out⟩
           case measure=>simp [intOf];omega
      ·obtain rfl:i=ms.length:=by omega
       have HZ:Hid (true=res):=HMk.out (by simp) HG1.out HG2.out (fun i h=>⟨(HGd.out i h h).1.1,by first | exact (HGd.out i h h).1.2 | (intro _;trivial)⟩) (fun i j hi hj hij=>(HGd.out j hj hj).2 i hi hij)
       clear HGd HG1 HG2 HMk
       go_wp2
       go_ret
       exact⟨rB HZ.out,HBs.out⟩
 ·cases ab
  ·go_enter Tryz.func64,Tryz.ntmps64
   go_wp2_with fail
   have x0:(w.alloc (.cells #[.string nm,.string su,.bool true,.bool false,.slice a fs.length ca,.slice b ms.length cb] 51)).cell? ⟨w.heap.size,0,none⟩=some (.string nm):=by simp [go_sem]
   have x1:(w.alloc (.cells #[.string nm,.string su,.bool true,.bool false,.slice a fs.length ca,.slice b ms.length cb] 51)).cell? ⟨w.heap.size,1,none⟩=some (.string su):=by simp [go_sem]
   have x2:(w.alloc (.cells #[.string nm,.string su,.bool true,.bool false,.slice a fs.length ca,.slice b ms.length cb] 51)).cell? ⟨w.heap.size,2,none⟩=some (.bool true):=by simp [go_sem]
   have x3:(w.alloc (.cells #[.string nm,.string su,.bool true,.bool false,.slice a fs.length ca,.slice b ms.length cb] 51)).cell? ⟨w.heap.size,3,none⟩=some (.bool false):=by simp [go_sem]
   have x4:(w.alloc (.cells #[.string nm,.string su,.bool true,.bool false,.slice a fs.length ca,.slice b ms.length cb] 51)).cell? ⟨w.heap.size,4,none⟩=some (.slice a fs.length ca):=by simp [go_sem]
   have x5:(w.alloc (.cells #[.string nm,.string su,.bool true,.bool false,.slice a fs.length ca,.slice b ms.length cb] 51)).cell? ⟨w.heap.size,5,none⟩=some (.slice b ms.length cb):=by simp [go_sem]
   have hz:w.heap.size<(w.alloc (.cells #[.string nm,.string su,.bool true,.bool false,.slice a fs.length ca,.slice b ms.length cb] 51)).heap.size:=by simp
   have HB:Hid (Below w.heap.size w (w.alloc (.cells #[.string nm,.string su,.bool true,.bool false,.slice a fs.length ca,.slice b ms.length cb] 51))):=(Below.refl _ _).alloc (Nat.le_refl _) _
   generalize w.alloc (.cells #[.string nm,.string su,.bool true,.bool false,.slice a fs.length ca,.slice b ms.length cb] 51)=W at *
   refine Calls.mono (HN1.out _) ?_
   rintro e w2 ⟨rfl,hw2⟩
   subst w2
   go_wp2_with fail
   refine Calls.mono (HN2.out _) ?_
   rintro e w2 ⟨rfl,hw2⟩
   subst w2
   go_wp2_with fail
   go_loopw [3] (fun j3 wr=>∃ i:Nat,i≤fs.length∧j3 = .int .i64 (i:Int)∧Below W.heap.size W wr∧∀ k (hk:k<fs.length),k<i→fGood fs[k]=true∧∀ j (hj:j<fs.length),j<k→fs[j].1 ≠ fs[k].1) (fun j3 _=>fs.length - (intOf j3).toNat)
   case atStart=>exact⟨0,Nat.zero_le _,rfl,Below.refl _ _,fun k hk hk0=>by omega⟩
   case round =>
    obtain ⟨i,hi2,rfl,hb,hgood⟩:=hrel
    replace x0:=carry hb (show w.heap.size<W.heap.size by omega) x0
    replace x1:=carry hb (show w.heap.size<W.heap.size by omega) x1
    replace x2:=carry hb (show w.heap.size<W.heap.size by omega) x2
    replace x3:=carry hb (show w.heap.size<W.heap.size by omega) x3
    replace x4:=carry hb (show w.heap.size<W.heap.size by omega) x4
    replace x5:=carry hb (show w.heap.size<W.heap.size by omega) x5
    have hwr:W.heap.size≤wr.heap.size:=hb.size
    have HBr:Hid (Below w.heap.size w wr):=HB.out.trans (hb.mono HB.out.size)
    have HBW:Hid (Below W.heap.size W wr):=hb
    have HGd:=(show Hid (∀ k (hk:k<fs.length),k<i→fGood fs[k]=true∧∀ j (hj:j<fs.length),j<k→fs[j].1 ≠ fs[k].1) from hgood)
    clear hb hgood
    by_cases hlt:i<fs.length
    ·obtain ⟨bb,o,rfl,hx⟩:=HC.out i hlt
     obtain ⟨g0,g1,g2,s0,s1⟩:=fieldAt (hx.mono HBr.out)
     have HE:Hid (fGood fs[i]=false→false=res):=fun e=>HNg.out i hlt e
     have HD:Hid (∀ j (hj:j<fs.length),j<i→fs[j].1=fs[i].1→false=res):=fun j hj hji e=>HNd.out j i hj hlt hji e
     have HE2:Hid (fGood fs[i]=true→(∀ j (hj:j<fs.length),j<i→fs[j].1 ≠ fs[i].1)→∀ k (hk:k<fs.length),k<i+1→fGood fs[k]=true∧∀ j (hj:j<fs.length),j<k→fs[j].1 ≠ fs[k].1):=fun hf hdd k hk hk1=>by
      by_cases e:k=i
      ·subst e;exact⟨hf,hdd⟩
      ·exact HGd.out k hk (by omega)
     clear hx HGd
     unfold fGood at HE
     have HF:Hid (fGood fs[i]=(nameB fs[i].1 && tyB fs[i].2.1)):=rfl
     have HNn:Hid (∀ w,Calls Tryz.prog 93 #[.string fs[i].1] w fun e w'=>e = .returned (.bool (nameB fs[i].1))∧w'=w):=fun w=>specNameRight fs[i].1 w s0
     have HTt:Hid (∀ w,Calls Tryz.prog 94 #[.string fs[i].2.1] w fun e w'=>e = .returned (.bool (tyB fs[i].2.1))∧w'=w):=fun w=>specTypeRight fs[i].2.1 w s1
     have hbl:bb<wr.heap.size:=World.block_lt_of_cell? _ _ g0
     clear s0 s1
     generalize hfi:fs[i]=d at *
     obtain ⟨fn,ft,fst⟩:=d
     simp only at g0 g1 g2 HE HD HE2 HF HNn HTt
     generalize nameB fn=q1 at *
     generalize tyB ft=q2 at *
     go_wp2_with fail
     refine Calls.mono (HNn.out _) ?_
     rintro e w3 ⟨rfl,hw3⟩
     subst w3
     cases q1
     ·go_wp2
      go_ret
      exact⟨rB (HE.out rfl),HBr.out⟩
     ·go_wp2_with fail
      refine Calls.mono (HTt.out _) ?_
      rintro e w3 ⟨rfl,hw3⟩
      subst w3
      cases q2
      ·go_wp2
       go_ret
       exact⟨rB (HE.out rfl),HBr.out⟩
      ·obtain ⟨wo,hwo⟩:∃ x:World,x=wr:=⟨_,rfl⟩
       subst wr
       go_wp2_with fail
       go_loopw [4] (fun j4 wq=>∃ k:Nat,k≤i∧j4 = .int .i64 (k:Int)∧Below wo.heap.size wo wq∧∀ j (hj:j<fs.length),j<k→fs[j].1 ≠ fn) (fun j4 _=>i - (intOf j4).toNat)
       case atStart=>exact⟨0,Nat.zero_le _,rfl,Below.refl _ _,fun j hj hj0=>by omega⟩
       case round =>
        obtain ⟨k,hk2,rfl,hb,hd⟩:=hrel
        replace x0:=carry hb (show w.heap.size<wo.heap.size by omega) x0
        replace x1:=carry hb (show w.heap.size<wo.heap.size by omega) x1
        replace x2:=carry hb (show w.heap.size<wo.heap.size by omega) x2
        replace x3:=carry hb (show w.heap.size<wo.heap.size by omega) x3
        replace x4:=carry hb (show w.heap.size<wo.heap.size by omega) x4
        replace x5:=carry hb (show w.heap.size<wo.heap.size by omega) x5
        replace g0:=carry hb hbl g0
        have hwq:wo.heap.size≤wr.heap.size:=hb.size
        have HBq:Hid (Below w.heap.size w wr):=HBr.out.trans (hb.mono HBr.out.size)
        have HBw2:Hid (Below W.heap.size W wr):=HBW.out.trans (hb.mono HBW.out.size)
        have HBo:Hid (Below wo.heap.size wo wr):=hb
        have HDd:=(show Hid (∀ j (hj:j<fs.length),j<k→fs[j].1 ≠ fn) from hd)
        clear hb hd
        by_cases hki:k<i
        ·have hkl:k<fs.length:=by omega
         obtain ⟨bb2,o2,eb,hx2⟩:=HC.out k hkl
         cases eb
         obtain ⟨k0,_,_,_,_⟩:=fieldAt (hx2.mono HBq.out)
         clear hx2
         by_cases heq:fs[k].1=fn
         ·have HZ:Hid (false=res):=HD.out k hkl hki heq
          have ek:=text_eq heq
          generalize fs[k].1=fk at *
          clear heq
          go_wp2_with fail
          go_quiet (fail)
          go_wp2
          go_ret
          exact⟨rB HZ.out,below_drewN HBq.out _⟩
         ·have ek:=text_ne heq
          have HDn:Hid (∀ j (hj:j<fs.length),j<k+1→fs[j].1 ≠ fn):=fun j hj hj1=>by
           by_cases e:j=k
           ·subst e;exact heq
           ·exact HDd.out j hj (by omega)
          generalize fs[k].1=fk at *
          clear heq HDd
          go_wp2_with fail
          go_quiet (fail)
          go_wp2
          go_roundw
          case rel=>exact⟨k+1,by omega,by go_num,below_drewN HBo.out _,HDn.out⟩
          case measure=>simp [intOf];omega
        ·obtain rfl:k=i:=by omega
         have HNx:=(show Hid _ from HE2.out HF.out HDd.out)
         clear HDd HE2
         go_wp2
         go_roundw
         case rel=>exact⟨k+1,by omega,by go_num,HBw2.out,HNx.out⟩
         case measure=>simp [intOf];omega
    ·obtain rfl:i=fs.length:=by omega
     have HG1:Hid (∀ i (h:i<fs.length),fGood fs[i]=true):=fun i h=>(HGd.out i h h).1
     have HG2:Hid (∀ i j (hi:i<fs.length) (hj:j<fs.length),i<j→fs[i].1 ≠ fs[j].1):=fun i j hi hj hij=>(HGd.out j hj hj).2 i hi hij
     clear HGd HNg HNd
     obtain ⟨wo,hwo⟩:∃ x:World,x=wr:=⟨_,rfl⟩
     subst wr
     go_wp2_with fail
     go_loopw [5] (fun j5 wr=>∃ i:Nat,i≤ms.length∧j5 = .int .i64 (i:Int)∧Below wo.heap.size wo wr∧∀ k (hk:k<ms.length),k<i→(mOk (mD ms[k])=true∧((mD ms[k]).abs=true→false=true))∧∀ j (hj:j<ms.length),j<k→¬ ((mD ms[j]).name=(mD ms[k]).name∧(mD ms[j]).desc=(mD ms[k]).desc)) (fun j5 _=>ms.length - (intOf j5).toNat)
     case atStart=>exact⟨0,Nat.zero_le _,rfl,Below.refl _ _,fun k hk hk0=>by omega⟩
     case round =>
      obtain ⟨i,hi3,rfl,hb,hgood⟩:=hrel
      replace x0:=carry hb (show w.heap.size<wo.heap.size by omega) x0
      replace x1:=carry hb (show w.heap.size<wo.heap.size by omega) x1
      replace x2:=carry hb (show w.heap.size<wo.heap.size by omega) x2
      replace x3:=carry hb (show w.heap.size<wo.heap.size by omega) x3
      replace x4:=carry hb (show w.heap.size<wo.heap.size by omega) x4
      replace x5:=carry hb (show w.heap.size<wo.heap.size by omega) x5
      have hwr2:wo.heap.size≤wr.heap.size:=hb.size
      have HBs:Hid (Below w.heap.size w wr):=HBr.out.trans (hb.mono HBr.out.size)
      have HBo:Hid (Below wo.heap.size wo wr):=hb
      have HGd:=(show Hid (∀ k (hk:k<ms.length),k<i→(mOk (mD ms[k])=true∧((mD ms[k]).abs=true→false=true))∧∀ j (hj:j<ms.length),j<k→¬ ((mD ms[j]).name=(mD ms[k]).name∧(mD ms[j]).desc=(mD ms[k]).desc)) from hgood)
      clear hb hgood
      by_cases hlt:i<ms.length
      ·obtain ⟨bb,o,rfl,hx⟩:=HH.out i hlt
       obtain ⟨vc,vh,g0,g1,g2,g3,g4,g5,g6,g7,g8,s0,s1,_,_,h7,h8⟩:=methAt (hx.mono HBs.out)
       have HE:Hid (mOk (mD ms[i])=false→false=res):=fun e=>HNm.out i hlt e
       have HEa:Hid ((mD ms[i]).abs=true→false=false→false=res):=fun e e2=>HNa.out i hlt e (by first | exact e2 | trivial)
       have HD:Hid (∀ j (hj:j<ms.length),j<i→(mD ms[j]).name=(mD ms[i]).name→(mD ms[j]).desc=(mD ms[i]).desc→false=res):=fun j hj hji e e2=>HNe.out j i hj hlt hji e e2
       have HE2:Hid (mOk (mD ms[i])=true→((mD ms[i]).abs=true→false=true)→(∀ j (hj:j<ms.length),j<i→¬ ((mD ms[j]).name=(mD ms[i]).name∧(mD ms[j]).desc=(mD ms[i]).desc))→∀ k (hk:k<ms.length),k<i+1→(mOk (mD ms[k])=true∧((mD ms[k]).abs=true→false=true))∧∀ j (hj:j<ms.length),j<k→¬ ((mD ms[j]).name=(mD ms[k]).name∧(mD ms[j]).desc=(mD ms[k]).desc)):=fun hf ha hdd k hk hk1=>by
        by_cases e:k=i
        ·subst e;exact⟨⟨hf,ha⟩,hdd⟩
        ·exact HGd.out k hk (by omega)
       clear hx HGd
       have HMe:Hid (∀ o,Calls Tryz.prog 95 #[methV (mD ms[i]) vc vh] (wr.alloc o) fun e w'=>e = .returned (.bool (mOk (mD ms[i])))∧Below (wr.alloc o).heap.size (wr.alloc o) w'):=fun o=>specMethodRight (mD ms[i]) vc vh (wr.alloc o) s0 s1 (insR.slice.mono _ _ _ _ ((Below.refl _ _).alloc (Nat.le_refl _) o) h7) (handlerR.slice.mono _ _ _ _ ((Below.refl _ _).alloc (Nat.le_refl _) o) h8)
       obtain ⟨fa7,fc7,e7⟩:=slice_form h7
       obtain ⟨fa8,fc8,e8⟩:=slice_form h8
       clear s0 s1 h7 h8
       subst e7 e8
       generalize mOk (mD ms[i])=q at *
       generalize mD ms[i]=md at *
       obtain ⟨mn,mds,mst,mab,mfi,msk,mlo,mco,mha⟩:=md
       unfold methV at HMe
       simp only at HMe HEa HD HE2 g0 g1 g2 g3 g4 g5 g6 g7 g8
       have hbl:bb<wr.heap.size:=World.block_lt_of_cell? _ _ g0
       go_wp2_with fail
       refine Calls.mono (HMe.out _) ?_
       rintro e w3 ⟨rfl,hb3⟩
       replace x3:w3.cell? ⟨w.heap.size,3,none⟩=some (.bool false):=carry hb3 (by simp;omega) (carry ((Below.refl wr.heap.size wr).alloc (Nat.le_refl _) _) (show w.heap.size<wr.heap.size by omega) x3)
       replace x5:w3.cell? ⟨w.heap.size,5,none⟩=some (.slice (some ⟨bb,o,none⟩) ms.length cb):=carry hb3 (by simp;omega) (carry ((Below.refl wr.heap.size wr).alloc (Nat.le_refl _) _) (show w.heap.size<wr.heap.size by omega) x5)
       have z0:=cC hb3 (wr.heap.size) 0 (.string mn) (by simp) (by simp [go_sem])
       have z1:=cC hb3 (wr.heap.size) 1 (.string mds) (by simp) (by simp [go_sem])
       have z3:=cC hb3 (wr.heap.size) 3 (.bool mab) (by simp) (by simp [go_sem])
       have hw3:wr.heap.size<w3.heap.size:=by have:=hb3.size;simp at this;omega
       have HB3o:Hid (Below wr.heap.size wr w3):=((Below.refl _ _).alloc (Nat.le_refl _) _).trans (hb3.mono (by simp))
       have HB3:Hid (Below w.heap.size w w3):=HBs.out.trans (HB3o.out.mono HBs.out.size)
       have HBo3:Hid (Below wo.heap.size wo w3):=HBo.out.trans (HB3o.out.mono HBo.out.size)
       clear hb3 HB3o
       generalize wr.heap.size=B3 at *
       cases q
       ·go_wp2
        go_ret
        exact⟨rB (HE.out (by first | rfl | trivial)),HB3.out⟩
       ·cases mab
        ·have HAbs:Hid (false=true→false=true):=fun h=>by cases h
         go_wp2_with fail
         go_loopw [7] (fun j7 wq=>∃ k:Nat,k≤i∧j7 = .int .i64 (k:Int)∧Below w3.heap.size w3 wq∧∀ j (hj:j<ms.length),j<k→¬ ((mD ms[j]).name=mn∧(mD ms[j]).desc=mds)) (fun j7 _=>i - (intOf j7).toNat)
         case atStart=>exact⟨0,Nat.zero_le _,rfl,Below.refl _ _,fun j hj hj0=>by omega⟩
         case round =>
          obtain ⟨k,hk2,rfl,hb,hd⟩:=hrel
          replace x3:=carry hb (show w.heap.size<w3.heap.size by omega) x3
          replace x5:=carry hb (show w.heap.size<w3.heap.size by omega) x5
          replace z0:=carry hb hw3 z0
          replace z1:=carry hb hw3 z1
          replace z3:=carry hb hw3 z3
          have HBq:Hid (Below w.heap.size w wr):=HB3.out.trans (hb.mono HB3.out.size)
          have HB3q:Hid (Below w3.heap.size w3 wr):=hb
          have HBo4:Hid (Below wo.heap.size wo wr):=HBo3.out.trans (hb.mono HBo3.out.size)
          have HDd:=(show Hid (∀ j (hj:j<ms.length),j<k→¬ ((mD ms[j]).name=mn∧(mD ms[j]).desc=mds)) from hd)
          clear hb hd
          by_cases hki:k<i
          ·have hkl:k<ms.length:=by omega
           obtain ⟨bb2,o2,eb,hx2⟩:=HH.out k hkl
           cases eb
           obtain ⟨_,_,k0,k1,_,_,_,_,_,_,_,_,_,_,_,_,_⟩:=methAt (hx2.mono HBq.out)
           clear hx2
           by_cases heq:(mD ms[k]).name=mn
           ·by_cases heq2:(mD ms[k]).desc=mds
            ·have HZ:Hid (false=res):=HD.out k hkl hki heq heq2
             have ek:=text_eq heq
             have ek2:=text_eq heq2
             generalize (mD ms[k]).name=kn at *
             generalize (mD ms[k]).desc=kd at *
             clear heq heq2
             go_wp2_with fail
             go_quiet (fail)
             go_wp2
             go_ret
             exact⟨rB HZ.out,below_drewN HBq.out _⟩
            ·have ek:=text_eq heq
             have ek2:=text_ne heq2
             have HDn:Hid (∀ j (hj:j<ms.length),j<k+1→¬ ((mD ms[j]).name=mn∧(mD ms[j]).desc=mds)):=fun j hj hj1=>by
              by_cases e:j=k
              ·subst e;exact fun h=>heq2 h.2
              ·exact HDd.out j hj (by omega)
             generalize (mD ms[k]).name=kn at *
             generalize (mD ms[k]).desc=kd at *
             clear heq heq2 HDd
             go_wp2_with fail
             go_quiet (fail)
             go_wp2
             go_roundw
             case rel=>exact⟨k+1,by omega,by go_num,below_drewN HB3q.out _,HDn.out⟩
             case measure=>simp [intOf];omega
           ·have ek:=text_ne heq
            have HDn:Hid (∀ j (hj:j<ms.length),j<k+1→¬ ((mD ms[j]).name=mn∧(mD ms[j]).desc=mds)):=fun j hj hj1=>by
             by_cases e:j=k
             ·subst e;exact fun h=>heq h.1
             ·exact HDd.out j hj (by omega)
            generalize (mD ms[k]).name=kn at *
            generalize (mD ms[k]).desc=kd at *
            clear heq HDd
            go_wp2_with fail
            go_quiet (fail)
            go_wp2
            go_roundw
            case rel=>exact⟨k+1,by omega,by go_num,below_drewN HB3q.out _,HDn.out⟩
            case measure=>simp [intOf];omega
          ·obtain rfl:k=i:=by omega
           have HNx:=(show Hid _ from HE2.out (by first | rfl | trivial) (by first | exact HAbs.out | (intro h;cases h) | (intro h;trivial)) HDd.out)
           clear HDd HE2
           go_wp2
           go_roundw
           case rel=>exact⟨k+1,by omega,by go_num,HBo4.out,HNx.out⟩
           case measure=>simp [intOf];omega
        ·have HZ:Hid (false=res):=HEa.out (by first | rfl | trivial) (by first | rfl | trivial)
         go_wp2
         go_ret
         exact⟨rB HZ.out,HB3.out⟩
      ·obtain rfl:i=ms.length:=by omega
       have HZ:Hid (true=res):=HMk.out (by simp) HG1.out HG2.out (fun i h=>⟨(HGd.out i h h).1.1,by first | exact (HGd.out i h h).1.2 | (intro _;trivial)⟩) (fun i j hi hj hij=>(HGd.out j hj hj).2 i hi hij)
       clear HGd HG1 HG2 HMk
       go_wp2
       go_ret
       exact⟨rB HZ.out,HBs.out⟩
  ·have HZ:Hid (false=res):=HNf.out rfl rfl
   go_enter Tryz.func64,Tryz.ntmps64
   go_wp2_with fail
   have x0:(w.alloc (.cells #[.string nm,.string su,.bool true,.bool true,.slice a fs.length ca,.slice b ms.length cb] 51)).cell? ⟨w.heap.size,0,none⟩=some (.string nm):=by simp [go_sem]
   have x1:(w.alloc (.cells #[.string nm,.string su,.bool true,.bool true,.slice a fs.length ca,.slice b ms.length cb] 51)).cell? ⟨w.heap.size,1,none⟩=some (.string su):=by simp [go_sem]
   have x2:(w.alloc (.cells #[.string nm,.string su,.bool true,.bool true,.slice a fs.length ca,.slice b ms.length cb] 51)).cell? ⟨w.heap.size,2,none⟩=some (.bool true):=by simp [go_sem]
   have x3:(w.alloc (.cells #[.string nm,.string su,.bool true,.bool true,.slice a fs.length ca,.slice b ms.length cb] 51)).cell? ⟨w.heap.size,3,none⟩=some (.bool true):=by simp [go_sem]
   have x4:(w.alloc (.cells #[.string nm,.string su,.bool true,.bool true,.slice a fs.length ca,.slice b ms.length cb] 51)).cell? ⟨w.heap.size,4,none⟩=some (.slice a fs.length ca):=by simp [go_sem]
   have x5:(w.alloc (.cells #[.string nm,.string su,.bool true,.bool true,.slice a fs.length ca,.slice b ms.length cb] 51)).cell? ⟨w.heap.size,5,none⟩=some (.slice b ms.length cb):=by simp [go_sem]
   have hz:w.heap.size<(w.alloc (.cells #[.string nm,.string su,.bool true,.bool true,.slice a fs.length ca,.slice b ms.length cb] 51)).heap.size:=by simp
   have HB:Hid (Below w.heap.size w (w.alloc (.cells #[.string nm,.string su,.bool true,.bool true,.slice a fs.length ca,.slice b ms.length cb] 51))):=(Below.refl _ _).alloc (Nat.le_refl _) _
   generalize w.alloc (.cells #[.string nm,.string su,.bool true,.bool true,.slice a fs.length ca,.slice b ms.length cb] 51)=W at *
   refine Calls.mono (HN1.out _) ?_
   rintro e w2 ⟨rfl,hw2⟩
   subst w2
   go_wp2_with fail
   refine Calls.mono (HN2.out _) ?_
   rintro e w2 ⟨rfl,hw2⟩
   subst w2
   go_wp2
   go_ret
   exact⟨rB HZ.out,HB.out⟩
end Go.Proofs.YtmhgaggpdggbeaaGreatDoor
