import Derived.Test.YtmhgaggpdggbeaaGreatDoorAP
import Derived.Test.YtmhgaggpdggbeaaGreatDoorMR3
namespace Go.Proofs.YtmhgaggpdggbeaaGreatDoor
open Go.RowKit
set_option maxRecDepth 20000
set_option linter.unusedVariables false

theorem nodup_map_iff {α β:Type} (xs:List α) (g:α→β):(xs.map g).Nodup ↔ ∀ i j (hi:i<xs.length) (hj:j<xs.length),i<j→g xs[i] ≠ g xs[j]:=by
 unfold List.Nodup
 rw [List.pairwise_map,List.pairwise_iff_getElem]

def FieldsP (fs:List FieldD):Prop:=fs.length≤8∧(∀ i (h:i<fs.length),fGood fs[i]=true)∧(fs.map fun f=>Value.string f.1).Nodup
def MethsP (ms:List MTup) (ab:Bool):Prop:=ms.length≤10∧(∀ i (h:i<ms.length),mOk (mD ms[i])=true∧((mD ms[i]).abs=true→ab=true))∧(ms.map fun f=>Value.agg #[.string (mD f).name,.string (mD f).desc]).Nodup

theorem clsP_iff (c:ClsD):ClsP c ↔ nameB c.name=true∧nameB c.super=true∧c.name ≠ c.super∧¬ (c.fin=true∧c.abs=true)∧FieldsP c.fields∧MethsP c.meths c.abs:=by
 constructor
 ·intro h
  refine ⟨h.n,h.s,h.ne,h.fa,⟨h.fl,h.fg,?_⟩,⟨h.ml,h.mg,?_⟩⟩
  ·rw [nodup_map_iff]
   intro i j hi hj hij e
   exact h.fd i j hi hj hij (by injection e)
  ·rw [nodup_map_iff]
   intro i j hi hj hij e
   exact h.md i j hi hj hij (by simpa using e)
 ·rintro ⟨h1,h2,h3,h4,⟨h5,h6,h7⟩,⟨h8,h9,h10⟩⟩
  rw [nodup_map_iff] at h7 h10
  exact⟨h1,h2,h3,h4,h5,h8,h6,fun i j hi hj hij e=>h7 i j hi hj hij (by rw [e]),h9,fun i j hi hj hij e=>h10 i j hi hj hij (by rw [e.1,e.2])⟩

set_option maxHeartbeats 2000000 in
theorem implFields (v:Value) (fs:List FieldD) (w:World) (h:fieldR.slice.In w [v] fs) :
  Calls Tryz.prog 128 #[v] w fun e w'=>(∃ q:Bool,e = .returned (.bool q)∧(q=true ↔ FieldsP fs))∧Below w.heap.size w w':=by
 have HAp:Hid (∀ w',Below w.heap.size w w'→Calls Tryz.prog 147 #[v,.func (.func 148) #[] #[]] w' fun e w2=>(∃ q:Bool,e = .returned (.bool q)∧(q=true ↔ (fs.map fun f=>Value.string f.1).Nodup))∧Below w'.heap.size w' w2):=fun w' hb=>implApartF v fs w' (fieldR.slice.mono _ _ _ _ hb h)
 obtain ⟨a,cap,rfl,hn,hcap,hat⟩:=slice_open (by decide) h
 unfold maxLen at hcap
 have HA:Hid (∀ i (h:i<fs.length),∃ b o,a=some ⟨b,o,none⟩∧fieldR.At w ⟨b,o,none⟩ i fs[i]):=hat
 clear hat h
 by_cases c1:fs.length≤8
 case neg =>
  have d1:decide ((8:Int)<fs.length)=true:=by rw [decide_eq_true_eq];omega
  have HZ:Hid (false=true ↔ FieldsP fs):=⟨fun h=>(by cases h),fun h=>absurd h.1 c1⟩
  go_enter Tryz.func128,Tryz.ntmps128
  go_wp2
  go_ret
  exact⟨⟨false,rfl,HZ.out⟩,Below.refl _ _⟩
 have d1:decide ((8:Int)<fs.length)=false:=by rw [decide_eq_false_iff_not];omega
 have HNo:Hid (∀ i (h:i<fs.length),fGood fs[i]=false→(false=true ↔ FieldsP fs)):=fun i h e=>⟨fun h=>(by cases h),fun p=>by have:=p.2.1 i h;rw [e] at this;cases this⟩
 have HYs:Hid ((∀ i (h:i<fs.length),fGood fs[i]=true)→∀ q:Bool,(q=true ↔ (fs.map fun f=>Value.string f.1).Nodup)→(q=true ↔ FieldsP fs)):=fun hg q hq=>⟨fun h=>⟨c1,hg,hq.1 h⟩,fun h=>hq.2 h.2.2⟩
 go_enter Tryz.func128,Tryz.ntmps128
 go_wp2_with fail
 go_loopw [10] (fun j10 wr=>∃ i:Nat,i≤fs.length∧j10 = .int .i64 (i:Int)∧Below w.heap.size w wr∧∀ k (hk:k<fs.length),k<i→fGood fs[k]=true) (fun j10 _=>fs.length - (intOf j10).toNat)
 case atStart=>exact⟨0,Nat.zero_le _,rfl,Below.refl _ _,fun k hk hk0=>by omega⟩
 case round =>
  obtain ⟨i,hi,rfl,hb,hgood⟩:=hrel
  have HB:Hid (Below w.heap.size w wr):=hb
  have HGd:=(show Hid (∀ k (hk:k<fs.length),k<i→fGood fs[k]=true) from hgood)
  clear hb hgood
  by_cases hlt:i<fs.length
  ·obtain ⟨b,o,rfl,hx⟩:=HA.out i hlt
   obtain ⟨g0,g1,g2,s0,s1⟩:=fieldAt (hx.mono HB.out)
   have HE:Hid (fGood fs[i]=false→(false=true ↔ FieldsP fs)):=fun e=>HNo.out i hlt e
   have HE2:Hid (fGood fs[i]=true→∀ k (hk:k<fs.length),k<i+1→fGood fs[k]=true):=fun hf k hk hk1=>by
    by_cases e:k=i
    ·subst e;exact hf
    ·exact HGd.out k hk (by omega)
   have HN:Hid (∀ w,Calls Tryz.prog 127 #[.string fs[i].1] w fun e w'=>e = .returned (.bool (nameB fs[i].1))∧Below w.heap.size w w'):=fun w=>implNameRight fs[i].1 w s0
   have HT:Hid (∀ w,Calls Tryz.prog 132 #[.string fs[i].2.1] w fun e w'=>e = .returned (.bool (tyB fs[i].2.1))∧w'=w):=fun w=>implTypeRight fs[i].2.1 w s1
   have hfg:fGood fs[i]=(nameB fs[i].1 && tyB fs[i].2.1):=rfl
   rw [hfg] at HE HE2
   clear hx HGd s0 s1 hfg
   generalize nameB fs[i].1=q1 at *
   generalize tyB fs[i].2.1=q2 at *
   generalize fs[i]=d at *
   obtain ⟨fn,ft,fst⟩:=d
   simp only at g0 g1 g2 HN HT
   have HB1:Hid (∀ o,Below w.heap.size w (wr.alloc o)):=fun o=>HB.out.alloc HB.out.size o
   go_wp2_with fail
   refine Calls.mono (HN.out _) ?_
   rintro e w1 ⟨rfl,hb1⟩
   have z1:=cC hb1 (wr.heap.size) 1 (.string ft) (by simp) (by simp [go_sem])
   have HB2:Hid (Below w.heap.size w w1):=(HB1.out _).trans (hb1.mono (HB1.out _).size)
   clear hb1
   cases q1
   ·go_wp2
    go_ret
    exact⟨⟨false,rfl,HE.out (by first | rfl | trivial)⟩,HB2.out⟩
   ·go_wp2_with fail
    refine Calls.mono (HT.out _) ?_
    rintro e w2 ⟨rfl,hw2⟩
    subst w2
    cases q2
    ·go_wp2
     go_ret
     exact⟨⟨false,rfl,HE.out (by first | rfl | trivial)⟩,HB2.out⟩
    ·go_wp2
     go_roundw
     case rel=>exact⟨i+1,by omega,by go_num,HB2.out,HE2.out (by first | rfl | trivial)⟩
     case measure=>simp [intOf];omega
  ·obtain rfl:i=fs.length:=by omega
   have HY:=(show Hid _ from HYs.out (fun k hk=>HGd.out k hk hk))
   clear HGd
   go_wp2_with fail
   refine Calls.mono (HAp.out _ HB.out) ?_
   rintro e w1 ⟨⟨q,rfl,hq⟩,hb1⟩
   have HB1:Hid (Below w.heap.size w w1):=HB.out.trans (hb1.mono HB.out.size)
   have HQ:=(show Hid _ from HY.out q hq)
   clear hb1 hq
   go_wp2
   go_ret
   exact⟨⟨q,rfl,HQ.out⟩,HB1.out⟩

set_option maxHeartbeats 4000000 in
theorem implMeths (nm su:ByteArray) (fi ab:Bool) (fs:List FieldD) (ms:List MTup) (a b:Option Addr) (ca cb:Nat) (w:World) (h:methR.slice.In w [.slice b ms.length cb] ms) (ht:Tab w) (hg:Glob w) :
  Calls Tryz.prog 129 #[.agg #[.string nm,.string su,.bool fi,.bool ab,.slice a fs.length ca,.slice b ms.length cb]] w fun e w'=>(∃ q:Bool,e = .returned (.bool q)∧(q=true ↔ MethsP ms ab))∧Below w.heap.size w w':=by
 have HAp:Hid (∀ w',Below w.heap.size w w'→Calls Tryz.prog 150 #[.slice b ms.length cb,.func (.func 106) #[] #[]] w' fun e w2=>(∃ q:Bool,e = .returned (.bool q)∧(q=true ↔ (ms.map fun f=>Value.agg #[.string (mD f).name,.string (mD f).desc]).Nodup))∧Below w'.heap.size w' w2):=fun w' hb=>implApartM _ ms w' (methR.slice.mono _ _ _ _ hb h)
 obtain ⟨_,_,ev,hn,hcap,hat⟩:=slice_open (by decide) h
 cases ev
 unfold maxLen at hcap
 have HA:Hid (∀ i (h:i<ms.length),∃ b_1 o,b=some ⟨b_1,o,none⟩∧methR.At w ⟨b_1,o,none⟩ i ms[i]):=hat
 have HT:=(show Hid (Tab w) from ht)
 have HG:=(show Hid (Glob w) from hg)
 clear hat h ht hg
 by_cases c1:ms.length≤10
 case neg =>
  have d1:decide ((10:Int)<ms.length)=true:=by rw [decide_eq_true_eq];omega
  have HZ:Hid (false=true ↔ MethsP ms ab):=⟨fun h=>(by cases h),fun h=>absurd h.1 c1⟩
  go_enter Tryz.func129,Tryz.ntmps129
  go_wp2
  go_ret
  exact⟨⟨false,rfl,HZ.out⟩,(Below.refl _ _).alloc (Nat.le_refl _) _⟩
 have d1:decide ((10:Int)<ms.length)=false:=by rw [decide_eq_false_iff_not];omega
 have HNo:Hid (∀ i (h:i<ms.length),mOk (mD ms[i])=false→(false=true ↔ MethsP ms ab)):=fun i h e=>⟨fun h=>(by cases h),fun p=>by have:=(p.2.1 i h).1;rw [e] at this;cases this⟩
 have HNa:Hid (∀ i (h:i<ms.length),(mD ms[i]).abs=true→ab=false→(false=true ↔ MethsP ms ab)):=fun i h e e2=>⟨fun h=>(by cases h),fun p=>by have:=(p.2.1 i h).2 e;rw [e2] at this;cases this⟩
 have HYs:Hid ((∀ i (h:i<ms.length),mOk (mD ms[i])=true∧((mD ms[i]).abs=true→ab=true))→∀ q:Bool,(q=true ↔ (ms.map fun f=>Value.agg #[.string (mD f).name,.string (mD f).desc]).Nodup)→(q=true ↔ MethsP ms ab)):=fun hg q hq=>⟨fun h=>⟨c1,hg,hq.1 h⟩,fun h=>hq.2 h.2.2⟩
 generalize MethsP ms ab=MP at *
 go_enter Tryz.func129,Tryz.ntmps129
 go_wp2_with fail
 have x0:(w.alloc (.cells #[.string nm,.string su,.bool fi,.bool ab,.slice a fs.length ca,.slice b ms.length cb] 51)).cell? ⟨w.heap.size,0,none⟩=some (.string nm):=by simp [go_sem]
 have x1:(w.alloc (.cells #[.string nm,.string su,.bool fi,.bool ab,.slice a fs.length ca,.slice b ms.length cb] 51)).cell? ⟨w.heap.size,1,none⟩=some (.string su):=by simp [go_sem]
 have x2:(w.alloc (.cells #[.string nm,.string su,.bool fi,.bool ab,.slice a fs.length ca,.slice b ms.length cb] 51)).cell? ⟨w.heap.size,2,none⟩=some (.bool fi):=by simp [go_sem]
 have x3:(w.alloc (.cells #[.string nm,.string su,.bool fi,.bool ab,.slice a fs.length ca,.slice b ms.length cb] 51)).cell? ⟨w.heap.size,3,none⟩=some (.bool ab):=by simp [go_sem]
 have x4:(w.alloc (.cells #[.string nm,.string su,.bool fi,.bool ab,.slice a fs.length ca,.slice b ms.length cb] 51)).cell? ⟨w.heap.size,4,none⟩=some (.slice a fs.length ca):=by simp [go_sem]
 have x5:(w.alloc (.cells #[.string nm,.string su,.bool fi,.bool ab,.slice a fs.length ca,.slice b ms.length cb] 51)).cell? ⟨w.heap.size,5,none⟩=some (.slice b ms.length cb):=by simp [go_sem]
 have hz:w.heap.size<(w.alloc (.cells #[.string nm,.string su,.bool fi,.bool ab,.slice a fs.length ca,.slice b ms.length cb] 51)).heap.size:=by simp
 have HB0:Hid (Below w.heap.size w (w.alloc (.cells #[.string nm,.string su,.bool fi,.bool ab,.slice a fs.length ca,.slice b ms.length cb] 51))):=(Below.refl _ _).alloc (Nat.le_refl _) _
 generalize w.alloc (.cells #[.string nm,.string su,.bool fi,.bool ab,.slice a fs.length ca,.slice b ms.length cb] 51)=W at *
 go_loopw [12] (fun j12 wr=>∃ i:Nat,i≤ms.length∧j12 = .int .i64 (i:Int)∧Below W.heap.size W wr∧∀ k (hk:k<ms.length),k<i→mOk (mD ms[k])=true∧((mD ms[k]).abs=true→ab=true)) (fun j12 _=>ms.length - (intOf j12).toNat)
 case atStart=>exact⟨0,Nat.zero_le _,rfl,Below.refl _ _,fun k hk hk0=>by omega⟩
 case round =>
  obtain ⟨i,hi,rfl,hb,hgood⟩:=hrel
  replace x3:=carry hb hz x3
  replace x5:=carry hb hz x5
  have hwr:W.heap.size≤wr.heap.size:=hb.size
  have HB:Hid (Below w.heap.size w wr):=HB0.out.trans (hb.mono HB0.out.size)
  have HBW:Hid (Below W.heap.size W wr):=hb
  have HGd:=(show Hid (∀ k (hk:k<ms.length),k<i→mOk (mD ms[k])=true∧((mD ms[k]).abs=true→ab=true)) from hgood)
  clear hb hgood
  by_cases hlt:i<ms.length
  ·obtain ⟨bb,o,rfl,hx⟩:=HA.out i hlt
   obtain ⟨vc,vh,g0,g1,g2,g3,g4,g5,g6,g7,g8,s0,s1,_,_,h7,h8⟩:=methAt (hx.mono HB.out)
   have HE:Hid (mOk (mD ms[i])=false→(false=true ↔ MP)):=fun e=>HNo.out i hlt e
   have HEa:Hid ((mD ms[i]).abs=true→ab=false→(false=true ↔ MP)):=fun e e2=>HNa.out i hlt e e2
   have HE2:Hid (mOk (mD ms[i])=true→((mD ms[i]).abs=true→ab=true)→∀ k (hk:k<ms.length),k<i+1→mOk (mD ms[k])=true∧((mD ms[k]).abs=true→ab=true)):=fun hf ha k hk hk1=>by
    by_cases e:k=i
    ·subst e;exact⟨hf,ha⟩
    ·exact HGd.out k hk (by omega)
   have HMe:Hid (∀ o,Calls Tryz.prog 149 #[methV (mD ms[i]) vc vh] (wr.alloc o) fun e w'=>e = .returned (.bool (mOk (mD ms[i])))∧Below (wr.alloc o).heap.size (wr.alloc o) w'):=fun o=>implMethodRight (mD ms[i]) vc vh (wr.alloc o) s0 s1 (insR.slice.mono _ _ _ _ ((Below.refl _ _).alloc (Nat.le_refl _) o) h7) (handlerR.slice.mono _ _ _ _ ((Below.refl _ _).alloc (Nat.le_refl _) o) h8) (HT.out.mono (HB.out.alloc HB.out.size o)) (HG.out.mono (HB.out.alloc HB.out.size o))
   obtain ⟨fa7,fc7,e7⟩:=slice_form h7
   obtain ⟨fa8,fc8,e8⟩:=slice_form h8
   clear s0 s1 h7 h8 hx HGd
   subst e7 e8
   generalize mOk (mD ms[i])=q at *
   generalize mD ms[i]=md at *
   obtain ⟨mn,mds,mst,mab,mfi,msk,mlo,mco,mha⟩:=md
   unfold methV at HMe
   simp only at HMe HEa HE2 g0 g1 g2 g3 g4 g5 g6 g7 g8
   go_wp2_with fail
   refine Calls.mono (HMe.out _) ?_
   rintro e w3 ⟨rfl,hb3⟩
   replace x3:w3.cell? ⟨w.heap.size,3,none⟩=some (.bool ab):=carry hb3 (by simp;omega) (carry ((Below.refl wr.heap.size wr).alloc (Nat.le_refl _) _) (show w.heap.size<wr.heap.size by omega) x3)
   have z3:=cC hb3 (wr.heap.size) 3 (.bool mab) (by simp) (by simp [go_sem])
   have HB3o:Hid (Below wr.heap.size wr w3):=((Below.refl _ _).alloc (Nat.le_refl _) _).trans (hb3.mono (by simp))
   have HB3:Hid (Below w.heap.size w w3):=HB.out.trans (HB3o.out.mono HB.out.size)
   have HBW3:Hid (Below W.heap.size W w3):=HBW.out.trans (HB3o.out.mono HBW.out.size)
   clear hb3 HB3o
   cases q
   ·go_wp2
    go_ret
    exact⟨⟨false,rfl,HE.out (by first | rfl | trivial)⟩,HB3.out⟩
   ·cases mab
    ·have HNx:=(show Hid _ from HE2.out (by first | rfl | trivial) (fun h=>by cases h))
     go_wp2
     go_roundw
     case rel=>exact⟨i+1,by omega,by go_num,HBW3.out,HNx.out⟩
     case measure=>simp [intOf];omega
    ·rcases Bool.eq_false_or_eq_true ab with hab | hab
     case inr =>
      have HQ:=(show Hid _ from HEa.out (by first | rfl | trivial) hab)
      rw [hab] at x3
      clear hab
      go_wp2
      go_ret
      exact⟨⟨false,rfl,HQ.out⟩,HB3.out⟩
     case inl =>
      have HNx:=(show Hid _ from HE2.out (by first | rfl | trivial) (fun _=>hab))
      rw [hab] at x3
      clear hab
      go_wp2
      go_roundw
      case rel=>exact⟨i+1,by omega,by go_num,HBW3.out,HNx.out⟩
      case measure=>simp [intOf];omega
  ·obtain rfl:i=ms.length:=by omega
   have HY:=(show Hid _ from HYs.out (fun k hk=>HGd.out k hk hk))
   clear HGd
   go_wp2_with fail
   refine Calls.mono (HAp.out _ HB.out) ?_
   rintro e w1 ⟨⟨q,rfl,hq⟩,hb1⟩
   have HB1:Hid (Below w.heap.size w w1):=HB.out.trans (hb1.mono HB.out.size)
   have HQ:=(show Hid _ from HY.out q hq)
   clear hb1 hq
   go_wp2
   go_ret
   exact⟨⟨q,rfl,HQ.out⟩,HB1.out⟩

set_option maxHeartbeats 4000000 in
theorem implClassRight (c:ClsD) (vc vh:Value) (w:World) (hnm:c.name.size≤maxLen) (hsu:c.super.size≤maxLen) (hc:fieldR.slice.In w [vc] c.fields) (hh:methR.slice.In w [vh] c.meths) (ht:Tab w) (hg:Glob w) :
  Calls Tryz.prog 105 #[clsV c vc vh] w fun e w'=>e = .returned (.bool (clsOk c))∧Below w.heap.size w w':=by
 obtain ⟨a,ca,rfl⟩:=slice_form hc
 obtain ⟨b,cb,rfl⟩:=slice_form hh
 obtain ⟨nm,su,fi,ab,fs,ms⟩:=c
 simp only at hnm hsu hc hh
 have HN1:Hid (∀ w,Calls Tryz.prog 127 #[.string nm] w fun e w'=>e = .returned (.bool (nameB nm))∧Below w.heap.size w w'):=fun w=>implNameRight nm w hnm
 have HN2:Hid (∀ w,Calls Tryz.prog 127 #[.string su] w fun e w'=>e = .returned (.bool (nameB su))∧Below w.heap.size w w'):=fun w=>implNameRight su w hsu
 have HFs:Hid (∀ w',Below w.heap.size w w'→Calls Tryz.prog 128 #[.slice a fs.length ca] w' fun e w2=>(∃ q:Bool,e = .returned (.bool q)∧(q=true ↔ FieldsP fs))∧Below w'.heap.size w' w2):=fun w' hb=>implFields _ fs w' (fieldR.slice.mono _ _ _ _ hb hc)
 have HMs:Hid (∀ w',Below w.heap.size w w'→Calls Tryz.prog 129 #[.agg #[.string nm,.string su,.bool fi,.bool ab,.slice a fs.length ca,.slice b ms.length cb]] w' fun e w2=>(∃ q:Bool,e = .returned (.bool q)∧(q=true ↔ MethsP ms ab))∧Below w'.heap.size w' w2):=fun w' hb=>implMeths nm su fi ab fs ms a b ca cb w' (methR.slice.mono _ _ _ _ hb hh) (ht.mono hb) (hg.mono hb)
 have HCP:Hid (∀ q:Bool,(q=true ↔ (nameB nm=true∧nameB su=true∧nm ≠ su∧¬ (fi=true∧ab=true)∧FieldsP fs∧MethsP ms ab))→q=clsOk ⟨nm,su,fi,ab,fs,ms⟩):=fun q hq=>by
  have hiff:=hq.trans (clsP_iff ⟨nm,su,fi,ab,fs,ms⟩).symm
  cases q
  ·exact clsOk_no (fun p=>by have:=hiff.2 p;cases this)
  ·exact clsOk_yes (hiff.1 rfl)
 clear hc hh ht hg hnm hsu
 unfold clsV
 simp only
 generalize clsOk ⟨nm,su,fi,ab,fs,ms⟩=res at *
 generalize FieldsP fs=FP at *
 generalize MethsP ms ab=MP at *
 cases hb1:nameB nm
 ·have HZ:Hid (false=res):=HCP.out false ⟨fun h=>(by cases h),fun p=>by rw [hb1] at p;cases p.1⟩
  rw [hb1] at HN1
  go_enter Tryz.func105,Tryz.ntmps105
  go_wp2_with fail
  have x0:(w.alloc (.cells #[.string nm,.string su,.bool fi,.bool ab,.slice a fs.length ca,.slice b ms.length cb] 51)).cell? ⟨w.heap.size,0,none⟩=some (.string nm):=by simp [go_sem]
  have x1:(w.alloc (.cells #[.string nm,.string su,.bool fi,.bool ab,.slice a fs.length ca,.slice b ms.length cb] 51)).cell? ⟨w.heap.size,1,none⟩=some (.string su):=by simp [go_sem]
  have x2:(w.alloc (.cells #[.string nm,.string su,.bool fi,.bool ab,.slice a fs.length ca,.slice b ms.length cb] 51)).cell? ⟨w.heap.size,2,none⟩=some (.bool fi):=by simp [go_sem]
  have x3:(w.alloc (.cells #[.string nm,.string su,.bool fi,.bool ab,.slice a fs.length ca,.slice b ms.length cb] 51)).cell? ⟨w.heap.size,3,none⟩=some (.bool ab):=by simp [go_sem]
  have x4:(w.alloc (.cells #[.string nm,.string su,.bool fi,.bool ab,.slice a fs.length ca,.slice b ms.length cb] 51)).cell? ⟨w.heap.size,4,none⟩=some (.slice a fs.length ca):=by simp [go_sem]
  have x5:(w.alloc (.cells #[.string nm,.string su,.bool fi,.bool ab,.slice a fs.length ca,.slice b ms.length cb] 51)).cell? ⟨w.heap.size,5,none⟩=some (.slice b ms.length cb):=by simp [go_sem]
  have hz:w.heap.size<(w.alloc (.cells #[.string nm,.string su,.bool fi,.bool ab,.slice a fs.length ca,.slice b ms.length cb] 51)).heap.size:=by simp
  have HB:Hid (Below w.heap.size w (w.alloc (.cells #[.string nm,.string su,.bool fi,.bool ab,.slice a fs.length ca,.slice b ms.length cb] 51))):=(Below.refl _ _).alloc (Nat.le_refl _) _
  generalize w.alloc (.cells #[.string nm,.string su,.bool fi,.bool ab,.slice a fs.length ca,.slice b ms.length cb] 51)=W at *
  refine Calls.mono (HN1.out _) ?_
  rintro e w2 ⟨rfl,hb2⟩
  replace x0:=carry hb2 hz x0
  replace x1:=carry hb2 hz x1
  replace x2:=carry hb2 hz x2
  replace x3:=carry hb2 hz x3
  replace x4:=carry hb2 hz x4
  replace x5:=carry hb2 hz x5
  replace hz:w.heap.size<w2.heap.size:=Nat.lt_of_lt_of_le hz hb2.size
  replace HB:Hid (Below w.heap.size w w2):=HB.out.trans (hb2.mono HB.out.size)
  clear hb2
  go_wp2
  go_ret
  exact⟨rB HZ.out,HB.out⟩
 rw [hb1] at HN1 HCP
 cases hb2:nameB su
 ·have HZ:Hid (false=res):=HCP.out false ⟨fun h=>(by cases h),fun p=>by rw [hb2] at p;cases p.2.1⟩
  rw [hb2] at HN2
  go_enter Tryz.func105,Tryz.ntmps105
  go_wp2_with fail
  have x0:(w.alloc (.cells #[.string nm,.string su,.bool fi,.bool ab,.slice a fs.length ca,.slice b ms.length cb] 51)).cell? ⟨w.heap.size,0,none⟩=some (.string nm):=by simp [go_sem]
  have x1:(w.alloc (.cells #[.string nm,.string su,.bool fi,.bool ab,.slice a fs.length ca,.slice b ms.length cb] 51)).cell? ⟨w.heap.size,1,none⟩=some (.string su):=by simp [go_sem]
  have x2:(w.alloc (.cells #[.string nm,.string su,.bool fi,.bool ab,.slice a fs.length ca,.slice b ms.length cb] 51)).cell? ⟨w.heap.size,2,none⟩=some (.bool fi):=by simp [go_sem]
  have x3:(w.alloc (.cells #[.string nm,.string su,.bool fi,.bool ab,.slice a fs.length ca,.slice b ms.length cb] 51)).cell? ⟨w.heap.size,3,none⟩=some (.bool ab):=by simp [go_sem]
  have x4:(w.alloc (.cells #[.string nm,.string su,.bool fi,.bool ab,.slice a fs.length ca,.slice b ms.length cb] 51)).cell? ⟨w.heap.size,4,none⟩=some (.slice a fs.length ca):=by simp [go_sem]
  have x5:(w.alloc (.cells #[.string nm,.string su,.bool fi,.bool ab,.slice a fs.length ca,.slice b ms.length cb] 51)).cell? ⟨w.heap.size,5,none⟩=some (.slice b ms.length cb):=by simp [go_sem]
  have hz:w.heap.size<(w.alloc (.cells #[.string nm,.string su,.bool fi,.bool ab,.slice a fs.length ca,.slice b ms.length cb] 51)).heap.size:=by simp
  have HB:Hid (Below w.heap.size w (w.alloc (.cells #[.string nm,.string su,.bool fi,.bool ab,.slice a fs.length ca,.slice b ms.length cb] 51))):=(Below.refl _ _).alloc (Nat.le_refl _) _
  generalize w.alloc (.cells #[.string nm,.string su,.bool fi,.bool ab,.slice a fs.length ca,.slice b ms.length cb] 51)=W at *
  refine Calls.mono (HN1.out _) ?_
  rintro e w2 ⟨rfl,hb2⟩
  replace x0:=carry hb2 hz x0
  replace x1:=carry hb2 hz x1
  replace x2:=carry hb2 hz x2
  replace x3:=carry hb2 hz x3
  replace x4:=carry hb2 hz x4
  replace x5:=carry hb2 hz x5
  replace hz:w.heap.size<w2.heap.size:=Nat.lt_of_lt_of_le hz hb2.size
  replace HB:Hid (Below w.heap.size w w2):=HB.out.trans (hb2.mono HB.out.size)
  clear hb2
  go_wp2_with fail
  refine Calls.mono (HN2.out _) ?_
  rintro e w3 ⟨rfl,hb3⟩
  replace x0:=carry hb3 hz x0
  replace x1:=carry hb3 hz x1
  replace x2:=carry hb3 hz x2
  replace x3:=carry hb3 hz x3
  replace x4:=carry hb3 hz x4
  replace x5:=carry hb3 hz x5
  replace hz:w.heap.size<w3.heap.size:=Nat.lt_of_lt_of_le hz hb3.size
  replace HB:Hid (Below w.heap.size w w3):=HB.out.trans (hb3.mono HB.out.size)
  clear hb3
  go_wp2
  go_ret
  exact⟨rB HZ.out,HB.out⟩
 rw [hb2] at HN2 HCP
 clear hb1 hb2
 by_cases hne:nm=su
 ·have HZ:Hid (false=res):=HCP.out false ⟨fun h=>(by cases h),fun p=>absurd hne p.2.2.1⟩
  have ee:=text_eq hne
  clear hne
  go_enter Tryz.func105,Tryz.ntmps105
  go_wp2_with fail
  have x0:(w.alloc (.cells #[.string nm,.string su,.bool fi,.bool ab,.slice a fs.length ca,.slice b ms.length cb] 51)).cell? ⟨w.heap.size,0,none⟩=some (.string nm):=by simp [go_sem]
  have x1:(w.alloc (.cells #[.string nm,.string su,.bool fi,.bool ab,.slice a fs.length ca,.slice b ms.length cb] 51)).cell? ⟨w.heap.size,1,none⟩=some (.string su):=by simp [go_sem]
  have x2:(w.alloc (.cells #[.string nm,.string su,.bool fi,.bool ab,.slice a fs.length ca,.slice b ms.length cb] 51)).cell? ⟨w.heap.size,2,none⟩=some (.bool fi):=by simp [go_sem]
  have x3:(w.alloc (.cells #[.string nm,.string su,.bool fi,.bool ab,.slice a fs.length ca,.slice b ms.length cb] 51)).cell? ⟨w.heap.size,3,none⟩=some (.bool ab):=by simp [go_sem]
  have x4:(w.alloc (.cells #[.string nm,.string su,.bool fi,.bool ab,.slice a fs.length ca,.slice b ms.length cb] 51)).cell? ⟨w.heap.size,4,none⟩=some (.slice a fs.length ca):=by simp [go_sem]
  have x5:(w.alloc (.cells #[.string nm,.string su,.bool fi,.bool ab,.slice a fs.length ca,.slice b ms.length cb] 51)).cell? ⟨w.heap.size,5,none⟩=some (.slice b ms.length cb):=by simp [go_sem]
  have hz:w.heap.size<(w.alloc (.cells #[.string nm,.string su,.bool fi,.bool ab,.slice a fs.length ca,.slice b ms.length cb] 51)).heap.size:=by simp
  have HB:Hid (Below w.heap.size w (w.alloc (.cells #[.string nm,.string su,.bool fi,.bool ab,.slice a fs.length ca,.slice b ms.length cb] 51))):=(Below.refl _ _).alloc (Nat.le_refl _) _
  generalize w.alloc (.cells #[.string nm,.string su,.bool fi,.bool ab,.slice a fs.length ca,.slice b ms.length cb] 51)=W at *
  refine Calls.mono (HN1.out _) ?_
  rintro e w2 ⟨rfl,hb2⟩
  replace x0:=carry hb2 hz x0
  replace x1:=carry hb2 hz x1
  replace x2:=carry hb2 hz x2
  replace x3:=carry hb2 hz x3
  replace x4:=carry hb2 hz x4
  replace x5:=carry hb2 hz x5
  replace hz:w.heap.size<w2.heap.size:=Nat.lt_of_lt_of_le hz hb2.size
  replace HB:Hid (Below w.heap.size w w2):=HB.out.trans (hb2.mono HB.out.size)
  clear hb2
  go_wp2_with fail
  refine Calls.mono (HN2.out _) ?_
  rintro e w3 ⟨rfl,hb3⟩
  replace x0:=carry hb3 hz x0
  replace x1:=carry hb3 hz x1
  replace x2:=carry hb3 hz x2
  replace x3:=carry hb3 hz x3
  replace x4:=carry hb3 hz x4
  replace x5:=carry hb3 hz x5
  replace hz:w.heap.size<w3.heap.size:=Nat.lt_of_lt_of_le hz hb3.size
  replace HB:Hid (Below w.heap.size w w3):=HB.out.trans (hb3.mono HB.out.size)
  clear hb3
  go_wp2
  go_ret
  exact⟨rB HZ.out,HB.out⟩
 have ee:=text_ne hne
 cases fi
 ·have HK:Hid (∀ q:Bool,(q=true ↔ (FP∧MP))→q=res):=fun q hq=>HCP.out q (hq.trans ⟨fun h=>⟨rfl,rfl,hne,(fun h=>by cases h.1),h.1,h.2⟩,fun p=>⟨p.2.2.2.2.1,p.2.2.2.2.2⟩⟩)
  clear HCP hne
  go_enter Tryz.func105,Tryz.ntmps105
  go_wp2_with fail
  have x0:(w.alloc (.cells #[.string nm,.string su,.bool false,.bool ab,.slice a fs.length ca,.slice b ms.length cb] 51)).cell? ⟨w.heap.size,0,none⟩=some (.string nm):=by simp [go_sem]
  have x1:(w.alloc (.cells #[.string nm,.string su,.bool false,.bool ab,.slice a fs.length ca,.slice b ms.length cb] 51)).cell? ⟨w.heap.size,1,none⟩=some (.string su):=by simp [go_sem]
  have x2:(w.alloc (.cells #[.string nm,.string su,.bool false,.bool ab,.slice a fs.length ca,.slice b ms.length cb] 51)).cell? ⟨w.heap.size,2,none⟩=some (.bool false):=by simp [go_sem]
  have x3:(w.alloc (.cells #[.string nm,.string su,.bool false,.bool ab,.slice a fs.length ca,.slice b ms.length cb] 51)).cell? ⟨w.heap.size,3,none⟩=some (.bool ab):=by simp [go_sem]
  have x4:(w.alloc (.cells #[.string nm,.string su,.bool false,.bool ab,.slice a fs.length ca,.slice b ms.length cb] 51)).cell? ⟨w.heap.size,4,none⟩=some (.slice a fs.length ca):=by simp [go_sem]
  have x5:(w.alloc (.cells #[.string nm,.string su,.bool false,.bool ab,.slice a fs.length ca,.slice b ms.length cb] 51)).cell? ⟨w.heap.size,5,none⟩=some (.slice b ms.length cb):=by simp [go_sem]
  have hz:w.heap.size<(w.alloc (.cells #[.string nm,.string su,.bool false,.bool ab,.slice a fs.length ca,.slice b ms.length cb] 51)).heap.size:=by simp
  have HB:Hid (Below w.heap.size w (w.alloc (.cells #[.string nm,.string su,.bool false,.bool ab,.slice a fs.length ca,.slice b ms.length cb] 51))):=(Below.refl _ _).alloc (Nat.le_refl _) _
  generalize w.alloc (.cells #[.string nm,.string su,.bool false,.bool ab,.slice a fs.length ca,.slice b ms.length cb] 51)=W at *
  refine Calls.mono (HN1.out _) ?_
  rintro e w2 ⟨rfl,hb2⟩
  replace x0:=carry hb2 hz x0
  replace x1:=carry hb2 hz x1
  replace x2:=carry hb2 hz x2
  replace x3:=carry hb2 hz x3
  replace x4:=carry hb2 hz x4
  replace x5:=carry hb2 hz x5
  replace hz:w.heap.size<w2.heap.size:=Nat.lt_of_lt_of_le hz hb2.size
  replace HB:Hid (Below w.heap.size w w2):=HB.out.trans (hb2.mono HB.out.size)
  clear hb2
  go_wp2_with fail
  refine Calls.mono (HN2.out _) ?_
  rintro e w3 ⟨rfl,hb3⟩
  replace x0:=carry hb3 hz x0
  replace x1:=carry hb3 hz x1
  replace x2:=carry hb3 hz x2
  replace x3:=carry hb3 hz x3
  replace x4:=carry hb3 hz x4
  replace x5:=carry hb3 hz x5
  replace hz:w.heap.size<w3.heap.size:=Nat.lt_of_lt_of_le hz hb3.size
  replace HB:Hid (Below w.heap.size w w3):=HB.out.trans (hb3.mono HB.out.size)
  clear hb3
  go_wp2_with fail
  refine Calls.mono (HFs.out _ HB.out) ?_
  rintro e w4 ⟨⟨q,rfl,hq⟩,hb4⟩
  replace x0:=carry hb4 hz x0
  replace x1:=carry hb4 hz x1
  replace x2:=carry hb4 hz x2
  replace x3:=carry hb4 hz x3
  replace x4:=carry hb4 hz x4
  replace x5:=carry hb4 hz x5
  replace hz:w.heap.size<w4.heap.size:=Nat.lt_of_lt_of_le hz hb4.size
  replace HB:Hid (Below w.heap.size w w4):=HB.out.trans (hb4.mono HB.out.size)
  clear hb4
  cases q
  ·have HZ:Hid (false=res):=HK.out false ⟨fun h=>(by cases h),fun p=>hq.2 p.1⟩
   clear hq
   go_wp2
   go_ret
   exact⟨rB HZ.out,HB.out⟩
  ·go_wp2_with fail
   refine Calls.mono (HMs.out _ HB.out) ?_
   rintro e w5 ⟨⟨q,rfl,hq5⟩,hb5⟩
   have HZ:Hid (q=res):=HK.out q ⟨fun h=>⟨hq.1 (by first | rfl | trivial),hq5.1 h⟩,fun p=>hq5.2 p.2⟩
   have HB5:Hid (Below w.heap.size w w5):=HB.out.trans (hb5.mono HB.out.size)
   clear hb5 hq hq5
   go_wp2
   go_ret
   exact⟨rB HZ.out,HB5.out⟩
 ·cases ab
  ·have HK:Hid (∀ q:Bool,(q=true ↔ (FP∧MP))→q=res):=fun q hq=>HCP.out q (hq.trans ⟨fun h=>⟨rfl,rfl,hne,(fun h=>by cases h.2),h.1,h.2⟩,fun p=>⟨p.2.2.2.2.1,p.2.2.2.2.2⟩⟩)
   clear HCP hne
   go_enter Tryz.func105,Tryz.ntmps105
   go_wp2_with fail
   have x0:(w.alloc (.cells #[.string nm,.string su,.bool true,.bool false,.slice a fs.length ca,.slice b ms.length cb] 51)).cell? ⟨w.heap.size,0,none⟩=some (.string nm):=by simp [go_sem]
   have x1:(w.alloc (.cells #[.string nm,.string su,.bool true,.bool false,.slice a fs.length ca,.slice b ms.length cb] 51)).cell? ⟨w.heap.size,1,none⟩=some (.string su):=by simp [go_sem]
   have x2:(w.alloc (.cells #[.string nm,.string su,.bool true,.bool false,.slice a fs.length ca,.slice b ms.length cb] 51)).cell? ⟨w.heap.size,2,none⟩=some (.bool true):=by simp [go_sem]
   have x3:(w.alloc (.cells #[.string nm,.string su,.bool true,.bool false,.slice a fs.length ca,.slice b ms.length cb] 51)).cell? ⟨w.heap.size,3,none⟩=some (.bool false):=by simp [go_sem]
   have x4:(w.alloc (.cells #[.string nm,.string su,.bool true,.bool false,.slice a fs.length ca,.slice b ms.length cb] 51)).cell? ⟨w.heap.size,4,none⟩=some (.slice a fs.length ca):=by simp [go_sem]
   have x5:(w.alloc (.cells #[.string nm,.string su,.bool true,.bool false,.slice a fs.length ca,.slice b ms.length cb] 51)).cell? ⟨w.heap.size,5,none⟩=some (.slice b ms.length cb):=by simp [go_sem]
   have hz:w.heap.size<(w.alloc (.cells #[.string nm,.string su,.bool true,.bool false,.slice a fs.length ca,.slice b ms.length cb] 51)).heap.size:=by simp
   have HB:Hid (Below w.heap.size w (w.alloc (.cells #[.string nm,.string su,.bool true,.bool false,.slice a fs.length ca,.slice b ms.length cb] 51))):=(Below.refl _ _).alloc (Nat.le_refl _) _
   generalize w.alloc (.cells #[.string nm,.string su,.bool true,.bool false,.slice a fs.length ca,.slice b ms.length cb] 51)=W at *
   refine Calls.mono (HN1.out _) ?_
   rintro e w2 ⟨rfl,hb2⟩
   replace x0:=carry hb2 hz x0
   replace x1:=carry hb2 hz x1
   replace x2:=carry hb2 hz x2
   replace x3:=carry hb2 hz x3
   replace x4:=carry hb2 hz x4
   replace x5:=carry hb2 hz x5
   replace hz:w.heap.size<w2.heap.size:=Nat.lt_of_lt_of_le hz hb2.size
   replace HB:Hid (Below w.heap.size w w2):=HB.out.trans (hb2.mono HB.out.size)
   clear hb2
   go_wp2_with fail
   refine Calls.mono (HN2.out _) ?_
   rintro e w3 ⟨rfl,hb3⟩
   replace x0:=carry hb3 hz x0
   replace x1:=carry hb3 hz x1
   replace x2:=carry hb3 hz x2
   replace x3:=carry hb3 hz x3
   replace x4:=carry hb3 hz x4
   replace x5:=carry hb3 hz x5
   replace hz:w.heap.size<w3.heap.size:=Nat.lt_of_lt_of_le hz hb3.size
   replace HB:Hid (Below w.heap.size w w3):=HB.out.trans (hb3.mono HB.out.size)
   clear hb3
   go_wp2_with fail
   refine Calls.mono (HFs.out _ HB.out) ?_
   rintro e w4 ⟨⟨q,rfl,hq⟩,hb4⟩
   replace x0:=carry hb4 hz x0
   replace x1:=carry hb4 hz x1
   replace x2:=carry hb4 hz x2
   replace x3:=carry hb4 hz x3
   replace x4:=carry hb4 hz x4
   replace x5:=carry hb4 hz x5
   replace hz:w.heap.size<w4.heap.size:=Nat.lt_of_lt_of_le hz hb4.size
   replace HB:Hid (Below w.heap.size w w4):=HB.out.trans (hb4.mono HB.out.size)
   clear hb4
   cases q
   ·have HZ:Hid (false=res):=HK.out false ⟨fun h=>(by cases h),fun p=>hq.2 p.1⟩
    clear hq
    go_wp2
    go_ret
    exact⟨rB HZ.out,HB.out⟩
   ·go_wp2_with fail
    refine Calls.mono (HMs.out _ HB.out) ?_
    rintro e w5 ⟨⟨q,rfl,hq5⟩,hb5⟩
    have HZ:Hid (q=res):=HK.out q ⟨fun h=>⟨hq.1 (by first | rfl | trivial),hq5.1 h⟩,fun p=>hq5.2 p.2⟩
    have HB5:Hid (Below w.heap.size w w5):=HB.out.trans (hb5.mono HB.out.size)
    clear hb5 hq hq5
    go_wp2
    go_ret
    exact⟨rB HZ.out,HB5.out⟩
  ·have HZ:Hid (false=res):=HCP.out false ⟨fun h=>(by cases h),fun p=>(p.2.2.2.1 ⟨rfl,rfl⟩).elim⟩
   go_enter Tryz.func105,Tryz.ntmps105
   go_wp2_with fail
   have x0:(w.alloc (.cells #[.string nm,.string su,.bool true,.bool true,.slice a fs.length ca,.slice b ms.length cb] 51)).cell? ⟨w.heap.size,0,none⟩=some (.string nm):=by simp [go_sem]
   have x1:(w.alloc (.cells #[.string nm,.string su,.bool true,.bool true,.slice a fs.length ca,.slice b ms.length cb] 51)).cell? ⟨w.heap.size,1,none⟩=some (.string su):=by simp [go_sem]
   have x2:(w.alloc (.cells #[.string nm,.string su,.bool true,.bool true,.slice a fs.length ca,.slice b ms.length cb] 51)).cell? ⟨w.heap.size,2,none⟩=some (.bool true):=by simp [go_sem]
   have x3:(w.alloc (.cells #[.string nm,.string su,.bool true,.bool true,.slice a fs.length ca,.slice b ms.length cb] 51)).cell? ⟨w.heap.size,3,none⟩=some (.bool true):=by simp [go_sem]
   have x4:(w.alloc (.cells #[.string nm,.string su,.bool true,.bool true,.slice a fs.length ca,.slice b ms.length cb] 51)).cell? ⟨w.heap.size,4,none⟩=some (.slice a fs.length ca):=by simp [go_sem]
   have x5:(w.alloc (.cells #[.string nm,.string su,.bool true,.bool true,.slice a fs.length ca,.slice b ms.length cb] 51)).cell? ⟨w.heap.size,5,none⟩=some (.slice b ms.length cb):=by simp [go_sem]
   have hz:w.heap.size<(w.alloc (.cells #[.string nm,.string su,.bool true,.bool true,.slice a fs.length ca,.slice b ms.length cb] 51)).heap.size:=by simp
   have HB:Hid (Below w.heap.size w (w.alloc (.cells #[.string nm,.string su,.bool true,.bool true,.slice a fs.length ca,.slice b ms.length cb] 51))):=(Below.refl _ _).alloc (Nat.le_refl _) _
   generalize w.alloc (.cells #[.string nm,.string su,.bool true,.bool true,.slice a fs.length ca,.slice b ms.length cb] 51)=W at *
   refine Calls.mono (HN1.out _) ?_
   rintro e w2 ⟨rfl,hb2⟩
   replace x0:=carry hb2 hz x0
   replace x1:=carry hb2 hz x1
   replace x2:=carry hb2 hz x2
   replace x3:=carry hb2 hz x3
   replace x4:=carry hb2 hz x4
   replace x5:=carry hb2 hz x5
   replace hz:w.heap.size<w2.heap.size:=Nat.lt_of_lt_of_le hz hb2.size
   replace HB:Hid (Below w.heap.size w w2):=HB.out.trans (hb2.mono HB.out.size)
   clear hb2
   go_wp2_with fail
   refine Calls.mono (HN2.out _) ?_
   rintro e w3 ⟨rfl,hb3⟩
   replace x0:=carry hb3 hz x0
   replace x1:=carry hb3 hz x1
   replace x2:=carry hb3 hz x2
   replace x3:=carry hb3 hz x3
   replace x4:=carry hb3 hz x4
   replace x5:=carry hb3 hz x5
   replace hz:w.heap.size<w3.heap.size:=Nat.lt_of_lt_of_le hz hb3.size
   replace HB:Hid (Below w.heap.size w w3):=HB.out.trans (hb3.mono HB.out.size)
   clear hb3
   go_wp2
   go_ret
   exact⟨rB HZ.out,HB.out⟩
end Go.Proofs.YtmhgaggpdggbeaaGreatDoor
