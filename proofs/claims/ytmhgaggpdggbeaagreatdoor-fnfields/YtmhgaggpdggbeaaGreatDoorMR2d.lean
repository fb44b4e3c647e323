import Derived.Test.YtmhgaggpdggbeaaGreatDoorIns4
import Derived.Test.YtmhgaggpdggbeaaGreatDoorMOpn
namespace Go.Proofs.YtmhgaggpdggbeaaGreatDoor
open Go.RowKit
set_option maxRecDepth 20000
set_option linter.unusedVariables false

def insGood (x:InsD) (many:Int):Bool:=insOk (fmS x.1) x.2.1 x.2.2.1 x.2.2.2.1 x.2.2.2.2 && !((fmS x.1).toList == [116] && decide (many≤x.2.1))
def codeB (xs:List InsD) (many:Int):Bool:=xs.all (fun x=>insGood x many)
def hGood (h:HandlerD) (many:Int):Bool:=decide (0≤h.1) && (decide (h.1<h.2.1) && (decide (h.2.1≤many) && (decide (0≤h.2.2.1) && (decide (h.2.2.1<many) && nameB h.2.2.2))))
def handsB (hs:List HandlerD) (many:Int):Bool:=hs.all (fun h=>hGood h many)
def initB (n:ByteArray):Bool:=n.toList == [60,105,110,105,116,62]

theorem all_at_false {α:Type} {xs:List α} {p:α→Bool} (i:Nat) (h:i<xs.length) (hp:p xs[i]=false):xs.all p=false:=by
 rw [List.all_eq_false]
 exact⟨xs[i],List.getElem_mem h,by simp [hp]⟩
theorem all_at_true {α:Type} {xs:List α} {p:α→Bool} (hp:∀ i (h:i<xs.length),p xs[i]=true):xs.all p=true:=by
 rw [List.all_eq_true]
 intro x hx
 obtain ⟨i,h,rfl⟩:=List.mem_iff_getElem.1 hx
 exact hp i h

set_option maxHeartbeats 2000000 in
theorem implCode (v:Value) (xs:List InsD) (w:World) (h:insR.slice.In w [v] xs) (ht:Tab w) (hg:Glob w) :
  Calls Tryz.prog 162 #[v] w fun e w'=>e = .returned (.bool (decide (1≤xs.length∧xs.length≤60) && codeB xs xs.length))∧Below w.heap.size w w':=by
 obtain ⟨a,cap,rfl,hcap,hmax,hat⟩:=slice_open (by decide) h
 unfold maxLen at hmax
 have HA:=(show Hid (∀ i (h:i<xs.length),∃ b o,a=some ⟨b,o,none⟩∧insR.At w ⟨b,o,none⟩ i xs[i]) from hat)
 have HT:=(show Hid (Tab w) from ht)
 have HG:=(show Hid (Glob w) from hg)
 clear hat ht hg h
 by_cases c0:xs.length=0
 ·have d0:((xs.length:Int) == 0)=true:=by rw [beq_iff_eq];omega
  have HZ:Hid (false=(decide (1≤xs.length∧xs.length≤60) && codeB xs xs.length)):=by show _=_;rw [decide_eq_false (by omega)];rfl
  go_enter Tryz.func162,Tryz.ntmps162
  go_wp2
  go_ret
  exact⟨rB HZ.out,Below.refl _ _⟩
 ·have d0:((xs.length:Int) == 0)=false:=by rw [beq_eq_false_iff_ne];omega
  by_cases c1:60<xs.length
  ·have d1:decide ((60:Int)<xs.length)=true:=by simp;omega
   have HZ:Hid (false=(decide (1≤xs.length∧xs.length≤60) && codeB xs xs.length)):=by show _=_;rw [decide_eq_false (by omega)];rfl
   go_enter Tryz.func162,Tryz.ntmps162
   go_wp2
   go_ret
   exact⟨rB HZ.out,Below.refl _ _⟩
  ·have d1:decide ((60:Int)<xs.length)=false:=by simp;omega
   have HV:Hid ((decide (1≤xs.length∧xs.length≤60) && codeB xs xs.length)=codeB xs xs.length):=by show _=_;rw [decide_eq_true (by omega)];rfl
   go_enter Tryz.func162,Tryz.ntmps162
   go_wp2_with fail
   go_loopw [16] (fun j16 wr=>∃ i:Nat,i≤xs.length∧j16 = .int .i64 (i:Int)∧Below w.heap.size w wr∧∀ k (hk:k<xs.length),k<i→insGood xs[k] xs.length=true) (fun j16 _=>xs.length - (intOf j16).toNat)
   case atStart=>exact⟨0,Nat.zero_le _,rfl,Below.refl _ _,fun k hk hk0=>by omega⟩
   case round =>
    obtain ⟨i,hi,rfl,hb,hgood⟩:=hrel
    have HB:Hid (Below w.heap.size w wr):=hb
    have HGd:=(show Hid (∀ k (hk:k<xs.length),k<i→insGood xs[k] xs.length=true) from hgood)
    clear hb hgood
    by_cases hlt:i<xs.length
    ·obtain ⟨b,o,rfl,hx⟩:=HA.out i hlt
     obtain ⟨g0,g1,g2,g3,g4,r0,r1,s2,s3,s4⟩:=insAt (hx.mono HB.out)
     have HE:Hid (insGood xs[i] xs.length=false→false=(decide (1≤xs.length∧xs.length≤60) && codeB xs xs.length)):=fun hf=>by
      rw [HV.out];exact (all_at_false (p:=fun x=>insGood x xs.length) i hlt hf).symm
     have HE2:Hid (insGood xs[i] xs.length=true→∀ k (hk:k<xs.length),k<i+1→insGood xs[k] xs.length=true):=fun hf k hk hk1=>by
      by_cases e:k=i
      ·subst e;exact hf
      ·exact HGd.out k hk (by omega)
     clear hx HGd
     generalize xs[i]=d at *
     obtain ⟨op,a1,c,n,ds⟩:=d
     simp only at g0 g1 g2 g3 g4 r0 r1 s2 s3 s4
     have HI:Hid (∀ w,Tab w→Glob w→Calls Tryz.prog 171 #[.agg #[.int .i64 op,.int .i64 a1,.string c,.string n,.string ds]] w fun e w'=>e = .returned (.bool (insOk (fmS op) a1 c n ds))∧Below w.heap.size w w'):=fun w ht hg=>implInsRight op a1 c n ds w ht hg r1 s2 s3 s4
     have HF:Hid (∀ w,Tab w→Calls Tryz.prog 172 #[.int .i64 op] w fun e w'=>e = .returned (.string (fmS op))∧Below w.heap.size w w'):=fun w h=>implOpForm op w h
     unfold insGood at HE HE2
     simp only at HE HE2
     clear r0 r1 s2 s3 s4
     generalize insOk (fmS op) a1 c n ds=q at *
     generalize fmS op=fm at *
     have HB1:Hid (∀ o,Below w.heap.size w (wr.alloc o)):=fun o=>HB.out.alloc HB.out.size o
     go_wp2_with fail
     refine Calls.mono (HI.out _ (HT.out.mono (HB1.out _)) (HG.out.mono (HB1.out _))) ?_
     rintro e w1 ⟨rfl,hb1⟩
     cases q
     ·have HB2:Hid (Below w.heap.size w w1):=(HB1.out _).trans (hb1.mono (HB1.out _).size)
      clear hb1
      go_wp2
      go_ret
      exact⟨rB (HE.out rfl),HB2.out⟩
     ·have x0:=cC hb1 (wr.heap.size) 0 (.int .i64 op) (by simp) (by simp [go_sem])
      have x1:=cC hb1 (wr.heap.size) 1 (.int .i64 a1) (by simp) (by simp [go_sem])
      have hz1:wr.heap.size<w1.heap.size:=by have:=hb1.size;simp at this;omega
      have HB2:Hid (Below w.heap.size w w1):=(HB1.out _).trans (hb1.mono (HB1.out _).size)
      clear hb1
      go_wp2_with fail
      refine Calls.mono (HF.out _ (HT.out.mono HB2.out)) ?_
      rintro e w2 ⟨rfl,hb2⟩
      replace x0:=carry hb2 hz1 x0
      replace x1:=carry hb2 hz1 x1
      have HB3:Hid (Below w.heap.size w w2):=HB2.out.trans (hb2.mono HB2.out.size)
      clear hb2
      cases hf:(fm.toList == [116])
      ·rw [hf] at HE HE2
       go_wp2
       go_roundw
       case rel=>exact⟨i+1,by omega,rfl,HB3.out,HE2.out rfl⟩
       case measure=>simp [intOf];omega
      ·rw [hf] at HE HE2
       by_cases hl:(xs.length:Int)≤a1
       ·have dl:decide ((xs.length:Int)≤a1)=true:=by simpa using hl
        rw [dl] at HE HE2
        go_wp2
        go_ret
        exact⟨rB (HE.out rfl),HB3.out⟩
       ·have dl:decide ((xs.length:Int)≤a1)=false:=by simpa using hl
        rw [dl] at HE HE2
        go_wp2
        go_roundw
        case rel=>exact⟨i+1,by omega,rfl,HB3.out,HE2.out rfl⟩
        case measure=>simp [intOf];omega
    ·obtain rfl:i=xs.length:=by omega
     have HZ:Hid (true=(decide (1≤xs.length∧xs.length≤60) && codeB xs xs.length)):=by
      show _=_
      rw [HV.out]
      exact (all_at_true (p:=fun x=>insGood x xs.length) (fun k hk=>HGd.out k hk hk)).symm
     go_wp2
     go_ret
     exact⟨rB HZ.out,HB.out⟩

set_option maxHeartbeats 2000000 in
theorem implHands (v:Value) (xs:List HandlerD) (many:Int) (w:World) (h:handlerR.slice.In w [v] xs) :
  Calls Tryz.prog 163 #[v,.int .i64 many] w fun e w'=>e = .returned (.bool (decide (xs.length≤6) && handsB xs many))∧Below w.heap.size w w':=by
 obtain ⟨a,cap,rfl,hcap,hmax,hat⟩:=slice_open (by decide) h
 unfold maxLen at hmax
 have HA:=(show Hid (∀ i (h:i<xs.length),∃ b o,a=some ⟨b,o,none⟩∧handlerR.At w ⟨b,o,none⟩ i xs[i]) from hat)
 clear hat h
 by_cases c1:6<xs.length
 ·have d1:decide ((6:Int)<xs.length)=true:=by simp;omega
  have HZ:Hid (false=(decide (xs.length≤6) && handsB xs many)):=by show _=_;rw [decide_eq_false (by omega)];rfl
  go_enter Tryz.func163,Tryz.ntmps163
  go_wp2
  go_ret
  exact⟨rB HZ.out,Below.refl _ _⟩
 ·have d1:decide ((6:Int)<xs.length)=false:=by simp;omega
  have HV:Hid ((decide (xs.length≤6) && handsB xs many)=handsB xs many):=by show _=_;rw [decide_eq_true (by omega)];rfl
  go_enter Tryz.func163,Tryz.ntmps163
  go_wp2_with fail
  go_loopw [12] (fun j12 wr=>∃ i:Nat,i≤xs.length∧j12 = .int .i64 (i:Int)∧Below w.heap.size w wr∧∀ k (hk:k<xs.length),k<i→hGood xs[k] many=true) (fun j12 _=>xs.length - (intOf j12).toNat)
  case atStart=>exact⟨0,Nat.zero_le _,rfl,Below.refl _ _,fun k hk hk0=>by omega⟩
  case round =>
   obtain ⟨i,hi,rfl,hb,hgood⟩:=hrel
   have HB:Hid (Below w.heap.size w wr):=hb
   have HGd:=(show Hid (∀ k (hk:k<xs.length),k<i→hGood xs[k] many=true) from hgood)
   clear hb hgood
   by_cases hlt:i<xs.length
   ·obtain ⟨b,o,rfl,hx⟩:=HA.out i hlt
    obtain ⟨g0,g1,g2,g3,s3⟩:=handlerAt (hx.mono HB.out)
    have HE:Hid (hGood xs[i] many=false→false=(decide (xs.length≤6) && handsB xs many)):=fun hf=>by
     rw [HV.out];exact (all_at_false (p:=fun x=>hGood x many) i hlt hf).symm
    have HE2:Hid (hGood xs[i] many=true→∀ k (hk:k<xs.length),k<i+1→hGood xs[k] many=true):=fun hf k hk hk1=>by
     by_cases e:k=i
     ·subst e;exact hf
     ·exact HGd.out k hk (by omega)
    clear hx HGd
    generalize xs[i]=d at *
    obtain ⟨fr,to,at_,c⟩:=d
    simp only at g0 g1 g2 g3 s3
    have HN:Hid (∀ w,Calls Tryz.prog 127 #[.string c] w fun e w'=>e = .returned (.bool (nameB c))∧Below w.heap.size w w'):=fun w=>implNameRight c w s3
    unfold hGood at HE HE2
    simp only at HE HE2
    clear s3
    generalize nameB c=q at *
    have HB1:Hid (∀ o,Below w.heap.size w (wr.alloc o)):=fun o=>HB.out.alloc HB.out.size o
    by_cases e0:0≤fr
    ·have f0:decide (0≤fr)=true:=by simpa using e0
     have f0':decide (fr<0)=false:=by simp;omega
     rw [f0] at HE HE2
     by_cases e1:fr<to
     ·have f1:decide (fr<to)=true:=by simpa using e1
      have f1':decide (to≤fr)=false:=by simp;omega
      rw [f1] at HE HE2
      by_cases e2:to≤many
      ·have f2:decide (to≤many)=true:=by simpa using e2
       have f2':decide (many<to)=false:=by simp;omega
       rw [f2] at HE HE2
       have HP:Hid (∀ w,Calls Tryz.prog 159 #[.int .i64 at_,.int .i64 many] w fun e w'=>e = .returned (.bool (isP at_ many))∧w'=w):=fun w=>implIsPlace at_ many w
       have hisp:isP at_ many=(decide (0≤at_) && decide (at_<many)):=by unfold isP;simp
       have HQ:Hid ((true && (true && (true && (isP at_ many && q))))=false→false=(decide (xs.length≤6) && handsB xs many)):=fun hf=>HE.out (by rw [hisp,Bool.and_assoc] at hf;exact hf)
       have HQ2:Hid ((true && (true && (true && (isP at_ many && q))))=true→∀ k (hk:k<xs.length),k<i+1→hGood xs[k] many=true):=fun hf=>HE2.out (by rw [hisp,Bool.and_assoc] at hf;exact hf)
       clear hisp HE HE2
       generalize isP at_ many=p at *
       go_wp2_with fail
       refine Calls.mono (HP.out _) ?_
       rintro e w1 ⟨rfl,hw1⟩
       subst w1
       cases p
       ·go_wp2
        go_ret
        exact⟨rB (HQ.out rfl),HB1.out _⟩
       ·go_wp2_with fail
        refine Calls.mono (HN.out _) ?_
        rintro e w2 ⟨rfl,hb2⟩
        have HB2:Hid (Below w.heap.size w w2):=(HB1.out _).trans (hb2.mono (HB1.out _).size)
        clear hb2
        cases q
        ·go_wp2
         go_ret
         exact⟨rB (HQ.out rfl),HB2.out⟩
        ·go_wp2
         go_roundw
         case rel=>exact⟨i+1,by omega,rfl,HB2.out,HQ2.out rfl⟩
         case measure=>simp [intOf];omega
      ·have f2:decide (to≤many)=false:=by simpa using e2
       have f2':decide (many<to)=true:=by simp;omega
       rw [f2] at HE
       go_wp2
       go_ret
       exact⟨rB (HE.out rfl),HB1.out _⟩
     ·have f1:decide (fr<to)=false:=by simpa using e1
      have f1':decide (to≤fr)=true:=by simp;omega
      rw [f1] at HE
      go_wp2
      go_ret
      exact⟨rB (HE.out rfl),HB1.out _⟩
    ·have f0:decide (0≤fr)=false:=by simpa using e0
     have f0':decide (fr<0)=true:=by simp;omega
     rw [f0] at HE
     go_wp2
     go_ret
     exact⟨rB (HE.out rfl),HB1.out _⟩
   ·obtain rfl:i=xs.length:=by omega
    have HZ:Hid (true=(decide (xs.length≤6) && handsB xs many)):=by
     show _=_
     rw [HV.out]
     exact (all_at_true (p:=fun x=>hGood x many) (fun k hk=>HGd.out k hk hk)).symm
    go_wp2
    go_ret
    exact⟨rB HZ.out,HB.out⟩

set_option maxHeartbeats 2000000 in
theorem specHandler (fr to at_:Int) (c:ByteArray) (many:Int) (w:World) (hc:c.size≤maxLen) :
  Calls Tryz.prog 121 #[.agg #[.int .i64 fr,.int .i64 to,.int .i64 at_,.string c],.int .i64 many] w fun e w'=>e = .returned (.bool (hGood (fr,to,at_,c) many))∧Below w.heap.size w w':=by
 have HN:Hid (∀ w,Calls Tryz.prog 93 #[.string c] w fun e w'=>e = .returned (.bool (nameB c))∧w'=w):=fun w=>specNameRight c w hc
 have HB0:Hid (∀ o,Below w.heap.size w (w.alloc o)):=fun o=>(Below.refl _ _).alloc (Nat.le_refl _) o
 clear hc
 unfold hGood
 simp only
 generalize nameB c=q at *
 cases f0:decide (0≤fr)
 ·go_enter Tryz.func121,Tryz.ntmps121
  go_wp2
  go_ret
  exact⟨rfl,HB0.out _⟩
 cases f1:decide (fr<to)
 ·go_enter Tryz.func121,Tryz.ntmps121
  go_wp2
  go_ret
  exact⟨rfl,HB0.out _⟩
 cases f2:decide (to≤many)
 ·go_enter Tryz.func121,Tryz.ntmps121
  go_wp2
  go_ret
  exact⟨rfl,HB0.out _⟩
 cases f3:decide (0≤at_)
 ·go_enter Tryz.func121,Tryz.ntmps121
  go_wp2
  go_ret
  exact⟨rfl,HB0.out _⟩
 cases f4:decide (at_<many)
 ·go_enter Tryz.func121,Tryz.ntmps121
  go_wp2
  go_ret
  exact⟨rfl,HB0.out _⟩
 ·go_enter Tryz.func121,Tryz.ntmps121
  go_wp2_with fail
  refine Calls.mono (HN.out _) ?_
  rintro e w1 ⟨rfl,hw1⟩
  subst w1
  go_wp2
  go_ret
  exact⟨rB (by simp),HB0.out _⟩

def absB (m:MethD):Bool:=(m.stack == 0) && ((m.locals == 0) && ((m.code.length == 0) && ((m.hands.length == 0) && (!m.static && (!m.fin && !initB m.name)))))
def takenI (m:MethD):Int:=(dN m.desc:Int)+(if m.static then 0 else 1)

set_option maxHeartbeats 2000000 in
theorem implAbs (m:MethD) (a b:Option Addr) (ca cb:Nat) (w:World) (hl1:m.code.length≤maxLen) (hl2:m.hands.length≤maxLen) :
  Calls Tryz.prog 160 #[methV m (.slice a m.code.length ca) (.slice b m.hands.length cb)] w fun e w'=>e = .returned (.bool (absB m))∧Below w.heap.size w w':=by
 obtain ⟨nm,ds,st,ab,fi,sk,lo,code,hands⟩:=m
 unfold maxLen at hl1 hl2
 simp only at hl1 hl2
 unfold methV absB initB
 simp only
 have HB0:Hid (∀ o,Below w.heap.size w (w.alloc o)):=fun o=>(Below.refl _ _).alloc (Nat.le_refl _) o
 generalize code.length=nc at *
 generalize hands.length=nh at *
 by_cases e0:sk=0
 ·subst e0
  by_cases e1:lo=0
  ·subst e1
   by_cases e2:nc=0
   ·subst e2
    by_cases e3:nh=0
    ·subst e3
     cases st
     ·cases fi
      ·cases hn:(nm.toList == [60,105,110,105,116,62])
       ·have hn':(nm.toList != [60,105,110,105,116,62])=true:=by rw [bne,hn];rfl
        go_enter Tryz.func160,Tryz.ntmps160
        go_wp2
        go_ret
        exact⟨rfl,HB0.out _⟩
       ·have hn':(nm.toList != [60,105,110,105,116,62])=false:=by rw [bne,hn];rfl
        go_enter Tryz.func160,Tryz.ntmps160
        go_wp2
        go_ret
        exact⟨rfl,HB0.out _⟩
      ·go_enter Tryz.func160,Tryz.ntmps160
       go_wp2
       go_ret
       exact⟨rfl,HB0.out _⟩
     ·go_enter Tryz.func160,Tryz.ntmps160
      go_wp2
      go_ret
      exact⟨rfl,HB0.out _⟩
    ·have d3:(nh == 0)=false:=by simpa using e3
     have d3':decide ((0:Int)<nh)=true:=by simp;omega
     go_enter Tryz.func160,Tryz.ntmps160
     go_wp2
     go_ret
     exact⟨rB (by rw [d3];rfl),HB0.out _⟩
   ·have d2:(nc == 0)=false:=by simpa using e2
    have d2':decide ((0:Int)<nc)=true:=by simp;omega
    go_enter Tryz.func160,Tryz.ntmps160
    go_wp2
    go_ret
    exact⟨rB (by rw [d2];rfl),HB0.out _⟩
  ·have d1:(lo == 0)=false:=by simpa using e1
   have d1':(lo != 0)=true:=by rw [bne,d1];rfl
   go_enter Tryz.func160,Tryz.ntmps160
   go_wp2
   go_ret
   exact⟨rB (by rw [d1];rfl),HB0.out _⟩
 ·have d0:(sk == 0)=false:=by simpa using e0
  have d0':(sk != 0)=true:=by rw [bne,d0];rfl
  go_enter Tryz.func160,Tryz.ntmps160
  go_wp2
  go_ret
  exact⟨rB (by rw [d0];rfl),HB0.out _⟩

set_option maxHeartbeats 2000000 in
theorem implLocals (m:MethD) (vc vh:Value) (a:Option Addr) (cap:Nat) (r:ByteArray) (w:World) (hl:dN m.desc≤1000) :
  Calls Tryz.prog 161 #[methV m vc vh,.agg #[.slice a (dN m.desc) cap,.string r]] w fun e w'=>e = .returned (.int .i64 (takenI m))∧Below w.heap.size w w':=by
 obtain ⟨nm,ds,st,ab,fi,sk,lo,code,hands⟩:=m
 simp only at hl
 unfold methV takenI
 simp only
 have HB0:Hid (∀ o o',Below w.heap.size w ((w.alloc o).alloc o')):=fun o o'=>((Below.refl _ _).alloc (Nat.le_refl _) o).alloc (by simp) o'
 generalize dN ds=k at *
 cases st
 ·go_enter Tryz.func161,Tryz.ntmps161
  go_wp2
  go_ret
  exact⟨rfl,HB0.out _ _⟩
 ·go_enter Tryz.func161,Tryz.ntmps161
  go_wp2
  go_ret
  exact⟨rI (by simp),HB0.out _ _⟩

theorem rdPs_len (s:ByteArray):∀ (k i:Nat) (ps:List ByteArray) (j:Nat) (qs:List ByteArray),rdPs s k i ps = .ok (j,qs)→qs.length≤ps.length+k:=by
 intro k
 induction k with
 | zero =>
  intro i ps j qs h
  unfold rdPs at h
  split at h
  ·cases h;omega
  ·cases h
 | succ k ih =>
  intro i ps j qs h
  unfold rdPs at h
  split at h
  ·cases h;omega
  ·split at h
   ·have:=ih _ _ _ _ h
    simp at this
    omega
   ·cases h

theorem dN_le (s:ByteArray):dN s≤8:=by
 unfold dN
 split
 ·omega
 ·cases hr:rdD s with
  | error k=>simp
  | ok p =>
   obtain ⟨ps,q⟩:=p
   simp only
   unfold rdD at hr
   split at hr
   ·unfold rdFrom at hr
    cases hp:rdPs s 8 1 [] with
    | error e=>rw [hp] at hr;cases hr
    | ok p2 =>
     obtain ⟨j,qs⟩:=p2
     rw [hp] at hr
     have hlen:=rdPs_len s 8 1 [] j qs hp
     simp only at hr
     unfold rdRs at hr
     split at hr
     ·split at hr
      ·cases hr;simpa using hlen
      ·cases hr
     ·cases hr
   ·cases hr
end Go.Proofs.YtmhgaggpdggbeaaGreatDoor

namespace Go.Proofs.YtmhgaggpdggbeaaGreatDoor
open Go.RowKit
set_option linter.unusedVariables false

def restB (m:MethD):Bool:=decide (1≤m.code.length∧m.code.length≤60) && (decide (takenI m≤m.locals) && (decide (m.hands.length≤6) && (codeB m.code m.code.length && (handsB m.hands m.code.length && (!initB m.name || (!m.static && (!m.fin && ((dR m.desc).toList == [86]))))))))
def mOk (m:MethD):Bool:=mNameB m.name && ((dC m.desc == 0) && (decide (0≤m.stack) && (decide (m.stack≤16) && (decide (0≤m.locals) && (decide (m.locals≤16) && (cond m.abs (absB m) (restB m)))))))

theorem init_name (n:ByteArray) (h:(n.toList == [60,105,110,105,116,62])=true):nameB n=false:=by
 rw [ByteArray.toList_eq,beq_iff_eq] at h
 have hs:n.size=6:=by
  have:n.data.toList.length=6:=by rw [h];rfl
  simpa using this
 refine nameB_at n 0 (by omega) ?_
 have hb:=byt_eq n 0 (by omega)
 have h0:n[0]'(by omega)=60:=by
  have h1:n.data.toList[0]?=some 60:=by rw [h];rfl
  have h2:n.data[0]?=some 60:=by simpa using h1
  obtain ⟨h3,h4⟩:=Array.getElem?_eq_some_iff.1 h2
  exact h4
 rw [h0] at hb
 rw [← hb]
 rfl

end Go.Proofs.YtmhgaggpdggbeaaGreatDoor
