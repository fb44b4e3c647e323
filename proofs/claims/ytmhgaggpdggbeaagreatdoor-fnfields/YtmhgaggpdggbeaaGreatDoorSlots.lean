import Derived.Test.YtmhgaggpdggbeaaGreatDoorReadD
import Derived.Test.YtmhgaggpdggbeaaGreatDoorAsHit
import Derived.Deep.RegionLaw
namespace Go.Proofs.YtmhgaggpdggbeaaGreatDoor
open Go.RowKit
set_option maxRecDepth 20000
set_option linter.unusedVariables false

def outV (v:Value) (q:ByteArray) (a c:Int):Value:=.agg #[v,.string q,.int .i64 a,.int .i64 c]

def dvOut (s:ByteArray) (w w':World) (e:Ending):Prop :=
 if 20000<s.size then e = .returned (outV (.slice none 0 0) ⟨#[]⟩ 0 2) else
 match rdD s with
 | .error k=>e = .returned (outV (.slice none 0 0) ⟨#[]⟩ (k:Int) 3)
 | .ok (ps,q)=>∃ v,e = .returned (outV v q 0 0)∧w'.ownsRow w.heap.size 9 1 v ps.length (cellsOfS ps)

def Glob (w:World):Prop:=w.cell? ⟨0,0,none⟩=some (.iface 218 (.agg #[.pointer (some ⟨2,185,none⟩)]))

theorem Glob.mono {w w':World} (h:Glob w) (hb:Below w.heap.size w w'):Glob w':=carry hb (World.block_lt_of_cell? _ _ h) h

theorem own_slice {w:World} {base:Nat} {e:TypeId} {v:Value} {n:Nat} {xs:List Value} (h:w.ownsRow base e 1 v n xs):∃ a cap,v = .slice a n cap:=by
 rcases h.2 with ⟨rfl,h0⟩ | ⟨g,cap,cur,rfl,_⟩
 ·exact⟨none,0,by rw [h0]⟩
 ·exact⟨_,_,rfl⟩

theorem as_facts (w1:World) (o:Obj) (k:Int) :
  Below w1.heap.size w1 (asW ((w1.alloc o).alloc (.cells #[.int .i64 0] 189)) (w1.heap.size+1) k) ∧
  (asW ((w1.alloc o).alloc (.cells #[.int .i64 0] 189)) (w1.heap.size+1) k).cell? ⟨w1.heap.size+1,0,none⟩=some (.int .i64 k):=by
 unfold asW
 refine ⟨?_,?_⟩
 ·exact (((((((Below.refl _ _).alloc (Nat.le_refl _) _).alloc (by first | (simp;done) | (simp;omega)) _).alloc (by first | (simp;done) | (simp;omega)) _).alloc (by first | (simp;done) | (simp;omega)) _).alloc (by first | (simp;done) | (simp;omega)) _).alloc (by first | (simp;done) | (simp;omega)) _).setCell (by simp) _
 ·refine World.cell?_setCell_same (u:=.int .i64 0) _ _ _ ?_
  rw [World.cell?_alloc_lt _ _ _ (by first | (simp;done) | (simp;omega)),World.cell?_alloc_lt _ _ _ (by first | (simp;done) | (simp;omega)),World.cell?_alloc_lt _ _ _ (by first | (simp;done) | (simp;omega)),World.cell?_alloc_lt _ _ _ (by first | (simp;done) | (simp;omega))]
  simp [go_sem]

set_option maxHeartbeats 4000000 in
theorem implDescRead (s:ByteArray) (w:World) (hs:s.size≤maxLen) (hg:Glob w) :
  Calls Tryz.prog 130 #[.string s] w fun e w'=>dvOut s w w' e∧Below w.heap.size w w':=by
 have HG:Hid (Glob w):=hg
 clear hg
 unfold maxLen at hs
 by_cases hbig:20000<s.size
 ·have d0:decide ((20000:Int)<(s.size:Int))=true:=by simp;omega
  have HT:Hid (∀ w' e,dvOut s w w' e=(e = .returned (outV (.slice none 0 0) ⟨#[]⟩ 0 2))):=fun w' e=>by unfold dvOut;rw [if_pos hbig]
  go_enter Tryz.func130,Tryz.ntmps130
  go_wp2
  refine bodyPost_ret (v:=outV (.slice none 0 0) ⟨#[]⟩ 0 2) (by simp [results,Tryz.results130,go_sem,outV]) rfl ⟨?_,?_⟩
  ·rw [HT.out]
  ·exact (Below.refl _ _).alloc (Nat.le_refl _) _
 ·have d0:decide ((20000:Int)<(s.size:Int))=false:=by simp;omega
  have hrd:=implReadDesc s
  have HRD:Hid (∀ w,s.size≤20000→Calls Tryz.prog 151 #[.string s] w fun e w'=>rdOut (rdD s) w w' e∧Below w.heap.size w w'):=hrd
  have HT:Hid (∀ w' e,dvOut s w w' e=match rdD s with
   | .error k=>e = .returned (outV (.slice none 0 0) ⟨#[]⟩ (k:Int) 3)
   | .ok (ps,q)=>∃ v,e = .returned (outV v q 0 0)∧w'.ownsRow w.heap.size 9 1 v ps.length (cellsOfS ps)):=fun w' e=>by unfold dvOut;rw [if_neg hbig]
  clear hrd
  generalize rdD s=r at *
  have HB0:Hid (∀ o,Below w.heap.size w (w.alloc o)):=fun o=>(Below.refl _ _).alloc (Nat.le_refl _) o
  go_enter Tryz.func130,Tryz.ntmps130
  go_wp2_with fail
  refine (HRD.out _ (by omega)).mono ?_
  rintro e w1 ⟨hout,hb1⟩
  have HB1:Hid (Below w.heap.size w w1):=(HB0.out _).trans (hb1.mono (by simp))
  have hz1:w.heap.size<w1.heap.size:=by have:=hb1.size;simp at this;omega
  have r0:=cC hb1 (w.heap.size) 0 (.slice none 0 0) (by simp) (by simp [go_sem])
  have r1:=cC hb1 (w.heap.size) 1 (.string ⟨#[]⟩) (by simp) (by simp [go_sem])
  have r2:=cC hb1 (w.heap.size) 2 (.int .i64 0) (by simp) (by simp [go_sem])
  have r3:=cC hb1 (w.heap.size) 3 (.int .i64 0) (by simp) (by simp [go_sem])
  have fr:∀ j,w1.frozen? ⟨w.heap.size,j,none⟩=false:=fun j=>carryF hb1 (by simp) (by simp [go_sem])
  have HG1:Hid (Glob w1):=HG.out.mono HB1.out
  clear hb1
  rcases r with k | ⟨ps,q⟩
  ·have hout':e = .returned (.tuple #[.agg #[.slice none 0 0,.string ⟨#[]⟩],.iface 189 (.agg #[.int .i64 (k:Int)])]):=hout
   subst hout'
   clear hout
   go_wp2_with fail
   have hgW:((w1.alloc (.cells #[.slice none 0 0,.string ⟨#[]⟩] 157)).alloc (.cells #[.int .i64 0] 189)).cell? ⟨0,0,none⟩=some (.iface 218 (.agg #[.pointer (some ⟨2,185,none⟩)])) :=
    HG1.out.mono (((Below.refl _ _).alloc (Nat.le_refl _) _).alloc (by simp) _)
   obtain ⟨ha1,ha2⟩:=as_facts w1 (.cells #[.slice none 0 0,.string ⟨#[]⟩] 157) (k:Int)
   refine (as_hit (w1.heap.size+1) (k:Int) (.int .i64 0) _ hgW (by simp [go_sem]) (by simp [go_sem])).mono ?_
   rintro e w2 ⟨rfl,hw2⟩
   rw [← hw2] at ha1 ha2
   replace r0:=carry ha1 hz1 r0
   replace r1:=carry ha1 hz1 r1
   replace r2:=carry ha1 hz1 r2
   replace r3:=carry ha1 hz1 r3
   replace fr:∀ j,w2.frozen? ⟨w.heap.size,j,none⟩=false:=fun j=>carryF ha1 hz1 (fr j)
   have HB2:Hid (Below w.heap.size w w2):=HB1.out.trans (ha1.mono (by omega))
   clear hw2 ha1 hgW
   go_wp2
   refine bodyPost_ret (v:=outV (.slice none 0 0) ⟨#[]⟩ (k:Int) 3) (by simp [results,Tryz.results130,go_sem,outV,r0,r1,r2,r3]) rfl ⟨?_,?_⟩
   ·rw [HT.out]
   ·exact (((HB2.out.setCell (Nat.le_refl _) _).setCell (Nat.le_refl _) _).setCell (Nat.le_refl _) _).setCell (Nat.le_refl _) _
  ·obtain ⟨v,hv,hown⟩:=hout
   subst hv
   obtain ⟨ad,cp,rfl⟩:=own_slice hown
   have HO:Hid (w1.ownsRow (w.heap.size+1) 9 1 (.slice ad ps.length cp) ps.length (cellsOfS ps)):=hown.base_le (by simp)
   clear hown
   go_wp2_with fail
   refine (as_nil _ _).mono ?_
   rintro e w2 ⟨rfl,hw2⟩;subst w2
   go_wp2
   have hz2:w.heap.size<w1.heap.size+1:=by omega
   have hz3:¬ w.heap.size=w1.heap.size:=by omega
   have hz4:¬ w.heap.size=w1.heap.size+1:=by omega
   refine bodyPost_ret (v:=outV (.slice ad ps.length cp) q 0 0) (by simp [results,Tryz.results130,go_sem,outV,r0,r1,r2,r3,hz1,hz2]) rfl ⟨?_,?_⟩
   ·rw [HT.out]
    refine ⟨_,rfl,?_⟩
    exact (((owns_set (owns_set (owns_set (owns_set HO.out (by simp)) (by simp)) (by simp)) (by simp)).alloc _).alloc _).base_le (by omega)
   ·exact (((((HB1.out.setCell (Nat.le_refl _) _).setCell (Nat.le_refl _) _).setCell (Nat.le_refl _) _).setCell (Nat.le_refl _) _).alloc (by simp;omega) _).alloc (by simp;omega) _
end Go.Proofs.YtmhgaggpdggbeaaGreatDoor

namespace Go.Proofs.YtmhgaggpdggbeaaGreatDoor
open Go.RowKit
set_option linter.unusedVariables false

def rdWs (w:World):World:=(w.alloc (.cells #[.slice none 0 0,.string ⟨#[]⟩,.int .i64 0,.int .i64 0] 159)).alloc (.cells #[.slice none 0 0,.string ⟨#[]⟩] 157)

theorem RdSt.startS (w:World):RdSt w (rdWs w) (rdWs w) [] (.slice none 0 0):=by
 have hz:(rdWs w).heap.size=w.heap.size+2:=by simp [rdWs]
 refine ⟨?_,by omega,World.ownsRow_nil _ _ _ _,?_,fun p _ _=>rfl,fun p _=>rfl⟩
 ·exact ((Below.refl _ _).alloc (Nat.le_refl _) _).alloc (by simp) _
 ·simp [rdWs,go_sem]

theorem RdSt.cellsS {w wr:World} {ps:List ByteArray} {v:Value} (h:RdSt w (rdWs w) wr ps v) :
  wr.cell? ⟨w.heap.size,0,none⟩=some (.slice none 0 0)∧wr.cell? ⟨w.heap.size,1,none⟩=some (.string ⟨#[]⟩)∧wr.cell? ⟨w.heap.size,2,none⟩=some (.int .i64 0)∧wr.cell? ⟨w.heap.size,3,none⟩=some (.int .i64 0) ∧
  wr.cell? ⟨w.heap.size+1,1,none⟩=some (.string ⟨#[]⟩) ∧
  (∀ j,wr.frozen? ⟨w.heap.size,j,none⟩=false)∧(∀ j,wr.frozen? ⟨w.heap.size+1,j,none⟩=false):=by
 refine ⟨(h.keep _ (by simp) (by simp)).trans ?_,(h.keep _ (by simp) (by simp)).trans ?_,(h.keep _ (by simp) (by simp)).trans ?_,(h.keep _ (by simp) (by simp)).trans ?_,(h.keep _ (by simp) (by simp)).trans ?_,fun j=>(h.frz _ (by simp)).trans ?_,fun j=>(h.frz _ (by simp)).trans ?_⟩
 all_goals simp [rdWs,go_sem]

theorem tyE_end (s:ByteArray) (i:Nat) (h:s.size≤i):tyE s i=(false,i):=by
 have h0:=byt_out s i h
 unfold tyE tyO
 rw [h0]
 rfl
theorem rdFrom_end (s:ByteArray) (k i:Nat) (ps:List ByteArray) (h:s.size≤i):rdFrom s k i ps = .error i:=by
 have h0:byt s i ≠ 41:=by rw [byt_out s i h];decide
 cases k with
 | zero=>exact rdFrom_full s i ps h0
 | succ k=>exact rdFrom_no s k i i ps h0 (tyE_end s i h)

theorem one_V (s:ByteArray) (j:Nat) (h:byt s j=86):s.extract j (j+1)=⟨#[86]⟩:=by
 have hj:=byt_in s j (by rw [h];decide)
 have hb:=byt_eq s j hj
 have hv:s[j]=86:=by
  have h':s[j].toNat=86:=by omega
  exact UInt8.toNat_inj.1 (by simpa using h')
 apply ByteArray.ext
 apply Array.toList_inj.1
 apply List.ext_getElem
 ·simp [ByteArray.data_extract];omega
 ·intro i h1 h2
  have hi:i=0:=by simp at h2;omega
  subst hi
  simp [ByteArray.data_extract]
  exact hv

set_option maxHeartbeats 1000000 in
theorem specWrong (k:Nat) (w:World) :
  Calls Tryz.prog 136 #[.int .i64 (k:Int)] w fun e w'=>e = .returned (outV (.slice none 0 0) ⟨#[]⟩ (k:Int) 3)∧Below w.heap.size w w':=by
 go_enter Tryz.func136,Tryz.ntmps136
 go_wp2
 exact bodyPost_ret (v:=outV (.slice none 0 0) ⟨#[]⟩ (k:Int) 3) (by simp [results,Tryz.results136,go_sem,outV]) rfl ⟨rfl,(Below.refl _ _).alloc (Nat.le_refl _) _⟩

set_option maxHeartbeats 8000000 in
theorem specDescRead (s:ByteArray) (w:World) (hs:s.size≤maxLen) :
  Calls Tryz.prog 118 #[.string s] w fun e w'=>dvOut s w w' e∧Below w.heap.size w w':=by
 have hm:=hs
 unfold maxLen at hs
 obtain ⟨i0,hi0,hz0,hz1,hz2⟩:=info_parts infoStr
 have HI:Hid (Tryz.prog.info? 9 = some i0∧i0.zero=some (.string ⟨#[]⟩)∧i0.size=1∧i0.bytes=16):=⟨hi0,hz0,hz1,hz2⟩
 clear hi0 hz0 hz1 hz2
 by_cases hbig:20000<s.size
 ·have d0:decide ((20000:Int)<(s.size:Int))=true:=by simp;omega
  have HT:Hid (∀ w' e,dvOut s w w' e=(e = .returned (outV (.slice none 0 0) ⟨#[]⟩ 0 2))):=fun w' e=>by unfold dvOut;rw [if_pos hbig]
  go_enter Tryz.func118,Tryz.ntmps118
  go_wp2
  refine bodyPost_ret (v:=outV (.slice none 0 0) ⟨#[]⟩ 0 2) (by simp [results,Tryz.results118,go_sem,outV]) rfl ⟨?_,?_⟩
  ·rw [HT.out]
  ·exact (Below.refl _ _).alloc (Nat.le_refl _) _
 ·have d0:decide ((20000:Int)<(s.size:Int))=false:=by simp;omega
  have HTE:Hid (∀ k,rdD s = .error k→∀ w' e,e = .returned (outV (.slice none 0 0) ⟨#[]⟩ (k:Int) 3)→dvOut s w w' e):=fun k hk w' e he=>by unfold dvOut;rw [if_neg hbig,hk];exact he
  have HTO:Hid (∀ ps q,rdD s = .ok (ps,q)→∀ w' v,w'.ownsRow w.heap.size 9 1 v ps.length (cellsOfS ps)→dvOut s w w' (.returned (outV v q 0 0))):=fun ps q hk w' v hv=>by unfold dvOut;rw [if_neg hbig,hk];exact⟨v,rfl,hv⟩
  by_cases h40:byt s 0=40
  ·have hpos:0<s.size:=byt_in s 0 (by rw [h40];decide)
   have hb0:=byt_eq s 0 hpos
   have e0:((s.size:Int) == 0)=false:=by rw [beq_eq_false_iff_ne];omega
   have e1:((s[0].toNat:Int) == 40)=true:=by rw [hb0,h40];rfl
   have e2:((s[0].toNat:Int) != 40)=false:=by rw [hb0,h40];rfl
   have HR0:Hid (rdD s=rdFrom s 8 1 []):=by show _=_;unfold rdD;rw [if_pos h40]
   clear h40 hb0
   go_enter Tryz.func118,Tryz.ntmps118
   go_wp2_with fail
   go_loopw [4] (fun j4 wr=>∃ (i:Nat) (ps:List ByteArray) (v:Value),i≤s.size∧1≤i∧j4 = .int .i64 (i:Int)∧RdSt w (rdWs w) wr ps v∧ps.length≤8∧rdD s=rdFrom s (8 - ps.length) i ps) (fun j4 _=>s.size - (intOf j4).toNat)
   case atStart=>exact⟨1,[],_,hpos,Nat.le_refl _,rfl,RdSt.startS w,by simp,HR0.out⟩
   case round =>
    obtain ⟨i,ps,v,hi,hi1,rfl,hst,h8,hr⟩:=hrel
    clear HR0
    obtain ⟨r0,r1,r2,r3,d1,fr,fd⟩:=hst.cellsS
    obtain ⟨ad,cp,hv⟩:=hst.form
    subst hv
    have d0':=hst.d0
    have hsz:=hst.size
    have HST:Hid (RdSt w (rdWs w) wr ps (.slice ad ps.length cp)):=hst
    have HB:Hid (Below w.heap.size w wr):=hst.below
    clear hst
    by_cases hlt:i<s.size
    ·have hby:=byt_eq s i hlt
     by_cases h41:byt s i=41
     ·have dd:((s[i].toNat:Int) == 41)=true:=by rw [hby,h41];rfl
      have dd':((s[i].toNat:Int) != 41)=false:=by rw [hby,h41];rfl
      have de:((i:Int) == (s.size:Int))=false:=by rw [beq_eq_false_iff_ne];omega
      have hrr:rdD s=rdRs s (i+1) ps:=hr.trans (rdFrom_close s _ i ps h41)
      clear hr h41 hby
      by_cases hj:i+1<s.size∧byt s (i+1)=86
      ·obtain ⟨hj1,hj2⟩:=hj
       have hbj:=byt_eq s (i+1) hj1
       have dv:((s[i+1].toNat:Int) == 86)=true:=by rw [hbj,hj2];rfl
       have hre:reE s (i+1)=(true,i+1+1):=by unfold reE;rw [if_pos hj2]
       have hone:=one_V s (i+1) hj2
       have hlt1:decide ((i:Int)+1<(s.size:Int))=true:=by simp;omega
       by_cases hend:i+1+1=s.size
       ·have HF:Hid (rdD s = .ok (ps,⟨#[86]⟩)):=by show _=_;rw [hrr];unfold rdRs;rw [hre];simp only [if_true];rw [if_pos hend,hone]
        have dn:decide ((i:Int)+1+1<(s.size:Int))=false:=by simp;omega
        clear hrr hre hone hbj hj2 hend
        go_wp2
        refine bodyPost_ret (v:=outV (.slice ad ps.length cp) ⟨#[86]⟩ 0 0) (by simp [results,Tryz.results118,go_sem,outV,r0,r1,r2,r3]) rfl ⟨HTO.out _ _ HF.out _ _ ?_,?_⟩
        ·exact (owns_set (owns_set (owns_set (owns_set (owns_set HST.out.own (by simp)) (by simp)) (by simp)) (by simp)) (by simp)).base_le (by omega)
        ·exact ((((HB.out.setCell (by simp) _).setCell (Nat.le_refl _) _).setCell (Nat.le_refl _) _).setCell (Nat.le_refl _) _).setCell (Nat.le_refl _) _

       ·have HF:Hid (rdD s = .error (i+1+1)):=by show _=_;rw [hrr];unfold rdRs;rw [hre];simp only [if_true];rw [if_neg hend]
        have dn:decide ((i:Int)+1+1<(s.size:Int))=true:=by simp;omega
        clear hrr hre hone hbj hj2 hend
        go_wp2_with fail
        refine (specWrong (i+1+1) _).mono ?_
        rintro e w9 ⟨rfl,hb9⟩
        have HB9:Hid (Below w.heap.size w w9):=(HB.out.setCell (by simp) _).trans (hb9.mono (by first | omega | (simp;omega)))
        have q0:w9.cell? ⟨w.heap.size,0,none⟩=some (.slice none 0 0):=carry hb9 (by first | omega | (simp;omega)) (by simp [go_sem,r0])
        have q1:w9.cell? ⟨w.heap.size,1,none⟩=some (.string ⟨#[]⟩):=carry hb9 (by first | omega | (simp;omega)) (by simp [go_sem,r1])
        have q2:w9.cell? ⟨w.heap.size,2,none⟩=some (.int .i64 0):=carry hb9 (by first | omega | (simp;omega)) (by simp [go_sem,r2])
        have q3:w9.cell? ⟨w.heap.size,3,none⟩=some (.int .i64 0):=carry hb9 (by first | omega | (simp;omega)) (by simp [go_sem,r3])
        have qf:∀ j,w9.frozen? ⟨w.heap.size,j,none⟩=false:=fun j=>carryF hb9 (by first | omega | (simp;omega)) (by simp [go_sem,fr])
        clear hb9
        unfold outV
        go_wp2
        refine bodyPost_ret (v:=outV (.slice none 0 0) ⟨#[]⟩ ((i+1+1:Nat):Int) 3) (by simp [results,Tryz.results118,go_sem,outV,q0,q1,q2,q3]) rfl ⟨HTE.out _ HF.out _ _ rfl,?_⟩
        exact (((HB9.out.setCell (Nat.le_refl _) _).setCell (Nat.le_refl _) _).setCell (Nat.le_refl _) _).setCell (Nat.le_refl _) _

      ·have hre:reE s (i+1)=tyE s (i+1):=by
        unfold reE
        rw [if_neg]
        intro h86
        exact hj ⟨byt_in s _ (by rw [h86];decide),h86⟩
       have hdj:(decide ((i:Int)+1<(s.size:Int))=false) ∨ ∃ h:i+1<s.size,decide ((i:Int)+1<(s.size:Int))=true∧((s[i+1].toNat:Int) == 86)=false:=by
        by_cases h1:i+1<s.size
        ·refine .inr ⟨h1,by simp;omega,?_⟩
         have hbj:=byt_eq s (i+1) h1
         rw [hbj,beq_eq_false_iff_ne]
         exact fun h=>hj ⟨h1,h⟩
        ·exact .inl (by simp;omega)
       obtain ⟨⟨b,n⟩,hq⟩:∃ r,tyE s (i+1)=r:=⟨_,rfl⟩
       have HQ:Hid (tyE s (i+1)=(b,n)):=hq
       have hge:=tyE_ge s (i+1)
       have hle:=tyE_le s (i+1) (by omega)
       rw [hq] at hge hle
       have hge':i+1≤n:=hge
       have hle':n≤s.size:=hle
       clear hge hle hj
       cases b
       ·have HF:Hid (rdD s = .error n):=by show _=_;rw [hrr];unfold rdRs;rw [hre,hq];rfl
        clear hrr hre hq
        rcases hdj with hdj | ⟨hj1,hdj,hdk⟩
        all_goals
         go_wp2_with fail
         refine (specTypeE s (i+1) _ hm (by omega)).mono ?_
         rintro e w1 ⟨rfl,hw1⟩;subst w1
         rw [HQ.out]
         unfold tyV
         go_wp2_with fail
         refine (specWrong (n) _).mono ?_
         rintro e w9 ⟨rfl,hb9⟩
         have HB9:Hid (Below w.heap.size w w9):=(HB.out).trans (hb9.mono (by first | omega | (simp;omega)))
         have q0:w9.cell? ⟨w.heap.size,0,none⟩=some (.slice none 0 0):=carry hb9 (by first | omega | (simp;omega)) (by simp [go_sem,r0])
         have q1:w9.cell? ⟨w.heap.size,1,none⟩=some (.string ⟨#[]⟩):=carry hb9 (by first | omega | (simp;omega)) (by simp [go_sem,r1])
         have q2:w9.cell? ⟨w.heap.size,2,none⟩=some (.int .i64 0):=carry hb9 (by first | omega | (simp;omega)) (by simp [go_sem,r2])
         have q3:w9.cell? ⟨w.heap.size,3,none⟩=some (.int .i64 0):=carry hb9 (by first | omega | (simp;omega)) (by simp [go_sem,r3])
         have qf:∀ j,w9.frozen? ⟨w.heap.size,j,none⟩=false:=fun j=>carryF hb9 (by first | omega | (simp;omega)) (by simp [go_sem,fr])
         clear hb9
         unfold outV
         go_wp2
         refine bodyPost_ret (v:=outV (.slice none 0 0) ⟨#[]⟩ ((n:Nat):Int) 3) (by simp [results,Tryz.results118,go_sem,outV,q0,q1,q2,q3]) rfl ⟨HTE.out _ HF.out _ _ rfl,?_⟩
         exact (((HB9.out.setCell (Nat.le_refl _) _).setCell (Nat.le_refl _) _).setCell (Nat.le_refl _) _).setCell (Nat.le_refl _) _

       ·have hsl:∀ w:World,(Instr.slice 9 (.string s) (some (.int .i64 ((i:Int)+1))) (some (.int .i64 (n:Int))) none).run Tryz.prog w = .ok (.string (s.extract (i+1) n)) w:=by
         intro w
         have h:=run_slice_string (P:=Tryz.prog) w 9 s .i64 .i64 ((i:Int)+1) (n:Int) Tryz.underlying9 (by omega) (by omega) (by omega)
         rw [show ((i:Int)+1).toNat=i+1 by omega,show ((n:Int)).toNat=n by omega] at h
         exact h
        by_cases hend:n=s.size
        ·have HF:Hid (rdD s = .ok (ps,s.extract (i+1) n)):=by show _=_;rw [hrr];unfold rdRs;rw [hre,hq];simp only [if_true];rw [if_pos hend]
         have dn:decide ((n:Int)<(s.size:Int))=false:=by simp;omega
         have dn2:¬ n<s.size:=by omega
         clear hrr hre hq hend
         generalize s.extract (i+1) n=y at *
         rcases hdj with hdj | ⟨hj1,hdj,hdk⟩
         all_goals
          go_wp2_with fail
          refine (specTypeE s (i+1) _ hm (by omega)).mono ?_
          rintro e w1 ⟨rfl,hw1⟩;subst w1
          rw [HQ.out]
          unfold tyV
          go_wp2
          refine bodyPost_ret (v:=outV (.slice ad ps.length cp) y 0 0) (by simp [results,Tryz.results118,go_sem,outV,r0,r1,r2,r3]) rfl ⟨HTO.out _ _ HF.out _ _ ?_,?_⟩
          ·exact (owns_set (owns_set (owns_set (owns_set (owns_set HST.out.own (by simp)) (by simp)) (by simp)) (by simp)) (by simp)).base_le (by omega)
          ·exact ((((HB.out.setCell (by simp) _).setCell (Nat.le_refl _) _).setCell (Nat.le_refl _) _).setCell (Nat.le_refl _) _).setCell (Nat.le_refl _) _

        ·have HF:Hid (rdD s = .error n):=by show _=_;rw [hrr];unfold rdRs;rw [hre,hq];simp only [if_true];rw [if_neg hend]
         have dn:decide ((n:Int)<(s.size:Int))=true:=by simp;omega
         have dn2:n<s.size:=by omega
         clear hrr hre hq hend
         generalize s.extract (i+1) n=y at *
         rcases hdj with hdj | ⟨hj1,hdj,hdk⟩
         all_goals
          go_wp2_with fail
          refine (specTypeE s (i+1) _ hm (by omega)).mono ?_
          rintro e w1 ⟨rfl,hw1⟩;subst w1
          rw [HQ.out]
          unfold tyV
          go_wp2_with fail
          refine (specWrong (n) _).mono ?_
          rintro e w9 ⟨rfl,hb9⟩
          have HB9:Hid (Below w.heap.size w w9):=(HB.out.setCell (by simp) _).trans (hb9.mono (by first | omega | (simp;omega)))
          have q0:w9.cell? ⟨w.heap.size,0,none⟩=some (.slice none 0 0):=carry hb9 (by first | omega | (simp;omega)) (by simp [go_sem,r0])
          have q1:w9.cell? ⟨w.heap.size,1,none⟩=some (.string ⟨#[]⟩):=carry hb9 (by first | omega | (simp;omega)) (by simp [go_sem,r1])
          have q2:w9.cell? ⟨w.heap.size,2,none⟩=some (.int .i64 0):=carry hb9 (by first | omega | (simp;omega)) (by simp [go_sem,r2])
          have q3:w9.cell? ⟨w.heap.size,3,none⟩=some (.int .i64 0):=carry hb9 (by first | omega | (simp;omega)) (by simp [go_sem,r3])
          have qf:∀ j,w9.frozen? ⟨w.heap.size,j,none⟩=false:=fun j=>carryF hb9 (by first | omega | (simp;omega)) (by simp [go_sem,fr])
          clear hb9
          unfold outV
          go_wp2
          refine bodyPost_ret (v:=outV (.slice none 0 0) ⟨#[]⟩ ((n:Nat):Int) 3) (by simp [results,Tryz.results118,go_sem,outV,q0,q1,q2,q3]) rfl ⟨HTE.out _ HF.out _ _ rfl,?_⟩
          exact (((HB9.out.setCell (Nat.le_refl _) _).setCell (Nat.le_refl _) _).setCell (Nat.le_refl _) _).setCell (Nat.le_refl _) _

     ·have dd:((s[i].toNat:Int) == 41)=false:=by rw [hby,beq_eq_false_iff_ne];exact h41
      have dd':((s[i].toNat:Int) != 41)=true:=by simp [bne,dd]
      by_cases hfull:ps.length=8
      ·have d8:((ps.length:Int) == 8)=true:=by rw [beq_iff_eq];omega
       have HF:Hid (rdD s = .error i):=by
        show _=_
        rw [hr,hfull];exact rdFrom_full s i ps h41
       clear hr h41 hby
       go_wp2_with fail
       refine (specWrong (i) _).mono ?_
       rintro e w9 ⟨rfl,hb9⟩
       have HB9:Hid (Below w.heap.size w w9):=(HB.out).trans (hb9.mono (by first | omega | (simp;omega)))
       have q0:w9.cell? ⟨w.heap.size,0,none⟩=some (.slice none 0 0):=carry hb9 (by first | omega | (simp;omega)) (by simp [go_sem,r0])
       have q1:w9.cell? ⟨w.heap.size,1,none⟩=some (.string ⟨#[]⟩):=carry hb9 (by first | omega | (simp;omega)) (by simp [go_sem,r1])
       have q2:w9.cell? ⟨w.heap.size,2,none⟩=some (.int .i64 0):=carry hb9 (by first | omega | (simp;omega)) (by simp [go_sem,r2])
       have q3:w9.cell? ⟨w.heap.size,3,none⟩=some (.int .i64 0):=carry hb9 (by first | omega | (simp;omega)) (by simp [go_sem,r3])
       have qf:∀ j,w9.frozen? ⟨w.heap.size,j,none⟩=false:=fun j=>carryF hb9 (by first | omega | (simp;omega)) (by simp [go_sem,fr])
       clear hb9
       unfold outV
       go_wp2
       refine bodyPost_ret (v:=outV (.slice none 0 0) ⟨#[]⟩ ((i:Nat):Int) 3) (by simp [results,Tryz.results118,go_sem,outV,q0,q1,q2,q3]) rfl ⟨HTE.out _ HF.out _ _ rfl,?_⟩
       exact (((HB9.out.setCell (Nat.le_refl _) _).setCell (Nat.le_refl _) _).setCell (Nat.le_refl _) _).setCell (Nat.le_refl _) _

      ·have d8:((ps.length:Int) == 8)=false:=by rw [beq_eq_false_iff_ne];omega
       obtain ⟨k,hk⟩:∃ k,8 - ps.length=k+1:=⟨7 - ps.length,by omega⟩
       obtain ⟨⟨b,n⟩,hq⟩:∃ r,tyE s i=r:=⟨_,rfl⟩
       have HQ:Hid (tyE s i=(b,n)):=hq
       have hle:=tyE_le s i hi
       rw [hq] at hle
       have hle':n≤s.size:=hle
       clear hle
       cases b
       ·have HF:Hid (rdD s = .error n):=by
         show _=_
         rw [hr,hk];exact rdFrom_no s k i n ps h41 hq
        clear hr h41 hq hby
        go_wp2_with fail
        refine (specTypeE s (i) _ hm (by omega)).mono ?_
        rintro e w1 ⟨rfl,hw1⟩;subst w1
        rw [HQ.out]
        unfold tyV
        go_wp2_with fail
        refine (specWrong (n) _).mono ?_
        rintro e w9 ⟨rfl,hb9⟩
        have HB9:Hid (Below w.heap.size w w9):=(HB.out).trans (hb9.mono (by first | omega | (simp;omega)))
        have q0:w9.cell? ⟨w.heap.size,0,none⟩=some (.slice none 0 0):=carry hb9 (by first | omega | (simp;omega)) (by simp [go_sem,r0])
        have q1:w9.cell? ⟨w.heap.size,1,none⟩=some (.string ⟨#[]⟩):=carry hb9 (by first | omega | (simp;omega)) (by simp [go_sem,r1])
        have q2:w9.cell? ⟨w.heap.size,2,none⟩=some (.int .i64 0):=carry hb9 (by first | omega | (simp;omega)) (by simp [go_sem,r2])
        have q3:w9.cell? ⟨w.heap.size,3,none⟩=some (.int .i64 0):=carry hb9 (by first | omega | (simp;omega)) (by simp [go_sem,r3])
        have qf:∀ j,w9.frozen? ⟨w.heap.size,j,none⟩=false:=fun j=>carryF hb9 (by first | omega | (simp;omega)) (by simp [go_sem,fr])
        clear hb9
        unfold outV
        go_wp2
        refine bodyPost_ret (v:=outV (.slice none 0 0) ⟨#[]⟩ ((n:Nat):Int) 3) (by simp [results,Tryz.results118,go_sem,outV,q0,q1,q2,q3]) rfl ⟨HTE.out _ HF.out _ _ rfl,?_⟩
        exact (((HB9.out.setCell (Nat.le_refl _) _).setCell (Nat.le_refl _) _).setCell (Nat.le_refl _) _).setCell (Nat.le_refl _) _

       ·have hgt:=tyE_gt s i n hq
        have HF:Hid (rdD s=rdFrom s (8 - (ps ++ [s.extract i n]).length) n (ps ++ [s.extract i n])):=by
         show _=_
         rw [hr,hk,rdFrom_on s k i n ps h41 hq]
         congr 1
         simp;omega
        have hsl:∀ w:World,(Instr.slice 9 (.string s) (some (.int .i64 (i:Int))) (some (.int .i64 (n:Int))) none).run Tryz.prog w = .ok (.string (s.extract i n)) w:=by
         intro w
         have h:=run_slice_string (P:=Tryz.prog) w 9 s .i64 .i64 (i:Int) (n:Int) Tryz.underlying9 (by omega) (by omega) (by omega)
         simpa using h
        clear hr h41 hq hby
        generalize s.extract i n=y at *
        go_wp2_with fail
        refine (specTypeE s (i) _ hm (by omega)).mono ?_
        rintro e w1 ⟨rfl,hw1⟩;subst w1
        rw [HQ.out]
        unfold tyV
        go_wp2_with fail
        have fd0:=fd 0
        have hlt1:w.heap.size+1<wr.heap.size:=by omega
        have HNE:Hid (∀ b,b<w.heap.size+2→some b ≠ (Value.slice ad ps.length cp).ownBlock):=fun b hb2 e=>by
         have:=(HST.out.own.lt b e.symm).1
         omega
        have d0b:∀ o,(wr.alloc o).cell? ⟨w.heap.size+1,0,none⟩=some (.slice ad ps.length cp):=fun o=>carry ((Below.refl _ _).alloc (Nat.le_refl _) o) hlt1 d0'
        have f0b:∀ o,(wr.alloc o).frozen? ⟨w.heap.size+1,0,none⟩=false:=fun o=>carryF ((Below.refl _ _).alloc (Nat.le_refl _) o) hlt1 fd0
        go_region_law (refine step_append_lies _ (by rfl) _ _ _ (by rfl) (w.heap.size+2) 9 i0 _ 1 16 Tryz.underlying91 HI.out.1 HI.out.2.1 HI.out.2.2.1 HI.out.2.2.2 rfl (by omega) (.slice ad ps.length cp) ps.length (cellsOfS ps) (by rfl) ((HST.out.own.alloc _).drew) ⟨wr.heap.size,0,none⟩ 1 1 [.string y] (by rfl) (by rfl) (World.news_of_block (cs:=#[.string y]) (t:=9) (fr:=(0,0)) (heap_alloc_new wr _)) (by simp [Value.oneCell']) (by omega) (by unfold maxLen;omega) (by omega) (by simp;omega) (wr.heap.size+1) (by simp) ?_;intro g cap w1 hown1 hgrow hat hlt;have d01:w1.cell? ⟨w.heap.size+1,0,none⟩=some (.slice ad ps.length cp):=(hgrow.cell_far _ (by simp;omega) (HNE.out _ (by simp))).trans (d0b _);have f01:w1.frozen? ⟨w.heap.size+1,0,none⟩=false:=(hgrow.frozen_far _ (by simp;omega) (HNE.out _ (by simp))).trans (f0b _);have HNX:Hid (RdSt w (rdWs w) (w1.setCell ⟨w.heap.size+1,0,none⟩ (.slice (some ⟨g,0,none⟩) (ps.length+1) cap)) (ps ++ [y]) (.slice (some ⟨g,0,none⟩) (ps.length+1) cap)):=HST.out.step (Below.refl _ _) (o:=.cells #[.string y] 9) ⟨hgrow.os,hgrow.tape,hgrow.output,hgrow.size,hgrow.block⟩ hown1;clear hown1 hgrow hat hlt)
        all_goals
         go_wp2
         go_roundw
         case rel=>exact⟨n,ps ++ [y],_,by omega,by omega,rfl,HNX.out,by simp;omega,HF.out⟩
         case measure=>simp [intOf];omega
    ·obtain rfl:i=s.size:=by omega
     have HF:Hid (rdD s = .error s.size):=hr.trans (rdFrom_end s _ _ ps (Nat.le_refl _))
     have de:((s.size:Int) == (s.size:Int))=true:=by simp
     clear hr
     go_wp2_with fail
     refine (specWrong (s.size) _).mono ?_
     rintro e w9 ⟨rfl,hb9⟩
     have HB9:Hid (Below w.heap.size w w9):=(HB.out).trans (hb9.mono (by first | omega | (simp;omega)))
     have q0:w9.cell? ⟨w.heap.size,0,none⟩=some (.slice none 0 0):=carry hb9 (by first | omega | (simp;omega)) (by simp [go_sem,r0])
     have q1:w9.cell? ⟨w.heap.size,1,none⟩=some (.string ⟨#[]⟩):=carry hb9 (by first | omega | (simp;omega)) (by simp [go_sem,r1])
     have q2:w9.cell? ⟨w.heap.size,2,none⟩=some (.int .i64 0):=carry hb9 (by first | omega | (simp;omega)) (by simp [go_sem,r2])
     have q3:w9.cell? ⟨w.heap.size,3,none⟩=some (.int .i64 0):=carry hb9 (by first | omega | (simp;omega)) (by simp [go_sem,r3])
     have qf:∀ j,w9.frozen? ⟨w.heap.size,j,none⟩=false:=fun j=>carryF hb9 (by first | omega | (simp;omega)) (by simp [go_sem,fr])
     clear hb9
     unfold outV
     go_wp2
     refine bodyPost_ret (v:=outV (.slice none 0 0) ⟨#[]⟩ ((s.size:Nat):Int) 3) (by simp [results,Tryz.results118,go_sem,outV,q0,q1,q2,q3]) rfl ⟨HTE.out _ HF.out _ _ rfl,?_⟩
     exact (((HB9.out.setCell (Nat.le_refl _) _).setCell (Nat.le_refl _) _).setCell (Nat.le_refl _) _).setCell (Nat.le_refl _) _

  ·have HR0:Hid (rdD s = .error 0):=by show _=_;unfold rdD;rw [if_neg h40]
   have HB0:Hid (∀ o,Below w.heap.size w (w.alloc o)):=fun o=>(Below.refl _ _).alloc (Nat.le_refl _) o
   have hwr:=specWrong 0
   have HW:Hid (∀ w:World,Calls Tryz.prog 136 #[.int .i64 0] w fun e w'=>e = .returned (outV (.slice none 0 0) ⟨#[]⟩ ((0:Nat):Int) 3)∧Below w.heap.size w w'):=hwr
   clear hwr
   by_cases hpos:0<s.size
   ·have hb0:=byt_eq s 0 hpos
    have e0:((s.size:Int) == 0)=false:=by rw [beq_eq_false_iff_ne];omega
    have e1:((s[0].toNat:Int) == 40)=false:=by rw [hb0,beq_eq_false_iff_ne];exact h40
    have e2:((s[0].toNat:Int) != 40)=true:=by simp [bne,e1]
    clear h40 hb0
    go_enter Tryz.func118,Tryz.ntmps118
    go_wp2_with fail
    refine (HW.out _).mono ?_
    rintro e w1 ⟨rfl,hb1⟩
    have r0:=cC hb1 (w.heap.size) 0 (.slice none 0 0) (by simp) (by simp [go_sem])
    have r1:=cC hb1 (w.heap.size) 1 (.string ⟨#[]⟩) (by simp) (by simp [go_sem])
    have r2:=cC hb1 (w.heap.size) 2 (.int .i64 0) (by simp) (by simp [go_sem])
    have r3:=cC hb1 (w.heap.size) 3 (.int .i64 0) (by simp) (by simp [go_sem])
    have fr:∀ j,w1.frozen? ⟨w.heap.size,j,none⟩=false:=fun j=>carryF hb1 (by simp) (by simp [go_sem])
    have HB1:Hid (Below w.heap.size w w1):=(HB0.out _).trans (hb1.mono (by simp))
    clear hb1
    unfold outV
    go_wp2
    refine bodyPost_ret (v:=outV (.slice none 0 0) ⟨#[]⟩ ((0:Nat):Int) 3) (by simp [results,Tryz.results118,go_sem,outV,r0,r1,r2,r3]) rfl ⟨HTE.out 0 HR0.out _ _ rfl,?_⟩
    exact (((HB1.out.setCell (Nat.le_refl _) _).setCell (Nat.le_refl _) _).setCell (Nat.le_refl _) _).setCell (Nat.le_refl _) _

   ·have e0:((s.size:Int) == 0)=true:=by rw [beq_iff_eq];omega
    clear h40
    go_enter Tryz.func118,Tryz.ntmps118
    go_wp2_with fail
    refine (HW.out _).mono ?_
    rintro e w1 ⟨rfl,hb1⟩
    have r0:=cC hb1 (w.heap.size) 0 (.slice none 0 0) (by simp) (by simp [go_sem])
    have r1:=cC hb1 (w.heap.size) 1 (.string ⟨#[]⟩) (by simp) (by simp [go_sem])
    have r2:=cC hb1 (w.heap.size) 2 (.int .i64 0) (by simp) (by simp [go_sem])
    have r3:=cC hb1 (w.heap.size) 3 (.int .i64 0) (by simp) (by simp [go_sem])
    have fr:∀ j,w1.frozen? ⟨w.heap.size,j,none⟩=false:=fun j=>carryF hb1 (by simp) (by simp [go_sem])
    have HB1:Hid (Below w.heap.size w w1):=(HB0.out _).trans (hb1.mono (by simp))
    clear hb1
    unfold outV
    go_wp2
    refine bodyPost_ret (v:=outV (.slice none 0 0) ⟨#[]⟩ ((0:Nat):Int) 3) (by simp [results,Tryz.results118,go_sem,outV,r0,r1,r2,r3]) rfl ⟨HTE.out 0 HR0.out _ _ rfl,?_⟩
    exact (((HB1.out.setCell (Nat.le_refl _) _).setCell (Nat.le_refl _) _).setCell (Nat.le_refl _) _).setCell (Nat.le_refl _) _

end Go.Proofs.YtmhgaggpdggbeaaGreatDoor

namespace Go.Proofs.YtmhgaggpdggbeaaGreatDoor
open Go.RowKit
set_option linter.unusedVariables false

theorem dvOut_cases {s:ByteArray} {w w':World} {e:Ending} (h:dvOut s w w' e) :
  (20000<s.size∧e = .returned (outV (.slice none 0 0) ⟨#[]⟩ 0 2)) ∨
  (¬ 20000<s.size∧∃ k,rdD s = .error k∧e = .returned (outV (.slice none 0 0) ⟨#[]⟩ (k:Int) 3)) ∨
  (¬ 20000<s.size∧∃ ps q a cap,rdD s = .ok (ps,q)∧e = .returned (outV (.slice a ps.length cap) q 0 0)∧w'.ownsRow w.heap.size 9 1 (.slice a ps.length cap) ps.length (cellsOfS ps)):=by
 unfold dvOut at h
 by_cases hb:20000<s.size
 ·rw [if_pos hb] at h;exact .inl ⟨hb,h⟩
 ·rw [if_neg hb] at h
  right
  rcases hr:rdD s with k | ⟨ps,q⟩
  ·rw [hr] at h;exact .inl ⟨hb,k,rfl,h⟩
  ·rw [hr] at h
   obtain ⟨v,he,ho⟩:=h
   obtain ⟨a,cap,rfl⟩:=own_slice ho
   exact .inr ⟨hb,ps,q,a,cap,rfl,he,ho⟩

end Go.Proofs.YtmhgaggpdggbeaaGreatDoor
