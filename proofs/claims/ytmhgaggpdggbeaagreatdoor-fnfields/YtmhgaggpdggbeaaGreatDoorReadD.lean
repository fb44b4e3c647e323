import Derived.Test.YtmhgaggpdggbeaaGreatDoorReadI
import Derived.Deep.RegionLaw
namespace Go.Proofs.YtmhgaggpdggbeaaGreatDoor
open Go.RowKit
set_option maxRecDepth 20000
set_option linter.unusedVariables false

def rdW (w:World):World:=(w.alloc (.cells #[.slice none 0 0,.string ⟨#[]⟩] 157)).alloc (.cells #[.slice none 0 0,.string ⟨#[]⟩] 157)

def rdOut (r:Except Nat (List ByteArray × ByteArray)) (w w':World) (e:Ending):Prop :=
 match r with
 | .error k=>e = .returned (.tuple #[.agg #[.slice none 0 0,.string ⟨#[]⟩],.iface 189 (.agg #[.int .i64 (k:Int)])])
 | .ok (ps,q)=>∃ v,e = .returned (.tuple #[.agg #[v,.string q],.nilIface])∧w'.ownsRow w.heap.size 9 1 v ps.length (cellsOfS ps)

theorem RdSt.start (w:World):RdSt w (rdW w) (rdW w) [] (.slice none 0 0):=by
 have hz:(rdW w).heap.size=w.heap.size+2:=by simp [rdW]
 refine ⟨?_,by omega,World.ownsRow_nil _ _ _ _,?_,fun p _ _=>rfl,fun p _=>rfl⟩
 ·exact ((Below.refl _ _).alloc (Nat.le_refl _) _).alloc (by simp) _
 ·simp [rdW,go_sem]

theorem RdSt.cells {w wr:World} {ps:List ByteArray} {v:Value} (h:RdSt w (rdW w) wr ps v) :
  wr.cell? ⟨w.heap.size,0,none⟩=some (.slice none 0 0)∧wr.cell? ⟨w.heap.size,1,none⟩=some (.string ⟨#[]⟩)∧wr.cell? ⟨w.heap.size+1,1,none⟩=some (.string ⟨#[]⟩) ∧
  (∀ j,wr.frozen? ⟨w.heap.size,j,none⟩=false)∧(∀ j,wr.frozen? ⟨w.heap.size+1,j,none⟩=false):=by
 refine ⟨(h.keep _ (by simp) (by simp)).trans ?_,(h.keep _ (by simp) (by simp)).trans ?_,(h.keep _ (by simp) (by simp)).trans ?_,fun j=>(h.frz _ (by simp)).trans ?_,fun j=>(h.frz _ (by simp)).trans ?_⟩
 all_goals simp [rdW,go_sem]

theorem RdSt.form {w w0 wr:World} {ps:List ByteArray} {v:Value} (h:RdSt w w0 wr ps v):∃ a cap,v = .slice a ps.length cap:=by
 rcases h.own.2 with ⟨rfl,h0⟩ | ⟨g,cap,cur,rfl,_⟩
 ·exact⟨none,0,by rw [h0]⟩
 ·exact⟨_,_,rfl⟩

def rdFr (s:ByteArray) (H i:Nat) (a:Act):Prop :=
 a.defers=[]∧a.tmps.size=71∧a.tmps.getD 0 undef = .string s∧a.tmps.getD 2 undef = .pointer (some ⟨H,0,none⟩)∧a.tmps.getD 4 undef = .pointer (some ⟨H+1,0,none⟩)∧a.tmps.getD 5 undef = .int .i64 (i:Int)

theorem rdFr_open {s:ByteArray} {H i:Nat} {a:Act} (h:rdFr s H i a):∃ u1 u3 u6 u7 u8 u9 u10 u11 u12 u13 u14 u15 u16 u17 u18 u19 u20 u21 u22 u23 u24 u25 u26 u27 u28 u29 u30 u31 u32 u33 u34 u35 u36 u37 u38 u39 u40 u41 u42 u43 u44 u45 u46 u47 u48 u49 u50 u51 u52 u53 u54 u55 u56 u57 u58 u59 u60 u61 u62 u63 u64 u65 u66 u67 u68 u69 u70:Value,a = { tmps:=#[(.string s),u1,(.pointer (some ⟨H,0,none⟩)),u3,(.pointer (some ⟨H+1,0,none⟩)),(.int .i64 (i:Int)),u6,u7,u8,u9,u10,u11,u12,u13,u14,u15,u16,u17,u18,u19,u20,u21,u22,u23,u24,u25,u26,u27,u28,u29,u30,u31,u32,u33,u34,u35,u36,u37,u38,u39,u40,u41,u42,u43,u44,u45,u46,u47,u48,u49,u50,u51,u52,u53,u54,u55,u56,u57,u58,u59,u60,u61,u62,u63,u64,u65,u66,u67,u68,u69,u70],defers:=[] }:=by
 obtain ⟨⟨us⟩,ds⟩:=a
 obtain ⟨h1,h2,g0,g2,g4,g5⟩:=h
 have k0:us.length=71:=h2
 clear h2
 cases h1
 obtain ⟨x0,us0,rfl,k1⟩:=peel k0
 obtain ⟨u1,us1,rfl,k2⟩:=peel k1
 obtain ⟨x2,us2,rfl,k3⟩:=peel k2
 obtain ⟨u3,us3,rfl,k4⟩:=peel k3
 obtain ⟨x4,us4,rfl,k5⟩:=peel k4
 obtain ⟨x5,us5,rfl,k6⟩:=peel k5
 obtain ⟨u6,us6,rfl,k7⟩:=peel k6
 obtain ⟨u7,us7,rfl,k8⟩:=peel k7
 obtain ⟨u8,us8,rfl,k9⟩:=peel k8
 obtain ⟨u9,us9,rfl,k10⟩:=peel k9
 obtain ⟨u10,us10,rfl,k11⟩:=peel k10
 obtain ⟨u11,us11,rfl,k12⟩:=peel k11
 obtain ⟨u12,us12,rfl,k13⟩:=peel k12
 obtain ⟨u13,us13,rfl,k14⟩:=peel k13
 obtain ⟨u14,us14,rfl,k15⟩:=peel k14
 obtain ⟨u15,us15,rfl,k16⟩:=peel k15
 obtain ⟨u16,us16,rfl,k17⟩:=peel k16
 obtain ⟨u17,us17,rfl,k18⟩:=peel k17
 obtain ⟨u18,us18,rfl,k19⟩:=peel k18
 obtain ⟨u19,us19,rfl,k20⟩:=peel k19
 obtain ⟨u20,us20,rfl,k21⟩:=peel k20
 obtain ⟨u21,us21,rfl,k22⟩:=peel k21
 obtain ⟨u22,us22,rfl,k23⟩:=peel k22
 obtain ⟨u23,us23,rfl,k24⟩:=peel k23
 obtain ⟨u24,us24,rfl,k25⟩:=peel k24
 obtain ⟨u25,us25,rfl,k26⟩:=peel k25
 obtain ⟨u26,us26,rfl,k27⟩:=peel k26
 obtain ⟨u27,us27,rfl,k28⟩:=peel k27
 obtain ⟨u28,us28,rfl,k29⟩:=peel k28
 obtain ⟨u29,us29,rfl,k30⟩:=peel k29
 obtain ⟨u30,us30,rfl,k31⟩:=peel k30
 obtain ⟨u31,us31,rfl,k32⟩:=peel k31
 obtain ⟨u32,us32,rfl,k33⟩:=peel k32
 obtain ⟨u33,us33,rfl,k34⟩:=peel k33
 obtain ⟨u34,us34,rfl,k35⟩:=peel k34
 obtain ⟨u35,us35,rfl,k36⟩:=peel k35
 obtain ⟨u36,us36,rfl,k37⟩:=peel k36
 obtain ⟨u37,us37,rfl,k38⟩:=peel k37
 obtain ⟨u38,us38,rfl,k39⟩:=peel k38
 obtain ⟨u39,us39,rfl,k40⟩:=peel k39
 obtain ⟨u40,us40,rfl,k41⟩:=peel k40
 obtain ⟨u41,us41,rfl,k42⟩:=peel k41
 obtain ⟨u42,us42,rfl,k43⟩:=peel k42
 obtain ⟨u43,us43,rfl,k44⟩:=peel k43
 obtain ⟨u44,us44,rfl,k45⟩:=peel k44
 obtain ⟨u45,us45,rfl,k46⟩:=peel k45
 obtain ⟨u46,us46,rfl,k47⟩:=peel k46
 obtain ⟨u47,us47,rfl,k48⟩:=peel k47
 obtain ⟨u48,us48,rfl,k49⟩:=peel k48
 obtain ⟨u49,us49,rfl,k50⟩:=peel k49
 obtain ⟨u50,us50,rfl,k51⟩:=peel k50
 obtain ⟨u51,us51,rfl,k52⟩:=peel k51
 obtain ⟨u52,us52,rfl,k53⟩:=peel k52
 obtain ⟨u53,us53,rfl,k54⟩:=peel k53
 obtain ⟨u54,us54,rfl,k55⟩:=peel k54
 obtain ⟨u55,us55,rfl,k56⟩:=peel k55
 obtain ⟨u56,us56,rfl,k57⟩:=peel k56
 obtain ⟨u57,us57,rfl,k58⟩:=peel k57
 obtain ⟨u58,us58,rfl,k59⟩:=peel k58
 obtain ⟨u59,us59,rfl,k60⟩:=peel k59
 obtain ⟨u60,us60,rfl,k61⟩:=peel k60
 obtain ⟨u61,us61,rfl,k62⟩:=peel k61
 obtain ⟨u62,us62,rfl,k63⟩:=peel k62
 obtain ⟨u63,us63,rfl,k64⟩:=peel k63
 obtain ⟨u64,us64,rfl,k65⟩:=peel k64
 obtain ⟨u65,us65,rfl,k66⟩:=peel k65
 obtain ⟨u66,us66,rfl,k67⟩:=peel k66
 obtain ⟨u67,us67,rfl,k68⟩:=peel k67
 obtain ⟨u68,us68,rfl,k69⟩:=peel k68
 obtain ⟨u69,us69,rfl,k70⟩:=peel k69
 obtain ⟨u70,us70,rfl,k71⟩:=peel k70
 obtain rfl:=List.length_eq_zero_iff.1 k71
 obtain rfl:x0 = .string s:=g0
 obtain rfl:x2 = .pointer (some ⟨H,0,none⟩):=g2
 obtain rfl:x4 = .pointer (some ⟨H+1,0,none⟩):=g4
 obtain rfl:x5 = .int .i64 (i:Int):=g5
 exact⟨u1,u3,u6,u7,u8,u9,u10,u11,u12,u13,u14,u15,u16,u17,u18,u19,u20,u21,u22,u23,u24,u25,u26,u27,u28,u29,u30,u31,u32,u33,u34,u35,u36,u37,u38,u39,u40,u41,u42,u43,u44,u45,u46,u47,u48,u49,u50,u51,u52,u53,u54,u55,u56,u57,u58,u59,u60,u61,u62,u63,u64,u65,u66,u67,u68,u69,u70,rfl⟩

def rdJ (s:ByteArray) (w:World) (l:Nat) (a:Act) (w':World):Prop :=
 (l=0∧∃ i ps v,rdFr s w.heap.size i a∧i≤s.size∧RdSt w (rdW w) w' ps v∧rdD s = .error i) ∨
 (l=1∧∃ i ps v,rdFr s w.heap.size i a∧i≤s.size∧RdSt w (rdW w) w' ps v∧rdD s=rdRs s i ps) ∨
 (l=2∧∃ i ps v,rdFr s w.heap.size i a∧i≤s.size∧RdSt w (rdW w) w' ps v∧ps.length≤8∧rdD s=rdFrom s (8 - ps.length) i ps)

def rdM (s:ByteArray) (l:Nat) (a:Act):Nat:=if l=2 then 2+(s.size+1 - (intOf (a.tmps.getD 5 undef)).toNat) else if l=1 then 1 else 0

theorem rdM_0 (s:ByteArray) (a b:Act):rdM s 0 a<rdM s 2 b:=by simp [rdM];omega
theorem rdM_1 (s:ByteArray) (a b:Act):rdM s 1 a<rdM s 2 b:=by simp [rdM];omega

theorem tyE_gt (s:ByteArray) (i e:Nat) (h:tyE s i=(true,e)):i<e:=by
 have ho:∀ j,tyO s j=(true,e)→j<e:=by
  intro j hj
  unfold tyO at hj
  split at hj
  ·simp at hj;omega
  ·split at hj
   ·have hg:=tyL_ge s (j+1)
    rw [hj] at hg
    exact hg
   ·simp at hj
 unfold tyE at h
 split at h
 ·have:=ho _ h;omega
 ·exact ho _ h

end Go.Proofs.YtmhgaggpdggbeaaGreatDoor

namespace Go.Proofs.YtmhgaggpdggbeaaGreatDoor
open Go.RowKit
set_option linter.unusedVariables false

set_option maxRecDepth 8000 in
set_option maxHeartbeats 8000000 in
theorem implReadDesc (s:ByteArray) (w:World) (hs:s.size≤20000) :
  Calls Tryz.prog 151 #[.string s] w fun e w'=>rdOut (rdD s) w w' e∧Below w.heap.size w w':=by
 have hm:s.size≤maxLen:=by unfold maxLen;omega
 obtain ⟨i0,hi0,hz0,hz1,hz2⟩:=info_parts infoStr
 have HI:Hid (Tryz.prog.info? 9 = some i0∧i0.zero=some (.string ⟨#[]⟩)∧i0.size=1∧i0.bytes=16):=⟨hi0,hz0,hz1,hz2⟩
 clear hi0 hz0 hz1 hz2
 go_enter Tryz.func151,Tryz.ntmps151
 go_wp2_with fail
 refine wp_scope_labels2 (rdJ s w) (fun l a' _=>rdM s l a') ?_ ?_
 ·rintro l a' wr hJ
  rcases hJ with ⟨rfl,i,ps,v,hf,hi,hst,hr⟩ | ⟨rfl,i,ps,v,hf,hi,hst,hr⟩ | ⟨rfl,i,ps,v,hf,hi,hst,h8,hr⟩
  ·obtain ⟨_,_,_,_,_,_,_,_,_,_,_,_,_,_,_,_,_,_,_,_,_,_,_,_,_,_,_,_,_,_,_,_,_,_,_,_,_,_,_,_,_,_,_,_,_,_,_,_,_,_,_,_,_,_,_,_,_,_,_,_,_,_,_,_,_,_,_,rfl⟩:=rdFr_open hf
   refine ⟨_,rfl,?_⟩
   obtain ⟨r0,r1,d1,fr,fd⟩:=hst.cells
   have HB:Hid (Below w.heap.size w wr):=hst.below
   have HF:Hid (rdD s = .error i):=hr
   clear hr hst
   go_wp2
   rw [jumps_ret]
   refine bodyPost_ret (v:=.tuple #[.agg #[.slice none 0 0,.string ⟨#[]⟩],.iface 189 (.agg #[.int .i64 (i:Int)])]) (by simp [results,Tryz.results151,go_sem,r0,r1]) rfl ⟨?_,?_⟩
   ·rw [HF.out];rfl
   ·exact (HB.out.setCell (Nat.le_refl _) _).setCell (Nat.le_refl _) _
  ·obtain ⟨_,_,_,_,_,_,_,_,_,_,_,_,_,_,_,_,_,_,_,_,_,_,_,_,_,_,_,_,_,_,_,_,_,_,_,_,_,_,_,_,_,_,_,_,_,_,_,_,_,_,_,_,_,_,_,_,_,_,_,_,_,_,_,_,_,_,_,rfl⟩:=rdFr_open hf
   refine ⟨_,rfl,?_⟩
   obtain ⟨r0,r1,d1,fr,fd⟩:=hst.cells
   obtain ⟨ad,cp,hv⟩:=hst.form
   subst hv
   have d0:=hst.d0
   have hsz:=hst.size
   have HST:Hid (RdSt w (rdW w) wr ps (.slice ad ps.length cp)):=hst
   have HB:Hid (Below w.heap.size w wr):=hst.below
   have hge:=reE_ge s i
   have hle:=reE_le s i hi
   obtain ⟨⟨b,n⟩,hq⟩:∃ r,reE s i=r:=⟨_,rfl⟩
   have HQ:Hid (reE s i=(b,n)):=hq
   rw [hq] at hge hle
   have HR:Hid (rdD s=if b=true then (if n=s.size then .ok (ps,s.extract i n) else .error n) else .error n):=by
    show _=_
    rw [hr];unfold rdRs;rw [hq]
   clear hr hst hq
   have hge':i≤n:=hge
   have hle':n≤s.size:=hle
   clear hge hle
   cases b
   ·have HF:Hid (rdD s = .error n):=HR.out
    clear HR
    go_wp2_with fail
    refine (implResultEnd s i _ hm hi).mono ?_
    rintro e w1 ⟨rfl,hw1⟩;subst w1
    rw [HQ.out,teV_no]
    go_wp2
    rw [jumps_ret]
    refine bodyPost_ret (v:=.tuple #[.agg #[.slice none 0 0,.string ⟨#[]⟩],.iface 189 (.agg #[.int .i64 (n:Int)])]) (by simp [results,Tryz.results151,go_sem,r0,r1]) rfl ⟨?_,?_⟩
    ·rw [HF.out];rfl
    ·exact (HB.out.setCell (Nat.le_refl _) _).setCell (Nat.le_refl _) _
   ·have hsl:∀ w:World,(Instr.slice 9 (.string s) (some (.int .i64 (i:Int))) (some (.int .i64 (n:Int))) none).run Tryz.prog w = .ok (.string (s.extract i n)) w:=by
     intro w
     have h:=run_slice_string (P:=Tryz.prog) w 9 s .i64 .i64 (i:Int) (n:Int) Tryz.underlying9 (by omega) (by omega) (by omega)
     simpa using h
    have hys:(s.extract i n).size≤20000:=by rw [ByteArray.size_extract];omega
    have HR2:Hid (rdD s=if n=s.size then .ok (ps,s.extract i n) else .error n):=HR.out
    clear HR
    generalize s.extract i n=y at *
    by_cases hend:n=s.size
    ·have HF:Hid (rdD s = .ok (ps,y)):=by show _=_;rw [HR2.out,if_pos hend]
     have dn:((n:Int) == (s.size:Int))=true:=by rw [beq_iff_eq];omega
     clear HR2 hend
     go_wp2_with fail
     refine (implResultEnd s i _ hm hi).mono ?_
     rintro e w1 ⟨rfl,hw1⟩;subst w1
     rw [HQ.out,teV_yes]
     go_wp2_with fail
     refine (libClone y _ (by omega)).mono ?_
     rintro e wa ⟨rfl,hba⟩
     have HB2:Hid (Below w.heap.size w wa):=HB.out.trans (hba.mono (by omega))
     have HO:Hid (wa.ownsRow (w.heap.size+2) 9 1 (.slice ad ps.length cp) ps.length (cellsOfS ps)):=owns_below HST.out.own hba
     replace d0:=carry hba (by simp;omega) d0
     replace d1:=carry hba (by simp;omega) d1
     replace r0:=carry hba (by simp;omega) r0
     replace r1:=carry hba (by simp;omega) r1
     replace fr:∀ j,wa.frozen? ⟨w.heap.size,j,none⟩=false:=fun j=>carryF hba (by simp;omega) (fr j)
     replace fd:∀ j,wa.frozen? ⟨w.heap.size+1,j,none⟩=false:=fun j=>carryF hba (by simp;omega) (fd j)
     clear hba HST
     go_wp2
     rw [jumps_ret]
     refine bodyPost_ret (v:=.tuple #[.agg #[.slice ad ps.length cp,.string y],.nilIface]) (by simp [results,Tryz.results151,go_sem,r0,r1]) rfl ⟨?_,?_⟩
     ·rw [HF.out]
      refine ⟨.slice ad ps.length cp,rfl,?_⟩
      exact (owns_set (owns_set (owns_set HO.out (by simp)) (by simp)) (by simp)).base_le (by omega)
     ·exact ((HB2.out.setCell (by simp) _).setCell (Nat.le_refl _) _).setCell (Nat.le_refl _) _
    ·have HF:Hid (rdD s = .error n):=by show _=_;rw [HR2.out,if_neg hend]
     have dn:((n:Int) == (s.size:Int))=false:=by rw [beq_eq_false_iff_ne];omega
     clear HR2 hend
     go_wp2_with fail
     refine (implResultEnd s i _ hm hi).mono ?_
     rintro e w1 ⟨rfl,hw1⟩;subst w1
     rw [HQ.out,teV_yes]
     go_wp2_with fail
     refine (libClone y _ (by omega)).mono ?_
     rintro e wa ⟨rfl,hba⟩
     have HB2:Hid (Below w.heap.size w wa):=HB.out.trans (hba.mono (by omega))
     have HO:Hid (wa.ownsRow (w.heap.size+2) 9 1 (.slice ad ps.length cp) ps.length (cellsOfS ps)):=owns_below HST.out.own hba
     replace d0:=carry hba (by simp;omega) d0
     replace d1:=carry hba (by simp;omega) d1
     replace r0:=carry hba (by simp;omega) r0
     replace r1:=carry hba (by simp;omega) r1
     replace fr:∀ j,wa.frozen? ⟨w.heap.size,j,none⟩=false:=fun j=>carryF hba (by simp;omega) (fr j)
     replace fd:∀ j,wa.frozen? ⟨w.heap.size+1,j,none⟩=false:=fun j=>carryF hba (by simp;omega) (fd j)
     clear hba HST
     go_wp2_with fail
     go_step3
     go_wp2
     rw [jumps_ret]
     refine bodyPost_ret (v:=.tuple #[.agg #[.slice none 0 0,.string ⟨#[]⟩],.iface 189 (.agg #[.int .i64 (n:Int)])]) (by simp [results,Tryz.results151,go_sem,r0,r1]) rfl ⟨?_,?_⟩
     ·rw [HF.out];rfl
     ·exact ((HB2.out.setCell (by simp) _).setCell (Nat.le_refl _) _).setCell (Nat.le_refl _) _
  ·obtain ⟨_,_,_,_,_,_,_,_,_,_,_,_,_,_,_,_,_,_,_,_,_,_,_,_,_,_,_,_,_,_,_,_,_,_,_,_,_,_,_,_,_,_,_,_,_,_,_,_,_,_,_,_,_,_,_,_,_,_,_,_,_,_,_,_,_,_,_,rfl⟩:=rdFr_open hf
   refine ⟨_,rfl,?_⟩
   obtain ⟨r0,r1,d1,fr,fd⟩:=hst.cells
   have d0:=hst.d0
   have hsz:=hst.size
   have HST:Hid (RdSt w (rdW w) wr ps v):=hst
   have HB:Hid (Below w.heap.size w wr):=hst.below
   by_cases h41:byt s i=41
   ·have dd:(byt s i == 41)=true:=by rw [h41];rfl
    have hlt:i<s.size:=byt_in s i (by rw [h41];decide)
    have HF:Hid (rdD s=rdRs s (i+1) ps):=hr.trans (rdFrom_close s _ i ps h41)
    clear hr hst h41
    go_wp2_with fail
    refine (implByteAt s i _ hm hi).mono ?_
    rintro e w1 ⟨rfl,hw1⟩;subst w1
    go_wp2_with fail
    go_step3
    show rdJ _ _ _ _ _∧_<_
    exact⟨.inr (.inl ⟨rfl,i+1,ps,v,⟨rfl,rfl,rfl,rfl,rfl,by go_num⟩,by omega,HST.out,HF.out⟩),rdM_1 _ _ _⟩
   ·have dd:(byt s i == 41)=false:=by rw [beq_eq_false_iff_ne];exact h41
    obtain ⟨ad,cp,hv⟩:=hst.form
    subst hv
    by_cases hfull:ps.length=8
    ·have d8:((ps.length:Int) == 8)=true:=by rw [beq_iff_eq];omega
     have HF:Hid (rdD s = .error i):=by
      show _=_
      rw [hr,hfull];exact rdFrom_full s i ps h41
     clear hr hst h41
     go_wp2_with fail
     refine (implByteAt s i _ hm hi).mono ?_
     rintro e w1 ⟨rfl,hw1⟩;subst w1
     go_wp2_with fail
     go_step3
     show rdJ _ _ _ _ _∧_<_
     exact⟨.inl ⟨rfl,i,ps,_,⟨rfl,rfl,rfl,rfl,rfl,by go_num⟩,by omega,HST.out,HF.out⟩,rdM_0 _ _ _⟩
    ·have d8:((ps.length:Int) == 8)=false:=by rw [beq_eq_false_iff_ne];omega
     obtain ⟨k,hk⟩:∃ k,8 - ps.length=k+1:=⟨7 - ps.length,by omega⟩
     obtain ⟨⟨b,n⟩,hq⟩:∃ r,tyE s i=r:=⟨_,rfl⟩
     have HQ:Hid (tyE s i=(b,n)):=hq
     have hle:=tyE_le s i hi
     rw [hq] at hle
     have hle':n≤s.size:=hle
     cases b
     ·have HF:Hid (rdD s = .error n):=by
       show _=_
       rw [hr,hk];exact rdFrom_no s k i n ps h41 hq
      clear hr hst h41 hq hle
      go_wp2_with fail
      refine (implByteAt s i _ hm hi).mono ?_
      rintro e w1 ⟨rfl,hw1⟩;subst w1
      go_wp2_with fail
      refine (implTypeEnd s i _ hm hi).mono ?_
      rintro e w1 ⟨rfl,hw1⟩;subst w1
      rw [HQ.out,teV_no]
      go_wp2
      rw [jumps_ret]
      refine bodyPost_ret (v:=.tuple #[.agg #[.slice none 0 0,.string ⟨#[]⟩],.iface 189 (.agg #[.int .i64 (n:Int)])]) (by simp [results,Tryz.results151,go_sem,r0,r1]) rfl ⟨?_,?_⟩
      ·rw [HF.out];rfl
      ·exact (HB.out.setCell (Nat.le_refl _) _).setCell (Nat.le_refl _) _
     ·have hgt:=tyE_gt s i n hq
      have HF:Hid (rdD s=rdFrom s (8 - (ps ++ [s.extract i n]).length) n (ps ++ [s.extract i n])):=by
       show _=_
       rw [hr,hk,rdFrom_on s k i n ps h41 hq]
       congr 1
       simp;omega
      have hsl:∀ w:World,(Instr.slice 9 (.string s) (some (.int .i64 (i:Int))) (some (.int .i64 (n:Int))) none).run Tryz.prog w = .ok (.string (s.extract i n)) w:=by
       intro w
       have h:=run_slice_string (P:=Tryz.prog) w 9 s .i64 .i64 (i:Int) (n:Int) Tryz.underlying9 (by omega) (by omega) (by omega)
       simpa using h
      have hys:(s.extract i n).size≤20000:=by rw [ByteArray.size_extract];omega
      clear hr hst h41 hq hle
      generalize s.extract i n=y at *
      go_wp2_with fail
      refine (implByteAt s i _ hm hi).mono ?_
      rintro e w1 ⟨rfl,hw1⟩;subst w1
      go_wp2_with fail
      refine (implTypeEnd s i _ hm hi).mono ?_
      rintro e w1 ⟨rfl,hw1⟩;subst w1
      rw [HQ.out,teV_yes]
      go_wp2_with fail
      have fd0:=fd 0
      have hlt1:w.heap.size+1<wr.heap.size:=by omega
      have HNE:Hid (∀ b,b<w.heap.size+2→some b ≠ (Value.slice ad ps.length cp).ownBlock):=fun b hb2 e=>by
       have:=(HST.out.own.lt b e.symm).1
       omega
      go_region_law (first
       | (refine step_append_lies _ (by rfl) _ _ _ (by rfl) (w.heap.size+2) 9 i0 _ 1 16 Tryz.underlying91 HI.out.1 HI.out.2.1 HI.out.2.2.1 HI.out.2.2.2 rfl (by omega) (.slice ad ps.length cp) ps.length (cellsOfS ps) (by rfl) ((owns_below (w:=wr) HST.out.own HBA.out).alloc _) ⟨wa.heap.size,0,none⟩ 1 1 [.string y] (by rfl) (by rfl) (World.news_of_block (cs:=#[.string y]) (t:=9) (fr:=(0,0)) (heap_alloc_new wa _)) (by simp [Value.oneCell']) (by omega) (by unfold maxLen;omega) (by omega) (by have:=HBA.out.size;simp;omega) (wa.heap.size+1) (by simp) ?_;intro g cap w1 hown1 hgrow hat hlt;have d01:w1.cell? ⟨w.heap.size+1,0,none⟩=some (.slice ad ps.length cp):=(hgrow.cell_far _ (by have:=HBA.out.size;simp;omega) (HNE.out _ (by simp))).trans (d0b _);have f01:w1.frozen? ⟨w.heap.size+1,0,none⟩=false:=(hgrow.frozen_far _ (by have:=HBA.out.size;simp;omega) (HNE.out _ (by simp))).trans (carryF ((Below.refl _ _).alloc (Nat.le_refl _) _) (Nat.lt_of_lt_of_le hlt1 HBA.out.size) (carryF HBA.out hlt1 fd0));have HNX:Hid (RdSt w (rdW w) (w1.setCell ⟨w.heap.size+1,0,none⟩ (.slice (some ⟨g,0,none⟩) (ps.length+1) cap)) (ps ++ [y]) (.slice (some ⟨g,0,none⟩) (ps.length+1) cap)):=HST.out.step HBA.out hgrow hown1;clear hown1 hgrow hat hlt)
       | (go_simp;go_at_call 43;refine (libClone y _ (by omega)).mono ?_;rintro e wa ⟨rfl,hba⟩;have d0a:=carry hba hlt1 d0;have d0b:∀ o,(wa.alloc o).cell? ⟨w.heap.size+1,0,none⟩=some (.slice ad ps.length cp):=fun o=>carry ((Below.refl _ _).alloc (Nat.le_refl _) o) (Nat.lt_of_lt_of_le hlt1 hba.size) d0a;have hba':Below wr.heap.size wr wa:=(Below.refl _ _).drew.trans hba;have HBA:Hid (Below wr.heap.size wr wa):=hba';clear hba hba';simp only []))
      all_goals
       go_wp2_with fail
       go_step3
       show rdJ _ _ _ _ _∧_<_
       exact⟨.inr (.inr ⟨rfl,n,ps ++ [y],_,⟨rfl,rfl,rfl,rfl,rfl,by go_num⟩,by omega,HNX.out,by simp;omega,HF.out⟩),by simp [rdM,intOf];omega⟩
 ·intro hfall
  have HFALL:Hid _:=hfall
  clear hfall
  have hba:=implByteAt s 0
  have HBA:Hid (∀ (w:World),s.size≤maxLen→0≤s.size→Calls Tryz.prog 164 #[.string s,.int .i64 0] w fun e w'=>e = .returned (.int .u8 (byt s 0))∧w'=w):=hba
  clear hba
  have HST:Hid (RdSt w (rdW w) (rdW w) [] (.slice none 0 0)):=RdSt.start w
  by_cases h40:byt s 0=40
  ·have dd:(byt s 0 == 40)=true:=by rw [h40];rfl
   have hlt:0<s.size:=byt_in s 0 (by rw [h40];decide)
   have HF:Hid (rdD s=rdFrom s 8 1 []):=by show _=_;unfold rdD;rw [if_pos h40]
   clear h40
   go_wp2_with fail
   refine (HBA.out _ hm (Nat.zero_le _)).mono ?_
   rintro e w1 ⟨rfl,hw1⟩;subst w1
   go_wp2_with fail
   go_step3
   simp only [Exit.then]
   rename_i hKK
   refine hKK _ _ ?_
   refine HFALL.out 2 _ _ _ rfl ?_
   exact .inr (.inr ⟨rfl,1,[],_,⟨rfl,rfl,rfl,rfl,rfl,rfl⟩,by omega,HST.out,by simp,HF.out⟩)
  ·have dd:(byt s 0 == 40)=false:=by rw [beq_eq_false_iff_ne];exact h40
   have HF:Hid (rdD s = .error 0):=by show _=_;unfold rdD;rw [if_neg h40]
   clear h40
   go_wp2_with fail
   refine (HBA.out _ hm (Nat.zero_le _)).mono ?_
   rintro e w1 ⟨rfl,hw1⟩;subst w1
   go_wp2_with fail
   go_step3
   show rdJ _ _ _ _ _
   exact .inl ⟨rfl,0,[],_,⟨rfl,rfl,rfl,rfl,rfl,rfl⟩,Nat.zero_le _,HST.out,HF.out⟩
end Go.Proofs.YtmhgaggpdggbeaaGreatDoor
