import Derived.Test.YtmhgaggpdggbeaaGreatDoorFfI
namespace Go.Proofs.YtmhgaggpdggbeaaGreatDoor
open Go.RowKit
set_option maxRecDepth 20000
set_option linter.unusedVariables false
theorem fldAt {w:World} {a:Option Addr} {m c:Nat} {fs:List FieldD} {k:Nat} (h:fieldR.slice.In w [.slice a m c] fs) (hk:k<fs.length):∃ b o,a=some ⟨b,o,none⟩∧w.cell? ⟨b,o+k * 3,none⟩=some (.string fs[k].1)∧w.cell? ⟨b,o+k * 3+1,none⟩=some (.string fs[k].2.1)∧w.cell? ⟨b,o+k * 3+2,none⟩=some (.bool fs[k].2.2):=by
 obtain ⟨a',cap,hv,hn,hcap,hat⟩:=h
 cases hv
 obtain ⟨x,rfl,hx⟩:=hat k hk
 obtain ⟨b,o,rfl⟩:∃ b o,x=⟨b,o,none⟩:=by
  obtain ⟨x0,e0,h0⟩:=hat 0 (by omega)
  cases e0
  exact h0.plain (by decide)
 obtain ⟨cs,hc,hin⟩:=hx
 obtain ⟨rfl,_⟩:=fieldR_in hin
 have hk:fieldR.k=3:=rfl
 rw [hk] at hc
 have g0:=hc 0 (by omega)
 have g1:=hc 1 (by omega)
 have g2:=hc 2 (by omega)
 simp only [fieldC,List.getElem?_cons_zero,List.getElem?_cons_succ] at g0 g1 g2
 simp only [plain_add,← Nat.add_assoc,Nat.add_zero] at g0 g1 g2
 exact⟨b,o,rfl,g0,g1,g2⟩
def pcA (L:List CTup) (u i c:Nat):Nat:=if c≤u then stA L c else stA L u+cntF ((((L[u]?).map fsC).getD []).take i) true
def pcB (fs:List FieldD) (b:Bool) (i k:Nat):Nat:=if b then cntF (fs.take k) true else cntF (fs.take (min k i)) true
theorem pcA_le {L:List CTup} {u i c:Nat} (h:c≤u):pcA L u i c=stA L c:=if_pos h
theorem pcA_end {L:List CTup} {u i:Nat} (hu:u<L.length):pcA L u i (u+1)=stA L u+cntF ((fsC L[u]).take i) true:=by
 unfold pcA
 rw [if_neg (by omega),List.getElem?_eq_getElem hu]
 rfl
theorem pcB_end1 {L:List CTup} {u i c:Nat} (h:c<u) (hc:c<L.length):pcA L u i c+pcB (fsC L[c]) true i (fsC L[c]).length=pcA L u i (c+1):=by
 rw [pcA_le (by omega),pcA_le (by omega),stA_succ hc]
 unfold pcB
 rw [if_pos rfl,List.take_length]
theorem pcB_end2 {L:List CTup} {u i:Nat} (hu:u<L.length) (hi:i≤(fsC L[u]).length):pcA L u i u+pcB (fsC L[u]) false i (fsC L[u]).length=pcA L u i (u+1):=by
 rw [pcA_le (Nat.le_refl _),pcA_end hu]
 unfold pcB
 rw [if_neg (by simp),show min (fsC L[u]).length i=i by omega]
theorem pcB_yes {fs:List FieldD} {b:Bool} {i k:Nat} (hk:k<fs.length) (hs:fs[k].2.2=true) (h:b=true ∨ k<i):pcB fs b i (k+1)=pcB fs b i k+1:=by
 unfold pcB
 rcases h with rfl | h
 ·rw [if_pos rfl,if_pos rfl,cntF_yes hk hs]
 ·by_cases e:b=true
  ·rw [if_pos e,if_pos e,cntF_yes hk hs]
  ·rw [if_neg e,if_neg e,show min (k+1) i=k+1 by omega,show min k i=k by omega,cntF_yes hk hs]
theorem pcB_no {fs:List FieldD} {b:Bool} {i k:Nat} (hk:k<fs.length) (h:fs[k].2.2=false ∨ (b=false∧¬ k<i)):pcB fs b i (k+1)=pcB fs b i k:=by
 unfold pcB
 rcases h with h | ⟨rfl,h⟩
 ·by_cases e:b=true
  ·rw [if_pos e,if_pos e,cntF_no hk (by simp [h])]
  ·rw [if_neg e,if_neg e]
   by_cases hki:k<i
   ·rw [show min (k+1) i=k+1 by omega,show min k i=k by omega,cntF_no hk (by simp [h])]
   ·rw [show min (k+1) i=min k i by omega]
 ·rw [if_neg (by simp),if_neg (by simp),show min (k+1) i=min k i by omega]
theorem pcB_le (fs:List FieldD) (b:Bool) (i k:Nat):pcB fs b i k≤fs.length:=by
 unfold pcB
 split<;>exact Nat.le_trans (cntF_le _ _) (by rw [List.length_take];omega)
set_option maxRecDepth 20000 in
set_option maxHeartbeats 16000000 in
theorem specFindFL (L:List CTup) (v:Value) (cl n d:ByteArray) (w:World) (h:classR.slice.In w [v] L) (hR:Right L) :
  Calls Tryz.prog 48 #[v,.string cl,.string n,.string d] w fun e w'=>e = .returned (fdV (ffL L cl n d))∧Below w.heap.size w w':=by
 have hA:AcyG nmC suC L:=Past.acyL fun q hq=>hR.2 q (by omega)
 have hf8:∀ c ∈ L,(fsC c).length≤8:=fun c hc=>cls_f8 hR c (List.mem_append_right _ hc)
 have hL10:=hR.1
 have HFi:Hid (∀ w' n,Below w.heap.size w w'→Calls Tryz.prog 66 #[v,.string n] w' fun e w2=>e = .returned (.int .i64 (ixI (fixG nmC L n)))∧w2=w'):=fun w' n hb=>specFind L v n w' (classR.slice.mono _ _ _ _ hb h)
 have HFs:Hid (∀ k (hk:k<L.length) w',Below w.heap.size w w'→Calls Tryz.prog 39 #[v,.string (suC L[k])] w' fun e w2=>∃ u c,e = .returned (.slice u (fldL L (suC L[k])).length c)∧Below w'.heap.size w' w2):=fun k hk w' hb=>by
  refine Calls.mono (specFieldsL L v hA (by omega) hf8 _ (suC L[k]) w' (classR.slice.mono _ _ _ _ hb h) (Nat.lt_succ_self _)) ?_
  rintro e w2 ⟨hb2,u,rfl,ho⟩
  obtain ⟨p,c,rfl⟩:=own_sl3 ho
  exact⟨p,c,rfl,hb2⟩
 have HIn:=(show Hid (∀ n,(fixG nmC L n=none∧CH nmC suC L n=[]) ∨ ∃ k,∃ hk:k<L.length,fixG nmC L n=some k∧nmC L[k]=n∧CH nmC suC L n=L[k] :: CH nmC suC L (suC L[k])) from CH_fix hA)
 have HLn:Hid (∀ n,lenAt L (ixI (fixG nmC L n))=(CH nmC suC L n).length):=lenAt_fix L
 have HFl80:Hid (∀ m,(fldL L m).length≤80):=fun m=>by have:=fldL_len hA hf8 m;omega
 have HF8:=(show Hid (∀ c (hc:c<L.length),(fsC L[c]).length≤8) from fun c hc=>hf8 _ (List.getElem_mem hc))
 have HSA:=(show Hid (∀ k,stA L k≤8 * k) from stA_le hf8)
 obtain ⟨a,cap,rfl,hn0,hcap,hat⟩:=slice_open (by decide) h
 unfold maxLen at hcap
 have HA:Hid (∀ i (h:i<L.length),∃ b o,a=some ⟨b,o,none⟩∧classR.At w ⟨b,o,none⟩ i L[i]):=hat
 have HR0:Hid (ffL L cl n d=ffU L n d (CH nmC suC L cl)):=rfl
 generalize ffL L cl n d=res at *
 clear hat h hA hR hf8
 go_enter Tryz.func48,Tryz.ntmps48
 go_wp2_with fail
 obtain ⟨W,hW⟩:∃ W,(w.alloc (.cells #[.string ⟨#[]⟩,.int .i64 0,.int .i64 0] 34))=W:=⟨_,rfl⟩
 have r0:W.cell? ⟨w.heap.size,0,none⟩=some (.string ⟨#[]⟩):=by rw [← hW];simp [go_sem]
 have r1:W.cell? ⟨w.heap.size,1,none⟩=some (.int .i64 0):=by rw [← hW];simp [go_sem]
 have r2:W.cell? ⟨w.heap.size,2,none⟩=some (.int .i64 0):=by rw [← hW];simp [go_sem]
 have fr:∀ j,W.frozen? ⟨w.heap.size,j,none⟩=false:=fun j=>by rw [← hW];simp [go_sem]
 have hz:w.heap.size<W.heap.size:=by rw [← hW];simp
 have HB1:Hid (Below w.heap.size w W):=hW ▸ below_al _ _
 rw [hW]
 clear hW
 refine Calls.mono (HFi.out _ cl HB1.out) ?_
 rintro e w2 ⟨rfl,hw2⟩
 subst w2
 go_wp2_with fail
 go_loopw [9] (fun jU wr=>∃ m:ByteArray,jU = .int .i64 (ixI (fixG nmC L m))∧Below W.heap.size W wr∧res=ffU L n d (CH nmC suC L m)) (fun jU _=>lenAt L (intOf jU))
 case atStart=>exact⟨cl,rfl,Below.refl _ _,HR0.out⟩
 case round =>
  obtain ⟨m,rfl,hb,hr⟩:=hrel
  have HR:=(show Hid (res=ffU L n d (CH nmC suC L m)) from hr)
  have HBr:Hid (Below w.heap.size w wr):=HB1.out.trans (hb.mono HB1.out.size)
  have HBo:Hid (Below W.heap.size W wr):=hb
  replace r0:=carry hb hz r0
  replace r1:=carry hb hz r1
  replace r2:=carry hb hz r2
  replace fr:∀ j,wr.frozen? ⟨w.heap.size,j,none⟩=false:=fun j=>carryF hb hz (fr j)
  have hz1:w.heap.size<wr.heap.size:=Nat.lt_of_lt_of_le hz hb.size
  have hln:=HLn.out m
  clear hb hr
  rcases HIn.out m with ⟨k1,k2⟩ | ⟨u,hu,k1,k2,k3⟩
  ·have HZ:Hid (res=(tE,0,8)):=by show _=_;rw [HR.out,k2];rfl
   rw [k1,show ixI (none:Option Nat) = -1 from rfl]
   clear HR hln k1 k2
   have q:=found3 r0 r1 r2 (.string ⟨#[]⟩) (.int .i64 0) (.int .i64 8)
   go_wp2
   exact bodyPost_ret (v:=.agg #[.string ⟨#[]⟩,.int .i64 0,.int .i64 8]) (by simp [results,Tryz.results48,go_sem,q.1,q.2.1,q.2.2]) rfl ⟨by rw [HZ.out];rfl,((HBr.out.setCell (by simp) _).setCell (by simp) _).setCell (by simp) _⟩
  ·have hfu:res=match fIx (fsC L[u]) n d with
    | some i=>(nmC L[u],ffP L L[u] i,0)
    | none=>ffU L n d (CH nmC suC L (suC L[u])):=by rw [HR.out,k3];rfl
   have HFu:=(show Hid _ from hfu)
   have hlk:lenAt L (ixI (fixG nmC L (suC L[u])))<lenAt L (ixI (fixG nmC L m)):=by rw [HLn.out,hln,k3];simp
   have HFX:Hid (fixG nmC L (nmC L[u])=some u):=by show _=_;rw [k2];exact k1
   rw [k1,show ixI (some u)=(u:Int) from rfl] at hlk ⊢
   have HLk:=(show Hid _ from hlk)
   obtain ⟨b,o,rfl,hx0⟩:=HA.out u hu
   have HX:Hid (∀ w',Below w.heap.size w w'→∀ c (hc:c<L.length),∃ fa fc,w'.cell? ⟨b,o+c * 6,none⟩=some (.string (nmC L[c]))∧w'.cell? ⟨b,o+c * 6+1,none⟩=some (.string (suC L[c]))∧w'.cell? ⟨b,o+c * 6+4,none⟩=some (.slice fa (fsC L[c]).length fc)∧(fsC L[c]).length≤1152921504606846976∧fieldR.slice.In w' [.slice fa (fsC L[c]).length fc] (fsC L[c])):=fun w' hb c hc=>by
    obtain ⟨b',o',e,hx⟩:=HA.out c hc
    cases e
    obtain ⟨vc,vh,g0,g1,_,_,g4,_,_,_,h4,_⟩:=classAt (hx.mono hb)
    obtain ⟨fa,fc,rfl⟩:=slice_form h4
    exact⟨fa,fc,g0,g1,g4,by have:=HF8.out c hc;omega,h4⟩
   have hu6:(u:Int)<(L.length:Int):=by omega
   have hu8:=HF8.out u hu
   clear HR hln k1 k2 k3 hfu hlk hx0
   obtain ⟨xo,hxo⟩:∃ xo,wr=xo:=⟨_,rfl⟩
   subst wr
   have HRR:Hid (∀ w',Below xo.heap.size xo w'→w'.cell? ⟨w.heap.size,0,none⟩=some (.string ⟨#[]⟩)∧w'.cell? ⟨w.heap.size,1,none⟩=some (.int .i64 0)∧w'.cell? ⟨w.heap.size,2,none⟩=some (.int .i64 0)∧∀ j,w'.frozen? ⟨w.heap.size,j,none⟩=false):=fun w' hb=>⟨carry hb hz1 r0,carry hb hz1 r1,carry hb hz1 r2,fun j=>carryF hb hz1 (fr j)⟩
   clear r0 r1 r2 fr
   go_wp2_with fail
   go_loopw [10] (fun j10 wr=>∃ i:Nat,i≤(fsC L[u]).length∧j10 = .int .i64 (i:Int)∧Below xo.heap.size xo wr∧∀ k (hk:k<(fsC L[u]).length),k<i→¬ ((fsC L[u])[k].1=n∧(fsC L[u])[k].2.1=d)) (fun j10 _=>(fsC L[u]).length - (intOf j10).toNat)
   case atStart=>exact⟨0,Nat.zero_le _,rfl,Below.refl _ _,fun k _ h=>by omega⟩
   case round =>
    obtain ⟨i,hi,rfl,hbx,hno⟩:=hrel
    have HBx:Hid (Below xo.heap.size xo wr):=hbx
    have HBw:Hid (Below w.heap.size w wr):=HBr.out.trans (hbx.mono HBr.out.size)
    have HNo:=(show Hid _ from hno)
    have hzw:w.heap.size<wr.heap.size:=Nat.lt_of_lt_of_le hz1 hbx.size
    clear hbx hno
    obtain ⟨fa,fc,g0,g1,g4,hfz,hin⟩:=HX.out wr HBw.out u hu
    by_cases hil:i<(fsC L[u]).length
    ·obtain ⟨fb,fo,rfl,q0,q1,q2⟩:=fldAt hin hil
     have HSM:Hid ((fsC L[u])[i].1=n→(fsC L[u])[i].2.1=d→res=(nmC L[u],ffP L L[u] i,0)):=fun e1 e2=>by rw [HFu.out,fIx_some hil ⟨e1,e2⟩ HNo.out]
     have HNM:Hid (¬ ((fsC L[u])[i].1=n∧(fsC L[u])[i].2.1=d)→∀ k (hk:k<(fsC L[u]).length),k<i+1→¬ ((fsC L[u])[k].1=n∧(fsC L[u])[k].2.1=d)):=fun e k hk hki=>by
      by_cases e2:k=i
      ·subst e2;exact e
      ·exact HNo.out k hk (by omega)
     have HPt:=(show Hid ((fsC L[u])[i].2.2=true→_) from fun e=>ffP_st (L:=L) hil e)
     have HPf:=(show Hid ((fsC L[u])[i].2.2=false→_) from fun e=>ffP_no (L:=L) hil e)
     have HIN:=(show Hid (fieldR.slice.In wr [.slice (some ⟨fb,fo,none⟩) (fsC L[u]).length fc] (fsC L[u])) from hin)
     have hii:(i:Int)<(fsC L[u]).length:=by omega
     have HBa:Hid (∀ o,Below xo.heap.size xo (wr.alloc o)):=fun o=>HBx.out.alloc HBx.out.size o
     have hbl:b<wr.heap.size:=World.block_lt_of_cell? _ _ g0
     have ga0:∀ O,(wr.alloc O).cell? ⟨b,o+u * 6,none⟩=some (.string (nmC L[u])):=fun O=>carry (below_al wr O) hbl g0
     have ga1:∀ O,(wr.alloc O).cell? ⟨b,o+u * 6+1,none⟩=some (.string (suC L[u])):=fun O=>carry (below_al wr O) hbl g1
     have HBwa:Hid (∀ o,Below w.heap.size w (wr.alloc o)):=fun o=>HBw.out.alloc (Nat.le_of_lt hzw) o
     clear HNo hin
     obtain ⟨D,hD⟩:∃ D,(fsC L[u])[i]=D:=⟨_,rfl⟩
     rw [hD] at q0 q1 q2 HSM HNM HPt HPf
     clear hD
     obtain ⟨d0,d1,d2⟩:=D
     dsimp only at q0 q1 q2 HSM HNM HPt HPf
     by_cases e1:d0=n
     ·have t1:=tx_eq e1
      by_cases e2:d1=d
      ·have t2:=tx_eq e2
       have HZ0:=(show Hid _ from HSM.out e1 e2)
       clear HSM HNM e1 e2
       cases d2 with
       | true =>
        have HP:=(show Hid _ from HPt.out rfl)
        clear HPt HPf
        have gz:=ga0 (.cells #[.string d0,.string d1,.bool true] 61)
        have HBY:Hid (Below xo.heap.size xo (wr.alloc (.cells #[.string d0,.string d1,.bool true] 61))):=HBa.out _
        have HBYw:Hid (Below w.heap.size w (wr.alloc (.cells #[.string d0,.string d1,.bool true] 61))):=HBwa.out _
        go_wp2_with fail
        obtain ⟨Y,hY⟩:∃ Y,wr.alloc (.cells #[.string d0,.string d1,.bool true] 61)=Y:=⟨_,rfl⟩
        rw [hY] at gz HBY HBYw ⊢
        clear hY ga0 ga1 g0 g1 g4 q0 q1 q2
        go_loopw [12,13] (fun j12 j13 wr=>∃ c:Nat,c≤u+1∧j13 = .int .i64 (c:Int)∧j12 = .int .i64 ((pcA L u i c:Nat):Int)∧wr=Y) (fun _ j13 _=>u+1 - (intOf j13).toNat)
        case atStart=>exact⟨0,by omega,rfl,by rw [pcA_le (Nat.zero_le _)];rfl,rfl⟩
        case round =>
         obtain ⟨c,hc,rfl,rfl,hw⟩:=hrel
         subst wr
         by_cases hcu:c≤u
         ·have dcu:decide ((c:Int)≤(u:Int))=true:=by simp;omega
          have hcL:c<L.length:=by omega
          obtain ⟨fa',fc',c0,c1,c4,cz,cin⟩:=HX.out Y HBYw.out c hcL
          have hpa:pcA L u i c≤80:=by rw [pcA_le hcu];have:=HSA.out c;omega
          have HE1:Hid (c<u→pcA L u i c+pcB (fsC L[c]) (decide (c<u)) i (fsC L[c]).length=pcA L u i (c+1)):=fun h=>by rw [decide_eq_true h];exact pcB_end1 h hcL
          have HE2:Hid (c=u→pcA L u i c+pcB (fsC L[c]) (decide (c<u)) i (fsC L[c]).length=pcA L u i (c+1)):=fun h=>by subst h;rw [decide_eq_false (Nat.lt_irrefl _)];exact pcB_end2 hcL hi
          have hf8:=HF8.out c hcL
          have hcl6:(c:Int)<(L.length:Int):=by omega
          clear c0 c1
          have HPA:Hid (∀ x,pcA L u i c=x→x≤80):=fun x e=>e ▸ hpa
          obtain ⟨FS,hFS⟩:∃ FS,fsC L[c]=FS:=⟨_,rfl⟩
          rw [hFS] at c4 cz cin HE1 HE2 hf8
          clear hFS
          obtain ⟨bb,hbb⟩:∃ bb,decide (c<u)=bb:=⟨_,rfl⟩
          rw [hbb] at HE1 HE2
          have HBB:Hid (bb=decide (c<u)):=hbb.symm
          clear hbb
          have HPB:=(show Hid _ from fun k=>pcB_le FS bb i k)
          go_wp2_with fail
          go_loopw [12,14] (fun j12 j14 wr=>∃ k:Nat,k≤FS.length∧j14 = .int .i64 (k:Int)∧j12 = .int .i64 ((pcA L u i c+pcB FS bb i k:Nat):Int)∧wr=Y) (fun _ j14 _=>FS.length - (intOf j14).toNat)
          case atStart=>exact⟨0,Nat.zero_le _,rfl,by simp [pcB,cntF],rfl⟩
          case round =>
           obtain ⟨k,hk,rfl,rfl,hw⟩:=hrel
           subst wr
           have hpb:=HPB.out k
           by_cases hkl:k<FS.length
           ·obtain ⟨b',o',rfl,p0,p1,p2⟩:=fldAt cin hkl
            have hki:(k:Int)<FS.length:=by omega
            clear p0 p1
            have HY1:Hid (FS[k].2.2=true→(c<u ∨ k<i)→pcB FS bb i (k+1)=pcB FS bb i k+1):=fun e1 e2=>pcB_yes hkl e1 (by rw [HBB.out];simpa using e2)
            have HN1:Hid ((FS[k].2.2=false ∨ (¬ c<u∧¬ k<i))→pcB FS bb i (k+1)=pcB FS bb i k):=fun e=>pcB_no hkl (by rw [HBB.out];simpa using e)
            generalize FS[k].2.2=st at *
            cases st with
            | false =>
             have HZ:=(show Hid _ from HN1.out (.inl rfl))
             clear HY1 HN1
             go_wp2
             go_roundw
             case rel=>exact⟨k+1,by omega,by go_num,by rw [HZ.out],by first | rfl | trivial⟩
             case measure=>simp [intOf];omega
            | true =>
             by_cases h1:c<u
             ·have dlu:decide ((c:Int)<(u:Int))=true:=by simp;omega
              have HZ:=(show Hid _ from HY1.out rfl (.inl h1))
              clear HY1 HN1
              go_wp2
              go_roundw
              case rel=>exact⟨k+1,by omega,by go_num,by rw [HZ.out];go_num,by first | rfl | trivial⟩
              case measure=>simp [intOf];omega
             ·have dlu:decide ((c:Int)<(u:Int))=false:=by simp;omega
              by_cases h2:k<i
              ·have dki:decide ((k:Int)<(i:Int))=true:=by simp;omega
               have HZ:=(show Hid _ from HY1.out rfl (.inr h2))
               clear HY1 HN1
               go_wp2
               go_roundw
               case rel=>exact⟨k+1,by omega,by go_num,by rw [HZ.out];go_num,by first | rfl | trivial⟩
               case measure=>simp [intOf];omega
              ·have dki:decide ((k:Int)<(i:Int))=false:=by simp;omega
               have HZ:=(show Hid _ from HN1.out (.inr ⟨h1,h2⟩))
               clear HY1 HN1
               go_wp2
               go_roundw
               case rel=>exact⟨k+1,by omega,by go_num,by rw [HZ.out],by first | rfl | trivial⟩
               case measure=>simp [intOf];omega
           ·obtain rfl:k=FS.length:=by omega
            have HZ:Hid (pcA L u i c+pcB FS bb i FS.length=pcA L u i (c+1)):=by
             by_cases h1:c<u
             ·exact HE1.out h1
             ·exact HE2.out (by omega)
            rw [HZ.out]
            clear HE1 HE2 hpb HPB hpa HPA
            go_wp2
            go_roundw
            case rel=>exact⟨c+1,by omega,by go_num,rfl,by first | rfl | trivial⟩
            case measure=>simp [intOf];omega
         ·obtain rfl:c=u+1:=by omega
          have dcu:decide (((u+1:Nat):Int)≤(u:Int))=false:=by simp;omega
          have HZ:Hid (res=(nmC L[u],((pcA L u i (u+1):Nat):Int),0)):=by
           show _=_
           rw [HZ0.out,HP.out,HFX.out,pcA_end hu]
           simp
          generalize pcA L u i (u+1)=pl at *
          obtain ⟨r0,r1,r2,fr⟩:=HRR.out Y HBY.out
          have q:=found3 r0 r1 r2 (.string (nmC L[u])) (.int .i64 (pl:Int)) (.int .i64 0)
          go_wp2
          exact bodyPost_ret (v:=.agg #[.string (nmC L[u]),.int .i64 (pl:Int),.int .i64 0]) (by simp [results,Tryz.results48,go_sem,q.1,q.2.1,q.2.2]) rfl ⟨by rw [HZ.out];rfl,((HBYw.out.setCell (by simp) _).setCell (by simp) _).setCell (by simp) _⟩
       | false =>
        have HP:=(show Hid _ from HPf.out rfl)
        clear HPt HPf
        have gz0:=ga0 (.cells #[.string d0,.string d1,.bool false] 61)
        have HIa:Hid (∀ w',Below wr.heap.size wr w'→fieldR.slice.In w' [.slice (some ⟨fb,fo,none⟩) (fsC L[u]).length fc] (fsC L[u])):=fun w' hb=>fieldR.slice.mono _ _ _ _ hb HIN.out
        go_wp2_with fail
        refine Calls.mono (HFs.out u hu _ (HBwa.out _)) ?_
        rintro e w3 ⟨pu,pc,rfl,hb3⟩
        have HBY:Hid (Below xo.heap.size xo w3):=(HBa.out _).trans (hb3.mono (HBa.out _).size)
        have HBYw:Hid (Below w.heap.size w w3):=(HBwa.out _).trans (hb3.mono (HBwa.out _).size)
        have HI3:=(show Hid _ from HIa.out w3 ((below_al wr _).trans (hb3.mono (by simp))))
        have gz3:=carry hb3 (by simp;omega) gz0
        obtain ⟨fa3,fc3,_,_,gf3,_,_⟩:=HX.out w3 HBYw.out u hu
        obtain ⟨rfl,rfl⟩:fa3=some ⟨fb,fo,none⟩∧fc3=fc:=by
         have:=carry ((below_al wr (.cells #[.string d0,.string d1,.bool false] 61)).trans (hb3.mono (by simp))) hbl g4
         rw [this] at gf3
         cases gf3
         exact⟨rfl,rfl⟩
        have hl80:=HFl80.out (suC L[u])
        clear hb3 ga0 ga1 g0 g1 g4 q0 q1 q2 gz0
        generalize (fldL L (suC L[u])).length=ln at *
        go_wp2_with fail
        go_loopw [12,15] (fun j12 j15 wr=>∃ k:Nat,k≤i∧j15 = .int .i64 (k:Int)∧j12 = .int .i64 ((ln:Int)+((cntF ((fsC L[u]).take k) false:Nat):Int))∧wr=w3) (fun _ j15 _=>i - (intOf j15).toNat)
        case atStart=>exact⟨0,Nat.zero_le _,rfl,by simp [cntF],rfl⟩
        case round =>
         obtain ⟨k,hk,rfl,rfl,hw⟩:=hrel
         subst wr
         by_cases hki:k<i
         ·have hkl:k<(fsC L[u]).length:=by omega
          obtain ⟨b',o',e',p0,p1,p2⟩:=fldAt HI3.out hkl
          cases e'
          clear p0 p1
          have hkI:(k:Int)<(i:Int):=by omega
          have hkL:(k:Int)<(fsC L[u]).length:=by omega
          have hct:cntF ((fsC L[u]).take k) false≤8:=Nat.le_trans (cntF_le _ _) (by rw [List.length_take];omega)
          have HY1:=(show Hid _ from fun e=>cntF_yes (st:=false) hkl e)
          have HN1:=(show Hid _ from fun e=>cntF_no (st:=false) hkl e)
          generalize (fsC L[u])[k].2.2=st at *
          cases st with
          | false =>
           have HZ:=(show Hid _ from HY1.out rfl)
           clear HY1 HN1
           go_wp2
           go_roundw
           case rel=>exact⟨k+1,by omega,by go_num,by rw [HZ.out];go_num,by first | rfl | trivial⟩
           case measure=>simp [intOf];omega
          | true =>
           have HZ:=(show Hid _ from HN1.out (by simp))
           clear HY1 HN1
           go_wp2
           go_roundw
           case rel=>exact⟨k+1,by omega,by go_num,by rw [HZ.out],by first | rfl | trivial⟩
           case measure=>simp [intOf];omega
         ·obtain rfl:k=i:=by omega
          have hkI:decide ((k:Int)<(k:Int))=false:=by simp
          have HZ:Hid (res=(nmC L[u],(ln:Int)+((cntF ((fsC L[u]).take k) false:Nat):Int),0)):=by show _=_;rw [HZ0.out,HP.out]
          obtain ⟨r0,r1,r2,fr⟩:=HRR.out w3 HBY.out
          have q:=found3 r0 r1 r2 (.string (nmC L[u])) (.int .i64 ((ln:Int)+((cntF ((fsC L[u]).take k) false:Nat):Int))) (.int .i64 0)
          go_wp2
          exact bodyPost_ret (v:=.agg #[.string (nmC L[u]),.int .i64 ((ln:Int)+((cntF ((fsC L[u]).take k) false:Nat):Int)),.int .i64 0]) (by simp [results,Tryz.results48,go_sem,q.1,q.2.1,q.2.2]) rfl ⟨by rw [HZ.out];rfl,((HBYw.out.setCell (by simp) _).setCell (by simp) _).setCell (by simp) _⟩
      ·have t2:=tx_ne e2
       have HN2:=(show Hid _ from HNM.out fun k=>e2 k.2)
       clear HSM HNM e1 e2 HPt HPf
       go_wp2
       go_roundw
       case rel=>exact⟨i+1,by omega,by go_num,HBa.out _,HN2.out⟩
       case measure=>simp [intOf];omega
     ·have t1:=tx_ne e1
      have HN2:=(show Hid _ from HNM.out fun k=>e1 k.1)
      clear HSM HNM e1 HPt HPf
      go_wp2
      go_roundw
      case rel=>exact⟨i+1,by omega,by go_num,HBa.out _,HN2.out⟩
      case measure=>simp [intOf];omega
    ·have HZ:Hid (res=ffU L n d (CH nmC suC L (suC L[u]))):=by
      show _=_
      rw [HFu.out,fIx_none fun k hk=>HNo.out k hk (by omega)]
     obtain rfl:i=(fsC L[u]).length:=by omega
     clear HNo HFu hin
     go_wp2_with fail
     refine Calls.mono (HFi.out _ _ HBw.out) ?_
     rintro e w4 ⟨rfl,hw4⟩
     subst w4
     go_wp2
     go_roundw
     case rel=>exact⟨suC L[u],rfl,HBo.out.trans (HBx.out.mono HBo.out.size),HZ.out⟩
     case measure=>exact HLk.out
set_option maxHeartbeats 2000000 in
theorem specFindFieldOf (L:List CTup) (v:Value) (cl n d:ByteArray) (w:World) (h:classR.slice.In w [v] L) (h1:cl.size≤maxLen) (h2:n.size≤maxLen) (h3:d.size≤maxLen) :
  Calls Tryz.prog 18 #[v,.string cl,.string n,.string d] w fun e w'=>e = .returned (fdV (ffV L cl n d))∧Below w.heap.size w w':=by
 have HRt:Hid (∀ w',Below w.heap.size w w'→Calls Tryz.prog 38 #[v] w' fun e w2=>e = .returned (.bool (rtB L))∧Below w'.heap.size w' w2):=fun w' hb=>specRight L v w' (classR.slice.mono _ _ _ _ hb h)
 have HFm:Hid (rtB L=true→∀ w',Below w.heap.size w w'→Calls Tryz.prog 48 #[v,.string cl,.string n,.string d] w' fun e w2=>e = .returned (fdV (ffL L cl n d))∧Below w'.heap.size w' w2):=fun hr w' hb=>specFindFL L v cl n d w' (classR.slice.mono _ _ _ _ hb h) (rt_right hr)
 have HLg:Hid ((400<L.length ∨ 20000<cl.size ∨ 20000<n.size ∨ 20000<d.size)→ffV L cl n d=(tE,0,2)):=fun k=>by unfold ffV;rw [if_pos k]
 have HSh:Hid (¬ (400<L.length ∨ 20000<cl.size ∨ 20000<n.size ∨ 20000<d.size)→ffV L cl n d=if rtB L then ffL L cl n d else (tE,0,0)):=fun k=>by unfold ffV;rw [if_neg k]
 obtain ⟨va,vcap,rfl,hvn,hvc,_⟩:=slice_open (by decide) h
 unfold maxLen at h1 h2 h3 hvc
 clear h
 generalize ffV L cl n d=res at *
 by_cases k0:400<L.length
 ·have HZ:Hid (res=(tE,0,2)):=HLg.out (.inl k0)
  have c0:decide ((400:Int)<(L.length:Int))=true:=by simp;omega
  clear HLg HSh
  go_enter Tryz.func18,Tryz.ntmps18
  go_wp2
  exact bodyPost_ret (v:=.agg #[.string ⟨#[]⟩,.int .i64 0,.int .i64 2]) (by simp [results,Tryz.results18,go_sem]) rfl ⟨by rw [HZ.out];rfl,by first | exact below_al _ _ | exact (((below_al _ _).setCell (by simp) _).setCell (by simp) _).setCell (by simp) _⟩
 have c0:decide ((400:Int)<(L.length:Int))=false:=by simp;omega
 by_cases k1:20000<cl.size
 ·have HZ:Hid (res=(tE,0,2)):=HLg.out (.inr (.inl k1))
  have c1:decide ((20000:Int)<(cl.size:Int))=true:=by simp;omega
  clear HLg HSh
  go_enter Tryz.func18,Tryz.ntmps18
  go_wp2
  exact bodyPost_ret (v:=.agg #[.string ⟨#[]⟩,.int .i64 0,.int .i64 2]) (by simp [results,Tryz.results18,go_sem]) rfl ⟨by rw [HZ.out];rfl,by first | exact below_al _ _ | exact (((below_al _ _).setCell (by simp) _).setCell (by simp) _).setCell (by simp) _⟩
 have c1:decide ((20000:Int)<(cl.size:Int))=false:=by simp;omega
 by_cases k2:20000<n.size
 ·have HZ:Hid (res=(tE,0,2)):=HLg.out (.inr (.inr (.inl k2)))
  have c2:decide ((20000:Int)<(n.size:Int))=true:=by simp;omega
  clear HLg HSh
  go_enter Tryz.func18,Tryz.ntmps18
  go_wp2
  exact bodyPost_ret (v:=.agg #[.string ⟨#[]⟩,.int .i64 0,.int .i64 2]) (by simp [results,Tryz.results18,go_sem]) rfl ⟨by rw [HZ.out];rfl,by first | exact below_al _ _ | exact (((below_al _ _).setCell (by simp) _).setCell (by simp) _).setCell (by simp) _⟩
 have c2:decide ((20000:Int)<(n.size:Int))=false:=by simp;omega
 by_cases k3:20000<d.size
 ·have HZ:Hid (res=(tE,0,2)):=HLg.out (.inr (.inr (.inr k3)))
  have c3:decide ((20000:Int)<(d.size:Int))=true:=by simp;omega
  clear HLg HSh
  go_enter Tryz.func18,Tryz.ntmps18
  go_wp2
  exact bodyPost_ret (v:=.agg #[.string ⟨#[]⟩,.int .i64 0,.int .i64 2]) (by simp [results,Tryz.results18,go_sem]) rfl ⟨by rw [HZ.out];rfl,by first | exact below_al _ _ | exact (((below_al _ _).setCell (by simp) _).setCell (by simp) _).setCell (by simp) _⟩
 have c3:decide ((20000:Int)<(d.size:Int))=false:=by simp;omega
 have HS:=(show Hid _ from HSh.out (by omega))
 clear HLg HSh
 cases hr:rtB L with
 | false =>
  have HZ:Hid (res=(tE,0,0)):=by show _=_;rw [HS.out,hr];rfl
  rw [hr] at HRt
  clear HS
  go_enter Tryz.func18,Tryz.ntmps18
  go_wp2_with fail
  refine Calls.mono (HRt.out _ (below_al _ _)) ?_
  rintro e w1 ⟨rfl,hb1⟩
  have HB1:Hid (Below w.heap.size w w1):=(below_al _ _).trans (hb1.mono (by simp))
  have r0:=cC hb1 (w.heap.size) 0 (.string ⟨#[]⟩) (by first | (simp;done) | (simp;omega)) (by simp [go_sem])
  have r1:=cC hb1 (w.heap.size) 1 (.int .i64 0) (by first | (simp;done) | (simp;omega)) (by simp [go_sem])
  have r2:=cC hb1 (w.heap.size) 2 (.int .i64 0) (by first | (simp;done) | (simp;omega)) (by simp [go_sem])
  have fr:∀ j,w1.frozen? ⟨w.heap.size,j,none⟩=false:=fun j=>carryF hb1 (by first | (simp;done) | (simp;omega)) (by simp [go_sem])
  have hz:w.heap.size<w1.heap.size:=by have:=hb1.size;simp at this;omega
  clear hb1
  have q:=found3 r0 r1 r2 (.string ⟨#[]⟩) (.int .i64 0) (.int .i64 0)
  go_wp2
  exact bodyPost_ret (v:=.agg #[.string ⟨#[]⟩,.int .i64 0,.int .i64 0]) (by simp [results,Tryz.results18,go_sem,q.1,q.2.1,q.2.2]) rfl ⟨by rw [HZ.out];rfl,((HB1.out.setCell (by simp) _).setCell (by simp) _).setCell (by simp) _⟩
 | true =>
  have HF1:=(show Hid _ from HFm.out hr)
  have HZ:Hid (res=ffL L cl n d):=by show _=_;rw [HS.out,hr];rfl
  rw [hr] at HRt
  clear HS
  generalize ffL L cl n d=fd at *
  obtain ⟨f0,f1,f2⟩:=fd
  unfold fdV at HF1
  simp only at HF1
  go_enter Tryz.func18,Tryz.ntmps18
  go_wp2_with fail
  refine Calls.mono (HRt.out _ (below_al _ _)) ?_
  rintro e w1 ⟨rfl,hb1⟩
  have HB1:Hid (Below w.heap.size w w1):=(below_al _ _).trans (hb1.mono (by simp))
  have r0:=cC hb1 (w.heap.size) 0 (.string ⟨#[]⟩) (by first | (simp;done) | (simp;omega)) (by simp [go_sem])
  have r1:=cC hb1 (w.heap.size) 1 (.int .i64 0) (by first | (simp;done) | (simp;omega)) (by simp [go_sem])
  have r2:=cC hb1 (w.heap.size) 2 (.int .i64 0) (by first | (simp;done) | (simp;omega)) (by simp [go_sem])
  have fr:∀ j,w1.frozen? ⟨w.heap.size,j,none⟩=false:=fun j=>carryF hb1 (by first | (simp;done) | (simp;omega)) (by simp [go_sem])
  have hz:w.heap.size<w1.heap.size:=by have:=hb1.size;simp at this;omega
  clear hb1
  go_wp2_with fail
  refine Calls.mono (HF1.out _ HB1.out) ?_
  rintro e w2 ⟨rfl,hb2⟩
  have HB2:Hid (Below w.heap.size w w2):=HB1.out.trans (hb2.mono HB1.out.size)
  replace r0:=carry hb2 hz r0
  replace r1:=carry hb2 hz r1
  replace r2:=carry hb2 hz r2
  replace fr:∀ j,w2.frozen? ⟨w.heap.size,j,none⟩=false:=fun j=>carryF hb2 hz (fr j)
  clear hb2
  have q:=found3 r0 r1 r2 (.string f0) (.int .i64 f1) (.int .i64 f2)
  go_wp2
  exact bodyPost_ret (v:=.agg #[.string f0,.int .i64 f1,.int .i64 f2]) (by simp [results,Tryz.results18,go_sem,q.1,q.2.1,q.2.2]) rfl ⟨by rw [HZ.out];rfl,((HB2.out.setCell (by simp) _).setCell (by simp) _).setCell (by simp) _⟩
end Go.Proofs.YtmhgaggpdggbeaaGreatDoor
