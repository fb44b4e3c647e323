import Derived.Test.YtmhgaggpdggbeaaGreatDoorMapU
import Derived.Test.YtmhgaggpdggbeaaGreatDoorCR0
namespace Go.Proofs.YtmhgaggpdggbeaaGreatDoor
open Go.RowKit
set_option maxRecDepth 20000
open Go.WideMaps (KeyLaw)
set_option linter.unusedVariables false

set_option maxHeartbeats 1000000 in
theorem implKeyField (fn ft:ByteArray) (st:Bool) (w:World) :
  Calls Tryz.prog 148 #[.agg #[.string fn,.string ft,.bool st]] w fun e w'=>e = .returned (.string fn)∧Below w.heap.size w w':=by
 go_enter Tryz.func148,Tryz.ntmps148
 go_wp2
 go_ret
 exact⟨rfl,(Below.refl _ _).alloc (Nat.le_refl _) _⟩

set_option maxHeartbeats 2000000 in
theorem implApartF (v:Value) (fs:List FieldD) (w:World) (h:fieldR.slice.In w [v] fs) :
  Calls Tryz.prog 147 #[v,.func (.func 148) #[] #[]] w fun e w'=>(∃ q:Bool,e = .returned (.bool q)∧(q=true ↔ (fs.map fun f=>Value.string f.1).Nodup))∧Below w.heap.size w w':=by
 obtain ⟨a,cap,rfl,hn,hcap,hat⟩:=slice_open (by decide) h
 have HK:Hid (∀ v ∈ (fs.map fun f=>Value.string f.1),∃ l,keyOf Tryz.prog 9 v=some l):=fun v hv=>by
  obtain ⟨f,hf,rfl⟩:=List.mem_map.1 hv
  obtain ⟨i,hi,rfl⟩:=List.mem_iff_getElem.1 hf
  obtain ⟨b,o,_,hx⟩:=hat i hi
  obtain ⟨_,_,_,s0,_⟩:=fieldAt hx
  exact⟨_,WideMaps.keyOf_string_mk Tryz.underlying9 s0⟩
 unfold maxLen at hcap
 have HA:Hid (∀ i (h:i<fs.length),∃ b o,a=some ⟨b,o,none⟩∧fieldR.At w ⟨b,o,none⟩ i fs[i]):=hat
 clear hat h
 obtain ⟨ks,hks⟩:∃ ks,(fs.map fun f=>Value.string f.1)=ks:=⟨_,rfl⟩
 have hkl:ks.length=fs.length:=by rw [← hks];simp
 have HKi:Hid (∀ i (h:i<fs.length) (h2:i<ks.length),ks[i]=(fun f:FieldD=>Value.string f.1) fs[i]):=fun i h h2=>by subst hks;simp
 rw [hks] at HK ⊢
 clear hks
 have hmm:=@run_makeMap Tryz.prog
 go_enter Tryz.func147,Tryz.ntmps147
 go_wp2_with fail
 clear hmm
 go_loopw [11] (fun j11 wr=>∃ i:Nat,i≤fs.length∧j11 = .int .i64 (i:Int)∧Below w.heap.size w wr∧∃ es clock,wr.heap[w.heap.size]?=some (.map es clock)∧KInv ks i es) (fun j11 _=>fs.length - (intOf j11).toNat)
 case atStart=>exact⟨0,Nat.zero_le _,rfl,(Below.refl _ _).alloc (Nat.le_refl _) _,#[],0,(MapKept.heap_alloc w _).1,KInv.start ks⟩
 case round =>
  obtain ⟨i,hi,rfl,hb,es,clock,hmap,hinv⟩:=hrel
  have HB:Hid (Below w.heap.size w wr):=hb
  have HM:Hid (wr.heap[w.heap.size]?=some (.map es clock)):=hmap
  have HI:Hid (KInv ks i es):=hinv
  have hlw:w.heap.size<wr.heap.size:=(Array.getElem?_eq_some_iff.1 hmap).1
  clear hb hmap hinv
  by_cases hlt:i<fs.length
  ·obtain ⟨b,o,rfl,hx⟩:=HA.out i hlt
   obtain ⟨g0,g1,g2,_,_⟩:=fieldAt (hx.mono HB.out)
   have hki:=HKi.out i hlt (by omega)
   have HKx:Hid (∃ l,keyOf Tryz.prog 9 ks[i]=some l):=HK.out _ (List.getElem_mem (by omega))
   have HKs:Hid (∀ e ∈ es.toList,∃ l,keyOf Tryz.prog 9 e.key=some l):=fun e he=>HK.out _ (List.mem_of_mem_take ((HI.out.keys e.key).1 ⟨e,he,rfl⟩))
   have HNew:Hid (∀ val born,(∀ e ∈ es.toList,e.key ≠ ks[i])→KInv ks (i+1) (es.push { key:=ks[i],val:=val,born:=born })):=fun val born hn=>HI.out.new (by omega) hn val born
   have HOld:Hid (∀ val j e,es[j]?=some e→e.key=ks[i]→KInv ks (i+1) (es.modify j fun e=>{ e with key:=ks[i],val:=val })):=fun val j e hj hk=>HI.out.old (by omega) hj hk val
   rw [hki] at HKx HNew HOld
   clear hki hx
   generalize fs[i]=d at *
   obtain ⟨fn,ft,st⟩:=d
   simp only at g0 g1 g2
   simp only at HKx HNew HOld
   go_wp2_with fail
   refine Calls.mono (implKeyField fn ft st _) ?_
   rintro e w1 ⟨rfl,hb1⟩
   have hr1:w1.heap[w.heap.size]?=some (.map es clock):=by
    rw [hb1.block _ (by simp;omega),Below.heap_alloc _ _ _ hlw]
    exact HM.out
   have HB1:Hid (Below w.heap.size w w1):=(HB.out.alloc HB.out.size _).trans (hb1.mono (by simp;omega))
   clear hb1
   obtain ⟨l,hl⟩:=HKx.out
   rcases run_upd strLaw Tryz.underlying197 hr1 HKs.out hl (.int .i64 (i:Int)) with ⟨hnew,hrun⟩ | ⟨j,e,hj,hk,hrun⟩
   ·have HP:=(show Hid _ from HNew.out (.int .i64 (i:Int)) clock hnew)
    have HP2:=(show Hid _ from mapPut_at (o':=.map (es.push { key:=.string fn,val:=.int .i64 (i:Int),born:=clock }) (clock+1)) hr1)
    have HP3:Hid (∀ o,Below w.heap.size w (mapPut w1 w.heap.size o)):=fun o=>mapPut_below HB1.out (Nat.le_refl _) o
    clear hnew hl HKx HKs HNew HOld hr1
    go_wp2
    go_roundw
    case rel=>exact⟨i+1,by omega,by go_num,HP3.out _,_,_,HP2.out,HP.out⟩
    case measure=>simp [intOf];omega
   ·have HP:=(show Hid _ from HOld.out (.int .i64 (i:Int)) j e hj hk)
    have HP2:=(show Hid _ from mapPut_at (o':=.map (es.modify j fun e=>{ e with key:=.string fn,val:=.int .i64 (i:Int) }) clock) hr1)
    have HP3:Hid (∀ o,Below w.heap.size w (mapPut w1 w.heap.size o)):=fun o=>mapPut_below HB1.out (Nat.le_refl _) o
    clear hj hk hl HKx HKs HNew HOld hr1
    go_wp2
    go_roundw
    case rel=>exact⟨i+1,by omega,by go_num,HP3.out _,_,_,HP2.out,HP.out⟩
    case measure=>simp [intOf];omega
  ·obtain rfl:i=fs.length:=by omega
   have hlen:∀ ty,(Builtin.len_ #[197] ty #[.map (some w.heap.size)]).run Tryz.prog wr = .ok (.int .i64 (es.size:Int)) wr:=fun ty=>by
    have hmp:=HM.out
    simp [Builtin.len_,run_underlying Tryz.underlying197,MapKept.run_getObj_map hmp]
    rfl
   have HQ:Hid (((es.size:Int) == (fs.length:Int))=true ↔ ks.Nodup):=by
    show _ ↔ _
    have h1:=HI.out.eq
    rw [List.take_of_length_le (by omega)] at h1
    rw [← h1,beq_iff_eq]
    omega
   go_wp2
   go_ret
   exact⟨⟨_,rfl,HQ.out⟩,HB.out⟩

set_option maxHeartbeats 1000000 in
theorem implKeyMeth (mn mds:ByteArray) (mst mab mfi:Bool) (msk mlo:Int) (vc vh:Value) (w:World) :
  Calls Tryz.prog 106 #[.agg #[.string mn,.string mds,.bool mst,.bool mab,.bool mfi,.int .i64 msk,.int .i64 mlo,vc,vh]] w fun e w'=>e = .returned (.agg #[.string mn,.string mds])∧Below w.heap.size w w':=by
 go_enter Tryz.func106,Tryz.ntmps106
 go_wp2
 refine bodyPost_ret (v:=.agg #[.string mn,.string mds]) (by simp [results,Tryz.results106,go_sem]) rfl ⟨rfl,((Below.refl _ _).alloc (Nat.le_refl _) _).alloc (by simp) _⟩

set_option maxHeartbeats 2000000 in
theorem implApartM (v:Value) (fs:List MTup) (w:World) (h:methR.slice.In w [v] fs) :
  Calls Tryz.prog 150 #[v,.func (.func 106) #[] #[]] w fun e w'=>(∃ q:Bool,e = .returned (.bool q)∧(q=true ↔ (fs.map fun f=>Value.agg #[.string (mD f).name,.string (mD f).desc]).Nodup))∧Below w.heap.size w w':=by
 obtain ⟨a,cap,rfl,hn,hcap,hat⟩:=slice_open (by decide) h
 have HK:Hid (∀ v ∈ (fs.map fun f=>Value.agg #[.string (mD f).name,.string (mD f).desc]),∃ l,keyOf Tryz.prog 95 v=some l):=fun v hv=>by
  obtain ⟨f,hf,rfl⟩:=List.mem_map.1 hv
  obtain ⟨i,hi,rfl⟩:=List.mem_iff_getElem.1 hf
  obtain ⟨b,o,_,hx⟩:=hat i hi
  obtain ⟨_,_,_,_,_,_,_,_,_,_,_,s0,s1,_,_,_,_⟩:=methAt hx
  exact key_pair _ _ s0 s1
 unfold maxLen at hcap
 have HA:Hid (∀ i (h:i<fs.length),∃ b o,a=some ⟨b,o,none⟩∧methR.At w ⟨b,o,none⟩ i fs[i]):=hat
 clear hat h
 obtain ⟨ks,hks⟩:∃ ks,(fs.map fun f=>Value.agg #[.string (mD f).name,.string (mD f).desc])=ks:=⟨_,rfl⟩
 have hkl:ks.length=fs.length:=by rw [← hks];simp
 have HKi:Hid (∀ i (h:i<fs.length) (h2:i<ks.length),ks[i]=(fun f:MTup=>Value.agg #[.string (mD f).name,.string (mD f).desc]) fs[i]):=fun i h h2=>by subst hks;simp
 rw [hks] at HK ⊢
 clear hks
 have hmm:=@run_makeMap Tryz.prog
 go_enter Tryz.func150,Tryz.ntmps150
 go_wp2_with fail
 clear hmm
 go_loopw [11] (fun j11 wr=>∃ i:Nat,i≤fs.length∧j11 = .int .i64 (i:Int)∧Below w.heap.size w wr∧∃ es clock,wr.heap[w.heap.size]?=some (.map es clock)∧KInv ks i es) (fun j11 _=>fs.length - (intOf j11).toNat)
 case atStart=>exact⟨0,Nat.zero_le _,rfl,(Below.refl _ _).alloc (Nat.le_refl _) _,#[],0,(MapKept.heap_alloc w _).1,KInv.start ks⟩
 case round =>
  obtain ⟨i,hi,rfl,hb,es,clock,hmap,hinv⟩:=hrel
  have HB:Hid (Below w.heap.size w wr):=hb
  have HM:Hid (wr.heap[w.heap.size]?=some (.map es clock)):=hmap
  have HI:Hid (KInv ks i es):=hinv
  have hlw:w.heap.size<wr.heap.size:=(Array.getElem?_eq_some_iff.1 hmap).1
  clear hb hmap hinv
  by_cases hlt:i<fs.length
  ·obtain ⟨b,o,rfl,hx⟩:=HA.out i hlt
   obtain ⟨vc,vh,g0,g1,g2,g3,g4,g5,g6,g7,g8,_,_,_,_,h7,h8⟩:=methAt (hx.mono HB.out)
   obtain ⟨fa7,fc7,e7⟩:=slice_form h7
   obtain ⟨fa8,fc8,e8⟩:=slice_form h8
   clear h7 h8
   subst e7 e8
   have hki:=HKi.out i hlt (by omega)
   have HKx:Hid (∃ l,keyOf Tryz.prog 95 ks[i]=some l):=HK.out _ (List.getElem_mem (by omega))
   have HKs:Hid (∀ e ∈ es.toList,∃ l,keyOf Tryz.prog 95 e.key=some l):=fun e he=>HK.out _ (List.mem_of_mem_take ((HI.out.keys e.key).1 ⟨e,he,rfl⟩))
   have HNew:Hid (∀ val born,(∀ e ∈ es.toList,e.key ≠ ks[i])→KInv ks (i+1) (es.push { key:=ks[i],val:=val,born:=born })):=fun val born hn=>HI.out.new (by omega) hn val born
   have HOld:Hid (∀ val j e,es[j]?=some e→e.key=ks[i]→KInv ks (i+1) (es.modify j fun e=>{ e with key:=ks[i],val:=val })):=fun val j e hj hk=>HI.out.old (by omega) hj hk val
   rw [hki] at HKx HNew HOld
   clear hki hx
   generalize mD fs[i]=d at *
   obtain ⟨mn,mds,mst,mab,mfi,msk,mlo,mco,mha⟩:=d
   simp only at g0 g1 g2 g3 g4 g5 g6 g7 g8
   simp only at HKx HNew HOld
   go_wp2_with fail
   refine Calls.mono (implKeyMeth mn mds mst mab mfi msk mlo _ _ _) ?_
   rintro e w1 ⟨rfl,hb1⟩
   have hr1:w1.heap[w.heap.size]?=some (.map es clock):=by
    rw [hb1.block _ (by simp;omega),Below.heap_alloc _ _ _ hlw]
    exact HM.out
   have HB1:Hid (Below w.heap.size w w1):=(HB.out.alloc HB.out.size _).trans (hb1.mono (by simp;omega))
   clear hb1
   obtain ⟨l,hl⟩:=HKx.out
   rcases run_upd pairLaw Tryz.underlying202 hr1 HKs.out hl (.int .i64 (i:Int)) with ⟨hnew,hrun⟩ | ⟨j,e,hj,hk,hrun⟩
   ·have HP:=(show Hid _ from HNew.out (.int .i64 (i:Int)) clock hnew)
    have HP2:=(show Hid _ from mapPut_at (o':=.map (es.push { key:=.agg #[.string mn,.string mds],val:=.int .i64 (i:Int),born:=clock }) (clock+1)) hr1)
    have HP3:Hid (∀ o,Below w.heap.size w (mapPut w1 w.heap.size o)):=fun o=>mapPut_below HB1.out (Nat.le_refl _) o
    clear hnew hl HKx HKs HNew HOld hr1
    go_wp2
    go_roundw
    case rel=>exact⟨i+1,by omega,by go_num,HP3.out _,_,_,HP2.out,HP.out⟩
    case measure=>simp [intOf];omega
   ·have HP:=(show Hid _ from HOld.out (.int .i64 (i:Int)) j e hj hk)
    have HP2:=(show Hid _ from mapPut_at (o':=.map (es.modify j fun e=>{ e with key:=.agg #[.string mn,.string mds],val:=.int .i64 (i:Int) }) clock) hr1)
    have HP3:Hid (∀ o,Below w.heap.size w (mapPut w1 w.heap.size o)):=fun o=>mapPut_below HB1.out (Nat.le_refl _) o
    clear hj hk hl HKx HKs HNew HOld hr1
    go_wp2
    go_roundw
    case rel=>exact⟨i+1,by omega,by go_num,HP3.out _,_,_,HP2.out,HP.out⟩
    case measure=>simp [intOf];omega
  ·obtain rfl:i=fs.length:=by omega
   have hlen:∀ ty,(Builtin.len_ #[202] ty #[.map (some w.heap.size)]).run Tryz.prog wr = .ok (.int .i64 (es.size:Int)) wr:=fun ty=>by
    have hmp:=HM.out
    simp [Builtin.len_,run_underlying Tryz.underlying202,MapKept.run_getObj_map hmp]
    rfl
   have HQ:Hid (((es.size:Int) == (fs.length:Int))=true ↔ ks.Nodup):=by
    show _ ↔ _
    have h1:=HI.out.eq
    rw [List.take_of_length_le (by omega)] at h1
    rw [← h1,beq_iff_eq]
    omega
   go_wp2
   go_ret
   exact⟨⟨_,rfl,HQ.out⟩,HB.out⟩

end Go.Proofs.YtmhgaggpdggbeaaGreatDoor
