
import Derived.Test.YtmhgaggpdggbeaaGreatDoorRows
import Derived.Test.YtmhgaggpdggbeaaGreatDoorCards
import Derived.Test.YtmhgaggpdggbeaaGreatDoorTie
import Derived.WalkKit
import Derived.ProofKit
import Derived.OpenShut
import Derived.ShutString
import Derived.ChangeOld
import Derived.Below
import Derived.Carry
import Derived.OpenVars
import Derived.ChangeSame
import Derived.ChangeVars
import Derived.JoinedOf
import Derived.RowKit
import Derived.RowKitTokens
import Derived.LaidLaws
import Derived.LaidHandle
import Derived.LaidMore
import Derived.Stop.Joined
import Derived.SevenTiedAt
import Derived.Test.YtmhgaggpdggbeaaGreatDoorFde
import Derived.Test.YtmhgaggpdggbeaaGreatDoorVeW
import Derived.Test.YtmhgaggpdggbeaaGreatDoorVfD
namespace Go.Proofs.YtmhgaggpdggbeaaGreatDoor.fnFields
open Go.ChangeShapes Go.WideShapes Go.ChangeAt Go.RowKit
open Go.ChangeMaps (open_string shut_string)
set_option linter.unusedVariables false

theorem own : ownKnob Tryz.prog.godebug = none := by kernel_rfl
theorem laidOut : laidOutB Tryz.prog = true := by kernel_rfl
theorem ot : Tryz.prog.globalNamed "loop.example/g00175/impl.opTable" = some 1 := by kernel_rfl
theorem otT : (Tryz.prog.globals[1]?).map (·.type) = some 234 := by kernel_rfl
theorem c1 : Tryz.prog.cellsOf 232 = 2 := by kernel_rfl
theorem c2 : Tryz.prog.cellsOf 9 = 1 := by kernel_rfl

theorem tab_datum {H : Type} : (Rows.laid_loop_example_g00175_impl_opTable : DataW H) = .agg ((List.range 45).map fun i : Nat => .agg [.lit (.string (nmS (i : Int)).data.toList), .lit (.string (fmS (i : Int)).data.toList)]) := by kernel_rfl

theorem bytes_of {a b : ByteArray} (h : a.data.toList = b.data.toList) : a = b := by
 obtain ⟨⟨x⟩⟩ := a
 obtain ⟨⟨y⟩⟩ := b
 simp at h
 rw [h]

theorem tab_of_data {W : World} (h : laidMet Tryz.prog [("loop.example/g00175/impl.opTable", Rows.laid_loop_example_g00175_impl_opTable)] W) : Tab W := by
 obtain ⟨ps, ⟨g, t, cs, fuel, p, q, hg, ht, hvar, hd, _, _⟩, _⟩ := h
 obtain rfl := Option.some.inj (ot.symm.trans hg)
 obtain rfl := Option.some.inj (otT.symm.trans ht)
 rw [tab_datum] at hd
 obtain ⟨xs, m, _, hx, hlen, hn, hel⟩ := DataW.trod_array Tryz.underlying234 hd
 simp only [Prod.mk.injEq, DataW.agg.injEq] at hx
 intro i hi
 have h1 := hel i hi
 rw [c1] at h1
 have h2 : (xs.map (·.1))[i]? = some (.agg [.lit (.string (nmS (i : Int)).data.toList), .lit (.string (fmS (i : Int)).data.toList)]) := by
  rw [← hx.1, List.getElem?_map, List.getElem?_range hi]; rfl
 rw [List.getElem?_map] at h2
 obtain ⟨y, hy, hy2⟩ := Option.map_eq_some_iff.1 h2
 rw [hy] at h1
 obtain ⟨ys, k, _, hys, hcl, hyl, hfs⟩ := DataW.trod_struct Tryz.underlying232 h1
 have e0 := hfs 0 _ rfl
 have e1 := hfs 1 _ rfl
 have hyl2 : ys.length = 2 := hyl
 match ys, hyl2, hys, e0, e1 with
 | [y0, y1], _, hys, e0, e1 =>
  simp only [List.getElem?_cons_zero, List.getElem?_cons_succ] at e0 e1
  obtain ⟨s0, k0, d0, _⟩ := DataW.trod_string Tryz.underlying9 e0
  obtain ⟨s1, k1, d1, _⟩ := DataW.trod_string Tryz.underlying9 e1
  rw [hys] at hy2
  simp only [List.map_cons, List.map_nil, DataW.agg.injEq, List.cons.injEq, and_true] at hy2
  rw [d0, d1] at hy2
  simp only [DataW.lit.injEq, Lit.string.injEq] at hy2
  have q0 : s0 = nmS (i : Int) := bytes_of hy2.1
  have q1 : s1 = fmS (i : Int) := bytes_of hy2.2
  subst q0 q1
  have r0 := congrArg (fun l : List Value => l[0]?) k0
  have r1 := congrArg (fun l : List Value => l[0]?) k1
  have z0 : Tryz.prog.cellsOf (9) = 1 := c2
  constructor
  ·have := World.var?_cell hg hvar (2 * i)
   rw [this, ← Array.getElem?_toList]
   simpa [List.getElem?_take, List.getElem?_drop, c2, Nat.mul_comm] using r0
  ·have := World.var?_cell hg hvar (2 * i + 1)
   rw [this, ← Array.getElem?_toList]
   simpa [List.getElem?_take, List.getElem?_drop, c2, Nat.mul_comm] using r1

theorem et : Tryz.prog.globalNamed "errors.errorType" = some 0 := by kernel_rfl
theorem rt : (Tryz.prog.cutTypes.find? (·.1 == "internal/reflectlite.rtype")).map (·.2) = some 218 := by kernel_rfl
theorem oneRow : ((List.range 263).filter fun t => Tryz.prog.rowNamed t [101, 114, 114, 111, 114]) = [185] := by kernel_rfl
theorem typesSize : Tryz.prog.types.size = 263 := by kernel_rfl
theorem both_of_laid {W : World} (h : laidMetH Tryz.prog Rows.fnFieldsRow.laid W) : Tab W ∧ Glob W := by
 have h' : laidMet Tryz.prog [("loop.example/g00175/impl.opTable", Rows.laid_loop_example_g00175_impl_opTable)] W ∧ handlesMet Tryz.prog [("errors.errorType", Rows.laid_errors_errorType)] W := h
 refine ⟨tab_of_data h'.1, ?_⟩
 obtain ⟨name, u, ty, e1, e2, e3, e4, e5⟩ := h'.2 _ (List.mem_singleton.2 rfl)
 have en : name = [101, 114, 114, 111, 114] := (Option.some.inj e1).symm
 subst en
 obtain rfl := Option.some.inj (rt.symm.trans e2)
 have hm : ty ∈ (List.range 263).filter fun t => Tryz.prog.rowNamed t [101, 114, 114, 111, 114] := List.mem_filter.2 ⟨List.mem_range.2 (by rw [← typesSize]; exact e3), e4⟩
 rw [oneRow] at hm
 obtain rfl := List.mem_singleton.1 hm
 have hh : typeHandle Tryz.prog 185 = .pointer (some ⟨2, 185, none⟩) := by kernel_rfl
 rw [hh] at e5
 simpa [Glob] using World.var?_cell et e5 0

noncomputable def laidWorld (os : Os) : World :=
 let w0 := World.holding Tryz.prog os ⟨#[], #[], []⟩
 { w0 with heap := (w0.heap.modify 0 fun
   | .cells _ t frozen => .cells #[.iface 218 (.agg #[.pointer (some ⟨2, 185, none⟩)])] t frozen
   | o => o).modify 1 fun
   | .cells _ t frozen => .cells ((List.range 90).map fun j : Nat => .string (if j % 2 = 0 then nmS ((j / 2 : Nat) : Int) else fmS ((j / 2 : Nat) : Int))).toArray t frozen
   | o => o }
theorem laidWorld_met (os : Os) (args : Array Value) : laidMetH Tryz.prog Rows.fnFieldsRow.laid ((laidWorld os).forCall (fun _ _ => 0) ⟨#[], args, []⟩).memory :=
 laidMetH_of_parts (laidMet_of_run' 8 (by kernel_rfl) (by kernel_rfl)) (by kernel_rfl)

theorem tkI (i : Nat) {P : Program} {ops : Array Oper} {Q : Exit → Act → World → Prop} {md : Region.Mode} {S : World → Prop} {oi : Oper} {v : Value} {fuel : Nat} {listed : Array Bool} {a : Act} {w : World} (hi : ops[i]? = some oi)
  (hy:∀ w,S w→(execOp a.eval oi).run P w = .ok (.value v) w) (hS:S w) (h:wpAnyH P md ops Q S fuel (listed.setIfInBounds i true) (a.put oi.dst v) w)
  (hs:Region.noSelect ops=true:=by kernel_rfl) (hf:Region.free md ops listed i=true:=by kernel_rfl) (hr:(Region.ready md ops listed).contains i=true:=by kernel_rfl)
  (hQ:∀ c a w,Q (.panic c) (a.put oi.dst v) w→Q (.panic c) a w:=by exact fun _ _ _ h=>h) (hw:Region.wanted oi (yielded ops a.tmps)=true:=by kernel_rfl):wpAnyH P md ops Q S (fuel+1) listed a w :=
 wpAnyH_take hi hs hf hr hQ (.inl ⟨hw,hy⟩) hS h
theorem tkO (i : Nat) {P : Program} {ops : Array Oper} {Q : Exit → Act → World → Prop} {md : Region.Mode} {S : World → Prop} {oi : Oper} {fuel : Nat} {listed : Array Bool} {a : Act} {w : World} (hi : ops[i]? = some oi)
  (hS:S w) (h:wpAnyH P md ops Q S fuel (listed.setIfInBounds i true) (a.put oi.dst undef) w)
  (hs:Region.noSelect ops=true:=by kernel_rfl) (hf:Region.free md ops listed i=true:=by kernel_rfl) (hr:(Region.ready md ops listed).contains i=true:=by kernel_rfl)
  (hQ:∀ c a w,Q (.panic c) (a.put oi.dst undef) w→Q (.panic c) a w:=by exact fun _ _ _ h=>h) (hw:Region.wanted oi (yielded ops a.tmps)=false:=by kernel_rfl):wpAnyH P md ops Q S (fuel+1) listed a w :=
 wpAnyH_take hi hs hf hr hQ (.inr ⟨hw,rfl⟩) hS h
theorem own_keep {w w':World} {B e n:Nat} {v:Value} {xs:List Value} (h:w.ownsRow B e 3 v n xs) (hb:Below w.heap.size w w'):w'.ownsRow B e 3 v n xs:=h.blocks3 fun k hk=>hb.block k hk
theorem own_at {w:World} {B e c:Nat} {a:Option Addr} {fs:List FieldD} (h:w.ownsRow B e 3 (.slice a fs.length c) fs.length (fs.flatMap cFl)) {k:Nat} (hk:k<fs.length):∃ g,a=some ⟨g,0,none⟩∧w.cell? ⟨g,k * 3,none⟩=some (.string fs[k].1)∧w.cell? ⟨g,k * 3+1,none⟩=some (.string fs[k].2.1)∧w.cell? ⟨g,k * 3+2,none⟩=some (.bool fs[k].2.2):=by
 rcases h.2 with ⟨h1,h0⟩ | ⟨g,cap,cur,h1,_⟩
 ·omega
 ·injection h1 with e1 e2 e3
  subst e1
  exact⟨g,rfl,fs_cells h hk⟩
set_option maxRecDepth 20000 in
set_option maxHeartbeats 16000000 in
theorem walk (a0 : Option Addr) (len0 cap0 : Nat) (z0 : List Int) (w : World) (w0 : IsRow .u8 w a0 len0 cap0 z0) (ht : Tab w) (hg : Glob w) :
  Calls Tryz.prog 7 #[.slice a0 len0 cap0] w fun e w'=>e = .returned (.bool true)∧Below w.heap.size w w':=by
 have HT:=(show Hid (Tab w) from ht)
 have HG:=(show Hid (Glob w) from hg)
 clear ht hg
 have hcap:len0≤maxLen:=by
  rcases w0 with ⟨_,h,_,_⟩ | ⟨x,_,h1,h2,_⟩
  ·rw [h];unfold maxLen;omega
  ·omega
 unfold maxLen at hcap
 by_cases hb0:(1048576:Int)<len0
 ·go_enter Tryz.func7,Tryz.ntmps7
  go_wp2
  go_ret
  exact⟨rfl,Below.refl _ _⟩
 have d0:decide ((1048576:Int)<len0)=false:=by simpa using hb0
 have HD:=(show Hid _ from drawFieldsOf a0 len0 cap0 z0 w w0 (by omega))
 clear w0
 go_enter Tryz.func7,Tryz.ntmps7
 go_wp2_with fail
 refine Calls.mono HD.out ?_
 rintro e w3 ⟨p,L,k0,cc,nm,rfl,hz,hin,hb3⟩
 have HB3:Hid (Below w.heap.size w w3):=hb3
 have HI3:=(show Hid (classR.slice.In w3 [.slice p k0 cc] L) from hin)
 clear hin hb3 HD
 have sm:∀ {n:Nat},n≤1000→n≤maxLen:=fun {n} h=>by unfold maxLen;omega
 have B3:Hid (Below w3.heap.size w3 w3):=Below.refl _ _
 have HFi:Hid (∀ w' x,x.size≤maxLen→Below w3.heap.size w3 w'→Calls Tryz.prog 12 #[.slice p k0 cc,.string x] w' fun e w2=>∃ a c,e = .returned (.slice a (foV L x).length c)∧Below w'.heap.size w' w2∧w2.ownsRow w'.heap.size 61 3 (.slice a (foV L x).length c) (foV L x).length ((foV L x).flatMap cFl)):=fun w' x hx hb'=>by
  refine Calls.mono (implFieldsOf L _ x w' (classR.slice.mono _ _ _ _ hb' HI3.out) (HT.out.mono (HB3.out.trans (hb'.mono HB3.out.size))) (HG.out.mono (HB3.out.trans (hb'.mono HB3.out.size))) hx) ?_
  rintro e w2 ⟨hb,u,rfl,ho⟩
  obtain ⟨a,c,rfl⟩:=own_sl3 ho
  exact⟨a,c,rfl,hb,ho⟩
 have HFs:Hid (∀ w',Below w3.heap.size w3 w'→Calls Tryz.prog 10 #[.slice p k0 cc,.string nm] w' fun e w2=>∃ a c,e = .returned (.slice a (foV L nm).length c)∧Below w'.heap.size w' w2):=fun w' hb'=>by
  refine Calls.mono (specFieldsOf L _ nm w' (classR.slice.mono _ _ _ _ hb' HI3.out) (sm hz)) ?_
  rintro e w2 ⟨hb,u,rfl,ho⟩
  obtain ⟨a,c,rfl⟩:=own_sl3 ho
  exact⟨a,c,rfl,hb⟩
 have HWs:Hid (∀ w',Below w3.heap.size w3 w'→Calls Tryz.prog 28 #[.slice p k0 cc] w' fun e w2=>e = .returned (.agg #[.int .i64 (wOut L).1,.int .i64 (wOut L).2])∧Below w'.heap.size w' w2):=fun w' hb'=>specWorldCheck L _ w' (classR.slice.mono _ _ _ _ hb' HI3.out)
 have HUs:Hid (∀ w',Below w3.heap.size w3 w'→Calls Tryz.prog 30 #[.slice p k0 cc,.string nm] w' fun e w2=>e = .returned (.string (spV L nm))∧Below w'.heap.size w' w2):=fun w' hb'=>specSuperOf L _ nm w' (classR.slice.mono _ _ _ _ hb' HI3.out) (sm hz)
 have HFf:Hid (∀ w' x y,x.size≤maxLen→y.size≤maxLen→Below w3.heap.size w3 w'→Calls Tryz.prog 19 #[.slice p k0 cc,.string nm,.string x,.string y] w' fun e w2=>e = .returned (fdV (ffV L nm x y))∧Below w'.heap.size w' w2):=fun w' x y hx hy hb'=>implFindFieldOf L _ nm x y w' (classR.slice.mono _ _ _ _ hb' HI3.out) (HT.out.mono (HB3.out.trans (hb'.mono HB3.out.size))) (HG.out.mono (HB3.out.trans (hb'.mono HB3.out.size))) (sm hz) hx hy
 have hend:∀ w',Below w3.heap.size w3 w'→Below w.heap.size w w':=fun w' h=>HB3.out.trans (h.mono HB3.out.size)
 have HEnd:=(show Hid _ from hend)
 have hfl:=fun o1 o2 w=>fieldWO1 (.int .i64 o1) (.int .i64 o2) w
 have HSz:=(show Hid _ from (fo_all L nm).2)
 have h80:=(fo_all L nm).1
 clear HT HG HI3 hend
 go_wp2_with fail
 refine Calls.mono (HFi.out _ nm (sm hz) B3.out) ?_
 rintro e w4 ⟨fa,fc,rfl,hb4,ho4⟩
 have B4:Hid (Below w3.heap.size w3 w4):=hb4
 have O4:=(show Hid (w4.ownsRow w3.heap.size 61 3 (.slice fa (foV L nm).length fc) (foV L nm).length ((foV L nm).flatMap cFl)) from ho4)
 clear hb4 ho4
 go_wp2_with fail
 refine Calls.mono (HFs.out _ B4.out) ?_
 rintro e w5 ⟨sa,sc,rfl,hb5⟩
 have B45:Hid (Below w4.heap.size w4 w5):=hb5
 have B5:Hid (Below w3.heap.size w3 w5):=B4.out.trans (hb5.mono B4.out.size)
 clear hb5
 have dn:(((foV L nm).length:Int) != ((foV L nm).length:Int))=false:=by simp
 have dn2:(((foV L nm).length:Int) == ((foV L nm).length:Int))=true:=by simp
 go_wp2_with fail
 refine Calls.mono (HWs.out _ B5.out) ?_
 rintro e w6 ⟨rfl,hb6⟩
 have B46:Hid (Below w4.heap.size w4 w6):=B45.out.trans (hb6.mono B45.out.size)
 have B6:Hid (Below w3.heap.size w3 w6):=B5.out.trans (hb6.mono B5.out.size)
 clear hb6
 by_cases hr:¬ rtB L=true
 ·have e0:(wOut L).2 ≠ 0:=by unfold rtB at hr;simpa using hr
  have hfe:=flds_bad hr nm
  generalize (wOut L).1=o1 at *
  generalize (wOut L).2=o2 at *
  have q1:(o2 != 0)=true:=by simpa using e0
  have q2:(o2 == 0)=false:=by simpa using e0
  rw [hfe]
  go_wp2
  go_ret
  exact⟨rfl,HEnd.out _ B6.out⟩
 have hr2:rtB L=true:=by simpa using hr
 have e0:(wOut L).2=0:=by unfold rtB at hr2;simpa using hr2
 rw [e0]
 obtain ⟨P,hP,hss,hfind⟩:=flds_ok hr2 hz
 have HFind:=(show Hid _ from hfind)
 have HP:=(show Hid (foV L nm=foV L (spV L nm) ++ P) from hP)
 generalize (wOut L).1=o1 at *
 clear hr hr2 e0 hP hfind
 go_wp2_with fail
 refine Calls.mono (HUs.out _ B6.out) ?_
 rintro e w7 ⟨rfl,hb7⟩
 have B47:Hid (Below w4.heap.size w4 w7):=B46.out.trans (hb7.mono B46.out.size)
 have B7:Hid (Below w3.heap.size w3 w7):=B6.out.trans (hb7.mono B6.out.size)
 clear hb7
 go_wp2_with fail
 refine Calls.mono (HFi.out _ (spV L nm) (sm hss) B7.out) ?_
 rintro e w8 ⟨ua,uc,rfl,hb8,ho8⟩
 have B48:Hid (Below w4.heap.size w4 w8):=B47.out.trans (hb8.mono B47.out.size)
 have B8:Hid (Below w3.heap.size w3 w8):=B7.out.trans (hb8.mono B7.out.size)
 generalize spV L nm=sn at *
 generalize foV L sn=us at *
 generalize foV L nm=fs at *
 have HRU:Hid (∀ w',Below w8.heap.size w8 w'→∀ k (hk:k<us.length),∃ g h,ua=some ⟨g,0,none⟩∧fa=some ⟨h,0,none⟩∧(w'.cell? ⟨g,k * 3,none⟩=some (.string us[k].1)∧w'.cell? ⟨g,k * 3+1,none⟩=some (.string us[k].2.1)∧w'.cell? ⟨g,k * 3+2,none⟩=some (.bool us[k].2.2))∧(w'.cell? ⟨h,k * 3,none⟩=some (.string us[k].1)∧w'.cell? ⟨h,k * 3+1,none⟩=some (.string us[k].2.1)∧w'.cell? ⟨h,k * 3+2,none⟩=some (.bool us[k].2.2))):=fun w' hb k hk=>by
  have hkf:k<fs.length:=by rw [HP.out,List.length_append];omega
  have e:fs[k]=us[k]:=by simp only [HP.out];exact List.getElem_append_left hk
  obtain ⟨g,g1,g2⟩:=own_at (own_keep ho8 hb) hk
  obtain ⟨h,h1,h2⟩:=own_at (own_keep O4.out (B48.out.trans (hb.mono B48.out.size))) hkf
  rw [e] at h2
  exact⟨g,h,g1,h1,g2,h2⟩
 have HRP:Hid (∀ w',Below w8.heap.size w8 w'→∀ k (hk:k<P.length),∃ h,fa=some ⟨h,0,none⟩∧w'.cell? ⟨h,(us.length+k) * 3,none⟩=some (.string P[k].1)∧w'.cell? ⟨h,(us.length+k) * 3+1,none⟩=some (.string P[k].2.1)):=fun w' hb k hk=>by
  have hkf:us.length+k<fs.length:=by rw [HP.out,List.length_append];omega
  have e:fs[us.length+k]=P[k]:=by simp only [HP.out];rw [List.getElem_append_right (by omega)];congr 1;omega
  obtain ⟨h,h1,h2,h3,_⟩:=own_at (own_keep O4.out (B48.out.trans (hb.mono B48.out.size))) hkf
  rw [e] at h2 h3
  exact⟨h,h1,h2,h3⟩
 have HPz:Hid (∀ k (hk:k<P.length),P[k].1.size≤maxLen∧P[k].2.1.size≤maxLen):=fun k hk=>HSz.out _ (by rw [HP.out];exact List.mem_append_right _ (List.getElem_mem hk))
 have HLn:Hid (fs.length=us.length+P.length):=by show _=_;rw [HP.out,List.length_append]
 have hln:=HLn.out
 clear hb8 ho8 O4 B45 B46 B47 B48 HP HSz HFi HFs HWs HUs
 generalize fs.length=fn at *
 have d1:decide ((fn:Int)<(us.length:Int))=false:=decide_eq_false (by omega)
 have d1n:decide (fn<us.length)=false:=decide_eq_false (by omega)
 clear hln
 go_wp2_with fail
 go_loopw [7] (fun j7 wr=>∃ i:Nat,i≤us.length∧j7 = .int .i64 (i:Int)∧Below w8.heap.size w8 wr) (fun j7 _=>us.length - (intOf j7).toNat)
 case atStart=>exact⟨0,Nat.zero_le _,rfl,Below.refl _ _⟩
 case round =>
  obtain ⟨i,hi,rfl,hbi⟩:=hrel
  have HBi:Hid (Below w8.heap.size w8 wr):=hbi
  clear hbi
  by_cases hil:i<us.length
  ·have hiI:(i:Int)<(us.length:Int):=by omega
   have hln:=HLn.out
   have hiF:(i:Int)<(fn:Int):=by omega
   have hif:i<fn:=by omega
   clear hln
   obtain ⟨g,h,rfl,rfl,_⟩:=HRU.out wr HBi.out i hil
   obtain ⟨D,hD⟩:∃ D,us[i]=D:=⟨_,rfl⟩
   obtain ⟨x0,x1,x2⟩:=D
   have HS:Hid (∀ w',Below wr.heap.size wr w'→w'.cell? ⟨g,i * 3,none⟩=some (.string x0)∧w'.cell? ⟨g,i * 3+1,none⟩=some (.string x1)∧w'.cell? ⟨g,i * 3+2,none⟩=some (.bool x2)∧w'.cell? ⟨h,i * 3,none⟩=some (.string x0)∧w'.cell? ⟨h,i * 3+1,none⟩=some (.string x1)∧w'.cell? ⟨h,i * 3+2,none⟩=some (.bool x2)):=fun w' hb=>by
    obtain ⟨g',h',e1,e2,q⟩:=HRU.out w' (HBi.out.trans (hb.mono HBi.out.size)) i hil
    cases e1
    cases e2
    rw [hD] at q
    exact⟨q.1.1,q.1.2.1,q.1.2.2,q.2.1,q.2.2.1,q.2.2.2⟩
   have dx0:(x0.toList == x0.toList)=true:=by simp
   have dx1:(x1.toList == x1.toList)=true:=by simp
   clear hD
   go_upto_region 15 with fail
   refine wp_region_held_drew (S:=fun w'=>w'.cell? ⟨g,i * 3,none⟩=some (.string x0)∧w'.cell? ⟨g,i * 3+1,none⟩=some (.string x1)∧w'.cell? ⟨g,i * 3+2,none⟩=some (.bool x2)∧w'.cell? ⟨h,i * 3,none⟩=some (.string x0)∧w'.cell? ⟨h,i * 3+1,none⟩=some (.string x1)∧w'.cell? ⟨h,i * 3+2,none⟩=some (.bool x2)) (by kernel_rfl) (HS.out _ (Below.refl _ _).drew) (fun hHeld=>?_)
   refine tkI 0 rfl (by intro w hSw;(try dsimp only at hSw);go_simp;try with_reducible rfl) hHeld ?_
   (try simp only [Act.put,List.getElem_toArray,List.getElem_cons_zero,List.setIfInBounds_toArray,List.set_cons_zero,List.set_cons_succ])
   refine tkI 1 rfl (by intro w hSw;(try dsimp only at hSw);go_simp;try with_reducible rfl) hHeld ?_
   (try simp only [Act.put,List.getElem_toArray,List.getElem_cons_zero,List.getElem_cons_succ,List.setIfInBounds_toArray,List.set_cons_zero,List.set_cons_succ])
   refine tkI 2 rfl (by intro w hSw;(try dsimp only at hSw);go_simp;try with_reducible rfl) hHeld ?_
   (try simp only [Act.put,List.getElem_toArray,List.getElem_cons_zero,List.getElem_cons_succ,List.setIfInBounds_toArray,List.set_cons_zero,List.set_cons_succ])
   refine tkI 3 rfl (by intro w hSw;(try dsimp only at hSw);go_simp;try with_reducible rfl) hHeld ?_
   (try simp only [Act.put,List.getElem_toArray,List.getElem_cons_zero,List.getElem_cons_succ,List.setIfInBounds_toArray,List.set_cons_zero,List.set_cons_succ])
   refine tkI 4 rfl (by intro w hSw;(try dsimp only at hSw);go_simp;try with_reducible rfl) hHeld ?_
   (try simp only [Act.put,List.getElem_toArray,List.getElem_cons_zero,List.getElem_cons_succ,List.setIfInBounds_toArray,List.set_cons_zero,List.set_cons_succ])
   refine tkI 5 rfl (by intro w hSw;(try dsimp only at hSw);go_simp;try with_reducible rfl) hHeld ?_
   (try simp only [Act.put,List.getElem_toArray,List.getElem_cons_zero,List.getElem_cons_succ,List.setIfInBounds_toArray,List.set_cons_zero,List.set_cons_succ])
   refine tkI 6 rfl (by intro w hSw;(try dsimp only at hSw);go_simp;try with_reducible rfl) hHeld ?_
   (try simp only [Act.put,List.getElem_toArray,List.getElem_cons_zero,List.getElem_cons_succ,List.setIfInBounds_toArray,List.set_cons_zero,List.set_cons_succ])
   refine tkI 7 rfl (by intro w hSw;(try dsimp only at hSw);go_simp;try with_reducible rfl) hHeld ?_
   (try simp only [Act.put,List.getElem_toArray,List.getElem_cons_zero,List.getElem_cons_succ,List.setIfInBounds_toArray,List.set_cons_zero,List.set_cons_succ])
   refine tkI 8 rfl (by intro w hSw;(try dsimp only at hSw);go_simp;try with_reducible rfl) hHeld ?_
   (try simp only [Act.put,List.getElem_toArray,List.getElem_cons_zero,List.getElem_cons_succ,List.setIfInBounds_toArray,List.set_cons_zero,List.set_cons_succ])
   refine wpAnyH_done (by kernel_rfl) ?_ _
   clear hHeld
   go_wp2
   go_roundw
   case rel=>exact⟨i+1,by omega,by go_num,HBi.out.trans ((Below.refl _ _).drew.mono HBi.out.size)⟩
   case measure=>simp [intOf];omega
  ·obtain rfl:i=us.length:=by omega
   go_wp2_with fail
   obtain ⟨xo,hxo⟩:∃ xo,wr=xo:=⟨_,rfl⟩
   subst wr
   go_loopw [8] (fun j8 wr=>∃ k:Nat,k≤P.length∧j8 = .int .i64 ((us.length+k:Nat):Int)∧Below w8.heap.size w8 wr) (fun j8 _=>fn - (intOf j8).toNat)
   case atStart=>exact⟨0,Nat.zero_le _,by simp,HBi.out⟩
   case round =>
    obtain ⟨k,hk,rfl,hbk⟩:=hrel
    have HBk:Hid (Below w8.heap.size w8 wr):=hbk
    clear hbk
    have hln:=HLn.out
    by_cases hkl:k<P.length
    ·obtain ⟨m,hm⟩:∃ m,us.length+k=m:=⟨_,rfl⟩
     rw [hm]
     have hmI:(m:Int)<(fn:Int):=by omega
     have hmf:m<fn:=by omega
     have hm80:m≤80:=by omega
     obtain ⟨h,rfl,_⟩:=HRP.out wr HBk.out k hkl
     obtain ⟨pz0,pz1⟩:=HPz.out k hkl
     have hfk:=HFind.out k hkl
     obtain ⟨D,hD⟩:∃ D,P[k]=D:=⟨_,rfl⟩
     rw [hD] at pz0 pz1 hfk
     obtain ⟨x0,x1,x2⟩:=D
     dsimp only at pz0 pz1 hfk
     have HS:Hid (∀ w',Below wr.heap.size wr w'→w'.cell? ⟨h,m * 3,none⟩=some (.string x0)∧w'.cell? ⟨h,m * 3+1,none⟩=some (.string x1)):=fun w' hb=>by
      obtain ⟨h',e1,q⟩:=HRP.out w' (HBk.out.trans (hb.mono HBk.out.size)) k hkl
      cases e1
      rw [hD,hm] at q
      exact q
     have HFk:Hid (∀ w',Below w8.heap.size w8 w'→Calls Tryz.prog 19 #[.slice p k0 cc,.string nm,.string x0,.string x1] w' fun e w2=>e = .returned (.agg #[.string nm,.int .i64 (m:Int),.int .i64 0])∧Below w'.heap.size w' w2):=fun w' hb=>by
      have:=HFf.out w' x0 x1 pz0 pz1 (B8.out.trans (hb.mono B8.out.size))
      rw [hfk,hm] at this
      exact this
     have dnm:(nm.toList == nm.toList)=true:=by simp
     have dmm:((m:Int) == (m:Int))=true:=by simp
     have HM:Hid (us.length+(k+1)=m+1):=by show _=_;omega
     clear hD hfk hm hln pz0 pz1
     go_upto_region 20 with fail
     refine wp_region_held_drew (S:=fun w'=>w'.cell? ⟨h,m * 3,none⟩=some (.string x0)∧w'.cell? ⟨h,m * 3+1,none⟩=some (.string x1)) (by kernel_rfl) (HS.out _ (Below.refl _ _).drew) (fun hHeld=>?_)
     refine tkI 0 rfl (by intro w hSw;(try dsimp only at hSw);go_simp;try with_reducible rfl) hHeld ?_
     (try simp only [Act.put,List.getElem_toArray,List.getElem_cons_zero,List.setIfInBounds_toArray,List.set_cons_zero,List.set_cons_succ])
     refine tkI 1 rfl (by intro w hSw;(try dsimp only at hSw);go_simp;try with_reducible rfl) hHeld ?_
     (try simp only [Act.put,List.getElem_toArray,List.getElem_cons_zero,List.getElem_cons_succ,List.setIfInBounds_toArray,List.set_cons_zero,List.set_cons_succ])
     refine tkI 2 rfl (by intro w hSw;(try dsimp only at hSw);go_simp;try with_reducible rfl) hHeld ?_
     (try simp only [Act.put,List.getElem_toArray,List.getElem_cons_zero,List.getElem_cons_succ,List.setIfInBounds_toArray,List.set_cons_zero,List.set_cons_succ])
     refine tkI 3 rfl (by intro w hSw;(try dsimp only at hSw);go_simp;try with_reducible rfl) hHeld ?_
     (try simp only [Act.put,List.getElem_toArray,List.getElem_cons_zero,List.getElem_cons_succ,List.setIfInBounds_toArray,List.set_cons_zero,List.set_cons_succ])
     refine tkI 4 rfl (by intro w hSw;(try dsimp only at hSw);go_simp;try with_reducible rfl) hHeld ?_
     (try simp only [Act.put,List.getElem_toArray,List.getElem_cons_zero,List.getElem_cons_succ,List.setIfInBounds_toArray,List.set_cons_zero,List.set_cons_succ])
     refine tkI 5 rfl (by intro w hSw;(try dsimp only at hSw);go_simp;try with_reducible rfl) hHeld ?_
     (try simp only [Act.put,List.getElem_toArray,List.getElem_cons_zero,List.getElem_cons_succ,List.setIfInBounds_toArray,List.set_cons_zero,List.set_cons_succ])
     refine tkI 6 rfl (by intro w hSw;(try dsimp only at hSw);go_simp;try with_reducible rfl) hHeld ?_
     (try simp only [Act.put,List.getElem_toArray,List.getElem_cons_zero,List.getElem_cons_succ,List.setIfInBounds_toArray,List.set_cons_zero,List.set_cons_succ])
     refine tkI 7 rfl (by intro w hSw;(try dsimp only at hSw);go_simp;try with_reducible rfl) hHeld ?_
     (try simp only [Act.put,List.getElem_toArray,List.getElem_cons_zero,List.getElem_cons_succ,List.setIfInBounds_toArray,List.set_cons_zero,List.set_cons_succ])
     refine tkI 8 rfl (by intro w hSw;(try dsimp only at hSw);go_simp;try with_reducible rfl) hHeld ?_
     (try simp only [Act.put,List.getElem_toArray,List.getElem_cons_zero,List.getElem_cons_succ,List.setIfInBounds_toArray,List.set_cons_zero,List.set_cons_succ])
     refine tkI 9 rfl (by intro w hSw;(try dsimp only at hSw);go_simp;try with_reducible rfl) hHeld ?_
     (try simp only [Act.put,List.getElem_toArray,List.getElem_cons_zero,List.getElem_cons_succ,List.setIfInBounds_toArray,List.set_cons_zero,List.set_cons_succ])
     refine tkI 10 rfl (by intro w hSw;(try dsimp only at hSw);go_simp;try with_reducible rfl) hHeld ?_
     (try simp only [Act.put,List.getElem_toArray,List.getElem_cons_zero,List.getElem_cons_succ,List.setIfInBounds_toArray,List.set_cons_zero,List.set_cons_succ])
     refine tkI 11 rfl (by intro w hSw;(try dsimp only at hSw);go_simp;try with_reducible rfl) hHeld ?_
     (try simp only [Act.put,List.getElem_toArray,List.getElem_cons_zero,List.getElem_cons_succ,List.setIfInBounds_toArray,List.set_cons_zero,List.set_cons_succ])
     refine tkI 13 rfl (by intro w hSw;(try dsimp only at hSw);go_simp;try with_reducible rfl) hHeld ?_
     (try simp only [Act.put,List.getElem_toArray,List.getElem_cons_zero,List.getElem_cons_succ,List.setIfInBounds_toArray,List.set_cons_zero,List.set_cons_succ])
     refine tkI 14 rfl (by intro w hSw;(try dsimp only at hSw);go_simp;try with_reducible rfl) hHeld ?_
     (try simp only [Act.put,List.getElem_toArray,List.getElem_cons_zero,List.getElem_cons_succ,List.setIfInBounds_toArray,List.set_cons_zero,List.set_cons_succ])
     refine tkI 15 rfl (by intro w hSw;(try dsimp only at hSw);go_simp;try with_reducible rfl) hHeld ?_
     (try simp only [Act.put,List.getElem_toArray,List.getElem_cons_zero,List.getElem_cons_succ,List.setIfInBounds_toArray,List.set_cons_zero,List.set_cons_succ])
     refine wpAnyH_ready (rs:=[12]) (by kernel_rfl) (by simp) ?_
     refine AllReadyH.cons rfl (fun K hK=>?_) AllReadyH.nil
     simp only [List.getElem_toArray,List.getElem_cons_zero,List.getElem_cons_succ]
     go_simp
     refine Calls.mono (HFk.out _ (HBk.out.trans ((Below.refl _ _).drew.mono HBk.out.size))) ?_
     rintro e w9 ⟨rfl,hb9⟩
     have hB9:Below wr.heap.size wr w9:=(Below.refl _ _).drew.trans hb9
     refine hK.out _ _ (HS.out _ hB9) (fun hHeld=>?_)
     clear hK K
     (try simp only [Act.put,List.getElem_toArray,List.getElem_cons_zero,List.getElem_cons_succ,List.setIfInBounds_toArray,List.set_cons_zero,List.set_cons_succ])
     refine tkI 16 rfl (by intro w hSw;(try dsimp only at hSw);go_simp;try with_reducible rfl) hHeld ?_
     (try simp only [Act.put,List.getElem_toArray,List.getElem_cons_zero,List.getElem_cons_succ,List.setIfInBounds_toArray,List.set_cons_zero,List.set_cons_succ])
     refine wpAnyH_done (by kernel_rfl) ?_ _
     have HB9:Hid (Below w8.heap.size w8 w9):=HBk.out.trans (hB9.mono HBk.out.size)
     clear hHeld hB9 hb9
     go_wp2
     go_roundw
     case rel=>exact⟨k+1,by omega,by rw [HM.out];go_num,HB9.out⟩
     case measure=>simp [intOf];omega
    ·obtain rfl:k=P.length:=by omega
     have d2:decide (((us.length+P.length:Nat):Int)<(fn:Int))=false:=decide_eq_false (by omega)
     go_wp2
     go_ret
     exact⟨rfl,HEnd.out _ (B8.out.trans (HBk.out.mono B8.out.size))⟩

set_option maxRecDepth 100000 in
theorem lifted (os : Os) (started : os.Started) (H : Type) (enc : TypeId × Value → H) :
  ReturnsInHanded {} Tryz.checked os 7 .any (fun w args => (Rows.fnFieldsSpec.pre enc Tryz.prog Tryz.f7 [] false w args ∧ laidMetH Tryz.prog Rows.fnFieldsRow.laid w) ∧ sizedMet enc Tryz.prog Tryz.f7 (OpenSpec.ofChange Rows.fnFieldsSpec) false w args)
   (Rows.fnFieldsSpec.post enc Tryz.prog Tryz.f7 false true false false) := by
 refine returnsInHanded_of_change_and (C := Tryz.checked) (X := fun w _ => laidMetH Tryz.prog Rows.fnFieldsRow.laid w) (fun _ _ _ hh h => h.of_heap hh) own started (by kernel_rfl) Tryz.func7
  (ChangeSpec.witness_at (enc := enc) (C := Tryz.checked) (os := os) (X := fun w _ => laidMetH Tryz.prog Rows.fnFieldsRow.laid w) false (laidWorld os) #[.slice none 0 0] 8 rfl (by kernel_rfl) (by kernel_rfl) (by kernel_rfl) (by kernel_rfl) (by kernel_rfl) (laidWorld_met os _)) ?_
 intro W base args ds gs before hval0 hW _ _ hL _
 have hval : ∀ (j : Nat) t v, Tryz.f7.params[j]? = some t → args[j]? = some v → Value.okWide Tryz.prog W .any base t v := hval0
 have hW' := hW
 obtain ⟨p, q, hA0, hV0, rfl, hfz, hnd⟩ := hW
 have hA : DataW.TrodAll enc Tryz.prog W 0 (fun _ => true) true Tryz.f7.params.toList args.toList ds p := hA0
 have hV : DataW.TrodVars enc Tryz.prog W (fun _ => true) ["loop.example/g00175/impl.opTable"] gs q := hV0
 rw [Tryz.params7] at hA hval
 obtain ⟨v0, vs0, d0, ds0, p0, q0, hargs, rfl, rfl, h0, r0⟩ := trodAll_cons hA
 obtain ⟨rfl, rfl, rfl⟩ := trodAll_nil r0
 obtain rfl : args = #[v0] := by cases args; simp_all
 have hVk := hV
 obtain ⟨vg, vt, vcs, vfuel, vd, vp, rfl, _, _, _, _, rfl⟩ := trodVars_one hV
 obtain ⟨htab, hglob⟩ := both_of_laid hL
 obtain ⟨a0, len0, cap0, rfl⟩ := okWide_slice Tryz.underlying38 (hval 0 38 v0 rfl rfl)
 have k0 := h0
 have lt0 : ∀ x ∈ p0, x.block < W.heap.size := by obtain ⟨m, hm⟩ := k0; exact DataW.trod_lt m _ _ _ hm
 obtain ⟨z0, w0⟩ : ∃ zs, IsRow .u8 W a0 len0 cap0 zs := by
  obtain ⟨fuel, hf⟩ := h0
  rcases open_ints Tryz.underlying38 Tryz.underlying5 (by kernel_rfl) hf with ⟨hcs, _⟩ | ⟨x, l, c, zs, hcs, _, hl, hm, hz, _, hcell, hwz⟩
  ·simp [Value.cells] at hcs
   obtain ⟨rfl, rfl, rfl⟩ := hcs
   exact ⟨[], .inl ⟨rfl, rfl, rfl, rfl⟩⟩
  ·simp [Value.cells] at hcs
   obtain ⟨rfl, rfl, rfl⟩ := hcs
   exact ⟨zs, .inr ⟨_, rfl, hl, hm, by simpa using hz, hcell, hwz⟩⟩
 clear hA0 hval0
 refine (walk a0 len0 cap0 z0 W w0 htab hglob).mono fun e W' ⟨he, bel⟩ => ?_
 subst he
 exact ⟨_, rfl, _, _, _, [], _, _, hW', trodAll_mk1 (shut_bool Tryz.underlying4 _), (trodAll_cons_mk (Below.trod laidOut (by kernel_rfl) (of_decide_eq_true (by kernel_rfl)) k0 bel lt0) trodAll_mk0), Below.trodVars laidOut bel (by kernel_rfl) hVk, bel.frame _, fun h => by cases h⟩

theorem over : Rows.fnFieldsRow.holds Tryz.pinned (OpenSpec.ofChange Rows.fnFieldsSpec) :=
 OpenClaim.holds_of_wide 7 Tryz.f7 rfl rfl rfl rfl rfl rfl rfl ⟨rfl, rfl, rfl, rfl, rfl⟩ rfl rfl rfl rfl rfl (by kernel_rfl) Tryz.func7 (by kernel_rfl)
  (of_decide_eq_true (by kernel_rfl)) (by unfold Func.isWrapper; first | (rw [if_pos (by decide +kernel)]; kernel_rfl) | (rw [if_neg (by decide +kernel)]; exact ⟨rfl, rfl⟩))
  (fun os started H enc _ => lifted os started H enc)

end Go.Proofs.YtmhgaggpdggbeaaGreatDoor.fnFields
namespace Go.Proofs.YtmhgaggpdggbeaaGreatDoor
theorem fnFields_holds : Rows.FnFieldsCardSaid :=
 Claim7.holds_tied_plain_at .later [] [.handle, .data] true (true, "a9a61ffc67ae99f45bc6445069b36beb30fb85df5e4a4fc939723e9fa45922a0") true
  fnFields.over (fun _ h => by cases h) (by kernel_rfl) (fun _ h => by cases h) fnFields_row_tie rfl ⟨rfl, rfl⟩ (by kernel_rfl) rfl
  (fun f fn hf hfn => by
   obtain rfl : f = 7 := Option.some.inj ((show Tryz.prog.funcNamed "loop.example/g00175/laws.FnFields" = some 7 by kernel_rfl).symm.trans hf) |>.symm
   obtain rfl : fn = Tryz.f7 := (Option.some.inj (Tryz.func7.symm.trans hfn)).symm
   exact ⟨by kernel_rfl, fun j t ht => by
    rw [Tryz.params7] at ht
    rcases j with _ | j
    ·obtain rfl : t = 38 := by simpa using ht.symm
     exact (show Tryz.prog.wantsStandIn 38 = false by kernel_rfl)
    ·skip
     simp at ht⟩)
  (by kernel_rfl)
#print axioms fnFields_holds
end Go.Proofs.YtmhgaggpdggbeaaGreatDoor
