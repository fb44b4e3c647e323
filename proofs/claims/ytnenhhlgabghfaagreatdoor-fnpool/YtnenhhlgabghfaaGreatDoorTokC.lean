import Derived.Test.YtnenhhlgabghfaaGreatDoorTok0
import Derived.Test.YtnenhhlgabghfaaGreatDoorCls2
/-
 What a class's bytes tell, one thing behind the other.
-/
namespace Go.Proofs.YtnenhhlgabghfaaGreatDoor
open Go.RowKit
set_option maxRecDepth 20000
set_option linter.unusedVariables false

def mthTok (x : MTup) : List Tok :=
 [.t (mD x).name, .t (mD x).desc, .n (fl3 (mD x).static (mD x).abs (mD x).fin), .n (mD x).stack, .n (mD x).locals, .n ((mD x).code.length : Int)] ++ ((mD x).code.flatMap insTok ++ ([.n ((mD x).hands.length : Int)] ++ (mD x).hands.flatMap hanTok))
def clsTok (c : ClsD) : List Tok :=
 [.t c.name, .t c.super, .n (fl3 c.fin c.abs false), .n (c.fields.length : Int)] ++ (c.fields.flatMap fldTok ++ ([.n (c.meths.length : Int)] ++ c.meths.flatMap mthTok))

theorem mthTok_wt (x : MTup) (h1 : (mD x).code.length ≤ 60) (h2 : (mD x).hands.length ≤ 6) : wt (mthTok x) ≤ 400 := by
 have e1 := wt_flat insTok 6 (mD x).code (fun y _ => insTok_wt y)
 have e2 := wt_flat hanTok 4 (mD x).hands (fun y _ => hanTok_wt y)
 unfold mthTok
 rw [wt_app, wt_app, wt_app]
 simp only [wt_cons, wt_nil, wt1]
 omega
end Go.Proofs.YtnenhhlgabghfaaGreatDoor
