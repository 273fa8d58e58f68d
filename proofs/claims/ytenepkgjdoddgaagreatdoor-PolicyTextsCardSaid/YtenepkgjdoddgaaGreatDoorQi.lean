/- policy's laws: PolicyTexts for all arguments. -/
import Derived.Test.YtenepkgjdoddgaaGreatDoorNj
import Derived.Test.YtenepkgjdoddgaaGreatDoorPp
namespace Go.Proofs.YtenepkgjdoddgaaGreatDoor
open Go.RowKit Go.ChangeShapes Go.WideShapes Go.ChangeAt

set_option maxRecDepth 100000 in
theorem texts_all {H : Type} {enc : TypeId × Value → H} {X : World} {base : Nat} {sp : Nat → Bool} {held : Bool} {r : Reach} {b0 : Nat} {v0 : Value} {d0 : DataW H} {p0 : List MemPlace} (hv0 : Value.okWide Tryz.prog X r b0 27 v0) (h0 : DataW.Trod enc Tryz.prog X base sp held 27 v0 d0 p0) (n : Int) (hT : TZ X ∧ T10 X) :
    Calls Tryz.prog 4 #[v0, .int .i64 n] X fun e w' => e = .returned (.bool true) ∧ Below X.heap.size X w' := by
  obtain ⟨df, cs, rs, x1, x2, c1, c2, hd, rfl, hcs, hrs⟩ := arg_policy hv0 h0
  by_cases hl : cs.length ≤ 20 ∧ rs.length ≤ 20
  · by_cases hk : chk df cs rs = 0
    · exact texts_ok df x1 x2 c1 c2 cs rs n X hd hcs hrs hl hk hT.1 hT.2
    · exact texts_bad df x1 x2 c1 c2 cs rs n X hd hcs hrs hl hk hT.1 hT.2
  · exact texts_long df x1 x2 cs.length c1 rs.length c2 n X hl hT.1
end Go.Proofs.YtenepkgjdoddgaaGreatDoor
