/- power's law: PowerHolds: its arguments opened. -/
import Derived.Test.YtidpekcegocjfaaDoorEr
import Derived.Test.YtidpekcegocjfaaDoorBv
namespace Go.Proofs.YtidpekcegocjfaaDoor
open Go.RowKit Go.ChangeShapes Go.WideShapes Go.ChangeAt
theorem pholds_int (a : Nat) (n m : Int) (hn : (Lit.int .u32 n).wf = true) (hm : (Lit.int .u32 m).wf = true) (w : World) (hT : TZ w) :
    Calls Tryd.prog 5 #[W a, .int .u32 n, .int .u32 m] w fun e w' => e = .returned (.bool true) ∧ Below w.heap.size w w' := by
  have g0 := bounds_u32 hn
  have g1 := bounds_u32 hm
  obtain ⟨x, rfl⟩ := Int.eq_ofNat_of_zero_le g0.1
  obtain ⟨y, rfl⟩ := Int.eq_ofNat_of_zero_le g1.1
  exact pholds_walk a x y (by omega) (by omega) w hT
end Go.Proofs.YtidpekcegocjfaaDoor
