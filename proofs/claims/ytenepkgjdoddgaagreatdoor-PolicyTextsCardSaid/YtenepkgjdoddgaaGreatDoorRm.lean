/- policy's laws: PolicyChecks: the walk (works is a premise). -/
import Derived.Test.YtenepkgjdoddgaaGreatDoorRl
namespace Go.Proofs.YtenepkgjdoddgaaGreatDoor
open Go.RowKit Go.Shelf

set_option maxRecDepth 100000 in
theorem num_any9 (k : Int) (w : World) : Calls Tryz.prog 13 #[.int .i64 k] w fun e w' => e = .returned (.int .i64 k) ∧ w = w' := by
  go_enter Tryz.func13, Tryz.ntmps13
  go_wp2_with fail
  go_ret
  exact ⟨rfl, rfl⟩
set_option maxRecDepth 100000 in
set_option maxHeartbeats 2000000 in
theorem few_any (d : Int) (x1 x2 : Option Addr) (n1 c1 n2 c2 : Nat) (w : World) :
    Calls Tryz.prog 9 #[.agg #[.int .u64 d, .slice x1 n1 c1, .slice x2 n2 c2], .int .i64 20] w fun e w' => e = .returned (.bool (decide (n1 ≤ 20 ∧ n2 ≤ 20))) ∧ Below w.heap.size w w' := by
  have HB := Lib.hid (balloc (Below.refl w.heap.size w) (.cells #[.int .u64 d, .slice x1 n1 c1, .slice x2 n2 c2] 27))
  by_cases h1 : n1 ≤ 20
  · have g1 : (n1 : Int) ≤ 20 := by omega
    by_cases h2 : n2 ≤ 20
    · have g2 : (n2 : Int) ≤ 20 := by omega
      rw [decide_eq_true (show n1 ≤ 20 ∧ n2 ≤ 20 from ⟨h1, h2⟩)]
      clear h1 h2
      go_enter Tryz.func9, Tryz.ntmps9
      go_wp2_with fail
      go_ret
      exact ⟨rfl, HB.out⟩
    · have g2 : ¬ (n2 : Int) ≤ 20 := by omega
      rw [decide_eq_false (show ¬ (n1 ≤ 20 ∧ n2 ≤ 20) from fun h => h2 h.2)]
      clear h1 h2
      go_enter Tryz.func9, Tryz.ntmps9
      go_wp2_with fail
      go_ret
      exact ⟨rfl, HB.out⟩
  · have g1 : ¬ (n1 : Int) ≤ 20 := by omega
    rw [decide_eq_false (show ¬ (n1 ≤ 20 ∧ n2 ≤ 20) from fun h => h1 h.1)]
    clear h1
    go_enter Tryz.func9, Tryz.ntmps9
    go_wp2_with fail
    go_ret
    exact ⟨rfl, HB.out⟩

end Go.Proofs.YtenepkgjdoddgaaGreatDoor
