/- digest: DigestTurns' walk, outside of the rounds, and both. -/
import Derived.Test.YtfpkogklhigkfaaKx
namespace Go.Proofs.Ytfpkogklhigkfaa
open Go.RowKit
attribute [local irreducible] ln rot Fc TF al25 rnds rcv
set_option maxRecDepth 100000 in
set_option maxHeartbeats 4000000 in
theorem turns5_low (a : Nat → Ln) (r : Int) (hr : r < 0) (w : World) :
    Calls Try.prog 3 #[.agg (Fc 25 a), .int .i64 r] w fun e w' => e = .returned (.bool true) ∧ Below w.heap.size w w' := by
  have hW := balloc (Below.refl w.heap.size w) (.cells (Fc 25 a) 23)
  go_enter Try.func3, Try.ntmps3
  go_wp2_with fail
  refine (works_anyK _).mono ?_
  rintro e w1 ⟨rfl, h1⟩
  have HE := Lib.hid (bstep hW h1)
  clear hW h1
  go_wp2_with fail
  go_ret
  exact ⟨rfl, HE.out⟩
set_option maxRecDepth 100000 in
set_option maxHeartbeats 4000000 in
theorem turns5_high (a : Nat → Ln) (r : Int) (hr : 23 < r) (w : World) :
    Calls Try.prog 3 #[.agg (Fc 25 a), .int .i64 r] w fun e w' => e = .returned (.bool true) ∧ Below w.heap.size w w' := by
  have hr0 : ¬ (r < 0) := by omega
  have hW := balloc (Below.refl w.heap.size w) (.cells (Fc 25 a) 23)
  go_enter Try.func3, Try.ntmps3
  go_wp2_with fail
  refine (works_anyK _).mono ?_
  rintro e w1 ⟨rfl, h1⟩
  have HE := Lib.hid (bstep hW h1)
  clear hW h1
  go_wp2_with fail
  go_ret
  exact ⟨rfl, HE.out⟩
theorem turns5_walk (a : Nat → Ln) (r : Int) (w : World) :
    Calls Try.prog 3 #[.agg (Fc 25 a), .int .i64 r] w fun e w' => e = .returned (.bool true) ∧ Below w.heap.size w w' := by
  by_cases h1 : r < 0
  · exact turns5_low a r h1 w
  by_cases h2 : 23 < r
  · exact turns5_high a r h2 w
  obtain ⟨k, rfl⟩ : ∃ k : Nat, r = (k : Int) := ⟨r.toNat, by omega⟩
  exact turns5_in a k (by omega) w
end Go.Proofs.Ytfpkogklhigkfaa
