/- split's reference: Divide of any word, Abs. -/
import Derived.Test.YthdapmceafnhgaaTq
namespace Go.Proofs.Ythdapmceafnhgaa
open Go.RowKit Go.Shelf
attribute [local go_sem] ix0 ix1 ix2 ix3
set_option maxHeartbeats 2000000 in
theorem rdivide_nought (a : Nat) (w : World) :
    Calls Try.prog 7 #[W a, .agg #[.int .u64 0, .int .u64 0, .int .u64 0, .int .u64 0]] w fun e w' => e = .returned (.tuple #[.agg #[.int .u64 0, .int .u64 0, .int .u64 0, .int .u64 0], .agg #[.int .u64 0, .int .u64 0, .int .u64 0, .int .u64 0]]) ∧ Below w.heap.size w w' := by
  have heq : ∀ w, (binOp .eql 24 (.agg #[.int .u64 0, .int .u64 0, .int .u64 0, .int .u64 0]) (.agg #[.int .u64 0, .int .u64 0, .int .u64 0, .int .u64 0])).run Try.prog w = .ok (.bool true) w := eq_sameW 0 0 0 0
  go_enter Try.func7, Try.ntmps7
  go_wp2_with fail
  go_region
  all_goals
    go_wp2
    exact bodyPost_ret (v := .tuple #[.agg #[.int .u64 0, .int .u64 0, .int .u64 0, .int .u64 0], .agg #[.int .u64 0, .int .u64 0, .int .u64 0, .int .u64 0]]) (by simp [results, Try.results7, go_sem]) rfl ⟨rfl, (balloc (balloc (balloc (balloc (balloc (balloc (Below.refl _ _) _) _) _) _) _) _).drew⟩
theorem rdivide_all (a b : Nat) (ha : a < MM) (hb : b < MM) (w : World) :
    Calls Try.prog 7 #[W a, W b] w fun e w' => e = .returned (.tuple #[W (a / b), W (mdN a b)]) ∧ Below w.heap.size w w' := by
  unfold mdN
  rcases Nat.eq_zero_or_pos b with rfl | h
  · rw [if_pos rfl, Nat.div_zero]
    have h := rdivide_nought a w
    rwa [← W_zero] at h
  · rw [if_neg (by omega)]
    exact rdivide_pos a b ha h hb w
end Go.Proofs.Ythdapmceafnhgaa
