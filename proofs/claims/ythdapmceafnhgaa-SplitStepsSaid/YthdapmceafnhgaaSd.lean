/- split: tally, told, quotient, rest, width. -/
import Derived.Test.YthdapmceafnhgaaSc
namespace Go.Proofs.Ythdapmceafnhgaa
open Go.RowKit
attribute [local go_sem] ix0 ix1 ix2 ix3
theorem tally_any (q r b bit g : Nat) (hbit : bit ≤ 1) (w : World) (hg : Blk w g 66 (UW q r b)) :
    Calls Try.prog 34 #[.pointer (some ⟨g, 0, none⟩), .int .u64 bit] w fun e w' => e = .returned (.tuple #[]) ∧ Blk w' g 66 (UW (q * 2 + bit) r b) ∧ w.grownBy w' (some g) := by
  have HG := Lib.hid hg
  have hgl := hg.lt
  have f0 := frozen_of_row w g 0 _ _ hg
  have c0 := (cell_of_row w g 0 _ _ _ hg).trans (show (UW q r b)[0]? = some (.int .u64 (lb q 0)) from rfl)
  clear hg
  go_enter Try.func34, Try.ntmps34
  go_wp2_with (first | (go_at_call 42; refine (hang_times q r b bit g hbit _ HG.out).mono ?_; rintro e w1 ⟨rfl, h1, hg1⟩) | fail)
  go_end0
  exact ⟨rfl, h1, hg1⟩

/-- How often, and what is left. -/
abbrev WL (q r : Nat) : Value := .agg #[.int .u64 (lb q 0), .int .u64 (lb q 1), .int .u64 (lb q 2), .int .u64 (lb q 3), .int .u64 (lb r 0), .int .u64 (lb r 1), .int .u64 (lb r 2), .int .u64 (lb r 3)]
theorem quot_any (q r : Nat) (w : World) :
    Calls Try.prog 25 #[WL q r] w fun e w' => e = .returned (W q) ∧ Below w.heap.size w w' := by
  go_enter Try.func25, Try.ntmps25
  go_wp2
  exact bodyPost_ret (v := W q) (by simp [results, Try.results25, go_sem]) rfl ⟨rfl, by first | exact balloc (balloc (Below.refl _ _) _) _ | exact balloc (Below.refl _ _) _⟩
theorem rest_any (q r : Nat) (w : World) :
    Calls Try.prog 26 #[WL q r] w fun e w' => e = .returned (W r) ∧ Below w.heap.size w w' := by
  go_enter Try.func26, Try.ntmps26
  go_wp2
  exact bodyPost_ret (v := W r) (by simp [results, Try.results26, go_sem]) rfl ⟨rfl, by first | exact balloc (balloc (Below.refl _ _) _) _ | exact balloc (Below.refl _ _) _⟩
end Go.Proofs.Ythdapmceafnhgaa
