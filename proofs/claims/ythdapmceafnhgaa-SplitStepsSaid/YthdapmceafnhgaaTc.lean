/- split: the whole sum of two words. -/
import Derived.Test.YthdapmceafnhgaaTb
import Derived.Laws.Bits64b
namespace Go.Proofs.Ythdapmceafnhgaa
open Go.RowKit
attribute [local go_sem] ix0 ix1 ix2 ix3
theorem add64_i (a b i : Nat) (w : World) :
    (callFunc 38 #[.int .u64 (lb a i), .int .u64 (lb b i), .int .u64 (cy a b i)]).run Try.prog w =
      .ok (.value (.tuple #[.int .u64 (lb (a + b) i), .int .u64 (cy a b (i + 1))])) w := by
  have hc : 0 ≤ cy a b i ∧ cy a b i ≤ 1 := ⟨Int.natCast_nonneg _, by have := cy_le a b i; unfold cy; exact Int.ofNat_le.2 this⟩
  rw [run_callFunc_extern (fn := Try.f38) (by kernel_rfl) (by kernel_rfl) (by kernel_rfl) (by kernel_rfl) (e := add64Entry) (by kernel_rfl), run_add64 _ _ _ (lb_nonneg _ _) (lb_nonneg _ _) hc.1 hc.2]
  simp only [Result.andThen]
  have h1 : (lb a i + lb b i + cy a b i) % 18446744073709551616 = lb (a + b) i := by
    unfold lb cy; rw [← lb_add a b i]; simp only [Int.natCast_emod, Int.natCast_add]; rfl
  have h2 : (lb a i + lb b i + cy a b i) / 18446744073709551616 = cy a b (i + 1) := by
    unfold lb cy; rw [← cy_add a b i]; simp only [Int.natCast_ediv, Int.natCast_add]; rfl
  rw [h1, h2]
theorem add64_0 (a b : Nat) (w : World) :
    (callFunc 38 #[.int .u64 (lb a 0), .int .u64 (lb b 0), .int .u64 0]).run Try.prog w =
      .ok (.value (.tuple #[.int .u64 (lb (a + b) 0), .int .u64 (cy a b 1)])) w := by
  have h := add64_i a b 0 w
  rwa [cy_zero] at h
theorem cy_four (a b : Nat) (ha : a < MM) (hb : b < MM) : cy a b 4 = lb (a + b) 4 := by
  unfold cy lb
  have e1 : a % B64 ^ 4 = a := Nat.mod_eq_of_lt ha
  have e2 : b % B64 ^ 4 = b := Nat.mod_eq_of_lt hb
  rw [e1, e2]
  congr 1
  have h : (a + b) / B64 ^ 4 < 2 := Nat.div_lt_of_lt_mul (by show a + b < MM * 2; omega)
  exact (Nat.mod_eq_of_lt (Nat.lt_trans h (by unfold B64; omega))).symm

set_option maxRecDepth 100000 in
set_option maxHeartbeats 2000000 in
theorem sum_any (a b : Nat) (ha : a < MM) (hb : b < MM) (w : World) :
    Calls Try.prog 29 #[W a, W b] w fun e w' => e = .returned (.agg #[.int .u64 (lb (a + b) 0), .int .u64 (lb (a + b) 1), .int .u64 (lb (a + b) 2), .int .u64 (lb (a + b) 3), .int .u64 (lb (a + b) 4)]) ∧ Below w.heap.size w w' := by
  have k0 := add64_0 a b
  have k1 := add64_i a b 1
  have k2 := add64_i a b 2
  have k3 := add64_i a b 3
  have k4 := cy_four a b ha hb
  rw [k4] at k3
  clear k4 ha hb
  go_enter Try.func29, Try.ntmps29
  go_wp2_with fail
  refine wp_loop_rounds 5 ?_
  iterate 5 (rw [rounds_succ]; go_wp2)
  exact bodyPost_ret (v := .agg #[.int .u64 (lb (a + b) 0), .int .u64 (lb (a + b) 1), .int .u64 (lb (a + b) 2), .int .u64 (lb (a + b) 3), .int .u64 (lb (a + b) 4)]) (by simp [results, Try.results29, go_sem]) rfl ⟨rfl, balloc (balloc (balloc (balloc (Below.refl _ _) _) _) _) _⟩
end Go.Proofs.Ythdapmceafnhgaa
