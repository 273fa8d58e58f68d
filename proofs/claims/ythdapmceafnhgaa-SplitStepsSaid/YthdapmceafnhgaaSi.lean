/- split: the signs of two, of one. -/
import Derived.Test.YthdapmceafnhgaaSh
namespace Go.Proofs.Ythdapmceafnhgaa
open Go.RowKit
attribute [local go_sem] ix0 ix1 ix2 ix3
theorem ng_lb (a : Nat) : (lb a 3 / 9223372036854775808 == 1) = ngN a := by
  unfold ngN
  have h := bit_at a 255
  have h2 : a / B64 ^ 3 % B64 < 18446744073709551616 := Nat.mod_lt _ B64_pos
  rw [show (255 : Nat) / 64 = 3 from rfl, show (255 : Nat) % 64 = 63 from rfl] at h
  rw [← h]
  unfold lb
  rw [Bool.eq_iff_iff]; simp only [beq_iff_eq]
  have e : (2 : Nat) ^ 63 = 9223372036854775808 := rfl
  rw [e]
  omega

set_option maxHeartbeats 1000000 in
theorem signs2_any (a b g cap : Nat) (w : World) (hgl : g < w.heap.size) (h3 : w.cell? ⟨g, 3, none⟩ = some (.int .u64 (lb a 3))) (h7 : w.cell? ⟨g, 7, none⟩ = some (.int .u64 (lb b 3))) :
    Calls Try.prog 27 #[.slice (some ⟨g, 0, none⟩) 2 cap] w fun e w' => e = .returned (.agg #[.bool (ngN a), .bool (ngN b)]) ∧ Below w.heap.size w w' := by
  have ea := ng_lb a
  have eb := ng_lb b
  go_enter Try.func27, Try.ntmps27
  go_wp2
  refine wp_loop_rounds 3 ?_
  iterate 3 (rw [rounds_succ]; go_wp2)
  exact bodyPost_ret (v := .agg #[.bool (ngN a), .bool (ngN b)]) (by simp [results, Try.results27, go_sem]) rfl ⟨rfl, by first | exact balloc (balloc (Below.refl _ _) _) _⟩
theorem signs1_any (a g cap : Nat) (w : World) (hgl : g < w.heap.size) (h3 : w.cell? ⟨g, 3, none⟩ = some (.int .u64 (lb a 3))) :
    Calls Try.prog 27 #[.slice (some ⟨g, 0, none⟩) 1 cap] w fun e w' => e = .returned (.agg #[.bool (ngN a), .bool false]) ∧ Below w.heap.size w w' := by
  have ea := ng_lb a
  go_enter Try.func27, Try.ntmps27
  go_wp2
  refine wp_loop_rounds 2 ?_
  iterate 2 (rw [rounds_succ]; go_wp2)
  exact bodyPost_ret (v := .agg #[.bool (ngN a), .bool false]) (by simp [results, Try.results27, go_sem]) rfl ⟨rfl, by first | exact balloc (balloc (Below.refl _ _) _) _⟩
end Go.Proofs.Ythdapmceafnhgaa
