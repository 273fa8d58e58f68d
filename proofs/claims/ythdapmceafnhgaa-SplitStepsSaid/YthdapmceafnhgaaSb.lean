/- split: a bit is laid behind a word under way (hang). -/
import Derived.Test.YthdapmceafnhgaaSa
import Derived.Laws.BitsAllLaws
import Derived.IntWalk
namespace Go.Proofs.Ythdapmceafnhgaa
open Go.RowKit
attribute [local go_sem] ix0 ix1 ix2 ix3
/-- A split under way: how often, what is left, by what. -/
abbrev UW (q r b : Nat) : Array Value := #[.int .u64 (lb q 0), .int .u64 (lb q 1), .int .u64 (lb q 2), .int .u64 (lb q 3), .int .u64 (lb r 0), .int .u64 (lb r 1), .int .u64 (lb r 2), .int .u64 (lb r 3), .int .u64 (lb b 0), .int .u64 (lb b 1), .int .u64 (lb b 2), .int .u64 (lb b 3)]
theorem hang_high (m bit i : Nat) (hb : bit ≤ 1) : lb (m * 2 + bit) (i + 1) = lb (m * 2) (i + 1) := by
  unfold lb
  have e : B64 ^ (i + 1) = 2 * (9223372036854775808 * B64 ^ i) := by rw [Nat.pow_succ, Nat.mul_comm, ← Nat.mul_assoc]; rfl
  have h : ∀ x K : Nat, x / (2 * K) = x / 2 / K := fun x K => (Nat.div_div_eq_div_mul x 2 K).symm
  rw [e, h, h, show (m * 2 + bit) / 2 = m by omega, show m * 2 / 2 = m by omega]
theorem hang_0 (m bit : Nat) (hb : bit ≤ 1) : bits .or .u64 (IntKind.u64.wrap (lb m 0 * 2)) (bit : Int) = lb (m * 2 + bit) 0 := by
  unfold lb
  rw [Nat.pow_zero, Nat.div_one, Nat.div_one]
  have h1 := Nat.mod_lt m B64_pos
  have e : IntKind.u64.wrap (((m % B64 : Nat) : Int) * 2) = ((2 ^ 1 * (m % 9223372036854775808) : Nat) : Int) := by
    rw [show (2 : Int) = ((2 : Nat) : Int) from rfl, mulN, wrapM]
    congr 1
    unfold B64
    omega
  rw [e, or_add 1 _ bit (by omega) (by omega)]
  congr 1
  unfold B64
  omega
theorem hang_s (m bit i : Nat) (hb : bit ≤ 1) : bits .or .u64 (IntKind.u64.wrap (lb m (i + 1) * 2)) (lb m i / 9223372036854775808) = lb (m * 2 + bit) (i + 1) := by
  rw [hang_high m bit i hb]
  exact or_i m 2 9223372036854775808 i 1 (by decide) (by decide) (by decide)
theorem hang_1 (m bit : Nat) (hb : bit ≤ 1) : bits .or .u64 (IntKind.u64.wrap (lb m 1 * 2)) (lb m 0 / 9223372036854775808) = lb (m * 2 + bit) 1 := hang_s m bit 0 hb
theorem hang_2 (m bit : Nat) (hb : bit ≤ 1) : bits .or .u64 (IntKind.u64.wrap (lb m 2 * 2)) (lb m 1 / 9223372036854775808) = lb (m * 2 + bit) 2 := hang_s m bit 1 hb
theorem hang_3 (m bit : Nat) (hb : bit ≤ 1) : bits .or .u64 (IntKind.u64.wrap (lb m 3 * 2)) (lb m 2 / 9223372036854775808) = lb (m * 2 + bit) 3 := hang_s m bit 2 hb

set_option maxHeartbeats 1000000 in
theorem hang_times (q r b bit g : Nat) (hb : bit ≤ 1) (w : World) (hg : Blk w g 66 (UW q r b)) :
    Calls Try.prog 42 #[.pointer (some ⟨g, 0, none⟩), .int .u64 bit] w fun e w' => e = .returned (.int .u64 (lb q 3 / 9223372036854775808)) ∧ Blk w' g 66 (UW (q * 2 + bit) r b) ∧ w.grownBy w' (some g) := by
  have c0 := (cell_of_row w g 0 _ _ _ hg).trans (show (UW q r b)[0]? = some (.int .u64 (lb q 0)) from rfl)
  have f0 := frozen_of_row w g 0 _ _ hg
  have b0 := lb_nonneg q 0
  have c1 := (cell_of_row w g 1 _ _ _ hg).trans (show (UW q r b)[1]? = some (.int .u64 (lb q 1)) from rfl)
  have f1 := frozen_of_row w g 1 _ _ hg
  have b1 := lb_nonneg q 1
  have c2 := (cell_of_row w g 2 _ _ _ hg).trans (show (UW q r b)[2]? = some (.int .u64 (lb q 2)) from rfl)
  have f2 := frozen_of_row w g 2 _ _ hg
  have b2 := lb_nonneg q 2
  have c3 := (cell_of_row w g 3 _ _ _ hg).trans (show (UW q r b)[3]? = some (.int .u64 (lb q 3)) from rfl)
  have f3 := frozen_of_row w g 3 _ _ hg
  have b3 := lb_nonneg q 3
  have HB := Lib.hid hb
  have Hg := Lib.hid hg
  clear hg hb
  go_enter Try.func42, Try.ntmps42
  go_wp2
  refine wp_loop_rounds 5 ?_
  iterate 4 (rw [rounds_succ]; go_wp2; go_region; go_wp2)
  rw [rounds_succ]
  go_wp2
  go_ret
  rw [hang_0 q bit HB.out, hang_1 q bit HB.out, hang_2 q bit HB.out, hang_3 q bit HB.out]
  refine ⟨rfl, heap_setCell_same _ g 3 _ _ _ (heap_setCell_same _ g 2 _ _ _ (heap_setCell_same _ g 1 _ _ _ (heap_setCell_same w g 0 _ _ _ Hg.out))), ?_⟩
  exact grown_drew (grown_drew (grown_drew (grown_drew (grown_set' (grown_set' (grown_set' (grown_set' (grown_refl w g) 0 _) 1 _) 2 _) 3 _))))


set_option maxHeartbeats 1000000 in
theorem hang_left (q r b bit g : Nat) (hb : bit ≤ 1) (w : World) (hg : Blk w g 66 (UW q r b)) :
    Calls Try.prog 42 #[.pointer (some ⟨g, 4, none⟩), .int .u64 bit] w fun e w' => e = .returned (.int .u64 (lb r 3 / 9223372036854775808)) ∧ Blk w' g 66 (UW q (r * 2 + bit) b) ∧ w.grownBy w' (some g) := by
  have c0 := (cell_of_row w g 4 _ _ _ hg).trans (show (UW q r b)[4]? = some (.int .u64 (lb r 0)) from rfl)
  have f0 := frozen_of_row w g 4 _ _ hg
  have b0 := lb_nonneg r 0
  have c1 := (cell_of_row w g 5 _ _ _ hg).trans (show (UW q r b)[5]? = some (.int .u64 (lb r 1)) from rfl)
  have f1 := frozen_of_row w g 5 _ _ hg
  have b1 := lb_nonneg r 1
  have c2 := (cell_of_row w g 6 _ _ _ hg).trans (show (UW q r b)[6]? = some (.int .u64 (lb r 2)) from rfl)
  have f2 := frozen_of_row w g 6 _ _ hg
  have b2 := lb_nonneg r 2
  have c3 := (cell_of_row w g 7 _ _ _ hg).trans (show (UW q r b)[7]? = some (.int .u64 (lb r 3)) from rfl)
  have f3 := frozen_of_row w g 7 _ _ hg
  have b3 := lb_nonneg r 3
  have HB := Lib.hid hb
  have Hg := Lib.hid hg
  clear hg hb
  go_enter Try.func42, Try.ntmps42
  go_wp2
  refine wp_loop_rounds 5 ?_
  iterate 4 (rw [rounds_succ]; go_wp2; go_region; go_wp2)
  rw [rounds_succ]
  go_wp2
  go_ret
  rw [hang_0 r bit HB.out, hang_1 r bit HB.out, hang_2 r bit HB.out, hang_3 r bit HB.out]
  refine ⟨rfl, heap_setCell_same _ g 7 _ _ _ (heap_setCell_same _ g 6 _ _ _ (heap_setCell_same _ g 5 _ _ _ (heap_setCell_same w g 4 _ _ _ Hg.out))), ?_⟩
  exact grown_drew (grown_drew (grown_drew (grown_drew (grown_set' (grown_set' (grown_set' (grown_set' (grown_refl w g) 4 _) 5 _) 6 _) 7 _))))

end Go.Proofs.Ythdapmceafnhgaa
