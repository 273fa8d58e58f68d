/- split: a bit is taken into a split under way (take). -/
import Derived.Test.YthdapmceafnhgaaSb
namespace Go.Proofs.Ythdapmceafnhgaa
open Go.RowKit
attribute [local go_sem] ix0 ix1 ix2 ix3
theorem MM_two : MM = 2 * (9223372036854775808 * B64 ^ 3) := by unfold MM; rw [Nat.pow_succ, Nat.mul_comm, ← Nat.mul_assoc]; rfl
theorem over_val (r bit : Nat) (hr : r < MM) (hb : bit ≤ 1) : lb r 3 / 9223372036854775808 = (((r * 2 + bit) / MM : Nat) : Int) := by
  have h : ∀ x K : Nat, x / (2 * K) = x / 2 / K := fun x K => (Nat.div_div_eq_div_mul x 2 K).symm
  rw [MM_two, h, show (r * 2 + bit) / 2 = r by omega]
  unfold lb
  have e : r / B64 ^ 3 < B64 := Nat.div_lt_of_lt_mul (by rw [← Nat.pow_succ]; exact hr)
  rw [Nat.mod_eq_of_lt e, Nat.mul_comm, ← Nat.div_div_eq_div_mul]
  omega
theorem bw_4 (V b : Nat) : bw V b 4 = ((if V % MM < b % MM then 1 else 0 : Nat) : Int) := rfl
theorem take_same (V b : Nat) (hb : b < MM) (h : b ≤ V) (hV : V < 2 * b) : ((V / MM : Nat) : Int) = bw V b 4 := by
  rw [bw_4, Nat.mod_eq_of_lt hb]
  by_cases g : V < MM
  · rw [Nat.div_eq_of_lt g, Nat.mod_eq_of_lt g, if_neg (by omega)]
  · have e : V / MM = 1 := by
      apply Nat.div_eq_of_lt_le <;> omega
    have e2 : V % MM = V - MM := by
      have := Nat.div_add_mod V MM
      rw [e] at this; omega
    rw [e, e2, if_pos (by omega)]
theorem take_unlike (V b : Nat) (hb : b < MM) (h : V < b) : ((V / MM : Nat) : Int) ≠ bw V b 4 := by
  rw [bw_4, Nat.mod_eq_of_lt hb, Nat.div_eq_of_lt (by omega), Nat.mod_eq_of_lt (by omega), if_pos h]
  decide
theorem grown_below {w X Y : World} {row : Option Nat} (h : w.grownBy X row) (k : Below X.heap.size X Y) : w.grownBy Y row :=
  ⟨k.os.trans h.os, k.tape.trans h.tape, k.output.trans h.output, Nat.le_trans h.size k.size, fun i hi hne => (k.block i (Nat.lt_of_lt_of_le hi h.size)).trans (h.block i hi hne)⟩

set_option maxRecDepth 100000 in
set_option maxHeartbeats 1000000 in
theorem take_in (q r b bit g : Nat) (hr : r < b) (hb : b < MM) (hbit : bit ≤ 1) (h : b ≤ r * 2 + bit) (w : World) (hg : Blk w g 66 (UW q r b)) :
    Calls Try.prog 35 #[.pointer (some ⟨g, 0, none⟩), .int .u64 bit] w fun e w' => e = .returned (.int .u64 1) ∧ Blk w' g 66 (UW q (r * 2 + bit - b) b) ∧ w.grownBy w' (some g) := by
  have k0 := sub64_0 (r * 2 + bit) b
  have k1 := sub64_i (r * 2 + bit) b 1 (by omega)
  have k2 := sub64_i (r * 2 + bit) b 2 (by omega)
  have k3 := sub64_i (r * 2 + bit) b 3 (by omega)
  have hov := over_val r bit (by omega) hbit
  have hcd : ((((r * 2 + bit) / MM : Nat) : Int) != bw (r * 2 + bit) b 4) = false := by
    rw [take_same _ b hb h (by omega)]; simp
  rw [← hov] at hcd
  have HBIT := Lib.hid hbit
  have HG := Lib.hid hg
  have H := Lib.hid h
  have HB := Lib.hid hb
  have hgl := hg.lt
  clear hr hb hbit hov hg h
  go_enter Try.func35, Try.ntmps35
  go_wp2_with (first | (go_at_call 42; refine (hang_left q r b bit g HBIT.out _ HG.out).mono ?_; rintro e w1 ⟨rfl, h1, hg1⟩; have c4 := (cell_of_row w1 g 4 _ _ _ h1).trans (show (UW q (r * 2 + bit) b)[4]? = some (.int .u64 (lb (r * 2 + bit) 0)) from rfl); have f4 := frozen_of_row w1 g 4 _ _ h1; have c5 := (cell_of_row w1 g 5 _ _ _ h1).trans (show (UW q (r * 2 + bit) b)[5]? = some (.int .u64 (lb (r * 2 + bit) 1)) from rfl); have f5 := frozen_of_row w1 g 5 _ _ h1; have c6 := (cell_of_row w1 g 6 _ _ _ h1).trans (show (UW q (r * 2 + bit) b)[6]? = some (.int .u64 (lb (r * 2 + bit) 2)) from rfl); have f6 := frozen_of_row w1 g 6 _ _ h1; have c7 := (cell_of_row w1 g 7 _ _ _ h1).trans (show (UW q (r * 2 + bit) b)[7]? = some (.int .u64 (lb (r * 2 + bit) 3)) from rfl); have f7 := frozen_of_row w1 g 7 _ _ h1; have c8 := (cell_of_row w1 g 8 _ _ _ h1).trans (show (UW q (r * 2 + bit) b)[8]? = some (.int .u64 (lb b 0)) from rfl); have f8 := frozen_of_row w1 g 8 _ _ h1; have c9 := (cell_of_row w1 g 9 _ _ _ h1).trans (show (UW q (r * 2 + bit) b)[9]? = some (.int .u64 (lb b 1)) from rfl); have f9 := frozen_of_row w1 g 9 _ _ h1; have c10 := (cell_of_row w1 g 10 _ _ _ h1).trans (show (UW q (r * 2 + bit) b)[10]? = some (.int .u64 (lb b 2)) from rfl); have f10 := frozen_of_row w1 g 10 _ _ h1; have c11 := (cell_of_row w1 g 11 _ _ _ h1).trans (show (UW q (r * 2 + bit) b)[11]? = some (.int .u64 (lb b 3)) from rfl); have f11 := frozen_of_row w1 g 11 _ _ h1; have hgl1 := h1.lt; have H1 := Lib.hid h1; clear h1) | fail)
  refine wp_loop_rounds 5 ?_
  iterate 5 (rw [rounds_succ]; go_wp2)
  go_ret
  have e : (sb (r * 2 + bit) b) % MM = (r * 2 + bit - b) % MM := by
    unfold sb; rw [Nat.mod_eq_of_lt HB.out, show r * 2 + bit + (MM - b) = (r * 2 + bit - b) + MM by have := H.out; have := HB.out; omega, Nat.add_mod_right]
  rw [lb_congr e 0 (by omega), lb_congr e 1 (by omega), lb_congr e 2 (by omega), lb_congr e 3 (by omega)]
  refine ⟨rfl, Blk.alloc (heap_setCell_same _ g 7 _ _ _ (heap_setCell_same _ g 6 _ _ _ (heap_setCell_same _ g 5 _ _ _ (heap_setCell_same w1 g 4 _ _ _ H1.out)))) _, ?_⟩
  exact grown_below (grown_set' (grown_set' (grown_set' (grown_set' hg1 4 _) 5 _) 6 _) 7 _) (balloc (Below.refl _ _) _)


set_option maxRecDepth 100000 in
set_option maxHeartbeats 1000000 in
theorem take_out (q r b bit g : Nat) (hr : r < b) (hb : b < MM) (hbit : bit ≤ 1) (h : r * 2 + bit < b) (w : World) (hg : Blk w g 66 (UW q r b)) :
    Calls Try.prog 35 #[.pointer (some ⟨g, 0, none⟩), .int .u64 bit] w fun e w' => e = .returned (.int .u64 0) ∧ Blk w' g 66 (UW q (r * 2 + bit) b) ∧ w.grownBy w' (some g) := by
  have k0 := sub64_0 (r * 2 + bit) b
  have k1 := sub64_i (r * 2 + bit) b 1 (by omega)
  have k2 := sub64_i (r * 2 + bit) b 2 (by omega)
  have k3 := sub64_i (r * 2 + bit) b 3 (by omega)
  have hov := over_val r bit (by omega) hbit
  have hcd : ((((r * 2 + bit) / MM : Nat) : Int) != bw (r * 2 + bit) b 4) = true := by
    simpa using take_unlike _ b hb h
  rw [← hov] at hcd
  have HBIT := Lib.hid hbit
  have HG := Lib.hid hg
  have H := Lib.hid h
  have HB := Lib.hid hb
  have hgl := hg.lt
  clear hr hb hbit hov hg h
  go_enter Try.func35, Try.ntmps35
  go_wp2_with (first | (go_at_call 42; refine (hang_left q r b bit g HBIT.out _ HG.out).mono ?_; rintro e w1 ⟨rfl, h1, hg1⟩; have c4 := (cell_of_row w1 g 4 _ _ _ h1).trans (show (UW q (r * 2 + bit) b)[4]? = some (.int .u64 (lb (r * 2 + bit) 0)) from rfl); have f4 := frozen_of_row w1 g 4 _ _ h1; have c5 := (cell_of_row w1 g 5 _ _ _ h1).trans (show (UW q (r * 2 + bit) b)[5]? = some (.int .u64 (lb (r * 2 + bit) 1)) from rfl); have f5 := frozen_of_row w1 g 5 _ _ h1; have c6 := (cell_of_row w1 g 6 _ _ _ h1).trans (show (UW q (r * 2 + bit) b)[6]? = some (.int .u64 (lb (r * 2 + bit) 2)) from rfl); have f6 := frozen_of_row w1 g 6 _ _ h1; have c7 := (cell_of_row w1 g 7 _ _ _ h1).trans (show (UW q (r * 2 + bit) b)[7]? = some (.int .u64 (lb (r * 2 + bit) 3)) from rfl); have f7 := frozen_of_row w1 g 7 _ _ h1; have c8 := (cell_of_row w1 g 8 _ _ _ h1).trans (show (UW q (r * 2 + bit) b)[8]? = some (.int .u64 (lb b 0)) from rfl); have f8 := frozen_of_row w1 g 8 _ _ h1; have c9 := (cell_of_row w1 g 9 _ _ _ h1).trans (show (UW q (r * 2 + bit) b)[9]? = some (.int .u64 (lb b 1)) from rfl); have f9 := frozen_of_row w1 g 9 _ _ h1; have c10 := (cell_of_row w1 g 10 _ _ _ h1).trans (show (UW q (r * 2 + bit) b)[10]? = some (.int .u64 (lb b 2)) from rfl); have f10 := frozen_of_row w1 g 10 _ _ h1; have c11 := (cell_of_row w1 g 11 _ _ _ h1).trans (show (UW q (r * 2 + bit) b)[11]? = some (.int .u64 (lb b 3)) from rfl); have f11 := frozen_of_row w1 g 11 _ _ h1; have hgl1 := h1.lt; have H1 := Lib.hid h1; clear h1) | fail)
  refine wp_loop_rounds 5 ?_
  iterate 5 (rw [rounds_succ]; go_wp2)
  go_ret
  exact ⟨rfl, H1.out.alloc _, grown_below hg1 (balloc (Below.refl _ _) _)⟩

end Go.Proofs.Ythdapmceafnhgaa
