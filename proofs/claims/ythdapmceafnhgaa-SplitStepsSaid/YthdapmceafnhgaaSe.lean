/- split: one step (divide's closure). -/
import Derived.Test.YthdapmceafnhgaaSd
namespace Go.Proofs.Ythdapmceafnhgaa
open Go.RowKit
attribute [local go_sem] ix0 ix1 ix2 ix3
theorem and_1 (a : Nat) (ha : a < 18446744073709551616) : bits .and .u64 (a : Int) 1 = ((a % 2 : Nat) : Int) := by
  have h := bits_and_u64_nat a 1 ha (by omega)
  rw [Nat.and_one_is_mod] at h
  exact h
/-- The bit at a place, out of the number there. -/
theorem bit_at (N p : Nat) : N / B64 ^ (p / 64) % B64 / 2 ^ (p % 64) % 2 = N / 2 ^ p % 2 := by
  have e : B64 = 2 ^ (p % 64) * (2 * 2 ^ (63 - p % 64)) := by
    rw [← Nat.pow_succ', ← Nat.pow_add, show p % 64 + (63 - p % 64 + 1) = 64 by omega]; rfl
  have e2 : 2 ^ p = B64 ^ (p / 64) * 2 ^ (p % 64) := by
    rw [show B64 = 2 ^ 64 from rfl, ← Nat.pow_mul, ← Nat.pow_add, Nat.div_add_mod]
  rw [e2, ← Nat.div_div_eq_div_mul]
  generalize N / B64 ^ (p / 64) = M
  rw [e, Nat.mod_mul_right_div_self, Nat.mod_mul_right_mod]
def stB (r b bit : Nat) : Nat := if b ≤ r * 2 + bit then 1 else 0
def stR (r b bit : Nat) : Nat := if b ≤ r * 2 + bit then r * 2 + bit - b else r * 2 + bit
theorem take_any (q r b bit g : Nat) (hr : r < b) (hb : b < MM) (hbit : bit ≤ 1) (w : World) (hg : Blk w g 66 (UW q r b)) :
    Calls Try.prog 35 #[.pointer (some ⟨g, 0, none⟩), .int .u64 bit] w fun e w' => e = .returned (.int .u64 (stB r b bit : Nat)) ∧ Blk w' g 66 (UW q (stR r b bit) b) ∧ w.grownBy w' (some g) := by
  by_cases h : b ≤ r * 2 + bit
  · unfold stB stR; rw [if_pos h, if_pos h]; exact take_in q r b bit g hr hb hbit h w hg
  · unfold stB stR; rw [if_neg h, if_neg h]; exact take_out q r b bit g hr hb hbit (by omega) w hg
theorem stR_lt (r b bit : Nat) (hr : r < b) (hbit : bit ≤ 1) : stR r b bit < b := by unfold stR; split <;> omega
theorem stB_le (r b bit : Nat) : stB r b bit ≤ 1 := by unfold stB; split <;> omega

set_option maxHeartbeats 1000000 in
theorem step_any (q r b N g x nb no n cap p : Nat) (hr : r < b) (hb : b < MM) (hn : n ≤ 16) (hp : p < 64 * n) (w : World) (hg : Blk w g 66 (UW q r b))
    (hx : w.cell? ⟨x, 0, none⟩ = some (.slice (some ⟨nb, no, none⟩) n cap)) (hN : ∀ j, j < n → w.cell? ⟨nb, no + j, none⟩ = some (.int .u64 ((N / B64 ^ j % B64 : Nat) : Int))) :
    Calls Try.prog 33 #[.int .i64 p, .pointer (some ⟨g, 0, none⟩), .pointer (some ⟨x, 0, none⟩)] w fun e w' => e = .returned (.tuple #[]) ∧ Blk w' g 66 (UW (q * 2 + stB r b (N / 2 ^ p % 2)) (stR r b (N / 2 ^ p % 2)) b) ∧ w.grownBy w' (some g) := by
  have HG := Lib.hid hg
  have hgl := hg.lt
  have c0 := (cell_of_row w g 0 _ _ _ hg).trans (show (UW q r b)[0]? = some (.int .u64 (lb q 0)) from rfl)
  have f0 := frozen_of_row w g 0 _ _ hg
  have hc := hN (p / 64) (by omega)
  have HBIT := Lib.hid (bit_at N p)
  have HR := Lib.hid hr
  have HB := Lib.hid hb
  clear hg hN hr hb
  have hL : N / B64 ^ (p / 64) % B64 < 18446744073709551616 := Nat.mod_lt _ B64_pos
  obtain ⟨L, hLe⟩ : ∃ L, N / B64 ^ (p / 64) % B64 = L := ⟨_, rfl⟩
  rw [hLe] at hc hL HBIT
  clear hLe
  have g1 : IntKind.i64.wrap ((p : Int) / 64) = (p : Int) / 64 := IntWalk.i64_in _ (by omega)
  have g2 : (0 : Int) ≤ (p : Int) / 64 := by omega
  have g3 : (p : Int) / 64 < (n : Int) := by omega
  have g4 : ((p : Int) / 64).toNat = p / 64 := by omega
  have g5 : (p : Int).tmod 64 = (p : Int) % 64 := Int.tmod_eq_emod_of_nonneg (by omega)
  have g6 : (0 : Int) ≤ (p : Int) % 64 := by omega
  have g7 : (p : Int) % 64 < 64 := by omega
  have g8 : ((p : Int) % 64).toNat = p % 64 := by omega
  go_enter Try.func33, Try.ntmps33
  have HV : Hid (bits .and .u64 ((L : Int) / 2 ^ (p % 64)) 1 = ((N / 2 ^ p % 2 : Nat) : Int)) := by
    show _ = _
    rw [show (L : Int) / 2 ^ (p % 64) = ((L / 2 ^ (p % 64) : Nat) : Int) by simp, and_1 _ (Nat.lt_of_le_of_lt (Nat.div_le_self _ _) hL), HBIT.out]
  go_wp2_with (first
    | (go_at_call 35; rw [HV.out]; refine (take_any q r b (N / 2 ^ p % 2) g HR.out HB.out (by omega) _ HG.out).mono ?_; rintro e w1 ⟨rfl, h1, hg1⟩)
    | (go_at_call 34; refine (tally_any q (stR r b (N / 2 ^ p % 2)) b (stB r b (N / 2 ^ p % 2)) g (stB_le _ _ _) _ h1).mono ?_; rintro e w2 ⟨rfl, h2, hg2⟩) | fail)
  go_end0
  exact ⟨rfl, h2, grown_trans hg1 hg2⟩
end Go.Proofs.Ythdapmceafnhgaa
