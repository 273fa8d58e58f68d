/- split: quotient and rest bit by bit, in plain numbers. -/
import Derived.Test.YthdapmceafnhgaaSl
namespace Go.Proofs.Ythdapmceafnhgaa
open Go.RowKit

theorem two_way (b q V : Nat) (hV : V < 2 * b) : (b * (2 * q) + V) / b = q * 2 + (if b ≤ V then 1 else 0) ∧ (b * (2 * q) + V) % b = if b ≤ V then V - b else V := by
  have hb : 0 < b := by omega
  rw [Nat.mul_add_div hb, Nat.mul_add_mod]
  by_cases h : b ≤ V
  · rw [if_pos h, if_pos h]
    have e : V / b = 1 := by apply Nat.div_eq_of_lt_le <;> omega
    have e2 := Nat.div_add_mod V b
    rw [e] at e2
    rw [e]
    constructor <;> omega
  · rw [if_neg h, if_neg h, Nat.div_eq_of_lt (by omega), Nat.mod_eq_of_lt (by omega)]
    constructor <;> omega
/-- One bit more. -/
theorem div_bit (M b bit : Nat) (hb : 0 < b) (hbit : bit ≤ 1) : (M * 2 + bit) / b = (M / b) * 2 + stB (M % b) b bit ∧ (M * 2 + bit) % b = stR (M % b) b bit := by
  have h := Nat.div_add_mod M b
  have hr := Nat.mod_lt M hb
  have e : M * 2 + bit = b * (2 * (M / b)) + (M % b * 2 + bit) := by
    have : b * (2 * (M / b)) = 2 * (b * (M / b)) := by rw [Nat.mul_left_comm]
    omega
  unfold stB stR
  rw [e]
  exact two_way b (M / b) (M % b * 2 + bit) (by omega)
theorem shift_bit (N p : Nat) : N / 2 ^ p = N / 2 ^ (p + 1) * 2 + N / 2 ^ p % 2 := by
  rw [Nat.pow_succ, ← Nat.div_div_eq_div_mul]
  omega
/-- The step from place p + 1 to place p. -/
theorem step_div (N b p : Nat) (hb : 0 < b) : N / 2 ^ p / b = (N / 2 ^ (p + 1) / b) * 2 + stB (N / 2 ^ (p + 1) % b) b (N / 2 ^ p % 2) ∧ N / 2 ^ p % b = stR (N / 2 ^ (p + 1) % b) b (N / 2 ^ p % 2) := by
  have h := div_bit (N / 2 ^ (p + 1)) b (N / 2 ^ p % 2) hb (by omega)
  rw [← shift_bit] at h
  exact h
end Go.Proofs.Ythdapmceafnhgaa
