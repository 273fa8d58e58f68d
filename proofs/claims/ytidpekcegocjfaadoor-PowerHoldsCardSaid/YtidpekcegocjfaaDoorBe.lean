/- bits: small words as numbers (below, the reference's by); what fills, the number at a place. -/
import Derived.Test.YtidpekcegocjfaaDoorBd
namespace Go.Proofs.YtidpekcegocjfaaDoor
open Go.RowKit
attribute [local go_sem] ix0 ix1 ix2 ix3
theorem smB_iff (a : Nat) (ha : a < MM) : smB a = decide (a < B64) := by
  have e := vl_lb a ha
  by_cases h : a < B64
  · have h1 : lb a 1 = 0 := by unfold lb; rw [Nat.div_eq_of_lt (by rw [Nat.pow_one]; exact h)]; rfl
    have h2 : lb a 2 = 0 := by unfold lb; rw [Nat.div_eq_of_lt (by unfold B64 at *; omega)]; rfl
    have h3 : lb a 3 = 0 := by unfold lb; rw [Nat.div_eq_of_lt (by unfold B64 at *; omega)]; rfl
    rw [smB_true h1 h2 h3]; simp [h]
  · have : smB a = false := by
      cases hs : smB a with
      | false => rfl
      | true =>
        exfalso
        unfold smB at hs
        simp only [Bool.and_eq_true, beq_iff_eq] at hs
        obtain ⟨⟨h1, h2⟩, h3⟩ := hs
        unfold lb at h1 h2 h3
        have h1 := Int.ofNat.inj h1
        have h2 := Int.ofNat.inj h2
        have h3 := Int.ofNat.inj h3
        rw [h1, h2, h3] at e
        unfold vl at e
        simp only [Nat.mul_zero, Nat.add_zero] at e
        have := Nat.mod_lt (a / B64 ^ 0) B64_pos
        omega
    rw [this]; simp [h]
theorem smV_lt (a : Nat) (h : a < B64) (ha : a < MM) : smV a = a := by
  unfold smV; rw [smB_iff a ha]; simp only [h, decide_true, if_true]; rw [lb_low0, Nat.mod_eq_of_lt h]

/-- By how many places; 256 at most. -/
def byN (a : Nat) : Nat := if a ≤ 256 then a else 256
/-- What signs fills with. -/
def sgI (b : Bool) : Int := if b then 18446744073709551615 else 0
/-- The number at a place; beyond them what fills. -/
def numI (a : Nat) (fl : Int) (p : Int) : Int := if 0 ≤ p ∧ p < 4 then lb a p.toNat else fl
/-- A draft: its parts, and what fills. -/
abbrev Dv (a : Nat) (F : Value) : Value := .agg #[.int .u64 (lb a 0), .int .u64 (lb a 1), .int .u64 (lb a 2), .int .u64 (lb a 3), F]
abbrev Df (a : Nat) (F : Value) : Array Value := #[.int .u64 (lb a 0), .int .u64 (lb a 1), .int .u64 (lb a 2), .int .u64 (lb a 3), F]
/-- A method of a word's parts, handed over as a value, tells x. -/
def Fills (F : Value) (x : Int) : Prop := ∃ G v, F = .func (.func G) #[v] #[] ∧ (∀ args w, (callFunc G args).run Tryd.prog w = .ok (.enter G args) w) ∧ ∀ w, Calls Tryd.prog G #[v] w fun e w' => e = .returned (.int .u64 x) ∧ Below w.heap.size w w'
end Go.Proofs.YtidpekcegocjfaaDoor
