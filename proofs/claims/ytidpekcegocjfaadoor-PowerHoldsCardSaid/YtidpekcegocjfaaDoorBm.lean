/- bits: which bits are 1, in plain numbers. No program. -/
import Derived.Test.YtidpekcegocjfaaDoorBa
import Derived.Lib.TrailingZeros
namespace Go.Proofs.YtidpekcegocjfaaDoor

/-- The bits below t that are 1, rising. -/
def eb (a t : Nat) : List Nat := (List.range t).filter fun j => a.testBit j
theorem eb_zero (a : Nat) : eb a 0 = [] := rfl
theorem eb_succ (a t : Nat) : eb a (t + 1) = eb a t ++ if a.testBit t then [t] else [] := by
  unfold eb
  rw [List.range_succ, List.filter_append]
  congr 1
  cases h : a.testBit t <;> simp [h]
theorem eb_hit (a t : Nat) (h : a.testBit t = true) : eb a (t + 1) = eb a t ++ [t] := by rw [eb_succ, if_pos h]
theorem eb_skip (a s : Nat) : ∀ d, (∀ j, s ≤ j → j < s + d → a.testBit j = false) → eb a (s + d) = eb a s
  | 0, _ => rfl
  | d + 1, h => by
    rw [← Nat.add_assoc, eb_succ, h (s + d) (by omega) (by omega)]
    simp only [Bool.false_eq_true, if_false, List.append_nil]
    exact eb_skip a s d (fun j h1 h2 => h j h1 (by omega))
theorem eb_mem (a t j : Nat) : j ∈ eb a t ↔ j < t ∧ a.testBit j = true := by unfold eb; simp
theorem eb_len (a t : Nat) : (eb a t).length ≤ t := by
  have := List.length_filter_le (fun j => a.testBit j) (List.range t)
  unfold eb; rw [List.length_range] at this; exact this
theorem eb_snoc_inj {a x y : Nat} (h : eb a x ++ [x] = eb a y ++ [y]) : x = y := by
  have := congrArg (fun l => l.getLast?) h
  simpa using this

theorem bit_up (L s j : Nat) : (L / 2 ^ s * 2 ^ s).testBit j = (decide (s ≤ j) && L.testBit j) := by
  rw [Nat.testBit_mul_two_pow, Nat.testBit_div_two_pow]
  by_cases h : s ≤ j
  · simp [h]
  · simp [h]
/-- The lowest bit of what is left, and what is left without it. -/
theorem tz_state (L s : Nat) (hL : L < 2 ^ 64) (h0 : L / 2 ^ s * 2 ^ s ≠ 0) :
    ∃ c, Lib.ctz 64 (L / 2 ^ s * 2 ^ s) = c ∧ s ≤ c ∧ c < 64 ∧ L.testBit c = true ∧ (∀ j, s ≤ j → j < c → L.testBit j = false) ∧ (L / 2 ^ s * 2 ^ s) &&& (L / 2 ^ s * 2 ^ s - 1) = L / 2 ^ (c + 1) * 2 ^ (c + 1) := by
  have hb := bit_up L s
  have hlt : L / 2 ^ s * 2 ^ s < 2 ^ 64 := Nat.lt_of_le_of_lt (Nat.div_mul_le_self _ _) hL
  generalize L / 2 ^ s * 2 ^ s = p at *
  obtain ⟨m, hm, hc⟩ := Lib.ctzFrom_spec 64 p (by omega) hlt
  refine ⟨Lib.ctzFrom 64 p, by unfold Lib.ctz; rw [if_neg h0], ?_⟩
  generalize Lib.ctzFrom 64 p = c at *
  have e1 : p = 2 ^ (c + 1) * m + 2 ^ c := by rw [hm, Nat.pow_succ, Nat.mul_add, Nat.mul_assoc]; omega
  have e2 : p - 1 = 2 ^ (c + 1) * m + (2 ^ c - 1) := by have := Nat.two_pow_pos c; omega
  have l1 : 2 ^ c < 2 ^ (c + 1) := Nat.pow_lt_pow_right (by omega) (by omega)
  have b1 : ∀ j, p.testBit j = if j < c + 1 then decide (c = j) else m.testBit (j - (c + 1)) := fun j => by
    rw [e1, Nat.testBit_two_pow_mul_add _ l1, Nat.testBit_two_pow]
  have b2 : ∀ j, (p - 1).testBit j = if j < c + 1 then decide (j < c) else m.testBit (j - (c + 1)) := fun j => by
    rw [e2, Nat.testBit_two_pow_mul_add _ (by omega), Nat.testBit_two_pow_sub_one]
  have hcc : p.testBit c = true := by rw [b1, if_pos (by omega)]; simp
  have hsc : s ≤ c ∧ L.testBit c = true := by rw [hb] at hcc; simpa using hcc
  refine ⟨hsc.1, hc, hsc.2, fun j h1 h2 => ?_, ?_⟩
  · have h3 : p.testBit j = false := by rw [b1, if_pos (by omega)]; simp; omega
    rw [hb] at h3; simpa [h1] using h3
  · apply Nat.eq_of_testBit_eq; intro j
    rw [Nat.testBit_and, bit_up]
    by_cases h : j < c + 1
    · have h2 : ¬ c + 1 ≤ j := by omega
      rw [b1, b2, if_pos h, if_pos h]
      simp only [h2, decide_false, Bool.false_and]
      by_cases h3 : c = j
      · subst h3; simp
      · simp [h3]
    · have h2 : c + 1 ≤ j := by omega
      have h3 : p.testBit j = (p - 1).testBit j := by rw [b1, b2, if_neg h, if_neg h]
      rw [← h3, Bool.and_self, hb]
      have h4 : s ≤ j := by omega
      simp [h2, h4]
/-- Nothing is left: no bit is 1 from s on. -/
theorem tz_end (L s : Nat) (h0 : L / 2 ^ s * 2 ^ s = 0) (j : Nat) (hj : s ≤ j) : L.testBit j = false := by
  have hb := bit_up L s j
  rw [h0] at hb
  simpa [hj] using hb.symm

/-- How many bits there are up to the highest that is 1. -/
def lenN (a : Nat) : Nat := match (eb a 256).getLast? with
  | none => 0
  | some i => i + 1
theorem len_of (a l : Nat) (ha : a < MM) (h1 : a < 2 ^ l) (h2 : a = 0 ∧ l = 0 ∨ 2 ^ l ≤ 2 * a) (hl : l ≤ 256) : lenN a = l := by
  rcases h2 with ⟨h, rfl⟩ | h
  · subst h
    have : eb 0 256 = [] := by unfold eb; simp
    unfold lenN; rw [this]; rfl
  · obtain ⟨k, rfl⟩ : ∃ k, l = k + 1 := by
      cases l with
      | zero => simp at h1; subst h1; simp at h
      | succ k => exact ⟨k, rfl⟩
    have hk : 2 ^ k ≤ a := by rw [Nat.pow_succ] at h; omega
    have hb : a.testBit k = true := by
      rw [Nat.testBit_eq_decide_div_mod_eq]
      have : a / 2 ^ k = 1 := by
        refine Nat.div_eq_of_lt_le (by omega) ?_
        rw [Nat.pow_succ] at h1; omega
      rw [this]; rfl
    have e : eb a 256 = eb a k ++ [k] := by
      rw [← eb_hit a k hb, show 256 = (k + 1) + (256 - (k + 1)) by omega]
      exact eb_skip a (k + 1) _ (fun j h3 _ => Nat.testBit_lt_two_pow (Nat.lt_of_lt_of_le h1 (Nat.pow_le_pow_right (by omega) h3)))
    unfold lenN; rw [e]; simp
end Go.Proofs.YtidpekcegocjfaaDoor
