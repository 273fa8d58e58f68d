/- bits: the highest of the bits that are 1, and how many places a word needs. -/
import Derived.Test.YthjbiojbmjgkbaaDoorDe
namespace Go.Proofs.YthjbiojbmjgkbaaDoor

theorem eb_last_to (a : Nat) (ha : a < MM) : ∀ t, t ≤ 256 → (∀ j, t ≤ j → a.testBit j = false) →
    (eb a t = [] ∧ lenN a = 0) ∨ ∃ l m, eb a t = l ++ [m] ∧ lenN a = m + 1 := by
  intro t
  induction t with
  | zero =>
    intro _ h
    have h0 : a = 0 := Nat.eq_of_testBit_eq fun j => by rw [h j (by omega), Nat.zero_testBit]
    exact .inl ⟨eb_zero a, len_of a 0 ha (by omega) (.inl ⟨h0, rfl⟩) (by omega)⟩
  | succ t ih =>
    intro ht h
    cases hb : a.testBit t with
    | true =>
      have h1 : a < 2 ^ (t + 1) := Nat.lt_pow_two_of_testBit a fun j hj => h j hj
      have h2 : 2 ^ t ≤ a := Nat.ge_two_pow_of_testBit hb
      have h3 : 2 ^ (t + 1) = 2 ^ t * 2 := Nat.pow_succ 2 t
      exact .inr ⟨eb a t, t, eb_hit a t hb, len_of a (t + 1) ha h1 (.inr (by omega)) ht⟩
    | false =>
      rw [eb_miss a t hb]
      exact ih (by omega) fun j hj => by
        by_cases e : j = t
        · rw [e, hb]
        · exact h j (by omega)
theorem eb_last (a : Nat) (ha : a < MM) : (eb a 256 = [] ∧ lenN a = 0) ∨ ∃ l m, eb a 256 = l ++ [m] ∧ lenN a = m + 1 :=
  eb_last_to a ha 256 (by omega) fun j hj => bit_high a ha j hj
/-- A bit that is 1 stands where the bits below it are counted. -/
theorem eb_pre (a s : Nat) : ∀ d, ∃ r, eb a (s + d) = eb a s ++ r
  | 0 => ⟨[], by simp⟩
  | d + 1 => by
    obtain ⟨r, hr⟩ := eb_pre a s d
    exact ⟨r ++ (if a.testBit (s + d) then [s + d] else []), by rw [show s + (d + 1) = s + d + 1 by omega, eb_succ, hr, List.append_assoc]⟩
theorem eb_get (a x : Nat) (hx : x < 256) (h : a.testBit x = true) : (eb a 256)[(eb a x).length]? = some x ∧ (eb a x).length + 1 ≤ (eb a 256).length := by
  obtain ⟨r, hr⟩ := eb_pre a (x + 1) (256 - (x + 1))
  rw [show x + 1 + (256 - (x + 1)) = 256 by omega, eb_hit a x h] at hr
  rw [hr]
  exact ⟨by simp, by simp⟩
/-- How far a walk goes that is left behind n bits, or behind the first. -/
theorem many_done (N : Nat) (n : Int) (h : N = 0 ∨ (N : Int) < n) : min (N : Int) (max 1 n) = N := by omega
theorem many_left (N k : Nat) (n : Int) (h1 : 1 ≤ k) (h2 : k ≤ N) (h3 : n ≤ k) (h4 : k = 1 ∨ (k : Int) - 1 < n) : min (N : Int) (max 1 n) = k := by omega
end Go.Proofs.YthjbiojbmjgkbaaDoor
