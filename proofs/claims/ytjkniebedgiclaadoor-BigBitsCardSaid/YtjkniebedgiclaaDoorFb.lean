/- big: numbers by digits of 64 bits, in plain numbers: what a row of digits is worth, sums with products, what is left by a modulus. No program. -/
import Derived.Test.YtjkniebedgiclaaDoorSa
namespace Go.Proofs.YtjkniebedgiclaaDoor

/-- What n digits are worth, the lowest first. -/
def dv (f : Nat → Nat) : Nat → Nat
  | 0 => 0
  | n + 1 => dv f n + f n * B64 ^ n
theorem dv_congr {f g : Nat → Nat} : ∀ n, (∀ i, i < n → f i = g i) → dv f n = dv g n
  | 0, _ => rfl
  | n + 1, h => by rw [dv, dv, dv_congr n fun i hi => h i (by omega), h n (by omega)]
theorem dv_lt {f : Nat → Nat} : ∀ n, (∀ i, i < n → f i < B64) → dv f n < B64 ^ n
  | 0, _ => by rw [dv, Nat.pow_zero]; omega
  | n + 1, h => by
    have ih := dv_lt n fun i hi => h i (by omega)
    have h1 : f n + 1 ≤ B64 := h n (by omega)
    have h2 : (f n + 1) * B64 ^ n ≤ B64 * B64 ^ n := Nat.mul_le_mul_right _ h1
    rw [dv, Nat.pow_succ, Nat.mul_comm (B64 ^ n) B64]
    rw [Nat.add_mul, Nat.one_mul] at h2
    omega
theorem dv_add (f : Nat → Nat) (m : Nat) : ∀ n, dv f (m + n) = dv f m + B64 ^ m * dv (fun i => f (m + i)) n
  | 0 => by rw [Nat.add_zero, dv, Nat.mul_zero, Nat.add_zero]
  | n + 1 => by
    rw [← Nat.add_assoc, dv, dv_add f m n, dv, Nat.pow_add, Nat.mul_add, Nat.add_assoc]
    congr 2
    rw [Nat.mul_comm, Nat.mul_assoc, Nat.mul_comm (B64 ^ n)]
theorem dv_zero {f : Nat → Nat} : ∀ n, (∀ i, i < n → f i = 0) → dv f n = 0
  | 0, _ => rfl
  | n + 1, h => by rw [dv, dv_zero n fun i hi => h i (by omega), h n (by omega), Nat.zero_mul]
theorem dv_one (f : Nat → Nat) : dv f 1 = f 0 := by rw [dv, dv, Nat.pow_zero]; omega
theorem dv_low (f : Nat → Nat) (n : Nat) : dv f (n + 1) = f 0 + B64 * dv (fun i => f (i + 1)) n := by
  have h := dv_add f 1 n
  rw [Nat.add_comm 1 n, dv_one, Nat.pow_one] at h
  rw [h]
  congr 2
  exact dv_congr n fun i _ => congrArg f (Nat.add_comm 1 i)
theorem dv_extend {f : Nat → Nat} (m n : Nat) (h : m ≤ n) (h0 : ∀ i, m ≤ i → i < n → f i = 0) : dv f n = dv f m := by
  obtain ⟨k, rfl⟩ := Nat.exists_eq_add_of_le h
  rw [dv_add, dv_zero k fun i hi => h0 (m + i) (by omega) (by omega), Nat.mul_zero, Nat.add_zero]
theorem dv_ge {f : Nat → Nat} (n i : Nat) (h : i < n) : f i * B64 ^ i ≤ dv f n := by
  induction n with
  | zero => omega
  | succ n ih =>
    rw [dv]
    by_cases e : i = n
    · subst e; omega
    · have := ih (by omega); omega
/-- The digits of a number. -/
def dg (v i : Nat) : Nat := v / B64 ^ i % B64
theorem dg_lt (v i : Nat) : dg v i < B64 := Nat.mod_lt _ B64_pos
theorem dv_dg (v : Nat) : ∀ n, dv (dg v) n = v % B64 ^ n
  | 0 => by rw [dv, Nat.pow_zero, Nat.mod_one]
  | n + 1 => by
    rw [dv, dv_dg v n, dg, Nat.pow_succ, Nat.mod_mul, Nat.mul_comm (B64 ^ n)]
theorem dv_uniq {f g : Nat → Nat} : ∀ n, (∀ i, i < n → f i < B64) → (∀ i, i < n → g i < B64) → dv f n = dv g n → ∀ i, i < n → f i = g i
  | 0, _, _, _ => fun i hi => by omega
  | n + 1, hf, hg, h => by
    have l1 := dv_lt n fun i hi => hf i (by omega)
    have l2 := dv_lt n fun i hi => hg i (by omega)
    rw [dv, dv] at h
    have hm : dv f n = dv g n := by
      have := congrArg (· % B64 ^ n) h
      simp only [Nat.add_mul_mod_self_right] at this
      rwa [Nat.mod_eq_of_lt l1, Nat.mod_eq_of_lt l2] at this
    have hp : 0 < B64 ^ n := Nat.pow_pos B64_pos
    have hn : f n = g n := by
      rw [hm] at h
      exact Nat.eq_of_mul_eq_mul_right hp (by omega)
    intro i hi
    by_cases e : i = n
    · subst e; exact hn
    · exact dv_uniq n (fun i hi => hf i (by omega)) (fun i hi => hg i (by omega)) hm i (by omega)
/-- Digits whose worth is known are that number's digits. -/
theorem dg_of {f : Nat → Nat} {n v : Nat} (hf : ∀ i, i < n → f i < B64) (h : dv f n = v % B64 ^ n) (i : Nat) (hi : i < n) : f i = dg v i :=
  dv_uniq n hf (fun i _ => dg_lt v i) (by rw [dv_dg, h]) i hi
theorem dv_mod {f : Nat → Nat} (m n : Nat) (h : m ≤ n) (hf : ∀ i, i < n → f i < B64) : dv f n % B64 ^ m = dv f m := by
  obtain ⟨k, rfl⟩ := Nat.exists_eq_add_of_le h
  rw [dv_add, Nat.add_mul_mod_self_left, Nat.mod_eq_of_lt (dv_lt m fun i hi => hf i (by omega))]
theorem dv_div {f : Nat → Nat} (m k : Nat) (hf : ∀ i, i < m → f i < B64) : dv f (m + k) / B64 ^ m = dv (fun i => f (m + i)) k := by
  rw [dv_add, Nat.add_mul_div_left _ _ (Nat.pow_pos B64_pos), Nat.div_eq_of_lt (dv_lt m hf), Nat.zero_add]

/-- One digit of a sum with a product: what is kept and what is carried. -/
theorem add_step (x g t c : Nat) (hx : x < B64) (hg : g < B64) (ht : t < B64) (hc : c < B64) :
    ((g * t % B64 + c) % B64 + x) % B64 = (x + g * t + c) % B64 ∧
    g * t / B64 + (g * t % B64 + c) / B64 + ((g * t % B64 + c) % B64 + x) / B64 = (x + g * t + c) / B64 ∧ (x + g * t + c) / B64 < B64 ∧
    g * t / B64 + (g * t % B64 + c) / B64 < B64 := by
  have hp : g * t ≤ (B64 - 1) * (B64 - 1) := Nat.mul_le_mul (by omega) (by omega)
  have hb : (B64 - 1) * (B64 - 1) = 340282366920938463426481119284349108225 := by unfold B64; rfl
  rw [hb] at hp
  generalize g * t = p at *
  unfold B64 at *
  omega
/-- The sum so far: n digits of a row f with t times a row g on them. -/
def cyr (f g : Nat → Nat) (t n : Nat) : Nat := (dv f n + t * dv g n) / B64 ^ n
theorem cyr_zero (f g : Nat → Nat) (t : Nat) : cyr f g t 0 = 0 := by unfold cyr; rw [dv, dv, Nat.mul_zero, Nat.add_zero, Nat.zero_div]
theorem cyr_succ (f g : Nat → Nat) (t n : Nat) : cyr f g t (n + 1) = (f n + g n * t + cyr f g t n) / B64 := by
  unfold cyr
  rw [dv, dv, Nat.pow_succ, ← Nat.div_div_eq_div_mul]
  congr 1
  rw [show dv f n + f n * B64 ^ n + t * (dv g n + g n * B64 ^ n) = dv f n + t * dv g n + B64 ^ n * (f n + g n * t) by grind, Nat.add_mul_div_left _ _ (Nat.pow_pos B64_pos)]
  omega
theorem cyr_dg (f g : Nat → Nat) (t n N : Nat) (hn : n < N) (hf : ∀ i, i < N → f i < B64) (hg : ∀ i, i < N → g i < B64) :
    dg (dv f N + t * dv g N) n = (f n + g n * t + cyr f g t n) % B64 := by
  obtain ⟨k, rfl⟩ := Nat.exists_eq_add_of_le (show n + 1 ≤ N from hn)
  unfold dg cyr
  rw [dv_add f (n + 1) k, dv_add g (n + 1) k, Nat.mul_add, show dv f (n + 1) + B64 ^ (n + 1) * dv (fun i => f (n + 1 + i)) k + (t * dv g (n + 1) + t * (B64 ^ (n + 1) * dv (fun i => g (n + 1 + i)) k)) = (dv f n + t * dv g n) + B64 ^ n * ((f n + g n * t) + B64 * (dv (fun i => f (n + 1 + i)) k + t * dv (fun i => g (n + 1 + i)) k)) by
    rw [dv, dv, Nat.pow_succ]; grind]
  rw [Nat.add_mul_div_left _ _ (Nat.pow_pos B64_pos)]
  rw [show (dv f n + t * dv g n) / B64 ^ n + (f n + g n * t + B64 * (dv (fun i => f (n + 1 + i)) k + t * dv (fun i => g (n + 1 + i)) k)) = f n + g n * t + (dv f n + t * dv g n) / B64 ^ n + B64 * (dv (fun i => f (n + 1 + i)) k + t * dv (fun i => g (n + 1 + i)) k) by omega]
  rw [Nat.add_mul_mod_self_left]
theorem cyr_lt (f g : Nat → Nat) (t n : Nat) (ht : t < B64) (hf : ∀ i, i < n → f i < B64) (hg : ∀ i, i < n → g i < B64) : cyr f g t n < B64 := by
  induction n with
  | zero => rw [cyr_zero]; exact B64_pos
  | succ n ih =>
    have := ih (fun i hi => hf i (by omega)) (fun i hi => hg i (by omega))
    rw [cyr_succ]
    exact (add_step (f n) (g n) t _ (hf n (by omega)) (hg n (by omega)) ht this).2.2.1
end Go.Proofs.YtjkniebedgiclaaDoor
