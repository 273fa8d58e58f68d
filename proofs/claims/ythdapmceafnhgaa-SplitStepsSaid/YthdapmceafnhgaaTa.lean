/- split: numbers limb by limb, in plain numbers: what a whole product needs. -/
import Derived.Test.YthdapmceafnhgaaWmath
namespace Go.Proofs.Ythdapmceafnhgaa

/-- A number of limbs. -/
def valL (f : Nat → Nat) : Nat → Nat
  | 0 => 0
  | n + 1 => valL f n + f n * B64 ^ n
def updN (f : Nat → Nat) (k v : Nat) : Nat → Nat := fun i => if i = k then v else f i
theorem updN_same (f : Nat → Nat) (k v : Nat) : updN f k v k = v := if_pos rfl
theorem updN_ne (f : Nat → Nat) {i k : Nat} (v : Nat) (h : i ≠ k) : updN f k v i = f i := if_neg h
theorem updN_lt {f : Nat → Nat} {k v n : Nat} (hf : ∀ i, i < n → f i < B64) (hv : v < B64) : ∀ i, i < n → updN f k v i < B64 := fun i hi => by
  unfold updN; split
  · exact hv
  · exact hf i hi
theorem valL_upd_ge (f : Nat → Nat) (k v : Nat) : ∀ n, n ≤ k → valL (updN f k v) n = valL f n
  | 0, _ => rfl
  | n + 1, h => by
    unfold valL
    rw [valL_upd_ge f k v n (by omega), updN_ne f v (by omega)]
theorem valL_upd (f : Nat → Nat) (k v : Nat) : ∀ n, k < n → valL (updN f k v) n + f k * B64 ^ k = valL f n + v * B64 ^ k
  | 0, h => by omega
  | n + 1, h => by
    unfold valL
    by_cases e : k = n
    · subst e
      rw [valL_upd_ge f k v k (Nat.le_refl _), updN_same]; omega
    · have := valL_upd f k v n (by omega)
      rw [updN_ne f v (fun e' => e e'.symm)]; omega
theorem valL_lt (f : Nat → Nat) : ∀ n, (∀ i, i < n → f i < B64) → valL f n < B64 ^ n
  | 0, _ => by simp [valL]
  | n + 1, h => by
    have h1 := valL_lt f n (fun i hi => h i (by omega))
    have h2 := h n (by omega)
    unfold valL
    have h3 : (f n + 1) * B64 ^ n ≤ B64 * B64 ^ n := Nat.mul_le_mul_right _ h2
    rw [Nat.add_mul, Nat.one_mul] at h3
    rw [Nat.pow_succ, Nat.mul_comm _ B64]; omega
theorem valL_limb (f : Nat → Nat) : ∀ n, (∀ i, i < n → f i < B64) → ∀ k, k < n → valL f n / B64 ^ k % B64 = f k
  | 0, _, k, hk => by omega
  | n + 1, h, k, hk => by
    have h1 := valL_lt f n (fun i hi => h i (by omega))
    unfold valL
    by_cases e : k = n
    · subst e
      rw [Nat.add_mul_div_right _ _ (pow_pos' k), Nat.div_eq_of_lt h1, Nat.zero_add, Nat.mod_eq_of_lt (h k (by omega))]
    · have h2 := valL_limb f n (fun i hi => h i (by omega)) k (by omega)
      have e2 : f n * B64 ^ n = f n * B64 ^ (n - k - 1) * B64 * B64 ^ k := by
        rw [Nat.mul_assoc, Nat.mul_assoc, ← Nat.pow_succ', ← Nat.pow_add]; congr 2; omega
      rw [e2, Nat.add_mul_div_right _ _ (pow_pos' k), Nat.add_mul_mod_self_right]
      exact h2
theorem valL_zero : ∀ n, valL (fun _ => 0) n = 0
  | 0 => rfl
  | n + 1 => by unfold valL; rw [valL_zero n]; omega

/-- What is added in a step, its halves. -/
theorem limb_step (x over p q : Nat) (hx : x < B64) (ho : over < B64) (hp : p < B64) (hq : q < B64) :
    (x + (p * q % B64 + over) % B64) % B64 + (p * q / B64 + (p * q % B64 + over) / B64 + (x + (p * q % B64 + over) % B64) / B64) * B64 = x + over + p * q
    ∧ p * q / B64 + (p * q % B64 + over) / B64 + (x + (p * q % B64 + over) % B64) / B64 < B64 := by
  have e : (x + (p * q % B64 + over) % B64) % B64 + (p * q / B64 + (p * q % B64 + over) / B64 + (x + (p * q % B64 + over) % B64) / B64) * B64 = x + over + p * q := by
    have h1 := Nat.div_add_mod (p * q) B64
    have h2 := Nat.div_add_mod (p * q % B64 + over) B64
    have h3 := Nat.div_add_mod (x + (p * q % B64 + over) % B64) B64
    rw [Nat.add_mul, Nat.add_mul, Nat.mul_comm (p * q / B64), Nat.mul_comm ((p * q % B64 + over) / B64), Nat.mul_comm ((x + (p * q % B64 + over) % B64) / B64)]
    omega
  refine ⟨e, ?_⟩
  have h4 : p * q ≤ (B64 - 1) * (B64 - 1) := Nat.mul_le_mul (by omega) (by omega)
  have h5 : x + over + p * q < B64 * B64 := by unfold B64 at *; omega
  have h6 : (p * q / B64 + (p * q % B64 + over) / B64 + (x + (p * q % B64 + over) % B64) / B64) * B64 < B64 * B64 := by omega
  exact Nat.lt_of_mul_lt_mul_right h6

/-- The product under way: i rows are done, and j places of row i. -/
structure PRow (a b i j over : Nat) (f : Nat → Nat) : Prop where
  lt : ∀ k, k < 8 → f k < B64
  far : ∀ k, i + 4 ≤ k → f k = 0
  olt : over < B64
  sum : valL f 8 + over * B64 ^ (i + j) = (a % B64 ^ i) * b + (a / B64 ^ i % B64) * (b % B64 ^ j) * B64 ^ i
theorem PRow.start (a b : Nat) : PRow a b 0 0 0 (fun _ => 0) :=
  ⟨fun _ _ => B64_pos, fun _ _ => rfl, B64_pos, by rw [valL_zero]; simp [Nat.mod_one]⟩
theorem PRow.step {a b i j over : Nat} {f : Nat → Nat} (h : PRow a b i j over f) (hi : i < 4) (hj : j < 4) :
    PRow a b i (j + 1) ((a / B64 ^ i % B64) * (b / B64 ^ j % B64) / B64 + ((a / B64 ^ i % B64) * (b / B64 ^ j % B64) % B64 + over) / B64 + (f (i + j) + ((a / B64 ^ i % B64) * (b / B64 ^ j % B64) % B64 + over) % B64) / B64)
      (updN f (i + j) ((f (i + j) + ((a / B64 ^ i % B64) * (b / B64 ^ j % B64) % B64 + over) % B64) % B64)) := by
  obtain ⟨e, hlt⟩ := limb_step (f (i + j)) over (a / B64 ^ i % B64) (b / B64 ^ j % B64) (h.lt _ (by omega)) h.olt (Nat.mod_lt _ B64_pos) (Nat.mod_lt _ B64_pos)
  have hs := h.sum
  have hu := valL_upd f (i + j) ((f (i + j) + ((a / B64 ^ i % B64) * (b / B64 ^ j % B64) % B64 + over) % B64) % B64) 8 (by omega)
  refine ⟨updN_lt h.lt (Nat.mod_lt _ B64_pos), fun k hk => by rw [updN_ne f _ (by omega)]; exact h.far k hk, hlt, ?_⟩
  have hm := mod_succ' b j
  rw [hm]
  generalize a / B64 ^ i % B64 = p at *
  generalize b / B64 ^ j % B64 = q at *
  generalize hH : (f (i + j) + (p * q % B64 + over) % B64) % B64 = here at *
  generalize hO : p * q / B64 + (p * q % B64 + over) / B64 + (f (i + j) + (p * q % B64 + over) % B64) / B64 = over' at *
  have e1 : over' * B64 ^ (i + (j + 1)) = over' * B64 * B64 ^ (i + j) := by rw [← Nat.add_assoc, Nat.pow_succ, Nat.mul_comm _ B64, ← Nat.mul_assoc]
  have e2 : (here + over' * B64) * B64 ^ (i + j) = (f (i + j) + over + p * q) * B64 ^ (i + j) := by rw [e]
  have e3 : p * (b % B64 ^ j + B64 ^ j * q) * B64 ^ i = p * (b % B64 ^ j) * B64 ^ i + p * q * B64 ^ (i + j) := by
    rw [Nat.mul_add, Nat.add_mul, Nat.pow_add]; congr 1
    rw [Nat.mul_comm (B64 ^ j) q, ← Nat.mul_assoc, Nat.mul_assoc (p * q), Nat.mul_comm (B64 ^ j)]
  rw [Nat.add_mul, Nat.add_mul, Nat.add_mul] at e2
  rw [e1, e3]
  omega
theorem PRow.row {a b i over : Nat} {f : Nat → Nat} (h : PRow a b i 4 over f) (hi : i < 4) (hb : b < MM) : PRow a b (i + 1) 0 0 (updN f (i + 4) over) := by
  have hs := h.sum
  have hu := valL_upd f (i + 4) over 8 (by omega)
  rw [h.far (i + 4) (by omega), Nat.zero_mul, Nat.add_zero] at hu
  refine ⟨updN_lt h.lt h.olt, fun k hk => by rw [updN_ne f _ (by omega)]; exact h.far k (by omega), B64_pos, ?_⟩
  have e4 : b % B64 ^ 4 = b := Nat.mod_eq_of_lt hb
  rw [e4] at hs
  rw [hu, Nat.zero_mul, Nat.add_zero, Nat.pow_zero, Nat.mod_one, Nat.mul_zero, Nat.zero_mul, Nat.add_zero, hs, mod_succ' a i, Nat.add_mul]
  rw [Nat.mul_comm (B64 ^ i), Nat.mul_right_comm, Nat.add_zero]
theorem PRow.done {a b : Nat} {f : Nat → Nat} (h : PRow a b 4 0 0 f) (ha : a < MM) : ∀ k, k < 8 → f k = a * b / B64 ^ k % B64 := fun k hk => by
  have hs := h.sum
  have e4 : a % B64 ^ 4 = a := Nat.mod_eq_of_lt ha
  rw [Nat.zero_mul, Nat.add_zero, Nat.pow_zero, Nat.mod_one, Nat.mul_zero, Nat.zero_mul, Nat.add_zero, e4] at hs
  rw [← hs, valL_limb f 8 h.lt k hk]
end Go.Proofs.Ythdapmceafnhgaa
