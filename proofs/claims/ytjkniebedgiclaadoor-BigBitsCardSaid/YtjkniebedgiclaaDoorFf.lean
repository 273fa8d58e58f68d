/- big: a trial digit is not too small; what becomes of digits from which a modulus is taken too often. Plain numbers. No program. -/
import Derived.Test.YtjkniebedgiclaaDoorFb
namespace Go.Proofs.YtjkniebedgiclaaDoor

theorem guess_ge (D F : Nat → Nat) (n : Nat) (hD : ∀ i, i < n → D i < B64) (h0 : 0 < F n) (M : Nat) (hM : dv F (n + 1) = M) : dv D (n + 1 + 1) / M ≤ (D (n + 1) * B64 + D n) / F n := by
  have hp : 0 < B64 ^ n := Nat.pow_pos B64_pos
  have h1 : F n * B64 ^ n ≤ M := by rw [← hM, dv]; omega
  have h2 : dv D (n + 1 + 1) / M ≤ dv D (n + 1 + 1) / (F n * B64 ^ n) := Nat.div_le_div_left h1 (Nat.mul_pos h0 hp)
  have h3 : dv D (n + 1 + 1) / (F n * B64 ^ n) = dv D (n + 1 + 1) / B64 ^ n / F n := by rw [Nat.mul_comm, Nat.div_div_eq_div_mul]
  have h4 : dv D (n + 1 + 1) / B64 ^ n = D (n + 1) * B64 + D n := by
    rw [dv, dv, Nat.pow_succ, show dv D n + D n * B64 ^ n + D (n + 1) * (B64 ^ n * B64) = dv D n + B64 ^ n * (D (n + 1) * B64 + D n) by grind, Nat.add_mul_div_left _ _ hp, Nat.div_eq_of_lt (dv_lt n hD), Nat.zero_add]
  rw [h3, h4] at h2
  exact h2
theorem top_lt (D : Nat → Nat) (n M : Nat) (h0 : D 0 < B64) (h : dv (fun i => D (i + 1)) n < M) : dv D (n + 1) < B64 * M := by
  rw [dv_low]
  have : B64 * (dv (fun i => D (i + 1)) n + 1) ≤ B64 * M := Nat.mul_le_mul_left _ h
  rw [Nat.mul_add] at this
  omega
/-- V stands for R less k times M; what it lacks of it is z on top. -/
def Owe (P V k M R z : Nat) : Prop := V < P ∧ V + k * M = R + z * P
theorem Owe.start {P V0 V1 M L d q c T : Nat} (hM : 0 < M) (hP : M ≤ P) (hL : L + M = P) (hT : V0 + d * P = T) (hq : T / M ≤ q) (h : V1 + c * P = V0 + q * L) (hV : V1 < P) : d + c ≤ q ∧ Owe P V1 (q - T / M) M (T % M) (q - (d + c)) := by
  have e1 : q * L + q * M = q * P := by rw [← Nat.mul_add, hL]
  have e2 : M * (T / M) + T % M = T := Nat.div_add_mod T M
  have e3 : (q - T / M) * M + M * (T / M) = q * M := by rw [Nat.mul_comm M, ← Nat.add_mul, Nat.sub_add_cancel hq]
  have hR : T % M < M := Nat.mod_lt _ hM
  have e4 : V1 + (q - T / M) * M + (d + c) * P = T % M + q * P := by rw [Nat.add_mul]; omega
  have hle : d + c ≤ q := by
    rcases Nat.lt_or_ge q (d + c) with h5 | h5
    · exfalso
      have h6 : (q + 1) * P ≤ (d + c) * P := Nat.mul_le_mul_right _ h5
      rw [Nat.add_mul, Nat.one_mul] at h6
      omega
    · exact h5
  refine ⟨hle, hV, ?_⟩
  have e5 : (q - (d + c)) * P + (d + c) * P = q * P := by rw [← Nat.add_mul, Nat.sub_add_cancel hle]
  omega
theorem Owe.done {P V k M R : Nat} (h : Owe P V k M R 0) (hR : R < M) : V = R ∧ k = 0 := by
  obtain ⟨h1, h2⟩ := h
  rw [Nat.zero_mul] at h2
  rcases Nat.eq_zero_or_pos k with e | e
  · subst e; rw [Nat.zero_mul] at h2; omega
  · have : M ≤ k * M := Nat.le_mul_of_pos_left _ e
    omega
theorem Owe.le {P V k M R z : Nat} (h : Owe P V k M R z) (hP : M ≤ P) : z ≤ k := by
  obtain ⟨h1, h2⟩ := h
  rcases Nat.lt_or_ge k z with h3 | h3
  · have h4 : (k + 1) * P ≤ z * P := Nat.mul_le_mul_right _ h3
    have h5 : k * M ≤ k * P := Nat.mul_le_mul_left _ hP
    rw [Nat.add_mul, Nat.one_mul] at h4
    omega
  · exact h3
theorem Owe.step {P V k M R z V' c : Nat} (h : Owe P V k M R z) (hP : M ≤ P) (hz : 0 < z) (hV : V' < P) (h1 : V' + c * P = V + 1 * M) : 0 < k ∧ c ≤ z ∧ c ≤ 1 ∧ Owe P V' (k - 1) M R (z - c) := by
  have hk : 0 < k := by
    have := h.le hP; omega
  obtain ⟨h2, h3⟩ := h
  rw [Nat.one_mul] at h1
  have hc : c ≤ 1 := by
    rcases Nat.lt_or_ge 1 c with h4 | h4
    · have : 2 * P ≤ c * P := Nat.mul_le_mul_right _ h4
      omega
    · exact h4
  refine ⟨hk, by omega, hc, hV, ?_⟩
  have e1 : (k - 1) * M + M = k * M := by
    have := Nat.add_mul (k - 1) 1 M
    rw [Nat.sub_add_cancel hk, Nat.one_mul] at this
    omega
  have e2 : (z - c) * P + c * P = z * P := by rw [← Nat.add_mul, Nat.sub_add_cancel (by omega)]
  omega
/-- The top digit that owes z. -/
theorem top_start (d c q : Nat) (hd : d < B64) (hc : c < B64) (hq : q < B64) (h : d + c ≤ q) : ((d + c) % B64 + B64 - q) % B64 = (B64 - (q - (d + c))) % B64 := by unfold B64 at *; omega
theorem top_step (z c : Nat) (hz : z < B64) (h : c ≤ z) : ((B64 - z) % B64 + c) % B64 = (B64 - (z - c)) % B64 := by unfold B64 at *; omega
theorem top_zero (z : Nat) (hz : z < B64) : (B64 - z) % B64 = 0 ↔ z = 0 := by unfold B64 at *; omega
end Go.Proofs.YtjkniebedgiclaaDoor
