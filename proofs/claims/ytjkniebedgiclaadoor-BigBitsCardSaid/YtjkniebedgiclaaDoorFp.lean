/- big: what bytes are worth, the highest first; their digits. Plain numbers. No program. -/
import Derived.Test.YtjkniebedgiclaaDoorFn
namespace Go.Proofs.YtjkniebedgiclaaDoor

/-- What bytes are worth. -/
def bv (l : List Nat) : Nat := l.foldl (fun a x => a * 256 + x) 0
theorem bv_from (l : List Nat) : ∀ a, l.foldl (fun a x => a * 256 + x) a = a * 256 ^ l.length + bv l := by
  unfold bv
  induction l with
  | nil => intro a; simp
  | cons x l ih =>
    intro a
    rw [List.foldl_cons, List.foldl_cons, ih, ih (0 * 256 + x), List.length_cons, Nat.pow_succ]
    grind
theorem bv_nil : bv [] = 0 := rfl
theorem bv_app (a b : List Nat) : bv (a ++ b) = bv a * 256 ^ b.length + bv b := by
  show (a ++ b).foldl _ 0 = _
  rw [List.foldl_append, bv_from]
  rfl
theorem bv_cons (x : Nat) (l : List Nat) : bv (x :: l) = x * 256 ^ l.length + bv l := by
  have h := bv_app [x] l
  rw [show [x] ++ l = x :: l from rfl] at h
  rw [h]
  unfold bv
  simp
theorem bv_snoc (l : List Nat) (x : Nat) : bv (l ++ [x]) = bv l * 256 + x := by
  rw [bv_app]
  unfold bv
  simp
theorem bv_lt (l : List Nat) (h : ∀ x ∈ l, x < 256) : bv l < 256 ^ l.length := by
  induction l with
  | nil => show 0 < 256 ^ 0; omega
  | cons x l ih =>
    have h1 := ih fun y hy => h y (by simp [hy])
    have h2 : x + 1 ≤ 256 := h x (by simp)
    have h3 : (x + 1) * 256 ^ l.length ≤ 256 * 256 ^ l.length := Nat.mul_le_mul_right _ h2
    rw [bv_cons, List.length_cons, Nat.pow_succ, Nat.mul_comm (256 ^ l.length)]
    rw [Nat.add_mul, Nat.one_mul] at h3
    omega
theorem bv_dz (l : List Nat) : bv (dz l) = bv l := by
  unfold dz
  induction l with
  | nil => rfl
  | cons x l ih =>
    by_cases h : (x == 0) = true
    · rw [List.dropWhile_cons, if_pos h, ih, bv_cons]
      have : x = 0 := by simpa using h
      rw [this, Nat.zero_mul, Nat.zero_add]
    · rw [List.dropWhile_cons, if_neg h]
theorem bv_split (l : List Nat) (p : Nat) : bv l = bv (l.take p) * 256 ^ (l.length - p) + bv (l.drop p) := by
  have h := bv_app (l.take p) (l.drop p)
  rw [List.take_append_drop, List.length_drop] at h
  exact h
theorem bv_take (l : List Nat) (p : Nat) (h : ∀ x ∈ l, x < 256) : bv (l.take p) = bv l / 256 ^ (l.length - p) := by
  have h1 := bv_lt (l.drop p) fun x hx => h x (List.mem_of_mem_drop hx)
  rw [List.length_drop] at h1
  have h2 : 0 < 256 ^ (l.length - p) := Nat.pow_pos (by omega)
  rw [bv_split l p, Nat.mul_comm, Nat.mul_add_div h2, Nat.div_eq_of_lt h1, Nat.add_zero]
theorem bv_drop (l : List Nat) (p : Nat) (h : ∀ x ∈ l, x < 256) : bv (l.drop p) = bv l % 256 ^ (l.length - p) := by
  have h1 := bv_lt (l.drop p) fun x hx => h x (List.mem_of_mem_drop hx)
  rw [List.length_drop] at h1
  rw [bv_split l p, Nat.mul_comm, Nat.mul_add_mod, Nat.mod_eq_of_lt h1]
theorem pow_digits (j : Nat) : 256 ^ (8 * j) = B64 ^ j := by
  rw [Nat.pow_mul]; rfl
/-- The digit that the last bytes ahead of those that are read are. -/
theorem bv_digit (r : List Nat) (j : Nat) (h : ∀ x ∈ r, x < 256) (hj : 8 * j ≤ r.length) : bv ((r.take (r.length - 8 * j)).drop (r.length - 8 * j - 8)) = dg (bv r) j := by
  have h1 : ∀ x ∈ r.take (r.length - 8 * j), x < 256 := fun x hx => h x (List.mem_of_mem_take hx)
  rw [bv_drop _ _ h1, bv_take _ _ h, List.length_take]
  unfold dg
  rw [show r.length - (r.length - 8 * j) = 8 * j by omega, pow_digits]
  by_cases e : 8 * j + 8 ≤ r.length
  · rw [show min (r.length - 8 * j) r.length - (r.length - 8 * j - 8) = 8 * 1 by omega, pow_digits, Nat.pow_one]
  · have h2 := bv_lt (r.take (r.length - 8 * j)) h1
    rw [bv_take _ _ h, List.length_take, show r.length - (r.length - 8 * j) = 8 * j by omega, pow_digits] at h2
    have h3 : 256 ^ (min (r.length - 8 * j) r.length) ≤ 256 ^ (8 * 1) := Nat.pow_le_pow_right (by omega) (by omega)
    rw [pow_digits, Nat.pow_one] at h3
    rw [show min (r.length - 8 * j) r.length - (r.length - 8 * j - 8) = min (r.length - 8 * j) r.length by omega, Nat.mod_eq_of_lt h2, Nat.mod_eq_of_lt (by omega)]
/-- How many digits so many bytes have. -/
def many (n : Nat) : Nat := (n + 7) / 8
theorem bv_many (r : List Nat) (h : ∀ x ∈ r, x < 256) : bv r < B64 ^ many r.length := by
  have h1 := bv_lt r h
  have h2 : 256 ^ r.length ≤ 256 ^ (8 * many r.length) := Nat.pow_le_pow_right (by omega) (by unfold many; omega)
  rw [pow_digits] at h2
  omega
/-- The highest digit of a number without noughts ahead is none. -/
theorem bv_top (l : List Nat) (h : ∀ x ∈ l, x < 256) (hn : dz l ≠ []) : dg (bv l) (many (dz l).length - 1) ≠ 0 ∧ 0 < many (dz l).length ∧ bv l ≠ 0 := by
  obtain ⟨x, r, hr⟩ : ∃ x r, dz l = x :: r := by
    cases e : dz l with
    | nil => exact (hn e).elim
    | cons x r => exact ⟨x, r, rfl⟩
  have hx : x ≠ 0 := by
    intro e0
    have h2 := dz_idem l
    rw [hr, e0] at h2
    have h3 := dz_le r
    have h4 : dz (0 :: r) = dz r := rfl
    rw [h4] at h2
    have := congrArg List.length h2
    simp only [List.length_cons] at this
    omega
  have hm : 0 < many (dz l).length := by rw [hr]; unfold many; simp only [List.length_cons]; omega
  have hv : bv l = x * 256 ^ r.length + bv r := by rw [← bv_dz l, hr, bv_cons]
  have hge : 256 ^ r.length ≤ bv l := by
    have : 1 * 256 ^ r.length ≤ x * 256 ^ r.length := Nat.mul_le_mul_right _ (by omega)
    omega
  have hlt := bv_many (dz l) fun y hy => h y (dz_mem l y hy)
  rw [bv_dz] at hlt
  have hp : B64 ^ (many (dz l).length - 1) ≤ 256 ^ r.length := by
    rw [← pow_digits]
    refine Nat.pow_le_pow_right (by omega) ?_
    rw [hr]; unfold many; simp only [List.length_cons]; omega
  refine ⟨?_, hm, ?_⟩
  · unfold dg
    have h1 : bv l / B64 ^ (many (dz l).length - 1) < B64 := by
      rw [Nat.div_lt_iff_lt_mul (Nat.pow_pos B64_pos), ← Nat.pow_succ', Nat.succ_eq_add_one, Nat.sub_add_cancel hm]
      exact hlt
    rw [Nat.mod_eq_of_lt h1]
    have : 0 < bv l / B64 ^ (many (dz l).length - 1) := Nat.div_pos (by omega) (Nat.pow_pos B64_pos)
    omega
  · have : 0 < 256 ^ r.length := Nat.pow_pos (by omega)
    omega
theorem dz_nil (l : List Nat) : dz l = [] ↔ bv l = 0 := by
  constructor
  · intro h; rw [← bv_dz, h]; rfl
  · intro h
    cases e : dz l with
    | nil => rfl
    | cons x r =>
      exfalso
      have hx : x ≠ 0 := by
        intro e0
        have h2 := dz_idem l
        rw [e, e0] at h2
        have h3 := dz_le r
        have h4 : dz (0 :: r) = dz r := rfl
        rw [h4] at h2
        have := congrArg List.length h2
        simp only [List.length_cons] at this
        omega
      rw [← bv_dz, e, bv_cons] at h
      have : 1 * 1 ≤ x * 256 ^ r.length := Nat.mul_le_mul (by omega) (Nat.pow_pos (by omega))
      omega
end Go.Proofs.YtjkniebedgiclaaDoor
