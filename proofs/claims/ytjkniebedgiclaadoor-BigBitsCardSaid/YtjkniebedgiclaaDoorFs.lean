/- big: told: the bytes of digits. -/
import Derived.Test.YtjkniebedgiclaaDoorFr
namespace Go.Proofs.YtjkniebedgiclaaDoor
open Go.RowKit Go.Shelf

/-- A number's bytes, so many, the highest first. -/
def tb (V n : Nat) : List Nat := (List.range n).map fun i => V / 256 ^ (n - 1 - i) % 256
theorem tb_len (V n : Nat) : (tb V n).length = n := by unfold tb; simp
theorem tb_lt (V n : Nat) : ∀ x ∈ tb V n, x < 256 := fun x hx => by
  unfold tb at hx
  simp only [List.mem_map] at hx
  obtain ⟨i, _, rfl⟩ := hx
  exact Nat.mod_lt _ (by omega)
theorem tb_get (V n i : Nat) (h : i < n) : (tb V n)[i]? = some (V / 256 ^ (n - 1 - i) % 256) := by
  unfold tb
  rw [List.getElem?_map, List.getElem?_range h]; rfl
theorem bv_tb (V : Nat) : ∀ n, bv (tb V n) = V % 256 ^ n
  | 0 => by show 0 = V % 256 ^ 0; rw [Nat.pow_zero, Nat.mod_one]
  | n + 1 => by
    have h : tb V (n + 1) = tb (V / 256) n ++ [V % 256] := by
      unfold tb
      rw [List.range_succ, List.map_append]
      congr 1
      · refine List.map_congr_left fun i hi => ?_
        have hi' : i < n := by simpa using hi
        rw [show n + 1 - 1 - i = (n - 1 - i) + 1 by omega, Nat.pow_succ, Nat.mul_comm, Nat.div_div_eq_div_mul]
      · simp
    rw [h, bv_snoc, bv_tb (V / 256) n, Nat.pow_succ, Nat.mul_comm (256 ^ n), Nat.mod_mul]
    omega
theorem bv_inj : ∀ (l m : List Nat), l.length = m.length → (∀ x ∈ l, x < 256) → (∀ x ∈ m, x < 256) → bv l = bv m → l = m
  | [], [], _, _, _, _ => rfl
  | [], _ :: _, h, _, _, _ => by simp at h
  | _ :: _, [], h, _, _, _ => by simp at h
  | x :: l, y :: m, h, hl, hm, e => by
    have h' : l.length = m.length := by simpa using h
    have h1 := bv_lt l fun z hz => hl z (by simp [hz])
    have h2 := bv_lt m fun z hz => hm z (by simp [hz])
    rw [bv_cons, bv_cons, h'] at e
    rw [h'] at h1
    have hp : 0 < 256 ^ m.length := Nat.pow_pos (by omega)
    have e1 : bv l = bv m := by
      have := congrArg (· % 256 ^ m.length) e
      simp only [Nat.mul_comm _ (256 ^ m.length), Nat.mul_add_mod] at this
      rwa [Nat.mod_eq_of_lt h1, Nat.mod_eq_of_lt h2] at this
    have e2 : x = y := Nat.eq_of_mul_eq_mul_right hp (by omega)
    rw [e2, bv_inj l m h' (fun z hz => hl z (by simp [hz])) (fun z hz => hm z (by simp [hz])) e1]
/-- A digit's byte. -/
theorem dv_byte (E : Nat → Nat) (n i : Nat) (hE : ∀ j, j < n → E j < B64) (hi : i < 8 * n) : E (i / 8) / 2 ^ (i % 8 * 8) % 256 = dv E n / 256 ^ i % 256 := by
  have h1 : E (i / 8) = dg (dv E n) (i / 8) := dg_of hE (by rw [Nat.mod_eq_of_lt (dv_lt n hE)]) (i / 8) (by omega)
  rw [h1]
  unfold dg
  generalize dv E n = V
  have e1 : (2 : Nat) ^ (i % 8 * 8) = 256 ^ (i % 8) := by rw [Nat.mul_comm, Nat.pow_mul]
  have e2 : 256 ^ i = B64 ^ (i / 8) * 256 ^ (i % 8) := by rw [← pow_digits, ← Nat.pow_add]; congr 1; omega
  have e3 : B64 = 256 ^ (i % 8) * (256 * 256 ^ (7 - i % 8)) := by
    rw [← Nat.mul_assoc, ← Nat.pow_succ, ← Nat.pow_add, show (i % 8).succ + (7 - i % 8) = 8 by omega]; rfl
  rw [e1, e2, ← Nat.div_div_eq_div_mul]
  generalize V / B64 ^ (i / 8) = W
  rw [e3, Nat.mod_mul_right_div_self, Nat.mod_mul_right_mod]
end Go.Proofs.YtjkniebedgiclaaDoor
