/- big: digits moved down by bits, in plain numbers; make. -/
import Derived.Test.YtjkniebedgiclaaDoorFk
namespace Go.Proofs.YtjkniebedgiclaaDoor
open Go.RowKit Go.Shelf

/-- A digit of what is moved down by u bits. -/
def shd (f : Nat → Nat) (u i : Nat) : Nat := f i / 2 ^ u + (f (i + 1) % 2 ^ u) * 2 ^ (64 - u)
theorem pow_parts (u : Nat) (hu : u ≤ 63) : 2 ^ u * 2 ^ (64 - u) = B64 := by
  rw [← Nat.pow_add, show u + (64 - u) = 64 by omega]; rfl
theorem shd_high (y u : Nat) (hu : u ≤ 63) : y * 2 ^ (64 - u) % B64 = (y % 2 ^ u) * 2 ^ (64 - u) := by
  rw [← pow_parts u hu, Nat.mul_mod_mul_right]
theorem shd_or (x y u : Nat) (hu : u ≤ 63) (hx : x < B64) : (x / 2 ^ u) ||| (y % 2 ^ u) * 2 ^ (64 - u) = x / 2 ^ u + (y % 2 ^ u) * 2 ^ (64 - u) := by
  have h1 : x / 2 ^ u < 2 ^ (64 - u) := Nat.div_lt_of_lt_mul (by rw [pow_parts u hu]; exact hx)
  have h2 := Nat.two_pow_add_eq_or_of_lt h1 (y % 2 ^ u)
  rw [Nat.mul_comm (2 ^ (64 - u))] at h2
  rw [Nat.or_comm, ← h2, Nat.add_comm]
theorem shd_lt (f : Nat → Nat) (u i : Nat) (hu : u ≤ 63) (hx : f i < B64) : shd f u i < B64 := by
  unfold shd
  have h1 : f i / 2 ^ u < 2 ^ (64 - u) := Nat.div_lt_of_lt_mul (by rw [pow_parts u hu]; exact hx)
  have h2 : f (i + 1) % 2 ^ u < 2 ^ u := Nat.mod_lt _ (Nat.pow_pos (by omega))
  have h3 : (f (i + 1) % 2 ^ u + 1) * 2 ^ (64 - u) ≤ 2 ^ u * 2 ^ (64 - u) := Nat.mul_le_mul_right _ h2
  rw [pow_parts u hu, Nat.add_mul, Nat.one_mul] at h3
  omega
theorem shd_mul (f : Nat → Nat) (u i : Nat) (hu : u ≤ 63) : 2 ^ u * shd f u i + f i % 2 ^ u = f i + (f (i + 1) % 2 ^ u) * B64 := by
  unfold shd
  have h1 := Nat.div_add_mod (f i) (2 ^ u)
  have h2 : 2 ^ u * (f (i + 1) % 2 ^ u * 2 ^ (64 - u)) = (f (i + 1) % 2 ^ u) * B64 := by rw [← pow_parts u hu, Nat.mul_left_comm]
  rw [Nat.mul_add, h2]
  omega
theorem shift_sum (f : Nat → Nat) (u : Nat) (hu : u ≤ 63) : ∀ n, 2 ^ u * dv (shd f u) n + f 0 % 2 ^ u = dv f n + (f n % 2 ^ u) * B64 ^ n
  | 0 => by rw [dv, dv, Nat.pow_zero, Nat.mul_zero, Nat.mul_one]
  | n + 1 => by
    have ih := shift_sum f u hu n
    have h := shd_mul f u n hu
    have e : (2 ^ u * shd f u n + f n % 2 ^ u) * B64 ^ n = (f n + (f (n + 1) % 2 ^ u) * B64) * B64 ^ n := by rw [h]
    rw [Nat.add_mul, Nat.add_mul, Nat.mul_assoc, Nat.mul_assoc, ← Nat.pow_succ', Nat.succ_eq_add_one] at e
    rw [dv, dv, Nat.mul_add]
    omega
theorem shift_down (f : Nat → Nat) (u n : Nat) (hu : u ≤ 63) (h0 : f n = 0) : dv (shd f u) n = dv f n / 2 ^ u := by
  have h := shift_sum f u hu n
  rw [h0, Nat.zero_mod, Nat.zero_mul, Nat.add_zero] at h
  have hp : 0 < 2 ^ u := Nat.pow_pos (by omega)
  have hl : f 0 % 2 ^ u < 2 ^ u := Nat.mod_lt _ hp
  rw [← h, Nat.mul_add_div hp, Nat.div_eq_of_lt hl, Nat.add_zero]
theorem made_u64 (n : Nat) : madeCells (Value.int .u64 0).cells (n * 1) = Array.replicate n (.int .u64 0) := by
  apply Array.ext_getElem?
  intro i
  unfold madeCells
  by_cases hi : i < n <;> simp [Value.cells, Nat.mod_one, hi]
theorem info_parts8 : (Tryd.prog.info? 72).map (fun i => (i.zero, i.size, i.bytes)) = some (some (.int .u64 0), 1, 8) := by kernel_rfl
theorem make_u64 (n : Nat) (hn : n ≤ 100000) (w : World) : (Instr.makeSlice 54 (.int .i64 n) (.int .i64 n)).run Tryd.prog w = .ok (.slice (some ⟨w.heap.size, 0, none⟩) n n) (w.alloc (.cells (Array.replicate n (.int .u64 0)) 72)) := by
  obtain ⟨i, hi, hz, hs, hb⟩ := info_parts' info_parts8
  have h := run_makeSlice (P := Tryd.prog) (w := w) 54 72 i (.int .u64 0) (by kernel_rfl) hi hz .i64 .i64 n n (by omega) (by omega) (by rw [hs]; omega) (by rw [hb]; omega) (by omega)
  rw [hs, Int.toNat_natCast, made_u64] at h
  exact h
end Go.Proofs.YtjkniebedgiclaaDoor
