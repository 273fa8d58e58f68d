/- power's law: works' closed values. -/
import Derived.Test.YtidpekcegocjfaaDoorEh
namespace Go.Proofs.YtidpekcegocjfaaDoor
/-- The product, cut to a word at each step. -/
def sqM (a : Nat) (f : Nat → Bool) (x : Nat) : Nat → Nat
  | 0 => x % MM
  | k + 1 => if f k then sqM a f x k * sqM a f x k % MM * a % MM else sqM a f x k * sqM a f x k % MM
theorem sqM_eq (a : Nat) (f : Nat → Bool) (x : Nat) : ∀ k, sqF a f x k % MM = sqM a f x k
  | 0 => rfl
  | k + 1 => by
    rw [sqF_succ]
    show sq1 a (sqF a f x k) (f k) % MM = if f k then sqM a f x k * sqM a f x k % MM * a % MM else sqM a f x k * sqM a f x k % MM
    rw [← sqM_eq a f x k]
    unfold sq1
    cases f k
    · simp only [Bool.false_eq_true, if_false]
      rw [← Nat.mul_mod]
    · simp only [if_true]
      rw [← Nat.mul_mod, Nat.mod_mul_mod]
theorem pw_2_10 : pwN 2 10 % MM = 1024 % MM := by unfold pwN; rw [sqM_eq]; decide +kernel
theorem pw_0_0 : pwN 0 0 % MM = 1 % MM := by unfold pwN; rw [sqM_eq]; decide +kernel
theorem pw_2_256 : pwN 2 256 % MM = 0 % MM := by unfold pwN; rw [sqM_eq]; decide +kernel
theorem tp_succ (k : Nat) : sqF 3 (fun _ => true) 1 (k + 1) * 3 = (sqF 3 (fun _ => true) 1 k * 3) * (sqF 3 (fun _ => true) 1 k * 3) := by
  rw [sqF_succ]
  show (sqF 3 (fun _ => true) 1 k * sqF 3 (fun _ => true) 1 k * 3) * 3 = _
  generalize sqF 3 (fun _ => true) 1 k = x
  rw [Nat.mul_assoc x 3 (x * 3), Nat.mul_left_comm 3 x 3, ← Nat.mul_assoc x x, Nat.mul_assoc (x * x) 3 3]
theorem tp_one : ∀ k, ∃ c, sqF 3 (fun _ => true) 1 (k + 1) * 3 = 2 ^ (k + 3) * c + 1
  | 0 => ⟨1, by rw [tp_succ]; rfl⟩
  | k + 1 => by
    obtain ⟨c, hc⟩ := tp_one k
    refine ⟨2 ^ (k + 2) * (c * c) + c, ?_⟩
    rw [tp_succ, hc, show 2 ^ (k + 1 + 3) = 2 * 2 ^ (k + 3) from Nat.pow_succ', show 2 ^ (k + 3) = 2 * 2 ^ (k + 2) from Nat.pow_succ']
    generalize 2 ^ (k + 2) = q
    grind
theorem tp_at (n : Nat) (hn : n = 256) : ∃ c, sqF 3 (fun _ => true) 1 n * 3 = MM * 4 * c + 1 := by
  obtain ⟨m, rfl⟩ : ∃ m, n = m + 1 := ⟨n - 1, by omega⟩
  obtain ⟨c, hc⟩ := tp_one m
  refine ⟨c, ?_⟩
  rw [hc]
  obtain rfl : m = 255 := by omega
  rw [show 2 ^ (255 + 3) = MM * 4 by decide +kernel]
theorem pw_at (n a : Nat) (hn : n = 256) (ha : a = MM - 1) : sqF 3 (fun j => a.testBit (255 - j)) 1 n * 3 % MM = 1 % MM := by
  have e : sqF 3 (fun j => a.testBit (255 - j)) 1 n = sqF 3 (fun _ => true) 1 n :=
    sqF_congr 3 1 n fun j hj => by
      rw [ha, show MM - 1 = 2 ^ 256 - 1 by decide +kernel, Nat.testBit_two_pow_sub_one]
      simp; omega
  obtain ⟨c, hc⟩ := tp_at n hn
  rw [e, hc, Nat.mul_assoc, Nat.add_comm, Nat.add_mul_mod_self_left]
theorem pw_3_all (a : Nat) (ha : a = MM - 1) : pwN 3 a * 3 % MM = 1 % MM := pw_at 256 a rfl ha
theorem sb_all : sb 0 1 % MM = (MM - 1) % MM := by decide +kernel
theorem wd_0 : wdN 0 = 0 := by decide +kernel
theorem wd_255 : wdN 255 = 1 := by decide +kernel
theorem wd_256 : wdN 256 = 2 := by decide +kernel
end Go.Proofs.YtidpekcegocjfaaDoor
