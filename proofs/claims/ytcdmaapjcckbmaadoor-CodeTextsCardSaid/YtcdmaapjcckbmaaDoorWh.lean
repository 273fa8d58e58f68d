/- Layer word: a word's text (word.Text). -/
import Derived.Test.YtcdmaapjcckbmaaDoorWf
import Derived.Test.YtcdmaapjcckbmaaDoorWg
import Derived.Deep.RegionLaw
import Derived.Laws.BytesArg
namespace Go.Proofs.YtcdmaapjcckbmaaDoor
open Go.RowKit

/-- The j-th digit of a number to the base 16, the lowest first. -/
def nib (a j : Nat) : Nat := a / 16 ^ j % 16
/-- A digit's letter. -/
def dgN (n : Nat) : Nat := if n < 10 then 48 + n else 87 + n
theorem nib_lt (a j : Nat) : nib a j < 16 := Nat.mod_lt _ (by omega)
theorem dgN_lt (n : Nat) (h : n < 16) : dgN n < 128 := by unfold dgN; split <;> omega
theorem nib_hi (a k : Nat) : byA a k / 16 = nib a (2 * k + 1) := by
  unfold byA nib
  rw [show (256 : Nat) ^ k = 16 ^ (2 * k) from by rw [Nat.pow_mul], show (256 : Nat) = 16 * 16 from rfl, Nat.mod_mul_right_div_self, Nat.div_div_eq_div_mul, ← Nat.pow_succ]
theorem nib_lo (a k : Nat) : byA a k % 16 = nib a (2 * k) := by
  unfold byA nib
  rw [show (256 : Nat) ^ k = 16 ^ (2 * k) from by rw [Nat.pow_mul], show (256 : Nat) = 16 * 16 from rfl, Nat.mod_mul_right_mod]

set_option maxRecDepth 100000 in
theorem dig_ix (n : Nat) (h : n < 16) (w : World) : (Instr.index 9 (.string ⟨#[48, 49, 50, 51, 52, 53, 54, 55, 56, 57, 97, 98, 99, 100, 101, 102]⟩) (.int .u8 n)).run Tryd.prog w = .ok (.int .u8 (dgN n)) w := by
  match n, h with
  | 0, _ | 1, _ | 2, _ | 3, _ | 4, _ | 5, _ | 6, _ | 7, _ | 8, _ | 9, _ | 10, _ | 11, _ | 12, _ | 13, _ | 14, _ | 15, _ => rfl
  | n + 16, h => exact absurd h (by omega)

/-- 64 cells of letters, of which the first k are written. -/
def txC (a k : Nat) : Array Value := ((List.range 64).map fun p => Value.int .u8 (if p < k then ((dgN (nib a (63 - p)) : Nat) : Int) else 0)).toArray
theorem txC_get (a k p : Nat) (hp : p < 64) : (txC a k)[p]? = some (.int .u8 (if p < k then ((dgN (nib a (63 - p)) : Nat) : Int) else 0)) := by
  unfold txC; simp [hp]
theorem txC_size (a k : Nat) : (txC a k).size = 64 := by unfold txC; simp
theorem txC_set (a k : Nat) (hk : k < 64) : (txC a k).setIfInBounds k (.int .u8 (dgN (nib a (63 - k)) : Nat)) = txC a (k + 1) := by
  apply Array.ext_getElem?
  intro p
  by_cases hp : p < 64
  · rw [Array.getElem?_setIfInBounds, txC_size, txC_get _ _ _ hp, txC_get _ _ _ hp]
    by_cases h : k = p
    · subst h
      rw [if_pos rfl, if_pos hk, if_pos (by omega)]
    · rw [if_neg h]
      by_cases g : p < k
      · rw [if_pos g, if_pos (by omega)]
      · rw [if_neg g, if_neg (by omega)]
  · rw [Array.getElem?_eq_none (by rw [Array.size_setIfInBounds, txC_size]; omega), Array.getElem?_eq_none (by rw [txC_size]; omega)]
theorem txC_zero (a : Nat) : txC a 0 = #[.int .u8 0, .int .u8 0, .int .u8 0, .int .u8 0, .int .u8 0, .int .u8 0, .int .u8 0, .int .u8 0, .int .u8 0, .int .u8 0, .int .u8 0, .int .u8 0, .int .u8 0, .int .u8 0, .int .u8 0, .int .u8 0, .int .u8 0, .int .u8 0, .int .u8 0, .int .u8 0, .int .u8 0, .int .u8 0, .int .u8 0, .int .u8 0, .int .u8 0, .int .u8 0, .int .u8 0, .int .u8 0, .int .u8 0, .int .u8 0, .int .u8 0, .int .u8 0, .int .u8 0, .int .u8 0, .int .u8 0, .int .u8 0, .int .u8 0, .int .u8 0, .int .u8 0, .int .u8 0, .int .u8 0, .int .u8 0, .int .u8 0, .int .u8 0, .int .u8 0, .int .u8 0, .int .u8 0, .int .u8 0, .int .u8 0, .int .u8 0, .int .u8 0, .int .u8 0, .int .u8 0, .int .u8 0, .int .u8 0, .int .u8 0, .int .u8 0, .int .u8 0, .int .u8 0, .int .u8 0, .int .u8 0, .int .u8 0, .int .u8 0, .int .u8 0] := by
  unfold txC; simp only [Nat.not_lt_zero, if_false]; rfl

theorem and_u8_15 (v : Nat) (h : v < 256) : bits .and .u8 (v : Int) 15 = (v : Int) % 16 := by
  have h0 : (0 : Int) ≤ v := Int.natCast_nonneg v
  have h1 : (v : Int) < 256 := by omega
  generalize (v : Int) = z at *
  go_bits2
theorem info_u8 : (Tryd.prog.info? 5).isSome = true := by kernel_rfl
theorem size_u8 : (Tryd.prog.info? 5).map (·.size) = some 1 := by kernel_rfl

/-- All 64 digits' letters, the highest first. -/
def hexL (a : Nat) : List UInt8 := (List.range 64).map fun p => UInt8.ofNat (dgN (nib a (63 - p)))
/-- A word's text. -/
def txtL (a : Nat) : List UInt8 := 48 :: 120 :: (if (Lib.trimLeftB (hexL a) 48).isEmpty then [48] else Lib.trimLeftB (hexL a) 48)

end Go.Proofs.YtcdmaapjcckbmaaDoor
