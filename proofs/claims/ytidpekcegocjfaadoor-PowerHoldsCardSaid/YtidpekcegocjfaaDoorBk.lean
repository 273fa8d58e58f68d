/- bits: Extend. -/
import Derived.Test.YtidpekcegocjfaaDoorBj
namespace Go.Proofs.YtidpekcegocjfaaDoor
open Go.RowKit
attribute [local go_sem] ix0 ix1 ix2 ix3
theorem shl_lt (n a : Nat) : shlN n a < MM := by unfold shlN; split; exact Nat.mod_lt _ MM_pos; exact MM_pos
theorem shr_lt (n a : Nat) (ha : a < MM) : shrN n a < MM := by unfold shrN; split; exact Nat.lt_of_le_of_lt (Nat.div_le_self _ _) ha; exact MM_pos
theorem sg_lt (a : Nat) : sgN a < MM := by unfold sgN; have := MM_pos; split <;> omega
theorem sar_lt (n a : Nat) : sarN n a < MM := by unfold sarN; split; exact Nat.mod_lt _ MM_pos; exact sg_lt a
/-- The sign of the byte at a place extended. -/
def extN (n a : Nat) : Nat := if n < 31 then sarN (8 * (31 - n)) (shlN (8 * (31 - n)) a) else a
theorem ext_lt (n a : Nat) (ha : a < MM) : extN n a < MM := by unfold extN; split; exact sar_lt _ _; exact ha
attribute [local irreducible] lb shlN sarN
end Go.Proofs.YtidpekcegocjfaaDoor
