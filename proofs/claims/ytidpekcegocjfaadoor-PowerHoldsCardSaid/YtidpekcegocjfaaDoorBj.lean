/- bits: Byte. -/
import Derived.Test.YtidpekcegocjfaaDoorBi
namespace Go.Proofs.YtidpekcegocjfaaDoor
open Go.RowKit
attribute [local go_sem] ix0 ix1 ix2 ix3
theorem ixB (a k : Nat) (hk : k < 32) (w : World) : (Instr.index 44 (.agg (byC a 32)) (.int .i64 k)).run Tryd.prog w = .ok (.int .u8 (byA a (31 - k) : Nat)) w := by
  have h : k = 0 ∨ k = 1 ∨ k = 2 ∨ k = 3 ∨ k = 4 ∨ k = 5 ∨ k = 6 ∨ k = 7 ∨ k = 8 ∨ k = 9 ∨ k = 10 ∨ k = 11 ∨ k = 12 ∨ k = 13 ∨ k = 14 ∨ k = 15 ∨ k = 16 ∨ k = 17 ∨ k = 18 ∨ k = 19 ∨ k = 20 ∨ k = 21 ∨ k = 22 ∨ k = 23 ∨ k = 24 ∨ k = 25 ∨ k = 26 ∨ k = 27 ∨ k = 28 ∨ k = 29 ∨ k = 30 ∨ k = 31 := by omega
  rcases h with rfl | rfl | rfl | rfl | rfl | rfl | rfl | rfl | rfl | rfl | rfl | rfl | rfl | rfl | rfl | rfl | rfl | rfl | rfl | rfl | rfl | rfl | rfl | rfl | rfl | rfl | rfl | rfl | rfl | rfl | rfl | rfl
  · exact (show (Instr.index 44 (.agg (byC a 32)) (.int .i64 0)).run Tryd.prog w = .ok (.int .u8 (byA a 31 : Nat)) w by kernel_rfl)
  · exact (show (Instr.index 44 (.agg (byC a 32)) (.int .i64 1)).run Tryd.prog w = .ok (.int .u8 (byA a 30 : Nat)) w by kernel_rfl)
  · exact (show (Instr.index 44 (.agg (byC a 32)) (.int .i64 2)).run Tryd.prog w = .ok (.int .u8 (byA a 29 : Nat)) w by kernel_rfl)
  · exact (show (Instr.index 44 (.agg (byC a 32)) (.int .i64 3)).run Tryd.prog w = .ok (.int .u8 (byA a 28 : Nat)) w by kernel_rfl)
  · exact (show (Instr.index 44 (.agg (byC a 32)) (.int .i64 4)).run Tryd.prog w = .ok (.int .u8 (byA a 27 : Nat)) w by kernel_rfl)
  · exact (show (Instr.index 44 (.agg (byC a 32)) (.int .i64 5)).run Tryd.prog w = .ok (.int .u8 (byA a 26 : Nat)) w by kernel_rfl)
  · exact (show (Instr.index 44 (.agg (byC a 32)) (.int .i64 6)).run Tryd.prog w = .ok (.int .u8 (byA a 25 : Nat)) w by kernel_rfl)
  · exact (show (Instr.index 44 (.agg (byC a 32)) (.int .i64 7)).run Tryd.prog w = .ok (.int .u8 (byA a 24 : Nat)) w by kernel_rfl)
  · exact (show (Instr.index 44 (.agg (byC a 32)) (.int .i64 8)).run Tryd.prog w = .ok (.int .u8 (byA a 23 : Nat)) w by kernel_rfl)
  · exact (show (Instr.index 44 (.agg (byC a 32)) (.int .i64 9)).run Tryd.prog w = .ok (.int .u8 (byA a 22 : Nat)) w by kernel_rfl)
  · exact (show (Instr.index 44 (.agg (byC a 32)) (.int .i64 10)).run Tryd.prog w = .ok (.int .u8 (byA a 21 : Nat)) w by kernel_rfl)
  · exact (show (Instr.index 44 (.agg (byC a 32)) (.int .i64 11)).run Tryd.prog w = .ok (.int .u8 (byA a 20 : Nat)) w by kernel_rfl)
  · exact (show (Instr.index 44 (.agg (byC a 32)) (.int .i64 12)).run Tryd.prog w = .ok (.int .u8 (byA a 19 : Nat)) w by kernel_rfl)
  · exact (show (Instr.index 44 (.agg (byC a 32)) (.int .i64 13)).run Tryd.prog w = .ok (.int .u8 (byA a 18 : Nat)) w by kernel_rfl)
  · exact (show (Instr.index 44 (.agg (byC a 32)) (.int .i64 14)).run Tryd.prog w = .ok (.int .u8 (byA a 17 : Nat)) w by kernel_rfl)
  · exact (show (Instr.index 44 (.agg (byC a 32)) (.int .i64 15)).run Tryd.prog w = .ok (.int .u8 (byA a 16 : Nat)) w by kernel_rfl)
  · exact (show (Instr.index 44 (.agg (byC a 32)) (.int .i64 16)).run Tryd.prog w = .ok (.int .u8 (byA a 15 : Nat)) w by kernel_rfl)
  · exact (show (Instr.index 44 (.agg (byC a 32)) (.int .i64 17)).run Tryd.prog w = .ok (.int .u8 (byA a 14 : Nat)) w by kernel_rfl)
  · exact (show (Instr.index 44 (.agg (byC a 32)) (.int .i64 18)).run Tryd.prog w = .ok (.int .u8 (byA a 13 : Nat)) w by kernel_rfl)
  · exact (show (Instr.index 44 (.agg (byC a 32)) (.int .i64 19)).run Tryd.prog w = .ok (.int .u8 (byA a 12 : Nat)) w by kernel_rfl)
  · exact (show (Instr.index 44 (.agg (byC a 32)) (.int .i64 20)).run Tryd.prog w = .ok (.int .u8 (byA a 11 : Nat)) w by kernel_rfl)
  · exact (show (Instr.index 44 (.agg (byC a 32)) (.int .i64 21)).run Tryd.prog w = .ok (.int .u8 (byA a 10 : Nat)) w by kernel_rfl)
  · exact (show (Instr.index 44 (.agg (byC a 32)) (.int .i64 22)).run Tryd.prog w = .ok (.int .u8 (byA a 9 : Nat)) w by kernel_rfl)
  · exact (show (Instr.index 44 (.agg (byC a 32)) (.int .i64 23)).run Tryd.prog w = .ok (.int .u8 (byA a 8 : Nat)) w by kernel_rfl)
  · exact (show (Instr.index 44 (.agg (byC a 32)) (.int .i64 24)).run Tryd.prog w = .ok (.int .u8 (byA a 7 : Nat)) w by kernel_rfl)
  · exact (show (Instr.index 44 (.agg (byC a 32)) (.int .i64 25)).run Tryd.prog w = .ok (.int .u8 (byA a 6 : Nat)) w by kernel_rfl)
  · exact (show (Instr.index 44 (.agg (byC a 32)) (.int .i64 26)).run Tryd.prog w = .ok (.int .u8 (byA a 5 : Nat)) w by kernel_rfl)
  · exact (show (Instr.index 44 (.agg (byC a 32)) (.int .i64 27)).run Tryd.prog w = .ok (.int .u8 (byA a 4 : Nat)) w by kernel_rfl)
  · exact (show (Instr.index 44 (.agg (byC a 32)) (.int .i64 28)).run Tryd.prog w = .ok (.int .u8 (byA a 3 : Nat)) w by kernel_rfl)
  · exact (show (Instr.index 44 (.agg (byC a 32)) (.int .i64 29)).run Tryd.prog w = .ok (.int .u8 (byA a 2 : Nat)) w by kernel_rfl)
  · exact (show (Instr.index 44 (.agg (byC a 32)) (.int .i64 30)).run Tryd.prog w = .ok (.int .u8 (byA a 1 : Nat)) w by kernel_rfl)
  · exact (show (Instr.index 44 (.agg (byC a 32)) (.int .i64 31)).run Tryd.prog w = .ok (.int .u8 (byA a 0 : Nat)) w by kernel_rfl)
theorem atB (g : Nat) (w : World) : (Instr.arrayAt 44 (.slice (some ⟨g, 0, none⟩) 32 32)).run Tryd.prog w = .ok (.pointer (some ⟨g, 0, none⟩)) w := by kernel_rfl
/-- The byte at a place, the highest one's being 0. -/
def byteN (n a : Nat) : Nat := if n < 32 then byA a (31 - n) else 0
attribute [local irreducible] lb byC byA
/-- What stands where Byte jumps to. -/
def YJ (w0 : World) (act : Act) (w : World) : Prop := ∃ x0 x1 x2 x3 x5 x6 x7 x8 x9 x10 x11 x12 x13 x14 x15 x16 x17 x18 x19 x20 x21 x22, act = { tmps := #[x0, x1, x2, x3, .pointer (some ⟨w0.heap.size + 1 + 1, 0, none⟩), x5, x6, x7, x8, x9, x10, x11, x12, x13, x14, x15, x16, x17, x18, x19, x20, x21, x22], defers := [] } ∧
  Blk w (w0.heap.size + 1 + 1) 24 Zc ∧ Below w0.heap.size w0 w

end Go.Proofs.YtidpekcegocjfaaDoor
