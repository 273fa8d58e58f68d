/- bits: Shl, Shr, Sar. -/
import Derived.Test.YtidpekcegocjfaaDoorBh
namespace Go.Proofs.YtidpekcegocjfaaDoor
open Go.RowKit
attribute [local go_sem] ix0 ix1 ix2 ix3
theorem box4 (w : World) (o1 o2 o4 : Obj) (t : TypeId) (cs : Array Value) : Blk ((((w.alloc o1).alloc o2).alloc (.cells cs t)).alloc o4) (w.heap.size + 1 + 1) t cs := by
  have h := Blk.newS (w.alloc o1) o2 t cs
  rw [World.size_alloc] at h
  exact h.alloc _
theorem W_sg (b : Bool) : Value.agg #[.int .u64 (sgI b), .int .u64 (sgI b), .int .u64 (sgI b), .int .u64 (sgI b)] = W (if b then MM - 1 else 0) := by
  cases b
  · simp only [Bool.false_eq_true, if_false]; exact W_zero.symm
  · simp only [if_true]; exact W_all.symm
attribute [local irreducible] lb numI
end Go.Proofs.YtidpekcegocjfaaDoor
