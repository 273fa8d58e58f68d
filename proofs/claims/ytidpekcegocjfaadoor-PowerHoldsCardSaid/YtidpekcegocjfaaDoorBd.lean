/- bits: two words, as a slice just made; Not. -/
import Derived.Test.YtidpekcegocjfaaDoorBc
import Derived.Deep.RegionHeld3
namespace Go.Proofs.YtidpekcegocjfaaDoor
open Go.RowKit
attribute [local go_sem] ix0 ix1 ix2 ix3
/-- Two words. -/
def two (a b : Nat) : Nat → Nat
  | 0 => a
  | _ => b
theorem words2 (X : World) (a b : Nat) : WordsAt (X.alloc (.cells (Pc a b) 24)) X.heap.size 0 2 (two a b) := fun k hk => by
  have h := Blk.new X 24 (Pc a b)
  match k, hk with
  | 0, _ => exact ⟨cell_of_row _ _ 0 _ _ _ h, cell_of_row _ _ 1 _ _ _ h, cell_of_row _ _ 2 _ _ _ h, cell_of_row _ _ 3 _ _ _ h⟩
  | 1, _ => exact ⟨cell_of_row _ _ 4 _ _ _ h, cell_of_row _ _ 5 _ _ _ h, cell_of_row _ _ 6 _ _ _ h, cell_of_row _ _ 7 _ _ _ h⟩
attribute [local irreducible] lb
end Go.Proofs.YtidpekcegocjfaaDoor
