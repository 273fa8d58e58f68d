/- bits: And, Or, Xor, Not. -/
import Derived.Test.YtidpekcegocjfaaDoorBb
namespace Go.Proofs.YtidpekcegocjfaaDoor
open Go.RowKit
attribute [local go_sem] ix0 ix1 ix2 ix3
theorem Blk.get4 {X : World} {g : Nat} {t : TypeId} {x0 x1 x2 x3 : Value} (h : Blk X g t #[x0, x1, x2, x3]) :
    X.cell? ⟨g, 0, none⟩ = some x0 ∧ X.cell? ⟨g, 1, none⟩ = some x1 ∧ X.cell? ⟨g, 2, none⟩ = some x2 ∧ X.cell? ⟨g, 3, none⟩ = some x3 ∧
    X.frozen? ⟨g, 0, none⟩ = false ∧ X.frozen? ⟨g, 1, none⟩ = false ∧ X.frozen? ⟨g, 2, none⟩ = false ∧ X.frozen? ⟨g, 3, none⟩ = false :=
  ⟨cell_of_row X g 0 _ _ _ h, cell_of_row X g 1 _ _ _ h, cell_of_row X g 2 _ _ _ h, cell_of_row X g 3 _ _ _ h, frozen_of_row X g 0 _ _ h, frozen_of_row X g 1 _ _ h, frozen_of_row X g 2 _ _ h, frozen_of_row X g 3 _ _ h⟩
/-- Four noughts. -/
abbrev Zc : Array Value := #[.int .u64 0, .int .u64 0, .int .u64 0, .int .u64 0]

def andN (f : Nat → Nat) (n : Nat) : Nat := foN (· &&& ·) (MM - 1) f n
def orN (f : Nat → Nat) (n : Nat) : Nat := foN (· ||| ·) 0 f n
def xorN (f : Nat → Nat) (n : Nat) : Nat := foN (· ^^^ ·) 0 f n
theorem WordsAt.below {w X : World} {b o n m : Nat} {f : Nat → Nat} (h : WordsAt w b o n f) (hb : b < m) (k : Below m w X) : WordsAt X b o n f := fun i hi => by
  obtain ⟨h0, h1, h2, h3⟩ := h i hi
  exact ⟨(k.cell (p := ⟨b, _, none⟩) hb).trans h0, (k.cell (p := ⟨b, _, none⟩) hb).trans h1, (k.cell (p := ⟨b, _, none⟩) hb).trans h2, (k.cell (p := ⟨b, _, none⟩) hb).trans h3⟩
section
variable (b o n cap : Nat) (f : Nat → Nat) (w : World) (hn : n ≤ 9223372036854775807) (hb : b < w.heap.size) (hf : WordsAt w b o n f)
include hn hb hf
end
end Go.Proofs.YtidpekcegocjfaaDoor
