/- label: a Builder that the call itself has made, written in a loop: the rows of its bytes lie from a base on. -/
import Derived.Test.YtcplhalgjjhmdaaGa
import Derived.Laws.Externs
import Derived.Lib.FrozenHead
import Derived.Lib.OthersKept
namespace Go.Proofs.Ytcplhalgjjhmdaa
open Go.RowKit Go.Shelf

theorem infoByte : (Try.prog.info? 5).map (fun i => (i.zero, i.size, i.bytes)) = some (some (.int .u8 0), 1, 1) := by kernel_rfl
theorem undUP : Try.prog.underlying 151 = some .unsafePointer := by kernel_rfl
theorem undBy : Try.prog.underlying 30 = some (.slice 5) := by kernel_rfl
theorem undStr : Try.prog.underlying 9 = some .string := by kernel_rfl

/-- The blocks below B2 but b are as they were. -/
def KpB (b B2 : Nat) (X Y : World) : Prop := Below b X Y ∧ ∀ k, k ≠ b → k < B2 → k < X.heap.size → Y.heap[k]? = X.heap[k]?
theorem KpB.refl (b B2 : Nat) (X : World) : KpB b B2 X X := ⟨Below.refl _ _, fun _ _ _ _ => rfl⟩
theorem KpB.trans {b B2 : Nat} {X Y Z : World} (h : KpB b B2 X Y) (k : KpB b B2 Y Z) : KpB b B2 X Z :=
  ⟨h.1.trans k.1, fun i h1 h2 h3 => (k.2 i h1 h2 (Nat.lt_of_lt_of_le h3 h.1.size)).trans (h.2 i h1 h2 h3)⟩
theorem KpB.set {b B2 : Nat} {X Y : World} (h : KpB b B2 X Y) (j : Nat) (v : Value) : KpB b B2 X (Y.setCell ⟨b, j, none⟩ v) :=
  ⟨h.1.setCell (p := ⟨b, j, none⟩) (Nat.le_refl _) _, fun i h1 h2 h3 => (Below.heap_setCell _ ⟨b, j, none⟩ _ i h1).trans (h.2 i h1 h2 h3)⟩
theorem KpB.grown {b B2 : Nat} {X Y Z : World} {row : Option Nat} (h : KpB b B2 X Y) (hg : Y.grownBy Z row) (hb : b < X.heap.size) (hB : b < B2) (hr : ∀ r, row = some r → B2 ≤ r) : KpB b B2 X Z :=
  ⟨h.1.grown hg (Nat.le_trans (Nat.le_of_lt hb) h.1.size) (fun k e => Nat.le_trans (Nat.le_of_lt hB) (hr k e)), fun i h1 h2 h3 => (hg.block i (Nat.lt_of_lt_of_le h3 h.1.size) (fun e => by have := hr i e.symm; omega)).trans (h.2 i h1 h2 h3)⟩
theorem KpB.alloc {b B2 : Nat} {X Y : World} (h : KpB b B2 X Y) (hb : b < X.heap.size) (hB : b < B2) (o : Obj) : KpB b B2 X (Y.alloc o) := h.grown (grown_alloc Y o) hb hB (fun _ e => by cases e)

theorem cells_app (l : List UInt8) (s : ByteArray) : Lib.byteCells l ++ Lib.strCells s = Lib.byteCells (l ++ s.data.toList) := by simp [Lib.byteCells, Lib.strCells]

end Go.Proofs.Ytcplhalgjjhmdaa
