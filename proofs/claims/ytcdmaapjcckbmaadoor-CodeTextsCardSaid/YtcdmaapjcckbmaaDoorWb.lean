/- Layer word: the sum of many (word.Add and its closure). -/
import Derived.Test.YtcdmaapjcckbmaaDoorWa
import Derived.Laws.Rows
import Derived.Deep.LoopGhost
namespace Go.Proofs.YtcdmaapjcckbmaaDoor
open Go.RowKit
attribute [local go_sem] ix0 ix1 ix2 ix3
/-- The sum of the first k. -/
def sumN (f : Nat → Nat) : Nat → Nat
  | 0 => 0
  | k + 1 => sumN f k + f k

/-- The words lie in a row, each in four cells. -/
def WordsAt (w : World) (b o n : Nat) (f : Nat → Nat) : Prop := ∀ k, k < n → w.cell? ⟨b, o + k * 4, none⟩ = some (.int .u64 (lb (f k) 0)) ∧ w.cell? ⟨b, o + k * 4 + 1, none⟩ = some (.int .u64 (lb (f k) 1)) ∧ w.cell? ⟨b, o + k * 4 + 2, none⟩ = some (.int .u64 (lb (f k) 2)) ∧ w.cell? ⟨b, o + k * 4 + 3, none⟩ = some (.int .u64 (lb (f k) 3))

end Go.Proofs.YtcdmaapjcckbmaaDoor
