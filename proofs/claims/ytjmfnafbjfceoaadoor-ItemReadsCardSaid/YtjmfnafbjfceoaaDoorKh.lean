/- digest: Turn. -/
import Derived.Test.YtjmfnafbjfceoaaDoorKg
import Derived.Deep.WholeRow
import Derived.Laws.Tables
namespace Go.Proofs.YtjmfnafbjfceoaaDoor
open Go.RowKit
attribute [local irreducible] ln rot
theorem Blk.rangeFc {X : World} {g : Nat} {t : TypeId} {n : Nat} {f : Nat → Ln} (h : Blk X g t (Fc n f)) (m : Nat) (hm : m ≤ n) : X.rangeAt g 0 (Fc m f).toList := fun j v hv => by
  rw [Nat.zero_add]
  have hj : j < m := by
    have := (List.getElem?_eq_some_iff.1 hv).1
    rw [Array.length_toList, Fc_size] at this
    exact this
  have h1 := Fc_get m f j hj
  have h2 : (Fc m f)[j]? = some v := by simpa using hv
  rw [h1] at h2
  cases h2
  exact (cell_of_row X g j _ _ _ h).trans (Fc_get n f j (by omega))
theorem wpList_built {P : Program} {ops : Array Oper} {rest : List Oper} {o : Oper} {a : Act} {w : World} {Q : Exit → Act → World → Prop} (hg : o.guard = none) (t : TypeId) (parts : Array (Nat × Operand)) (ho : o.op = .build t parts)
    (cells : Array Value) (hc : P.built t (parts.map fun (i, x) => (i, a.eval x)).toList = some cells) (h : wpList P ops Q rest (a.put o.dst (.agg cells)) w) : wpList P ops Q (o :: rest) a w :=
  wpList_build hg t parts ho (by rw [hc]; rfl) (by rw [hc]; exact h)
end Go.Proofs.YtjmfnafbjfceoaaDoor
