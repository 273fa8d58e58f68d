/- item's cards: the heads' table as it is laid; the world for the witness. -/
import Derived.Test.YtjmfnafbjfceoaaDoorJo
import Derived.Test.YtjmfnafbjfceoaaDoorWo
import Derived.Lib.LaidTab
namespace Go.Proofs.YtjmfnafbjfceoaaDoor
open Go.RowKit Go.ChangeShapes Go.WideShapes Go.ChangeAt

def headsC : Array Value := #[.int .u8 0, .int .u8 128, .int .u8 192]
noncomputable def laidW (os : Os) : World :=
  { World.holding Tryd.prog os ⟨#[], #[], []⟩ with heap := (((World.holding Tryd.prog os ⟨#[], #[], []⟩).heap.modify 1 (setC firstC)).modify 2 (setC rangesC)).modify 0 (setC headsC) }
theorem hd_of_laid {W : World} (h : laidMet Tryd.prog [("unicode/utf8.acceptRanges", Rows.laid_unicode_utf8_acceptRanges), ("excise/item.heads", Rows.laid_excise_item_heads), ("unicode/utf8.first", Rows.laid_unicode_utf8_first)] W) : HD W := by
  obtain ⟨ps, ⟨g0, t0, cs0, fuel0, p0, q0, _, _, _, _, hrest, _⟩, _⟩ := h
  obtain ⟨g', t', cs, fuel, p, q, hg', ht', hvar, hd, _, _⟩ := hrest
  have hgn : Tryd.prog.globalNamed "excise/item.heads" = some 0 := by kernel_rfl
  have hty : (Tryd.prog.globals[0]?).map (·.type) = some 95 := by kernel_rfl
  obtain rfl := Option.some.inj (hgn.symm.trans hg')
  obtain rfl := Option.some.inj (hty.symm.trans ht')
  have hcs := Lib.cells_of_tab (P := Tryd.prog) (k := .u8) (zs := [0, 128, 192]) (t := 95) (e := 5) (n := 3) (by kernel_rfl) (by kernel_rfl) (by kernel_rfl) (by kernel_rfl) hd
  intro j hj
  have hc := World.var?_cell hgn hvar j
  rw [hc, ← Array.getElem?_toList, hcs]
  match j, hj with
  | 0, _ => rfl
  | 1, _ => rfl
  | 2, _ => rfl
end Go.Proofs.YtjmfnafbjfceoaaDoor
