/- policy's laws: a line of words. -/
import Derived.Test.YtenepkgjdoddgaaGreatDoorNa
namespace Go.Proofs.YtenepkgjdoddgaaGreatDoor
open Go.RowKit Go.Shelf

set_option maxRecDepth 100000 in
theorem pline_any (bk o c : Nat) (xs : List ByteArray) (J : ByteArray) (m : Nat) (w : World) (hcells : ∀ (j : Nat) x, xs[j]? = some x → w.cell? ⟨bk, o + j, none⟩ = some (.string x)) (hbk : bk < w.heap.size) (hN : xs.length ≤ 100) (hcap : xs.length ≤ c)
    (hJ : (⟨(Lib.join (xs.map (·.data.toList)) [32]).toArray⟩ : ByteArray) = J) (hz : J.size ≤ 100000) (hm : xs.length = m) :
    Calls Tryz.prog 49 #[.slice (some ⟨bk, o, none⟩) m c] w fun e w' => e = .returned (.string (J ++ ⟨#[10]⟩)) ∧ Below w.heap.size w w' := by
  have hl : (Lib.join (xs.map (·.data.toList)) [32]).length ≤ 100000 := by
    rw [← hJ] at hz
    simpa [ByteArray.size] using hz
  have h := join_sp bk o c xs ⟨#[32]⟩ w hcells hbk hN hcap hl
  rw [show (⟨#[32]⟩ : ByteArray).data.toList = [32] from rfl, hJ, hm] at h
  have H := Lib.hid h
  clear h hJ hl hcells hbk hN hcap hm
  go_enter Tryz.func49, Tryz.ntmps49
  go_wp2_with (first | (go_at_call 80; refine H.out.mono ?_; rintro e w1 ⟨rfl, h1⟩; have H1 := Lib.hid h1; clear h1) | fail)
  go_ret
  exact ⟨rfl, H1.out⟩
end Go.Proofs.YtenepkgjdoddgaaGreatDoor
