/- split: Div and Mod of any two words. -/
import Derived.Test.YthdapmceafnhgaaSo
import Derived.Test.YthdapmceafnhgaaSq
import Derived.Test.YthdapmceafnhgaaSj
namespace Go.Proofs.Ythdapmceafnhgaa
open Go.RowKit
attribute [local go_sem] ix0 ix1 ix2 ix3
/-- How often, of numbers; nought by nought. -/
theorem div_all (a b : Nat) (ha : a < MM) (hb : b < MM) (w : World) :
    Calls Try.prog 11 #[W a, W b] w fun e w' => e = .returned (W (a / b)) ∧ Below w.heap.size w w' := by
  rcases Nat.eq_zero_or_pos b with rfl | h
  · rw [Nat.div_zero]; exact div_nought a w
  · exact div_any a b ha h hb w
def mdN (a b : Nat) : Nat := if b = 0 then 0 else a % b
theorem mod_all (a b : Nat) (ha : a < MM) (hb : b < MM) (w : World) :
    Calls Try.prog 12 #[W a, W b] w fun e w' => e = .returned (W (mdN a b)) ∧ Below w.heap.size w w' := by
  unfold mdN
  rcases Nat.eq_zero_or_pos b with rfl | h
  · rw [if_pos rfl]; exact mod_nought a w
  · rw [if_neg (by omega)]; exact mod_any a b ha h hb w
end Go.Proofs.Ythdapmceafnhgaa
