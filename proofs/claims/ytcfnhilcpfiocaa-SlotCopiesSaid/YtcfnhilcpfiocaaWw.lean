/- The reference of layer word: Sub, Order, Small, by contracts. -/
import Derived.Test.YtcfnhilcpfiocaaWv
namespace Go.Proofs.Ytcfnhilcpfiocaa
open Go.RowKit
attribute [local go_sem] ix0 ix1 ix2 ix3
theorem rstepB {B : Nat} {W W1 w1 : World} (hB : B ≤ W.heap.size) (k : Below W1.heap.size W1 w1) (h : Below B W W1) : Below B W w1 := h.trans (k.mono (Nat.le_trans hB h.size))
theorem wc_one (n : Nat) : (Wc n).all (·.oneCell') = true := by
  rw [Array.all_eq_true_iff_forall_mem]
  intro v hv
  unfold Wc at hv
  simp only [List.mem_toArray, List.mem_cons, List.not_mem_nil, or_false] at hv
  rcases hv with rfl | rfl | rfl | rfl <;> rfl
theorem info_word : (Try.prog.info? 25).map (·.size) = some 4 := by kernel_rfl

end Go.Proofs.Ytcfnhilcpfiocaa
