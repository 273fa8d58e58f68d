/- bits: two words that a call lays out as a slice. -/
import Derived.Test.YthjbiojbmjgkbaaDoorBc
namespace Go.Proofs.YthjbiojbmjgkbaaDoor
open Go.RowKit

/-- Two words in a row. -/
abbrev W2c (p q : Nat) : Array Value := #[.int .u64 (lb p 0), .int .u64 (lb p 1), .int .u64 (lb p 2), .int .u64 (lb p 3), .int .u64 (lb q 0), .int .u64 (lb q 1), .int .u64 (lb q 2), .int .u64 (lb q 3)]
def two2 (p q : Nat) : Nat → Nat := fun k => if k = 0 then p else q
theorem two_at {w : World} {b : Nat} {t : TypeId} {p q : Nat} (h : Blk w b t (W2c p q)) : WordsAt w b 0 2 (two2 p q) := fun k hk => by
  have h0 := cell_of_row _ _ 0 _ _ _ h
  have h1 := cell_of_row _ _ 1 _ _ _ h
  have h2 := cell_of_row _ _ 2 _ _ _ h
  have h3 := cell_of_row _ _ 3 _ _ _ h
  have h4 := cell_of_row _ _ 4 _ _ _ h
  have h5 := cell_of_row _ _ 5 _ _ _ h
  have h6 := cell_of_row _ _ 6 _ _ _ h
  have h7 := cell_of_row _ _ 7 _ _ _ h
  rcases (show k = 0 ∨ k = 1 by omega) with rfl | rfl
  · exact ⟨h0, h1, h2, h3⟩
  · exact ⟨h4, h5, h6, h7⟩
theorem and_two (p q : Nat) (hp : p < MM) : andN (two2 p q) 2 = p &&& q := by
  have hm : MM - 1 < MM := by have := MM_pos; omega
  show ((MM - 1) &&& p) &&& q = _
  rw [show (MM - 1) &&& p = p from word_eq _ _ (and_lt _ _ hm hp) hp (fun j hj => by rw [Nat.testBit_and, all_bit j hj, Bool.true_and])]
theorem or_two (p q : Nat) : orN (two2 p q) 2 = p ||| q := by
  show (0 ||| p) ||| q = _
  rw [Nat.zero_or]
theorem xor_two (p q : Nat) : xorN (two2 p q) 2 = p ^^^ q := by
  show (0 ^^^ p) ^^^ q = _
  rw [Nat.zero_xor]
theorem and2 (p q cap : Nat) (hp : p < MM) (w : World) {t : TypeId} : Calls Tryd.prog 12 #[.slice (some ⟨w.heap.size, 0, none⟩) 2 cap] (w.alloc (.cells (W2c p q) t)) fun e w' => e = .returned (W (p &&& q)) ∧ Below (w.alloc (.cells (W2c p q) t)).heap.size (w.alloc (.cells (W2c p q) t)) w' := by
  rw [← and_two p q hp]
  exact and_any w.heap.size 0 2 cap (two2 p q) _ (by omega) (by simp) (two_at (Blk.new w t _))
theorem or2 (p q cap : Nat) (w : World) {t : TypeId} : Calls Tryd.prog 14 #[.slice (some ⟨w.heap.size, 0, none⟩) 2 cap] (w.alloc (.cells (W2c p q) t)) fun e w' => e = .returned (W (p ||| q)) ∧ Below (w.alloc (.cells (W2c p q) t)).heap.size (w.alloc (.cells (W2c p q) t)) w' := by
  rw [← or_two p q]
  exact or_any w.heap.size 0 2 cap (two2 p q) _ (by omega) (by simp) (two_at (Blk.new w t _))
theorem xor2 (p q cap : Nat) (w : World) {t : TypeId} : Calls Tryd.prog 15 #[.slice (some ⟨w.heap.size, 0, none⟩) 2 cap] (w.alloc (.cells (W2c p q) t)) fun e w' => e = .returned (W (p ^^^ q)) ∧ Below (w.alloc (.cells (W2c p q) t)).heap.size (w.alloc (.cells (W2c p q) t)) w' := by
  rw [← xor_two p q]
  exact xor_any w.heap.size 0 2 cap (two2 p q) _ (by omega) (by simp) (two_at (Blk.new w t _))
end Go.Proofs.YthjbiojbmjgkbaaDoor
