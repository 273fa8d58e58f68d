/- split: Negative, Less. -/
import Derived.Test.YthdapmceafnhgaaSi
namespace Go.Proofs.Ythdapmceafnhgaa
open Go.RowKit
attribute [local go_sem] ix0 ix1 ix2 ix3
theorem sign1_new (a : Nat) (X : World) : Calls Try.prog 27 #[.slice (some ⟨X.heap.size, 0, none⟩) 1 1] (X.alloc (.cells (Wc a) 24)) fun e w' => e = .returned (.agg #[.bool (ngN a), .bool false]) ∧ Below X.heap.size X w' := by
  have h := Blk.new X 24 (Wc a)
  refine (signs1_any a X.heap.size 1 _ h.lt ((cell_of_row _ _ 3 _ _ _ h).trans (wc_get a 3 (by omega)))).mono ?_
  rintro e w' ⟨rfl, hb⟩
  exact ⟨rfl, bstep (balloc (Below.refl _ _) _) hb⟩
theorem sign2_new (a b : Nat) (X : World) : Calls Try.prog 27 #[.slice (some ⟨X.heap.size, 0, none⟩) 2 2] (X.alloc (.cells #[.int .u64 (lb a 0), .int .u64 (lb a 1), .int .u64 (lb a 2), .int .u64 (lb a 3), .int .u64 (lb b 0), .int .u64 (lb b 1), .int .u64 (lb b 2), .int .u64 (lb b 3)] 24)) fun e w' => e = .returned (.agg #[.bool (ngN a), .bool (ngN b)]) ∧ Below X.heap.size X w' := by
  have h := Blk.new X 24 #[.int .u64 (lb a 0), .int .u64 (lb a 1), .int .u64 (lb a 2), .int .u64 (lb a 3), .int .u64 (lb b 0), .int .u64 (lb b 1), .int .u64 (lb b 2), .int .u64 (lb b 3)]
  refine (signs2_any a b X.heap.size 2 _ h.lt ((cell_of_row _ _ 3 _ _ _ h).trans rfl) ((cell_of_row _ _ 7 _ _ _ h).trans rfl)).mono ?_
  rintro e w' ⟨rfl, hb⟩
  exact ⟨rfl, bstep (balloc (Below.refl _ _) _) hb⟩

theorem Blk.block_below {X Y : World} {g : Nat} {t : TypeId} {cs : Array Value} (h : Blk X g t cs) (k : Below X.heap.size X Y) : Blk Y g t cs := (k.block g h.lt).trans h
theorem sign1_at (a : Nat) (w : World) : Calls Try.prog 27 #[.slice (some ⟨w.heap.size + 1, 0, none⟩) 1 1] ((w.alloc (.cells (Wc a) 24)).alloc (.cells (Wc a) 24)) fun e w' => e = .returned (.agg #[.bool (ngN a), .bool false]) ∧ Below w.heap.size w w' := by
  have h := sign1_new a (w.alloc (.cells (Wc a) 24))
  rw [World.size_alloc] at h
  refine h.mono ?_
  rintro e w' ⟨rfl, hb⟩
  exact ⟨rfl, (balloc (Below.refl _ _) _).trans (hb.mono (by omega))⟩
theorem sign2_at (a b : Nat) (w : World) : Calls Try.prog 27 #[.slice (some ⟨w.heap.size + 1 + 1, 0, none⟩) 2 2] (((w.alloc (.cells (Wc a) 24)).alloc (.cells (Wc b) 24)).alloc (.cells #[.int .u64 (lb a 0), .int .u64 (lb a 1), .int .u64 (lb a 2), .int .u64 (lb a 3), .int .u64 (lb b 0), .int .u64 (lb b 1), .int .u64 (lb b 2), .int .u64 (lb b 3)] 24)) fun e w' => e = .returned (.agg #[.bool (ngN a), .bool (ngN b)]) ∧ Below ((w.alloc (.cells (Wc a) 24)).alloc (.cells (Wc b) 24)).heap.size ((w.alloc (.cells (Wc a) 24)).alloc (.cells (Wc b) 24)) w' := by
  have h := sign2_new a b ((w.alloc (.cells (Wc a) 24)).alloc (.cells (Wc b) 24))
  rw [World.size_alloc, World.size_alloc] at h
  rw [World.size_alloc, World.size_alloc]
  exact h
theorem ixb0 (x0 x1 : Value) (w : World) : (Instr.index 56 (.agg #[x0, x1]) (.int .i64 0)).run Try.prog w = .ok x0 w := by kernel_rfl
attribute [local go_sem] ixb0
end Go.Proofs.Ythdapmceafnhgaa
