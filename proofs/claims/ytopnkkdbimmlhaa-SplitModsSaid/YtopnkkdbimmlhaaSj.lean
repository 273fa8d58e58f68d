/- split: Negative, Less. -/
import Derived.Test.YtopnkkdbimmlhaaSi
namespace Go.Proofs.Ytopnkkdbimmlhaa
open Go.RowKit
attribute [local go_sem] ix0 ix1 ix2 ix3

theorem sign1_new (a : Nat) (X : World) : Calls Try.prog 37 #[.slice (some ⟨X.heap.size, 0, none⟩) 1 1] (X.alloc (.cells (Wc a) 24)) fun e w' => e = .returned (.agg #[.bool (ngN a), .bool false]) ∧ Below X.heap.size X w' := by
  have h := Blk.new X 24 (Wc a)
  refine (signs1_any a X.heap.size 1 _ h.lt ((cell_of_row _ _ 3 _ _ _ h).trans (wc_get a 3 (by omega)))).mono ?_
  rintro e w' ⟨rfl, hb⟩
  exact ⟨rfl, bstep (balloc (Below.refl _ _) _) hb⟩
theorem sign2_new (a b : Nat) (X : World) : Calls Try.prog 37 #[.slice (some ⟨X.heap.size, 0, none⟩) 2 2] (X.alloc (.cells #[.int .u64 (lb a 0), .int .u64 (lb a 1), .int .u64 (lb a 2), .int .u64 (lb a 3), .int .u64 (lb b 0), .int .u64 (lb b 1), .int .u64 (lb b 2), .int .u64 (lb b 3)] 24)) fun e w' => e = .returned (.agg #[.bool (ngN a), .bool (ngN b)]) ∧ Below X.heap.size X w' := by
  have h := Blk.new X 24 #[.int .u64 (lb a 0), .int .u64 (lb a 1), .int .u64 (lb a 2), .int .u64 (lb a 3), .int .u64 (lb b 0), .int .u64 (lb b 1), .int .u64 (lb b 2), .int .u64 (lb b 3)]
  refine (signs2_any a b X.heap.size 2 _ h.lt ((cell_of_row _ _ 3 _ _ _ h).trans rfl) ((cell_of_row _ _ 7 _ _ _ h).trans rfl)).mono ?_
  rintro e w' ⟨rfl, hb⟩
  exact ⟨rfl, bstep (balloc (Below.refl _ _) _) hb⟩

theorem Blk.block_below {X Y : World} {g : Nat} {t : TypeId} {cs : Array Value} (h : Blk X g t cs) (k : Below X.heap.size X Y) : Blk Y g t cs := (k.block g h.lt).trans h
theorem sign1_at (a : Nat) (w : World) : Calls Try.prog 37 #[.slice (some ⟨w.heap.size + 1, 0, none⟩) 1 1] ((w.alloc (.cells (Wc a) 24)).alloc (.cells (Wc a) 24)) fun e w' => e = .returned (.agg #[.bool (ngN a), .bool false]) ∧ Below w.heap.size w w' := by
  have h := sign1_new a (w.alloc (.cells (Wc a) 24))
  rw [World.size_alloc] at h
  refine h.mono ?_
  rintro e w' ⟨rfl, hb⟩
  exact ⟨rfl, (balloc (Below.refl _ _) _).trans (hb.mono (by omega))⟩
theorem sign2_at (a b : Nat) (w : World) : Calls Try.prog 37 #[.slice (some ⟨w.heap.size + 1 + 1, 0, none⟩) 2 2] (((w.alloc (.cells (Wc a) 24)).alloc (.cells (Wc b) 24)).alloc (.cells #[.int .u64 (lb a 0), .int .u64 (lb a 1), .int .u64 (lb a 2), .int .u64 (lb a 3), .int .u64 (lb b 0), .int .u64 (lb b 1), .int .u64 (lb b 2), .int .u64 (lb b 3)] 24)) fun e w' => e = .returned (.agg #[.bool (ngN a), .bool (ngN b)]) ∧ Below ((w.alloc (.cells (Wc a) 24)).alloc (.cells (Wc b) 24)).heap.size ((w.alloc (.cells (Wc a) 24)).alloc (.cells (Wc b) 24)) w' := by
  have h := sign2_new a b ((w.alloc (.cells (Wc a) 24)).alloc (.cells (Wc b) 24))
  rw [World.size_alloc, World.size_alloc] at h
  rw [World.size_alloc, World.size_alloc]
  exact h
theorem ixb0 (x0 x1 : Value) (w : World) : (Instr.index 51 (.agg #[x0, x1]) (.int .i64 0)).run Try.prog w = .ok x0 w := by kernel_rfl
attribute [local go_sem] ixb0
theorem neg_any (a : Nat) (w : World) :
    Calls Try.prog 15 #[W a] w fun e w' => e = .returned (.bool (ngN a)) ∧ Below w.heap.size w w' := by
  go_enter Try.func15, Try.ntmps15
  go_wp2_with (first | (go_at_call 37; refine (sign1_at a w).mono ?_; rintro e w1 ⟨rfl, hk⟩) | fail)
  go_ret
  exact ⟨rfl, hk⟩
set_option maxHeartbeats 1000000 in
theorem less_any (a b : Nat) (ha : a < MM) (hb : b < MM) (w : World) :
    Calls Try.prog 17 #[W a, W b] w fun e w' => e = .returned (.bool (if ngN a = ngN b then decide (cmpN a b < 0) else ngN a)) ∧ Below w.heap.size w w' := by
  obtain ⟨x, hx⟩ : ∃ x, ngN a = x := ⟨_, rfl⟩
  obtain ⟨y, hy⟩ : ∃ y, ngN b = y := ⟨_, rfl⟩
  have h2 := sign2_at a b w
  rw [hx, hy] at h2
  rw [hx, hy]
  have HS := Lib.hid h2
  clear h2 hx hy
  have hA0 := Lib.hid ((Blk.new w 24 (Wc a)).alloc (.cells (Wc b) 24))
  have hB0 := Lib.hid (show Blk ((w.alloc (.cells (Wc a) 24)).alloc (.cells (Wc b) 24)) (w.heap.size + 1) 24 (Wc b) by have h := Blk.new (w.alloc (.cells (Wc a) 24)) 24 (Wc b); rwa [World.size_alloc] at h)
  cases x <;> cases y
  all_goals
    go_enter Try.func17, Try.ntmps17
    go_wp2_with (first | (go_at_call 37; refine HS.out.mono ?_; rintro e w1 ⟨rfl, hk⟩; have hA := (hA0.out.block_below hk); have hB := (hB0.out.block_below hk); have hW := (balloc (balloc (Below.refl w.heap.size w) (.cells (Wc a) 24)) (.cells (Wc b) 24)).trans (hk.mono (by simp; omega)); have cA0 := (cell_of_row w1 _ 0 _ _ _ hA).trans (wc_get a 0 (by omega)); have cB0 := (cell_of_row w1 _ 0 _ _ _ hB).trans (wc_get b 0 (by omega)); have cA1 := (cell_of_row w1 _ 1 _ _ _ hA).trans (wc_get a 1 (by omega)); have cB1 := (cell_of_row w1 _ 1 _ _ _ hB).trans (wc_get b 1 (by omega)); have cA2 := (cell_of_row w1 _ 2 _ _ _ hA).trans (wc_get a 2 (by omega)); have cB2 := (cell_of_row w1 _ 2 _ _ _ hB).trans (wc_get b 2 (by omega)); have cA3 := (cell_of_row w1 _ 3 _ _ _ hA).trans (wc_get a 3 (by omega)); have cB3 := (cell_of_row w1 _ 3 _ _ _ hB).trans (wc_get b 3 (by omega)); have hlA := hA.lt; have hlB := hB.lt; clear hA hB) | (go_at_call 40; refine (order_any a b ha hb _).mono ?_; rintro e w2 ⟨rfl, hk2⟩) | fail)
  all_goals
    go_ret
    first
      | exact ⟨rfl, bstep (balloc hW _) hk2⟩
      | exact ⟨rfl, balloc hW _⟩
end Go.Proofs.Ytopnkkdbimmlhaa
