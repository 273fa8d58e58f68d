/- split's reference: Divide of any word, Abs. -/
import Derived.Test.YtopnkkdbimmlhaaTq
namespace Go.Proofs.Ytopnkkdbimmlhaa
open Go.RowKit Go.Shelf
attribute [local go_sem] ix0 ix1 ix2 ix3

set_option maxHeartbeats 2000000 in
theorem rdivide_nought (a : Nat) (w : World) :
    Calls Try.prog 8 #[W a, .agg #[.int .u64 0, .int .u64 0, .int .u64 0, .int .u64 0]] w fun e w' => e = .returned (.tuple #[.agg #[.int .u64 0, .int .u64 0, .int .u64 0, .int .u64 0], .agg #[.int .u64 0, .int .u64 0, .int .u64 0, .int .u64 0]]) ∧ Below w.heap.size w w' := by
  have heq : ∀ w, (binOp .eql 24 (.agg #[.int .u64 0, .int .u64 0, .int .u64 0, .int .u64 0]) (.agg #[.int .u64 0, .int .u64 0, .int .u64 0, .int .u64 0])).run Try.prog w = .ok (.bool true) w := eq_sameW 0 0 0 0
  go_enter Try.func8, Try.ntmps8
  go_wp2_with fail
  go_region
  all_goals
    go_wp2
    exact bodyPost_ret (v := .tuple #[.agg #[.int .u64 0, .int .u64 0, .int .u64 0, .int .u64 0], .agg #[.int .u64 0, .int .u64 0, .int .u64 0, .int .u64 0]]) (by simp [results, Try.results8, go_sem]) rfl ⟨rfl, (balloc (balloc (balloc (balloc (balloc (balloc (Below.refl _ _) _) _) _) _) _) _).drew⟩
theorem rdivide_all (a b : Nat) (ha : a < MM) (hb : b < MM) (w : World) :
    Calls Try.prog 8 #[W a, W b] w fun e w' => e = .returned (.tuple #[W (a / b), W (mdN a b)]) ∧ Below w.heap.size w w' := by
  unfold mdN
  rcases Nat.eq_zero_or_pos b with rfl | h
  · rw [if_pos rfl, Nat.div_zero]
    have h := rdivide_nought a w
    rwa [← W_zero] at h
  · rw [if_neg (by omega)]
    exact rdivide_pos a b ha h hb w
set_option maxHeartbeats 1000000 in
theorem rabs_any (a : Nat) (w : World) :
    Calls Try.prog 39 #[W a] w fun e w' => e = .returned (W (tnN a (ngN a))) ∧ Below w.heap.size w w' := by
  have hn := rneg_any a
  have hs := fun w => rsub_any 0 a w
  rw [W_zero] at hs
  have HA0 := Lib.hid ((Blk.new w 24 (Wc a)).alloc (.cells #[.int .u64 0, .int .u64 0, .int .u64 0, .int .u64 0] 24))
  have HR0 := Lib.hid (Blk.newS w (.cells (Wc a) 24) 24 #[.int .u64 0, .int .u64 0, .int .u64 0, .int .u64 0])
  unfold tnN
  generalize ngN a = x at hn ⊢
  have HN := Lib.hid hn
  have HS := Lib.hid hs
  clear hn hs
  cases x
  all_goals
    go_enter Try.func39, Try.ntmps39
    go_wp2_with fail
    refine (HN.out _).mono ?_
    rintro e w1 ⟨rfl, h1⟩
    have A1 := HA0.out.keep h1
    have R1 := HR0.out.keep h1
    have hB := bstep (balloc (balloc (Below.refl w.heap.size w) (.cells (Wc a) 24)) (.cells #[.int .u64 0, .int .u64 0, .int .u64 0, .int .u64 0] 24)) h1
    have c0 := (cell_of_row w1 _ 0 _ _ _ A1).trans (wc_get a 0 (by omega))
    have c1 := (cell_of_row w1 _ 1 _ _ _ A1).trans (wc_get a 1 (by omega))
    have c2 := (cell_of_row w1 _ 2 _ _ _ A1).trans (wc_get a 2 (by omega))
    have c3 := (cell_of_row w1 _ 3 _ _ _ A1).trans (wc_get a 3 (by omega))
    have r0 := cell_of_row w1 _ 0 _ _ _ R1
    have r1 := cell_of_row w1 _ 1 _ _ _ R1
    have r2 := cell_of_row w1 _ 2 _ _ _ R1
    have r3 := cell_of_row w1 _ 3 _ _ _ R1
    have f0 := frozen_of_row w1 _ 0 _ _ R1
    have f1 := frozen_of_row w1 _ 1 _ _ R1
    have f2 := frozen_of_row w1 _ 2 _ _ R1
    have f3 := frozen_of_row w1 _ 3 _ _ R1
    have HR1 := Lib.hid R1
    have HB := Lib.hid hB
    clear A1 R1 hB h1 HA0 HR0
    go_wp2_with fail
  · exact bodyPost_ret (v := W a) (by simp [results, Try.results39, go_sem, r0, r1, r2, r3]) rfl ⟨rfl, (((HB.out.setCell (p := ⟨w.heap.size + 1, 0, none⟩) (by simp) _).setCell (p := ⟨w.heap.size + 1, 1, none⟩) (by simp) _).setCell (p := ⟨w.heap.size + 1, 2, none⟩) (by simp) _).setCell (p := ⟨w.heap.size + 1, 3, none⟩) (by simp) _⟩
  · refine (HS.out _).mono ?_
    rintro e w2 ⟨rfl, h2⟩
    have R2 := HR1.out.keep h2
    have hB := bstep HB.out h2
    clear c0 c1 c2 c3 r0 r1 r2 r3 f0 f1 f2 f3 h2 HR1 HB
    have r0 := cell_of_row w2 _ 0 _ _ _ R2
    have r1 := cell_of_row w2 _ 1 _ _ _ R2
    have r2 := cell_of_row w2 _ 2 _ _ _ R2
    have r3 := cell_of_row w2 _ 3 _ _ _ R2
    have f0 := frozen_of_row w2 _ 0 _ _ R2
    have f1 := frozen_of_row w2 _ 1 _ _ R2
    have f2 := frozen_of_row w2 _ 2 _ _ R2
    have f3 := frozen_of_row w2 _ 3 _ _ R2
    have HB := Lib.hid hB
    clear R2 hB
    go_wp2
    exact bodyPost_ret (v := W (sb 0 a)) (by simp [results, Try.results39, go_sem, r0, r1, r2, r3]) rfl ⟨rfl, (((HB.out.setCell (p := ⟨w.heap.size + 1, 0, none⟩) (by simp) _).setCell (p := ⟨w.heap.size + 1, 1, none⟩) (by simp) _).setCell (p := ⟨w.heap.size + 1, 2, none⟩) (by simp) _).setCell (p := ⟨w.heap.size + 1, 3, none⟩) (by simp) _⟩
end Go.Proofs.Ytopnkkdbimmlhaa
