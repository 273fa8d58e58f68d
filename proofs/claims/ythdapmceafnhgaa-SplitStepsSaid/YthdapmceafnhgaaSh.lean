/- split: turned; the reference's twice. -/
import Derived.Test.YthdapmceafnhgaaSg
namespace Go.Proofs.Ythdapmceafnhgaa
open Go.RowKit
attribute [local go_sem] ix0 ix1 ix2 ix3
theorem turned_any (a : Nat) (t : Bool) (w : World) :
    Calls Try.prog 28 #[W a, .bool t] w fun e w' => e = .returned (W (if t then sb 0 a else a)) ∧ Below w.heap.size w w' := by
  cases t
  · go_enter Try.func28, Try.ntmps28
    go_wp2
    exact bodyPost_ret (v := W a) (by simp [results, Try.results28, go_sem]) rfl ⟨rfl, by first | exact balloc (balloc (Below.refl _ _) _) _ | exact balloc (Below.refl _ _) _⟩
  · have e : W 0 = .agg #[.int .u64 0, .int .u64 0, .int .u64 0, .int .u64 0] := W_zero
    have hs : ∀ w, Calls Try.prog 37 #[.agg #[.int .u64 0, .int .u64 0, .int .u64 0, .int .u64 0], W a] w fun e w' => e = .returned (W (sb 0 a)) ∧ Below w.heap.size w w' := fun w => by rw [← e]; exact sub_any 0 a w
    clear e
    have HR := Lib.hid (Blk.newS w (.cells (Wc a) 24) 24 #[.int .u64 0, .int .u64 0, .int .u64 0, .int .u64 0])
    go_enter Try.func28, Try.ntmps28
    go_wp2_with (first | (go_at_call 37; refine (hs _).mono ?_; rintro e w1 ⟨rfl, hk⟩; have hr2 := HR.out.keep hk; have hB2 := bstep (balloc (balloc (Below.refl _ _) _) _) hk; have r0 := cell_of_row w1 _ 0 _ _ _ hr2; have f0 := frozen_of_row w1 _ 0 _ _ hr2; have r1 := cell_of_row w1 _ 1 _ _ _ hr2; have f1 := frozen_of_row w1 _ 1 _ _ hr2; have r2 := cell_of_row w1 _ 2 _ _ _ hr2; have f2 := frozen_of_row w1 _ 2 _ _ hr2; have r3 := cell_of_row w1 _ 3 _ _ _ hr2; have f3 := frozen_of_row w1 _ 3 _ _ hr2; clear hr2) | fail)
    exact bodyPost_ret (v := W (sb 0 a)) (by simp [results, Try.results28, go_sem, r0, r1, r2, r3]) rfl ⟨rfl, (((hB2.setCell (p := ⟨w.heap.size + 1, 0, none⟩) (by simp) _).setCell (p := ⟨w.heap.size + 1, 1, none⟩) (by simp) _).setCell (p := ⟨w.heap.size + 1, 2, none⟩) (by simp) _).setCell (p := ⟨w.heap.size + 1, 3, none⟩) (by simp) _⟩
end Go.Proofs.Ythdapmceafnhgaa
