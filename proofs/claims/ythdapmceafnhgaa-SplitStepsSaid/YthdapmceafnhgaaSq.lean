/- split: Div, Mod by nought. -/
import Derived.Test.YthdapmceafnhgaaSp
import Derived.Test.YthdapmceafnhgaaSf
import Derived.Deep.RegionLaw
namespace Go.Proofs.Ythdapmceafnhgaa
open Go.RowKit
attribute [local go_sem] ix0 ix1 ix2 ix3
set_option maxRecDepth 100000 in
set_option maxHeartbeats 2000000 in
theorem div_nought (a : Nat) (w : World) :
    Calls Try.prog 11 #[W a, W 0] w fun e w' => e = .returned (W (0)) ∧ Below w.heap.size w w' := by
  go_enter Try.func11, Try.ntmps11
  go_wp2_with fail
  have A : Blk (((w.alloc (.cells (Wc a) 24)).alloc (.cells (Wc 0) 24)).alloc (.cells (Wc 0) 24)) w.heap.size 24 (Wc a) := ((Blk.new _ _ _).alloc _).alloc _
  have B : Blk (((w.alloc (.cells (Wc a) 24)).alloc (.cells (Wc 0) 24)).alloc (.cells (Wc 0) 24)) (w.heap.size + 1) 24 (Wc 0) := (Blk.newS w _ _ _).alloc _
  have R : Blk (((w.alloc (.cells (Wc a) 24)).alloc (.cells (Wc 0) 24)).alloc (.cells (Wc 0) 24)) (w.heap.size + 1 + 1) 24 (Wc 0) := by
    have h := Blk.newS (w.alloc (.cells (Wc a) 24)) (.cells (Wc 0) 24) 24 (Wc 0)
    rwa [World.size_alloc] at h
  have hW : Below w.heap.size w (((w.alloc (.cells (Wc a) 24)).alloc (.cells (Wc 0) 24)).alloc (.cells (Wc 0) 24)) := balloc (balloc (balloc (Below.refl _ _) _) _) _
  have e0 : Wc 0 = #[.int .u64 0, .int .u64 0, .int .u64 0, .int .u64 0] := by unfold Wc; simp only [lb_zero]
  obtain ⟨W0, hW0⟩ : ∃ W0, ((w.alloc (.cells (Wc a) 24)).alloc (.cells (Wc 0) 24)).alloc (.cells (Wc 0) 24) = W0 := ⟨_, rfl⟩
  rw [hW0] at A B R hW
  have hW1 : ((w.alloc (.cells (Wc a) 24)).alloc (.cells (Wc 0) 24)).alloc (.cells #[.int .u64 0, .int .u64 0, .int .u64 0, .int .u64 0] 24) = W0 := by rw [← e0]; exact hW0
  rw [hW1]
  clear hW0 hW1 e0
  have cA0 : ∀ w', Below W0.heap.size W0 w' → w'.cell? ⟨w.heap.size, 0, none⟩ = some (.int .u64 (lb a 0)) := fun w' h => (h.cell (p := ⟨w.heap.size, 0, none⟩) A.lt).trans (cell_of_row _ _ 0 _ _ _ A)
  have cA1 : ∀ w', Below W0.heap.size W0 w' → w'.cell? ⟨w.heap.size, 1, none⟩ = some (.int .u64 (lb a 1)) := fun w' h => (h.cell (p := ⟨w.heap.size, 1, none⟩) A.lt).trans (cell_of_row _ _ 1 _ _ _ A)
  have cA2 : ∀ w', Below W0.heap.size W0 w' → w'.cell? ⟨w.heap.size, 2, none⟩ = some (.int .u64 (lb a 2)) := fun w' h => (h.cell (p := ⟨w.heap.size, 2, none⟩) A.lt).trans (cell_of_row _ _ 2 _ _ _ A)
  have cA3 : ∀ w', Below W0.heap.size W0 w' → w'.cell? ⟨w.heap.size, 3, none⟩ = some (.int .u64 (lb a 3)) := fun w' h => (h.cell (p := ⟨w.heap.size, 3, none⟩) A.lt).trans (cell_of_row _ _ 3 _ _ _ A)
  have cB0 : ∀ w', Below W0.heap.size W0 w' → w'.cell? ⟨w.heap.size + 1, 0, none⟩ = some (.int .u64 (lb 0 0)) := fun w' h => (h.cell (p := ⟨w.heap.size + 1, 0, none⟩) B.lt).trans (cell_of_row _ _ 0 _ _ _ B)
  have cB1 : ∀ w', Below W0.heap.size W0 w' → w'.cell? ⟨w.heap.size + 1, 1, none⟩ = some (.int .u64 (lb 0 1)) := fun w' h => (h.cell (p := ⟨w.heap.size + 1, 1, none⟩) B.lt).trans (cell_of_row _ _ 1 _ _ _ B)
  have cB2 : ∀ w', Below W0.heap.size W0 w' → w'.cell? ⟨w.heap.size + 1, 2, none⟩ = some (.int .u64 (lb 0 2)) := fun w' h => (h.cell (p := ⟨w.heap.size + 1, 2, none⟩) B.lt).trans (cell_of_row _ _ 2 _ _ _ B)
  have cB3 : ∀ w', Below W0.heap.size W0 w' → w'.cell? ⟨w.heap.size + 1, 3, none⟩ = some (.int .u64 (lb 0 3)) := fun w' h => (h.cell (p := ⟨w.heap.size + 1, 3, none⟩) B.lt).trans (cell_of_row _ _ 3 _ _ _ B)
  have cR0 : ∀ w', Below W0.heap.size W0 w' → w'.cell? ⟨w.heap.size + 1 + 1, 0, none⟩ = some (.int .u64 (lb 0 0)) := fun w' h => (h.cell (p := ⟨w.heap.size + 1 + 1, 0, none⟩) R.lt).trans (cell_of_row _ _ 0 _ _ _ R)
  have f0 : ∀ w', Below W0.heap.size W0 w' → w'.frozen? ⟨w.heap.size + 1 + 1, 0, none⟩ = false := fun w' h => frozen_of_row w' _ 0 _ _ (R.keep h)
  have cR1 : ∀ w', Below W0.heap.size W0 w' → w'.cell? ⟨w.heap.size + 1 + 1, 1, none⟩ = some (.int .u64 (lb 0 1)) := fun w' h => (h.cell (p := ⟨w.heap.size + 1 + 1, 1, none⟩) R.lt).trans (cell_of_row _ _ 1 _ _ _ R)
  have f1 : ∀ w', Below W0.heap.size W0 w' → w'.frozen? ⟨w.heap.size + 1 + 1, 1, none⟩ = false := fun w' h => frozen_of_row w' _ 1 _ _ (R.keep h)
  have cR2 : ∀ w', Below W0.heap.size W0 w' → w'.cell? ⟨w.heap.size + 1 + 1, 2, none⟩ = some (.int .u64 (lb 0 2)) := fun w' h => (h.cell (p := ⟨w.heap.size + 1 + 1, 2, none⟩) R.lt).trans (cell_of_row _ _ 2 _ _ _ R)
  have f2 : ∀ w', Below W0.heap.size W0 w' → w'.frozen? ⟨w.heap.size + 1 + 1, 2, none⟩ = false := fun w' h => frozen_of_row w' _ 2 _ _ (R.keep h)
  have cR3 : ∀ w', Below W0.heap.size W0 w' → w'.cell? ⟨w.heap.size + 1 + 1, 3, none⟩ = some (.int .u64 (lb 0 3)) := fun w' h => (h.cell (p := ⟨w.heap.size + 1 + 1, 3, none⟩) R.lt).trans (cell_of_row _ _ 3 _ _ _ R)
  have f3 : ∀ w', Below W0.heap.size W0 w' → w'.frozen? ⟨w.heap.size + 1 + 1, 3, none⟩ = false := fun w' h => frozen_of_row w' _ 3 _ _ (R.keep h)
  have h0 : Below W0.heap.size W0 W0.drew := (Below.refl _ _).drew
  have HW := Lib.hid hW
  clear A B R hW
  go_region_law (first | (go_simp; go_at_call 24; refine (divide_nought _ 4 4 _).mono ?_; rintro e wk1 ⟨rfl, hk1⟩; have hH1 : Below W0.heap.size W0 wk1 := rstep hk1 (by assumption)) | (go_simp; go_at_call 23; refine (told_quot 0 0 _).mono ?_; rintro e wk2 ⟨rfl, hk2⟩; have hH2 : Below W0.heap.size W0 wk2 := rstep hk2 (by assumption)))
  all_goals
    go_wp2
    exact bodyPost_ret (v := W (0)) (by simp [results, Try.results11, go_sem, cR0 _ hH2, cR1 _ hH2, cR2 _ hH2, cR3 _ hH2]) rfl ⟨rfl, ((((bstep HW.out hH2).setCell (p := ⟨w.heap.size + 1 + 1, 0, none⟩) (by simp; omega) _).setCell (p := ⟨w.heap.size + 1 + 1, 1, none⟩) (by simp; omega) _).setCell (p := ⟨w.heap.size + 1 + 1, 2, none⟩) (by simp; omega) _).setCell (p := ⟨w.heap.size + 1 + 1, 3, none⟩) (by simp; omega) _⟩

set_option maxRecDepth 100000 in
set_option maxHeartbeats 2000000 in
theorem mod_nought (a : Nat) (w : World) :
    Calls Try.prog 12 #[W a, W 0] w fun e w' => e = .returned (W (0)) ∧ Below w.heap.size w w' := by
  go_enter Try.func12, Try.ntmps12
  go_wp2_with fail
  have A : Blk (((w.alloc (.cells (Wc a) 24)).alloc (.cells (Wc 0) 24)).alloc (.cells (Wc 0) 24)) w.heap.size 24 (Wc a) := ((Blk.new _ _ _).alloc _).alloc _
  have B : Blk (((w.alloc (.cells (Wc a) 24)).alloc (.cells (Wc 0) 24)).alloc (.cells (Wc 0) 24)) (w.heap.size + 1) 24 (Wc 0) := (Blk.newS w _ _ _).alloc _
  have R : Blk (((w.alloc (.cells (Wc a) 24)).alloc (.cells (Wc 0) 24)).alloc (.cells (Wc 0) 24)) (w.heap.size + 1 + 1) 24 (Wc 0) := by
    have h := Blk.newS (w.alloc (.cells (Wc a) 24)) (.cells (Wc 0) 24) 24 (Wc 0)
    rwa [World.size_alloc] at h
  have hW : Below w.heap.size w (((w.alloc (.cells (Wc a) 24)).alloc (.cells (Wc 0) 24)).alloc (.cells (Wc 0) 24)) := balloc (balloc (balloc (Below.refl _ _) _) _) _
  have e0 : Wc 0 = #[.int .u64 0, .int .u64 0, .int .u64 0, .int .u64 0] := by unfold Wc; simp only [lb_zero]
  obtain ⟨W0, hW0⟩ : ∃ W0, ((w.alloc (.cells (Wc a) 24)).alloc (.cells (Wc 0) 24)).alloc (.cells (Wc 0) 24) = W0 := ⟨_, rfl⟩
  rw [hW0] at A B R hW
  have hW1 : ((w.alloc (.cells (Wc a) 24)).alloc (.cells (Wc 0) 24)).alloc (.cells #[.int .u64 0, .int .u64 0, .int .u64 0, .int .u64 0] 24) = W0 := by rw [← e0]; exact hW0
  rw [hW1]
  clear hW0 hW1 e0
  have cA0 : ∀ w', Below W0.heap.size W0 w' → w'.cell? ⟨w.heap.size, 0, none⟩ = some (.int .u64 (lb a 0)) := fun w' h => (h.cell (p := ⟨w.heap.size, 0, none⟩) A.lt).trans (cell_of_row _ _ 0 _ _ _ A)
  have cA1 : ∀ w', Below W0.heap.size W0 w' → w'.cell? ⟨w.heap.size, 1, none⟩ = some (.int .u64 (lb a 1)) := fun w' h => (h.cell (p := ⟨w.heap.size, 1, none⟩) A.lt).trans (cell_of_row _ _ 1 _ _ _ A)
  have cA2 : ∀ w', Below W0.heap.size W0 w' → w'.cell? ⟨w.heap.size, 2, none⟩ = some (.int .u64 (lb a 2)) := fun w' h => (h.cell (p := ⟨w.heap.size, 2, none⟩) A.lt).trans (cell_of_row _ _ 2 _ _ _ A)
  have cA3 : ∀ w', Below W0.heap.size W0 w' → w'.cell? ⟨w.heap.size, 3, none⟩ = some (.int .u64 (lb a 3)) := fun w' h => (h.cell (p := ⟨w.heap.size, 3, none⟩) A.lt).trans (cell_of_row _ _ 3 _ _ _ A)
  have cB0 : ∀ w', Below W0.heap.size W0 w' → w'.cell? ⟨w.heap.size + 1, 0, none⟩ = some (.int .u64 (lb 0 0)) := fun w' h => (h.cell (p := ⟨w.heap.size + 1, 0, none⟩) B.lt).trans (cell_of_row _ _ 0 _ _ _ B)
  have cB1 : ∀ w', Below W0.heap.size W0 w' → w'.cell? ⟨w.heap.size + 1, 1, none⟩ = some (.int .u64 (lb 0 1)) := fun w' h => (h.cell (p := ⟨w.heap.size + 1, 1, none⟩) B.lt).trans (cell_of_row _ _ 1 _ _ _ B)
  have cB2 : ∀ w', Below W0.heap.size W0 w' → w'.cell? ⟨w.heap.size + 1, 2, none⟩ = some (.int .u64 (lb 0 2)) := fun w' h => (h.cell (p := ⟨w.heap.size + 1, 2, none⟩) B.lt).trans (cell_of_row _ _ 2 _ _ _ B)
  have cB3 : ∀ w', Below W0.heap.size W0 w' → w'.cell? ⟨w.heap.size + 1, 3, none⟩ = some (.int .u64 (lb 0 3)) := fun w' h => (h.cell (p := ⟨w.heap.size + 1, 3, none⟩) B.lt).trans (cell_of_row _ _ 3 _ _ _ B)
  have cR0 : ∀ w', Below W0.heap.size W0 w' → w'.cell? ⟨w.heap.size + 1 + 1, 0, none⟩ = some (.int .u64 (lb 0 0)) := fun w' h => (h.cell (p := ⟨w.heap.size + 1 + 1, 0, none⟩) R.lt).trans (cell_of_row _ _ 0 _ _ _ R)
  have f0 : ∀ w', Below W0.heap.size W0 w' → w'.frozen? ⟨w.heap.size + 1 + 1, 0, none⟩ = false := fun w' h => frozen_of_row w' _ 0 _ _ (R.keep h)
  have cR1 : ∀ w', Below W0.heap.size W0 w' → w'.cell? ⟨w.heap.size + 1 + 1, 1, none⟩ = some (.int .u64 (lb 0 1)) := fun w' h => (h.cell (p := ⟨w.heap.size + 1 + 1, 1, none⟩) R.lt).trans (cell_of_row _ _ 1 _ _ _ R)
  have f1 : ∀ w', Below W0.heap.size W0 w' → w'.frozen? ⟨w.heap.size + 1 + 1, 1, none⟩ = false := fun w' h => frozen_of_row w' _ 1 _ _ (R.keep h)
  have cR2 : ∀ w', Below W0.heap.size W0 w' → w'.cell? ⟨w.heap.size + 1 + 1, 2, none⟩ = some (.int .u64 (lb 0 2)) := fun w' h => (h.cell (p := ⟨w.heap.size + 1 + 1, 2, none⟩) R.lt).trans (cell_of_row _ _ 2 _ _ _ R)
  have f2 : ∀ w', Below W0.heap.size W0 w' → w'.frozen? ⟨w.heap.size + 1 + 1, 2, none⟩ = false := fun w' h => frozen_of_row w' _ 2 _ _ (R.keep h)
  have cR3 : ∀ w', Below W0.heap.size W0 w' → w'.cell? ⟨w.heap.size + 1 + 1, 3, none⟩ = some (.int .u64 (lb 0 3)) := fun w' h => (h.cell (p := ⟨w.heap.size + 1 + 1, 3, none⟩) R.lt).trans (cell_of_row _ _ 3 _ _ _ R)
  have f3 : ∀ w', Below W0.heap.size W0 w' → w'.frozen? ⟨w.heap.size + 1 + 1, 3, none⟩ = false := fun w' h => frozen_of_row w' _ 3 _ _ (R.keep h)
  have h0 : Below W0.heap.size W0 W0.drew := (Below.refl _ _).drew
  have HW := Lib.hid hW
  clear A B R hW
  go_region_law (first | (go_simp; go_at_call 24; refine (divide_nought _ 4 4 _).mono ?_; rintro e wk1 ⟨rfl, hk1⟩; have hH1 : Below W0.heap.size W0 wk1 := rstep hk1 (by assumption)) | (go_simp; go_at_call 23; refine (told_rest 0 0 _).mono ?_; rintro e wk2 ⟨rfl, hk2⟩; have hH2 : Below W0.heap.size W0 wk2 := rstep hk2 (by assumption)))
  all_goals
    go_wp2
    exact bodyPost_ret (v := W (0)) (by simp [results, Try.results12, go_sem, cR0 _ hH2, cR1 _ hH2, cR2 _ hH2, cR3 _ hH2]) rfl ⟨rfl, ((((bstep HW.out hH2).setCell (p := ⟨w.heap.size + 1 + 1, 0, none⟩) (by simp; omega) _).setCell (p := ⟨w.heap.size + 1 + 1, 1, none⟩) (by simp; omega) _).setCell (p := ⟨w.heap.size + 1 + 1, 2, none⟩) (by simp; omega) _).setCell (p := ⟨w.heap.size + 1 + 1, 3, none⟩) (by simp; omega) _⟩
end Go.Proofs.Ythdapmceafnhgaa
