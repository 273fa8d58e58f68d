/- split's reference: Less. -/
import Derived.Test.YtopnkkdbimmlhaaTr
import Derived.Deep.RegionHeld
namespace Go.Proofs.Ytopnkkdbimmlhaa
open Go.RowKit Go.Shelf
attribute [local go_sem] ix0 ix1 ix2 ix3
attribute [local irreducible] lb ngN

set_option maxHeartbeats 2000000 in
theorem rless_any (a b : Nat) (ha : a < MM) (hb : b < MM) (w : World) :
    Calls Try.prog 18 #[W a, W b] w fun e w' => e = .returned (.bool (if ngN a = ngN b then decide (cmpN a b < 0) else ngN a)) ∧ Below w.heap.size w w' := by
  have A : Blk ((w.alloc (.cells (Wc a) 24)).alloc (.cells (Wc b) 24)) w.heap.size 24 (Wc a) := (Blk.new _ _ _).alloc _
  have B : Blk ((w.alloc (.cells (Wc a) 24)).alloc (.cells (Wc b) 24)) (w.heap.size + 1) 24 (Wc b) := Blk.newS w _ _ _
  have hW : Below w.heap.size w ((w.alloc (.cells (Wc a) 24)).alloc (.cells (Wc b) 24)) := balloc (balloc (Below.refl _ _) _) _
  have hl : w.heap.size + 1 < ((w.alloc (.cells (Wc a) 24)).alloc (.cells (Wc b) 24)).heap.size := B.lt
  have HI := Lib.hid (And.intro A (And.intro B (And.intro hW hl)))
  have HM := Lib.hid (And.intro ha hb)
  obtain ⟨rv, hrv⟩ : ∃ rv, (if ngN a = ngN b then decide (cmpN a b < 0) else ngN a) = rv := ⟨_, rfl⟩
  rw [hrv]
  have HV := Lib.hid hrv
  clear A B hW hl ha hb hrv
  go_enter Try.func18, Try.ntmps18
  go_upto_region 1 with fail
  obtain ⟨W0, hW0⟩ : ∃ W0, (w.alloc (.cells (Wc a) 24)).alloc (.cells (Wc b) 24) = W0 := ⟨_, rfl⟩
  rw [hW0] at HI ⊢
  clear hW0
  obtain ⟨A, B, hW, hl⟩ := HI.out
  clear HI
  have cA0 : ∀ w', Below W0.heap.size W0 w' → w'.cell? ⟨w.heap.size, 0, none⟩ = some (.int .u64 (lb (a) 0)) := fun w' h => (cell_of_row _ _ 0 _ _ _ (A.block_below h)).trans rfl
  have cA1 : ∀ w', Below W0.heap.size W0 w' → w'.cell? ⟨w.heap.size, 1, none⟩ = some (.int .u64 (lb (a) 1)) := fun w' h => (cell_of_row _ _ 1 _ _ _ (A.block_below h)).trans rfl
  have cA2 : ∀ w', Below W0.heap.size W0 w' → w'.cell? ⟨w.heap.size, 2, none⟩ = some (.int .u64 (lb (a) 2)) := fun w' h => (cell_of_row _ _ 2 _ _ _ (A.block_below h)).trans rfl
  have cA3 : ∀ w', Below W0.heap.size W0 w' → w'.cell? ⟨w.heap.size, 3, none⟩ = some (.int .u64 (lb (a) 3)) := fun w' h => (cell_of_row _ _ 3 _ _ _ (A.block_below h)).trans rfl
  have cB0 : ∀ w', Below W0.heap.size W0 w' → w'.cell? ⟨w.heap.size + 1, 0, none⟩ = some (.int .u64 (lb (b) 0)) := fun w' h => (cell_of_row _ _ 0 _ _ _ (B.block_below h)).trans rfl
  have cB1 : ∀ w', Below W0.heap.size W0 w' → w'.cell? ⟨w.heap.size + 1, 1, none⟩ = some (.int .u64 (lb (b) 1)) := fun w' h => (cell_of_row _ _ 1 _ _ _ (B.block_below h)).trans rfl
  have cB2 : ∀ w', Below W0.heap.size W0 w' → w'.cell? ⟨w.heap.size + 1, 2, none⟩ = some (.int .u64 (lb (b) 2)) := fun w' h => (cell_of_row _ _ 2 _ _ _ (B.block_below h)).trans rfl
  have cB3 : ∀ w', Below W0.heap.size W0 w' → w'.cell? ⟨w.heap.size + 1, 3, none⟩ = some (.int .u64 (lb (b) 3)) := fun w' h => (cell_of_row _ _ 3 _ _ _ (B.block_below h)).trans rfl
  have h0 : Below W0.heap.size W0 W0.drew := (Below.refl _ _).drew
  have kA0 := Lib.hid cA0
  have kA1 := Lib.hid cA1
  have kA2 := Lib.hid cA2
  have kA3 := Lib.hid cA3
  have kB0 := Lib.hid cB0
  have kB1 := Lib.hid cB1
  have kB2 := Lib.hid cB2
  have kB3 := Lib.hid cB3
  have HW := Lib.hid hW
  have HL := Lib.hid hl
  clear A B hW hl
  go_region_held3 (fun w' => Below W0.heap.size W0 w') (first | assumption | exact rstep (by assumption) (by assumption))
    (first | (go_at_call 16; refine (rneg_any _ _).mono ?_; rintro e wk ⟨rfl, hk⟩; have hH : Below W0.heap.size W0 wk := rstep hk (by assumption)) | fail)
  all_goals
    have HH := Lib.hid hH
    clear HL cA0 cA1 cA2 cA3 cB0 cB1 cB2 cB3 h0 hH
    replace cA0 := kA0.out _ HH.out
    replace cA1 := kA1.out _ HH.out
    replace cA2 := kA2.out _ HH.out
    replace cA3 := kA3.out _ HH.out
    replace cB0 := kB0.out _ HH.out
    replace cB1 := kB1.out _ HH.out
    replace cB2 := kB2.out _ HH.out
    replace cB3 := kB3.out _ HH.out
    cases hx : ngN a <;> cases hy : ngN b
    all_goals
      have HR := Lib.hid (And.intro hx hy)
      clear hx hy
      go_wp2_with (first | (go_at_call 27; refine (rorder_any a b HM.out.1 HM.out.2 _).mono ?_; rintro e wk2 ⟨rfl, hk2⟩) | (go_at_call 16; refine (rneg_any a _).mono ?_; rintro e wk2 ⟨rfl, hk2⟩) | fail)
      go_ret
      exact ⟨by rw [← HV.out, HR.out.1, HR.out.2]; rfl, bstep (bstep HW.out HH.out) hk2⟩
end Go.Proofs.Ytopnkkdbimmlhaa
