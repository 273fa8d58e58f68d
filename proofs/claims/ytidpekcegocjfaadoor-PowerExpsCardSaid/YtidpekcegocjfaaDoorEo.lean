/- power's law: PowerExps: the walk. -/
import Derived.Test.YtidpekcegocjfaaDoorEl
namespace Go.Proofs.YtidpekcegocjfaaDoor
open Go.RowKit
attribute [local go_sem] ix0 ix1 ix2 ix3
attribute [local irreducible] lb pwN wdN sqF
set_option maxRecDepth 100000 in
set_option maxHeartbeats 4000000 in
theorem exps_walk (a n : Nat) (hn : n < MM) (w : World) (hT : TZ w) :
    Calls Tryd.prog 3 #[W a, W n] w fun e w' => e = .returned (.bool true) ∧ Below w.heap.size w w' := by
  have HT := Lib.hid hT
  have h0 := fun w hT => exp_pw a n hn w hT
  have h1 := fun w => rexp_any a n w
  obtain ⟨z, hz⟩ : ∃ z, pwN a n = z := ⟨_, rfl⟩
  rw [hz] at h0 h1
  have h2 := fun w => wide_any a w
  have h3 := fun w => rwide_any a w
  obtain ⟨y, hy⟩ : ∃ y, wdN a = y := ⟨_, rfl⟩
  rw [hy] at h2 h3
  have H1 := Lib.hid h1
  have H2 := Lib.hid h2
  have H3 := Lib.hid h3
  have A := Lib.hid ((Blk.new w 24 (Wc a)).alloc (.cells (Wc n) 24))
  have B := Lib.hid (Blk.newS w (.cells (Wc a) 24) 24 (Wc n))
  have hW := Lib.hid (balloc (balloc (Below.refl w.heap.size w) (.cells (Wc a) 24)) (.cells (Wc n) 24))
  have HE0 := Lib.hid h0
  clear hT h0 h1 h2 h3 hn hz hy
  go_enter Tryd.func3, Tryd.ntmps3
  go_wp2_with fail
  have A' := A.out
  have B' := B.out
  have hW' := hW.out
  obtain ⟨W0, hW0⟩ : ∃ W0, (w.alloc (.cells (Wc a) 24)).alloc (.cells (Wc n) 24) = W0 := ⟨_, rfl⟩
  rw [hW0] at A' B' hW' ⊢
  clear hW0 A B hW
  have cn0 : ∀ w', Below W0.heap.size W0 w' → w'.cell? ⟨w.heap.size, 0, none⟩ = some (.int .u64 (lb a 0)) := fun w' h => (A'.keep h).get4.1
  have cn1 : ∀ w', Below W0.heap.size W0 w' → w'.cell? ⟨w.heap.size, 1, none⟩ = some (.int .u64 (lb a 1)) := fun w' h => (A'.keep h).get4.2.1
  have cn2 : ∀ w', Below W0.heap.size W0 w' → w'.cell? ⟨w.heap.size, 2, none⟩ = some (.int .u64 (lb a 2)) := fun w' h => (A'.keep h).get4.2.2.1
  have cn3 : ∀ w', Below W0.heap.size W0 w' → w'.cell? ⟨w.heap.size, 3, none⟩ = some (.int .u64 (lb a 3)) := fun w' h => (A'.keep h).get4.2.2.2.1
  have ca0 : ∀ w', Below W0.heap.size W0 w' → w'.cell? ⟨w.heap.size + 1, 0, none⟩ = some (.int .u64 (lb n 0)) := fun w' h => (B'.keep h).get4.1
  have ca1 : ∀ w', Below W0.heap.size W0 w' → w'.cell? ⟨w.heap.size + 1, 1, none⟩ = some (.int .u64 (lb n 1)) := fun w' h => (B'.keep h).get4.2.1
  have ca2 : ∀ w', Below W0.heap.size W0 w' → w'.cell? ⟨w.heap.size + 1, 2, none⟩ = some (.int .u64 (lb n 2)) := fun w' h => (B'.keep h).get4.2.2.1
  have ca3 : ∀ w', Below W0.heap.size W0 w' → w'.cell? ⟨w.heap.size + 1, 3, none⟩ = some (.int .u64 (lb n 3)) := fun w' h => (B'.keep h).get4.2.2.2.1
  have HWK := Lib.hid (fun X (h : Below W0.heap.size W0 X) => pworks_any X (HT.out.below HT.out.lt (bstep hW' h)))
  have HEX := Lib.hid (fun X (h : Below W0.heap.size W0 X) => HE0.out X (HT.out.below HT.out.lt (bstep hW' h)))
  have heq := eq_sameW
  have hs0 : Below W0.heap.size W0 W0.drew := (Below.refl _ _).drew
  have HW := Lib.hid hW'
  clear A' B' hW' HT HE0
  go_region_held3 (fun w' => Below W0.heap.size W0 w') (first | assumption | exact rstep (by assumption) (by assumption))
    (first
      | (go_at_call 6; refine (HEX.out _ (by assumption)).mono ?_; rintro e wk ⟨rfl, hk⟩)
      | (go_at_call 7; refine (H1.out _).mono ?_; rintro e wk ⟨rfl, hk⟩)
      | (go_at_call 8; refine (H2.out _).mono ?_; rintro e wk ⟨rfl, hk⟩)
      | (go_at_call 9; refine (H3.out _).mono ?_; rintro e wk ⟨rfl, hk⟩)
      | (go_at_call 10; refine (HWK.out _ (by assumption)).mono ?_; rintro e wk ⟨rfl, hk⟩))
  all_goals
    have hX : Below W0.heap.size W0 wk := by assumption
    have HE := Lib.hid (bstep HW.out hX)
    go_wp2
    go_ret
    exact ⟨rfl, HE.out⟩
end Go.Proofs.YtidpekcegocjfaaDoor
