/- split's reference: below (a sum taken back below m), AddMod. -/
import Derived.Test.YtopnkkdbimmlhaaTr
namespace Go.Proofs.Ytopnkkdbimmlhaa
open Go.RowKit Go.Shelf
attribute [local go_sem] ix0 ix1 ix2 ix3
attribute [local irreducible] lb

theorem W_modM (n : Nat) : W (n % MM) = W n := by
  unfold W
  rw [lb_mod n 0 (by omega), lb_mod n 1 (by omega), lb_mod n 2 (by omega), lb_mod n 3 (by omega)]
/-- What the carry and the two comparisons say of a sum of two numbers below m. -/
theorem sum_back (x y m : Nat) (hx : x < m) (hy : y < m) (hm : m < MM) : ∃ S, S < MM ∧ W (x + y) = W S ∧
    ((cmpN S x < 0 ∧ W (sb S m) = W ((x + y) % m)) ∨ (0 ≤ cmpN S x ∧ 0 ≤ cmpN S m ∧ W (sb S m) = W ((x + y) % m)) ∨ (0 ≤ cmpN S x ∧ cmpN S m < 0 ∧ W S = W ((x + y) % m))) := by
  have hge : ∀ u v : Nat, v ≤ u → 0 ≤ cmpN u v := by
    intro u v h
    by_cases e : u = v
    · rw [e, cmpN_eq]; omega
    · rw [cmpN_gt (by omega)]; omega
  have hback : m ≤ x + y → (x + y) % m = x + y - m := by
    intro h
    rw [Nat.mod_eq_sub_mod h, Nat.mod_eq_of_lt (by omega)]
  by_cases h : MM ≤ x + y
  · refine ⟨x + y - MM, by omega, ?_, .inl ⟨?_, ?_⟩⟩
    · rw [← W_modM (x + y), Nat.mod_eq_sub_mod h, Nat.mod_eq_of_lt (by omega)]
    · rw [cmpN_lt (by omega)]; omega
    · rw [hback (by omega)]
      congr 1
      unfold sb
      rw [Nat.mod_eq_of_lt hm]
      omega
  · by_cases h2 : m ≤ x + y
    · refine ⟨x + y, by omega, rfl, .inr (.inl ⟨hge _ _ (by omega), hge _ _ h2, ?_⟩)⟩
      rw [hback h2, ← W_modM (sb (x + y) m)]
      unfold sb
      rw [Nat.mod_eq_of_lt hm, show x + y + (MM - m) = (x + y - m) + MM by omega, Nat.add_mod_right, Nat.mod_eq_of_lt (by omega)]
    · refine ⟨x + y, by omega, rfl, .inr (.inr ⟨hge _ _ (by omega), ?_, ?_⟩)⟩
      · rw [cmpN_lt (by omega)]; omega
      · rw [Nat.mod_eq_of_lt (by omega)]
/- MARK -/
set_option maxRecDepth 100000 in
set_option maxHeartbeats 4000000 in
theorem rbelow_any (x y m : Nat) (hx : x < m) (hy : y < m) (hm : m < MM) (w : World) :
    Calls Try.prog 44 #[W x, W y, W m] w fun e w' => e = .returned (W ((x + y) % m)) ∧ Below w.heap.size w w' := by
  obtain ⟨S, hS, hWS, hcase⟩ := sum_back x y m hx hy hm
  have hadd := fun w => radd_any x y w
  rw [hWS] at hadd
  have ho1 := fun w => rorder_any S x hS (by omega) w
  have ho2 := fun w => rorder_any S m hS hm w
  have hsub := fun w => rsub_any S m w
  generalize (x + y) % m = v at hcase ⊢
  generalize cmpN S x = c1 at hcase ho1
  generalize cmpN S m = c2 at hcase ho2
  generalize sb S m = d at hcase hsub
  have HADD := Lib.hid hadd
  have HO1 := Lib.hid ho1
  have HO2 := Lib.hid ho2
  have HSUB := Lib.hid hsub
  clear hadd ho1 ho2 hsub hx hy hm hS hWS
  have hA : Blk ((((w.alloc (.cells (Wc x) 24)).alloc (.cells (Wc y) 24)).alloc (.cells (Wc m) 24)).alloc (.cells #[.int .u64 0, .int .u64 0, .int .u64 0, .int .u64 0] 24)) (w.heap.size) 24 (Wc x) := (((Blk.new _ _ _).alloc _).alloc _).alloc _
  have hB : Blk ((((w.alloc (.cells (Wc x) 24)).alloc (.cells (Wc y) 24)).alloc (.cells (Wc m) 24)).alloc (.cells #[.int .u64 0, .int .u64 0, .int .u64 0, .int .u64 0] 24)) (w.heap.size + 1) 24 (Wc y) := ((Blk.newS w _ _ _).alloc _).alloc _
  have hM : Blk ((((w.alloc (.cells (Wc x) 24)).alloc (.cells (Wc y) 24)).alloc (.cells (Wc m) 24)).alloc (.cells #[.int .u64 0, .int .u64 0, .int .u64 0, .int .u64 0] 24)) (w.heap.size + 1 + 1) 24 (Wc m) := by
    have h := Blk.newS (w.alloc (.cells (Wc x) 24)) (.cells (Wc y) 24) 24 (Wc m)
    rw [World.size_alloc] at h
    exact h.alloc _
  have hR : Blk ((((w.alloc (.cells (Wc x) 24)).alloc (.cells (Wc y) 24)).alloc (.cells (Wc m) 24)).alloc (.cells #[.int .u64 0, .int .u64 0, .int .u64 0, .int .u64 0] 24)) (w.heap.size + 1 + 1 + 1) 24 #[.int .u64 0, .int .u64 0, .int .u64 0, .int .u64 0] := by
    have h := Blk.newS ((w.alloc (.cells (Wc x) 24)).alloc (.cells (Wc y) 24)) (.cells (Wc m) 24) 24 #[.int .u64 0, .int .u64 0, .int .u64 0, .int .u64 0]
    rwa [World.size_alloc, World.size_alloc] at h
  have hW : Below w.heap.size w ((((w.alloc (.cells (Wc x) 24)).alloc (.cells (Wc y) 24)).alloc (.cells (Wc m) 24)).alloc (.cells #[.int .u64 0, .int .u64 0, .int .u64 0, .int .u64 0] 24)) := balloc (balloc (balloc (balloc (Below.refl _ _) _) _) _) _
  have H := Lib.hid (And.intro hA (And.intro hB (And.intro hM (And.intro hR (hW)))))
  clear hA hB hM hR hW
  go_enter Try.func44, Try.ntmps44
  go_wp2_with fail
  refine (HADD.out _).mono ?_
  rintro e w1 ⟨rfl, h1⟩
  obtain ⟨hA, hB, hM, hR, hW⟩ := H.out
  clear H
  replace hA := hA.block_below h1
  replace hB := hB.block_below h1
  replace hM := hM.block_below h1
  replace hR := hR.block_below h1
  replace hW := bstep hW h1
  clear h1
  have hgl := hR.lt
  replace hA := hA.alloc (.cells (Wc S) 24)
  replace hM := hM.alloc (.cells (Wc S) 24)
  replace hR := hR.alloc (.cells (Wc S) 24)
  have hS := Blk.new w1 24 (Wc S)
  replace hW := balloc hW (.cells (Wc S) 24)
  clear hB
  have H := Lib.hid (And.intro hA (And.intro hM (And.intro hR (And.intro hS (hW)))))
  clear hA hM hR hS hW
  go_upto_region 2 with fail
  obtain ⟨w2, hw2⟩ : ∃ w2, w1.alloc (.cells (Wc S) 24) = w2 := ⟨_, rfl⟩
  rw [hw2] at H ⊢
  clear hw2
  generalize w1.heap.size = g at H hgl ⊢
  obtain ⟨hA, hM, hR, hS, hW⟩ := H.out
  clear H
  have cA0 := (cell_of_row w2 _ 0 _ _ _ hA).trans (wc_get (x) 0 (by omega))
  have cA1 := (cell_of_row w2 _ 1 _ _ _ hA).trans (wc_get (x) 1 (by omega))
  have cA2 := (cell_of_row w2 _ 2 _ _ _ hA).trans (wc_get (x) 2 (by omega))
  have cA3 := (cell_of_row w2 _ 3 _ _ _ hA).trans (wc_get (x) 3 (by omega))
  have cS0 := (cell_of_row w2 _ 0 _ _ _ hS).trans (wc_get (S) 0 (by omega))
  have cS1 := (cell_of_row w2 _ 1 _ _ _ hS).trans (wc_get (S) 1 (by omega))
  have cS2 := (cell_of_row w2 _ 2 _ _ _ hS).trans (wc_get (S) 2 (by omega))
  have cS3 := (cell_of_row w2 _ 3 _ _ _ hS).trans (wc_get (S) 3 (by omega))
  have H := Lib.hid (And.intro hA (And.intro hM (And.intro hR (And.intro hS (hW)))))
  clear hA hM hR hS hW
  go_wp2_with fail
  rcases hcase with ⟨hc1, hv⟩ | ⟨hc1, hc2, hv⟩ | ⟨hc1, hc2, hv⟩
  · have HV := Lib.hid hv
    clear hv
    refine (HO1.out _).mono ?_
    rintro e w3 ⟨rfl, h3⟩
    clear cA0 cA1 cA2 cA3 cS0 cS1 cS2 cS3
    obtain ⟨hA, hM, hR, hS, hW⟩ := H.out
    clear H
    replace hM := hM.block_below h3
    replace hR := hR.block_below h3
    replace hS := hS.block_below h3
    replace hW := bstep hW h3
    clear h3 hA
    have cM0 := (cell_of_row w3 _ 0 _ _ _ hM).trans (wc_get (m) 0 (by omega))
    have cM1 := (cell_of_row w3 _ 1 _ _ _ hM).trans (wc_get (m) 1 (by omega))
    have cM2 := (cell_of_row w3 _ 2 _ _ _ hM).trans (wc_get (m) 2 (by omega))
    have cM3 := (cell_of_row w3 _ 3 _ _ _ hM).trans (wc_get (m) 3 (by omega))
    have cS0 := (cell_of_row w3 _ 0 _ _ _ hS).trans (wc_get (S) 0 (by omega))
    have cS1 := (cell_of_row w3 _ 1 _ _ _ hS).trans (wc_get (S) 1 (by omega))
    have cS2 := (cell_of_row w3 _ 2 _ _ _ hS).trans (wc_get (S) 2 (by omega))
    have cS3 := (cell_of_row w3 _ 3 _ _ _ hS).trans (wc_get (S) 3 (by omega))
    have H := Lib.hid (And.intro hM (And.intro hR (And.intro hS (hW))))
    clear hM hR hS hW
    go_wp2_with fail
    refine (HSUB.out _).mono ?_
    rintro e w4 ⟨rfl, h4⟩
    clear cM0 cM1 cM2 cM3 cS0 cS1 cS2 cS3
    obtain ⟨hM, hR, hS, hW⟩ := H.out
    clear H
    replace hR := hR.block_below h4
    replace hS := hS.block_below h4
    replace hW := bstep hW h4
    clear h4 hM
    have cR0 := cell_of_row w4 _ 0 _ _ _ hR
    have fR0 := frozen_of_row w4 _ 0 _ _ hR
    have cR1 := cell_of_row w4 _ 1 _ _ _ hR
    have fR1 := frozen_of_row w4 _ 1 _ _ hR
    have cR2 := cell_of_row w4 _ 2 _ _ _ hR
    have fR2 := frozen_of_row w4 _ 2 _ _ hR
    have cR3 := cell_of_row w4 _ 3 _ _ _ hR
    have fR3 := frozen_of_row w4 _ 3 _ _ hR
    have cS0 := (cell_of_row w4 _ 0 _ _ _ hS).trans (wc_get (S) 0 (by omega))
    have fS0 := frozen_of_row w4 _ 0 _ _ hS
    have cS1 := (cell_of_row w4 _ 1 _ _ _ hS).trans (wc_get (S) 1 (by omega))
    have fS1 := frozen_of_row w4 _ 1 _ _ hS
    have cS2 := (cell_of_row w4 _ 2 _ _ _ hS).trans (wc_get (S) 2 (by omega))
    have fS2 := frozen_of_row w4 _ 2 _ _ hS
    have cS3 := (cell_of_row w4 _ 3 _ _ _ hS).trans (wc_get (S) 3 (by omega))
    have fS3 := frozen_of_row w4 _ 3 _ _ hS
    clear hR hS
    go_wp2
    exact bodyPost_ret (v := W d) (by simp [results, Try.results44, go_sem, cR0, cR1, cR2, cR3]) rfl ⟨by rw [HV.out], ((((((((hW.setCell (p := ⟨g, 0, none⟩) (by simp; try omega) _).setCell (p := ⟨g, 1, none⟩) (by simp; try omega) _).setCell (p := ⟨g, 2, none⟩) (by simp; try omega) _).setCell (p := ⟨g, 3, none⟩) (by simp; try omega) _).setCell (p := ⟨w.heap.size + 1 + 1 + 1, 0, none⟩) (by simp; try omega) _).setCell (p := ⟨w.heap.size + 1 + 1 + 1, 1, none⟩) (by simp; try omega) _).setCell (p := ⟨w.heap.size + 1 + 1 + 1, 2, none⟩) (by simp; try omega) _).setCell (p := ⟨w.heap.size + 1 + 1 + 1, 3, none⟩) (by simp; try omega) _)⟩
  · have HV := Lib.hid hv
    clear hv
    refine (HO1.out _).mono ?_
    rintro e w3 ⟨rfl, h3⟩
    clear cA0 cA1 cA2 cA3 cS0 cS1 cS2 cS3
    obtain ⟨hA, hM, hR, hS, hW⟩ := H.out
    clear H
    replace hM := hM.block_below h3
    replace hR := hR.block_below h3
    replace hS := hS.block_below h3
    replace hW := bstep hW h3
    clear h3 hA
    have cM0 := (cell_of_row w3 _ 0 _ _ _ hM).trans (wc_get (m) 0 (by omega))
    have cM1 := (cell_of_row w3 _ 1 _ _ _ hM).trans (wc_get (m) 1 (by omega))
    have cM2 := (cell_of_row w3 _ 2 _ _ _ hM).trans (wc_get (m) 2 (by omega))
    have cM3 := (cell_of_row w3 _ 3 _ _ _ hM).trans (wc_get (m) 3 (by omega))
    have cS0 := (cell_of_row w3 _ 0 _ _ _ hS).trans (wc_get (S) 0 (by omega))
    have cS1 := (cell_of_row w3 _ 1 _ _ _ hS).trans (wc_get (S) 1 (by omega))
    have cS2 := (cell_of_row w3 _ 2 _ _ _ hS).trans (wc_get (S) 2 (by omega))
    have cS3 := (cell_of_row w3 _ 3 _ _ _ hS).trans (wc_get (S) 3 (by omega))
    have H := Lib.hid (And.intro hM (And.intro hR (And.intro hS (hW))))
    clear hM hR hS hW
    go_wp2_with fail
    refine (HO2.out _).mono ?_
    rintro e w5 ⟨rfl, h5⟩
    clear cM0 cM1 cM2 cM3 cS0 cS1 cS2 cS3
    obtain ⟨hM, hR, hS, hW⟩ := H.out
    clear H
    replace hM := hM.block_below h5
    replace hR := hR.block_below h5
    replace hS := hS.block_below h5
    replace hW := bstep hW h5
    clear h5
    have cM0 := (cell_of_row w5 _ 0 _ _ _ hM).trans (wc_get (m) 0 (by omega))
    have cM1 := (cell_of_row w5 _ 1 _ _ _ hM).trans (wc_get (m) 1 (by omega))
    have cM2 := (cell_of_row w5 _ 2 _ _ _ hM).trans (wc_get (m) 2 (by omega))
    have cM3 := (cell_of_row w5 _ 3 _ _ _ hM).trans (wc_get (m) 3 (by omega))
    have cS0 := (cell_of_row w5 _ 0 _ _ _ hS).trans (wc_get (S) 0 (by omega))
    have cS1 := (cell_of_row w5 _ 1 _ _ _ hS).trans (wc_get (S) 1 (by omega))
    have cS2 := (cell_of_row w5 _ 2 _ _ _ hS).trans (wc_get (S) 2 (by omega))
    have cS3 := (cell_of_row w5 _ 3 _ _ _ hS).trans (wc_get (S) 3 (by omega))
    have H := Lib.hid (And.intro hM (And.intro hR (And.intro hS (hW))))
    clear hM hR hS hW
    go_wp2_with fail
    refine (HSUB.out _).mono ?_
    rintro e w4 ⟨rfl, h4⟩
    clear cM0 cM1 cM2 cM3 cS0 cS1 cS2 cS3
    obtain ⟨hM, hR, hS, hW⟩ := H.out
    clear H
    replace hR := hR.block_below h4
    replace hS := hS.block_below h4
    replace hW := bstep hW h4
    clear h4 hM
    have cR0 := cell_of_row w4 _ 0 _ _ _ hR
    have fR0 := frozen_of_row w4 _ 0 _ _ hR
    have cR1 := cell_of_row w4 _ 1 _ _ _ hR
    have fR1 := frozen_of_row w4 _ 1 _ _ hR
    have cR2 := cell_of_row w4 _ 2 _ _ _ hR
    have fR2 := frozen_of_row w4 _ 2 _ _ hR
    have cR3 := cell_of_row w4 _ 3 _ _ _ hR
    have fR3 := frozen_of_row w4 _ 3 _ _ hR
    have cS0 := (cell_of_row w4 _ 0 _ _ _ hS).trans (wc_get (S) 0 (by omega))
    have fS0 := frozen_of_row w4 _ 0 _ _ hS
    have cS1 := (cell_of_row w4 _ 1 _ _ _ hS).trans (wc_get (S) 1 (by omega))
    have fS1 := frozen_of_row w4 _ 1 _ _ hS
    have cS2 := (cell_of_row w4 _ 2 _ _ _ hS).trans (wc_get (S) 2 (by omega))
    have fS2 := frozen_of_row w4 _ 2 _ _ hS
    have cS3 := (cell_of_row w4 _ 3 _ _ _ hS).trans (wc_get (S) 3 (by omega))
    have fS3 := frozen_of_row w4 _ 3 _ _ hS
    clear hR hS
    go_wp2
    exact bodyPost_ret (v := W d) (by simp [results, Try.results44, go_sem, cR0, cR1, cR2, cR3]) rfl ⟨by rw [HV.out], ((((((((hW.setCell (p := ⟨g, 0, none⟩) (by simp; try omega) _).setCell (p := ⟨g, 1, none⟩) (by simp; try omega) _).setCell (p := ⟨g, 2, none⟩) (by simp; try omega) _).setCell (p := ⟨g, 3, none⟩) (by simp; try omega) _).setCell (p := ⟨w.heap.size + 1 + 1 + 1, 0, none⟩) (by simp; try omega) _).setCell (p := ⟨w.heap.size + 1 + 1 + 1, 1, none⟩) (by simp; try omega) _).setCell (p := ⟨w.heap.size + 1 + 1 + 1, 2, none⟩) (by simp; try omega) _).setCell (p := ⟨w.heap.size + 1 + 1 + 1, 3, none⟩) (by simp; try omega) _)⟩
  · have HV := Lib.hid hv
    clear hv
    refine (HO1.out _).mono ?_
    rintro e w3 ⟨rfl, h3⟩
    clear cA0 cA1 cA2 cA3 cS0 cS1 cS2 cS3
    obtain ⟨hA, hM, hR, hS, hW⟩ := H.out
    clear H
    replace hM := hM.block_below h3
    replace hR := hR.block_below h3
    replace hS := hS.block_below h3
    replace hW := bstep hW h3
    clear h3 hA
    have cM0 := (cell_of_row w3 _ 0 _ _ _ hM).trans (wc_get (m) 0 (by omega))
    have cM1 := (cell_of_row w3 _ 1 _ _ _ hM).trans (wc_get (m) 1 (by omega))
    have cM2 := (cell_of_row w3 _ 2 _ _ _ hM).trans (wc_get (m) 2 (by omega))
    have cM3 := (cell_of_row w3 _ 3 _ _ _ hM).trans (wc_get (m) 3 (by omega))
    have cS0 := (cell_of_row w3 _ 0 _ _ _ hS).trans (wc_get (S) 0 (by omega))
    have cS1 := (cell_of_row w3 _ 1 _ _ _ hS).trans (wc_get (S) 1 (by omega))
    have cS2 := (cell_of_row w3 _ 2 _ _ _ hS).trans (wc_get (S) 2 (by omega))
    have cS3 := (cell_of_row w3 _ 3 _ _ _ hS).trans (wc_get (S) 3 (by omega))
    have H := Lib.hid (And.intro hM (And.intro hR (And.intro hS (hW))))
    clear hM hR hS hW
    go_wp2_with fail
    refine (HO2.out _).mono ?_
    rintro e w5 ⟨rfl, h5⟩
    clear cM0 cM1 cM2 cM3 cS0 cS1 cS2 cS3
    obtain ⟨hM, hR, hS, hW⟩ := H.out
    clear H
    replace hM := hM.block_below h5
    replace hR := hR.block_below h5
    replace hS := hS.block_below h5
    replace hW := bstep hW h5
    clear h5
    clear hM
    have cR0 := cell_of_row w5 _ 0 _ _ _ hR
    have fR0 := frozen_of_row w5 _ 0 _ _ hR
    have cR1 := cell_of_row w5 _ 1 _ _ _ hR
    have fR1 := frozen_of_row w5 _ 1 _ _ hR
    have cR2 := cell_of_row w5 _ 2 _ _ _ hR
    have fR2 := frozen_of_row w5 _ 2 _ _ hR
    have cR3 := cell_of_row w5 _ 3 _ _ _ hR
    have fR3 := frozen_of_row w5 _ 3 _ _ hR
    have cS0 := (cell_of_row w5 _ 0 _ _ _ hS).trans (wc_get (S) 0 (by omega))
    have cS1 := (cell_of_row w5 _ 1 _ _ _ hS).trans (wc_get (S) 1 (by omega))
    have cS2 := (cell_of_row w5 _ 2 _ _ _ hS).trans (wc_get (S) 2 (by omega))
    have cS3 := (cell_of_row w5 _ 3 _ _ _ hS).trans (wc_get (S) 3 (by omega))
    clear hR hS
    go_wp2
    exact bodyPost_ret (v := W S) (by simp [results, Try.results44, go_sem, cR0, cR1, cR2, cR3]) rfl ⟨by rw [HV.out], ((((hW.setCell (p := ⟨w.heap.size + 1 + 1 + 1, 0, none⟩) (by simp; try omega) _).setCell (p := ⟨w.heap.size + 1 + 1 + 1, 1, none⟩) (by simp; try omega) _).setCell (p := ⟨w.heap.size + 1 + 1 + 1, 2, none⟩) (by simp; try omega) _).setCell (p := ⟨w.heap.size + 1 + 1 + 1, 3, none⟩) (by simp; try omega) _)⟩
set_option maxRecDepth 100000 in
set_option maxHeartbeats 4000000 in
theorem raddmod_any (a b m : Nat) (ha : a < MM) (hb : b < MM) (hm : m < MM) (w : World) :
    Calls Try.prog 21 #[W a, W b, W m] w fun e w' => e = .returned (W (mdN (a + b) m)) ∧ Below w.heap.size w w' := by
  have heq := fun w => eq_nought m hm w
  have hA : Blk ((((w.alloc (.cells (Wc a) 24)).alloc (.cells (Wc b) 24)).alloc (.cells (Wc m) 24)).alloc (.cells #[.int .u64 0, .int .u64 0, .int .u64 0, .int .u64 0] 24)) (w.heap.size) 24 (Wc a) := (((Blk.new _ _ _).alloc _).alloc _).alloc _
  have hB : Blk ((((w.alloc (.cells (Wc a) 24)).alloc (.cells (Wc b) 24)).alloc (.cells (Wc m) 24)).alloc (.cells #[.int .u64 0, .int .u64 0, .int .u64 0, .int .u64 0] 24)) (w.heap.size + 1) 24 (Wc b) := ((Blk.newS w _ _ _).alloc _).alloc _
  have hM : Blk ((((w.alloc (.cells (Wc a) 24)).alloc (.cells (Wc b) 24)).alloc (.cells (Wc m) 24)).alloc (.cells #[.int .u64 0, .int .u64 0, .int .u64 0, .int .u64 0] 24)) (w.heap.size + 1 + 1) 24 (Wc m) := by
    have h := Blk.newS (w.alloc (.cells (Wc a) 24)) (.cells (Wc b) 24) 24 (Wc m)
    rw [World.size_alloc] at h
    exact h.alloc _
  have hR : Blk ((((w.alloc (.cells (Wc a) 24)).alloc (.cells (Wc b) 24)).alloc (.cells (Wc m) 24)).alloc (.cells #[.int .u64 0, .int .u64 0, .int .u64 0, .int .u64 0] 24)) (w.heap.size + 1 + 1 + 1) 24 #[.int .u64 0, .int .u64 0, .int .u64 0, .int .u64 0] := by
    have h := Blk.newS ((w.alloc (.cells (Wc a) 24)).alloc (.cells (Wc b) 24)) (.cells (Wc m) 24) 24 #[.int .u64 0, .int .u64 0, .int .u64 0, .int .u64 0]
    rwa [World.size_alloc, World.size_alloc] at h
  have hW : Below w.heap.size w ((((w.alloc (.cells (Wc a) 24)).alloc (.cells (Wc b) 24)).alloc (.cells (Wc m) 24)).alloc (.cells #[.int .u64 0, .int .u64 0, .int .u64 0, .int .u64 0] 24)) := balloc (balloc (balloc (balloc (Below.refl _ _) _) _) _) _
  rcases Nat.eq_zero_or_pos m with h0 | hpos
  · have hb0 : (m == 0) = true := by rw [h0]; rfl
    rw [hb0] at heq
    have hv : W m = W (mdN (a + b) m) := by
      unfold mdN
      rw [if_pos h0, h0]
    have HV := Lib.hid hv
    have HW := Lib.hid hW
    clear h0 hb0 hA hB hM ha hb hm hR hW hv
    go_enter Try.func21, Try.ntmps21
    go_wp2
    exact bodyPost_ret (v := W m) (by simp [results, Try.results21, go_sem]) rfl ⟨by rw [HV.out], by first | exact HW.out | exact ((((HW.out.setCell (p := ⟨w.heap.size + 1 + 1 + 1, 0, none⟩) (by simp; try omega) _).setCell (p := ⟨w.heap.size + 1 + 1 + 1, 1, none⟩) (by simp; try omega) _).setCell (p := ⟨w.heap.size + 1 + 1 + 1, 2, none⟩) (by simp; try omega) _).setCell (p := ⟨w.heap.size + 1 + 1 + 1, 3, none⟩) (by simp; try omega) _) | exact balloc (balloc (balloc (balloc (Below.refl _ _) _) _) _) _⟩
  · have hb0 : (m == 0) = false := by simp; omega
    rw [hb0] at heq
    have hd1 := fun w => rdivide_pos a m ha hpos hm w
    have hd2 := fun w => rdivide_pos b m hb hpos hm w
    have hx : a % m < m := Nat.mod_lt _ hpos
    have hy : b % m < m := Nat.mod_lt _ hpos
    have hres : mdN (a + b) m = (a % m + b % m) % m := by
      unfold mdN
      rw [if_neg (by omega), Nat.add_mod]
    rw [hres]
    clear hres hpos hb0 ha hb
    generalize a % m = x at hd1 hx ⊢
    generalize b % m = y at hd2 hy ⊢
    generalize a / m = q1 at hd1
    generalize b / m = q2 at hd2
    obtain ⟨S, hS, hWS, hcase⟩ := sum_back x y m hx hy hm
    have hadd := fun w => radd_any x y w
    rw [hWS] at hadd
    have ho1 := fun w => rorder_any S x hS (by omega) w
    have ho2 := fun w => rorder_any S m hS hm w
    have hsub := fun w => rsub_any S m w
    generalize (x + y) % m = v at hcase ⊢
    generalize cmpN S x = c1 at hcase ho1
    generalize cmpN S m = c2 at hcase ho2
    generalize sb S m = d at hcase hsub
    have HADD := Lib.hid hadd
    have HO1 := Lib.hid ho1
    have HO2 := Lib.hid ho2
    have HSUB := Lib.hid hsub
    have HD1 := Lib.hid hd1
    have HD2 := Lib.hid hd2
    clear hadd ho1 ho2 hsub hx hy hm hS hWS hd1 hd2
    have H := Lib.hid (And.intro hA (And.intro hB (And.intro hM (And.intro hR (hW)))))
    clear hA hB hM hR hW
    go_enter Try.func21, Try.ntmps21
    go_wp2_with fail
    refine (HD1.out _).mono ?_
    rintro e w1 ⟨rfl, h1⟩
    obtain ⟨hA, hB, hM, hR, hW⟩ := H.out
    clear H
    replace hB := hB.block_below h1
    replace hM := hM.block_below h1
    replace hR := hR.block_below h1
    replace hW := bstep hW h1
    clear h1 hA heq
    replace hB := (hB.alloc (.cells (Wc q1) 24)).alloc (.cells (Wc x) 24)
    replace hM := (hM.alloc (.cells (Wc q1) 24)).alloc (.cells (Wc x) 24)
    replace hR := (hR.alloc (.cells (Wc q1) 24)).alloc (.cells (Wc x) 24)
    have hA := Blk.newS w1 (.cells (Wc q1) 24) 24 (Wc x)
    replace hW := balloc (balloc hW (.cells (Wc q1) 24)) (.cells (Wc x) 24)
    have H := Lib.hid (And.intro hA (And.intro hB (And.intro hM (And.intro hR (hW)))))
    clear hA hB hM hR hW
    go_upto_region 4 with fail
    obtain ⟨w2, hw2⟩ : ∃ w2, (w1.alloc (.cells (Wc q1) 24)).alloc (.cells (Wc x) 24) = w2 := ⟨_, rfl⟩
    rw [hw2] at H ⊢
    clear hw2
    generalize w1.heap.size + 1 = gx at H ⊢
    obtain ⟨hA, hB, hM, hR, hW⟩ := H.out
    clear H
    have cB0 := (cell_of_row w2 _ 0 _ _ _ hB).trans (wc_get (b) 0 (by omega))
    have cB1 := (cell_of_row w2 _ 1 _ _ _ hB).trans (wc_get (b) 1 (by omega))
    have cB2 := (cell_of_row w2 _ 2 _ _ _ hB).trans (wc_get (b) 2 (by omega))
    have cB3 := (cell_of_row w2 _ 3 _ _ _ hB).trans (wc_get (b) 3 (by omega))
    have cM0 := (cell_of_row w2 _ 0 _ _ _ hM).trans (wc_get (m) 0 (by omega))
    have cM1 := (cell_of_row w2 _ 1 _ _ _ hM).trans (wc_get (m) 1 (by omega))
    have cM2 := (cell_of_row w2 _ 2 _ _ _ hM).trans (wc_get (m) 2 (by omega))
    have cM3 := (cell_of_row w2 _ 3 _ _ _ hM).trans (wc_get (m) 3 (by omega))
    have H := Lib.hid (And.intro hA (And.intro hM (And.intro hR (hW))))
    clear hB hA hM hR hW
    go_wp2_with fail
    refine (HD2.out _).mono ?_
    rintro e w3 ⟨rfl, h3⟩
    clear cB0 cB1 cB2 cB3 cM0 cM1 cM2 cM3
    obtain ⟨hA, hM, hR, hW⟩ := H.out
    clear H
    replace hA := hA.block_below h3
    replace hM := hM.block_below h3
    replace hR := hR.block_below h3
    replace hW := bstep hW h3
    clear h3
    replace hA := (hA.alloc (.cells (Wc q2) 24)).alloc (.cells (Wc y) 24)
    replace hM := (hM.alloc (.cells (Wc q2) 24)).alloc (.cells (Wc y) 24)
    replace hR := (hR.alloc (.cells (Wc q2) 24)).alloc (.cells (Wc y) 24)
    have hB := Blk.newS w3 (.cells (Wc q2) 24) 24 (Wc y)
    replace hW := balloc (balloc hW (.cells (Wc q2) 24)) (.cells (Wc y) 24)
    have H := Lib.hid (And.intro hA (And.intro hB (And.intro hM (And.intro hR (hW)))))
    clear hA hB hM hR hW
    go_upto_region 5 with fail
    obtain ⟨w4, hw4⟩ : ∃ w4, (w3.alloc (.cells (Wc q2) 24)).alloc (.cells (Wc y) 24) = w4 := ⟨_, rfl⟩
    rw [hw4] at H ⊢
    clear hw4
    generalize w3.heap.size + 1 = gy at H ⊢
    obtain ⟨hA, hB, hM, hR, hW⟩ := H.out
    clear H
    have cA0 := (cell_of_row w4 _ 0 _ _ _ hA).trans (wc_get (x) 0 (by omega))
    have cA1 := (cell_of_row w4 _ 1 _ _ _ hA).trans (wc_get (x) 1 (by omega))
    have cA2 := (cell_of_row w4 _ 2 _ _ _ hA).trans (wc_get (x) 2 (by omega))
    have cA3 := (cell_of_row w4 _ 3 _ _ _ hA).trans (wc_get (x) 3 (by omega))
    have cB0 := (cell_of_row w4 _ 0 _ _ _ hB).trans (wc_get (y) 0 (by omega))
    have cB1 := (cell_of_row w4 _ 1 _ _ _ hB).trans (wc_get (y) 1 (by omega))
    have cB2 := (cell_of_row w4 _ 2 _ _ _ hB).trans (wc_get (y) 2 (by omega))
    have cB3 := (cell_of_row w4 _ 3 _ _ _ hB).trans (wc_get (y) 3 (by omega))
    have H := Lib.hid (And.intro hA (And.intro hM (And.intro hR (hW))))
    clear hB hA hM hR hW
    go_wp2_with fail
    refine (HADD.out _).mono ?_
    rintro e w5 ⟨rfl, h5⟩
    clear cA0 cA1 cA2 cA3 cB0 cB1 cB2 cB3
    obtain ⟨hA, hM, hR, hW⟩ := H.out
    clear H
    replace hA := hA.block_below h5
    replace hM := hM.block_below h5
    replace hR := hR.block_below h5
    replace hW := bstep hW h5
    clear h5
    have hgl := hR.lt
    replace hA := hA.alloc (.cells (Wc S) 24)
    replace hM := hM.alloc (.cells (Wc S) 24)
    replace hR := hR.alloc (.cells (Wc S) 24)
    have hS := Blk.new w5 24 (Wc S)
    replace hW := balloc hW (.cells (Wc S) 24)
    have H := Lib.hid (And.intro hA (And.intro hM (And.intro hR (And.intro hS (hW)))))
    clear hA hM hR hS hW
    go_upto_region 6 with fail
    obtain ⟨w6, hw6⟩ : ∃ w6, w5.alloc (.cells (Wc S) 24) = w6 := ⟨_, rfl⟩
    rw [hw6] at H ⊢
    clear hw6
    generalize w5.heap.size = g at H hgl ⊢
    obtain ⟨hA, hM, hR, hS, hW⟩ := H.out
    clear H
    have cA0 := (cell_of_row w6 _ 0 _ _ _ hA).trans (wc_get (x) 0 (by omega))
    have cA1 := (cell_of_row w6 _ 1 _ _ _ hA).trans (wc_get (x) 1 (by omega))
    have cA2 := (cell_of_row w6 _ 2 _ _ _ hA).trans (wc_get (x) 2 (by omega))
    have cA3 := (cell_of_row w6 _ 3 _ _ _ hA).trans (wc_get (x) 3 (by omega))
    have cS0 := (cell_of_row w6 _ 0 _ _ _ hS).trans (wc_get (S) 0 (by omega))
    have cS1 := (cell_of_row w6 _ 1 _ _ _ hS).trans (wc_get (S) 1 (by omega))
    have cS2 := (cell_of_row w6 _ 2 _ _ _ hS).trans (wc_get (S) 2 (by omega))
    have cS3 := (cell_of_row w6 _ 3 _ _ _ hS).trans (wc_get (S) 3 (by omega))
    have H := Lib.hid (And.intro hA (And.intro hM (And.intro hR (And.intro hS (hW)))))
    clear hA hM hR hS hW
    go_wp2_with fail
    rcases hcase with ⟨hc1, hv⟩ | ⟨hc1, hc2, hv⟩ | ⟨hc1, hc2, hv⟩
    · have HV := Lib.hid hv
      clear hv
      refine (HO1.out _).mono ?_
      rintro e w7 ⟨rfl, h7⟩
      clear cA0 cA1 cA2 cA3 cS0 cS1 cS2 cS3
      obtain ⟨hA, hM, hR, hS, hW⟩ := H.out
      clear H
      replace hM := hM.block_below h7
      replace hR := hR.block_below h7
      replace hS := hS.block_below h7
      replace hW := bstep hW h7
      clear h7 hA
      have cM0 := (cell_of_row w7 _ 0 _ _ _ hM).trans (wc_get (m) 0 (by omega))
      have cM1 := (cell_of_row w7 _ 1 _ _ _ hM).trans (wc_get (m) 1 (by omega))
      have cM2 := (cell_of_row w7 _ 2 _ _ _ hM).trans (wc_get (m) 2 (by omega))
      have cM3 := (cell_of_row w7 _ 3 _ _ _ hM).trans (wc_get (m) 3 (by omega))
      have cS0 := (cell_of_row w7 _ 0 _ _ _ hS).trans (wc_get (S) 0 (by omega))
      have cS1 := (cell_of_row w7 _ 1 _ _ _ hS).trans (wc_get (S) 1 (by omega))
      have cS2 := (cell_of_row w7 _ 2 _ _ _ hS).trans (wc_get (S) 2 (by omega))
      have cS3 := (cell_of_row w7 _ 3 _ _ _ hS).trans (wc_get (S) 3 (by omega))
      have H := Lib.hid (And.intro hM (And.intro hR (And.intro hS (hW))))
      clear hM hR hS hW
      go_wp2_with fail
      refine (HSUB.out _).mono ?_
      rintro e w8 ⟨rfl, h8⟩
      clear cM0 cM1 cM2 cM3 cS0 cS1 cS2 cS3
      obtain ⟨hM, hR, hS, hW⟩ := H.out
      clear H
      replace hR := hR.block_below h8
      replace hS := hS.block_below h8
      replace hW := bstep hW h8
      clear h8 hM
      have cR0 := cell_of_row w8 _ 0 _ _ _ hR
      have fR0 := frozen_of_row w8 _ 0 _ _ hR
      have cR1 := cell_of_row w8 _ 1 _ _ _ hR
      have fR1 := frozen_of_row w8 _ 1 _ _ hR
      have cR2 := cell_of_row w8 _ 2 _ _ _ hR
      have fR2 := frozen_of_row w8 _ 2 _ _ hR
      have cR3 := cell_of_row w8 _ 3 _ _ _ hR
      have fR3 := frozen_of_row w8 _ 3 _ _ hR
      have cS0 := (cell_of_row w8 _ 0 _ _ _ hS).trans (wc_get (S) 0 (by omega))
      have fS0 := frozen_of_row w8 _ 0 _ _ hS
      have cS1 := (cell_of_row w8 _ 1 _ _ _ hS).trans (wc_get (S) 1 (by omega))
      have fS1 := frozen_of_row w8 _ 1 _ _ hS
      have cS2 := (cell_of_row w8 _ 2 _ _ _ hS).trans (wc_get (S) 2 (by omega))
      have fS2 := frozen_of_row w8 _ 2 _ _ hS
      have cS3 := (cell_of_row w8 _ 3 _ _ _ hS).trans (wc_get (S) 3 (by omega))
      have fS3 := frozen_of_row w8 _ 3 _ _ hS
      clear hR hS
      go_wp2
      exact bodyPost_ret (v := W d) (by simp [results, Try.results21, go_sem, cR0, cR1, cR2, cR3]) rfl ⟨by rw [HV.out], ((((((((hW.setCell (p := ⟨g, 0, none⟩) (by simp; try omega) _).setCell (p := ⟨g, 1, none⟩) (by simp; try omega) _).setCell (p := ⟨g, 2, none⟩) (by simp; try omega) _).setCell (p := ⟨g, 3, none⟩) (by simp; try omega) _).setCell (p := ⟨w.heap.size + 1 + 1 + 1, 0, none⟩) (by simp; try omega) _).setCell (p := ⟨w.heap.size + 1 + 1 + 1, 1, none⟩) (by simp; try omega) _).setCell (p := ⟨w.heap.size + 1 + 1 + 1, 2, none⟩) (by simp; try omega) _).setCell (p := ⟨w.heap.size + 1 + 1 + 1, 3, none⟩) (by simp; try omega) _)⟩
    · have HV := Lib.hid hv
      clear hv
      refine (HO1.out _).mono ?_
      rintro e w7 ⟨rfl, h7⟩
      clear cA0 cA1 cA2 cA3 cS0 cS1 cS2 cS3
      obtain ⟨hA, hM, hR, hS, hW⟩ := H.out
      clear H
      replace hM := hM.block_below h7
      replace hR := hR.block_below h7
      replace hS := hS.block_below h7
      replace hW := bstep hW h7
      clear h7 hA
      have cM0 := (cell_of_row w7 _ 0 _ _ _ hM).trans (wc_get (m) 0 (by omega))
      have cM1 := (cell_of_row w7 _ 1 _ _ _ hM).trans (wc_get (m) 1 (by omega))
      have cM2 := (cell_of_row w7 _ 2 _ _ _ hM).trans (wc_get (m) 2 (by omega))
      have cM3 := (cell_of_row w7 _ 3 _ _ _ hM).trans (wc_get (m) 3 (by omega))
      have cS0 := (cell_of_row w7 _ 0 _ _ _ hS).trans (wc_get (S) 0 (by omega))
      have cS1 := (cell_of_row w7 _ 1 _ _ _ hS).trans (wc_get (S) 1 (by omega))
      have cS2 := (cell_of_row w7 _ 2 _ _ _ hS).trans (wc_get (S) 2 (by omega))
      have cS3 := (cell_of_row w7 _ 3 _ _ _ hS).trans (wc_get (S) 3 (by omega))
      have H := Lib.hid (And.intro hM (And.intro hR (And.intro hS (hW))))
      clear hM hR hS hW
      go_wp2_with fail
      refine (HO2.out _).mono ?_
      rintro e w9 ⟨rfl, h9⟩
      clear cM0 cM1 cM2 cM3 cS0 cS1 cS2 cS3
      obtain ⟨hM, hR, hS, hW⟩ := H.out
      clear H
      replace hM := hM.block_below h9
      replace hR := hR.block_below h9
      replace hS := hS.block_below h9
      replace hW := bstep hW h9
      clear h9
      have cM0 := (cell_of_row w9 _ 0 _ _ _ hM).trans (wc_get (m) 0 (by omega))
      have cM1 := (cell_of_row w9 _ 1 _ _ _ hM).trans (wc_get (m) 1 (by omega))
      have cM2 := (cell_of_row w9 _ 2 _ _ _ hM).trans (wc_get (m) 2 (by omega))
      have cM3 := (cell_of_row w9 _ 3 _ _ _ hM).trans (wc_get (m) 3 (by omega))
      have cS0 := (cell_of_row w9 _ 0 _ _ _ hS).trans (wc_get (S) 0 (by omega))
      have cS1 := (cell_of_row w9 _ 1 _ _ _ hS).trans (wc_get (S) 1 (by omega))
      have cS2 := (cell_of_row w9 _ 2 _ _ _ hS).trans (wc_get (S) 2 (by omega))
      have cS3 := (cell_of_row w9 _ 3 _ _ _ hS).trans (wc_get (S) 3 (by omega))
      have H := Lib.hid (And.intro hM (And.intro hR (And.intro hS (hW))))
      clear hM hR hS hW
      go_wp2_with fail
      refine (HSUB.out _).mono ?_
      rintro e w8 ⟨rfl, h8⟩
      clear cM0 cM1 cM2 cM3 cS0 cS1 cS2 cS3
      obtain ⟨hM, hR, hS, hW⟩ := H.out
      clear H
      replace hR := hR.block_below h8
      replace hS := hS.block_below h8
      replace hW := bstep hW h8
      clear h8 hM
      have cR0 := cell_of_row w8 _ 0 _ _ _ hR
      have fR0 := frozen_of_row w8 _ 0 _ _ hR
      have cR1 := cell_of_row w8 _ 1 _ _ _ hR
      have fR1 := frozen_of_row w8 _ 1 _ _ hR
      have cR2 := cell_of_row w8 _ 2 _ _ _ hR
      have fR2 := frozen_of_row w8 _ 2 _ _ hR
      have cR3 := cell_of_row w8 _ 3 _ _ _ hR
      have fR3 := frozen_of_row w8 _ 3 _ _ hR
      have cS0 := (cell_of_row w8 _ 0 _ _ _ hS).trans (wc_get (S) 0 (by omega))
      have fS0 := frozen_of_row w8 _ 0 _ _ hS
      have cS1 := (cell_of_row w8 _ 1 _ _ _ hS).trans (wc_get (S) 1 (by omega))
      have fS1 := frozen_of_row w8 _ 1 _ _ hS
      have cS2 := (cell_of_row w8 _ 2 _ _ _ hS).trans (wc_get (S) 2 (by omega))
      have fS2 := frozen_of_row w8 _ 2 _ _ hS
      have cS3 := (cell_of_row w8 _ 3 _ _ _ hS).trans (wc_get (S) 3 (by omega))
      have fS3 := frozen_of_row w8 _ 3 _ _ hS
      clear hR hS
      go_wp2
      exact bodyPost_ret (v := W d) (by simp [results, Try.results21, go_sem, cR0, cR1, cR2, cR3]) rfl ⟨by rw [HV.out], ((((((((hW.setCell (p := ⟨g, 0, none⟩) (by simp; try omega) _).setCell (p := ⟨g, 1, none⟩) (by simp; try omega) _).setCell (p := ⟨g, 2, none⟩) (by simp; try omega) _).setCell (p := ⟨g, 3, none⟩) (by simp; try omega) _).setCell (p := ⟨w.heap.size + 1 + 1 + 1, 0, none⟩) (by simp; try omega) _).setCell (p := ⟨w.heap.size + 1 + 1 + 1, 1, none⟩) (by simp; try omega) _).setCell (p := ⟨w.heap.size + 1 + 1 + 1, 2, none⟩) (by simp; try omega) _).setCell (p := ⟨w.heap.size + 1 + 1 + 1, 3, none⟩) (by simp; try omega) _)⟩
    · have HV := Lib.hid hv
      clear hv
      refine (HO1.out _).mono ?_
      rintro e w7 ⟨rfl, h7⟩
      clear cA0 cA1 cA2 cA3 cS0 cS1 cS2 cS3
      obtain ⟨hA, hM, hR, hS, hW⟩ := H.out
      clear H
      replace hM := hM.block_below h7
      replace hR := hR.block_below h7
      replace hS := hS.block_below h7
      replace hW := bstep hW h7
      clear h7 hA
      have cM0 := (cell_of_row w7 _ 0 _ _ _ hM).trans (wc_get (m) 0 (by omega))
      have cM1 := (cell_of_row w7 _ 1 _ _ _ hM).trans (wc_get (m) 1 (by omega))
      have cM2 := (cell_of_row w7 _ 2 _ _ _ hM).trans (wc_get (m) 2 (by omega))
      have cM3 := (cell_of_row w7 _ 3 _ _ _ hM).trans (wc_get (m) 3 (by omega))
      have cS0 := (cell_of_row w7 _ 0 _ _ _ hS).trans (wc_get (S) 0 (by omega))
      have cS1 := (cell_of_row w7 _ 1 _ _ _ hS).trans (wc_get (S) 1 (by omega))
      have cS2 := (cell_of_row w7 _ 2 _ _ _ hS).trans (wc_get (S) 2 (by omega))
      have cS3 := (cell_of_row w7 _ 3 _ _ _ hS).trans (wc_get (S) 3 (by omega))
      have H := Lib.hid (And.intro hM (And.intro hR (And.intro hS (hW))))
      clear hM hR hS hW
      go_wp2_with fail
      refine (HO2.out _).mono ?_
      rintro e w9 ⟨rfl, h9⟩
      clear cM0 cM1 cM2 cM3 cS0 cS1 cS2 cS3
      obtain ⟨hM, hR, hS, hW⟩ := H.out
      clear H
      replace hM := hM.block_below h9
      replace hR := hR.block_below h9
      replace hS := hS.block_below h9
      replace hW := bstep hW h9
      clear h9
      clear hM
      have cR0 := cell_of_row w9 _ 0 _ _ _ hR
      have fR0 := frozen_of_row w9 _ 0 _ _ hR
      have cR1 := cell_of_row w9 _ 1 _ _ _ hR
      have fR1 := frozen_of_row w9 _ 1 _ _ hR
      have cR2 := cell_of_row w9 _ 2 _ _ _ hR
      have fR2 := frozen_of_row w9 _ 2 _ _ hR
      have cR3 := cell_of_row w9 _ 3 _ _ _ hR
      have fR3 := frozen_of_row w9 _ 3 _ _ hR
      have cS0 := (cell_of_row w9 _ 0 _ _ _ hS).trans (wc_get (S) 0 (by omega))
      have cS1 := (cell_of_row w9 _ 1 _ _ _ hS).trans (wc_get (S) 1 (by omega))
      have cS2 := (cell_of_row w9 _ 2 _ _ _ hS).trans (wc_get (S) 2 (by omega))
      have cS3 := (cell_of_row w9 _ 3 _ _ _ hS).trans (wc_get (S) 3 (by omega))
      clear hR hS
      go_wp2
      exact bodyPost_ret (v := W S) (by simp [results, Try.results21, go_sem, cR0, cR1, cR2, cR3]) rfl ⟨by rw [HV.out], ((((hW.setCell (p := ⟨w.heap.size + 1 + 1 + 1, 0, none⟩) (by simp; try omega) _).setCell (p := ⟨w.heap.size + 1 + 1 + 1, 1, none⟩) (by simp; try omega) _).setCell (p := ⟨w.heap.size + 1 + 1 + 1, 2, none⟩) (by simp; try omega) _).setCell (p := ⟨w.heap.size + 1 + 1 + 1, 3, none⟩) (by simp; try omega) _)⟩
end Go.Proofs.Ytopnkkdbimmlhaa
