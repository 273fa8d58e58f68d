/- split's reference: MulMod. -/
import Derived.Test.YtopnkkdbimmlhaaTv
namespace Go.Proofs.Ytopnkkdbimmlhaa
open Go.RowKit Go.Shelf
attribute [local go_sem] ix0 ix1 ix2 ix3
attribute [local irreducible] lb

theorem mul_step0 (z a m : Nat) : 2 * z * a % m = (z * a % m + z * a % m) % m := by
  rw [Nat.mul_assoc, Nat.two_mul, Nat.add_mod]
theorem mul_step1 (z a m : Nat) : (2 * z + 1) * a % m = ((z * a % m + z * a % m) % m + a % m) % m := by
  rw [Nat.add_mul, Nat.one_mul, ← mul_step0, ← Nat.add_mod]
theorem half_bit (b j : Nat) : b / 2 ^ j = 2 * (b / 2 ^ (j + 1)) + b / 2 ^ j % 2 := by
  rw [Nat.pow_succ, ← Nat.div_div_eq_div_mul]
  omega
set_option maxRecDepth 100000 in
set_option maxHeartbeats 8000000 in
theorem rmulmod_any (a b m : Nat) (ha : a < MM) (hb : b < MM) (hm : m < MM) (w : World) :
    Calls Try.prog 23 #[W a, W b, W m] w fun e w' => e = .returned (W (mdN (a * b) m)) ∧ Below w.heap.size w w' := by
  have heq := fun w => eq_nought m hm w
  rcases Nat.eq_zero_or_pos m with h0 | hpos
  · have hb0 : (m == 0) = true := by rw [h0]; rfl
    rw [hb0] at heq
    have hv : (.agg #[.int .u64 0, .int .u64 0, .int .u64 0, .int .u64 0] : Value) = W (mdN (a * b) m) := by
      unfold mdN
      rw [if_pos h0, W_zero]
    rw [← hv]
    clear h0 hb0 ha hb hm hv
    go_enter Try.func23, Try.ntmps23
    go_wp2
    exact bodyPost_ret (v := .agg #[.int .u64 0, .int .u64 0, .int .u64 0, .int .u64 0]) (by simp [results, Try.results23, go_sem]) rfl ⟨rfl, balloc (balloc (balloc (balloc (balloc (Below.refl _ _) _) _) _) _) _⟩
  · have hb0 : (m == 0) = false := by simp; omega
    rw [hb0] at heq
    have hA : Blk ((((w.alloc (.cells (Wc a) 24)).alloc (.cells (Wc b) 24)).alloc (.cells (Wc m) 24)).alloc (.cells #[.int .u64 0, .int .u64 0, .int .u64 0, .int .u64 0] 24)) (w.heap.size) 24 (Wc a) := (((Blk.new _ _ _).alloc _).alloc _).alloc _
    have hB : Blk ((((w.alloc (.cells (Wc a) 24)).alloc (.cells (Wc b) 24)).alloc (.cells (Wc m) 24)).alloc (.cells #[.int .u64 0, .int .u64 0, .int .u64 0, .int .u64 0] 24)) (w.heap.size + 1) 24 (Wc b) := ((Blk.newS w _ _ _).alloc _).alloc _
    have hM : Blk ((((w.alloc (.cells (Wc a) 24)).alloc (.cells (Wc b) 24)).alloc (.cells (Wc m) 24)).alloc (.cells #[.int .u64 0, .int .u64 0, .int .u64 0, .int .u64 0] 24)) (w.heap.size + 1 + 1) 24 (Wc m) := by
      have h := Blk.newS (w.alloc (.cells (Wc a) 24)) (.cells (Wc b) 24) 24 (Wc m)
      rw [World.size_alloc] at h
      exact h.alloc _
    have hR : Blk ((((w.alloc (.cells (Wc a) 24)).alloc (.cells (Wc b) 24)).alloc (.cells (Wc m) 24)).alloc (.cells #[.int .u64 0, .int .u64 0, .int .u64 0, .int .u64 0] 24)) (w.heap.size + 1 + 1 + 1) 24 #[.int .u64 0, .int .u64 0, .int .u64 0, .int .u64 0] := by
      have h := Blk.newS ((w.alloc (.cells (Wc a) 24)).alloc (.cells (Wc b) 24)) (.cells (Wc m) 24) 24 #[.int .u64 0, .int .u64 0, .int .u64 0, .int .u64 0]
      rwa [World.size_alloc, World.size_alloc] at h
    have hW : Below w.heap.size w ((((w.alloc (.cells (Wc a) 24)).alloc (.cells (Wc b) 24)).alloc (.cells (Wc m) 24)).alloc (.cells #[.int .u64 0, .int .u64 0, .int .u64 0, .int .u64 0] 24)) := balloc (balloc (balloc (balloc (Below.refl _ _) _) _) _) _
    have hO : Blk (((((w.alloc (.cells (Wc a) 24)).alloc (.cells (Wc b) 24)).alloc (.cells (Wc m) 24)).alloc (.cells #[.int .u64 0, .int .u64 0, .int .u64 0, .int .u64 0] 24)).alloc (.cells #[.int .u64 0, .int .u64 0, .int .u64 0, .int .u64 0] 24)) (w.heap.size + 1 + 1 + 1 + 1) 24 #[.int .u64 0, .int .u64 0, .int .u64 0, .int .u64 0] := by
      have h := Blk.newS (((w.alloc (.cells (Wc a) 24)).alloc (.cells (Wc b) 24)).alloc (.cells (Wc m) 24)) (.cells #[.int .u64 0, .int .u64 0, .int .u64 0, .int .u64 0] 24) 24 #[.int .u64 0, .int .u64 0, .int .u64 0, .int .u64 0]
      rwa [World.size_alloc, World.size_alloc, World.size_alloc] at h
    replace hA := hA.alloc (.cells #[.int .u64 0, .int .u64 0, .int .u64 0, .int .u64 0] 24)
    replace hB := hB.alloc (.cells #[.int .u64 0, .int .u64 0, .int .u64 0, .int .u64 0] 24)
    replace hM := hM.alloc (.cells #[.int .u64 0, .int .u64 0, .int .u64 0, .int .u64 0] 24)
    replace hR := hR.alloc (.cells #[.int .u64 0, .int .u64 0, .int .u64 0, .int .u64 0] 24)
    replace hW := balloc hW (.cells #[.int .u64 0, .int .u64 0, .int .u64 0, .int .u64 0] 24)
    have hd1 := fun w => rdivide_pos a m ha hpos hm w
    have hx : a % m < m := Nat.mod_lt _ hpos
    have hres : mdN (a * b) m = b / 2 ^ 0 * a % m := by
      unfold mdN
      rw [if_neg (by omega), Nat.pow_zero, Nat.div_one, Nat.mul_comm]
    have hst0 := fun z => mul_step0 z a m
    have hst1 := fun z => mul_step1 z a m
    rw [hres]
    have e1 : b / 2 ^ 256 * a % m = 0 := by rw [show b / 2 ^ 256 = 0 from Nat.div_eq_of_lt (Nat.lt_of_lt_of_le hb (by decide +kernel)), Nat.zero_mul, Nat.zero_mod]
    clear hres hb0 ha hb
    generalize a % m = x at hd1 hx hst1
    generalize a / m = q1 at hd1
    have HD1 := Lib.hid hd1
    have HX := Lib.hid (And.intro hx (And.intro hm hpos))
    have HST0 := Lib.hid hst0
    have HST1 := Lib.hid hst1
    have HE := Lib.hid e1
    clear hd1 hx hm hpos hst0 hst1 e1
    have H := Lib.hid (And.intro hA (And.intro hB (And.intro hM (And.intro hR (And.intro hO (hW))))))
    clear hA hB hM hR hO hW
    go_enter Try.func23, Try.ntmps23
    go_wp2_with fail
    refine (HD1.out _).mono ?_
    rintro e w1 ⟨rfl, h1⟩
    obtain ⟨hA, hB, hM, hR, hO, hW⟩ := H.out
    clear H
    replace hB := hB.block_below h1
    replace hM := hM.block_below h1
    replace hR := hR.block_below h1
    replace hO := hO.block_below h1
    replace hW := bstep hW h1
    clear h1 hA heq HD1
    have hgl := hO.lt
    replace hB := (hB.alloc (.cells (Wc q1) 24)).alloc (.cells (Wc x) 24)
    replace hM := (hM.alloc (.cells (Wc q1) 24)).alloc (.cells (Wc x) 24)
    replace hR := (hR.alloc (.cells (Wc q1) 24)).alloc (.cells (Wc x) 24)
    replace hO := (hO.alloc (.cells (Wc q1) 24)).alloc (.cells (Wc x) 24)
    have hX := Blk.newS w1 (.cells (Wc q1) 24) 24 (Wc x)
    replace hW := balloc (balloc hW (.cells (Wc q1) 24)) (.cells (Wc x) 24)
    have e0 : #[.int .u64 0, .int .u64 0, .int .u64 0, .int .u64 0] = Wc 0 := by unfold Wc; simp only [lb_zero]
    rw [e0] at hO
    clear e0
    have H := Lib.hid (And.intro hB (And.intro hM (And.intro hR (And.intro hX (And.intro hO (hW))))))
    clear hB hM hR hX hO hW
    go_upto_region 6 with fail
    obtain ⟨W0, hW0⟩ : ∃ W0, (w1.alloc (.cells (Wc q1) 24)).alloc (.cells (Wc x) 24) = W0 := ⟨_, rfl⟩
    rw [hW0] at H ⊢
    clear hW0
    replace hgl : w.heap.size + 1 + 1 + 1 + 1 < w1.heap.size + 1 := by omega
    generalize w1.heap.size + 1 = gx at H hgl ⊢
    generalize w1.heap.size = gq at *
    obtain ⟨hB, hM, hR, hX, hO, hW⟩ := H.out
    clear H
    go_loopw [10] (fun i wr => ∃ k : Nat, k ≤ 256 ∧ i = .int .i64 ((k : Int) - 1) ∧ Blk wr (w.heap.size + 1) 24 (Wc b) ∧ Blk wr (w.heap.size + 1 + 1) 24 (Wc m) ∧ Blk wr (w.heap.size + 1 + 1 + 1) 24 #[.int .u64 0, .int .u64 0, .int .u64 0, .int .u64 0] ∧ Blk wr gx 24 (Wc x) ∧ Blk wr (w.heap.size + 1 + 1 + 1 + 1) 24 (Wc (b / 2 ^ k * a % m)) ∧ Below w.heap.size w wr) (fun i _ => (intOf i + 1).toNat)
    case atStart =>
      exact ⟨256, Nat.le_refl _, rfl, hB, hM, hR, hX, by rw [HE.out]; exact hO, hW⟩
    case round =>
      clear hB hM hR hX hO hW
      obtain ⟨k, hk, rfl, hB, hM, hR, hX, hO, hW⟩ := hrel
      by_cases hk0 : k = 0
      · subst hk0
        have cR0 := cell_of_row wr _ 0 _ _ _ hR
        have fR0 := frozen_of_row wr _ 0 _ _ hR
        have cR1 := cell_of_row wr _ 1 _ _ _ hR
        have fR1 := frozen_of_row wr _ 1 _ _ hR
        have cR2 := cell_of_row wr _ 2 _ _ _ hR
        have fR2 := frozen_of_row wr _ 2 _ _ hR
        have cR3 := cell_of_row wr _ 3 _ _ _ hR
        have fR3 := frozen_of_row wr _ 3 _ _ hR
        have cO0 := (cell_of_row wr _ 0 _ _ _ hO).trans (wc_get (b / 2 ^ 0 * a % m) 0 (by omega))
        have cO1 := (cell_of_row wr _ 1 _ _ _ hO).trans (wc_get (b / 2 ^ 0 * a % m) 1 (by omega))
        have cO2 := (cell_of_row wr _ 2 _ _ _ hO).trans (wc_get (b / 2 ^ 0 * a % m) 2 (by omega))
        have cO3 := (cell_of_row wr _ 3 _ _ _ hO).trans (wc_get (b / 2 ^ 0 * a % m) 3 (by omega))
        clear hB hM hR hX hO
        generalize hv : b / 2 ^ 0 * a % m = v at cO0 cO1 cO2 cO3
        have HV := Lib.hid hv
        clear hv
        have HW := Lib.hid hW
        clear hW
        go_wp2
        exact bodyPost_ret (v := W v) (by simp [results, Try.results23, go_sem, cR0, cR1, cR2, cR3]) rfl ⟨by rw [HV.out], ((((HW.out.setCell (p := ⟨w.heap.size + 1 + 1 + 1, 0, none⟩) (by simp; try omega) _).setCell (p := ⟨w.heap.size + 1 + 1 + 1, 1, none⟩) (by simp; try omega) _).setCell (p := ⟨w.heap.size + 1 + 1 + 1, 2, none⟩) (by simp; try omega) _).setCell (p := ⟨w.heap.size + 1 + 1 + 1, 3, none⟩) (by simp; try omega) _)⟩
      · obtain ⟨j, rfl⟩ : ∃ j, k = j + 1 := ⟨k - 1, by omega⟩
        have g1 : ((j + 1 : Nat) : Int) - 1 = (j : Int) := by omega
        rw [g1]
        clear g1 hk0
        have gl : IntKind.i64.wrap ((j : Int) - 1) = (j : Int) - 1 := IntWalk.i64_in _ (by omega)
        have hh := half_bit b j
        have hbit2 : b / 2 ^ j % 2 < 2 := Nat.mod_lt _ (by omega)
        have hbt := fun w => rbit_any b j (by omega) w
        obtain ⟨o, ho⟩ : ∃ o, b / 2 ^ (j + 1) * a % m = o := ⟨_, rfl⟩
        have hoM : o < m := by rw [← ho]; exact Nat.mod_lt _ HX.out.2.2
        obtain ⟨o2, ho2⟩ : ∃ o2, (o + o) % m = o2 := ⟨_, rfl⟩
        have ho2M : o2 < m := by rw [← ho2]; exact Nat.mod_lt _ HX.out.2.2
        obtain ⟨o3, ho3⟩ : ∃ o3, (o2 + x) % m = o3 := ⟨_, rfl⟩
        have hb1 := fun w => rbelow_any o o m hoM hoM HX.out.2.1 w
        have hb2 := fun w => rbelow_any o2 x m ho2M HX.out.1 HX.out.2.1 w
        rw [ho2] at hb1
        rw [ho3] at hb2
        have hr0 : (b / 2 ^ j % 2 == 1) = false → b / 2 ^ j * a % m = o2 := by
          intro h
          have h2 : b / 2 ^ j % 2 = 0 := by simp at h; omega
          rw [hh, h2, Nat.add_zero, HST0.out, ho, ho2]
        have hr1 : (b / 2 ^ j % 2 == 1) = true → b / 2 ^ j * a % m = o3 := by
          intro h
          have h2 : b / 2 ^ j % 2 = 1 := by simpa using h
          rw [hh, h2, HST1.out, ho, ho2, ho3]
        rw [ho] at hO
        have HR0 := Lib.hid hr0
        have HR1 := Lib.hid hr1
        have HB1 := Lib.hid hb1
        have HB2 := Lib.hid hb2
        have HBT := Lib.hid hbt
        clear hr0 hr1 hb1 hb2 hbt hh hbit2 ho ho2 ho3 hoM ho2M
        have cO0 := (cell_of_row wr _ 0 _ _ _ hO).trans (wc_get (o) 0 (by omega))
        have cO1 := (cell_of_row wr _ 1 _ _ _ hO).trans (wc_get (o) 1 (by omega))
        have cO2 := (cell_of_row wr _ 2 _ _ _ hO).trans (wc_get (o) 2 (by omega))
        have cO3 := (cell_of_row wr _ 3 _ _ _ hO).trans (wc_get (o) 3 (by omega))
        have cM0 := (cell_of_row wr _ 0 _ _ _ hM).trans (wc_get (m) 0 (by omega))
        have cM1 := (cell_of_row wr _ 1 _ _ _ hM).trans (wc_get (m) 1 (by omega))
        have cM2 := (cell_of_row wr _ 2 _ _ _ hM).trans (wc_get (m) 2 (by omega))
        have cM3 := (cell_of_row wr _ 3 _ _ _ hM).trans (wc_get (m) 3 (by omega))
        have H := Lib.hid (And.intro hB (And.intro hM (And.intro hR (And.intro hX (And.intro hO (hW))))))
        clear hB hM hR hX hO hW
        go_wp2_with fail
        refine (HB1.out _).mono ?_
        rintro e w3 ⟨rfl, h3⟩
        clear cO0 cO1 cO2 cO3 cM0 cM1 cM2 cM3
        obtain ⟨hB, hM, hR, hX, hO, hW⟩ := H.out
        clear H
        replace hB := hB.block_below h3
        replace hM := hM.block_below h3
        replace hR := hR.block_below h3
        replace hX := hX.block_below h3
        replace hO := hO.block_below h3
        replace hW := bstep hW h3
        clear h3
        have cO0 := (cell_of_row w3 _ 0 _ _ _ hO).trans (wc_get (o) 0 (by omega))
        have fO0 := frozen_of_row w3 _ 0 _ _ hO
        have cO1 := (cell_of_row w3 _ 1 _ _ _ hO).trans (wc_get (o) 1 (by omega))
        have fO1 := frozen_of_row w3 _ 1 _ _ hO
        have cO2 := (cell_of_row w3 _ 2 _ _ _ hO).trans (wc_get (o) 2 (by omega))
        have fO2 := frozen_of_row w3 _ 2 _ _ hO
        have cO3 := (cell_of_row w3 _ 3 _ _ _ hO).trans (wc_get (o) 3 (by omega))
        have fO3 := frozen_of_row w3 _ 3 _ _ hO
        have cB0 := (cell_of_row w3 _ 0 _ _ _ hB).trans (wc_get (b) 0 (by omega))
        have cB1 := (cell_of_row w3 _ 1 _ _ _ hB).trans (wc_get (b) 1 (by omega))
        have cB2 := (cell_of_row w3 _ 2 _ _ _ hB).trans (wc_get (b) 2 (by omega))
        have cB3 := (cell_of_row w3 _ 3 _ _ _ hB).trans (wc_get (b) 3 (by omega))
        have hG := grown_set4 w3 (w.heap.size + 1 + 1 + 1 + 1) (.int .u64 (lb o2 0)) (.int .u64 (lb o2 1)) (.int .u64 (lb o2 2)) (.int .u64 (lb o2 3))
        have hO2 := hO.set4 o2
        replace hB := hB.kept hG (by intro e; injection e; omega)
        replace hM := hM.kept hG (by intro e; injection e; omega)
        replace hR := hR.kept hG (by intro e; injection e; omega)
        replace hX := hX.kept hG (by intro e; injection e; omega)
        replace hW := step_world hW hG (Nat.le_refl _) (by omega)
        clear hG hO
        have H := Lib.hid (And.intro hB (And.intro hM (And.intro hR (And.intro hX (And.intro hO2 (hW))))))
        clear hB hM hR hX hO2 hW
        go_wp2_with fail
        refine (HBT.out _).mono ?_
        rintro e w4 ⟨rfl, h4⟩
        clear cO0 cO1 cO2 cO3 cB0 cB1 cB2 cB3 fO0 fO1 fO2 fO3
        obtain ⟨hB, hM, hR, hX, hO2, hW⟩ := H.out
        clear H
        replace hB := hB.block_below h4
        replace hM := hM.block_below h4
        replace hR := hR.block_below h4
        replace hX := hX.block_below h4
        replace hO2 := hO2.block_below h4
        replace hW := bstep hW h4
        clear h4
        obtain ⟨t, ht⟩ : ∃ t, (b / 2 ^ j % 2 == 1) = t := ⟨_, rfl⟩
        have HT := Lib.hid ht
        rw [ht]
        clear ht
        cases t
        · have HF := Lib.hid (show Blk w4 (w.heap.size + 1 + 1 + 1 + 1) 24 (Wc (b / 2 ^ j * a % m)) by rw [HR0.out HT.out]; exact hO2)
          have H := Lib.hid (And.intro hB (And.intro hM (And.intro hR (And.intro hX (hW)))))
          clear hB hM hR hX hW
          clear hO2
          go_wp2
          obtain ⟨hB, hM, hR, hX, hW⟩ := H.out
          exact ⟨⟨j, by omega, rfl, hB, hM, hR, hX, HF.out, hW⟩, by simp [intOf]⟩
        · have hO := hO2
          clear hO2
          have cO0 := (cell_of_row w4 _ 0 _ _ _ hO).trans (wc_get (o2) 0 (by omega))
          have cO1 := (cell_of_row w4 _ 1 _ _ _ hO).trans (wc_get (o2) 1 (by omega))
          have cO2 := (cell_of_row w4 _ 2 _ _ _ hO).trans (wc_get (o2) 2 (by omega))
          have cO3 := (cell_of_row w4 _ 3 _ _ _ hO).trans (wc_get (o2) 3 (by omega))
          have cX0 := (cell_of_row w4 _ 0 _ _ _ hX).trans (wc_get (x) 0 (by omega))
          have cX1 := (cell_of_row w4 _ 1 _ _ _ hX).trans (wc_get (x) 1 (by omega))
          have cX2 := (cell_of_row w4 _ 2 _ _ _ hX).trans (wc_get (x) 2 (by omega))
          have cX3 := (cell_of_row w4 _ 3 _ _ _ hX).trans (wc_get (x) 3 (by omega))
          have cM0 := (cell_of_row w4 _ 0 _ _ _ hM).trans (wc_get (m) 0 (by omega))
          have cM1 := (cell_of_row w4 _ 1 _ _ _ hM).trans (wc_get (m) 1 (by omega))
          have cM2 := (cell_of_row w4 _ 2 _ _ _ hM).trans (wc_get (m) 2 (by omega))
          have cM3 := (cell_of_row w4 _ 3 _ _ _ hM).trans (wc_get (m) 3 (by omega))
          have H := Lib.hid (And.intro hB (And.intro hM (And.intro hR (And.intro hX (And.intro hO (hW))))))
          clear hB hM hR hX hO hW
          go_wp2_with fail
          refine (HB2.out _).mono ?_
          rintro e w5 ⟨rfl, h5⟩
          clear cO0 cO1 cO2 cO3 cX0 cX1 cX2 cX3 cM0 cM1 cM2 cM3
          obtain ⟨hB, hM, hR, hX, hO, hW⟩ := H.out
          clear H
          replace hB := hB.block_below h5
          replace hM := hM.block_below h5
          replace hR := hR.block_below h5
          replace hX := hX.block_below h5
          replace hO := hO.block_below h5
          replace hW := bstep hW h5
          clear h5
          have cO0 := (cell_of_row w5 _ 0 _ _ _ hO).trans (wc_get (o2) 0 (by omega))
          have fO0 := frozen_of_row w5 _ 0 _ _ hO
          have cO1 := (cell_of_row w5 _ 1 _ _ _ hO).trans (wc_get (o2) 1 (by omega))
          have fO1 := frozen_of_row w5 _ 1 _ _ hO
          have cO2 := (cell_of_row w5 _ 2 _ _ _ hO).trans (wc_get (o2) 2 (by omega))
          have fO2 := frozen_of_row w5 _ 2 _ _ hO
          have cO3 := (cell_of_row w5 _ 3 _ _ _ hO).trans (wc_get (o2) 3 (by omega))
          have fO3 := frozen_of_row w5 _ 3 _ _ hO
          have hG := grown_set4 w5 (w.heap.size + 1 + 1 + 1 + 1) (.int .u64 (lb o3 0)) (.int .u64 (lb o3 1)) (.int .u64 (lb o3 2)) (.int .u64 (lb o3 3))
          have hO2 := hO.set4 o3
          replace hB := hB.kept hG (by intro e; injection e; omega)
          replace hM := hM.kept hG (by intro e; injection e; omega)
          replace hR := hR.kept hG (by intro e; injection e; omega)
          replace hX := hX.kept hG (by intro e; injection e; omega)
          replace hW := step_world hW hG (Nat.le_refl _) (by omega)
          clear hG hO
          have HF := Lib.hid (show Blk ((((w5.setCell ⟨w.heap.size + 1 + 1 + 1 + 1, 0, none⟩ (.int .u64 (lb (o3) 0))).setCell ⟨w.heap.size + 1 + 1 + 1 + 1, 1, none⟩ (.int .u64 (lb (o3) 1))).setCell ⟨w.heap.size + 1 + 1 + 1 + 1, 2, none⟩ (.int .u64 (lb (o3) 2))).setCell ⟨w.heap.size + 1 + 1 + 1 + 1, 3, none⟩ (.int .u64 (lb (o3) 3))) (w.heap.size + 1 + 1 + 1 + 1) 24 (Wc (b / 2 ^ j * a % m)) by rw [HR1.out HT.out]; exact hO2)
          have H := Lib.hid (And.intro hB (And.intro hM (And.intro hR (And.intro hX (hW)))))
          clear hB hM hR hX hW
          clear hO2
          go_wp2
          obtain ⟨hB, hM, hR, hX, hW⟩ := H.out
          exact ⟨⟨j, by omega, rfl, hB, hM, hR, hX, HF.out, hW⟩, by simp [intOf]⟩
end Go.Proofs.Ytopnkkdbimmlhaa
