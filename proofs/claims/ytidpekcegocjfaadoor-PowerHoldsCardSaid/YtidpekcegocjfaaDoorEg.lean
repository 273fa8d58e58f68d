/- power's reference: Exp. -/
import Derived.Test.YtidpekcegocjfaaDoorEf
namespace Go.Proofs.YtidpekcegocjfaaDoor
open Go.RowKit
attribute [local go_sem] ix0 ix1 ix2 ix3
theorem sqF_ones (a : Nat) (f : Nat → Bool) : ∀ d, (∀ j, j < d → f j = false) → sqF a f 1 d = 1
  | 0, _ => rfl
  | d + 1, h => by rw [sqF_succ, sqF_ones a f d (fun j hj => h j (by omega)), h d (by omega)]; rfl
theorem sqF_lead (a : Nat) (f : Nat → Bool) (d : Nat) (h : ∀ j, j < d → f j = false) : ∀ k, sqF a f 1 (d + k) = sqF a (fun j => f (d + j)) 1 k := by
  intro k
  induction k with
  | zero =>
    rw [Nat.add_zero, sqF_zero]
    exact sqF_ones a f d h
  | succ k ih => rw [← Nat.add_assoc, sqF_succ, sqF_succ, ih]
/-- The power, as both sides make it. -/
def pwN (a n : Nat) : Nat := sqF a (fun j => n.testBit (255 - j)) 1 256
theorem pwN_eq (a n : Nat) (hn : n < MM) : sqF a (fun j => n.testBit (lenN n - 1 - j)) 1 (lenN n) = pwN a n := by
  have hL := (lenN_spec n hn).2
  have h2 : ∀ x, lenN n ≤ x → n.testBit x = false := fun x hx => by
    cases hb : n.testBit x with
    | false => rfl
    | true => have := bit_len n x hn hb; omega
  unfold pwN
  generalize lenN n = L at *
  have h := sqF_lead a (fun j => n.testBit (255 - j)) (256 - L) (fun j hj => h2 _ (by omega)) L
  rw [show 256 - L + L = 256 by omega] at h
  rw [h]
  exact sqF_congr a 1 L fun j hj => by rw [show 255 - (256 - L + j) = L - 1 - j by omega]
theorem sq1_f (a y : Nat) : sq1 a y false = y * y := rfl
theorem sq1_t (a y : Nat) : sq1 a y true = y * y * a := rfl
attribute [local irreducible] sqF sq1 lb
set_option maxRecDepth 100000 in
set_option maxHeartbeats 4000000 in
theorem rexp_any (a n : Nat) (w : World) :
    Calls Tryd.prog 7 #[W a, W n] w fun e w' => e = .returned (W (pwN a n)) ∧ Below w.heap.size w w' := by
  have k0 : Blk (((w.alloc (.cells (Wc a) 24)).alloc (.cells (Wc n) 24)).alloc (.cells Zc4 24)) w.heap.size 24 (Wc a) := ((Blk.new _ _ _).alloc _).alloc _
  have k1 : Blk (((w.alloc (.cells (Wc a) 24)).alloc (.cells (Wc n) 24)).alloc (.cells Zc4 24)) (w.heap.size + 1) 24 (Wc n) := (Blk.newS w _ _ _).alloc _
  have k2 : Blk (((w.alloc (.cells (Wc a) 24)).alloc (.cells (Wc n) 24)).alloc (.cells Zc4 24)) (w.heap.size + 1 + 1) 24 Zc4 := by
    have h := Blk.newS (w.alloc (.cells (Wc a) 24)) (.cells (Wc n) 24) 24 Zc4
    rwa [World.size_alloc] at h
  have hW : Below w.heap.size w (((w.alloc (.cells (Wc a) 24)).alloc (.cells (Wc n) 24)).alloc (.cells Zc4 24)) := balloc (balloc (balloc (Below.refl _ _) _) _) _
  have HX := Lib.hid (And.intro k0 (And.intro k1 (And.intro k2 hW)))
  clear k0 k1 k2 hW
  go_enter Tryd.func7, Tryd.ntmps7
  go_wp2_with fail
  refine (rof_any 1 (by decide) _).mono ?_
  rintro e w1 ⟨rfl, h1⟩
  have HY := Lib.hid (And.intro (HX.out.1.keep h1) (And.intro (HX.out.2.1.keep h1) (And.intro (HX.out.2.2.1.keep h1) (bstep HX.out.2.2.2 h1))))
  clear HX h1
  go_upto_region 2 with fail
  obtain ⟨q0, q1, q2, qW⟩ := HY.out
  have k0 := q0.alloc (.cells (Wc 1) 24)
  have k1 := q1.alloc (.cells (Wc 1) 24)
  have k2 := q2.alloc (.cells (Wc 1) 24)
  have k3 := Blk.new w1 24 (Wc 1)
  have hW := balloc qW (.cells (Wc 1) 24)
  have hg2 : w.heap.size + 1 + 1 < w1.heap.size := q2.lt
  obtain ⟨W2, hW2⟩ : ∃ W2, w1.alloc (.cells (Wc 1) 24) = W2 := ⟨_, rfl⟩
  rw [hW2] at k0 k1 k2 k3 hW ⊢
  clear hW2 q0 q1 q2 qW HY
  generalize w1.heap.size = gs at k3 hg2 ⊢
  have HX := Lib.hid (And.intro k0 (And.intro k1 (And.intro k2 (And.intro k3 hW))))
  clear k0 k1 k2 k3 hW
  go_wp2_with fail
  go_loopw [6] (fun i wr => ∃ k : Nat, k ≤ 256 ∧ i = .int .i64 (255 - (k : Int)) ∧ Blk wr w.heap.size 24 (Wc a) ∧ Blk wr (w.heap.size + 1) 24 (Wc n) ∧ Blk wr (w.heap.size + 1 + 1) 24 Zc4 ∧ Blk wr gs 24 (Wc (sqF a (fun j => n.testBit (255 - j)) 1 k)) ∧ Below w.heap.size w wr) (fun i _ => (intOf i + 1).toNat)
  case atStart => exact ⟨0, by omega, rfl, HX.out.1, HX.out.2.1, HX.out.2.2.1, by rw [sqF_zero]; exact HX.out.2.2.2.1, HX.out.2.2.2.2⟩
  case round =>
    clear HX
    obtain ⟨k, hk, rfl, k0, k1, k2, k3, hW⟩ := hrel
    by_cases hlt : k < 256
    · have g0 : (0 : Int) ≤ 255 - (k : Int) := by omega
      have g1 : (255 : Int) - (k : Int) = ((255 - k : Nat) : Int) := by omega
      have g2 : IntKind.i64.wrap ((255 : Int) - (k : Int) - 1) = 255 - (k : Int) - 1 := IntWalk.i64_in _ (by omega)
      obtain ⟨y, hy⟩ : ∃ y, sqF a (fun j => n.testBit (255 - j)) 1 k = y := ⟨_, rfl⟩
      obtain ⟨t, ht⟩ : ∃ t, n.testBit (255 - k) = t := ⟨_, rfl⟩
      have HS := Lib.hid (show sqF a (fun j => n.testBit (255 - j)) 1 (k + 1) = sq1 a y t by rw [sqF_succ, hy, ht])
      have HB := Lib.hid (show (n / 2 ^ (255 - k) % 2 == 1) = t by rw [← ht, Nat.testBit_eq_decide_div_mod_eq]; rfl)
      rw [hy] at k3
      have HG1 := Lib.hid g1
      clear hy ht g1
      have c0 := (cell_of_row _ _ 0 _ _ _ k3).trans (wc_get y 0 (by omega))
      have c1 := (cell_of_row _ _ 1 _ _ _ k3).trans (wc_get y 1 (by omega))
      have c2 := (cell_of_row _ _ 2 _ _ _ k3).trans (wc_get y 2 (by omega))
      have c3 := (cell_of_row _ _ 3 _ _ _ k3).trans (wc_get y 3 (by omega))
      have HX := Lib.hid (And.intro k0 (And.intro k1 (And.intro k2 (And.intro k3 hW))))
      clear k0 k1 k2 k3 hW
      go_wp2_with fail
      refine (rmul_any y y _).mono ?_
      rintro e w1 ⟨rfl, h1⟩
      have k0 := HX.out.1.keep h1
      have k1 := HX.out.2.1.keep h1
      have k2 := HX.out.2.2.1.keep h1
      have k3 := HX.out.2.2.2.1.keep h1
      have hW := bstep HX.out.2.2.2.2 h1
      clear HX h1 c0 c1 c2 c3
      have f0 := frozen_of_row _ _ 0 _ _ k3
      have f1 := frozen_of_row _ _ 1 _ _ k3
      have f2 := frozen_of_row _ _ 2 _ _ k3
      have f3 := frozen_of_row _ _ 3 _ _ k3
      have c0 := (cell_of_row _ _ 0 _ _ _ k3).trans (wc_get y 0 (by omega))
      have c1 := (cell_of_row _ _ 1 _ _ _ k3).trans (wc_get y 1 (by omega))
      have c2 := (cell_of_row _ _ 2 _ _ _ k3).trans (wc_get y 2 (by omega))
      have c3 := (cell_of_row _ _ 3 _ _ _ k3).trans (wc_get y 3 (by omega))
      have hG := grown_set4 w1 (gs) (.int .u64 (lb (y * y) 0)) (.int .u64 (lb (y * y) 1)) (.int .u64 (lb (y * y) 2)) (.int .u64 (lb (y * y) 3))
      have HX := Lib.hid (And.intro (k0.kept hG (fun e => by injection e; omega)) (And.intro (k1.kept hG (fun e => by injection e; omega)) (And.intro (k2.kept hG (fun e => by injection e; omega)) (And.intro (k3.set4 (y * y)) (step_world hW hG (Nat.le_refl _) (by omega))))))
      clear k0 k1 k2 k3 hW hG
      go_upto_region 6 with fail
      obtain ⟨k0, k1, k2, k3, hW⟩ := HX.out
      obtain ⟨w4, hw4⟩ : ∃ w4, (((w1.setCell ⟨gs, 0, none⟩ (.int .u64 (lb (y * y) 0))).setCell ⟨gs, 1, none⟩ (.int .u64 (lb (y * y) 1))).setCell ⟨gs, 2, none⟩ (.int .u64 (lb (y * y) 2))).setCell ⟨gs, 3, none⟩ (.int .u64 (lb (y * y) 3)) = w4 := ⟨_, rfl⟩
      rw [hw4] at k0 k1 k2 k3 hW ⊢
      clear hw4 HX f0 f1 f2 f3 c0 c1 c2 c3
      obtain ⟨z, hz⟩ : ∃ z, y * y = z := ⟨_, rfl⟩
      rw [hz] at k3
      have HZ := Lib.hid hz
      clear hz
      have b0 := (cell_of_row _ _ 0 _ _ _ k1).trans (wc_get n 0 (by omega))
      have b1 := (cell_of_row _ _ 1 _ _ _ k1).trans (wc_get n 1 (by omega))
      have b2 := (cell_of_row _ _ 2 _ _ _ k1).trans (wc_get n 2 (by omega))
      have b3 := (cell_of_row _ _ 3 _ _ _ k1).trans (wc_get n 3 (by omega))
      have HX := Lib.hid (And.intro k0 (And.intro k1 (And.intro k2 (And.intro k3 hW))))
      clear k0 k1 k2 k3 hW
      go_wp2_with fail
      rw [HG1.out]
      refine (rbit_any n (255 - k) (by omega) _).mono ?_
      rw [HB.out]
      rintro e w5 ⟨rfl, h5⟩
      rw [← HG1.out]
      have k0 := HX.out.1.keep h5
      have k1 := HX.out.2.1.keep h5
      have k2 := HX.out.2.2.1.keep h5
      have k3 := HX.out.2.2.2.1.keep h5
      have hW := bstep HX.out.2.2.2.2 h5
      clear HX h5 b0 b1 b2 b3
      cases t
      · have HE := Lib.hid (And.intro k0 (And.intro k1 (And.intro k2 (And.intro (show Blk w5 gs 24 (Wc (sqF a (fun j => n.testBit (255 - j)) 1 (k + 1))) by rw [HS.out, sq1_f, HZ.out]; exact k3) hW))))
        clear k0 k1 k2 k3 hW
        go_wp2_with fail
        exact ⟨⟨k + 1, by omega, by congr 1; omega, HE.out⟩, by simp [intOf]; omega⟩
      · have HX := Lib.hid (And.intro k0 (And.intro k1 (And.intro k2 (And.intro k3 hW))))
        have c0 := (cell_of_row _ _ 0 _ _ _ k3).trans (wc_get z 0 (by omega))
        have c1 := (cell_of_row _ _ 1 _ _ _ k3).trans (wc_get z 1 (by omega))
        have c2 := (cell_of_row _ _ 2 _ _ _ k3).trans (wc_get z 2 (by omega))
        have c3 := (cell_of_row _ _ 3 _ _ _ k3).trans (wc_get z 3 (by omega))
        have b0 := (cell_of_row _ _ 0 _ _ _ k0).trans (wc_get a 0 (by omega))
        have b1 := (cell_of_row _ _ 1 _ _ _ k0).trans (wc_get a 1 (by omega))
        have b2 := (cell_of_row _ _ 2 _ _ _ k0).trans (wc_get a 2 (by omega))
        have b3 := (cell_of_row _ _ 3 _ _ _ k0).trans (wc_get a 3 (by omega))
        clear k0 k1 k2 k3 hW
        go_wp2_with fail
        refine (rmul_any z a _).mono ?_
        rintro e w6 ⟨rfl, h6⟩
        have k0 := HX.out.1.keep h6
        have k1 := HX.out.2.1.keep h6
        have k2 := HX.out.2.2.1.keep h6
        have k3 := HX.out.2.2.2.1.keep h6
        have hW := bstep HX.out.2.2.2.2 h6
        clear HX h6 c0 c1 c2 c3 b0 b1 b2 b3
        have f0 := frozen_of_row _ _ 0 _ _ k3
        have f1 := frozen_of_row _ _ 1 _ _ k3
        have f2 := frozen_of_row _ _ 2 _ _ k3
        have f3 := frozen_of_row _ _ 3 _ _ k3
        have c0 := (cell_of_row _ _ 0 _ _ _ k3).trans (wc_get z 0 (by omega))
        have c1 := (cell_of_row _ _ 1 _ _ _ k3).trans (wc_get z 1 (by omega))
        have c2 := (cell_of_row _ _ 2 _ _ _ k3).trans (wc_get z 2 (by omega))
        have c3 := (cell_of_row _ _ 3 _ _ _ k3).trans (wc_get z 3 (by omega))
        have hG := grown_set4 w6 (gs) (.int .u64 (lb (z * a) 0)) (.int .u64 (lb (z * a) 1)) (.int .u64 (lb (z * a) 2)) (.int .u64 (lb (z * a) 3))
        have HE := Lib.hid (And.intro (k0.kept hG (fun e => by injection e; omega)) (And.intro (k1.kept hG (fun e => by injection e; omega)) (And.intro (k2.kept hG (fun e => by injection e; omega)) (And.intro (k3.set4 (z * a)) (step_world hW hG (Nat.le_refl _) (by omega))))))
        have HS2 := Lib.hid (show sqF a (fun j => n.testBit (255 - j)) 1 (k + 1) = z * a by rw [HS.out, sq1_t, HZ.out])
        clear k0 k1 k2 k3 hW hG
        go_wp2_with fail
        exact ⟨⟨k + 1, by omega, by congr 1; omega, HE.out.1, HE.out.2.1, HE.out.2.2.1, by rw [HS2.out]; exact HE.out.2.2.2.1, HE.out.2.2.2.2⟩, by simp [intOf]; omega⟩
    · obtain rfl : k = 256 := by omega
      rw [show (255 : Int) - ((256 : Nat) : Int) = -1 from rfl]
      have HP := Lib.hid (show pwN a n = sqF a (fun j => n.testBit (255 - j)) 1 256 from rfl)
      obtain ⟨z, hz⟩ : ∃ z, sqF a (fun j => n.testBit (255 - j)) 1 256 = z := ⟨_, rfl⟩
      rw [hz] at k3 HP
      clear hz
      have c0 := (cell_of_row _ _ 0 _ _ _ k3).trans (wc_get z 0 (by omega))
      have c1 := (cell_of_row _ _ 1 _ _ _ k3).trans (wc_get z 1 (by omega))
      have c2 := (cell_of_row _ _ 2 _ _ _ k3).trans (wc_get z 2 (by omega))
      have c3 := (cell_of_row _ _ 3 _ _ _ k3).trans (wc_get z 3 (by omega))
      have f0 := frozen_of_row _ _ 0 _ _ k2
      have f1 := frozen_of_row _ _ 1 _ _ k2
      have f2 := frozen_of_row _ _ 2 _ _ k2
      have f3 := frozen_of_row _ _ 3 _ _ k2
      have r0 := cell_of_row _ _ 0 _ _ _ k2
      have r1 := cell_of_row _ _ 1 _ _ _ k2
      have r2 := cell_of_row _ _ 2 _ _ _ k2
      have r3 := cell_of_row _ _ 3 _ _ _ k2
      have hG := grown_set4 wr (w.heap.size + 1 + 1) (.int .u64 (lb (z) 0)) (.int .u64 (lb (z) 1)) (.int .u64 (lb (z) 2)) (.int .u64 (lb (z) 3))
      have HE := Lib.hid (step_world hW hG (Nat.le_refl _) (by omega))
      clear k0 k1 k2 k3 hW hG
      go_wp2_with fail
      exact bodyPost_ret (v := W z) (by simp [results, Tryd.results7, go_sem, r0, r1, r2, r3]) rfl ⟨by rw [HP.out], HE.out⟩
end Go.Proofs.YtidpekcegocjfaaDoor
