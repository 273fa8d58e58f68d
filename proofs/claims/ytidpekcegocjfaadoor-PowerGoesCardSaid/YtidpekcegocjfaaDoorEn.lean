/- power's reference: Squares. -/
import Derived.Test.YtidpekcegocjfaaDoorEg
namespace Go.Proofs.YtidpekcegocjfaaDoor
open Go.RowKit
attribute [local go_sem] ix0 ix1 ix2 ix3
attribute [local irreducible] sqF sq1 lb
set_option maxRecDepth 100000 in
set_option maxHeartbeats 4000000 in
theorem rsquares_any (a b o n cap : Nat) (f : Nat → Bool) (w : World) (hn : n ≤ 9223372036854775806) (hb : b < w.heap.size) (hf : ∀ j, j < n → w.cell? ⟨b, o + j, none⟩ = some (.bool (f j))) :
    Calls Tryd.prog 15 #[W a, .slice (some ⟨b, o, none⟩) n cap] w fun e w' => e = .returned (W (sqF a f 1 n)) ∧ Below w.heap.size w w' := by
  have k0 : Blk ((w.alloc (.cells (Wc a) 24)).alloc (.cells Zc4 24)) w.heap.size 24 (Wc a) := (Blk.new _ _ _).alloc _
  have k2 : Blk ((w.alloc (.cells (Wc a) 24)).alloc (.cells Zc4 24)) (w.heap.size + 1) 24 Zc4 := Blk.newS w _ _ _
  have hW : Below w.heap.size w ((w.alloc (.cells (Wc a) 24)).alloc (.cells Zc4 24)) := balloc (balloc (Below.refl _ _) _) _
  have HX := Lib.hid (And.intro k0 (And.intro k2 hW))
  have HFF := Lib.hid hf
  clear k0 k2 hW hf
  go_enter Tryd.func15, Tryd.ntmps15
  go_wp2_with fail
  refine (rof_any 1 (by decide) _).mono ?_
  rintro e w1 ⟨rfl, h1⟩
  have HY := Lib.hid (And.intro (HX.out.1.keep h1) (And.intro (HX.out.2.1.keep h1) (bstep HX.out.2.2 h1)))
  clear HX h1
  go_upto_region 2 with fail
  obtain ⟨q0, q2, qW⟩ := HY.out
  have k0 := q0.alloc (.cells (Wc 1) 24)
  have k2 := q2.alloc (.cells (Wc 1) 24)
  have k3 := Blk.new w1 24 (Wc 1)
  have hW := balloc qW (.cells (Wc 1) 24)
  have hg2 : w.heap.size + 1 < w1.heap.size := q2.lt
  obtain ⟨W2, hW2⟩ : ∃ W2, w1.alloc (.cells (Wc 1) 24) = W2 := ⟨_, rfl⟩
  rw [hW2] at k0 k2 k3 hW ⊢
  clear hW2 q0 q2 qW HY
  generalize w1.heap.size = gs at k3 hg2 ⊢
  have HX := Lib.hid (And.intro k0 (And.intro k2 (And.intro k3 hW)))
  clear k0 k2 k3 hW
  go_wp2_with fail
  go_loopw [6] (fun i wr => ∃ k : Nat, k ≤ n ∧ i = .int .i64 (k : Int) ∧ Blk wr w.heap.size 24 (Wc a) ∧ Blk wr (w.heap.size + 1) 24 Zc4 ∧ Blk wr gs 24 (Wc (sqF a f 1 k)) ∧ Below w.heap.size w wr) (fun i _ => n - (intOf i).toNat)
  case atStart => exact ⟨0, by omega, rfl, HX.out.1, HX.out.2.1, by rw [sqF_zero]; exact HX.out.2.2.1, HX.out.2.2.2⟩
  case round =>
    clear HX
    obtain ⟨k, hk, rfl, k0, k2, k3, hW⟩ := hrel
    by_cases hlt : k < n
    · have g0 : (k : Int) < n := by omega
      have g2 : IntKind.i64.wrap ((k : Int) + 1) = (k : Int) + 1 := IntWalk.i64_in _ (by omega)
      obtain ⟨y, hy⟩ : ∃ y, sqF a f 1 k = y := ⟨_, rfl⟩
      have hc0 := HFF.out k hlt
      obtain ⟨t, ht⟩ : ∃ t, f k = t := ⟨_, rfl⟩
      have HS := Lib.hid (show sqF a f 1 (k + 1) = sq1 a y t by rw [sqF_succ, hy, ht])
      rw [hy] at k3
      rw [ht] at hc0
      have HC := Lib.hid hc0
      clear hy ht hc0
      have c0 := (cell_of_row _ _ 0 _ _ _ k3).trans (wc_get y 0 (by omega))
      have c1 := (cell_of_row _ _ 1 _ _ _ k3).trans (wc_get y 1 (by omega))
      have c2 := (cell_of_row _ _ 2 _ _ _ k3).trans (wc_get y 2 (by omega))
      have c3 := (cell_of_row _ _ 3 _ _ _ k3).trans (wc_get y 3 (by omega))
      have HX := Lib.hid (And.intro k0 (And.intro k2 (And.intro k3 hW)))
      clear k0 k2 k3 hW
      go_wp2_with fail
      refine (rmul_any y y _).mono ?_
      rintro e w1 ⟨rfl, h1⟩
      have k0 := HX.out.1.keep h1
      have k2 := HX.out.2.1.keep h1
      have k3 := HX.out.2.2.1.keep h1
      have hW := bstep HX.out.2.2.2 h1
      clear HX h1 c0 c1 c2 c3
      have f0 := frozen_of_row _ _ 0 _ _ k3
      have f1 := frozen_of_row _ _ 1 _ _ k3
      have f2 := frozen_of_row _ _ 2 _ _ k3
      have f3 := frozen_of_row _ _ 3 _ _ k3
      have c0 := (cell_of_row _ _ 0 _ _ _ k3).trans (wc_get y 0 (by omega))
      have c1 := (cell_of_row _ _ 1 _ _ _ k3).trans (wc_get y 1 (by omega))
      have c2 := (cell_of_row _ _ 2 _ _ _ k3).trans (wc_get y 2 (by omega))
      have c3 := (cell_of_row _ _ 3 _ _ _ k3).trans (wc_get y 3 (by omega))
      have hG := grown_set4 w1 (gs) (.int .u64 (lb (y * y) 0)) (.int .u64 (lb (y * y) 1)) (.int .u64 (lb (y * y) 2)) (.int .u64 (lb (y * y) 3))
      have HX := Lib.hid (And.intro (k0.kept hG (fun e => by injection e; omega)) (And.intro (k2.kept hG (fun e => by injection e; omega)) (And.intro (k3.set4 (y * y)) (step_world hW hG (Nat.le_refl _) (by omega)))))
      clear k0 k2 k3 hW hG
      go_upto_region 6 with fail
      obtain ⟨k0, k2, k3, hW⟩ := HX.out
      obtain ⟨w4, hw4⟩ : ∃ w4, (((w1.setCell ⟨gs, 0, none⟩ (.int .u64 (lb (y * y) 0))).setCell ⟨gs, 1, none⟩ (.int .u64 (lb (y * y) 1))).setCell ⟨gs, 2, none⟩ (.int .u64 (lb (y * y) 2))).setCell ⟨gs, 3, none⟩ (.int .u64 (lb (y * y) 3)) = w4 := ⟨_, rfl⟩
      rw [hw4] at k0 k2 k3 hW ⊢
      clear hw4 HX f0 f1 f2 f3 c0 c1 c2 c3
      obtain ⟨z, hz⟩ : ∃ z, y * y = z := ⟨_, rfl⟩
      rw [hz] at k3
      have HZ := Lib.hid hz
      clear hz
      have hc := (hW.cell (p := ⟨b, o + k, none⟩) hb).trans HC.out
      cases t
      · have HE := Lib.hid (And.intro k0 (And.intro k2 (And.intro (show Blk w4 gs 24 (Wc (sqF a f 1 (k + 1))) by rw [HS.out, sq1_f, HZ.out]; exact k3) hW)))
        clear k0 k2 k3 hW
        go_wp2_with fail
        exact ⟨⟨k + 1, by omega, by go_num, HE.out⟩, by simp [intOf]; omega⟩
      · have HX := Lib.hid (And.intro k0 (And.intro k2 (And.intro k3 hW)))
        have c0 := (cell_of_row _ _ 0 _ _ _ k3).trans (wc_get z 0 (by omega))
        have c1 := (cell_of_row _ _ 1 _ _ _ k3).trans (wc_get z 1 (by omega))
        have c2 := (cell_of_row _ _ 2 _ _ _ k3).trans (wc_get z 2 (by omega))
        have c3 := (cell_of_row _ _ 3 _ _ _ k3).trans (wc_get z 3 (by omega))
        have b0 := (cell_of_row _ _ 0 _ _ _ k0).trans (wc_get a 0 (by omega))
        have b1 := (cell_of_row _ _ 1 _ _ _ k0).trans (wc_get a 1 (by omega))
        have b2 := (cell_of_row _ _ 2 _ _ _ k0).trans (wc_get a 2 (by omega))
        have b3 := (cell_of_row _ _ 3 _ _ _ k0).trans (wc_get a 3 (by omega))
        clear k0 k2 k3 hW
        go_wp2_with fail
        refine (rmul_any z a _).mono ?_
        rintro e w6 ⟨rfl, h6⟩
        have k0 := HX.out.1.keep h6
        have k2 := HX.out.2.1.keep h6
        have k3 := HX.out.2.2.1.keep h6
        have hW := bstep HX.out.2.2.2 h6
        clear HX h6 c0 c1 c2 c3 b0 b1 b2 b3 hc
        have f0 := frozen_of_row _ _ 0 _ _ k3
        have f1 := frozen_of_row _ _ 1 _ _ k3
        have f2 := frozen_of_row _ _ 2 _ _ k3
        have f3 := frozen_of_row _ _ 3 _ _ k3
        have c0 := (cell_of_row _ _ 0 _ _ _ k3).trans (wc_get z 0 (by omega))
        have c1 := (cell_of_row _ _ 1 _ _ _ k3).trans (wc_get z 1 (by omega))
        have c2 := (cell_of_row _ _ 2 _ _ _ k3).trans (wc_get z 2 (by omega))
        have c3 := (cell_of_row _ _ 3 _ _ _ k3).trans (wc_get z 3 (by omega))
        have hG := grown_set4 w6 (gs) (.int .u64 (lb (z * a) 0)) (.int .u64 (lb (z * a) 1)) (.int .u64 (lb (z * a) 2)) (.int .u64 (lb (z * a) 3))
        have HE := Lib.hid (And.intro (k0.kept hG (fun e => by injection e; omega)) (And.intro (k2.kept hG (fun e => by injection e; omega)) (And.intro (k3.set4 (z * a)) (step_world hW hG (Nat.le_refl _) (by omega)))))
        have HS2 := Lib.hid (show sqF a f 1 (k + 1) = z * a by rw [HS.out, sq1_t, HZ.out])
        clear k0 k2 k3 hW hG
        go_wp2_with fail
        exact ⟨⟨k + 1, by omega, by go_num, HE.out.1, HE.out.2.1, by rw [HS2.out]; exact HE.out.2.2.1, HE.out.2.2.2⟩, by simp [intOf]; omega⟩
    · obtain rfl : k = n := by omega
      obtain ⟨z, hz⟩ : ∃ z, sqF a f 1 k = z := ⟨_, rfl⟩
      rw [hz] at k3
      have HP := Lib.hid hz
      clear hz
      have c0 := (cell_of_row _ _ 0 _ _ _ k3).trans (wc_get z 0 (by omega))
      have c1 := (cell_of_row _ _ 1 _ _ _ k3).trans (wc_get z 1 (by omega))
      have c2 := (cell_of_row _ _ 2 _ _ _ k3).trans (wc_get z 2 (by omega))
      have c3 := (cell_of_row _ _ 3 _ _ _ k3).trans (wc_get z 3 (by omega))
      have f0 := frozen_of_row _ _ 0 _ _ k2
      have f1 := frozen_of_row _ _ 1 _ _ k2
      have f2 := frozen_of_row _ _ 2 _ _ k2
      have f3 := frozen_of_row _ _ 3 _ _ k2
      have r0 := cell_of_row _ _ 0 _ _ _ k2
      have r1 := cell_of_row _ _ 1 _ _ _ k2
      have r2 := cell_of_row _ _ 2 _ _ _ k2
      have r3 := cell_of_row _ _ 3 _ _ _ k2
      have hG := grown_set4 wr (w.heap.size + 1) (.int .u64 (lb (z) 0)) (.int .u64 (lb (z) 1)) (.int .u64 (lb (z) 2)) (.int .u64 (lb (z) 3))
      have HE := Lib.hid (step_world hW hG (Nat.le_refl _) (by omega))
      clear k0 k2 k3 hW hG
      go_wp2_with fail
      exact bodyPost_ret (v := W z) (by simp [results, Tryd.results15, go_sem, r0, r1, r2, r3]) rfl ⟨by rw [HP.out], HE.out⟩
set_option maxHeartbeats 2000000 in
theorem rsquares_nil (a : Nat) (w : World) :
    Calls Tryd.prog 15 #[W a, .slice none 0 0] w fun e w' => e = .returned (W 1) ∧ Below w.heap.size w w' := by
  have k2 : Blk ((w.alloc (.cells (Wc a) 24)).alloc (.cells Zc4 24)) (w.heap.size + 1) 24 Zc4 := Blk.newS w _ _ _
  have hW : Below w.heap.size w ((w.alloc (.cells (Wc a) 24)).alloc (.cells Zc4 24)) := balloc (balloc (Below.refl _ _) _) _
  have HX := Lib.hid (And.intro k2 hW)
  clear k2 hW
  go_enter Tryd.func15, Tryd.ntmps15
  go_wp2_with fail
  refine (rof_any 1 (by decide) _).mono ?_
  rintro e w1 ⟨rfl, h1⟩
  have k2 := (HX.out.1.keep h1).alloc (.cells (Wc 1) 24)
  have hW := balloc (bstep HX.out.2 h1) (.cells (Wc 1) 24)
  clear HX h1
  go_upto_region 2 with fail
  have k3 := Blk.new w1 24 (Wc 1)
  obtain ⟨W2, hW2⟩ : ∃ W2, w1.alloc (.cells (Wc 1) 24) = W2 := ⟨_, rfl⟩
  rw [hW2] at k2 k3 hW ⊢
  clear hW2
  generalize w1.heap.size = gs at k3 ⊢
  have c0 := (cell_of_row _ _ 0 _ _ _ k3).trans (wc_get 1 0 (by omega))
  have c1 := (cell_of_row _ _ 1 _ _ _ k3).trans (wc_get 1 1 (by omega))
  have c2 := (cell_of_row _ _ 2 _ _ _ k3).trans (wc_get 1 2 (by omega))
  have c3 := (cell_of_row _ _ 3 _ _ _ k3).trans (wc_get 1 3 (by omega))
  have f0 := frozen_of_row _ _ 0 _ _ k2
  have f1 := frozen_of_row _ _ 1 _ _ k2
  have f2 := frozen_of_row _ _ 2 _ _ k2
  have f3 := frozen_of_row _ _ 3 _ _ k2
  have r0 := cell_of_row _ _ 0 _ _ _ k2
  have r1 := cell_of_row _ _ 1 _ _ _ k2
  have r2 := cell_of_row _ _ 2 _ _ _ k2
  have r3 := cell_of_row _ _ 3 _ _ _ k2
  have hG := grown_set4 W2 (w.heap.size + 1) (.int .u64 (lb (1) 0)) (.int .u64 (lb (1) 1)) (.int .u64 (lb (1) 2)) (.int .u64 (lb (1) 3))
  have HE := Lib.hid (step_world hW hG (Nat.le_refl _) (by omega))
  clear k2 k3 hW hG
  go_wp2_with fail
  refine wp_loop_rounds 1 ?_
  rw [rounds_succ]
  go_wp2_with fail
  exact bodyPost_ret (v := W 1) (by simp [results, Tryd.results15, go_sem, r0, r1, r2, r3]) rfl ⟨rfl, HE.out⟩
end Go.Proofs.YtidpekcegocjfaaDoor
