/- power: Squares' closure, fold. -/
import Derived.Test.YtidpekcegocjfaaDoorEa
namespace Go.Proofs.YtidpekcegocjfaaDoor
open Go.RowKit
attribute [local go_sem] ix0 ix1 ix2 ix3
/-- One truth more: the product times itself, and, if that is true, times the word. -/
def sq1 (a x : Nat) (t : Bool) : Nat := if t then x * x * a else x * x
set_option maxHeartbeats 2000000 in
theorem sq1_any (a p x g : Nat) (t : Bool) (w : World) (hg : Blk w g 53 (UP a p)) :
    Calls Tryd.prog 28 #[W x, .bool t, .pointer (some ⟨g, 0, none⟩)] w fun e w' => e = .returned (W (sq1 a x t)) ∧ Below w.heap.size w w' := by
  go_enter Tryd.func28, Tryd.ntmps28
  have hS : Blk ((w.alloc (.cells (Wc x) 24)).alloc (.cells #[.int .u64 0, .int .u64 0, .int .u64 0, .int .u64 0] 24)) w.heap.size 24 (Wc x) := (Blk.new w _ _).alloc _
  have hR := Blk.newS w (.cells (Wc x) 24) 24 #[.int .u64 0, .int .u64 0, .int .u64 0, .int .u64 0]
  have hW := balloc (balloc (Below.refl w.heap.size w) (.cells (Wc x) 24)) (.cells #[.int .u64 0, .int .u64 0, .int .u64 0, .int .u64 0] 24)
  have hU := (hg.alloc (.cells (Wc x) 24)).alloc (.cells #[.int .u64 0, .int .u64 0, .int .u64 0, .int .u64 0] 24)
  have hgl := hg.lt
  have HX := Lib.hid (And.intro hS (And.intro hR (And.intro hU hW)))
  clear hS hR hU hW hg
  go_wp2_with fail
  refine (mul_any x x _).mono ?_
  rintro e w1 ⟨rfl, h1⟩
  obtain ⟨hS0, hR0, hU0, hW0⟩ := HX.out
  have hS1 := hS0.keep h1
  have hR1 := hR0.keep h1
  have hU1 := hU0.keep h1
  have hW1 := bstep hW0 h1
  clear hS0 hR0 hU0 hW0
  have f0 := frozen_of_row _ _ 0 _ _ hS1
  have f1 := frozen_of_row _ _ 1 _ _ hS1
  have f2 := frozen_of_row _ _ 2 _ _ hS1
  have f3 := frozen_of_row _ _ 3 _ _ hS1
  have c0 := (cell_of_row _ _ 0 _ _ _ hS1).trans (wc_get x 0 (by omega))
  have c1 := (cell_of_row _ _ 1 _ _ _ hS1).trans (wc_get x 1 (by omega))
  have c2 := (cell_of_row _ _ 2 _ _ _ hS1).trans (wc_get x 2 (by omega))
  have c3 := (cell_of_row _ _ 3 _ _ _ hS1).trans (wc_get x 3 (by omega))
  have hG := grown_set4 w1 (w.heap.size) (.int .u64 (lb (x * x) 0)) (.int .u64 (lb (x * x) 1)) (.int .u64 (lb (x * x) 2)) (.int .u64 (lb (x * x) 3))
  have HF := Lib.hid (And.intro (hS1.set4 (x * x)) (And.intro (hR1.kept hG (fun e => by injection e; omega)) (And.intro (hU1.kept hG (fun e => by injection e; omega)) (step_world hW1 hG (Nat.le_refl _) (Nat.le_refl _)))))
  clear hS1 hR1 hU1 hW1 hG HX h1
  go_upto_region 2 with fail
  obtain ⟨hS, hR, hU, hW⟩ := HF.out
  obtain ⟨w2, hw2⟩ : ∃ w2, (((w1.setCell ⟨w.heap.size, 0, none⟩ (.int .u64 (lb (x * x) 0))).setCell ⟨w.heap.size, 1, none⟩ (.int .u64 (lb (x * x) 1))).setCell ⟨w.heap.size, 2, none⟩ (.int .u64 (lb (x * x) 2))).setCell ⟨w.heap.size, 3, none⟩ (.int .u64 (lb (x * x) 3)) = w2 := ⟨_, rfl⟩
  rw [hw2] at hS hR hU hW ⊢
  clear hw2 HF f0 f1 f2 f3 c0 c1 c2 c3
  obtain ⟨y, hy⟩ : ∃ y, x * x = y := ⟨_, rfl⟩
  rw [hy] at hS ⊢
  have HY := Lib.hid hy
  clear hy
  cases t
  · skip
    have c0 := (cell_of_row _ _ 0 _ _ _ hS).trans (wc_get y 0 (by omega))
    have c1 := (cell_of_row _ _ 1 _ _ _ hS).trans (wc_get y 1 (by omega))
    have c2 := (cell_of_row _ _ 2 _ _ _ hS).trans (wc_get y 2 (by omega))
    have c3 := (cell_of_row _ _ 3 _ _ _ hS).trans (wc_get y 3 (by omega))
    have f0 := frozen_of_row _ _ 0 _ _ hR
    have f1 := frozen_of_row _ _ 1 _ _ hR
    have f2 := frozen_of_row _ _ 2 _ _ hR
    have f3 := frozen_of_row _ _ 3 _ _ hR
    have r0 := cell_of_row _ _ 0 _ _ _ hR
    have r1 := cell_of_row _ _ 1 _ _ _ hR
    have r2 := cell_of_row _ _ 2 _ _ _ hR
    have r3 := cell_of_row _ _ 3 _ _ _ hR
    have hG := grown_set4 w2 (w.heap.size + 1) (.int .u64 (lb (y) 0)) (.int .u64 (lb (y) 1)) (.int .u64 (lb (y) 2)) (.int .u64 (lb (y) 3))
    have HE := Lib.hid (step_world hW hG (Nat.le_refl _) (by omega))
    clear hS hR hU hW hG
    go_wp2_with fail
    exact bodyPost_ret (v := W y) (by simp [results, Tryd.results28, go_sem, r0, r1, r2, r3]) rfl ⟨by show _ = Ending.returned (W (x * x)); rw [HY.out], HE.out⟩
  · skip
    have c0 := (cell_of_row _ _ 0 _ _ _ hS).trans (wc_get y 0 (by omega))
    have c1 := (cell_of_row _ _ 1 _ _ _ hS).trans (wc_get y 1 (by omega))
    have c2 := (cell_of_row _ _ 2 _ _ _ hS).trans (wc_get y 2 (by omega))
    have c3 := (cell_of_row _ _ 3 _ _ _ hS).trans (wc_get y 3 (by omega))
    have u0 := cell_of_row _ _ 0 _ _ _ hU
    have u1 := cell_of_row _ _ 1 _ _ _ hU
    have u2 := cell_of_row _ _ 2 _ _ _ hU
    have u3 := cell_of_row _ _ 3 _ _ _ hU
    have HX := Lib.hid (And.intro hS (And.intro hR hW))
    clear hS hR hU hW
    go_wp2_with fail
    refine (times_any a y _).mono ?_
    rintro e w3 ⟨rfl, h3⟩
    obtain ⟨hS0, hR0, hW0⟩ := HX.out
    have hS1 := hS0.keep h3
    have hR1 := hR0.keep h3
    have hW1 := bstep hW0 h3
    clear hS0 hR0 hW0 HX c0 c1 c2 c3 u0 u1 u2 u3
    have f0 := frozen_of_row _ _ 0 _ _ hS1
    have f1 := frozen_of_row _ _ 1 _ _ hS1
    have f2 := frozen_of_row _ _ 2 _ _ hS1
    have f3 := frozen_of_row _ _ 3 _ _ hS1
    have c0 := (cell_of_row _ _ 0 _ _ _ hS1).trans (wc_get y 0 (by omega))
    have c1 := (cell_of_row _ _ 1 _ _ _ hS1).trans (wc_get y 1 (by omega))
    have c2 := (cell_of_row _ _ 2 _ _ _ hS1).trans (wc_get y 2 (by omega))
    have c3 := (cell_of_row _ _ 3 _ _ _ hS1).trans (wc_get y 3 (by omega))
    have hG := grown_set4 w3 (w.heap.size) (.int .u64 (lb (y * a) 0)) (.int .u64 (lb (y * a) 1)) (.int .u64 (lb (y * a) 2)) (.int .u64 (lb (y * a) 3))
    have HF := Lib.hid (And.intro (hS1.set4 (y * a)) (And.intro (hR1.kept hG (fun e => by injection e; omega)) (step_world hW1 hG (Nat.le_refl _) (Nat.le_refl _))))
    clear hS1 hR1 hW1 hG h3
    go_upto_region 4 with fail
    obtain ⟨hS, hR, hW⟩ := HF.out
    obtain ⟨w4, hw4⟩ : ∃ w4, (((w3.setCell ⟨w.heap.size, 0, none⟩ (.int .u64 (lb (y * a) 0))).setCell ⟨w.heap.size, 1, none⟩ (.int .u64 (lb (y * a) 1))).setCell ⟨w.heap.size, 2, none⟩ (.int .u64 (lb (y * a) 2))).setCell ⟨w.heap.size, 3, none⟩ (.int .u64 (lb (y * a) 3)) = w4 := ⟨_, rfl⟩
    rw [hw4] at hS hR hW ⊢
    clear hw4 HF f0 f1 f2 f3 c0 c1 c2 c3
    have c0 := (cell_of_row _ _ 0 _ _ _ hS).trans (wc_get (y * a) 0 (by omega))
    have c1 := (cell_of_row _ _ 1 _ _ _ hS).trans (wc_get (y * a) 1 (by omega))
    have c2 := (cell_of_row _ _ 2 _ _ _ hS).trans (wc_get (y * a) 2 (by omega))
    have c3 := (cell_of_row _ _ 3 _ _ _ hS).trans (wc_get (y * a) 3 (by omega))
    have f0 := frozen_of_row _ _ 0 _ _ hR
    have f1 := frozen_of_row _ _ 1 _ _ hR
    have f2 := frozen_of_row _ _ 2 _ _ hR
    have f3 := frozen_of_row _ _ 3 _ _ hR
    have r0 := cell_of_row _ _ 0 _ _ _ hR
    have r1 := cell_of_row _ _ 1 _ _ _ hR
    have r2 := cell_of_row _ _ 2 _ _ _ hR
    have r3 := cell_of_row _ _ 3 _ _ _ hR
    have hG := grown_set4 w4 (w.heap.size + 1) (.int .u64 (lb (y * a) 0)) (.int .u64 (lb (y * a) 1)) (.int .u64 (lb (y * a) 2)) (.int .u64 (lb (y * a) 3))
    have HE := Lib.hid (step_world hW hG (Nat.le_refl _) (by omega))
    clear hS hR hW hG
    go_wp2_with fail
    exact bodyPost_ret (v := W (y * a)) (by simp [results, Tryd.results28, go_sem, r0, r1, r2, r3]) rfl ⟨by show _ = Ending.returned (W (x * x * a)); rw [HY.out], HE.out⟩
end Go.Proofs.YtidpekcegocjfaaDoor
