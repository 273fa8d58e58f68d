/- power: fold. -/
import Derived.Test.YtidpekcegocjfaaDoorEb
namespace Go.Proofs.YtidpekcegocjfaaDoor
open Go.RowKit
attribute [local go_sem] ix0 ix1 ix2 ix3
/-- The product behind so many truths. -/
def sqF (a : Nat) (f : Nat → Bool) (x : Nat) : Nat → Nat
  | 0 => x
  | k + 1 => sq1 a (sqF a f x k) (f k)
theorem sq1_nought {a x : Nat} {t : Bool} (h : x % MM = 0) : sq1 a x t % MM = 0 := by
  unfold sq1
  split
  · rw [Nat.mul_mod, Nat.mul_mod x x, h]; simp
  · rw [Nat.mul_mod, h]; simp
theorem sqF_nought (a : Nat) (f : Nat → Bool) (x k : Nat) (h : sqF a f x k % MM = 0) : ∀ n, k ≤ n → sqF a f x n % MM = 0 := by
  intro n hn
  induction n with
  | zero => obtain rfl : k = 0 := by omega
            exact h
  | succ m ih =>
    rcases Nat.lt_or_ge m k with h1 | h1
    · obtain rfl : k = m + 1 := by omega
      exact h
    · exact sq1_nought (ih h1)
theorem eqZ (x : Nat) (w : World) : (binOp .eql 24 (W x) (.agg #[.int .u64 0, .int .u64 0, .int .u64 0, .int .u64 0])).run Tryd.prog w = .ok (.bool (x % MM == 0)) w := by
  have h := eqW x 0 w
  rw [W_zero, Nat.zero_mod] at h
  exact h
abbrev Zc4 : Array Value := #[.int .u64 0, .int .u64 0, .int .u64 0, .int .u64 0]
/-- What stands where the label is gone to. -/
def FJ (Z : Prop) (B : Nat) (w : World) (act : Act) (X : World) : Prop := ∃ x0 x1 x2 x3 x4 x5 x7 x8 x9 x10 x11 x12 x13 x14 x15 x16 x17 x18 x19 x20 x21 x22 x23 x24 : Value, act = { tmps := #[x0, x1, x2, x3, x4, x5, .pointer (some ⟨B + 1, 0, none⟩), x7, x8, x9, x10, x11, x12, x13, x14, x15, x16, x17, x18, x19, x20, x21, x22, x23, x24], defers := [] } ∧ Z ∧ Blk X (B + 1) 24 Zc4 ∧ Below B w X
theorem sqF_succ (a : Nat) (f : Nat → Bool) (x k : Nat) : sqF a f x (k + 1) = sq1 a (sqF a f x k) (f k) := rfl
theorem sqF_zero (a : Nat) (f : Nat → Bool) (x : Nat) : sqF a f x 0 = x := rfl
attribute [local irreducible] sqF sq1
set_option maxRecDepth 100000 in
set_option maxHeartbeats 2000000 in
theorem sfold_any (a p x g b o n cap : Nat) (f : Nat → Bool) (w : World) (hg : Blk w g 53 (UP a p)) (hn : n ≤ 9223372036854775807) (hb : b < w.heap.size)
    (hf : ∀ j, j < n → w.cell? ⟨b, o + j, none⟩ = some (.bool (f j))) :
    Calls Tryd.prog 27 #[W x, .func (.func 28) #[] #[.pointer (some ⟨g, 0, none⟩)], .slice (some ⟨b, o, none⟩) n cap] w fun e w' => e = .returned (W (sqF a f x n)) ∧ Below w.heap.size w w' := by
  go_enter Tryd.func27, Tryd.ntmps27
  go_wp2
  have hS : Blk ((w.alloc (.cells (Wc x) 24)).alloc (.cells Zc4 24)) w.heap.size 24 (Wc x) := (Blk.new w _ _).alloc _
  have hR := Blk.newS w (.cells (Wc x) 24) 24 Zc4
  have hW := balloc (balloc (Below.refl w.heap.size w) (.cells (Wc x) 24)) (.cells Zc4 24)
  have hgl := hg.lt
  have HX := Lib.hid (And.intro hS (And.intro hR hW))
  have HG := Lib.hid hg
  have HFF := Lib.hid hf
  clear hS hR hW hg hf
  refine wp_scope_jumps 0 (FJ (sqF a f x n % MM = 0) w.heap.size w) (fun _ _ => 0) rfl ?first ?pass
  case first =>
    go_wp2_with fail
    go_loopw [11] (fun i wr => ∃ k : Nat, k ≤ n ∧ i = .int .i64 (k : Int) ∧ Blk wr w.heap.size 24 (Wc (sqF a f x k)) ∧ Blk wr (w.heap.size + 1) 24 Zc4 ∧ Below w.heap.size w wr) (fun i _ => n - (intOf i).toNat)
    case atStart => exact ⟨0, Nat.zero_le _, rfl, by rw [sqF_zero]; exact HX.out.1, HX.out.2⟩
    case round =>
      clear HX
      obtain ⟨k, hk, rfl, hS, hR, hW⟩ := hrel
      by_cases hlt : k < n
      · have hc := (hW.cell (p := ⟨b, o + k, none⟩) hb).trans (HFF.out k hlt)
        have hU : Blk wr g 53 (UP a p) := HG.out.keep hW
        have hkI : (k : Int) < n := by omega
        obtain ⟨t, ht⟩ : ∃ t, f k = t := ⟨_, rfl⟩
        obtain ⟨y, hy⟩ : ∃ y, sqF a f x k = y := ⟨_, rfl⟩
        rw [ht] at hc
        rw [hy] at hS
        have HY := Lib.hid (show sqF a f x (k + 1) = sq1 a y t by rw [sqF_succ, hy, ht])
        clear hy ht
        have c0 := (cell_of_row _ _ 0 _ _ _ hS).trans (wc_get y 0 (by omega))
        have c1 := (cell_of_row _ _ 1 _ _ _ hS).trans (wc_get y 1 (by omega))
        have c2 := (cell_of_row _ _ 2 _ _ _ hS).trans (wc_get y 2 (by omega))
        have c3 := (cell_of_row _ _ 3 _ _ _ hS).trans (wc_get y 3 (by omega))
        have HX := Lib.hid (And.intro hS (And.intro hR (And.intro hU hW)))
        clear hS hR hU hW
        go_wp2_with fail
        refine (sq1_any a p y g t _ HX.out.2.2.1).mono ?_
        rintro e w1 ⟨rfl, h1⟩
        obtain ⟨hS0, hR0, hU0, hW0⟩ := HX.out
        have hS1 := hS0.keep h1
        have hR1 := hR0.keep h1
        have hW1 := bstep hW0 h1
        clear hS0 hR0 hU0 hW0 HX c0 c1 c2 c3 hc
        obtain ⟨z, hz⟩ : ∃ z, sq1 a y t = z := ⟨_, rfl⟩
        rw [hz] at HY ⊢
        clear hz
        have f0 := frozen_of_row _ _ 0 _ _ hS1
        have f1 := frozen_of_row _ _ 1 _ _ hS1
        have f2 := frozen_of_row _ _ 2 _ _ hS1
        have f3 := frozen_of_row _ _ 3 _ _ hS1
        have c0 := (cell_of_row _ _ 0 _ _ _ hS1).trans (wc_get y 0 (by omega))
        have c1 := (cell_of_row _ _ 1 _ _ _ hS1).trans (wc_get y 1 (by omega))
        have c2 := (cell_of_row _ _ 2 _ _ _ hS1).trans (wc_get y 2 (by omega))
        have c3 := (cell_of_row _ _ 3 _ _ _ hS1).trans (wc_get y 3 (by omega))
        have hG := grown_set4 w1 (w.heap.size) (.int .u64 (lb (z) 0)) (.int .u64 (lb (z) 1)) (.int .u64 (lb (z) 2)) (.int .u64 (lb (z) 3))
        have HF := Lib.hid (And.intro (hS1.set4 z) (And.intro (hR1.kept hG (fun e => by injection e; omega)) (step_world hW1 hG (Nat.le_refl _) (Nat.le_refl _))))
        clear hS1 hR1 hW1 hG h1
        go_upto_region 5 with fail
        obtain ⟨hS, hR, hW⟩ := HF.out
        obtain ⟨w4, hw4⟩ : ∃ w4, (((w1.setCell ⟨w.heap.size, 0, none⟩ (.int .u64 (lb (z) 0))).setCell ⟨w.heap.size, 1, none⟩ (.int .u64 (lb (z) 1))).setCell ⟨w.heap.size, 2, none⟩ (.int .u64 (lb (z) 2))).setCell ⟨w.heap.size, 3, none⟩ (.int .u64 (lb (z) 3)) = w4 := ⟨_, rfl⟩
        rw [hw4] at hS hR hW ⊢
        clear hw4 HF f0 f1 f2 f3 c0 c1 c2 c3
        have c0 := (cell_of_row _ _ 0 _ _ _ hS).trans (wc_get z 0 (by omega))
        have c1 := (cell_of_row _ _ 1 _ _ _ hS).trans (wc_get z 1 (by omega))
        have c2 := (cell_of_row _ _ 2 _ _ _ hS).trans (wc_get z 2 (by omega))
        have c3 := (cell_of_row _ _ 3 _ _ _ hS).trans (wc_get z 3 (by omega))
        have hq := eqZ z
        have HX := Lib.hid (And.intro hS (And.intro hR hW))
        clear hS hR hW
        by_cases h0 : z % MM = 0
        · have hz0 : (z % MM == 0) = true := by simpa using h0
          rw [hz0] at hq
          have HZ := Lib.hid (show sqF a f x n % MM = 0 from sqF_nought a f x (k + 1) (by rw [HY.out]; exact h0) n (by omega))
          clear h0 hz0
          go_wp2_with fail
          go_step3
          exact ⟨rfl, _, _, _, _, _, _, _, _, _, _, _, _, _, _, _, _, _, _, _, _, _, _, _, _, rfl, HZ.out, HX.out.2.1, HX.out.2.2⟩
        · have hz0 : (z % MM == 0) = false := by simpa using h0
          rw [hz0] at hq
          clear h0 hz0
          go_wp2_with fail
          exact ⟨⟨k + 1, by omega, by go_num, by rw [HY.out]; exact HX.out.1, HX.out.2⟩, by simp [intOf]; omega⟩
      · obtain rfl : k = n := by omega
        obtain ⟨z, hz⟩ : ∃ z, sqF a f x k = z := ⟨_, rfl⟩
        rw [hz] at hS
        have HZ := Lib.hid hz
        clear hz
        have c0 := (cell_of_row _ _ 0 _ _ _ hS).trans (wc_get z 0 (by omega))
        have c1 := (cell_of_row _ _ 1 _ _ _ hS).trans (wc_get z 1 (by omega))
        have c2 := (cell_of_row _ _ 2 _ _ _ hS).trans (wc_get z 2 (by omega))
        have c3 := (cell_of_row _ _ 3 _ _ _ hS).trans (wc_get z 3 (by omega))
        have f0 := frozen_of_row _ _ 0 _ _ hR
        have f1 := frozen_of_row _ _ 1 _ _ hR
        have f2 := frozen_of_row _ _ 2 _ _ hR
        have f3 := frozen_of_row _ _ 3 _ _ hR
        have r0 := cell_of_row _ _ 0 _ _ _ hR
        have r1 := cell_of_row _ _ 1 _ _ _ hR
        have r2 := cell_of_row _ _ 2 _ _ _ hR
        have r3 := cell_of_row _ _ 3 _ _ _ hR
        have hG := grown_set4 wr (w.heap.size + 1) (.int .u64 (lb (z) 0)) (.int .u64 (lb (z) 1)) (.int .u64 (lb (z) 2)) (.int .u64 (lb (z) 3))
        have HE := Lib.hid (step_world hW hG (Nat.le_refl _) (by omega))
        clear hS hR hW hG
        go_wp2_with fail
        exact bodyPost_ret (R := fun e w' => e = .returned (W (sqF a f x k)) ∧ Below w.heap.size w w') (v := W z) (by simp [results, Tryd.results27, go_sem, r0, r1, r2, r3]) rfl ⟨by rw [HZ.out], HE.out⟩
  case pass =>
    rintro act X ⟨x0, x1, x2, x3, x4, x5, x7, x8, x9, x10, x11, x12, x13, x14, x15, x16, x17, x18, x19, x20, x21, x22, x23, x24, rfl, hz, hR, hW⟩
    clear HX
    have HZ := Lib.hid (show W (sqF a f x n) = W 0 by rw [← w_mod, hz])
    have f0 := frozen_of_row _ _ 0 _ _ hR
    have f1 := frozen_of_row _ _ 1 _ _ hR
    have f2 := frozen_of_row _ _ 2 _ _ hR
    have f3 := frozen_of_row _ _ 3 _ _ hR
    have r0 := cell_of_row _ _ 0 _ _ _ hR
    have r1 := cell_of_row _ _ 1 _ _ _ hR
    have r2 := cell_of_row _ _ 2 _ _ _ hR
    have r3 := cell_of_row _ _ 3 _ _ _ hR
    have hG := grown_set4 X (w.heap.size + 1) (.int .u64 0) (.int .u64 0) (.int .u64 0) (.int .u64 0)
    have HE := Lib.hid (step_world hW hG (Nat.le_refl _) (by omega))
    clear hR hW hG hz
    go_wp2_with fail
    exact bodyPost_ret (R := fun e w' => e = .returned (W (sqF a f x n)) ∧ Below w.heap.size w w') (v := .agg Zc4) (by simp [results, Tryd.results27, go_sem, r0, r1, r2, r3]) rfl ⟨by rw [HZ.out, W_zero], HE.out⟩
end Go.Proofs.YtidpekcegocjfaaDoor
