/- digest: columns, places, rows, marked. -/
import Derived.Test.YtfknfopdinkmkaaKb
namespace Go.Proofs.Ytfknfopdinkmkaa
open Go.RowKit
attribute [local go_sem] uv_xor uv_and uv_or uv_not
attribute [local irreducible] rot ln
theorem wr1 : IntKind.i64.wrap 1 = 1 := IntWalk.i64_in _ (by omega)
theorem wr2 : IntKind.i64.wrap 2 = 2 := IntWalk.i64_in _ (by omega)
theorem wr3 : IntKind.i64.wrap 3 = 3 := IntWalk.i64_in _ (by omega)
theorem wr4 : IntKind.i64.wrap 4 = 4 := IntWalk.i64_in _ (by omega)
theorem wr5 : IntKind.i64.wrap 5 = 5 := IntWalk.i64_in _ (by omega)
theorem wr6 : IntKind.i64.wrap 6 = 6 := IntWalk.i64_in _ (by omega)
theorem wr7 : IntKind.i64.wrap 7 = 7 := IntWalk.i64_in _ (by omega)
theorem wr8 : IntKind.i64.wrap 8 = 8 := IntWalk.i64_in _ (by omega)
theorem wr9 : IntKind.i64.wrap 9 = 9 := IntWalk.i64_in _ (by omega)
theorem wr10 : IntKind.i64.wrap 10 = 10 := IntWalk.i64_in _ (by omega)
theorem wr11 : IntKind.i64.wrap 11 = 11 := IntWalk.i64_in _ (by omega)
attribute [local go_sem] wr1 wr2 wr3 wr4 wr5 wr6 wr7 wr8 wr9 wr10 wr11
/-- Theta's parities, row by row; the two columns beside. -/
def parR (f : Nat → Ln) : Nat → Nat → Ln
  | 0, x => f x
  | y + 1, x => parR f y x ^^^ f (5 * (y + 1) + x)
theorem parR_par (f : Nat → Ln) (x : Nat) : parR f 4 x = par f x := by
  unfold par
  show (((f x ^^^ f (5 * (0 + 1) + x)) ^^^ f (5 * (1 + 1) + x)) ^^^ f (5 * (2 + 1) + x)) ^^^ f (5 * (3 + 1) + x) = _
  rw [show 5 * (0 + 1) + x = x + 5 by omega, show 5 * (1 + 1) + x = x + 10 by omega, show 5 * (2 + 1) + x = x + 15 by omega, show 5 * (3 + 1) + x = x + 20 by omega]
def bothF (f : Nat → Ln) (k : Nat) : Nat → Ln := fun x => if x < k then par f ((x + 4) % 5) ^^^ rot (par f ((x + 1) % 5)) 1 else 0#64
def thF (f : Nat → Ln) (k : Nat) : Nat → Ln := fun i => if i < 5 * k then theta f i else f i

theorem Fc5 (h : Nat → Ln) : Fc 5 h = #[uv (h 0), uv (h 1), uv (h 2), uv (h 3), uv (h 4)] := rfl
theorem parR_step (f : Nat → Ln) (y : Nat) : Fc 5 (layF (parR f y) f 0 (5 * (y + 1)) 5) = Fc 5 (parR f (y + 1)) := Fc_congr fun p hp => by
  unfold layF
  rw [if_pos (by omega), show p - 0 + 5 * (y + 1) = 5 * (y + 1) + p by omega]
  rfl
theorem bothF_step (f : Nat → Ln) (k : Nat) : upd (bothF f k) k (par f ((k + 4) % 5) ^^^ rot (par f ((k + 1) % 5)) 1) = bothF f (k + 1) := by
  funext p; unfold upd bothF
  by_cases e : p = k
  · subst e; rw [if_pos rfl, if_pos (by omega)]
  · rw [if_neg e]
    by_cases h : p < k
    · rw [if_pos h, if_pos (by omega)]
    · rw [if_neg h, if_neg (by omega)]
theorem thF_step (f : Nat → Ln) (y : Nat) : layF (thF f y) (bothF f 5) (5 * y) 0 5 = thF f (y + 1) := by
  funext p; unfold layF thF
  by_cases h : 5 * y ≤ p ∧ p < 5 * y + 5
  · rw [if_pos h, if_neg (by omega), if_pos (by omega)]
    unfold bothF theta
    rw [if_pos (by omega), show (p - 5 * y + 0 + 4) % 5 = (p + 4) % 5 by omega, show (p - 5 * y + 0 + 1) % 5 = (p + 1) % 5 by omega]
  · rw [if_neg h]
    by_cases h2 : p < 5 * y
    · rw [if_pos h2, if_pos (by omega)]
    · rw [if_neg h2, if_neg (by omega)]
theorem thF_zero (f : Nat → Ln) : thF f 0 = f := by funext p; unfold thF; rw [if_neg (by omega)]
theorem bothF_zero (f : Nat → Ln) : Fc 5 (bothF f 0) = #[.int .u64 0, .int .u64 0, .int .u64 0, .int .u64 0, .int .u64 0] := by
  rw [Fc5]
  show #[uv 0#64, uv 0#64, uv 0#64, uv 0#64, uv 0#64] = _
  unfold uv; rw [ln_zero]
theorem row_at (g y : Nat) (i : Int) (hy : y < 5) (hi : i = y) (w : World) :
    Calls Try.prog 36 #[.pointer (some ⟨g, 0, none⟩), .int .i64 i] w fun e w' => e = .returned (.pointer (some ⟨g, 5 * y, none⟩)) ∧ w = w' := by
  rw [hi]; exact row_any g y hy w

set_option maxRecDepth 100000 in
set_option maxHeartbeats 4000000 in
theorem columns_any (g : Nat) (f : Nat → Ln) (w : World) (hB : Blk w g 48 (Fc 26 f)) :
    Calls Try.prog 25 #[.pointer (some ⟨g, 0, none⟩)] w fun e w' => e = .returned (.tuple #[]) ∧ Blk w' g 48 (Fc 26 (thF f 5)) ∧ w.grownBy w' (some g) := by
  have HB := Lib.hid hB
  have c0 := (cell_of_row w _ 0 _ _ _ hB).trans (Fc_get 26 f 0 (by omega))
  have c1 := (cell_of_row w _ 1 _ _ _ hB).trans (Fc_get 26 f 1 (by omega))
  have c2 := (cell_of_row w _ 2 _ _ _ hB).trans (Fc_get 26 f 2 (by omega))
  have c3 := (cell_of_row w _ 3 _ _ _ hB).trans (Fc_get 26 f 3 (by omega))
  have c4 := (cell_of_row w _ 4 _ _ _ hB).trans (Fc_get 26 f 4 (by omega))
  have hlt := hB.lt
  clear hB
  go_enter Try.func25, Try.ntmps25
  go_wp2_with (first | (go_at_call 36; refine (row_any g 0 (by omega) _).mono ?_; rintro e wk ⟨rfl, rfl⟩))
  clear c0 c1 c2 c3 c4
  go_loopw [3] (fun i wr => ∃ y : Nat, y < 5 ∧ i = .int .i64 ((y + 1 : Nat) : Int) ∧ Blk wr w.heap.size 73 (Fc 5 (parR f y)) ∧ Blk wr g 48 (Fc 26 f) ∧ Below w.heap.size w wr) (fun i _ => 5 - (intOf i).toNat)
  case atStart => exact ⟨0, by omega, rfl, by rw [Fc5]; exact Blk.new w _ _, HB.out.alloc _, balloc (Below.refl _ _) _⟩
  case round =>
    obtain ⟨y, hy, rfl, hA, hX, hW⟩ := hrel
    by_cases hy4 : y < 4
    · have hl : (y : Int) + 1 < 5 := by omega
      have hlX := hX.lt
      have HX := Lib.hid (And.intro hA (And.intro hX hW))
      clear hA hX hW HB
      go_wp2_with fail
      refine (row_at g (y + 1) _ (by omega) (by omega) _).mono ?_
      rintro e wk ⟨rfl, rfl⟩
      go_wp2_with fail
      refine (layOn_any w.heap.size 0 5 g (5 * (y + 1)) 26 _ _ _ _ (by omega) (by omega) (by omega) _ HX.out.1 HX.out.2.1).mono ?_
      rintro e wk ⟨rfl, hA, hG⟩
      rw [parR_step] at hA
      have hX := HX.out.2.1.kept hG (fun e => by injection e; omega)
      have hW : Below w.heap.size w wk := step_world HX.out.2.2 hG (Nat.le_refl _) (Nat.le_refl _)
      have HY := Lib.hid (And.intro hA (And.intro hX hW))
      clear hA hX hW HX hG
      go_wp2_with fail
      exact ⟨⟨y + 1, by omega, by go_num, HY.out⟩, by simp [intOf]; omega⟩
    · obtain rfl : y = 4 := by omega
      rw [show ((4 + 1 : Nat) : Int) = 5 from rfl]
      have HX := Lib.hid (And.intro (show Blk wr w.heap.size 73 (Fc 5 (par f)) by rw [Fc_congr (g := par f) (f := parR f 4)] at hA; exact hA; exact fun p _ => parR_par f p) (And.intro hX (And.intro hW hX.lt)))
      clear hA hX hW HB
      go_wp2_with fail
      obtain ⟨hA, hX, hW, hlX⟩ := HX.out
      clear HX
      have kC := Blk.new wr 73 #[.int .u64 0, .int .u64 0, .int .u64 0, .int .u64 0, .int .u64 0]
      rw [← bothF_zero f] at kC
      have hA2 := hA.alloc (.cells #[.int .u64 0, .int .u64 0, .int .u64 0, .int .u64 0, .int .u64 0] 73)
      have hX2 := hX.alloc (.cells #[.int .u64 0, .int .u64 0, .int .u64 0, .int .u64 0, .int .u64 0] 73)
      have hW2 := balloc hW (.cells #[.int .u64 0, .int .u64 0, .int .u64 0, .int .u64 0, .int .u64 0] 73)
      have hlA := hA.lt
      have HX := Lib.hid (And.intro hA2 (And.intro hX2 (And.intro hW2 kC)))
      clear hA hX hW hA2 hX2 hW2 kC
      generalize hgb : wr.heap.size = gb at hlA hlX HX ⊢
      clear hgb
      go_loopw [19] (fun i wr => ∃ k : Nat, k ≤ 5 ∧ i = .int .i64 (k : Int) ∧ Blk wr w.heap.size 73 (Fc 5 (par f)) ∧ Blk wr g 48 (Fc 26 f) ∧ Below w.heap.size w wr ∧ Blk wr gb 73 (Fc 5 (bothF f k))) (fun i _ => 5 - (intOf i).toNat)
      case atStart => exact ⟨0, by omega, rfl, HX.out.1, HX.out.2.1, HX.out.2.2.1, by rw [← bothF_zero f]; exact HX.out.2.2.2⟩
      case round =>
        clear HX
        obtain ⟨k, hk, rfl, hA, hX, hW, hC⟩ := hrel
        by_cases hk5 : k < 5
        · have HE := Lib.hid (bothF_step f k)
          have HX := Lib.hid (And.intro hA (And.intro hX (And.intro hW hC)))
          clear hA hX hW hC
          rcases (show k = 0 ∨ k = 1 ∨ k = 2 ∨ k = 3 ∨ k = 4 by omega) with rfl | rfl | rfl | rfl | rfl
          · have hb : bothF f 0 0 = 0#64 := if_neg (by omega)
            go_wp2_with fail
            refine region_tail 15 (by kernel_rfl) (by kernel_rfl) (fun wd hwd => ?_)
            simp only [List.take_succ_cons, List.take_zero, List.drop_succ_cons, List.drop_zero]
            have HY : Hid (Blk wd w.heap.size 73 (Fc 5 (par f)) ∧ Blk wd g 48 (Fc 26 f) ∧ Below w.heap.size w wd ∧ Blk wd gb 73 (Fc 5 (bothF f 0))) := Lib.hid (by rw [hwd]; exact ⟨HX.out.1, HX.out.2.1, below_drew' HX.out.2.2.1, HX.out.2.2.2⟩)
            clear hwd HX hb
            have hcA := (cell_of_row _ _ 4 _ _ _ HY.out.1).trans (Fc_get 5 (par f) 4 (by omega))
            have hcB := (cell_of_row _ _ 1 _ _ _ HY.out.1).trans (Fc_get 5 (par f) 1 (by omega))
            have hcC := (cell_of_row _ _ 0 _ _ _ HY.out.2.2.2).trans (Fc_get 5 (bothF f 0) 0 (by omega))
            have hfC := frozen_of_row _ _ 0 _ _ HY.out.2.2.2
            repeat still_step
            still_call (rotl_any (par f 1) 1 (by omega) _).mono (fun _ _ h => ⟨h.1, h.2.symm⟩)
            repeat still_step
            refine wpStill_nil ?_
            go_wp2_with fail
            obtain ⟨hA, hX, hW, hC⟩ := HY.out
            have hS := heap_setCell_same wd gb 0 _ _ (uv (par f 4 ^^^ rot (par f 1) 1)) hC
            rw [Fc_set _ _ _ _ (by omega), HE.out] at hS
            have hG := grown_set' (grown_refl wd gb) 0 (uv (par f 4 ^^^ rot (par f 1) 1))
            exact ⟨⟨0 + 1, by omega, by first | rfl | go_num, hA.kept hG (by intro e; injection e; omega), hX.kept hG (by intro e; injection e; omega), step_world hW hG (Nat.le_refl _) (by omega), hS⟩, by simp [intOf]⟩
          · have hb : bothF f 1 1 = 0#64 := if_neg (by omega)
            go_wp2_with fail
            refine region_tail 15 (by kernel_rfl) (by kernel_rfl) (fun wd hwd => ?_)
            simp only [List.take_succ_cons, List.take_zero, List.drop_succ_cons, List.drop_zero]
            have HY : Hid (Blk wd w.heap.size 73 (Fc 5 (par f)) ∧ Blk wd g 48 (Fc 26 f) ∧ Below w.heap.size w wd ∧ Blk wd gb 73 (Fc 5 (bothF f 1))) := Lib.hid (by rw [hwd]; exact ⟨HX.out.1, HX.out.2.1, below_drew' HX.out.2.2.1, HX.out.2.2.2⟩)
            clear hwd HX hb
            have hcA := (cell_of_row _ _ 0 _ _ _ HY.out.1).trans (Fc_get 5 (par f) 0 (by omega))
            have hcB := (cell_of_row _ _ 2 _ _ _ HY.out.1).trans (Fc_get 5 (par f) 2 (by omega))
            have hcC := (cell_of_row _ _ 1 _ _ _ HY.out.2.2.2).trans (Fc_get 5 (bothF f 1) 1 (by omega))
            have hfC := frozen_of_row _ _ 1 _ _ HY.out.2.2.2
            repeat still_step
            still_call (rotl_any (par f 2) 1 (by omega) _).mono (fun _ _ h => ⟨h.1, h.2.symm⟩)
            repeat still_step
            refine wpStill_nil ?_
            go_wp2_with fail
            obtain ⟨hA, hX, hW, hC⟩ := HY.out
            have hS := heap_setCell_same wd gb 1 _ _ (uv (par f 0 ^^^ rot (par f 2) 1)) hC
            rw [Fc_set _ _ _ _ (by omega), HE.out] at hS
            have hG := grown_set' (grown_refl wd gb) 1 (uv (par f 0 ^^^ rot (par f 2) 1))
            exact ⟨⟨1 + 1, by omega, by first | rfl | go_num, hA.kept hG (by intro e; injection e; omega), hX.kept hG (by intro e; injection e; omega), step_world hW hG (Nat.le_refl _) (by omega), hS⟩, by simp [intOf]⟩
          · have hb : bothF f 2 2 = 0#64 := if_neg (by omega)
            go_wp2_with fail
            refine region_tail 15 (by kernel_rfl) (by kernel_rfl) (fun wd hwd => ?_)
            simp only [List.take_succ_cons, List.take_zero, List.drop_succ_cons, List.drop_zero]
            have HY : Hid (Blk wd w.heap.size 73 (Fc 5 (par f)) ∧ Blk wd g 48 (Fc 26 f) ∧ Below w.heap.size w wd ∧ Blk wd gb 73 (Fc 5 (bothF f 2))) := Lib.hid (by rw [hwd]; exact ⟨HX.out.1, HX.out.2.1, below_drew' HX.out.2.2.1, HX.out.2.2.2⟩)
            clear hwd HX hb
            have hcA := (cell_of_row _ _ 1 _ _ _ HY.out.1).trans (Fc_get 5 (par f) 1 (by omega))
            have hcB := (cell_of_row _ _ 3 _ _ _ HY.out.1).trans (Fc_get 5 (par f) 3 (by omega))
            have hcC := (cell_of_row _ _ 2 _ _ _ HY.out.2.2.2).trans (Fc_get 5 (bothF f 2) 2 (by omega))
            have hfC := frozen_of_row _ _ 2 _ _ HY.out.2.2.2
            repeat still_step
            still_call (rotl_any (par f 3) 1 (by omega) _).mono (fun _ _ h => ⟨h.1, h.2.symm⟩)
            repeat still_step
            refine wpStill_nil ?_
            go_wp2_with fail
            obtain ⟨hA, hX, hW, hC⟩ := HY.out
            have hS := heap_setCell_same wd gb 2 _ _ (uv (par f 1 ^^^ rot (par f 3) 1)) hC
            rw [Fc_set _ _ _ _ (by omega), HE.out] at hS
            have hG := grown_set' (grown_refl wd gb) 2 (uv (par f 1 ^^^ rot (par f 3) 1))
            exact ⟨⟨2 + 1, by omega, by first | rfl | go_num, hA.kept hG (by intro e; injection e; omega), hX.kept hG (by intro e; injection e; omega), step_world hW hG (Nat.le_refl _) (by omega), hS⟩, by simp [intOf]⟩
          · have hb : bothF f 3 3 = 0#64 := if_neg (by omega)
            go_wp2_with fail
            refine region_tail 15 (by kernel_rfl) (by kernel_rfl) (fun wd hwd => ?_)
            simp only [List.take_succ_cons, List.take_zero, List.drop_succ_cons, List.drop_zero]
            have HY : Hid (Blk wd w.heap.size 73 (Fc 5 (par f)) ∧ Blk wd g 48 (Fc 26 f) ∧ Below w.heap.size w wd ∧ Blk wd gb 73 (Fc 5 (bothF f 3))) := Lib.hid (by rw [hwd]; exact ⟨HX.out.1, HX.out.2.1, below_drew' HX.out.2.2.1, HX.out.2.2.2⟩)
            clear hwd HX hb
            have hcA := (cell_of_row _ _ 2 _ _ _ HY.out.1).trans (Fc_get 5 (par f) 2 (by omega))
            have hcB := (cell_of_row _ _ 4 _ _ _ HY.out.1).trans (Fc_get 5 (par f) 4 (by omega))
            have hcC := (cell_of_row _ _ 3 _ _ _ HY.out.2.2.2).trans (Fc_get 5 (bothF f 3) 3 (by omega))
            have hfC := frozen_of_row _ _ 3 _ _ HY.out.2.2.2
            repeat still_step
            still_call (rotl_any (par f 4) 1 (by omega) _).mono (fun _ _ h => ⟨h.1, h.2.symm⟩)
            repeat still_step
            refine wpStill_nil ?_
            go_wp2_with fail
            obtain ⟨hA, hX, hW, hC⟩ := HY.out
            have hS := heap_setCell_same wd gb 3 _ _ (uv (par f 2 ^^^ rot (par f 4) 1)) hC
            rw [Fc_set _ _ _ _ (by omega), HE.out] at hS
            have hG := grown_set' (grown_refl wd gb) 3 (uv (par f 2 ^^^ rot (par f 4) 1))
            exact ⟨⟨3 + 1, by omega, by first | rfl | go_num, hA.kept hG (by intro e; injection e; omega), hX.kept hG (by intro e; injection e; omega), step_world hW hG (Nat.le_refl _) (by omega), hS⟩, by simp [intOf]⟩
          · have hb : bothF f 4 4 = 0#64 := if_neg (by omega)
            go_wp2_with fail
            refine region_tail 15 (by kernel_rfl) (by kernel_rfl) (fun wd hwd => ?_)
            simp only [List.take_succ_cons, List.take_zero, List.drop_succ_cons, List.drop_zero]
            have HY : Hid (Blk wd w.heap.size 73 (Fc 5 (par f)) ∧ Blk wd g 48 (Fc 26 f) ∧ Below w.heap.size w wd ∧ Blk wd gb 73 (Fc 5 (bothF f 4))) := Lib.hid (by rw [hwd]; exact ⟨HX.out.1, HX.out.2.1, below_drew' HX.out.2.2.1, HX.out.2.2.2⟩)
            clear hwd HX hb
            have hcA := (cell_of_row _ _ 3 _ _ _ HY.out.1).trans (Fc_get 5 (par f) 3 (by omega))
            have hcB := (cell_of_row _ _ 0 _ _ _ HY.out.1).trans (Fc_get 5 (par f) 0 (by omega))
            have hcC := (cell_of_row _ _ 4 _ _ _ HY.out.2.2.2).trans (Fc_get 5 (bothF f 4) 4 (by omega))
            have hfC := frozen_of_row _ _ 4 _ _ HY.out.2.2.2
            repeat still_step
            still_call (rotl_any (par f 0) 1 (by omega) _).mono (fun _ _ h => ⟨h.1, h.2.symm⟩)
            repeat still_step
            refine wpStill_nil ?_
            go_wp2_with fail
            obtain ⟨hA, hX, hW, hC⟩ := HY.out
            have hS := heap_setCell_same wd gb 4 _ _ (uv (par f 3 ^^^ rot (par f 0) 1)) hC
            rw [Fc_set _ _ _ _ (by omega), HE.out] at hS
            have hG := grown_set' (grown_refl wd gb) 4 (uv (par f 3 ^^^ rot (par f 0) 1))
            exact ⟨⟨4 + 1, by omega, by first | rfl | go_num, hA.kept hG (by intro e; injection e; omega), hX.kept hG (by intro e; injection e; omega), step_world hW hG (Nat.le_refl _) (by omega), hS⟩, by simp [intOf]⟩
        · obtain rfl : k = 5 := by omega
          rw [show ((5 : Nat) : Int) = 5 from rfl]
          have HX := Lib.hid (And.intro hX (And.intro (grownNone hW) hC))
          clear hA hX hW hC
          go_wp2_with fail
          go_loopw [38] (fun i wr => ∃ y : Nat, y ≤ 5 ∧ i = .int .i64 (y : Int) ∧ Blk wr g 48 (Fc 26 (thF f y)) ∧ w.grownBy wr (some g) ∧ Blk wr gb 73 (Fc 5 (bothF f 5))) (fun i _ => 5 - (intOf i).toNat)
          case atStart => exact ⟨0, by omega, rfl, by rw [thF_zero]; exact HX.out.1, grownSome HX.out.2.1, HX.out.2.2⟩
          case round =>
            clear HX
            obtain ⟨y, hy, rfl, hX, hG, hC⟩ := hrel
            by_cases hy5 : y < 5
            · have HX := Lib.hid (And.intro hX (And.intro hG hC))
              clear hX hG hC
              go_wp2_with fail
              refine (row_at g y _ (by omega) (by omega) _).mono ?_
              rintro e wk ⟨rfl, rfl⟩
              go_wp2_with fail
              refine (layOn_any g (5 * y) 26 gb 0 5 _ _ _ _ (by omega) (by omega) (by omega) _ HX.out.1 HX.out.2.2).mono ?_
              rintro e wk ⟨rfl, hA, hG⟩
              rw [thF_step] at hA
              have HY := Lib.hid (And.intro hA (And.intro (grown_trans HX.out.2.1 hG) (HX.out.2.2.kept hG (fun e => by injection e; omega))))
              clear hA HX hG
              go_wp2_with fail
              exact ⟨⟨y + 1, by omega, by go_num, HY.out⟩, by simp [intOf]; omega⟩
            · obtain rfl : y = 5 := by omega
              have HX := Lib.hid (And.intro hX hG)
              clear hX hG hC
              go_wp2_with fail
              go_end0
              exact ⟨rfl, HX.out⟩
end Go.Proofs.Ytfknfopdinkmkaa
