/- The sum of many (WordAdds): the walk. -/
import Derived.Test.YtimmcljpfpimbaaDoorWx
import Derived.Test.YtimmcljpfpimbaaDoorWj
import Derived.Deep.RegionHeld3
namespace Go.Proofs.YtimmcljpfpimbaaDoor
open Go.RowKit
attribute [local go_sem] ix0 ix1 ix2 ix3

theorem blk_set4 {w : World} {g : Nat} {t : TypeId} {s : Nat} (h : Blk w g t (Wc s)) (a b c d : Int) :
    Blk ((((w.setCell ⟨g, 0, none⟩ (.int .u64 a)).setCell ⟨g, 1, none⟩ (.int .u64 b)).setCell ⟨g, 2, none⟩ (.int .u64 c)).setCell ⟨g, 3, none⟩ (.int .u64 d)) g t #[.int .u64 a, .int .u64 b, .int .u64 c, .int .u64 d] :=
  heap_setCell_same _ g 3 _ _ _ (heap_setCell_same _ g 2 _ _ _ (heap_setCell_same _ g 1 _ _ _ (heap_setCell_same w g 0 _ _ _ h)))

set_option maxRecDepth 100000 in
set_option maxHeartbeats 4000000 in
theorem adds_walk (b o n cap : Nat) (f : Nat → Nat) (w : World) (hn : n ≤ 9223372036854775807) (hb : b < w.heap.size) (hf : WordsAt w b o n f) :
    Calls Tryd.prog 4 #[.slice (some ⟨b, o, none⟩) n cap] w fun e w' => e = .returned (.bool true) ∧ Below w.heap.size w w' := by
  by_cases h50 : n ≤ 50
  · go_enter Tryd.func4, Tryd.ntmps4
    go_wp2_with fail
    go_loopw [4] (fun i wr => ∃ k : Nat, k ≤ n ∧ i = .int .i64 k ∧ Blk wr w.heap.size 24 (Wc (sumN f k)) ∧ Below w.heap.size w wr) (fun i _ => n - (intOf i).toNat)
    case atStart =>
      refine ⟨0, Nat.zero_le _, rfl, ?_, balloc (Below.refl _ _) _⟩
      have h := Blk.new w 24 (Wc (sumN f 0))
      simp only [Wc, sumN, lb_zero] at h ⊢
      exact h
    case round =>
      obtain ⟨k, hk, rfl, hs, hB⟩ := hrel
      by_cases hlt : k < n
      · have d := hf k hlt
        have d0 := (hB.cell (p := ⟨b, o + k * 4, none⟩) hb).trans d.1
        have d1 := (hB.cell (p := ⟨b, o + k * 4 + 1, none⟩) hb).trans d.2.1
        have d2 := (hB.cell (p := ⟨b, o + k * 4 + 2, none⟩) hb).trans d.2.2.1
        have d3 := (hB.cell (p := ⟨b, o + k * 4 + 3, none⟩) hb).trans d.2.2.2
        have c0 := (cell_of_row wr _ 0 _ _ _ hs).trans (wc_get (sumN f k) 0 (by omega))
        have c1 := (cell_of_row wr _ 1 _ _ _ hs).trans (wc_get (sumN f k) 1 (by omega))
        have c2 := (cell_of_row wr _ 2 _ _ _ hs).trans (wc_get (sumN f k) 2 (by omega))
        have c3 := (cell_of_row wr _ 3 _ _ _ hs).trans (wc_get (sumN f k) 3 (by omega))
        have HS := Lib.hid hs
        clear d hs
        go_wp2_with fail
        go_region_law (first | (go_simp; go_at_call 12; refine (radd_any (sumN f k) (f k) _).mono ?_; rintro e wk ⟨rfl, hk2⟩; have hr2 := Blk.keep (X := wr.drew) HS.out hk2; have hB2 := bstep hB.drew hk2; have r0 := (cell_of_row wk _ 0 _ _ _ hr2).trans (wc_get _ 0 (by omega)); have r1 := (cell_of_row wk _ 1 _ _ _ hr2).trans (wc_get _ 1 (by omega)); have r2 := (cell_of_row wk _ 2 _ _ _ hr2).trans (wc_get _ 2 (by omega)); have r3 := (cell_of_row wk _ 3 _ _ _ hr2).trans (wc_get _ 3 (by omega)); have f0 := frozen_of_row wk _ 0 _ _ hr2; have f1 := frozen_of_row wk _ 1 _ _ hr2; have f2 := frozen_of_row wk _ 2 _ _ hr2; have f3 := frozen_of_row wk _ 3 _ _ hr2; have HR2 := Lib.hid hr2; clear hr2))
        all_goals
          go_wp2
          have h := blk_set4 HR2.out (lb (sumN f k + f k) 0) (lb (sumN f k + f k) 1) (lb (sumN f k + f k) 2) (lb (sumN f k + f k) 3)
          have hB3 := (((hB2.setCell (p := ⟨w.heap.size, 0, none⟩) (Nat.le_refl _) (.int .u64 (lb (sumN f k + f k) 0))).setCell (p := ⟨w.heap.size, 1, none⟩) (Nat.le_refl _) (.int .u64 (lb (sumN f k + f k) 1))).setCell (p := ⟨w.heap.size, 2, none⟩) (Nat.le_refl _) (.int .u64 (lb (sumN f k + f k) 2))).setCell (p := ⟨w.heap.size, 3, none⟩) (Nat.le_refl _) (.int .u64 (lb (sumN f k + f k) 3))
          exact ⟨⟨k + 1, by omega, by go_num, h, hB3⟩, by simp [intOf]; omega⟩
      · obtain rfl : k = n := by omega
        have hf' : WordsAt wr b o k f := fun j hj => by
          have d := hf j hj
          exact ⟨(hB.cell (p := ⟨b, _, none⟩) hb).trans d.1, (hB.cell (p := ⟨b, _, none⟩) hb).trans d.2.1, (hB.cell (p := ⟨b, _, none⟩) hb).trans d.2.2.1, (hB.cell (p := ⟨b, _, none⟩) hb).trans d.2.2.2⟩
        have hb' : b < wr.heap.size := Nat.lt_of_lt_of_le hb hB.size
        have c0 : ∀ w', Below wr.heap.size wr w' → w'.cell? ⟨w.heap.size, 0, none⟩ = some (.int .u64 (lb (sumN f k) 0)) := fun w' h => (h.cell (p := ⟨w.heap.size, 0, none⟩) hs.lt).trans ((cell_of_row wr _ 0 _ _ _ hs).trans (wc_get _ 0 (by omega)))
        have c1 : ∀ w', Below wr.heap.size wr w' → w'.cell? ⟨w.heap.size, 1, none⟩ = some (.int .u64 (lb (sumN f k) 1)) := fun w' h => (h.cell (p := ⟨w.heap.size, 1, none⟩) hs.lt).trans ((cell_of_row wr _ 1 _ _ _ hs).trans (wc_get _ 1 (by omega)))
        have c2 : ∀ w', Below wr.heap.size wr w' → w'.cell? ⟨w.heap.size, 2, none⟩ = some (.int .u64 (lb (sumN f k) 2)) := fun w' h => (h.cell (p := ⟨w.heap.size, 2, none⟩) hs.lt).trans ((cell_of_row wr _ 2 _ _ _ hs).trans (wc_get _ 2 (by omega)))
        have c3 : ∀ w', Below wr.heap.size wr w' → w'.cell? ⟨w.heap.size, 3, none⟩ = some (.int .u64 (lb (sumN f k) 3)) := fun w' h => (h.cell (p := ⟨w.heap.size, 3, none⟩) hs.lt).trans ((cell_of_row wr _ 3 _ _ _ hs).trans (wc_get _ 3 (by omega)))
        have HF := Lib.hid (show ∀ w', Below wr.heap.size wr w' → WordsAt w' b o k f from fun w' h j hj => by
          have d := hf' j hj
          exact ⟨(h.cell (p := ⟨b, _, none⟩) hb').trans d.1, (h.cell (p := ⟨b, _, none⟩) hb').trans d.2.1, (h.cell (p := ⟨b, _, none⟩) hb').trans d.2.2.1, (h.cell (p := ⟨b, _, none⟩) hb').trans d.2.2.2⟩)
        have HB := Lib.hid (show ∀ w', Below wr.heap.size wr w' → b < w'.heap.size from fun w' h => Nat.lt_of_lt_of_le hb' h.size)
        have h1 : ∀ w, (binOp .eql 24 (W (sumN f k)) (W (sumN f k))).run Tryd.prog w = .ok (.bool true) w := fun w => by rw [eqW]; simp
        clear hs hf' hf hb
        go_wp2_with fail
        go_region_held3 (fun w' => Below wr.heap.size wr w') (first | assumption | exact (Below.refl _ _).drew | exact bstep' (by assumption) (by assumption))
          (first
            | (go_at_call 11; refine (add_any b o k cap f _ hn (HB.out _ (by assumption)) (HF.out _ (by assumption))).mono ?_; rintro e wk ⟨rfl, hk2⟩)
            | (go_at_call 21; refine (works_any _).mono ?_; rintro e wk ⟨rfl, hk2⟩))
        all_goals (go_wp2; go_ret; exact ⟨rfl, bstep hB (by assumption)⟩)
  · have h50' : (50 : Int) < (n : Int) := by omega
    go_enter Tryd.func4, Tryd.ntmps4
    go_wp2_with (go_at_call 21; refine (works_any _).mono ?_; rintro e wk ⟨rfl, hk⟩)
    go_ret
    exact ⟨rfl, hk⟩
end Go.Proofs.YtimmcljpfpimbaaDoor
