/- big's laws: BigBits: numbers of many bytes. -/
import Derived.Test.YtjkniebedgiclaaDoorOy
namespace Go.Proofs.YtjkniebedgiclaaDoor
open Go.RowKit Go.Shelf
attribute [local go_sem] Oper.semAt_some
set_option maxRecDepth 100000 in
set_option maxHeartbeats 4000000 in
theorem bits_long (n : Int) (x1 x2 : Option Addr) (n1 c1 n2 c2 : Nat) (w : World) (h : 150 < n1 ∨ 150 < n2) :
    Calls Tryd.prog 4 #[.slice x1 n1 c1, .slice x2 n2 c2, .int .i64 n] w fun e w' => e = .returned (.bool true) ∧ Below w.heap.size w w' := by
  obtain ⟨W0, hW0⟩ : ∃ W0, (w.alloc (.cells #[.int .i64 n] 3)).alloc (.cells #[.bool false] 4) = W0 := ⟨_, rfl⟩
  have hB0 : Below w.heap.size w W0 := by rw [← hW0]; exact balloc (balloc (Below.refl _ _) _) _
  have b2 : Blk W0 (w.heap.size + 1) 4 #[.bool false] := by rw [← hW0]; exact Blk.newS w _ _ _
  have HX := Lib.hid hW0
  have HB := Lib.hid (And.intro b2 hB0)
  clear hW0 b2 hB0
  refine (callsIn_wide (n := 20)).1 ?_
  refine callsIn_of_wp_marks Tryd.func4 rfl trivial ?_ rfl
  simp only [Tryd.ntmps4, List.size_toArray, List.length_nil, List.length_cons, Nat.reduceAdd, Nat.reduceSub, Array.replicate_succ, Array.replicate_zero, List.push_toArray, List.append_toArray, List.nil_append, List.cons_append]
  refine (wpIn_wide (n := 20)).2 ?_
  by_cases h1 : 150 < n1
  · have k1 : (150 : Int) < (n1 : Int) := by omega
    clear h h1
    go_wp2_with (first | (go_at_call 8; rw [HX.out]; refine (works_any _).mono ?_; rintro e X4 ⟨rfl, h4⟩; have cR := cell_of_row _ _ 0 _ _ _ (HB.out.1.keep h4); have fR := frozen_of_row _ _ 0 _ _ (HB.out.1.keep h4); have H4 := Lib.hid h4; clear h4) | fail)
    have hY : Blk (X4.setCell ⟨w.heap.size + 1, 0, none⟩ (.bool true)) (w.heap.size + 1) 4 #[.bool true] := heap_setCell_same X4 (w.heap.size + 1) 0 _ _ (.bool true) (HB.out.1.keep H4.out)
    have hBY : Below w.heap.size w (X4.setCell ⟨w.heap.size + 1, 0, none⟩ (.bool true)) := (HB.out.2.trans (H4.out.mono HB.out.2.size)).setCell (p := ⟨w.heap.size + 1, 0, none⟩) (by show w.heap.size ≤ w.heap.size + 1; omega) _
    exact leaves_keep (by simp) (fun X => Blk X (w.heap.size + 1) 4 #[.bool true] ∧ Below w.heap.size w X) [] _ List.nodup_nil (fun D hD => by cases hD) (fun X D hD h => by cases hD) ⟨hY, hBY⟩ (fun X h => ⟨.bool true, by simp [results, Tryd.results4, go_sem, cell_of_row _ _ 0 _ _ _ h.1], rfl, h.2⟩)
  · have k1 : ¬ (150 : Int) < (n1 : Int) := by omega
    have k2 : (150 : Int) < (n2 : Int) := by omega
    clear h h1
    go_wp2_with (first | (go_at_call 8; rw [HX.out]; refine (works_any _).mono ?_; rintro e X4 ⟨rfl, h4⟩; have cR := cell_of_row _ _ 0 _ _ _ (HB.out.1.keep h4); have fR := frozen_of_row _ _ 0 _ _ (HB.out.1.keep h4); have H4 := Lib.hid h4; clear h4) | fail)
    have hY : Blk (X4.setCell ⟨w.heap.size + 1, 0, none⟩ (.bool true)) (w.heap.size + 1) 4 #[.bool true] := heap_setCell_same X4 (w.heap.size + 1) 0 _ _ (.bool true) (HB.out.1.keep H4.out)
    have hBY : Below w.heap.size w (X4.setCell ⟨w.heap.size + 1, 0, none⟩ (.bool true)) := (HB.out.2.trans (H4.out.mono HB.out.2.size)).setCell (p := ⟨w.heap.size + 1, 0, none⟩) (by show w.heap.size ≤ w.heap.size + 1; omega) _
    exact leaves_keep (by simp) (fun X => Blk X (w.heap.size + 1) 4 #[.bool true] ∧ Below w.heap.size w X) [] _ List.nodup_nil (fun D hD => by cases hD) (fun X D hD h => by cases hD) ⟨hY, hBY⟩ (fun X h => ⟨.bool true, by simp [results, Tryd.results4, go_sem, cell_of_row _ _ 0 _ _ _ h.1], rfl, h.2⟩)
end Go.Proofs.YtjkniebedgiclaaDoor
