/- Layer word: the sum of many (word.Add and its closure). -/
import Derived.Test.YtimmcljpfpimbaaDoorWa
import Derived.Laws.Rows
import Derived.Deep.LoopGhost
namespace Go.Proofs.YtimmcljpfpimbaaDoor
open Go.RowKit
attribute [local go_sem] ix0 ix1 ix2 ix3

theorem fold_any (s x g : Nat) (w : World) (hg : w.heap[g]? = some (.cells (Wc s) 24 (0, 0))) :
    Calls Tryd.prog 32 #[W x, .pointer (some ⟨g, 0, none⟩)] w fun e w' => e = .returned (.tuple #[]) ∧ w'.heap[g]? = some (.cells (Wc (s + x)) 24 (0, 0)) ∧ Below g w w' := by
  have k0 := add64_0 s x
  have k1 := add64_i s x 1
  have k2 := add64_i s x 2
  have k3 := add64_i s x 3
  have c0 : w.cell? ⟨g, 0, none⟩ = some (.int .u64 (lb s 0)) := cell_of_row w g 0 _ _ _ hg
  have c1 : w.cell? ⟨g, 1, none⟩ = some (.int .u64 (lb s 1)) := cell_of_row w g 1 _ _ _ hg
  have c2 : w.cell? ⟨g, 2, none⟩ = some (.int .u64 (lb s 2)) := cell_of_row w g 2 _ _ _ hg
  have c3 : w.cell? ⟨g, 3, none⟩ = some (.int .u64 (lb s 3)) := cell_of_row w g 3 _ _ _ hg
  have f0 := frozen_of_row w g 0 _ _ hg
  have f1 := frozen_of_row w g 1 _ _ hg
  have f2 := frozen_of_row w g 2 _ _ hg
  have f3 := frozen_of_row w g 3 _ _ hg
  have hlt : g < w.heap.size := (Array.getElem?_eq_some_iff.1 hg).1
  have Hg := Lib.hid hg
  clear hg
  go_enter Tryd.func32, Tryd.ntmps32
  go_wp2
  refine wp_loop_rounds 5 ?_
  iterate 5 (rw [rounds_succ]; go_wp2)
  go_end0
  refine ⟨rfl, ?_, ?_⟩
  · rw [heap_alloc_old _ _ (by simpa using hlt)]
    exact heap_setCell_same _ g 3 _ _ _ (heap_setCell_same _ g 2 _ _ _ (heap_setCell_same _ g 1 _ _ _ (heap_setCell_same w g 0 _ _ _ Hg.out)))
  · exact (((((Below.refl g w).setCell (p := ⟨g, 0, none⟩) (Nat.le_refl _) _).setCell (p := ⟨g, 1, none⟩) (Nat.le_refl _) _).setCell (p := ⟨g, 2, none⟩) (Nat.le_refl _) _).setCell (p := ⟨g, 3, none⟩) (Nat.le_refl _) _).alloc (by simp; omega) _

/-- The sum of the first k. -/
def sumN (f : Nat → Nat) : Nat → Nat
  | 0 => 0
  | k + 1 => sumN f k + f k

/-- The words lie in a row, each in four cells. -/
def WordsAt (w : World) (b o n : Nat) (f : Nat → Nat) : Prop := ∀ k, k < n → w.cell? ⟨b, o + k * 4, none⟩ = some (.int .u64 (lb (f k) 0)) ∧ w.cell? ⟨b, o + k * 4 + 1, none⟩ = some (.int .u64 (lb (f k) 1)) ∧ w.cell? ⟨b, o + k * 4 + 2, none⟩ = some (.int .u64 (lb (f k) 2)) ∧ w.cell? ⟨b, o + k * 4 + 3, none⟩ = some (.int .u64 (lb (f k) 3))

theorem add_any (b o n cap : Nat) (f : Nat → Nat) (w : World) (hn : n ≤ 9223372036854775807) (hb : b < w.heap.size) (hf : WordsAt w b o n f) :
    Calls Tryd.prog 11 #[.slice (some ⟨b, o, none⟩) n cap] w fun e w' => e = .returned (W (sumN f n)) ∧ Below w.heap.size w w' := by
  go_enter Tryd.func11, Tryd.ntmps11
  go_wp2
  go_loopw [10] (fun i wr => ∃ k : Nat, k ≤ n ∧ i = .int .i64 k ∧ wr.heap[w.heap.size + 1]? = some (.cells (Wc (sumN f k)) 24 (0, 0)) ∧ wr.heap[w.heap.size]? = some (.cells (Wc 0) 24 (0, 0)) ∧ Below w.heap.size w wr) (fun i _ => n - (intOf i).toNat)
  case atStart =>
    refine ⟨0, Nat.zero_le _, rfl, ?_, ?_, balloc (balloc (Below.refl _ _) _) _⟩
    · rw [heap_alloc2_new]; simp [Wc, sumN, lb_zero]
    · rw [heap_alloc2_old]; simp [Wc, lb_zero]
  case round =>
    obtain ⟨k, hk, rfl, hs, hr, hB⟩ := hrel
    have hgs : w.heap.size + 1 < wr.heap.size := (Array.getElem?_eq_some_iff.1 hs).1
    by_cases hlt : k < n
    · have d := hf k hlt
      have d0 := (hB.cell (p := ⟨b, o + k * 4, none⟩) hb).trans d.1
      have d1 := (hB.cell (p := ⟨b, o + k * 4 + 1, none⟩) hb).trans d.2.1
      have d2 := (hB.cell (p := ⟨b, o + k * 4 + 2, none⟩) hb).trans d.2.2.1
      have d3 := (hB.cell (p := ⟨b, o + k * 4 + 3, none⟩) hb).trans d.2.2.2
      have HS : Hid (∀ ob, (wr.alloc ob).heap[w.heap.size + 1]? = some (.cells (Wc (sumN f k)) 24 (0, 0))) := fun ob => (heap_alloc_old _ _ hgs).trans hs
      have HR : Hid (∀ ob, (wr.alloc ob).heap[w.heap.size]? = some (.cells (Wc 0) 24 (0, 0))) := fun ob => (heap_alloc_old _ _ (by omega)).trans hr
      clear d hs hr
      go_wp2_with (go_at_call 32; refine (fold_any (sumN f k) (f k) (w.heap.size + 1) _ (HS.out _)).mono ?_; rintro e w1 ⟨rfl, hs1, hb1⟩)
      go_roundw
      case rel => exact ⟨k + 1, by omega, by go_num, hs1, (hb1.block _ (by omega)).trans (HR.out _), (balloc hB _).trans (hb1.mono (by omega))⟩
      case measure => simp [intOf]; omega
    · obtain rfl : k = n := by omega
      have c0 := cell_of_row wr _ 0 _ _ _ hs
      have c1 := cell_of_row wr _ 1 _ _ _ hs
      have c2 := cell_of_row wr _ 2 _ _ _ hs
      have c3 := cell_of_row wr _ 3 _ _ _ hs
      have r0 := cell_of_row wr _ 0 _ _ _ hr
      have r1 := cell_of_row wr _ 1 _ _ _ hr
      have r2 := cell_of_row wr _ 2 _ _ _ hr
      have r3 := cell_of_row wr _ 3 _ _ _ hr
      have f0 := frozen_of_row wr _ 0 _ _ hr
      have f1 := frozen_of_row wr _ 1 _ _ hr
      have f2 := frozen_of_row wr _ 2 _ _ hr
      have f3 := frozen_of_row wr _ 3 _ _ hr
      clear hs hr hf
      go_wp2
      exact bodyPost_ret (v := W (sumN f k)) (by simp [results, Tryd.results11, go_sem, r0, r1, r2, r3]) rfl ⟨rfl, (((hB.setCell (p := ⟨w.heap.size, 0, none⟩) (Nat.le_refl _) _).setCell (p := ⟨w.heap.size, 1, none⟩) (Nat.le_refl _) _).setCell (p := ⟨w.heap.size, 2, none⟩) (Nat.le_refl _) _).setCell (p := ⟨w.heap.size, 3, none⟩) (Nat.le_refl _) _⟩

/-- The sum of none. -/
theorem add_nil (w : World) :
    Calls Tryd.prog 11 #[.slice none 0 0] w fun e w' => e = .returned (W 0) ∧ Below w.heap.size w w' := by
  have e : W 0 = .agg #[.int .u64 0, .int .u64 0, .int .u64 0, .int .u64 0] := by unfold W; simp only [lb_zero]
  rw [e]; clear e
  go_enter Tryd.func11, Tryd.ntmps11
  go_wp2
  refine wp_loop_rounds 1 ?_
  rw [rounds_succ]; go_wp2
  exact bodyPost_ret (v := .agg #[.int .u64 0, .int .u64 0, .int .u64 0, .int .u64 0]) (by simp [results, Tryd.results11, go_sem]) rfl ⟨rfl, balloc (balloc (Below.refl _ _) _) _⟩

end Go.Proofs.YtimmcljpfpimbaaDoor
