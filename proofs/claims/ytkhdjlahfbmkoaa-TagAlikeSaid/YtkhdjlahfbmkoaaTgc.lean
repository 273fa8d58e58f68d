/- tag: made: new lists, each told by its place. -/
import Derived.Test.YtkhdjlahfbmkoaaTgb
import Derived.Laws.MakeOwn
namespace Go.Proofs.Ytkhdjlahfbmkoaa
open Go.RowKit Go.Shelf

theorem infoCell : (Try.prog.info? 53).map (fun i => (i.zero, i.size, i.bytes)) = some (some (.agg #[.int .u8 0, .int .u64 0]), 2, 16) := by kernel_rfl
theorem infoLabel : (Try.prog.info? 27).map (fun i => (i.zero, i.size, i.bytes)) = some (some (.int .u64 0), 1, 8) := by kernel_rfl
theorem made_cell0 (n : Nat) : madeCells (Value.agg #[.int .u8 0, .int .u64 0]).cells (n * 2) = (cvs (List.replicate n (0, 0))).toArray := by
  have hcs : (Value.agg #[.int .u8 0, .int .u64 0]).cells = #[.int .u8 0, .int .u64 0] := rfl
  apply Array.ext_getElem?
  intro i
  have e : (cvs (List.replicate n (0, 0))).toArray[i]? = (cvs (List.replicate n (0, 0)))[i]? := List.getElem?_toArray ..
  rw [e]
  unfold madeCells
  rw [hcs, Array.getElem?_map]
  obtain ⟨k, rfl | rfl⟩ : ∃ k, i = k * 2 ∨ i = k * 2 + 1 := ⟨i / 2, by omega⟩
  · rw [cvs_get0, List.getElem?_replicate]
    by_cases hk : k < n
    · rw [if_pos hk, Array.getElem?_range, if_pos (by omega)]
      simp only [Option.map_some, List.size_toArray, List.length_cons, List.length_nil, Nat.zero_add, Nat.reduceAdd]
      rw [show k * 2 % 2 = 0 by omega]; rfl
    · rw [if_neg hk, Array.getElem?_eq_none (by simp; omega)]; rfl
  · rw [cvs_get1, List.getElem?_replicate]
    by_cases hk : k < n
    · rw [if_pos hk, Array.getElem?_range, if_pos (by omega)]
      simp only [Option.map_some, List.size_toArray, List.length_cons, List.length_nil, Nat.zero_add, Nat.reduceAdd]
      rw [show (k * 2 + 1) % 2 = 1 by omega]; rfl
    · rw [if_neg hk, Array.getElem?_eq_none (by simp; omega)]; rfl
theorem make_cells (n : Nat) (hn : n ≤ 1000000) (w : World) : (Instr.makeSlice 22 (.int .i64 n) (.int .i64 n)).run Try.prog w = .ok (.slice (some ⟨w.heap.size, 0, none⟩) n n) (w.alloc (.cells (cvs (List.replicate n (0, 0))).toArray 53)) := by
  obtain ⟨i, hi, hz, hs, hb⟩ := info_parts' infoCell
  have h := run_makeSlice (P := Try.prog) (w := w) 22 53 i (.agg #[.int .u8 0, .int .u64 0]) (by kernel_rfl) hi hz .i64 .i64 n n (by omega) (by omega) (by rw [hs]; omega) (by rw [hb]; omega) (by omega)
  rw [hs, Int.toNat_natCast, made_cell0] at h
  exact h
theorem made_u8 (n : Nat) : madeCells (Value.int .u8 0).cells (n * 1) = (bvs (List.replicate n 0)).toArray := by
  apply Array.ext_getElem?
  intro i
  unfold madeCells bvs
  by_cases hi : i < n <;> simp [Value.cells, Nat.mod_one, hi]
theorem make_bytes (n : Nat) (hn : n ≤ 1000000) (w : World) : (Instr.makeSlice 23 (.int .i64 n) (.int .i64 n)).run Try.prog w = .ok (.slice (some ⟨w.heap.size, 0, none⟩) n n) (w.alloc (.cells (bvs (List.replicate n 0)).toArray 5)) := by
  obtain ⟨i, hi, hz, hs, hb⟩ := info_parts' infoU8
  have h := run_makeSlice (P := Try.prog) (w := w) 23 5 i (.int .u8 0) (by kernel_rfl) hi hz .i64 .i64 n n (by omega) (by omega) (by rw [hs]; omega) (by rw [hb]; omega) (by omega)
  rw [hs, Int.toNat_natCast, made_u8] at h
  exact h
/-- Labels as values. -/
def lvs (l : List Nat) : List Value := l.map fun x => Value.int .u64 (x : Nat)
theorem lvs_get (l : List Nat) (k : Nat) : (lvs l)[k]? = (l[k]?).map fun x => Value.int .u64 (x : Nat) := by unfold lvs; simp
theorem made_u64 (n : Nat) : madeCells (Value.int .u64 0).cells (n * 1) = (lvs (List.replicate n 0)).toArray := by
  apply Array.ext_getElem?
  intro i
  unfold madeCells lvs
  by_cases hi : i < n <;> simp [Value.cells, Nat.mod_one, hi]
theorem make_labels (n : Nat) (hn : n ≤ 1000000) (w : World) : (Instr.makeSlice 64 (.int .i64 n) (.int .i64 n)).run Try.prog w = .ok (.slice (some ⟨w.heap.size, 0, none⟩) n n) (w.alloc (.cells (lvs (List.replicate n 0)).toArray 27)) := by
  obtain ⟨i, hi, hz, hs, hb⟩ := info_parts' infoLabel
  have h := run_makeSlice (P := Try.prog) (w := w) 64 27 i (.int .u64 0) (by kernel_rfl) hi hz .i64 .i64 n n (by omega) (by omega) (by rw [hs]; omega) (by rw [hb]; omega) (by omega)
  rw [hs, Int.toNat_natCast, made_u64] at h
  exact h
/-- A list under way: the first k are told, noughts stand behind them. -/
def stL {α : Type} (z : α) (n : Nat) (f : Nat → α) (k : Nat) : List α := (List.range n).map fun i => if i < k then f i else z
theorem stL_zero {α : Type} (z : α) (n : Nat) (f : Nat → α) : stL z n f 0 = List.replicate n z := by
  unfold stL
  apply List.ext_getElem?
  intro i
  by_cases hi : i < n <;> simp [hi]
theorem stL_all {α : Type} (z : α) (n : Nat) (f : Nat → α) : stL z n f n = (List.range n).map f := by
  unfold stL
  exact List.map_congr_left fun i hi => by rw [if_pos (List.mem_range.1 hi)]
theorem stL_len {α : Type} (z : α) (n : Nat) (f : Nat → α) (k : Nat) : (stL z n f k).length = n := by unfold stL; simp
theorem stL_get {α : Type} (z : α) (n : Nat) (f : Nat → α) (k : Nat) (hk : k < n) : (stL z n f k)[k]? = some z := by unfold stL; simp [hk]
theorem stL_set {α : Type} (z : α) (n : Nat) (f : Nat → α) (k : Nat) (hk : k < n) : (stL z n f k).set k (f k) = stL z n f (k + 1) := by
  apply List.ext_getElem?
  intro i
  unfold stL
  rw [List.getElem?_set]
  by_cases hi : i < n
  · by_cases e : k = i
    · subst e; simp [hk]
    · rw [if_neg e]
      simp only [List.getElem?_map, List.getElem?_range hi, Option.map_some]
      by_cases h2 : i < k
      · rw [if_pos h2, if_pos (by omega)]
      · rw [if_neg h2, if_neg (by omega)]
  · rw [if_neg (by omega)]
    simp [hi]

set_option maxRecDepth 100000 in
set_option maxHeartbeats 1000000 in
theorem madeC_of (n : Nat) (hn : n ≤ 1000000) (f : Nat → Nat × Nat) (p0 p1 : Value) (w : World)
    (H : ∀ k, k < n → ∀ Y, Below w.heap.size w Y → Calls Try.prog 32 #[.int .i64 k, p0, p1] Y fun e Y' => e = .returned (cV (f k).1 (f k).2) ∧ Below Y.heap.size Y Y') :
    Calls Try.prog 31 #[.int .i64 n, .func (.func 32) #[] #[p0, p1]] w fun e w' => e = .returned (.slice (some ⟨w.heap.size, 0, none⟩) n n) ∧ Blk w' w.heap.size 53 (cvs ((List.range n).map f)).toArray ∧ Below w.heap.size w w' := by
  have hmk := make_cells n hn
  obtain ⟨X, hX⟩ : ∃ X, w.alloc (.cells (cvs (List.replicate n (0, 0))).toArray 53) = X := ⟨_, rfl⟩
  have hal : Below w.heap.size w X := by rw [← hX]; exact balloc (Below.refl w.heap.size w) _
  have hN : Blk X w.heap.size 53 (cvs (stL (0, 0) n f 0)).toArray := by rw [← hX, stL_zero]; exact Blk.new w _ _
  have HX := Lib.hid hX
  have HS := Lib.hid (And.intro hal hN)
  have HC := Lib.hid H
  clear hX hal hN H
  go_enter Try.func31, Try.ntmps31
  go_wp2_with fail
  rw [HX.out]
  clear hmk
  go_loopw [11] (fun t wr => ∃ k : Nat, t = .int .i64 k ∧ k ≤ n ∧ Blk wr w.heap.size 53 (cvs (stL (0, 0) n f k)).toArray ∧ Below w.heap.size w wr) (fun t _ => n - (intOf t).toNat)
  case atStart => exact ⟨0, rfl, Nat.zero_le _, HS.out.2, HS.out.1⟩
  case round =>
    obtain ⟨k, rfl, hk, hblk, hw⟩ := hrel
    by_cases hlt : k < n
    · have hltI : (k : Int) < (n : Int) := by omega
      have HK := Lib.hid (And.intro hblk hw)
      clear hblk hw hk
      go_wp2_with (first | (go_at_call 32; refine (HC.out k hlt wr HK.out.2).mono ?_; rintro e w1 ⟨rfl, hw1⟩; have hb := HK.out.1.keep hw1; have c0 := (cell_of_row _ _ (k * 2) _ _ _ hb).trans ((List.getElem?_toArray ..).trans ((cvs_get0 _ k).trans (congrArg _ (stL_get (0, 0) n f k hlt)))); have c1 := (cell_of_row _ _ (k * 2 + 1) _ _ _ hb).trans ((List.getElem?_toArray ..).trans ((cvs_get1 _ k).trans (congrArg _ (stL_get (0, 0) n f k hlt)))); simp only [Option.map_some] at c0 c1; have f0 := frozen_of_row _ _ (k * 2) _ _ hb; have f1 := frozen_of_row _ _ (k * 2 + 1) _ _ hb; have HW := Lib.hid (bstep HK.out.2 hw1); have HB := Lib.hid hb; clear hw1 hb))
      go_round
      case rel =>
        refine ⟨k + 1, by go_num, by omega, ?_, ?_⟩
        · have h1 := heap_setCell_same _ w.heap.size (k * 2 + 1) _ _ (.int .u64 ((f k).2 : Nat)) (heap_setCell_same w1 w.heap.size (k * 2) _ _ (.int .u8 ((f k).1 : Nat)) HB.out)
          rw [List.setIfInBounds_toArray, List.setIfInBounds_toArray, cvs_set, stL_set _ _ _ _ hlt] at h1
          exact h1
        · exact ((HW.out.setCell (p := ⟨w.heap.size, k * 2, none⟩) (Nat.le_refl _) _).setCell (p := ⟨w.heap.size, k * 2 + 1, none⟩) (Nat.le_refl _) _)
      case measure => simp [intOf]; omega
    · obtain rfl : k = n := by omega
      go_wp2
      go_ret
      refine ⟨rfl, ?_, hw⟩
      rw [← stL_all (0, 0)]
      exact hblk

set_option maxRecDepth 100000 in
set_option maxHeartbeats 1000000 in
theorem madeC_join (n : Nat) (hn : n ≤ 1000000) (f : Nat → Nat × Nat) (p0 p1 : Value) (w : World)
    (H : ∀ k, k < n → ∀ Y, Below w.heap.size w Y → Calls Try.prog 40 #[.int .i64 k, p0, p1] Y fun e Y' => e = .returned (cV (f k).1 (f k).2) ∧ Below Y.heap.size Y Y') :
    Calls Try.prog 31 #[.int .i64 n, .func (.func 40) #[] #[p0, p1]] w fun e w' => e = .returned (.slice (some ⟨w.heap.size, 0, none⟩) n n) ∧ Blk w' w.heap.size 53 (cvs ((List.range n).map f)).toArray ∧ Below w.heap.size w w' := by
  have hmk := make_cells n hn
  obtain ⟨X, hX⟩ : ∃ X, w.alloc (.cells (cvs (List.replicate n (0, 0))).toArray 53) = X := ⟨_, rfl⟩
  have hal : Below w.heap.size w X := by rw [← hX]; exact balloc (Below.refl w.heap.size w) _
  have hN : Blk X w.heap.size 53 (cvs (stL (0, 0) n f 0)).toArray := by rw [← hX, stL_zero]; exact Blk.new w _ _
  have HX := Lib.hid hX
  have HS := Lib.hid (And.intro hal hN)
  have HC := Lib.hid H
  clear hX hal hN H
  go_enter Try.func31, Try.ntmps31
  go_wp2_with fail
  rw [HX.out]
  clear hmk
  go_loopw [11] (fun t wr => ∃ k : Nat, t = .int .i64 k ∧ k ≤ n ∧ Blk wr w.heap.size 53 (cvs (stL (0, 0) n f k)).toArray ∧ Below w.heap.size w wr) (fun t _ => n - (intOf t).toNat)
  case atStart => exact ⟨0, rfl, Nat.zero_le _, HS.out.2, HS.out.1⟩
  case round =>
    obtain ⟨k, rfl, hk, hblk, hw⟩ := hrel
    by_cases hlt : k < n
    · have hltI : (k : Int) < (n : Int) := by omega
      have HK := Lib.hid (And.intro hblk hw)
      clear hblk hw hk
      go_wp2_with (first | (go_at_call 40; refine (HC.out k hlt wr HK.out.2).mono ?_; rintro e w1 ⟨rfl, hw1⟩; have hb := HK.out.1.keep hw1; have c0 := (cell_of_row _ _ (k * 2) _ _ _ hb).trans ((List.getElem?_toArray ..).trans ((cvs_get0 _ k).trans (congrArg _ (stL_get (0, 0) n f k hlt)))); have c1 := (cell_of_row _ _ (k * 2 + 1) _ _ _ hb).trans ((List.getElem?_toArray ..).trans ((cvs_get1 _ k).trans (congrArg _ (stL_get (0, 0) n f k hlt)))); simp only [Option.map_some] at c0 c1; have f0 := frozen_of_row _ _ (k * 2) _ _ hb; have f1 := frozen_of_row _ _ (k * 2 + 1) _ _ hb; have HW := Lib.hid (bstep HK.out.2 hw1); have HB := Lib.hid hb; clear hw1 hb))
      go_round
      case rel =>
        refine ⟨k + 1, by go_num, by omega, ?_, ?_⟩
        · have h1 := heap_setCell_same _ w.heap.size (k * 2 + 1) _ _ (.int .u64 ((f k).2 : Nat)) (heap_setCell_same w1 w.heap.size (k * 2) _ _ (.int .u8 ((f k).1 : Nat)) HB.out)
          rw [List.setIfInBounds_toArray, List.setIfInBounds_toArray, cvs_set, stL_set _ _ _ _ hlt] at h1
          exact h1
        · exact ((HW.out.setCell (p := ⟨w.heap.size, k * 2, none⟩) (Nat.le_refl _) _).setCell (p := ⟨w.heap.size, k * 2 + 1, none⟩) (Nat.le_refl _) _)
      case measure => simp [intOf]; omega
    · obtain rfl : k = n := by omega
      go_wp2
      go_ret
      refine ⟨rfl, ?_, hw⟩
      rw [← stL_all (0, 0)]
      exact hblk

set_option maxRecDepth 100000 in
set_option maxHeartbeats 1000000 in
theorem madeC_from (n : Nat) (hn : n ≤ 1000000) (f : Nat → Nat × Nat) (p0 : Value) (w : World)
    (H : ∀ k, k < n → ∀ Y, Below w.heap.size w Y → Calls Try.prog 55 #[.int .i64 k, p0] Y fun e Y' => e = .returned (cV (f k).1 (f k).2) ∧ Below Y.heap.size Y Y') :
    Calls Try.prog 31 #[.int .i64 n, .func (.func 55) #[] #[p0]] w fun e w' => e = .returned (.slice (some ⟨w.heap.size, 0, none⟩) n n) ∧ Blk w' w.heap.size 53 (cvs ((List.range n).map f)).toArray ∧ Below w.heap.size w w' := by
  have hmk := make_cells n hn
  obtain ⟨X, hX⟩ : ∃ X, w.alloc (.cells (cvs (List.replicate n (0, 0))).toArray 53) = X := ⟨_, rfl⟩
  have hal : Below w.heap.size w X := by rw [← hX]; exact balloc (Below.refl w.heap.size w) _
  have hN : Blk X w.heap.size 53 (cvs (stL (0, 0) n f 0)).toArray := by rw [← hX, stL_zero]; exact Blk.new w _ _
  have HX := Lib.hid hX
  have HS := Lib.hid (And.intro hal hN)
  have HC := Lib.hid H
  clear hX hal hN H
  go_enter Try.func31, Try.ntmps31
  go_wp2_with fail
  rw [HX.out]
  clear hmk
  go_loopw [11] (fun t wr => ∃ k : Nat, t = .int .i64 k ∧ k ≤ n ∧ Blk wr w.heap.size 53 (cvs (stL (0, 0) n f k)).toArray ∧ Below w.heap.size w wr) (fun t _ => n - (intOf t).toNat)
  case atStart => exact ⟨0, rfl, Nat.zero_le _, HS.out.2, HS.out.1⟩
  case round =>
    obtain ⟨k, rfl, hk, hblk, hw⟩ := hrel
    by_cases hlt : k < n
    · have hltI : (k : Int) < (n : Int) := by omega
      have HK := Lib.hid (And.intro hblk hw)
      clear hblk hw hk
      go_wp2_with (first | (go_at_call 55; refine (HC.out k hlt wr HK.out.2).mono ?_; rintro e w1 ⟨rfl, hw1⟩; have hb := HK.out.1.keep hw1; have c0 := (cell_of_row _ _ (k * 2) _ _ _ hb).trans ((List.getElem?_toArray ..).trans ((cvs_get0 _ k).trans (congrArg _ (stL_get (0, 0) n f k hlt)))); have c1 := (cell_of_row _ _ (k * 2 + 1) _ _ _ hb).trans ((List.getElem?_toArray ..).trans ((cvs_get1 _ k).trans (congrArg _ (stL_get (0, 0) n f k hlt)))); simp only [Option.map_some] at c0 c1; have f0 := frozen_of_row _ _ (k * 2) _ _ hb; have f1 := frozen_of_row _ _ (k * 2 + 1) _ _ hb; have HW := Lib.hid (bstep HK.out.2 hw1); have HB := Lib.hid hb; clear hw1 hb))
      go_round
      case rel =>
        refine ⟨k + 1, by go_num, by omega, ?_, ?_⟩
        · have h1 := heap_setCell_same _ w.heap.size (k * 2 + 1) _ _ (.int .u64 ((f k).2 : Nat)) (heap_setCell_same w1 w.heap.size (k * 2) _ _ (.int .u8 ((f k).1 : Nat)) HB.out)
          rw [List.setIfInBounds_toArray, List.setIfInBounds_toArray, cvs_set, stL_set _ _ _ _ hlt] at h1
          exact h1
        · exact ((HW.out.setCell (p := ⟨w.heap.size, k * 2, none⟩) (Nat.le_refl _) _).setCell (p := ⟨w.heap.size, k * 2 + 1, none⟩) (Nat.le_refl _) _)
      case measure => simp [intOf]; omega
    · obtain rfl : k = n := by omega
      go_wp2
      go_ret
      refine ⟨rfl, ?_, hw⟩
      rw [← stL_all (0, 0)]
      exact hblk

set_option maxRecDepth 100000 in
set_option maxHeartbeats 1000000 in
theorem madeB_bytes (n : Nat) (hn : n ≤ 1000000) (f : Nat → Nat) (p0 : Value) (w : World)
    (H : ∀ k, k < n → ∀ Y, Below w.heap.size w Y → Calls Try.prog 35 #[.int .i64 k, p0] Y fun e Y' => e = .returned (.int .u8 (f k : Nat)) ∧ Below Y.heap.size Y Y') :
    Calls Try.prog 34 #[.int .i64 n, .func (.func 35) #[] #[p0]] w fun e w' => e = .returned (.slice (some ⟨w.heap.size, 0, none⟩) n n) ∧ Blk w' w.heap.size 5 (bvs ((List.range n).map f)).toArray ∧ Below w.heap.size w w' := by
  have hmk := make_bytes n hn
  obtain ⟨X, hX⟩ : ∃ X, w.alloc (.cells (bvs (List.replicate n 0)).toArray 5) = X := ⟨_, rfl⟩
  have hal : Below w.heap.size w X := by rw [← hX]; exact balloc (Below.refl w.heap.size w) _
  have hN : Blk X w.heap.size 5 (bvs (stL 0 n f 0)).toArray := by rw [← hX, stL_zero]; exact Blk.new w _ _
  have HX := Lib.hid hX
  have HS := Lib.hid (And.intro hal hN)
  have HC := Lib.hid H
  clear hX hal hN H
  go_enter Try.func34, Try.ntmps34
  go_wp2_with fail
  rw [HX.out]
  clear hmk
  go_loopw [11] (fun t wr => ∃ k : Nat, t = .int .i64 k ∧ k ≤ n ∧ Blk wr w.heap.size 5 (bvs (stL 0 n f k)).toArray ∧ Below w.heap.size w wr) (fun t _ => n - (intOf t).toNat)
  case atStart => exact ⟨0, rfl, Nat.zero_le _, HS.out.2, HS.out.1⟩
  case round =>
    obtain ⟨k, rfl, hk, hblk, hw⟩ := hrel
    by_cases hlt : k < n
    · have hltI : (k : Int) < (n : Int) := by omega
      have HK := Lib.hid (And.intro hblk hw)
      clear hblk hw hk
      go_wp2_with (first | (go_at_call 35; refine (HC.out k hlt wr HK.out.2).mono ?_; rintro e w1 ⟨rfl, hw1⟩; have hb := HK.out.1.keep hw1; have c0 := (cell_of_row _ _ k _ _ _ hb).trans ((List.getElem?_toArray ..).trans ((bvs_get _ k).trans (congrArg _ (stL_get 0 n f k hlt)))); simp only [Option.map_some] at c0; have f0 := frozen_of_row _ _ k _ _ hb; have HW := Lib.hid (bstep HK.out.2 hw1); have HB := Lib.hid hb; clear hw1 hb))
      go_round
      case rel =>
        refine ⟨k + 1, by go_num, by omega, ?_, ?_⟩
        · have h1 := heap_setCell_same w1 w.heap.size k _ _ (.int .u8 (f k : Nat)) HB.out
          rw [List.setIfInBounds_toArray, show (bvs (stL 0 n f k)).set k (.int .u8 (f k : Nat)) = bvs (stL 0 n f (k + 1)) by rw [← stL_set _ _ _ _ hlt]; unfold bvs; rw [List.map_set]] at h1
          exact h1
        · exact (HW.out.setCell (p := ⟨w.heap.size, k, none⟩) (Nat.le_refl _) _)
      case measure => simp [intOf]; omega
    · obtain rfl : k = n := by omega
      go_wp2
      go_ret
      refine ⟨rfl, ?_, hw⟩
      rw [← stL_all 0]
      exact hblk

set_option maxRecDepth 100000 in
set_option maxHeartbeats 1000000 in
theorem madeL_label (n : Nat) (hn : n ≤ 1000000) (f : Nat → Nat) (p0 : Value) (w : World)
    (H : ∀ k, k < n → ∀ Y, Below w.heap.size w Y → Calls Try.prog 38 #[.int .i64 k, p0] Y fun e Y' => e = .returned (.int .u64 (f k : Nat)) ∧ Below Y.heap.size Y Y') :
    Calls Try.prog 37 #[.int .i64 n, .func (.func 38) #[] #[p0]] w fun e w' => e = .returned (.slice (some ⟨w.heap.size, 0, none⟩) n n) ∧ Blk w' w.heap.size 27 (lvs ((List.range n).map f)).toArray ∧ Below w.heap.size w w' := by
  have hmk := make_labels n hn
  obtain ⟨X, hX⟩ : ∃ X, w.alloc (.cells (lvs (List.replicate n 0)).toArray 27) = X := ⟨_, rfl⟩
  have hal : Below w.heap.size w X := by rw [← hX]; exact balloc (Below.refl w.heap.size w) _
  have hN : Blk X w.heap.size 27 (lvs (stL 0 n f 0)).toArray := by rw [← hX, stL_zero]; exact Blk.new w _ _
  have HX := Lib.hid hX
  have HS := Lib.hid (And.intro hal hN)
  have HC := Lib.hid H
  clear hX hal hN H
  go_enter Try.func37, Try.ntmps37
  go_wp2_with fail
  rw [HX.out]
  clear hmk
  go_loopw [11] (fun t wr => ∃ k : Nat, t = .int .i64 k ∧ k ≤ n ∧ Blk wr w.heap.size 27 (lvs (stL 0 n f k)).toArray ∧ Below w.heap.size w wr) (fun t _ => n - (intOf t).toNat)
  case atStart => exact ⟨0, rfl, Nat.zero_le _, HS.out.2, HS.out.1⟩
  case round =>
    obtain ⟨k, rfl, hk, hblk, hw⟩ := hrel
    by_cases hlt : k < n
    · have hltI : (k : Int) < (n : Int) := by omega
      have HK := Lib.hid (And.intro hblk hw)
      clear hblk hw hk
      go_wp2_with (first | (go_at_call 38; refine (HC.out k hlt wr HK.out.2).mono ?_; rintro e w1 ⟨rfl, hw1⟩; have hb := HK.out.1.keep hw1; have c0 := (cell_of_row _ _ k _ _ _ hb).trans ((List.getElem?_toArray ..).trans ((lvs_get _ k).trans (congrArg _ (stL_get 0 n f k hlt)))); simp only [Option.map_some] at c0; have f0 := frozen_of_row _ _ k _ _ hb; have HW := Lib.hid (bstep HK.out.2 hw1); have HB := Lib.hid hb; clear hw1 hb))
      go_round
      case rel =>
        refine ⟨k + 1, by go_num, by omega, ?_, ?_⟩
        · have h1 := heap_setCell_same w1 w.heap.size k _ _ (.int .u64 (f k : Nat)) HB.out
          rw [List.setIfInBounds_toArray, show (lvs (stL 0 n f k)).set k (.int .u64 (f k : Nat)) = lvs (stL 0 n f (k + 1)) by rw [← stL_set _ _ _ _ hlt]; unfold lvs; rw [List.map_set]] at h1
          exact h1
        · exact (HW.out.setCell (p := ⟨w.heap.size, k, none⟩) (Nat.le_refl _) _)
      case measure => simp [intOf]; omega
    · obtain rfl : k = n := by omega
      go_wp2
      go_ret
      refine ⟨rfl, ?_, hw⟩
      rw [← stL_all 0]
      exact hblk
end Go.Proofs.Ytkhdjlahfbmkoaa
