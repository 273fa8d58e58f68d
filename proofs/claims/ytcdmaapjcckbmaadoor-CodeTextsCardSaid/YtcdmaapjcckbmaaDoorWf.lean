/- Layer word: the word of bytes (word.Read), and a word's bytes (word.Bytes). -/
import Derived.Test.YtcdmaapjcckbmaaDoorWe
import Derived.Test.YtcdmaapjcckbmaaDoorWd
namespace Go.Proofs.YtcdmaapjcckbmaaDoor
open Go.RowKit
attribute [local go_sem] ix0 ix1 ix2 ix3
/-- The number of the first k bytes, the highest first. -/
def numB (f : Nat → Nat) : Nat → Nat
  | 0 => 0
  | k + 1 => numB f k * 256 + f k
/-- Bytes lie in a row. -/
def BytesAt (w : World) (b o n : Nat) (f : Nat → Nat) : Prop := ∀ k, k < n → f k < 256 ∧ w.cell? ⟨b, o + k, none⟩ = some (.int .u8 (f k))

set_option maxHeartbeats 1000000 in
theorem read_any (b o n cap : Nat) (f : Nat → Nat) (w : World) (hn : n ≤ 32) (hb : b < w.heap.size) (hf : BytesAt w b o n f) :
    Calls Tryd.prog 42 #[.slice (some ⟨b, o, none⟩) n cap] w fun e w' => e = .returned (.tuple #[W (numB f n), .int .i64 0]) ∧ Below w.heap.size w w' := by
  go_enter Tryd.func42, Tryd.ntmps42
  go_wp2
  go_loopw [14] (fun i wr => ∃ k : Nat, k ≤ n ∧ i = .int .i64 k ∧ Blk wr (w.heap.size + 1) 95 (Dc (numB f k) 8) ∧ Blk wr w.heap.size 40 #[.int .u64 0, .int .u64 0, .int .u64 0, .int .u64 0] ∧ Below w.heap.size w wr) (fun i _ => n - (intOf i).toNat)
  case atStart =>
    refine ⟨0, Nat.zero_le _, rfl, ?_, (Blk.new w _ _).alloc _, balloc (balloc (Below.refl _ _) _) _⟩
    have h := Blk.new (w.alloc (.cells #[.int .u64 0, .int .u64 0, .int .u64 0, .int .u64 0] 40)) 95 #[.int .u64 0, .int .u64 0, .int .u64 0, .int .u64 0, .int .i64 8]
    unfold Dc numB; simp only [lb_zero]; simpa using h
  case round =>
    obtain ⟨k, hk, rfl, hs, hr, hB⟩ := hrel
    by_cases hlt : k < n
    · obtain ⟨hf1, hc1⟩ := hf k hlt
      have hc := (hB.cell (p := ⟨b, o + k, none⟩) hb).trans hc1
      have HS := Lib.hid hs
      have HR := Lib.hid hr
      clear hc1 hs hr
      go_wp2_with (go_at_call 67; refine (take_8 (numB f k) (f k) (w.heap.size + 1) (by unfold B64; omega) _ HS.out).mono ?_; rintro e w1 ⟨rfl, hs1, hb1⟩)
      go_roundw
      case rel => exact ⟨k + 1, by omega, by go_num, hs1, HR.out.kept hb1 (by simp), hB.grown hb1 hB.size (fun j e => by cases e; omega)⟩
      case measure => simp [intOf]; omega
    · obtain rfl : k = n := by omega
      have c0 := (cell_of_row wr _ 0 _ _ _ hs).trans (show (Dc (numB f k) 8)[0]? = some (.int .u64 (lb (numB f k) 0)) from rfl)
      have c1 := (cell_of_row wr _ 1 _ _ _ hs).trans (show (Dc (numB f k) 8)[1]? = some (.int .u64 (lb (numB f k) 1)) from rfl)
      have c2 := (cell_of_row wr _ 2 _ _ _ hs).trans (show (Dc (numB f k) 8)[2]? = some (.int .u64 (lb (numB f k) 2)) from rfl)
      have c3 := (cell_of_row wr _ 3 _ _ _ hs).trans (show (Dc (numB f k) 8)[3]? = some (.int .u64 (lb (numB f k) 3)) from rfl)
      have r0 := cell_of_row wr _ 0 _ _ _ hr
      have r1 := cell_of_row wr _ 1 _ _ _ hr
      have r2 := cell_of_row wr _ 2 _ _ _ hr
      have r3 := cell_of_row wr _ 3 _ _ _ hr
      have f0 := frozen_of_row wr _ 0 _ _ hr
      have f1 := frozen_of_row wr _ 1 _ _ hr
      have f2 := frozen_of_row wr _ 2 _ _ hr
      have f3 := frozen_of_row wr _ 3 _ _ hr
      clear hs hr hf
      go_wp2
      exact bodyPost_ret (v := .tuple #[W (numB f k), .int .i64 0]) (by simp [results, Tryd.results42, go_sem, r0, r1, r2, r3]) rfl ⟨rfl, (((hB.setCell (p := ⟨w.heap.size, 0, none⟩) (Nat.le_refl _) _).setCell (p := ⟨w.heap.size, 1, none⟩) (Nat.le_refl _) _).setCell (p := ⟨w.heap.size, 2, none⟩) (Nat.le_refl _) _).setCell (p := ⟨w.heap.size, 3, none⟩) (Nat.le_refl _) _⟩

theorem W_zero : W 0 = .agg #[.int .u64 0, .int .u64 0, .int .u64 0, .int .u64 0] := by unfold W; simp only [lb_zero]

theorem read_nil (w : World) :
    Calls Tryd.prog 42 #[.slice none 0 0] w fun e w' => e = .returned (.tuple #[W 0, .int .i64 0]) ∧ Below w.heap.size w w' := by
  rw [W_zero]
  go_enter Tryd.func42, Tryd.ntmps42
  go_wp2
  refine wp_loop_rounds 1 ?_
  rw [rounds_succ]; go_wp2
  exact bodyPost_ret (v := .tuple #[.agg #[.int .u64 0, .int .u64 0, .int .u64 0, .int .u64 0], .int .i64 0]) (by simp [results, Tryd.results42, go_sem]) rfl ⟨rfl, balloc (balloc (Below.refl _ _) _) _⟩

theorem read_long (b o n cap : Nat) (w : World) (hn : 32 < n) (hm : n ≤ 9223372036854775807) :
    Calls Tryd.prog 42 #[.slice (some ⟨b, o, none⟩) n cap] w fun e w' => e = .returned (.tuple #[W 0, .int .i64 3]) ∧ Below w.heap.size w w' := by
  rw [W_zero]
  go_enter Tryd.func42, Tryd.ntmps42
  go_wp2
  exact bodyPost_ret (v := .tuple #[.agg #[.int .u64 0, .int .u64 0, .int .u64 0, .int .u64 0], .int .i64 3]) (by simp [results, Tryd.results42, go_sem]) rfl ⟨rfl, balloc (Below.refl _ _) _⟩

/-- 32 cells of bytes, of which the lowest k are written. -/
def byC (a k : Nat) : Array Value := ((List.range 32).map fun p => Value.int .u8 (if 31 - p < k then ((byA a (31 - p) : Nat) : Int) else 0)).toArray
theorem byC_get (a k p : Nat) (hp : p < 32) : (byC a k)[p]? = some (.int .u8 (if 31 - p < k then ((byA a (31 - p) : Nat) : Int) else 0)) := by
  unfold byC; simp [hp]
theorem byC_size (a k : Nat) : (byC a k).size = 32 := by unfold byC; simp
theorem byC_set (a k : Nat) (hk : k < 32) : (byC a k).setIfInBounds (31 - k) (.int .u8 (byA a k : Nat)) = byC a (k + 1) := by
  apply Array.ext_getElem?
  intro p
  by_cases hp : p < 32
  · rw [Array.getElem?_setIfInBounds, byC_size, byC_get _ _ _ hp, byC_get _ _ _ hp]
    by_cases h : 31 - k = p
    · subst h
      rw [if_pos rfl, if_pos (by omega), if_pos (by omega), show 31 - (31 - k) = k from by omega]
    · rw [if_neg h]
      by_cases g : 31 - p < k
      · rw [if_pos g, if_pos (by omega)]
      · rw [if_neg g, if_neg (by omega)]
  · rw [Array.getElem?_eq_none (by rw [Array.size_setIfInBounds, byC_size]; omega), Array.getElem?_eq_none (by rw [byC_size]; omega)]
theorem byC_zero (a : Nat) : byC a 0 = #[.int .u8 0, .int .u8 0, .int .u8 0, .int .u8 0, .int .u8 0, .int .u8 0, .int .u8 0, .int .u8 0, .int .u8 0, .int .u8 0, .int .u8 0, .int .u8 0, .int .u8 0, .int .u8 0, .int .u8 0, .int .u8 0, .int .u8 0, .int .u8 0, .int .u8 0, .int .u8 0, .int .u8 0, .int .u8 0, .int .u8 0, .int .u8 0, .int .u8 0, .int .u8 0, .int .u8 0, .int .u8 0, .int .u8 0, .int .u8 0, .int .u8 0, .int .u8 0] := by
  unfold byC; simp only [Nat.not_lt_zero, if_false]; rfl

end Go.Proofs.YtcdmaapjcckbmaaDoor
