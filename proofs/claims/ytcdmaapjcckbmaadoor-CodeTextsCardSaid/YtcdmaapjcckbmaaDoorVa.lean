/- The reference's Read, by a contract. -/
import Derived.Test.YtcdmaapjcckbmaaDoorWx
namespace Go.Proofs.YtcdmaapjcckbmaaDoor
open Go.RowKit
attribute [local go_sem] ix0 ix1 ix2 ix3
theorem byA_num (f : Nat → Nat) : ∀ n q, (∀ k, k < n → f k < 256) → byA (numB f n) q = if q < n then f (n - 1 - q) else 0
  | 0, q, _ => by rw [if_neg (by omega)]; simp [numB, byA]
  | n + 1, 0, h => by
    have := h n (by omega)
    rw [if_pos (by omega), show n + 1 - 1 - 0 = n by omega]
    unfold numB byA
    rw [Nat.pow_zero, Nat.div_one]; omega
  | n + 1, q + 1, h => by
    have h1 := h n (by omega)
    have ih := byA_num f n q (fun k hk => h k (by omega))
    have e : byA (numB f (n + 1)) (q + 1) = byA (numB f n) q := by
      unfold byA
      rw [Nat.pow_succ', ← Nat.div_div_eq_div_mul, show numB f (n + 1) = numB f n * 256 + f n from rfl, show (numB f n * 256 + f n) / 256 = numB f n by omega]
    rw [e, ih]
    by_cases hq : q < n
    · rw [if_pos hq, if_pos (by omega), show n + 1 - 1 - (q + 1) = n - 1 - q by omega]
    · rw [if_neg hq, if_neg (by omega)]
/-- 32 cells: the first k of n bytes, at the end. -/
def rdC (f : Nat → Nat) (n k : Nat) : Array Value := ((List.range 32).map fun p => Value.int .u8 (if 32 - n ≤ p ∧ p < 32 - n + k then ((f (p + n - 32) : Nat) : Int) else 0)).toArray
theorem rdC_get (f : Nat → Nat) (n k p : Nat) (hp : p < 32) : (rdC f n k)[p]? = some (.int .u8 (if 32 - n ≤ p ∧ p < 32 - n + k then ((f (p + n - 32) : Nat) : Int) else 0)) := by
  unfold rdC; simp [hp]
theorem rdC_size (f : Nat → Nat) (n k : Nat) : (rdC f n k).size = 32 := by unfold rdC; simp
theorem rdC_zero (f : Nat → Nat) (n : Nat) : rdC f n 0 = byC 0 0 := by
  apply Array.ext_getElem?
  intro p
  by_cases hp : p < 32
  · rw [rdC_get _ _ _ _ hp, byC_get _ _ _ hp, if_neg (by omega), if_neg (by omega)]
  · rw [Array.getElem?_eq_none (by rw [rdC_size]; omega), Array.getElem?_eq_none (by rw [byC_size]; omega)]
theorem rdC_all (f : Nat → Nat) (n : Nat) (hn : n ≤ 32) (hf : ∀ k, k < n → f k < 256) : rdC f n n = byC (numB f n) 32 := by
  apply Array.ext_getElem?
  intro p
  by_cases hp : p < 32
  · rw [rdC_get _ _ _ _ hp, byC_get _ _ _ hp, if_pos (by omega : 31 - p < 32), byA_num f n _ hf]
    by_cases h : 32 - n ≤ p
    · rw [if_pos ⟨h, by omega⟩, if_pos (by omega), show n - 1 - (31 - p) = p + n - 32 by omega]
    · rw [if_neg (by omega), if_neg (by omega)]; rfl
  · rw [Array.getElem?_eq_none (by rw [rdC_size]; omega), Array.getElem?_eq_none (by rw [byC_size]; omega)]
theorem rdC_set (f : Nat → Nat) (n k : Nat) (hn : n ≤ 32) (hk : k < n) : (rdC f n k).setIfInBounds (32 - n + k) (.int .u8 (f k : Nat)) = rdC f n (k + 1) := by
  apply Array.ext_getElem?
  intro p
  by_cases hp : p < 32
  · rw [Array.getElem?_setIfInBounds, rdC_size, rdC_get _ _ _ _ hp, rdC_get _ _ _ _ hp]
    by_cases h : 32 - n + k = p
    · subst h
      rw [if_pos rfl, if_pos (by omega), if_pos (by omega), show 32 - n + k + n - 32 = k by omega]
    · rw [if_neg h]
      by_cases g : 32 - n ≤ p ∧ p < 32 - n + k
      · rw [if_pos g, if_pos (by omega)]
      · rw [if_neg g, if_neg (by omega)]
  · rw [Array.getElem?_eq_none (by rw [Array.size_setIfInBounds, rdC_size]; omega), Array.getElem?_eq_none (by rw [rdC_size]; omega)]

set_option maxRecDepth 100000 in
set_option maxHeartbeats 1000000 in
theorem rread_any (b o n cap : Nat) (f : Nat → Nat) (w : World) (hn : n ≤ 32) (hb : b < w.heap.size) (hf : BytesAt w b o n f) :
    Calls Tryd.prog 45 #[.slice (some ⟨b, o, none⟩) n cap] w fun e w' => e = .returned (.tuple #[W (numB f n), .int .i64 0]) ∧ Below w.heap.size w w' := by
  have hi : (Tryd.prog.info? 97).map (·.size) = some (byC (numB f n) 32).size := by rw [byC_size]; kernel_rfl
  have HI := Lib.hid hi
  have hu : Tryd.prog.underlying 97 = some (.array 32 5) := by kernel_rfl
  have HU := Lib.hid hu
  clear hi hu
  go_enter Tryd.func45, Tryd.ntmps45
  go_wp2_with fail
  go_loopw [5] (fun i wr => ∃ k : Nat, k ≤ n ∧ i = .int .i64 k ∧ Blk wr (w.heap.size + 1) 97 (rdC f n k) ∧ Blk wr w.heap.size 40 (Wc 0) ∧ Below w.heap.size w wr) (fun i _ => n - (intOf i).toNat)
  case atStart =>
    refine ⟨0, Nat.zero_le _, rfl, ?_, ?_, balloc (balloc (Below.refl _ _) _) _⟩
    · rw [rdC_zero, byC_zero]; exact Blk.newS _ _ _ _
    · have h := (Blk.new w 40 (Wc 0)).alloc (.cells (byC 0 0) 97)
      rw [byC_zero] at h
      simp only [Wc, lb_zero] at h ⊢
      exact h
  case round =>
    obtain ⟨k, hk, rfl, hs, hr, hB⟩ := hrel
    by_cases hlt : k < n
    · obtain ⟨d1, d2⟩ := hf k hlt
      have d := (hB.cell (p := ⟨b, o + k, none⟩) hb).trans d2
      have hfr := frozen_of_row wr _ (32 - n + k) _ _ hs
      have hc := (cell_of_row wr _ _ _ _ _ hs).trans (rdC_get f n k (32 - n + k) (by omega))
      have HS := Lib.hid hs
      have HR := Lib.hid hr
      clear hs hr d2
      have g1 : IntKind.i64.wrap (32 - (n : Int)) = 32 - (n : Int) := IntWalk.i64_in _ (by omega)
      have g2 : IntKind.i64.wrap (32 - (n : Int) + (k : Int)) = 32 - (n : Int) + (k : Int) := IntWalk.i64_in _ (by omega)
      have g3 : (32 - (n : Int) + (k : Int)).toNat = 32 - n + k := by omega
      have g4 : 32 - (n : Int) + (k : Int) < 32 := by omega
      have g5 : (0 : Int) ≤ 32 - (n : Int) + (k : Int) := by omega
      go_wp2
      have G := grown_set' (grown_refl wr (w.heap.size + 1)) (32 - n + k) (.int .u8 ((f k : Nat) : Int))
      have h := heap_setCell_same wr (w.heap.size + 1) (32 - n + k) _ _ (.int .u8 ((f k : Nat) : Int)) HS.out
      rw [rdC_set f n k hn hlt] at h
      exact ⟨⟨k + 1, by omega, by go_num, h, HR.out.kept G (by simp), hB.setCell (p := ⟨w.heap.size + 1, 32 - n + k, none⟩) (by simp) _⟩, by simp [intOf]; omega⟩
    · obtain rfl : k = n := by omega
      rw [rdC_all f k hn (fun j hj => (hf j hj).1)] at hs
      have HS := Lib.hid hs
      have HR := Lib.hid hr
      clear hs hr hf
      go_upto_region 8 with (fail)
      refine wp_region_lit (wpList_load_mid rfl 97 (.tmp 4) rfl (w.heap.size + 1) 0 rfl (byC (numB f k) 32).toList _ HS.out.rangeAt HU.out rfl HI.out ?_)
      go_wp2_with (go_at_call 68; refine (rfrom_any (numB f k) _).mono ?_; rintro e wk ⟨rfl, hk⟩; have hr2 := HR.out.keep hk; have hB2 := bstep hB hk; have r0 := (cell_of_row wk _ 0 _ _ _ hr2).trans (wc_get 0 0 (by omega)); have r1 := (cell_of_row wk _ 1 _ _ _ hr2).trans (wc_get 0 1 (by omega)); have r2 := (cell_of_row wk _ 2 _ _ _ hr2).trans (wc_get 0 2 (by omega)); have r3 := (cell_of_row wk _ 3 _ _ _ hr2).trans (wc_get 0 3 (by omega)); have f0 := frozen_of_row wk _ 0 _ _ hr2; have f1 := frozen_of_row wk _ 1 _ _ hr2; have f2 := frozen_of_row wk _ 2 _ _ hr2; have f3 := frozen_of_row wk _ 3 _ _ hr2; clear hr2)
      exact bodyPost_ret (v := .tuple #[W (numB f k), .int .i64 0]) (by simp [results, Tryd.results45, go_sem, r0, r1, r2, r3]) rfl ⟨rfl, (((hB2.setCell (p := ⟨w.heap.size, 0, none⟩) (by simp) _).setCell (p := ⟨w.heap.size, 1, none⟩) (by simp) _).setCell (p := ⟨w.heap.size, 2, none⟩) (by simp) _).setCell (p := ⟨w.heap.size, 3, none⟩) (by simp) _⟩

theorem rread_long (b o n cap : Nat) (w : World) (hn : 32 < n) (hm : n ≤ 9223372036854775807) :
    Calls Tryd.prog 45 #[.slice (some ⟨b, o, none⟩) n cap] w fun e w' => e = .returned (.tuple #[W 0, .int .i64 3]) ∧ Below w.heap.size w w' := by
  rw [W_zero]
  have hn' : (32 : Int) < (n : Int) := by omega
  go_enter Tryd.func45, Tryd.ntmps45
  go_wp2
  exact bodyPost_ret (v := .tuple #[.agg #[.int .u64 0, .int .u64 0, .int .u64 0, .int .u64 0], .int .i64 3]) (by simp [results, Tryd.results45, go_sem]) rfl ⟨rfl, by first | exact balloc (balloc (Below.refl _ _) _) _ | exact balloc (balloc (balloc (Below.refl _ _) _) _) _ | exact balloc (Below.refl _ _) _⟩
end Go.Proofs.YtcdmaapjcckbmaaDoor
