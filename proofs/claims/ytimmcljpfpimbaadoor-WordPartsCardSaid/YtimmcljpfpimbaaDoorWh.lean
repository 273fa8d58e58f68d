/- Layer word: a word's text (word.Text). -/
import Derived.Test.YtimmcljpfpimbaaDoorWf
import Derived.Test.YtimmcljpfpimbaaDoorWg
import Derived.Deep.RegionLaw
import Derived.Laws.BytesArg
namespace Go.Proofs.YtimmcljpfpimbaaDoor
open Go.RowKit

/-- The j-th digit of a number to the base 16, the lowest first. -/
def nib (a j : Nat) : Nat := a / 16 ^ j % 16
/-- A digit's letter. -/
def dgN (n : Nat) : Nat := if n < 10 then 48 + n else 87 + n
theorem nib_lt (a j : Nat) : nib a j < 16 := Nat.mod_lt _ (by omega)
theorem dgN_lt (n : Nat) (h : n < 16) : dgN n < 128 := by unfold dgN; split <;> omega
theorem nib_hi (a k : Nat) : byA a k / 16 = nib a (2 * k + 1) := by
  unfold byA nib
  rw [show (256 : Nat) ^ k = 16 ^ (2 * k) from by rw [Nat.pow_mul], show (256 : Nat) = 16 * 16 from rfl, Nat.mod_mul_right_div_self, Nat.div_div_eq_div_mul, ← Nat.pow_succ]
theorem nib_lo (a k : Nat) : byA a k % 16 = nib a (2 * k) := by
  unfold byA nib
  rw [show (256 : Nat) ^ k = 16 ^ (2 * k) from by rw [Nat.pow_mul], show (256 : Nat) = 16 * 16 from rfl, Nat.mod_mul_right_mod]

theorem dig_ix (n : Nat) (h : n < 16) (w : World) : (Instr.index 9 (.string ⟨#[48, 49, 50, 51, 52, 53, 54, 55, 56, 57, 97, 98, 99, 100, 101, 102]⟩) (.int .u8 n)).run Tryd.prog w = .ok (.int .u8 (dgN n)) w := by
  match n, h with
  | 0, _ | 1, _ | 2, _ | 3, _ | 4, _ | 5, _ | 6, _ | 7, _ | 8, _ | 9, _ | 10, _ | 11, _ | 12, _ | 13, _ | 14, _ | 15, _ => rfl
  | n + 16, h => exact absurd h (by omega)

/-- 64 cells of letters, of which the first k are written. -/
def txC (a k : Nat) : Array Value := ((List.range 64).map fun p => Value.int .u8 (if p < k then ((dgN (nib a (63 - p)) : Nat) : Int) else 0)).toArray
theorem txC_get (a k p : Nat) (hp : p < 64) : (txC a k)[p]? = some (.int .u8 (if p < k then ((dgN (nib a (63 - p)) : Nat) : Int) else 0)) := by
  unfold txC; simp [hp]
theorem txC_size (a k : Nat) : (txC a k).size = 64 := by unfold txC; simp
theorem txC_set (a k : Nat) (hk : k < 64) : (txC a k).setIfInBounds k (.int .u8 (dgN (nib a (63 - k)) : Nat)) = txC a (k + 1) := by
  apply Array.ext_getElem?
  intro p
  by_cases hp : p < 64
  · rw [Array.getElem?_setIfInBounds, txC_size, txC_get _ _ _ hp, txC_get _ _ _ hp]
    by_cases h : k = p
    · subst h
      rw [if_pos rfl, if_pos hk, if_pos (by omega)]
    · rw [if_neg h]
      by_cases g : p < k
      · rw [if_pos g, if_pos (by omega)]
      · rw [if_neg g, if_neg (by omega)]
  · rw [Array.getElem?_eq_none (by rw [Array.size_setIfInBounds, txC_size]; omega), Array.getElem?_eq_none (by rw [txC_size]; omega)]
theorem txC_zero (a : Nat) : txC a 0 = #[.int .u8 0, .int .u8 0, .int .u8 0, .int .u8 0, .int .u8 0, .int .u8 0, .int .u8 0, .int .u8 0, .int .u8 0, .int .u8 0, .int .u8 0, .int .u8 0, .int .u8 0, .int .u8 0, .int .u8 0, .int .u8 0, .int .u8 0, .int .u8 0, .int .u8 0, .int .u8 0, .int .u8 0, .int .u8 0, .int .u8 0, .int .u8 0, .int .u8 0, .int .u8 0, .int .u8 0, .int .u8 0, .int .u8 0, .int .u8 0, .int .u8 0, .int .u8 0, .int .u8 0, .int .u8 0, .int .u8 0, .int .u8 0, .int .u8 0, .int .u8 0, .int .u8 0, .int .u8 0, .int .u8 0, .int .u8 0, .int .u8 0, .int .u8 0, .int .u8 0, .int .u8 0, .int .u8 0, .int .u8 0, .int .u8 0, .int .u8 0, .int .u8 0, .int .u8 0, .int .u8 0, .int .u8 0, .int .u8 0, .int .u8 0, .int .u8 0, .int .u8 0, .int .u8 0, .int .u8 0, .int .u8 0, .int .u8 0, .int .u8 0, .int .u8 0] := by
  unfold txC; simp only [Nat.not_lt_zero, if_false]; rfl

theorem and_u8_15 (v : Nat) (h : v < 256) : bits .and .u8 (v : Int) 15 = (v : Int) % 16 := by
  have h0 : (0 : Int) ≤ v := Int.natCast_nonneg v
  have h1 : (v : Int) < 256 := by omega
  generalize (v : Int) = z at *
  go_bits2
theorem info_u8 : (Tryd.prog.info? 5).isSome = true := by kernel_rfl
theorem size_u8 : (Tryd.prog.info? 5).map (·.size) = some 1 := by kernel_rfl

/-- All 64 digits' letters, the highest first. -/
def hexL (a : Nat) : List UInt8 := (List.range 64).map fun p => UInt8.ofNat (dgN (nib a (63 - p)))
/-- A word's text. -/
def txtL (a : Nat) : List UInt8 := 48 :: 120 :: (if (Lib.trimLeftB (hexL a) 48).isEmpty then [48] else Lib.trimLeftB (hexL a) 48)

set_option maxRecDepth 100000 in
set_option maxHeartbeats 1000000 in
theorem text_any (a : Nat) (w : World) :
    Calls Tryd.prog 24 #[W a] w fun e w' => e = .returned (.string ⟨(txtL a).toArray⟩) ∧ Below w.heap.size w w' := by
  have hmk : ∀ w, (Instr.makeSlice 35 (.int .i64 0) (.int .i64 64)).run Tryd.prog w = .ok (.slice (some ⟨w.heap.size, 0, none⟩) 0 64) (w.alloc (.cells (txC a 0) 5)) := fun w => by rw [txC_zero]; kernel_rfl
  obtain ⟨i0, hi0⟩ := Option.isSome_iff_exists.1 info_u8
  have hz1 : i0.size = 1 := by have := size_u8; rw [hi0] at this; exact Option.some.inj this
  have HI := Lib.hid hi0
  have HZ := Lib.hid hz1
  clear hi0 hz1
  go_enter Tryd.func24, Tryd.ntmps24
  go_wp2_with (go_at_call 23; refine (bytes_any a _).mono ?_; rintro e w1 ⟨rfl, hy1, hb1⟩)
  have hyb : Blk w1 (w.heap.size + 1 + 1 + 1) 5 (byC a 32) := by simpa using hy1
  have hsz1 : (w.alloc (.cells (Wc a) 24)).heap.size = w.heap.size + 1 := by simp
  have htb : Blk w1 (w.heap.size + 1) 5 (txC a 0) := by rw [← hsz1]; exact (hb1.block _ (by simp)).trans (Blk.new (w.alloc (.cells (Wc a) 24)) 5 (txC a 0) : Blk _ (w.alloc _).heap.size _ _)
  have hB1 : Below w.heap.size w w1 := bstep (balloc (balloc (Below.refl _ _) _) _) hb1
  clear hy1 hb1
  go_loopw [3, 11] (fun t i wr => ∃ k : Nat, k ≤ 32 ∧ t = .slice (some ⟨w.heap.size + 1, 0, none⟩) (2 * k) 64 ∧ i = .int .i64 k ∧ Blk wr (w.heap.size + 1) 5 (txC a (2 * k)) ∧ Blk wr (w.heap.size + 1 + 1 + 1) 5 (byC a 32) ∧ Below w.heap.size w wr) (fun _ i _ => 32 - (intOf i).toNat)
  case atStart => exact ⟨0, Nat.zero_le _, rfl, rfl, htb, hyb, hB1⟩
  case round =>
    obtain ⟨k, hk, rfl, rfl, ht, hy, hB⟩ := hrel
    by_cases hlt : k < 32
    · have hbk := byA_lt a (31 - k)
      obtain ⟨v, hv⟩ : ∃ v, byA a (31 - k) = v := ⟨_, rfl⟩
      have hc : wr.cell? ⟨w.heap.size + 1 + 1 + 1, k, none⟩ = some (.int .u8 v) := (cell_of_row wr _ _ _ _ _ hy).trans (by rw [byC_get _ _ _ hlt, if_pos (by omega), hv])
      rw [hv] at hbk
      have d1 : ∀ w, (Instr.index 9 (.string ⟨#[48, 49, 50, 51, 52, 53, 54, 55, 56, 57, 97, 98, 99, 100, 101, 102]⟩) (.int .u8 ((v : Int) / 16))).run Tryd.prog w = .ok (.int .u8 (dgN (v / 16))) w := fun w => by
        have := dig_ix (v / 16) (by omega) w; rwa [Int.natCast_ediv] at this
      have d2 : ∀ w, (Instr.index 9 (.string ⟨#[48, 49, 50, 51, 52, 53, 54, 55, 56, 57, 97, 98, 99, 100, 101, 102]⟩) (.int .u8 ((v : Int) % 16))).run Tryd.prog w = .ok (.int .u8 (dgN (v % 16))) w := fun w => by
        have := dig_ix (v % 16) (by omega) w; rwa [Int.natCast_emod] at this
      have hand := and_u8_15 v hbk
      have h62 : 2 * k ≤ 62 := by omega
      have g0 : wr.cell? ⟨w.heap.size + 1, 2 * k, none⟩ = some (.int .u8 0) := (cell_of_row wr _ _ _ _ _ ht).trans (by rw [txC_get _ _ _ (by omega), if_neg (by omega)])
      have g1 : wr.cell? ⟨w.heap.size + 1, 2 * k + 1, none⟩ = some (.int .u8 0) := (cell_of_row wr _ _ _ _ _ ht).trans (by rw [txC_get _ _ _ (by omega), if_neg (by omega)])
      have hltB : w.heap.size + 1 < wr.heap.size := ht.lt
      have z0 := frozen_of_row wr _ (2 * k) _ _ ht
      have z1 := frozen_of_row wr _ (2 * k + 1) _ _ ht
      have HV := Lib.hid hv
      have HT := Lib.hid ht
      have HY := Lib.hid hy
      clear hv ht hy
      go_wp2_with fail
      go_region
      go_wp2
      have e1 : v / 16 = nib a (63 - 2 * k) := by rw [← HV.out, nib_hi]; congr 1; omega
      have e2 : v % 16 = nib a (63 - (2 * k + 1)) := by rw [← HV.out, nib_lo]; congr 1; omega
      have hT := heap_setCell_same _ _ (2 * k + 1) _ _ (.int .u8 (dgN (v % 16) : Nat)) (heap_setCell_same wr _ (2 * k) _ _ (.int .u8 (dgN (v / 16) : Nat)) HT.out)
      rw [e1, txC_set a (2 * k) (by omega), e2, txC_set a (2 * k + 1) (by omega)] at hT
      rw [e1, e2]
      refine ⟨⟨k + 1, by omega, rfl, by go_num, Blk.alloc hT _, Blk.alloc ((HY.out.kept (grown_set' (grown_refl wr (w.heap.size + 1)) (2 * k) _) (by simp <;> omega)).kept (grown_set' (grown_refl _ (w.heap.size + 1)) (2 * k + 1) _) (by simp <;> omega)) _, ?_⟩, by simp [intOf]; omega⟩
      exact ((((hB.setCell (p := ⟨w.heap.size + 1, 2 * k, none⟩) (by simp) _).setCell (p := ⟨w.heap.size + 1, 2 * k + 1, none⟩) (by simp) _).alloc (by simp; omega) _)).drew
    · obtain rfl : k = 32 := by omega
      have hconv := run_convert_bytes_arg (P := Tryd.prog) wr 35 5 (by kernel_rfl) (by kernel_rfl) (w.heap.size + 1) 0 64 64 ((List.range 64).map fun p => ((dgN (nib a (63 - p)) : Nat) : Int)) (by simp) (fun i hi => by
        rw [Nat.zero_add]
        refine (cell_of_row wr _ _ _ _ _ ht).trans ?_
        rw [txC_get _ _ _ hi, if_pos (by omega)]
        simp [List.getD, hi]) 9 (by kernel_rfl)
      have HT := Lib.hid ht
      clear ht hy
      have hsl : Lib.Kept ((strOfNums ((List.range 64).map fun p => ((dgN (nib a (63 - p)) : Nat) : Int))).data.toList = hexL a) := by
        show _ = _
        rw [strOfNums_data]; unfold hexL; rw [List.map_map]; rfl
      have hlen : (Lib.trimLeftB (strOfNums ((List.range 64).map fun p => ((dgN (nib a (63 - p)) : Nat) : Int))).data.toList 48).length ≤ 64 := by
        have h1 := (List.dropWhile_sublist (· == (48 : UInt8)) (l := (strOfNums ((List.range 64).map fun p => ((dgN (nib a (63 - p)) : Nat) : Int))).data.toList)).length_le
        have h2 : (strOfNums ((List.range 64).map fun p => ((dgN (nib a (63 - p)) : Nat) : Int))).data.toList.length = 64 := by rw [strOfNums_data]; simp
        unfold Lib.trimLeftB; omega
      generalize strOfNums ((List.range 64).map fun p => ((dgN (nib a (63 - p)) : Nat) : Int)) = S at *
      go_wp2_with (go_at_call 41; refine (trimLeft_zero S _).mono ?_; rintro e w2 ⟨rfl, rfl⟩)
      · have h : (Lib.trimLeftB S.data.toList 48).isEmpty = true := by assumption
        go_ret
        refine ⟨?_, hB⟩
        show Ending.returned (Value.string (ByteArray.mk [48, 120].toArray ++ ByteArray.mk [48].toArray)) = _
        rw [ByteArray.mk_append_mk]
        unfold txtL
        rw [← show S.data.toList = hexL a from hsl, h]; rfl
      · have h : (Lib.trimLeftB S.data.toList 48).isEmpty = false := by assumption
        go_ret
        refine ⟨?_, hB⟩
        show Ending.returned (Value.string (ByteArray.mk [48, 120].toArray ++ ByteArray.mk (Lib.trimLeftB S.data.toList 48).toArray)) = _
        rw [ByteArray.mk_append_mk]
        unfold txtL
        rw [← show S.data.toList = hexL a from hsl, h]; rfl

end Go.Proofs.YtimmcljpfpimbaaDoor
