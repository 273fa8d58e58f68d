/- digest: the first bytes of a state. -/
import Derived.Test.YtfknfopdinkmkaaKi
import Derived.Test.YtfknfopdinkmkaaPb
namespace Go.Proofs.Ytfknfopdinkmkaa
open Go.RowKit
attribute [local irreducible] ln rot
/-- The i-th byte of numbers, each the lowest byte first. -/
def dgB (f : Nat → Ln) (i : Nat) : Nat := (f (i / 8)).toNat / 2 ^ (8 * (i % 8)) % 256
theorem dgB_lt (f : Nat → Ln) (i : Nat) : dgB f i < 256 := Nat.mod_lt _ (by omega)
theorem dgB_wrap (f : Nat → Ln) (i : Nat) : IntKind.u8.wrap (ln (f (i / 8)) / 2 ^ (i % 8 * 8)) = ((dgB f i : Nat) : Int) := by
  unfold ln dgB
  rw [IntKind.wrap_u8, Nat.mul_comm 8]
  simp
set_option maxRecDepth 100000 in
set_option maxHeartbeats 4000000 in
theorem first_any (g : Nat) (f : Nat → Ln) (w : World) (hB : Blk w g 48 (Fc 26 f)) :
    Calls Try.prog 20 #[.pointer (some ⟨g, 0, none⟩)] w fun e w' => e = .returned (.agg (byC (numB (dgB f) 32) 32)) ∧ Below w.heap.size w w' := by
  have hgl := hB.lt
  have HB := Lib.hid hB
  clear hB
  go_enter Try.func20, Try.ntmps20
  go_wp2_with fail
  rw [← byC_zero 0, ← rdC_zero (dgB f) 32]
  go_loopw [5] (fun i wr => ∃ k : Nat, k ≤ 32 ∧ i = .int .i64 (k : Int) ∧ Blk wr (w.heap.size + 1) 24 (rdC (dgB f) 32 k) ∧ Blk wr w.heap.size 24 (rdC (dgB f) 32 0) ∧ Blk wr g 48 (Fc 26 f) ∧ Below w.heap.size w wr) (fun i _ => 32 - (intOf i).toNat)
  case atStart => exact ⟨0, by omega, rfl, Blk.newS w _ _ _, (Blk.new w _ _).alloc _, (HB.out.alloc _).alloc _, balloc (balloc (Below.refl _ _) _) _⟩
  case round =>
    clear HB
    obtain ⟨k, hk, rfl, hL, hZ, hX, hW⟩ := hrel
    by_cases hlt : k < 32
    · have hC := (cell_of_row _ _ (k / 8) _ _ _ hX).trans (Fc_get 26 f _ (by omega))
      have hD := (cell_of_row _ _ k _ _ _ hL).trans (rdC_get (dgB f) 32 k k hlt)
      have hF := frozen_of_row _ _ k _ _ hL
      have e1 := dgB_wrap f k
      have HX := Lib.hid (And.intro hL (And.intro hZ (And.intro hX hW)))
      have h8 : (k : Int) / 8 < 25 := by omega
      clear hL hZ hX hW
      go_wp2_with fail
      have hS := heap_setCell_same wr (w.heap.size + 1) k _ _ (.int .u8 (dgB f k : Nat)) HX.out.1
      have hst := rdC_set (dgB f) 32 k (by omega) hlt
      rw [show 32 - 32 + k = k by omega] at hst
      rw [hst] at hS
      have hG := grown_set' (grown_refl wr (w.heap.size + 1)) k (.int .u8 (dgB f k : Nat))
      have hlg := HX.out.2.2.1.lt
      exact ⟨⟨k + 1, by omega, by go_num, hS, HX.out.2.1.kept hG (fun e => by injection e; omega), HX.out.2.2.1.kept hG (fun e => by injection e; omega), step_world HX.out.2.2.2 hG (Nat.le_refl _) (by omega)⟩, by simp [intOf]; omega⟩
    · obtain rfl : k = 32 := by omega
      rw [rdC_all (dgB f) 32 (by omega) (fun k _ => dgB_lt f k)] at hL
      obtain ⟨N, hN⟩ : ∃ N, numB (dgB f) 32 = N := ⟨_, rfl⟩
      rw [hN] at hL
      have HN := Lib.hid hN
      have hi : (Try.prog.info? 24).map (·.size) = some (byC N 32).size := by rw [byC_size]; kernel_rfl
      have hu : Try.prog.underlying 24 = some (.array 32 5) := by kernel_rfl
      have ht : wr.there w.heap.size 0 (byC N 32).size := hZ.there _ (by rw [byC_size, rdC_size]; exact Nat.le_refl _)
      have hr : (loadVar 24 ⟨w.heap.size, 0, none⟩).run Try.prog (wr.setCells w.heap.size 0 (byC N 32).toList) = .ok (.agg (byC N 32)) (wr.setCells w.heap.size 0 (byC N 32).toList) :=
        run_loadVar_mid _ _ _ _ (byC N 32).toList _ (World.rangeAt_setCells_same _ _ _ _ ht) hu rfl hi
      have hB' := below_setCells' (B := w.heap.size) (b := w.heap.size) (by omega) (byC N 32).toList 0 wr hW
      have HL := Lib.hid hL
      have HI := Lib.hid hi
      have HU := Lib.hid hu
      have HRR := Lib.hid (And.intro hr hB')
      have HT := Lib.hid ht
      clear hL hZ hW hi hr hB' ht hu hX hN
      go_upto_region 7 with fail
      refine wp_region_lit (wpList_load_mid rfl 24 (.tmp 3) rfl (w.heap.size + 1) 0 rfl (byC N 32).toList _ HL.out.rangeAt HU.out rfl HI.out ?_)
      refine wpList_store_mid rfl 24 (.tmp 2) (.tmp 22) rfl w.heap.size 0 (byC N 32) rfl rfl HT.out HI.out (byC_one N 32) (wpList_nil ?_)
      obtain ⟨hr, hB'⟩ := HRR.out
      generalize wr.setCells w.heap.size 0 (byC N 32).toList = wz at *
      go_wp2_with fail
      exact bodyPost_ret (v := .agg (byC N 32)) (by simp [results, Try.results20, Act.put, asAddr, hr]) rfl ⟨by rw [HN.out], hB'⟩
end Go.Proofs.Ytfknfopdinkmkaa
