/- The reference of layer word: Of, Not, Bytes, by contracts. -/
import Derived.Test.YtkhdjlahfbmkoaaWr
import Derived.Test.YtkhdjlahfbmkoaaWf
import Derived.Laws.BitsAllLaws
import Derived.Laws.Rows
import Derived.Deep.MidRow
import Derived.Deep.Cut
namespace Go.Proofs.Ytkhdjlahfbmkoaa
open Go.RowKit
attribute [local go_sem] ix0 ix1 ix2 ix3
theorem rof_any (n : Nat) (h : n < B64) (w : World) :
    Calls Try.prog 30 #[.int .u64 n] w fun e w' => e = .returned (W n) ∧ Below w.heap.size w w' := by
  have h0 : (n : Int) = lb n 0 := by unfold lb; rw [Nat.pow_zero, Nat.div_one, Nat.mod_eq_of_lt h]
  have h1 : lb n 1 = 0 := by unfold lb; rw [Nat.div_eq_of_lt (by rw [Nat.pow_one]; exact h)]; rfl
  have h2 : lb n 2 = 0 := by unfold lb; rw [Nat.div_eq_of_lt (by unfold B64 at *; omega)]; rfl
  have h3 : lb n 3 = 0 := by unfold lb; rw [Nat.div_eq_of_lt (by unfold B64 at *; omega)]; rfl
  have e : W n = .agg #[.int .u64 n, .int .u64 0, .int .u64 0, .int .u64 0] := by unfold W; rw [h1, h2, h3, ← h0]
  clear h0 h1 h2 h3
  rw [e]; clear e
  go_enter Try.func30, Try.ntmps30
  go_wp2
  exact bodyPost_ret (v := .agg #[.int .u64 n, .int .u64 0, .int .u64 0, .int .u64 0]) (by simp [results, Try.results30, go_sem]) rfl ⟨rfl, (Below.refl _ _).alloc (Nat.le_refl _) _⟩

theorem xor_max (x : Nat) (h : x < 18446744073709551616) : 18446744073709551615 ^^^ x = 18446744073709551615 - x := by
  have h1 := BitVec.toNat_not (x := BitVec.ofNat 64 x)
  rw [BitVec.not_def, BitVec.toNat_xor, BitVec.toNat_allOnes, BitVec.toNat_ofNat, Nat.mod_eq_of_lt h] at h1
  simpa using h1
theorem not_lb (b i : Nat) : bits .xor .u64 IntKind.u64.max (lb b i) = 18446744073709551615 - lb b i := by
  have h1 : b / B64 ^ i % B64 < 18446744073709551616 := Nat.mod_lt _ B64_pos
  have h := u64_xor_nat 18446744073709551615 (b / B64 ^ i % B64) (by omega) h1
  rw [xor_max _ h1] at h
  have e : IntKind.u64.max = ((18446744073709551615 : Nat) : Int) := by decide
  rw [e]; unfold lb; rw [h]; omega

theorem below_setCells' {B b : Nat} {a : World} (hb : B ≤ b) : ∀ (vs : List Value) (o : Nat) (w : World), Below B a w → Below B a (w.setCells b o vs)
  | [], _, _, h => h
  | v :: vs, o, _, h => below_setCells' hb vs (o + 1) _ (h.setCell (p := ⟨b, o, none⟩) hb v)
theorem byC_one (a k : Nat) : (byC a k).all (·.oneCell') = true := by
  rw [Array.all_eq_true_iff_forall_mem]
  intro v hv
  unfold byC at hv
  simp only [List.mem_toArray, List.mem_map] at hv
  obtain ⟨p, _, rfl⟩ := hv
  rfl
theorem Blk.rangeAt {X : World} {g : Nat} {t : TypeId} {cs : Array Value} (h : Blk X g t cs) : X.rangeAt g 0 cs.toList := fun j v hv => by
  rw [Nat.zero_add]
  exact (cell_of_row X g j _ _ _ h).trans (by simpa using hv)
theorem Blk.there {X : World} {g : Nat} {t : TypeId} {cs : Array Value} (h : Blk X g t cs) (n : Nat) (hn : n ≤ cs.size) : X.there g 0 n := fun j hj => by
  rw [Nat.zero_add]
  refine ⟨?_, frozen_of_row X g j _ _ h⟩
  rw [cell_of_row X g j _ _ _ h, Array.getElem?_eq_getElem (by omega)]
  rfl

set_option maxRecDepth 100000 in
set_option maxHeartbeats 1000000 in
theorem rbytes_any (a : Nat) (w : World) :
    Calls Try.prog 42 #[W a] w fun e w' => e = .returned (.agg (byC a 32)) ∧ Below w.heap.size w w' := by
  go_enter Try.func42, Try.ntmps42
  go_wp2
  go_loopw [4] (fun i wr => ∃ k : Nat, k ≤ 32 ∧ i = .int .i64 k ∧ Blk wr (w.heap.size + 1 + 1) 69 (byC a k) ∧ Blk wr w.heap.size 26 (Wc a) ∧ Blk wr (w.heap.size + 1) 69 (byC a 0) ∧ Below w.heap.size w wr) (fun i _ => 32 - (intOf i).toNat)
  case atStart => exact ⟨0, Nat.zero_le _, rfl, by rw [← byC_zero a]; have h := Blk.new ((w.alloc (.cells (Wc a) 26)).alloc (.cells (byC a 0) 69)) 69 (byC a 0); rw [World.size_alloc, World.size_alloc] at h; exact h, ((Blk.new w _ _).alloc _).alloc _, by rw [← byC_zero a]; have h := (Blk.new (w.alloc (.cells (Wc a) 26)) 69 (byC a 0)).alloc (.cells (byC a 0) 69); rw [World.size_alloc] at h; exact h, balloc (balloc (balloc (Below.refl _ _) _) _) _⟩
  case round =>
    obtain ⟨k, hk, rfl, hs, hr, hz, hB⟩ := hrel
    by_cases hlt : k < 32
    · have hc : wr.cell? ⟨w.heap.size, k / 8, none⟩ = some (.int .u64 (lb a (k / 8))) := (cell_of_row wr _ _ _ _ _ hr).trans (by
        have : k / 8 = 0 ∨ k / 8 = 1 ∨ k / 8 = 2 ∨ k / 8 = 3 := by omega
        rcases this with h | h | h | h <;> rw [h] <;> rfl)
      have hd : wr.cell? ⟨w.heap.size + 1 + 1, 31 - k, none⟩ = some (.int .u8 (if 31 - (31 - k) < k then ((byA a (31 - (31 - k)) : Nat) : Int) else 0)) := (cell_of_row wr _ _ _ _ _ hs).trans (byC_get a k _ (by omega))
      have hf := frozen_of_row wr _ (31 - k) _ _ hs
      have HS := Lib.hid hs
      have HR := Lib.hid hr
      have HZ := Lib.hid hz
      clear hs hr hz
      go_wp2
      rw [show 8 * (k % 8) = k % 8 * 8 by omega, by_lb]
      refine ⟨⟨k + 1, by omega, by go_num, ?_, HR.out.kept (grown_set' (grown_refl wr (w.heap.size + 1 + 1)) (31 - k) _) (by simp <;> omega), HZ.out.kept (grown_set' (grown_refl wr (w.heap.size + 1 + 1)) (31 - k) _) (by simp <;> omega), hB.setCell (p := ⟨w.heap.size + 1 + 1, 31 - k, none⟩) (by simp; omega) _⟩, by simp [intOf]; omega⟩
      have h := heap_setCell_same wr (w.heap.size + 1 + 1) (31 - k) _ _ (.int .u8 (byA a k : Nat)) HS.out
      rw [byC_set a k hlt] at h
      exact h
    · obtain rfl : k = 32 := by omega
      have HS := Lib.hid hs
      have HZ := Lib.hid hz
      clear hs hr hz
      have hi : (Try.prog.info? 69).map (·.size) = some (byC a 32).size := by rw [byC_size]; kernel_rfl
      have hu : Try.prog.underlying 69 = some (.array 32 5) := by kernel_rfl
      have HI := Lib.hid hi
      have HU := Lib.hid hu
      clear hi hu
      go_upto_region 6 with (fail)
      refine wp_region_lit (wpList_load_mid rfl 69 (.tmp 3) rfl (w.heap.size + 1 + 1) 0 rfl (byC a 32).toList _ HS.out.rangeAt HU.out rfl HI.out ?_)
      have ht : wr.there (w.heap.size + 1) 0 (byC a 32).size := HZ.out.there _ (by rw [byC_size, byC_size]; exact Nat.le_refl _)
      refine wpList_store_mid rfl 69 (.tmp 2) (.tmp 22) rfl (w.heap.size + 1) 0 (byC a 32) rfl rfl ht HI.out (byC_one a 32) (wpList_nil ?_)
      have hr : (loadVar 69 ⟨w.heap.size + 1, 0, none⟩).run Try.prog (wr.setCells (w.heap.size + 1) 0 (byC a 32).toList) = .ok (.agg (byC a 32)) (wr.setCells (w.heap.size + 1) 0 (byC a 32).toList) :=
        run_loadVar_mid _ _ _ _ (byC a 32).toList _ (World.rangeAt_setCells_same _ _ _ _ ht) HU.out rfl HI.out
      have hB' := below_setCells' (B := w.heap.size) (b := w.heap.size + 1) (by omega) (byC a 32).toList 0 wr hB
      clear ht
      generalize wr.setCells (w.heap.size + 1) 0 (byC a 32).toList = wz at *
      go_wp2
      exact bodyPost_ret (v := .agg (byC a 32)) (by simp [results, Try.results42, Act.put, asAddr, hr]) rfl ⟨rfl, hB'⟩
end Go.Proofs.Ytkhdjlahfbmkoaa
