/- The reference of layer word: From, by a contract. -/
import Derived.Test.YtcdmaapjcckbmaaDoorWs
import Derived.Deep.RegionLaw
import Derived.IntWalk
namespace Go.Proofs.YtcdmaapjcckbmaaDoor
open Go.RowKit
attribute [local go_sem] ix0 ix1 ix2 ix3
theorem p256_split (k : Nat) : 256 ^ k = B64 ^ (k / 8) * 256 ^ (k % 8) := by
  rw [B64_256, ← Nat.pow_mul, ← Nat.pow_add, Nat.div_add_mod]
theorem low_lt (a k : Nat) : a % 256 ^ k / B64 ^ (k / 8) < 256 ^ (k % 8) := by
  apply Nat.div_lt_of_lt_mul
  rw [← p256_split]
  exact Nat.mod_lt _ (p256_pos k)
theorem p256_le (k : Nat) : 256 ^ (k % 8) * 256 ≤ B64 := by
  rw [← Nat.pow_succ, B64_256]
  exact Nat.pow_le_pow_right (by omega) (by have := Nat.mod_lt k (show 0 < 8 by omega); omega)
theorem low_succ (a k : Nat) : a % 256 ^ (k + 1) / B64 ^ (k / 8) = a % 256 ^ k / B64 ^ (k / 8) + 256 ^ (k % 8) * byA a k := by
  rw [mod_succ256]
  conv => lhs; rw [show 256 ^ k * (a / 256 ^ k % 256) = B64 ^ (k / 8) * (256 ^ (k % 8) * (a / 256 ^ k % 256)) by rw [← Nat.mul_assoc, ← p256_split]]
  rw [Nat.add_mul_div_left _ _ (pow_pos' _)]; rfl
/-- The limb that byte k goes into. -/
theorem lb_low (a k : Nat) : lb (a % 256 ^ k) (k / 8) = ((a % 256 ^ k / B64 ^ (k / 8) : Nat) : Int) := by
  unfold lb
  rw [Nat.mod_eq_of_lt]
  have h1 := low_lt a k
  have h2 := p256_le k
  have h3 := p256_pos (k % 8)
  omega
theorem lb_low_succ (a k : Nat) : lb (a % 256 ^ (k + 1)) (k / 8) = ((a % 256 ^ k / B64 ^ (k / 8) + 256 ^ (k % 8) * byA a k : Nat) : Int) := by
  unfold lb
  rw [low_succ, Nat.mod_eq_of_lt]
  have h1 := low_lt a k
  have h2 := p256_le k
  have h4 := byA_lt a k
  have h5 : 256 ^ (k % 8) * byA a k ≤ 256 ^ (k % 8) * 255 := Nat.mul_le_mul_left _ (by omega)
  omega
/-- The other limbs stay. -/
theorem lb_other (a k j : Nat) (h : j ≠ k / 8) : lb (a % 256 ^ (k + 1)) j = lb (a % 256 ^ k) j := by
  unfold lb
  congr 1
  rcases Nat.lt_or_gt_of_ne h with h | h
  · -- below: whole already
    rw [mod_succ256]
    generalize a / 256 ^ k % 256 = d
    have e : 256 ^ k * d = B64 ^ j * (B64 * (B64 ^ (k / 8 - j - 1) * 256 ^ (k % 8) * d)) := by
      have e1 : B64 ^ (k / 8) = B64 ^ j * B64 * B64 ^ (k / 8 - j - 1) := by
        rw [← Nat.pow_succ, ← Nat.pow_add]; congr 1; omega
      rw [p256_split k, e1]
      have e2 : ∀ x y z u v : Nat, x * y * z * u * v = x * (y * (z * u * v)) := fun x y z u v => by simp only [Nat.mul_assoc]
      exact e2 _ _ _ _ _
    rw [e, Nat.add_mul_div_left _ _ (pow_pos' j), Nat.add_mul_mod_self_left]
  · -- above: nought
    have h1 : a % 256 ^ (k + 1) < B64 ^ j := by
      refine Nat.lt_of_lt_of_le (Nat.mod_lt _ (p256_pos _)) ?_
      rw [B64_256, ← Nat.pow_mul]
      exact Nat.pow_le_pow_right (by omega) (by omega)
    have h2 : a % 256 ^ k < B64 ^ j := by
      refine Nat.lt_of_lt_of_le (Nat.mod_lt _ (p256_pos _)) ?_
      rw [B64_256, ← Nat.pow_mul]
      exact Nat.pow_le_pow_right (by omega) (by omega)
    rw [Nat.div_eq_of_lt h1, Nat.div_eq_of_lt h2]

theorem p256_two (r : Nat) : 256 ^ r = 2 ^ (8 * r) := by rw [Nat.pow_mul]
theorem or_low (a k : Nat) : bits .or .u64 (lb (a % 256 ^ k) (k / 8)) (IntKind.u64.wrap (IntKind.u64.wrap ((byA a k : Nat) : Int) * 2 ^ (8 * (k % 8)))) = lb (a % 256 ^ (k + 1)) (k / 8) := by
  have h1 := low_lt a k
  have h2 := p256_le k
  have h3 := p256_pos (k % 8)
  have h4 := byA_lt a k
  have h5 : 256 ^ (k % 8) * byA a k ≤ 256 ^ (k % 8) * 255 := Nat.mul_le_mul_left _ (by omega)
  have hB : B64 = 18446744073709551616 := rfl
  have e0 : IntKind.u64.wrap ((byA a k : Nat) : Int) = ((byA a k : Nat) : Int) := IntWalk.u64_in _ (by omega)
  rw [e0]
  have e : ((byA a k : Nat) : Int) * 2 ^ (8 * (k % 8)) = ((256 ^ (k % 8) * byA a k : Nat) : Int) := by
    rw [p256_two, Nat.mul_comm (2 ^ (8 * (k % 8)))]; simp
  rw [e, IntWalk.u64_in _ (by omega), lb_low, lb_low_succ, u64_or_nat _ _ (by omega) (by omega), Nat.or_comm]
  rw [p256_two (k % 8)] at h1 ⊢
  rw [← Nat.two_pow_add_eq_or_of_lt h1, Nat.add_comm]
theorem wc_set (a k : Nat) (hk : k < 32) : (Wc (a % 256 ^ k)).setIfInBounds (k / 8) (.int .u64 (lb (a % 256 ^ (k + 1)) (k / 8))) = Wc (a % 256 ^ (k + 1)) := by
  have o := lb_other a k
  have h4 : k / 8 = 0 ∨ k / 8 = 1 ∨ k / 8 = 2 ∨ k / 8 = 3 := by omega
  unfold Wc
  rcases h4 with h | h | h | h <;> rw [h] at o ⊢
  · rw [o 1 (by omega), o 2 (by omega), o 3 (by omega)]; rfl
  · rw [o 0 (by omega), o 2 (by omega), o 3 (by omega)]; rfl
  · rw [o 0 (by omega), o 1 (by omega), o 3 (by omega)]; rfl
  · rw [o 0 (by omega), o 1 (by omega), o 2 (by omega)]; rfl
theorem MM_256 : MM = 256 ^ 32 := by unfold MM; rw [B64_256, ← Nat.pow_mul]
theorem wc_get (a k : Nat) (hk : k < 4) : (Wc a)[k]? = some (.int .u64 (lb a k)) := by
  match k, hk with
  | 0, _ | 1, _ | 2, _ | 3, _ => rfl

set_option maxRecDepth 100000 in
set_option maxHeartbeats 1000000 in
theorem rfrom_any (a : Nat) (w : World) :
    Calls Tryd.prog 68 #[.agg (byC a 32)] w fun e w' => e = .returned (W a) ∧ Below w.heap.size w w' := by
  go_enter Tryd.func68, Tryd.ntmps68
  go_wp2_with fail
  go_loopw [4] (fun i wr => ∃ k : Nat, k ≤ 32 ∧ i = .int .i64 k ∧ Blk wr (w.heap.size + 1 + 1) 40 (Wc (a % 256 ^ k)) ∧ Blk wr w.heap.size 97 (byC a 32) ∧ Blk wr (w.heap.size + 1) 40 #[.int .u64 0, .int .u64 0, .int .u64 0, .int .u64 0] ∧ Below w.heap.size w wr) (fun i _ => 32 - (intOf i).toNat)
  case atStart =>
    refine ⟨0, Nat.zero_le _, rfl, ?_, ?_, ?_, ?_⟩
    · have h := Blk.new ((w.alloc (.cells (byC a 32) 97)).alloc (.cells #[.int .u64 0, .int .u64 0, .int .u64 0, .int .u64 0] 40)) 40 (Wc (a % 256 ^ 0))
      rw [Nat.pow_zero, Nat.mod_one] at h ⊢
      unfold Wc at h ⊢
      simp only [lb_zero] at h ⊢
      rw [World.size_alloc, World.size_alloc] at h
      exact h
    · exact ((Blk.new w _ _).alloc _).alloc _
    · have h := (Blk.new (w.alloc (.cells (byC a 32) 97)) 40 #[.int .u64 0, .int .u64 0, .int .u64 0, .int .u64 0]).alloc (.cells #[.int .u64 0, .int .u64 0, .int .u64 0, .int .u64 0] 40)
      rw [World.size_alloc] at h
      exact h
    · exact balloc (balloc (balloc (Below.refl _ _) _) _) _
  case round =>
    obtain ⟨k, hk, rfl, hs, hr, hz, hB⟩ := hrel
    by_cases hlt : k < 32
    · have hc := (cell_of_row wr _ _ _ _ _ hs).trans (wc_get (a % 256 ^ k) (k / 8) (by omega))
      have hd : wr.cell? ⟨w.heap.size, 31 - k, none⟩ = some (.int .u8 (if 31 - (31 - k) < 32 then ((byA a (31 - (31 - k)) : Nat) : Int) else 0)) := (cell_of_row wr _ _ _ _ _ hr).trans (byC_get a 32 _ (by omega))
      rw [show 31 - (31 - k) = k by omega, if_pos hlt] at hd
      have hf := frozen_of_row wr _ (k / 8) _ _ hs
      have HS := Lib.hid hs
      have HR := Lib.hid hr
      have HZ := Lib.hid hz
      clear hs hr hz
      have g1 : IntKind.i64.wrap ((k : Int) / 8) = (k : Int) / 8 := IntWalk.i64_in _ (by omega)
      have g2 : (0 : Int) ≤ (k : Int) / 8 := by omega
      have g3 : (k : Int) / 8 < 4 := by omega
      have g4 : ((k : Int) / 8).toNat = k / 8 := by omega
      have g5 : IntKind.i64.wrap (31 - (k : Int)) = 31 - (k : Int) := IntWalk.i64_in _ (by omega)
      have g6 : (0 : Int) ≤ 31 - (k : Int) := by omega
      have g7 : 31 - (k : Int) < 32 := by omega
      have g8 : (31 - (k : Int)).toNat = 31 - k := by omega
      have g9 : (k : Int).tmod 8 = (k : Int) % 8 := Int.tmod_eq_emod_of_nonneg (by omega)
      have g10 : IntKind.i64.wrap (8 * ((k : Int) % 8)) = 8 * ((k : Int) % 8) := IntWalk.i64_in _ (by omega)
      have g11 : IntKind.u64.wrap (8 * ((k : Int) % 8)) = 8 * ((k : Int) % 8) := IntWalk.u64_in _ (by omega)
      have g12 : (k : Int) ≤ 31 := by omega
      have g13 : (0 : Int) ≤ (k : Int) % 8 := by omega
      have g14 : (0 : Int) ≤ 8 * ((k : Int) % 8) := by omega
      have g15 : (8 * ((k : Int) % 8)).toNat = 8 * (k % 8) := by omega
      go_wp2_with fail
      go_region_law (fail)
      all_goals go_wp2
      all_goals rw [or_low]
      all_goals
        have G := grown_set' (grown_refl wr (w.heap.size + 1 + 1)) (k / 8) (.int .u64 (lb (a % 256 ^ (k + 1)) (k / 8)))
        have h := heap_setCell_same wr (w.heap.size + 1 + 1) (k / 8) _ _ (.int .u64 (lb (a % 256 ^ (k + 1)) (k / 8))) HS.out
        rw [wc_set a k hlt] at h
        have hR2 := HR.out.kept G (by simp <;> omega)
        have hZ2 := HZ.out.kept G (by simp <;> omega)
        exact ⟨⟨k + 1, by omega, by go_num, h, hR2, hZ2, (hB.setCell (p := ⟨w.heap.size + 1 + 1, k / 8, none⟩) (by simp; omega) _).drew⟩, by simp [intOf]; omega⟩
    · obtain rfl : k = 32 := by omega
      rw [← MM_256] at hs
      have e : Wc (a % MM) = Wc a := by unfold Wc; rw [lb_mod a 0 (by omega), lb_mod a 1 (by omega), lb_mod a 2 (by omega), lb_mod a 3 (by omega)]
      rw [e] at hs
      have c0 := (cell_of_row wr _ 0 _ _ _ hs).trans (wc_get a 0 (by omega))
      have c1 := (cell_of_row wr _ 1 _ _ _ hs).trans (wc_get a 1 (by omega))
      have c2 := (cell_of_row wr _ 2 _ _ _ hs).trans (wc_get a 2 (by omega))
      have c3 := (cell_of_row wr _ 3 _ _ _ hs).trans (wc_get a 3 (by omega))
      have r0 := cell_of_row wr _ 0 _ _ _ hz
      have r1 := cell_of_row wr _ 1 _ _ _ hz
      have r2 := cell_of_row wr _ 2 _ _ _ hz
      have r3 := cell_of_row wr _ 3 _ _ _ hz
      have f0 := frozen_of_row wr _ 0 _ _ hz
      have f1 := frozen_of_row wr _ 1 _ _ hz
      have f2 := frozen_of_row wr _ 2 _ _ hz
      have f3 := frozen_of_row wr _ 3 _ _ hz
      clear hs hr hz e
      go_wp2
      exact bodyPost_ret (v := W a) (by simp [results, Tryd.results68, go_sem, r0, r1, r2, r3]) rfl ⟨rfl, (((hB.setCell (p := ⟨w.heap.size + 1, 0, none⟩) (by simp) _).setCell (p := ⟨w.heap.size + 1, 1, none⟩) (by simp) _).setCell (p := ⟨w.heap.size + 1, 2, none⟩) (by simp) _).setCell (p := ⟨w.heap.size + 1, 3, none⟩) (by simp) _⟩
end Go.Proofs.YtcdmaapjcckbmaaDoor
