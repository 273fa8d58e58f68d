/- digest: Constants. -/
import Derived.Test.YtfknfopdinkmkaaKh
namespace Go.Proofs.Ytfknfopdinkmkaa
open Go.RowKit
attribute [local irreducible] ln rot
def cnF (r j : Nat) : Nat → Ln := fun i => if i < r then rcv i else if i = r then BitVec.ofNat 64 (rcP r j) else 0#64
theorem cnF_next (r : Nat) : cnF r 7 = cnF (r + 1) 0 := by
  funext i; unfold cnF
  by_cases h : i < r
  · rw [if_pos h, if_pos (by omega)]
  · rw [if_neg h]
    by_cases e : i = r
    · subst e; rw [if_pos rfl, if_pos (by omega)]; rfl
    · rw [if_neg e, if_neg (by omega)]
      split <;> rfl
theorem cnF_set (r j : Nat) : upd (cnF r j) r (BitVec.ofNat 64 (rcP r (j + 1))) = cnF r (j + 1) := by
  funext i; unfold upd cnF
  by_cases e : i = r
  · subst e; rw [if_pos rfl, if_neg (by omega), if_pos rfl]
  · rw [if_neg e]
    by_cases h : i < r
    · rw [if_pos h, if_pos h]
    · rw [if_neg h, if_neg h, if_neg e, if_neg e]
theorem cnF_all : Fc 24 (cnF 24 0) = Fc 24 rcv := Fc_congr fun p hp => by unfold cnF; rw [if_pos hp]
theorem cnF_zero : cnF 0 0 = fun _ => 0#64 := by
  funext i; unfold cnF
  rw [if_neg (by omega)]
  split <;> rfl
theorem z24 : Fc 24 (fun _ => 0#64) = #[.int .u64 0, .int .u64 0, .int .u64 0, .int .u64 0, .int .u64 0, .int .u64 0, .int .u64 0, .int .u64 0, .int .u64 0, .int .u64 0, .int .u64 0, .int .u64 0, .int .u64 0, .int .u64 0, .int .u64 0, .int .u64 0, .int .u64 0, .int .u64 0, .int .u64 0, .int .u64 0, .int .u64 0, .int .u64 0, .int .u64 0, .int .u64 0] := by kernel_rfl
theorem lfs_next (i : Nat) : lfs (i + 1) = if 255 < 2 * lfs i then (2 * lfs i) ^^^ 369 else 2 * lfs i := rfl

set_option maxRecDepth 100000 in
set_option maxHeartbeats 4000000 in
theorem Constants_any (w : World) : Calls Try.prog 13 #[] w fun e w' => e = .returned (.agg (Fc 24 rcv)) ∧ Below w.heap.size w w' := by
  go_enter Try.func13, Try.ntmps13
  go_wp2_with fail
  rw [← z24]
  go_loopw [2, 5] (fun x i wr => ∃ r : Nat, r ≤ 24 ∧ i = .int .i64 (r : Int) ∧ x = .int .u64 (lfs (7 * r) : Nat) ∧ Blk wr (w.heap.size + 1) 38 (Fc 24 (cnF r 0)) ∧ Blk wr w.heap.size 38 (Fc 24 (fun _ => 0#64)) ∧ Below w.heap.size w wr) (fun _ i _ => 24 - (intOf i).toNat)
  case atStart => exact ⟨0, by omega, rfl, rfl, by rw [cnF_zero]; exact Blk.newS w _ _ _, (Blk.new w _ _).alloc _, balloc (balloc (Below.refl _ _) _) _⟩
  case round =>
    obtain ⟨r, hr, rfl, rfl, hL, hZ, hW⟩ := hrel
    by_cases hr4 : r < 24
    · have HX := Lib.hid (And.intro hL (And.intro hZ hW))
      have hd : decide ((r : Int) < 24) = true := decide_eq_true (by omega)
      clear hL hZ hW
      go_wp2_with fail
      clear hd
      go_loopw [2, 8] (fun x i wr => ∃ j y : Nat, j ≤ 7 ∧ i = .int .i64 (j : Int) ∧ x = .int .u64 (y : Int) ∧ lfs (7 * r + j) = y ∧ Blk wr (w.heap.size + 1) 38 (Fc 24 (cnF r j)) ∧ Blk wr w.heap.size 38 (Fc 24 (fun _ => 0#64)) ∧ Below w.heap.size w wr) (fun _ i _ => 7 - (intOf i).toNat)
      case atStart => exact ⟨0, _, by omega, rfl, rfl, rfl, HX.out⟩
      case round =>
        clear HX
        obtain ⟨j, x, hj, rfl, rfl, hx, hL, hZ, hW⟩ := hrel
        by_cases hj7 : j < 7
        · have hx2 : x < 256 := by rw [← hx]; exact lfs_lt _
          have hn := lfs_next (7 * r + j)
          rw [hx] at hn
          obtain ⟨s, hs⟩ : ∃ s, 2 ^ j = s := ⟨_, rfl⟩
          have hs1 : 1 ≤ s := by rw [← hs]; exact Nat.one_le_two_pow
          have hs2 : s ≤ 64 := by rw [← hs]; exact (show (2 : Nat) ^ j ≤ 2 ^ 6 from Nat.pow_le_pow_right (by omega) (by omega))
          obtain ⟨m, hm⟩ : ∃ m, s - 1 = m := ⟨_, rfl⟩
          obtain ⟨b, hb⟩ : ∃ b, x % 2 = b := ⟨_, rfl⟩
          obtain ⟨p, hp⟩ : ∃ p, b * 2 ^ m = p := ⟨_, rfl⟩
          have hpb : p < 18446744073709551616 := by
            rw [← hp]
            have h1 : (2 : Nat) ^ m ≤ 2 ^ 63 := Nat.pow_le_pow_right (by omega) (by omega)
            have h2 : b * 2 ^ m ≤ 1 * 2 ^ m := Nat.mul_le_mul_right _ (by omega)
            omega
          have hrc : rcP r (j + 1) = rcP r j ||| p := by
            show rcP r j ||| ((lfs (7 * r + j) % 2) * 2 ^ (2 ^ j - 1)) = _
            rw [hx, hs, hm, hb, hp]
          have hlt := rcP_lt r j (by omega)
          have e1 : bits .and .u64 (x : Int) 1 = (b : Int) := by
            have h1 := bits_and_u64_nat x 1 (by omega) (by omega)
            rw [show (1 : Nat) = 2 ^ 1 - 1 by decide, Nat.and_two_pow_sub_one_eq_mod] at h1
            rw [← hb]; exact h1
          have e2 : IntKind.u64.wrap (2 ^ j) = (s : Int) := by
            rw [show (2 : Int) ^ j = (s : Int) by rw [← hs]; simp]; exact IntWalk.u64_in _ (by omega)
          have e3 : IntKind.u64.wrap ((s : Int) - 1) = (m : Int) := by
            rw [show (s : Int) - 1 = (m : Int) by omega]; exact IntWalk.u64_in _ (by omega)
          have e4 : IntKind.u64.wrap ((b : Int) * 2 ^ m) = (p : Int) := by
            rw [show (b : Int) * 2 ^ m = (p : Int) by rw [← hp]; simp]; exact IntWalk.u64_in _ (by omega)
          have e5 : bits .or .u64 (ln (BitVec.ofNat 64 (rcP r j))) (p : Int) = ln (BitVec.ofNat 64 (rcP r (j + 1))) := by
            rw [ln_of _ hlt, ln_of _ (rcP_lt r (j + 1) (by omega)), hrc]
            exact bits_or_u64_nat _ _ hlt hpb
          have hcr : cnF r j r = BitVec.ofNat 64 (rcP r j) := by unfold cnF; rw [if_neg (by omega), if_pos rfl]
          have hC := (cell_of_row _ _ r _ _ _ hL).trans (Fc_get 24 _ r hr4)
          rw [hcr] at hC
          have hF := frozen_of_row _ _ r _ _ hL
          have hm2 : (m : Int) < 64 := by omega
          have hr5 : (r : Int) < 24 := by omega
          have hj2 : (j : Int) < 64 := by omega
          have hx3 : (x : Int) ≤ 255 := by omega
          have HX := Lib.hid (And.intro hL (And.intro hZ hW))
          have HN := Lib.hid (And.intro hx hn)
          clear hL hZ hW hx hn hs hm hb hp hrc hcr hlt hpb
          go_wp2_with fail
          refine region_tail 11 (by kernel_rfl) (by kernel_rfl) (fun wd hwd => ?_)
          simp only [List.take_succ_cons, List.take_zero, List.drop_succ_cons, List.drop_zero]
          have HY : Hid (Blk wd (w.heap.size + 1) 38 (Fc 24 (cnF r j)) ∧ Blk wd w.heap.size 38 (Fc 24 (fun _ => 0#64)) ∧ Below w.heap.size w wd) := Lib.hid (by rw [hwd]; exact ⟨HX.out.1, HX.out.2.1, below_drew' HX.out.2.2⟩)
          have hC2 : wd.cell? ⟨w.heap.size + 1, r, none⟩ = some (uv (BitVec.ofNat 64 (rcP r j))) := by rw [hwd]; exact hC
          have hF2 : wd.frozen? ⟨w.heap.size + 1, r, none⟩ = false := by rw [hwd]; exact hF
          clear hwd HX hC hF
          repeat still_step
          refine wpStill_nil ?_
          have hS : Blk (wd.setCell ⟨w.heap.size + 1, r, none⟩ (uv (BitVec.ofNat 64 (rcP r (j + 1))))) (w.heap.size + 1) 38 (Fc 24 (cnF r (j + 1))) := by
            have h := heap_setCell_same wd (w.heap.size + 1) r _ _ (uv (BitVec.ofNat 64 (rcP r (j + 1)))) HY.out.1
            rw [Fc_set _ _ _ _ hr4, cnF_set] at h
            exact h
          have hG := grown_set' (grown_refl wd (w.heap.size + 1)) r (uv (BitVec.ofNat 64 (rcP r (j + 1))))
          have HZ := Lib.hid (And.intro hS (And.intro (HY.out.2.1.kept hG (fun e => by injection e; omega)) (step_world HY.out.2.2 hG (Nat.le_refl _) (by omega))))
          clear hS hG HY
          by_cases c : 255 < 2 * x
          · have k1 : (255 : Int) < (x : Int) * 2 := by omega
            have k2 : bits .xor .u64 ((x : Int) * 2) 369 = (((2 * x) ^^^ 369 : Nat) : Int) := by
              have h := bits_xor_u64_nat (2 * x) 369 (by omega) (by omega)
              rw [← h, show (((2 * x : Nat)) : Int) = (x : Int) * 2 by omega]; rfl
            go_wp2_with fail
            have hn := HN.out.2
            rw [if_pos c] at hn
            first
            | exact ⟨⟨j + 1, by omega, by go_num, 2 * x ^^^ 369, by simp, hn, HZ.out⟩, by simp [intOf]; omega⟩
            | exact ⟨⟨j + 1, 2 * x ^^^ 369, by omega, by go_num, by simp, hn, HZ.out⟩, by simp [intOf]; omega⟩
          · have k1 : ¬ (255 : Int) < (x : Int) * 2 := by omega
            go_wp2_with fail
            have hn := HN.out.2
            rw [if_neg c] at hn
            have e9 : Value.int IntKind.u64 ((x : Int) * 2) = Value.int IntKind.u64 ((2 * x : Nat) : Int) := by congr 1; omega
            first
            | exact ⟨⟨j + 1, by omega, by go_num, 2 * x, e9, hn, HZ.out⟩, by simp [intOf]; omega⟩
            | exact ⟨⟨j + 1, 2 * x, by omega, by go_num, e9, hn, HZ.out⟩, by simp [intOf]; omega⟩
        · obtain rfl : j = 7 := by omega
          rw [cnF_next] at hL
          have HX := Lib.hid (And.intro hL (And.intro hZ hW))
          have HN := Lib.hid hx
          clear hL hZ hW hx
          go_wp2_with fail
          exact ⟨⟨r + 1, by omega, by go_num, by rw [← HN.out]; rfl, HX.out⟩, by simp [intOf]; omega⟩
    · obtain rfl : r = 24 := by omega
      rw [cnF_all] at hL
      have ht : wr.there w.heap.size 0 (Fc 24 rcv).size := hZ.there _ (by rw [Fc_size, Fc_size]; exact Nat.le_refl _)
      have hi : (Try.prog.info? 38).map (·.size) = some (Fc 24 rcv).size := by rw [info24, Fc_size]
      have hr : (loadVar 38 ⟨w.heap.size, 0, none⟩).run Try.prog (wr.setCells w.heap.size 0 (Fc 24 rcv).toList) = .ok (.agg (Fc 24 rcv)) (wr.setCells w.heap.size 0 (Fc 24 rcv).toList) :=
        run_loadVar_mid _ _ _ _ (Fc 24 rcv).toList _ (World.rangeAt_setCells_same _ _ _ _ ht) und24 rfl hi
      have hB' := below_setCells' (B := w.heap.size) (b := w.heap.size) (by omega) (Fc 24 rcv).toList 0 wr hW
      have HL := Lib.hid hL
      have HI := Lib.hid hi
      have HRR := Lib.hid (And.intro hr hB')
      have HT := Lib.hid ht
      clear hL hZ hW hi hr hB' ht
      go_upto_region 15 with fail
      refine wp_region_lit (wpList_load_mid rfl 38 (.tmp 1) rfl (w.heap.size + 1) 0 rfl (Fc 24 rcv).toList _ HL.out.rangeAt und24 rfl HI.out ?_)
      refine wpList_store_mid rfl 38 (.tmp 0) (.tmp 30) rfl w.heap.size 0 (Fc 24 rcv) rfl rfl HT.out HI.out (Fc_one _ _) (wpList_nil ?_)
      obtain ⟨hr, hB'⟩ := HRR.out
      generalize wr.setCells w.heap.size 0 (Fc 24 rcv).toList = wz at *
      go_wp2_with fail
      exact bodyPost_ret (v := .agg (Fc 24 rcv)) (by simp [results, Try.results13, Act.put, asAddr, hr]) rfl ⟨rfl, hB'⟩
end Go.Proofs.Ytfknfopdinkmkaa
