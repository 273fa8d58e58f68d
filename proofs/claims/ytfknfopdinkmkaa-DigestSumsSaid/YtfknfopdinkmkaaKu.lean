/- digest: the reference's turned, Constant. -/
import Derived.Test.YtfknfopdinkmkaaKi
namespace Go.Proofs.Ytfknfopdinkmkaa
open Go.RowKit
attribute [local irreducible] ln rot
set_option maxHeartbeats 1000000 in
theorem rturned_any (x : Ln) (n : Nat) (hn : n < 4611686018427387904) (w : World) :
    Calls Try.prog 34 #[.int .u64 (ln x), .int .i64 n] w fun e w' => e = .returned (uv (rot x (n % 64))) ∧ w = w' := by
  have hm : n % 64 < 64 := Nat.mod_lt _ (by omega)
  have h := rot_nat x (n % 64) hm
  obtain ⟨m, hmm⟩ : ∃ m, n % 64 = m := ⟨_, rfl⟩
  rw [hmm] at hm h ⊢
  have e1 : (n : Int) % 64 = (m : Int) := by omega
  have e3 : IntKind.u64.wrap (m : Int) = (m : Int) := IntWalk.u64_in _ (by omega)
  have e4 : IntKind.i64.wrap (64 - (m : Int)) = 64 - (m : Int) := IntWalk.i64_in _ (by omega)
  have e5 : IntKind.u64.wrap (64 - (m : Int)) = 64 - (m : Int) := IntWalk.u64_in _ (by omega)
  have e2 : (64 - (m : Int)).toNat = 64 - m := by omega
  have e6 : 0 ≤ 64 - (m : Int) := by omega
  have e7 : 64 - (m : Int) ≤ 64 := by omega
  have hm2 : (m : Int) < 64 := by omega
  clear hmm
  go_enter Try.func34, Try.ntmps34
  go_wp2
  go_ret
  exact ⟨rfl, rfl⟩

theorem i64_xor369 (x : Nat) (hx : x < 256) : bits .xor .i64 (2 * (x : Int)) 369 = (((2 * x) ^^^ 369 : Nat) : Int) := by
  have h : ∀ x : Fin 256, bits .xor .i64 (2 * (x.val : Int)) 369 = (((2 * x.val) ^^^ 369 : Nat) : Int) := by decide +kernel
  exact h ⟨x, hx⟩
set_option maxRecDepth 100000 in
set_option maxHeartbeats 4000000 in
theorem rconst_any (r : Nat) (hr : r < 24) (w : World) :
    Calls Try.prog 35 #[.int .i64 r] w fun e w' => e = .returned (uv (rcv r)) ∧ w = w' := by
  have k1 : IntKind.i64.wrap (7 * (r : Int)) = 7 * (r : Int) := IntWalk.i64_in _ (by omega)
  go_enter Try.func35, Try.ntmps35
  go_wp2_with fail
  go_loopw [3, 4, 5] (fun o x i wr => ∃ q y : Nat, q ≤ 7 * r + 7 ∧ i = .int .i64 (q : Int) ∧ x = .int .i64 (y : Int) ∧ lfs q = y ∧ o = .int .u64 ((rcP r (q - 7 * r) : Nat) : Int) ∧ wr = w) (fun _ _ i _ => 7 * r + 7 - (intOf i).toNat)
  case atStart => exact ⟨0, 1, by omega, rfl, rfl, rfl, by rw [show 0 - 7 * r = 0 by omega]; rfl, rfl⟩
  case round =>
    obtain ⟨q, x, hq, rfl, rfl, hx, rfl, rfl⟩ := hrel
    by_cases hlt : q < 7 * r + 7
    · have hx2 : x < 256 := by rw [← hx]; exact lfs_lt _
      have hn := lfs_next q
      rw [hx] at hn
      have g1 : (q : Int) < 7 * (r : Int) + 7 := by omega
      have hx3 : (x : Int) ≤ 255 := by omega
      have hxI : bits .xor .i64 (2 * (x : Int)) 369 = (((2 * x) ^^^ 369 : Nat) : Int) := i64_xor369 x hx2
      have HN := Lib.hid hn
      have hx4 : 0 ≤ 2 * (x : Int) := by omega
      obtain ⟨o, ho⟩ : ∃ o, rcP r (q - 7 * r) = o := ⟨_, rfl⟩
      rw [ho]
      have hend : ∀ o' y : Nat, rcP r (q + 1 - 7 * r) = o' → lfs (q + 1) = y → (∃ q' y' : Nat, q' ≤ 7 * r + 7 ∧ Value.int .i64 ((q : Int) + 1) = .int .i64 (q' : Int) ∧ Value.int .i64 (y : Int) = .int .i64 (y' : Int) ∧ lfs q' = y' ∧ Value.int .u64 (o' : Int) = .int .u64 ((rcP r (q' - 7 * r) : Nat) : Int) ∧ True) ∧ 7 * r + 7 - (intOf (Value.int .i64 ((q : Int) + 1))).toNat < 7 * r + 7 - (intOf (Value.int .i64 (q : Int))).toNat := fun o' y h1 h2 => ⟨⟨q + 1, y, by omega, by go_num, rfl, h2, by rw [h1], trivial⟩, by simp [intOf]; omega⟩
      have HEND := Lib.hid hend
      have hlx := hx
      clear hn hx hend
      by_cases hA : q < 7 * r
      · have hA1 : ¬ 7 * (r : Int) ≤ (q : Int) := by omega
        have ho2 : rcP r (q + 1 - 7 * r) = o := by rw [← ho, show q + 1 - 7 * r = 0 by omega, show q - 7 * r = 0 by omega]
        have HO := Lib.hid ho2
        clear ho ho2 hlx
        by_cases c : 255 < 2 * x
        · have c1 : (256 : Int) ≤ 2 * (x : Int) := by omega
          go_wp2_with fail
          exact HEND.out _ _ HO.out (HN.out.trans (if_pos c))
        · have c1 : ¬ (256 : Int) ≤ 2 * (x : Int) := by omega
          go_wp2_with fail
          have h := HEND.out _ _ HO.out (HN.out.trans (if_neg c))
          rw [show ((2 * x : Nat) : Int) = 2 * (x : Int) by omega] at h
          exact h
      · have hA1 : 7 * (r : Int) ≤ (q : Int) := by omega
        obtain ⟨j, hj⟩ : ∃ j, q - 7 * r = j := ⟨_, rfl⟩
        have hj7 : j < 7 := by omega
        have hrc : rcP r (q + 1 - 7 * r) = rcP r j ||| ((x % 2) * 2 ^ (2 ^ j - 1)) := by
          rw [show q + 1 - 7 * r = j + 1 by omega]
          show rcP r j ||| ((lfs (7 * r + j) % 2) * 2 ^ (2 ^ j - 1)) = _
          rw [show 7 * r + j = q by omega, hlx]
        rw [hj] at ho
        rw [ho] at hrc
        have hol : o < 18446744073709551616 := by rw [← ho]; exact rcP_lt r j (by omega)
        have hjI : IntKind.i64.wrap ((q : Int) - 7 * (r : Int)) = (j : Int) := by rw [show (q : Int) - 7 * (r : Int) = (j : Int) by omega]; exact IntWalk.i64_in _ (by omega)
        have hjU : IntKind.u64.wrap (j : Int) = (j : Int) := IntWalk.u64_in _ (by omega)
        have hj2 : (j : Int) < 64 := by omega
        obtain ⟨s, hs⟩ : ∃ s, 2 ^ j = s := ⟨_, rfl⟩
        have hs1 : 1 ≤ s := by rw [← hs]; exact Nat.one_le_two_pow
        have hs2 : s ≤ 64 := by rw [← hs]; exact (show (2 : Nat) ^ j ≤ 2 ^ 6 from Nat.pow_le_pow_right (by omega) (by omega))
        obtain ⟨m, hm⟩ : ∃ m, s - 1 = m := ⟨_, rfl⟩
        have e2 : IntKind.u64.wrap (2 ^ j) = (s : Int) := by
          rw [show (2 : Int) ^ j = (s : Int) by rw [← hs]; simp]; exact IntWalk.u64_in _ (by omega)
        have e3 : IntKind.u64.wrap ((s : Int) - 1) = (m : Int) := by
          rw [show (s : Int) - 1 = (m : Int) by omega]; exact IntWalk.u64_in _ (by omega)
        rw [hs, hm] at hrc
        have hm2 : (m : Int) < 64 := by omega
        obtain ⟨pw, hpw⟩ : ∃ pw, 2 ^ m = pw := ⟨_, rfl⟩
        have hpwb : pw < 18446744073709551616 := by
          rw [← hpw]; have h1 : (2 : Nat) ^ m ≤ 2 ^ 63 := Nat.pow_le_pow_right (by omega) (by omega); omega
        have e4 : IntKind.u64.wrap (2 ^ m) = (pw : Int) := by
          rw [show (2 : Int) ^ m = (pw : Int) by rw [← hpw]; simp]; exact IntWalk.u64_in _ (by omega)
        rw [hpw] at hrc
        have e5 := bits_or_u64_nat o pw hol hpwb
        clear hs hm hpw ho hj hlx
        by_cases hb : x % 2 = 1
        · have hb1 : ((x : Int) % 2 == 1) = true := beq_iff_eq.2 (by omega)
          rw [hb, Nat.one_mul] at hrc
          have HO := Lib.hid hrc
          clear hrc hb
          by_cases c : 255 < 2 * x
          · have c1 : (256 : Int) ≤ 2 * (x : Int) := by omega
            go_wp2_with fail
            exact HEND.out _ _ HO.out (HN.out.trans (if_pos c))
          · have c1 : ¬ (256 : Int) ≤ 2 * (x : Int) := by omega
            go_wp2_with fail
            have h := HEND.out _ _ HO.out (HN.out.trans (if_neg c))
            rw [show ((2 * x : Nat) : Int) = 2 * (x : Int) by omega] at h
            exact h
        · have hb1 : ((x : Int) % 2 == 1) = false := beq_eq_false_iff_ne.2 (by omega)
          rw [show x % 2 = 0 by omega, Nat.zero_mul, Nat.or_zero] at hrc
          have HO := Lib.hid hrc
          clear hrc hb
          by_cases c : 255 < 2 * x
          · have c1 : (256 : Int) ≤ 2 * (x : Int) := by omega
            go_wp2_with fail
            exact HEND.out _ _ HO.out (HN.out.trans (if_pos c))
          · have c1 : ¬ (256 : Int) ≤ 2 * (x : Int) := by omega
            go_wp2_with fail
            have h := HEND.out _ _ HO.out (HN.out.trans (if_neg c))
            rw [show ((2 * x : Nat) : Int) = 2 * (x : Int) by omega] at h
            exact h
    · obtain rfl : q = 7 * r + 7 := by omega
      clear hx
      rw [show 7 * r + 7 - 7 * r = 7 by omega]
      have g1 : ¬ ((7 * r + 7 : Nat) : Int) < 7 * (r : Int) + 7 := by omega
      go_wp2_with fail
      go_ret
      have e : ln (rcv r) = ((rcP r 7 : Nat) : Int) := ln_of _ (rcP_lt r 7 (by omega))
      exact ⟨by rw [uv, e]; rfl, rfl⟩
end Go.Proofs.Ytfknfopdinkmkaa
