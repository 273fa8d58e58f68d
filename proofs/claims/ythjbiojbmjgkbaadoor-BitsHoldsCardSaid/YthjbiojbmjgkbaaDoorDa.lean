/- The reference of layer bits: Byte, Extend. -/
import Derived.Test.YthjbiojbmjgkbaaDoorBy
namespace Go.Proofs.YthjbiojbmjgkbaaDoor
open Go.RowKit
attribute [local go_sem] ix0 ix1 ix2 ix3
theorem ng_bit (a : Nat) : ngN a = a.testBit 255 := by unfold ngN; exact bit_ref a 255
def extF (k a j : Nat) : Bool := a.testBit (min j (8 * k + 7))
theorem extF_eq (n a : Nat) (h : n < 31) : upto (extF n a) 256 = extN n a := by
  have hs : shlN (8 * (31 - n)) a < MM := shl_lt _ _
  refine upto_eq _ _ (by unfold extN; rw [if_pos h]; exact sar_lt _ _) (fun j hj => ?_)
  have hb : ∀ q, q < 256 → 8 * (31 - n) ≤ q → (shlN (8 * (31 - n)) a).testBit q = a.testBit (q - 8 * (31 - n)) := fun q hq h2 => by
    unfold shlN; rw [if_pos (by omega), bit_mod _ _ hq, Nat.testBit_mul_two_pow]; simp [h2]
  unfold extF extN
  rw [if_pos h]
  unfold sarN sgN
  rw [if_pos (by omega), bit_mod _ _ hj, Nat.testBit_div_two_pow, bit_tall _ _ hs _ (by omega), ng_bit, hb 255 (by omega) (by omega)]
  by_cases h2 : j + 8 * (31 - n) < 256
  · rw [if_pos h2, hb _ h2 (by omega)]
    congr 1; omega
  · rw [if_neg h2]
    congr 1; omega
attribute [local irreducible] lb upto byC byA extF
set_option maxRecDepth 100000 in
set_option maxHeartbeats 2000000 in
theorem rbyte_any (n a : Nat) (hn : n < MM) (w : World) :
    Calls Tryd.prog 25 #[W n, W a] w fun e w' => e = .returned (W (byteN n a)) ∧ Below w.heap.size w w' := by
  have A := (Blk.newS w (.cells (Wc n) 25) 25 (Wc a)).alloc (.cells Zc 25)
  have R : Blk (((w.alloc (.cells (Wc n) 25)).alloc (.cells (Wc a) 25)).alloc (.cells Zc 25)) (w.heap.size + 1 + 1) 25 Zc := by
    have h := Blk.newS (w.alloc (.cells (Wc n) 25)) (.cells (Wc a) 25) 25 Zc
    rwa [World.size_alloc] at h
  have HX := Lib.hid (And.intro A (And.intro R (balloc (balloc (balloc (Below.refl w.heap.size w) (.cells (Wc n) 25)) (.cells (Wc a) 25)) (.cells Zc 25))))
  have hby := by_any n hn
  clear A R
  by_cases h : n < 32
  · have E : Hid (byteN n a = byA a (31 - n)) := if_pos h
    rw [E.out]
    rw [show byN n = n from if_pos (by omega)] at hby
    have HBY := Lib.hid hby
    have hix := ixB a n h
    have hlt := byA_lt a (31 - n)
    have g0 : ¬ (32 : Int) ≤ n := by omega
    have g1 : IntKind.u64.wrap (((byA a (31 - n) : Nat)) : Int) = ((byA a (31 - n) : Nat) : Int) := IntWalk.u64_in _ (by omega)
    have HO := Lib.hid (rof_any (byA a (31 - n)) (by unfold B64; omega))
    clear hn E h hby
    go_enter Tryd.func25, Tryd.ntmps25
    go_wp2_with fail
    refine (HBY.out _).mono ?_
    rintro e w1 ⟨rfl, h1⟩
    obtain ⟨A, R, hB⟩ := HX.out
    obtain ⟨a0, a1, a2, a3, _, _, _, _⟩ := (A.keep h1).get4
    have HX1 := Lib.hid (And.intro (R.keep h1) (bstep hB h1))
    clear HX A R hB h1 HBY
    go_wp2_with fail
    refine (rbytes_any a _).mono ?_
    rintro e w2 ⟨rfl, h2⟩
    have HX2 := Lib.hid (And.intro (HX1.out.1.keep h2) (bstep HX1.out.2 h2))
    clear HX1 h2 a0 a1 a2 a3
    go_wp2_with fail
    refine (HO.out _).mono ?_
    rintro e w3 ⟨rfl, h3⟩
    have HW3 := Lib.hid (bstep HX2.out.2 h3)
    obtain ⟨c0, c1, c2, c3, f0, f1, f2, f3⟩ := (HX2.out.1.keep h3).get4
    clear HX2 h3 HO
    go_wp2
    exact bodyPost_ret (v := W (byA a (31 - n))) (by simp [results, Tryd.results25, go_sem, c0, c1, c2, c3]) rfl ⟨rfl, step_world HW3.out (grown_set4 w3 (w.heap.size + 1 + 1) _ _ _ _) (Nat.le_refl _) (by omega)⟩
  · have E : Hid (byteN n a = 0) := if_neg h
    rw [E.out, W_zero]
    obtain ⟨k, hk⟩ : ∃ k, byN n = k := ⟨_, rfl⟩
    have g0 : (32 : Int) ≤ k := by rw [← hk]; unfold byN; split <;> omega
    rw [hk] at hby
    have HBY := Lib.hid hby
    clear hn E h hby hk
    go_enter Tryd.func25, Tryd.ntmps25
    go_wp2_with fail
    refine (HBY.out _).mono ?_
    rintro e w1 ⟨rfl, h1⟩
    obtain ⟨A, R, hB⟩ := HX.out
    obtain ⟨c0, c1, c2, c3, f0, f1, f2, f3⟩ := (R.keep h1).get4
    have HB := Lib.hid (bstep hB h1)
    clear HX A R hB h1 HBY
    go_wp2
    exact bodyPost_ret (v := .agg Zc) (by simp [results, Tryd.results25, go_sem, c0, c1, c2, c3]) rfl ⟨rfl, step_world HB.out (grown_set4 w1 (w.heap.size + 1 + 1) _ _ _ _) (Nat.le_refl _) (by omega)⟩

set_option maxRecDepth 100000 in
set_option maxHeartbeats 4000000 in
theorem rext_any (n a : Nat) (hn : n < MM) (w : World) :
    Calls Tryd.prog 27 #[W n, W a] w fun e w' => e = .returned (W (extN n a)) ∧ Below w.heap.size w w' := by
  have A := (Blk.newS w (.cells (Wc n) 25) 25 (Wc a)).alloc (.cells Zc 25)
  have R : Blk (((w.alloc (.cells (Wc n) 25)).alloc (.cells (Wc a) 25)).alloc (.cells Zc 25)) (w.heap.size + 1 + 1) 25 Zc := by
    have h := Blk.newS (w.alloc (.cells (Wc n) 25)) (.cells (Wc a) 25) 25 Zc
    rwa [World.size_alloc] at h
  have HX := Lib.hid (And.intro A (And.intro R (balloc (balloc (balloc (Below.refl w.heap.size w) (.cells (Wc n) 25)) (.cells (Wc a) 25)) (.cells Zc 25))))
  have hby := by_any n hn
  clear A R
  by_cases h : n < 31
  · rw [← extF_eq n a h]
    rw [show byN n = n from if_pos (by omega)] at hby
    have HBY := Lib.hid hby
    have g0 : ¬ (31 : Int) ≤ n := by omega
    have HN := Lib.hid h
    clear hn h hby
    go_enter Tryd.func27, Tryd.ntmps27
    go_wp2_with fail
    refine (HBY.out _).mono ?_
    rintro e w1 ⟨rfl, h1⟩
    obtain ⟨A, R, hB⟩ := HX.out
    have A1 := (A.keep h1).alloc (.cells Zc 25)
    have R1 := (R.keep h1).alloc (.cells Zc 25)
    have hg := (R.keep h1).lt
    have U1 : Blk (w1.alloc (.cells Zc 25)) w1.heap.size 25 (Wc (upto (extF n a) 0)) := by
      rw [show upto (extF n a) 0 = 0 by rw [upto], show Wc 0 = Zc by unfold Wc; simp only [lb_zero]]
      exact Blk.new w1 _ _
    have HX1 := Lib.hid (And.intro A1 (And.intro R1 (And.intro U1 (balloc (bstep hB h1) (.cells Zc 25)))))
    have HG := Lib.hid hg
    clear HX A R hB h1 HBY A1 R1 U1 hg
    go_wp2_with fail
    generalize w1.heap.size = g at HX1 HG ⊢
    go_loopw [7] (fun i wr => ∃ k : Nat, k ≤ 256 ∧ i = .int .i64 k ∧ Blk wr (w.heap.size + 1) 25 (Wc a) ∧ Blk wr (w.heap.size + 1 + 1) 25 Zc ∧ Blk wr g 25 (Wc (upto (extF n a) k)) ∧ Below w.heap.size w wr) (fun i _ => 256 - (intOf i).toNat)
    case atStart => exact ⟨0, by omega, rfl, HX1.out⟩
    case round =>
      clear HX1
      obtain ⟨k, hk, rfl, A0, R0, U0, hB⟩ := hrel
      by_cases hlt : k < 256
      · have hs : upto (extF n a) (k + 1) = if extF n a k then upto (extF n a) k ||| 2 ^ k else upto (extF n a) k := by rw [upto]
        have hF : extF n a k = a.testBit (min k (8 * n + 7)) := by unfold extF; rfl
        rw [hF] at hs
        generalize upto (extF n a) k = u at *
        have hn31 := HN.out
        have hbit := rbit_any a (min k (8 * n + 7)) (by omega)
        rw [bit_ref] at hbit
        have g1 : IntKind.i64.wrap (8 * (n : Int)) = 8 * n := IntWalk.i64_in _ (by omega)
        have g2 : IntKind.i64.wrap (8 * (n : Int) + 7) = 8 * n + 7 := IntWalk.i64_in _ (by omega)
        by_cases hmin : k ≤ 8 * n + 7
        · have hq : min k (8 * n + 7) = k := by omega
          have g3 : min (k : Int) (8 * n + 7) = k := by omega
          have g4 : (k : Int) ≤ 8 * n + 7 := by omega
          rw [hq] at hbit hs
          obtain ⟨t, ht⟩ : ∃ t, a.testBit k = t := ⟨_, rfl⟩
          rw [ht] at hs hbit
          have HBIT := Lib.hid hbit
          have HW := Lib.hid (rwith_any u k hlt)
          have HS := Lib.hid hs
          obtain ⟨b0, b1, b2, b3, _, _, _, _⟩ := A0.get4
          have HX := Lib.hid (And.intro A0 (And.intro R0 (And.intro U0 (And.intro hB HG.out))))
          clear hs hF hbit ht A0 R0 U0 hB HG hq hn31
          go_wp2_with fail
          refine (HBIT.out _).mono ?_
          rintro e wk ⟨rfl, hk2⟩
          obtain ⟨A0, R0, U0, hB, hg⟩ := HX.out
          have HX2 := Lib.hid (And.intro (A0.keep hk2) (And.intro (R0.keep hk2) (And.intro (U0.keep hk2) (And.intro (bstep hB hk2) hg))))
          obtain ⟨u0, u1, u2, u3, f0, f1, f2, f3⟩ := (U0.keep hk2).get4
          clear HX A0 R0 U0 hB hk2 b0 b1 b2 b3 hg
          cases t with
          | true =>
            go_wp2_with fail
            refine (HW.out _).mono ?_
            rintro e w2 ⟨rfl, h2⟩
            obtain ⟨A1, R1, U1, hB1, hg⟩ := HX2.out
            have hG := grown_set4 w2 g (.int .u64 (lb (u ||| 2 ^ k) 0)) (.int .u64 (lb (u ||| 2 ^ k) 1)) (.int .u64 (lb (u ||| 2 ^ k) 2)) (.int .u64 (lb (u ||| 2 ^ k) 3))
            have hE := Lib.hid (And.intro ((A1.keep h2).kept hG (by intro e; injection e; omega)) (And.intro ((R1.keep h2).kept hG (by intro e; injection e; omega)) (And.intro ((U1.keep h2).set4 (u ||| 2 ^ k)) (step_world (bstep hB1 h2) hG (Nat.le_refl _) (by omega)))))
            clear u0 u1 u2 u3 f0 f1 f2 f3
            obtain ⟨u0, u1, u2, u3, f0, f1, f2, f3⟩ := (U1.keep h2).get4
            clear HX2 A1 R1 U1 hB1 h2 hG hg
            go_wp2_with fail
            go_roundw
            case rel => exact ⟨k + 1, by omega, by go_num, hE.out.1, hE.out.2.1, by rw [HS.out]; exact hE.out.2.2.1, hE.out.2.2.2⟩
            case measure => simp [intOf]; omega
          | false =>
            clear u0 u1 u2 u3 f0 f1 f2 f3
            go_wp2_with fail
            go_roundw
            case rel => exact ⟨k + 1, by omega, by go_num, HX2.out.1, HX2.out.2.1, by rw [HS.out]; exact HX2.out.2.2.1, HX2.out.2.2.2.1⟩
            case measure => simp [intOf]; omega
        · have hq : min k (8 * n + 7) = 8 * n + 7 := by omega
          have g3 : min (k : Int) (8 * n + 7) = 8 * n + 7 := by omega
          have g4 : ¬ (k : Int) ≤ 8 * n + 7 := by omega
          rw [hq] at hbit hs
          obtain ⟨t, ht⟩ : ∃ t, a.testBit (8 * n + 7) = t := ⟨_, rfl⟩
          rw [ht] at hs hbit
          rw [show ((8 * n + 7 : Nat) : Int) = 8 * (n : Int) + 7 by omega] at hbit
          have HBIT := Lib.hid hbit
          have HW := Lib.hid (rwith_any u k hlt)
          have HS := Lib.hid hs
          obtain ⟨b0, b1, b2, b3, _, _, _, _⟩ := A0.get4
          have HX := Lib.hid (And.intro A0 (And.intro R0 (And.intro U0 (And.intro hB HG.out))))
          clear hs hF hbit ht A0 R0 U0 hB HG hq hn31
          go_wp2_with fail
          refine (HBIT.out _).mono ?_
          rintro e wk ⟨rfl, hk2⟩
          obtain ⟨A0, R0, U0, hB, hg⟩ := HX.out
          have HX2 := Lib.hid (And.intro (A0.keep hk2) (And.intro (R0.keep hk2) (And.intro (U0.keep hk2) (And.intro (bstep hB hk2) hg))))
          obtain ⟨u0, u1, u2, u3, f0, f1, f2, f3⟩ := (U0.keep hk2).get4
          clear HX A0 R0 U0 hB hk2 b0 b1 b2 b3 hg
          cases t with
          | true =>
            go_wp2_with fail
            refine (HW.out _).mono ?_
            rintro e w2 ⟨rfl, h2⟩
            obtain ⟨A1, R1, U1, hB1, hg⟩ := HX2.out
            have hG := grown_set4 w2 g (.int .u64 (lb (u ||| 2 ^ k) 0)) (.int .u64 (lb (u ||| 2 ^ k) 1)) (.int .u64 (lb (u ||| 2 ^ k) 2)) (.int .u64 (lb (u ||| 2 ^ k) 3))
            have hE := Lib.hid (And.intro ((A1.keep h2).kept hG (by intro e; injection e; omega)) (And.intro ((R1.keep h2).kept hG (by intro e; injection e; omega)) (And.intro ((U1.keep h2).set4 (u ||| 2 ^ k)) (step_world (bstep hB1 h2) hG (Nat.le_refl _) (by omega)))))
            clear u0 u1 u2 u3 f0 f1 f2 f3
            obtain ⟨u0, u1, u2, u3, f0, f1, f2, f3⟩ := (U1.keep h2).get4
            clear HX2 A1 R1 U1 hB1 h2 hG hg
            go_wp2_with fail
            go_roundw
            case rel => exact ⟨k + 1, by omega, by go_num, hE.out.1, hE.out.2.1, by rw [HS.out]; exact hE.out.2.2.1, hE.out.2.2.2⟩
            case measure => simp [intOf]; omega
          | false =>
            clear u0 u1 u2 u3 f0 f1 f2 f3
            go_wp2_with fail
            go_roundw
            case rel => exact ⟨k + 1, by omega, by go_num, HX2.out.1, HX2.out.2.1, by rw [HS.out]; exact HX2.out.2.2.1, HX2.out.2.2.2.1⟩
            case measure => simp [intOf]; omega
      · obtain rfl : k = 256 := by omega
        obtain ⟨r0, r1, r2, r3, f0, f1, f2, f3⟩ := R0.get4
        obtain ⟨u0, u1, u2, u3, _, _, _, _⟩ := U0.get4
        have HB := Lib.hid hB
        clear A0 R0 U0 hB
        go_wp2
        exact bodyPost_ret (v := W (upto (extF n a) 256)) (by simp [results, Tryd.results27, go_sem, r0, r1, r2, r3]) rfl ⟨rfl, step_world HB.out (grown_set4 wr (w.heap.size + 1 + 1) _ _ _ _) (Nat.le_refl _) (by omega)⟩
  · have E : Hid (extN n a = a) := if_neg h
    rw [E.out]
    obtain ⟨k, hk⟩ : ∃ k, byN n = k := ⟨_, rfl⟩
    have g0 : (31 : Int) ≤ k := by rw [← hk]; unfold byN; split <;> omega
    rw [hk] at hby
    have HBY := Lib.hid hby
    clear hn E h hby hk
    go_enter Tryd.func27, Tryd.ntmps27
    go_wp2_with fail
    refine (HBY.out _).mono ?_
    rintro e w1 ⟨rfl, h1⟩
    obtain ⟨A, R, hB⟩ := HX.out
    obtain ⟨a0, a1, a2, a3, _, _, _, _⟩ := (A.keep h1).get4
    obtain ⟨c0, c1, c2, c3, f0, f1, f2, f3⟩ := (R.keep h1).get4
    have HB := Lib.hid (bstep hB h1)
    clear HX A R hB h1 HBY
    go_wp2
    exact bodyPost_ret (v := W a) (by simp [results, Tryd.results27, go_sem, c0, c1, c2, c3]) rfl ⟨rfl, step_world HB.out (grown_set4 w1 (w.heap.size + 1 + 1) _ _ _ _) (Nat.le_refl _) (by omega)⟩
end Go.Proofs.YthjbiojbmjgkbaaDoor
