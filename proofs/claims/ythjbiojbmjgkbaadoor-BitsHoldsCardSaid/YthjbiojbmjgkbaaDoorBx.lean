/- The reference of layer bits: Shl, Down. -/
import Derived.Test.YthjbiojbmjgkbaaDoorBr
import Derived.Test.YthjbiojbmjgkbaaDoorBk
import Derived.Deep.RegionHeld3
namespace Go.Proofs.YthjbiojbmjgkbaaDoor
open Go.RowKit
attribute [local go_sem] ix0 ix1 ix2 ix3
theorem upto_none (f : Nat → Bool) : ∀ n, (∀ j, j < n → f j = false) → upto f n = 0
  | 0, _ => rfl
  | n + 1, h => by
    rw [upto, h n (by omega), upto_none f n (fun j hj => h j (by omega))]; rfl
theorem byN_le (n : Nat) : byN n ≤ 256 := by unfold byN; split <;> omega
/-- What the reference's Shl, Down, Extend lay. -/
def shlF (m a j : Nat) : Bool := decide (m ≤ j) && a.testBit (j - m)
def downF (m a : Nat) (s : Bool) (j : Nat) : Bool := (decide (j + m < 256) && a.testBit (j + m)) || (decide (256 ≤ j + m) && s)
theorem shlF_eq (n a : Nat) : upto (shlF (byN n) a) 256 = shlN n a := by
  refine upto_eq _ _ (shl_lt n a) (fun j hj => ?_)
  unfold shlF shlN byN
  by_cases h : n < 256
  · rw [if_pos h, if_pos (by omega), bit_mod _ _ hj, Nat.testBit_mul_two_pow]
  · rw [if_neg h, Nat.zero_testBit]
    by_cases h2 : n ≤ 256
    · rw [if_pos h2]; have : ¬ n ≤ j := by omega
      simp [this]
    · rw [if_neg h2]; have : ¬ 256 ≤ j := by omega
      simp [this]
theorem bit_tall (a j : Nat) (ha : a < MM) (s : Bool) (hj : j < 512) : (a + MM * (if s then MM - 1 else 0)).testBit j = if j < 256 then a.testBit j else s := by
  rw [Nat.add_comm, MM_two256] at *
  rw [Nat.testBit_two_pow_mul_add _ ha]
  split
  · rfl
  · cases s
    · simp
    · simp only [if_true]
      rw [Nat.testBit_two_pow_sub_one]; simp; omega
theorem downF_eq (n a : Nat) (ha : a < MM) : upto (downF (byN n) a (ngN a)) 256 = sarN n a := by
  refine upto_eq _ _ (sar_lt n a) (fun j hj => ?_)
  unfold downF sarN byN sgN
  by_cases h : n < 256
  · rw [if_pos h, if_pos (by omega), bit_mod _ _ hj, Nat.testBit_div_two_pow, bit_tall a _ ha _ (by omega)]
    by_cases h2 : j + n < 256
    · have h3 : ¬ 256 ≤ j + n := by omega
      simp [h2, h3]
    · have h3 : 256 ≤ j + n := by omega
      simp [h2, h3]
  · rw [if_neg h]
    have h1 : (if n ≤ 256 then n else 256) = 256 := by split <;> omega
    rw [h1]
    have h2 : ¬ j + 256 < 256 := by omega
    have h3 : 256 ≤ j + 256 := by omega
    cases ngN a
    · simp [h2]
    · rw [if_pos rfl, all_bit j hj]; simp
theorem downF_eq0 (n a : Nat) (ha : a < MM) : upto (downF (byN n) a false) 256 = shrN n a := by
  refine upto_eq _ _ (shr_lt n a ha) (fun j hj => ?_)
  unfold downF shrN byN
  by_cases h : n < 256
  · rw [if_pos h, if_pos (by omega), Nat.testBit_div_two_pow]
    by_cases h2 : j + n < 256
    · simp [h2]
    · rw [bit_high a ha _ (by omega)]; simp
  · rw [if_neg h, Nat.zero_testBit]
    have h1 : (if n ≤ 256 then n else 256) = 256 := by split <;> omega
    rw [h1]
    have h2 : ¬ j + 256 < 256 := by omega
    simp [h2]
attribute [local irreducible] lb upto shlF downF
set_option maxRecDepth 100000 in
set_option maxHeartbeats 4000000 in
theorem rshl_any (n a : Nat) (hn : n < MM) (w : World) :
    Calls Tryd.prog 19 #[W n, W a] w fun e w' => e = .returned (W (shlN n a)) ∧ Below w.heap.size w w' := by
  rw [← shlF_eq]
  obtain ⟨m, hm⟩ : ∃ m, byN n = m := ⟨_, rfl⟩
  have hm2 := byN_le n
  have hby := by_any n hn
  rw [hm] at hm2 hby ⊢
  have HBY := Lib.hid hby
  have N0 := (((Blk.new w 25 (Wc n)).alloc (.cells (Wc a) 25)).alloc (.cells Zc 25)).alloc (.cells Zc 25)
  have A0 := ((Blk.newS w (.cells (Wc n) 25) 25 (Wc a)).alloc (.cells Zc 25)).alloc (.cells Zc 25)
  have R0 := box4 w (.cells (Wc n) 25) (.cells (Wc a) 25) (.cells Zc 25) 25 Zc
  have U0 : Blk ((((w.alloc (.cells (Wc n) 25)).alloc (.cells (Wc a) 25)).alloc (.cells Zc 25)).alloc (.cells Zc 25)) (w.heap.size + 1 + 1 + 1) 25 Zc := by
    have h := Blk.newS ((w.alloc (.cells (Wc n) 25)).alloc (.cells (Wc a) 25)) (.cells Zc 25) 25 Zc
    rwa [World.size_alloc, World.size_alloc] at h
  have HX := Lib.hid (And.intro N0 (And.intro A0 (And.intro R0 (And.intro U0 (balloc (balloc (balloc (balloc (Below.refl w.heap.size w) (.cells (Wc n) 25)) (.cells (Wc a) 25)) (.cells Zc 25)) (.cells Zc 25))))))
  have hz : upto (shlF m a) m = 0 := upto_none _ _ (fun j hj => by unfold shlF; have : ¬ m ≤ j := by omega
                                                                   simp [this])
  have HZ := Lib.hid hz
  clear N0 A0 R0 U0 hz hm hn hby
  go_enter Tryd.func19, Tryd.ntmps19
  go_wp2_with fail
  refine (HBY.out _).mono ?_
  rintro e w1 ⟨rfl, h1⟩
  obtain ⟨N0, A0, R0, U0, hB0⟩ := HX.out
  have HX1 := Lib.hid (And.intro (N0.keep h1) (And.intro (A0.keep h1) (And.intro (R0.keep h1) (And.intro (U0.keep h1) (bstep hB0 h1)))))
  clear HX N0 A0 R0 U0 hB0 h1
  go_wp2_with fail
  go_loopw [6] (fun i wr => ∃ k : Nat, m ≤ k ∧ k ≤ 256 ∧ i = .int .i64 k ∧ Blk wr w.heap.size 25 (Wc n) ∧ Blk wr (w.heap.size + 1) 25 (Wc a) ∧ Blk wr (w.heap.size + 1 + 1) 25 Zc ∧ Blk wr (w.heap.size + 1 + 1 + 1) 25 (Wc (upto (shlF m a) k)) ∧ Below w.heap.size w wr) (fun i _ => 256 - (intOf i).toNat)
  case atStart =>
    obtain ⟨N0, A0, R0, U0, hB0⟩ := HX1.out
    exact ⟨m, Nat.le_refl _, hm2, rfl, N0, A0, R0, by rw [HZ.out, show Wc 0 = Zc by unfold Wc; simp only [lb_zero]]; exact U0, hB0⟩
  case round =>
    clear HX1 HZ
    obtain ⟨k, hmk, hk, rfl, N0, A0, R0, U0, hB⟩ := hrel
    by_cases hlt : k < 256
    · have hs : upto (shlF m a) (k + 1) = if shlF m a k then upto (shlF m a) k ||| 2 ^ k else upto (shlF m a) k := by rw [upto]
      have hF : shlF m a k = a.testBit (k - m) := by unfold shlF; simp [hmk]
      rw [hF] at hs
      generalize upto (shlF m a) k = u at *
      have hbit := rbit_any a (k - m) (by omega)
      rw [bit_ref] at hbit
      have g1 : IntKind.i64.wrap ((k : Int) - m) = ((k - m : Nat) : Int) := by rw [IntWalk.i64_in _ (by omega)]; omega
      obtain ⟨t, ht⟩ : ∃ t, a.testBit (k - m) = t := ⟨_, rfl⟩
      rw [ht] at hs hbit
      have HBIT := Lib.hid hbit
      have HW := Lib.hid (rwith_any u k hlt)
      have HS := Lib.hid hs
      have HX := Lib.hid (And.intro N0 (And.intro A0 (And.intro R0 (And.intro U0 hB))))
      clear hs hF hbit ht N0 A0 R0 U0 hB
      go_wp2_with fail
      obtain ⟨N0, A0, R0, U0, hB⟩ := HX.out
      have cn0 : ∀ w', Below wr.heap.size wr w' → w'.cell? ⟨w.heap.size, 0, none⟩ = some (.int .u64 (lb n 0)) := fun w' h => (N0.keep h).get4.1
      have cn1 : ∀ w', Below wr.heap.size wr w' → w'.cell? ⟨w.heap.size, 1, none⟩ = some (.int .u64 (lb n 1)) := fun w' h => (N0.keep h).get4.2.1
      have cn2 : ∀ w', Below wr.heap.size wr w' → w'.cell? ⟨w.heap.size, 2, none⟩ = some (.int .u64 (lb n 2)) := fun w' h => (N0.keep h).get4.2.2.1
      have cn3 : ∀ w', Below wr.heap.size wr w' → w'.cell? ⟨w.heap.size, 3, none⟩ = some (.int .u64 (lb n 3)) := fun w' h => (N0.keep h).get4.2.2.2.1
      have ca0 : ∀ w', Below wr.heap.size wr w' → w'.cell? ⟨w.heap.size + 1, 0, none⟩ = some (.int .u64 (lb a 0)) := fun w' h => (A0.keep h).get4.1
      have ca1 : ∀ w', Below wr.heap.size wr w' → w'.cell? ⟨w.heap.size + 1, 1, none⟩ = some (.int .u64 (lb a 1)) := fun w' h => (A0.keep h).get4.2.1
      have ca2 : ∀ w', Below wr.heap.size wr w' → w'.cell? ⟨w.heap.size + 1, 2, none⟩ = some (.int .u64 (lb a 2)) := fun w' h => (A0.keep h).get4.2.2.1
      have ca3 : ∀ w', Below wr.heap.size wr w' → w'.cell? ⟨w.heap.size + 1, 3, none⟩ = some (.int .u64 (lb a 3)) := fun w' h => (A0.keep h).get4.2.2.2.1
      have h0 : Below wr.heap.size wr wr.drew := (Below.refl _ _).drew
      clear N0 A0 R0 U0 hB
      go_region_held3 (fun w' => Below wr.heap.size wr w') (first | assumption | exact rstep (by assumption) (by assumption))
        (first
          | (go_at_call 54; refine (HBY.out _).mono ?_; rintro e wk ⟨rfl, hk⟩)
          | (go_at_call 42; refine (HBIT.out _).mono ?_; rintro e wk ⟨rfl, hk⟩))
      all_goals
        have hX : Below wr.heap.size wr wk := by assumption
        obtain ⟨N0, A0, R0, U0, hB⟩ := HX.out
        have N1 := N0.keep hX
        have A1 := A0.keep hX
        have R1 := R0.keep hX
        have U1 := U0.keep hX
        have hB1 := bstep hB hX
        have hul := U1.lt
        have HX2 := Lib.hid (And.intro N1 (And.intro A1 (And.intro R1 (And.intro U1 hB1))))
        obtain ⟨u0, u1, u2, u3, f0, f1, f2, f3⟩ := U1.get4
        clear N0 A0 R0 U0 hB N1 A1 R1 U1 hB1 hX cn0 cn1 cn2 cn3 ca0 ca1 ca2 ca3 h0 HX
        cases t with
        | true =>
          go_wp2_with fail
          refine (HW.out _).mono ?_
          rintro e w2 ⟨rfl, h2⟩
          obtain ⟨N1, A1, R1, U1, hB1⟩ := HX2.out
          have hG := grown_set4 w2 (w.heap.size + 1 + 1 + 1) (.int .u64 (lb (u ||| 2 ^ k) 0)) (.int .u64 (lb (u ||| 2 ^ k) 1)) (.int .u64 (lb (u ||| 2 ^ k) 2)) (.int .u64 (lb (u ||| 2 ^ k) 3))
          have hE := Lib.hid (And.intro ((N1.keep h2).kept hG (by intro e; injection e; omega)) (And.intro ((A1.keep h2).kept hG (by intro e; injection e; omega)) (And.intro ((R1.keep h2).kept hG (by intro e; injection e; omega)) (And.intro ((U1.keep h2).set4 (u ||| 2 ^ k)) (step_world (bstep hB1 h2) hG (Nat.le_refl _) (by omega))))))
          clear u0 u1 u2 u3 f0 f1 f2 f3
          obtain ⟨u0, u1, u2, u3, f0, f1, f2, f3⟩ := (U1.keep h2).get4
          clear HX2 N1 A1 R1 U1 hB1 h2 hG
          go_wp2_with fail
          go_roundw
          case rel => exact ⟨k + 1, by omega, by omega, by go_num, hE.out.1, hE.out.2.1, hE.out.2.2.1, by rw [HS.out]; exact hE.out.2.2.2.1, hE.out.2.2.2.2⟩
          case measure => simp [intOf]; omega
        | false =>
          clear u0 u1 u2 u3 f0 f1 f2 f3
          go_wp2_with fail
          go_roundw
          case rel => exact ⟨k + 1, by omega, by omega, by go_num, HX2.out.1, HX2.out.2.1, HX2.out.2.2.1, by rw [HS.out]; exact HX2.out.2.2.2.1, HX2.out.2.2.2.2⟩
          case measure => simp [intOf]; omega
    · obtain rfl : k = 256 := by omega
      obtain ⟨r0, r1, r2, r3, f0, f1, f2, f3⟩ := R0.get4
      obtain ⟨u0, u1, u2, u3, _, _, _, _⟩ := U0.get4
      have HB := Lib.hid hB
      clear N0 A0 R0 U0 hB
      go_wp2
      exact bodyPost_ret (v := W (upto (shlF m a) 256)) (by simp [results, Tryd.results19, go_sem, r0, r1, r2, r3]) rfl ⟨rfl, step_world HB.out (grown_set4 wr (w.heap.size + 1 + 1) _ _ _ _) (Nat.le_refl _) (by omega)⟩
end Go.Proofs.YthjbiojbmjgkbaaDoor
