/- The reference of layer bits: count, Fold. -/
import Derived.Test.YthjbiojbmjgkbaaDoorBq
namespace Go.Proofs.YthjbiojbmjgkbaaDoor
open Go.RowKit
attribute [local go_sem] ix0 ix1 ix2 ix3
set_option maxHeartbeats 2000000 in
theorem count_any (b o n cap : Nat) (f : Nat → Nat) (j : Nat) (hj : j < 256) (w : World) (hn : n ≤ 9223372036854775807) (hb : b < w.heap.size) (hf : WordsAt w b o n f) :
    Calls Tryd.prog 48 #[.slice (some ⟨b, o, none⟩) n cap, .int .i64 j] w fun e w' => e = .returned (.int .i64 (cntN f j n : Nat)) ∧ Below w.heap.size w w' := by
  go_enter Tryd.func48, Tryd.ntmps48
  go_wp2
  go_loopw [5, 6] (fun c i wr => ∃ k : Nat, k ≤ n ∧ i = .int .i64 k ∧ c = .int .i64 (cntN f j k : Nat) ∧ Below w.heap.size w wr) (fun _ i _ => n - (intOf i).toNat)
  case atStart => exact ⟨0, Nat.zero_le _, rfl, rfl, Below.refl _ _⟩
  case round =>
    obtain ⟨k, hk, rfl, rfl, hB⟩ := hrel
    have hcl := cntN_le f j k
    by_cases hlt : k < n
    · have d := hf k hlt
      have d0 := (hB.cell (p := ⟨b, o + k * 4, none⟩) hb).trans d.1
      have d1 := (hB.cell (p := ⟨b, o + k * 4 + 1, none⟩) hb).trans d.2.1
      have d2 := (hB.cell (p := ⟨b, o + k * 4 + 2, none⟩) hb).trans d.2.2.1
      have d3 := (hB.cell (p := ⟨b, o + k * 4 + 3, none⟩) hb).trans d.2.2.2
      have hbit := rbit_any (f k) j hj
      have hs : cntN f j (k + 1) = cntN f j k + (if (f k).testBit j then 1 else 0) := rfl
      have HB := Lib.hid hB
      rw [bit_ref] at hbit
      cases hh : (f k).testBit j
      all_goals
        rw [hh] at hbit hs
        have HBIT := Lib.hid hbit
        have HS := Lib.hid hs
        clear d hbit hs hh hB
        go_wp2_with fail
        refine (HBIT.out _).mono ?_
        rintro e w1 ⟨rfl, h1⟩
        have H1 := Lib.hid (bstep HB.out h1)
        clear h1 d0 d1 d2 d3 HB HBIT
        go_wp2_with fail
        go_roundw
        case rel => exact ⟨k + 1, by omega, by go_num, by rw [HS.out]; go_num, H1.out⟩
        case measure => simp [intOf]; omega
    · obtain rfl : k = n := by omega
      have HB := Lib.hid hB
      clear hB hf
      go_wp2
      go_ret
      exact ⟨rfl, HB.out⟩
theorem count_nil (f : Nat → Nat) (j : Nat) (w : World) :
    Calls Tryd.prog 48 #[.slice none 0 0, .int .i64 j] w fun e w' => e = .returned (.int .i64 (cntN f j 0 : Nat)) ∧ Below w.heap.size w w' := by
  go_enter Tryd.func48, Tryd.ntmps48
  go_wp2
  refine wp_loop_rounds 1 ?_
  rw [rounds_succ]; go_wp2
  go_ret
  exact ⟨rfl, Below.refl _ _⟩

set_option maxRecDepth 100000 in
set_option maxHeartbeats 4000000 in
theorem rfold0_any (x : Option Addr) (n cap : Nat) (f : Nat → Nat) (w : World)
    (hc : ∀ X, Below w.heap.size w X → ∀ j : Nat, j < 256 → Calls Tryd.prog 48 #[.slice x n cap, .int .i64 j] X fun e w' => e = .returned (.int .i64 (cntN f j n : Nat)) ∧ Below X.heap.size X w') :
    Calls Tryd.prog 13 #[.slice x n cap, .int .i64 0] w fun e w' => e = .returned (W (upto (fun j => cntN f j n == n) 256)) ∧ Below w.heap.size w w' := by
  have R0 := (Blk.new w 25 Zc).alloc (.cells Zc 25)
  have U0 : Blk ((w.alloc (.cells Zc 25)).alloc (.cells Zc 25)) (w.heap.size + 1) 25 (Wc (upto (fun j => cntN f j n == n) 0)) := by
    have h := Blk.newS w (.cells Zc 25) 25 Zc
    rw [show Wc (upto (fun j => cntN f j n == n) 0) = Zc by unfold Wc; rw [upto]; simp only [lb_zero]]
    exact h
  have HX := Lib.hid (And.intro R0 (And.intro U0 (balloc (balloc (Below.refl w.heap.size w) (.cells Zc 25)) (.cells Zc 25))))
  clear R0 U0
  go_enter Tryd.func13, Tryd.ntmps13
  go_wp2
  go_loopw [6] (fun i wr => ∃ k : Nat, k ≤ 256 ∧ i = .int .i64 k ∧ Blk wr w.heap.size 25 Zc ∧ Blk wr (w.heap.size + 1) 25 (Wc (upto (fun j => cntN f j n == n) k)) ∧ Below w.heap.size w wr) (fun i _ => 256 - (intOf i).toNat)
  case atStart => exact ⟨0, by omega, rfl, HX.out⟩
  case round =>
    clear HX
    obtain ⟨k, hk, rfl, R, U, hB⟩ := hrel
    by_cases hlt : k < 256
    · have HC := Lib.hid (hc wr hB k hlt)
      have hcl := cntN_le f k n
      have hs : upto (fun j => cntN f j n == n) (k + 1) = if (cntN f k n == n) = true then upto (fun j => cntN f j n == n) k ||| 2 ^ k else upto (fun j => cntN f j n == n) k := rfl
      generalize upto (fun j => cntN f j n == n) k = u at *
      generalize cntN f k n = c at *
      have HX := Lib.hid (And.intro R (And.intro U hB))
      clear R U hB
      by_cases h : c = n
      · have g : ((c : Int) == (n : Int)) = true := by simp; omega
        have HS := Lib.hid (hs.trans (if_pos (by simp [h])))
        have HW := Lib.hid (rwith_any u k hlt)
        clear hs h
        go_wp2_with fail
        refine HC.out.mono ?_
        rintro e w1 ⟨rfl, h1⟩
        obtain ⟨R, U, hB⟩ := HX.out
        have R1 := R.keep h1
        have U1 := U.keep h1
        have hB1 := bstep hB h1
        obtain ⟨u0, u1, u2, u3, fu0, fu1, fu2, fu3⟩ := U1.get4
        have HX1 := Lib.hid (And.intro R1 (And.intro U1 hB1))
        clear HX HC R U hB R1 U1 hB1 h1
        go_wp2_with fail
        refine (HW.out _).mono ?_
        rintro e w2 ⟨rfl, h2⟩
        obtain ⟨R, U, hB⟩ := HX1.out
        have R1 := R.keep h2
        have U1 := U.keep h2
        have hB1 := bstep hB h2
        have hG := grown_set4 w2 (w.heap.size + 1) (.int .u64 (lb (u ||| 2 ^ k) 0)) (.int .u64 (lb (u ||| 2 ^ k) 1)) (.int .u64 (lb (u ||| 2 ^ k) 2)) (.int .u64 (lb (u ||| 2 ^ k) 3))
        have hE := Lib.hid (And.intro (R1.kept hG (by intro e; injection e; omega)) (And.intro (U1.set4 (u ||| 2 ^ k)) (step_world hB1 hG (Nat.le_refl _) (by omega))))
        clear u0 u1 u2 u3 fu0 fu1 fu2 fu3
        obtain ⟨u0, u1, u2, u3, fu0, fu1, fu2, fu3⟩ := U1.get4
        clear HX1 HW R U hB R1 U1 hB1 h2 hG
        go_wp2_with fail
        go_roundw
        case rel => exact ⟨k + 1, by omega, by go_num, hE.out.1, by rw [HS.out]; exact hE.out.2.1, hE.out.2.2⟩
        case measure => simp [intOf]; omega
      · have g : ((c : Int) == (n : Int)) = false := by simp; omega
        have HS := Lib.hid (hs.trans (if_neg (by simp [h])))
        clear hs h
        go_wp2_with fail
        refine HC.out.mono ?_
        rintro e w1 ⟨rfl, h1⟩
        obtain ⟨R, U, hB⟩ := HX.out
        have hE := Lib.hid (And.intro (R.keep h1) (And.intro (U.keep h1) (bstep hB h1)))
        clear HX HC R U hB h1
        go_wp2_with fail
        go_roundw
        case rel => exact ⟨k + 1, by omega, by go_num, hE.out.1, by rw [HS.out]; exact hE.out.2.1, hE.out.2.2⟩
        case measure => simp [intOf]; omega
    · obtain rfl : k = 256 := by omega
      obtain ⟨r0, r1, r2, r3, f0, f1, f2, f3⟩ := R.get4
      obtain ⟨u0, u1, u2, u3, _, _, _, _⟩ := U.get4
      have HB := Lib.hid hB
      clear R U hB hc
      go_wp2
      exact bodyPost_ret (v := W (upto (fun j => cntN f j n == n) 256)) (by simp [results, Tryd.results13, go_sem, r0, r1, r2, r3]) rfl ⟨rfl, step_world HB.out (grown_set4 wr w.heap.size _ _ _ _) (Nat.le_refl _) (Nat.le_refl _)⟩

set_option maxRecDepth 100000 in
set_option maxHeartbeats 4000000 in
theorem rfold1_any (x : Option Addr) (n cap : Nat) (f : Nat → Nat) (w : World)
    (hc : ∀ X, Below w.heap.size w X → ∀ j : Nat, j < 256 → Calls Tryd.prog 48 #[.slice x n cap, .int .i64 j] X fun e w' => e = .returned (.int .i64 (cntN f j n : Nat)) ∧ Below X.heap.size X w') :
    Calls Tryd.prog 13 #[.slice x n cap, .int .i64 1] w fun e w' => e = .returned (W (upto (fun j => decide (0 < cntN f j n)) 256)) ∧ Below w.heap.size w w' := by
  have R0 := (Blk.new w 25 Zc).alloc (.cells Zc 25)
  have U0 : Blk ((w.alloc (.cells Zc 25)).alloc (.cells Zc 25)) (w.heap.size + 1) 25 (Wc (upto (fun j => decide (0 < cntN f j n)) 0)) := by
    have h := Blk.newS w (.cells Zc 25) 25 Zc
    rw [show Wc (upto (fun j => decide (0 < cntN f j n)) 0) = Zc by unfold Wc; rw [upto]; simp only [lb_zero]]
    exact h
  have HX := Lib.hid (And.intro R0 (And.intro U0 (balloc (balloc (Below.refl w.heap.size w) (.cells Zc 25)) (.cells Zc 25))))
  clear R0 U0
  go_enter Tryd.func13, Tryd.ntmps13
  go_wp2
  go_loopw [6] (fun i wr => ∃ k : Nat, k ≤ 256 ∧ i = .int .i64 k ∧ Blk wr w.heap.size 25 Zc ∧ Blk wr (w.heap.size + 1) 25 (Wc (upto (fun j => decide (0 < cntN f j n)) k)) ∧ Below w.heap.size w wr) (fun i _ => 256 - (intOf i).toNat)
  case atStart => exact ⟨0, by omega, rfl, HX.out⟩
  case round =>
    clear HX
    obtain ⟨k, hk, rfl, R, U, hB⟩ := hrel
    by_cases hlt : k < 256
    · have HC := Lib.hid (hc wr hB k hlt)
      have hcl := cntN_le f k n
      have hs : upto (fun j => decide (0 < cntN f j n)) (k + 1) = if decide (0 < cntN f k n) = true then upto (fun j => decide (0 < cntN f j n)) k ||| 2 ^ k else upto (fun j => decide (0 < cntN f j n)) k := rfl
      generalize upto (fun j => decide (0 < cntN f j n)) k = u at *
      generalize cntN f k n = c at *
      have HX := Lib.hid (And.intro R (And.intro U hB))
      clear R U hB
      by_cases h : 0 < c
      · have g : (0 : Int) < c := by omega
        have HS := Lib.hid (hs.trans (if_pos (by simp [h])))
        have HW := Lib.hid (rwith_any u k hlt)
        clear hs h
        go_wp2_with fail
        refine HC.out.mono ?_
        rintro e w1 ⟨rfl, h1⟩
        obtain ⟨R, U, hB⟩ := HX.out
        have R1 := R.keep h1
        have U1 := U.keep h1
        have hB1 := bstep hB h1
        obtain ⟨u0, u1, u2, u3, fu0, fu1, fu2, fu3⟩ := U1.get4
        have HX1 := Lib.hid (And.intro R1 (And.intro U1 hB1))
        clear HX HC R U hB R1 U1 hB1 h1
        go_wp2_with fail
        refine (HW.out _).mono ?_
        rintro e w2 ⟨rfl, h2⟩
        obtain ⟨R, U, hB⟩ := HX1.out
        have R1 := R.keep h2
        have U1 := U.keep h2
        have hB1 := bstep hB h2
        have hG := grown_set4 w2 (w.heap.size + 1) (.int .u64 (lb (u ||| 2 ^ k) 0)) (.int .u64 (lb (u ||| 2 ^ k) 1)) (.int .u64 (lb (u ||| 2 ^ k) 2)) (.int .u64 (lb (u ||| 2 ^ k) 3))
        have hE := Lib.hid (And.intro (R1.kept hG (by intro e; injection e; omega)) (And.intro (U1.set4 (u ||| 2 ^ k)) (step_world hB1 hG (Nat.le_refl _) (by omega))))
        clear u0 u1 u2 u3 fu0 fu1 fu2 fu3
        obtain ⟨u0, u1, u2, u3, fu0, fu1, fu2, fu3⟩ := U1.get4
        clear HX1 HW R U hB R1 U1 hB1 h2 hG
        go_wp2_with fail
        go_roundw
        case rel => exact ⟨k + 1, by omega, by go_num, hE.out.1, by rw [HS.out]; exact hE.out.2.1, hE.out.2.2⟩
        case measure => simp [intOf]; omega
      · have g : ¬ (0 : Int) < c := by omega
        have g1 : c = 0 := by omega
        have HS := Lib.hid (hs.trans (if_neg (by simp [h])))
        clear hs h
        go_wp2_with fail
        refine HC.out.mono ?_
        rintro e w1 ⟨rfl, h1⟩
        obtain ⟨R, U, hB⟩ := HX.out
        have hE := Lib.hid (And.intro (R.keep h1) (And.intro (U.keep h1) (bstep hB h1)))
        clear HX HC R U hB h1
        go_wp2_with fail
        go_roundw
        case rel => exact ⟨k + 1, by omega, by go_num, hE.out.1, by rw [HS.out]; exact hE.out.2.1, hE.out.2.2⟩
        case measure => simp [intOf]; omega
    · obtain rfl : k = 256 := by omega
      obtain ⟨r0, r1, r2, r3, f0, f1, f2, f3⟩ := R.get4
      obtain ⟨u0, u1, u2, u3, _, _, _, _⟩ := U.get4
      have HB := Lib.hid hB
      clear R U hB hc
      go_wp2
      exact bodyPost_ret (v := W (upto (fun j => decide (0 < cntN f j n)) 256)) (by simp [results, Tryd.results13, go_sem, r0, r1, r2, r3]) rfl ⟨rfl, step_world HB.out (grown_set4 wr w.heap.size _ _ _ _) (Nat.le_refl _) (Nat.le_refl _)⟩

set_option maxRecDepth 100000 in
set_option maxHeartbeats 4000000 in
theorem rfold2_any (x : Option Addr) (n cap : Nat) (f : Nat → Nat) (w : World)
    (hc : ∀ X, Below w.heap.size w X → ∀ j : Nat, j < 256 → Calls Tryd.prog 48 #[.slice x n cap, .int .i64 j] X fun e w' => e = .returned (.int .i64 (cntN f j n : Nat)) ∧ Below X.heap.size X w') :
    Calls Tryd.prog 13 #[.slice x n cap, .int .i64 2] w fun e w' => e = .returned (W (upto (fun j => cntN f j n % 2 == 1) 256)) ∧ Below w.heap.size w w' := by
  have R0 := (Blk.new w 25 Zc).alloc (.cells Zc 25)
  have U0 : Blk ((w.alloc (.cells Zc 25)).alloc (.cells Zc 25)) (w.heap.size + 1) 25 (Wc (upto (fun j => cntN f j n % 2 == 1) 0)) := by
    have h := Blk.newS w (.cells Zc 25) 25 Zc
    rw [show Wc (upto (fun j => cntN f j n % 2 == 1) 0) = Zc by unfold Wc; rw [upto]; simp only [lb_zero]]
    exact h
  have HX := Lib.hid (And.intro R0 (And.intro U0 (balloc (balloc (Below.refl w.heap.size w) (.cells Zc 25)) (.cells Zc 25))))
  clear R0 U0
  go_enter Tryd.func13, Tryd.ntmps13
  go_wp2
  go_loopw [6] (fun i wr => ∃ k : Nat, k ≤ 256 ∧ i = .int .i64 k ∧ Blk wr w.heap.size 25 Zc ∧ Blk wr (w.heap.size + 1) 25 (Wc (upto (fun j => cntN f j n % 2 == 1) k)) ∧ Below w.heap.size w wr) (fun i _ => 256 - (intOf i).toNat)
  case atStart => exact ⟨0, by omega, rfl, HX.out⟩
  case round =>
    clear HX
    obtain ⟨k, hk, rfl, R, U, hB⟩ := hrel
    by_cases hlt : k < 256
    · have HC := Lib.hid (hc wr hB k hlt)
      have hcl := cntN_le f k n
      have hs : upto (fun j => cntN f j n % 2 == 1) (k + 1) = if (cntN f k n % 2 == 1) = true then upto (fun j => cntN f j n % 2 == 1) k ||| 2 ^ k else upto (fun j => cntN f j n % 2 == 1) k := rfl
      generalize upto (fun j => cntN f j n % 2 == 1) k = u at *
      generalize cntN f k n = c at *
      have HX := Lib.hid (And.intro R (And.intro U hB))
      clear R U hB
      by_cases h : c % 2 = 1
      · have g0 : (c : Int).tmod 2 = (c : Int) % 2 := Int.tmod_eq_emod_of_nonneg (by omega)
        have g : ((c : Int) % 2 == 1) = true := by simp; omega
        have HS := Lib.hid (hs.trans (if_pos (by simp [h])))
        have HW := Lib.hid (rwith_any u k hlt)
        clear hs h
        go_wp2_with fail
        refine HC.out.mono ?_
        rintro e w1 ⟨rfl, h1⟩
        obtain ⟨R, U, hB⟩ := HX.out
        have R1 := R.keep h1
        have U1 := U.keep h1
        have hB1 := bstep hB h1
        obtain ⟨u0, u1, u2, u3, fu0, fu1, fu2, fu3⟩ := U1.get4
        have HX1 := Lib.hid (And.intro R1 (And.intro U1 hB1))
        clear HX HC R U hB R1 U1 hB1 h1
        go_wp2_with fail
        refine (HW.out _).mono ?_
        rintro e w2 ⟨rfl, h2⟩
        obtain ⟨R, U, hB⟩ := HX1.out
        have R1 := R.keep h2
        have U1 := U.keep h2
        have hB1 := bstep hB h2
        have hG := grown_set4 w2 (w.heap.size + 1) (.int .u64 (lb (u ||| 2 ^ k) 0)) (.int .u64 (lb (u ||| 2 ^ k) 1)) (.int .u64 (lb (u ||| 2 ^ k) 2)) (.int .u64 (lb (u ||| 2 ^ k) 3))
        have hE := Lib.hid (And.intro (R1.kept hG (by intro e; injection e; omega)) (And.intro (U1.set4 (u ||| 2 ^ k)) (step_world hB1 hG (Nat.le_refl _) (by omega))))
        clear u0 u1 u2 u3 fu0 fu1 fu2 fu3
        obtain ⟨u0, u1, u2, u3, fu0, fu1, fu2, fu3⟩ := U1.get4
        clear HX1 HW R U hB R1 U1 hB1 h2 hG
        go_wp2_with fail
        go_roundw
        case rel => exact ⟨k + 1, by omega, by go_num, hE.out.1, by rw [HS.out]; exact hE.out.2.1, hE.out.2.2⟩
        case measure => simp [intOf]; omega
      · have g0 : (c : Int).tmod 2 = (c : Int) % 2 := Int.tmod_eq_emod_of_nonneg (by omega)
        have g : ((c : Int) % 2 == 1) = false := by simp; omega
        have HS := Lib.hid (hs.trans (if_neg (by simp [h])))
        clear hs h
        go_wp2_with fail
        refine HC.out.mono ?_
        rintro e w1 ⟨rfl, h1⟩
        obtain ⟨R, U, hB⟩ := HX.out
        have hE := Lib.hid (And.intro (R.keep h1) (And.intro (U.keep h1) (bstep hB h1)))
        clear HX HC R U hB h1
        go_wp2_with fail
        go_roundw
        case rel => exact ⟨k + 1, by omega, by go_num, hE.out.1, by rw [HS.out]; exact hE.out.2.1, hE.out.2.2⟩
        case measure => simp [intOf]; omega
    · obtain rfl : k = 256 := by omega
      obtain ⟨r0, r1, r2, r3, f0, f1, f2, f3⟩ := R.get4
      obtain ⟨u0, u1, u2, u3, _, _, _, _⟩ := U.get4
      have HB := Lib.hid hB
      clear R U hB hc
      go_wp2
      exact bodyPost_ret (v := W (upto (fun j => cntN f j n % 2 == 1) 256)) (by simp [results, Tryd.results13, go_sem, r0, r1, r2, r3]) rfl ⟨rfl, step_world HB.out (grown_set4 wr w.heap.size _ _ _ _) (Nat.le_refl _) (Nat.le_refl _)⟩
end Go.Proofs.YthjbiojbmjgkbaaDoor
