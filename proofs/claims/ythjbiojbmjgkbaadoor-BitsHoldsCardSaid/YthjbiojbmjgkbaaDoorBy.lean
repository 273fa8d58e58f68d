/- The reference of layer bits: Down. -/
import Derived.Test.YthjbiojbmjgkbaaDoorBx
namespace Go.Proofs.YthjbiojbmjgkbaaDoor
open Go.RowKit
attribute [local go_sem] ix0 ix1 ix2 ix3
theorem downF_in (m a : Nat) (s : Bool) (k : Nat) (h : k + m < 256) : downF m a s k = a.testBit (k + m) := by
  have h2 : ¬ 256 ≤ k + m := by omega
  unfold downF; simp [h, h2]
theorem downF_out (m a : Nat) (s : Bool) (k : Nat) (h : ¬ k + m < 256) : downF m a s k = s := by
  have h2 : 256 ≤ k + m := by omega
  unfold downF; simp [h, h2]
attribute [local irreducible] lb upto downF
set_option maxRecDepth 100000 in
set_option maxHeartbeats 4000000 in
theorem rdown_any (n a : Nat) (hn : n < MM) (s : Bool) (w : World) :
    Calls Tryd.prog 21 #[W n, W a, .bool s] w fun e w' => e = .returned (W (upto (downF (byN n) a s) 256)) ∧ Below w.heap.size w w' := by
  obtain ⟨m, hm⟩ : ∃ m, byN n = m := ⟨_, rfl⟩
  have hm2 := byN_le n
  have hby := by_any n hn
  rw [hm] at hm2 hby ⊢
  have HBY := Lib.hid hby
  have N0 := (((Blk.new w 25 (Wc n)).alloc (.cells (Wc a) 25)).alloc (.cells Zc 25)).alloc (.cells Zc 25)
  have A0 := ((Blk.newS w (.cells (Wc n) 25) 25 (Wc a)).alloc (.cells Zc 25)).alloc (.cells Zc 25)
  have R0 := box4 w (.cells (Wc n) 25) (.cells (Wc a) 25) (.cells Zc 25) 25 Zc
  have U0 : Blk ((((w.alloc (.cells (Wc n) 25)).alloc (.cells (Wc a) 25)).alloc (.cells Zc 25)).alloc (.cells Zc 25)) (w.heap.size + 1 + 1 + 1) 25 (Wc (upto (downF m a s) 0)) := by
    have h := Blk.newS ((w.alloc (.cells (Wc n) 25)).alloc (.cells (Wc a) 25)) (.cells Zc 25) 25 Zc
    rw [World.size_alloc, World.size_alloc] at h
    rw [show upto (downF m a s) 0 = 0 by rw [upto], show Wc 0 = Zc by unfold Wc; simp only [lb_zero]]
    exact h
  have HX := Lib.hid (And.intro N0 (And.intro A0 (And.intro R0 (And.intro U0 (balloc (balloc (balloc (balloc (Below.refl w.heap.size w) (.cells (Wc n) 25)) (.cells (Wc a) 25)) (.cells Zc 25)) (.cells Zc 25))))))
  clear N0 A0 R0 U0 hm hn hby
  go_enter Tryd.func21, Tryd.ntmps21
  go_wp2_with fail
  go_loopw [8] (fun i wr => ∃ k : Nat, k ≤ 256 ∧ i = .int .i64 k ∧ Blk wr w.heap.size 25 (Wc n) ∧ Blk wr (w.heap.size + 1) 25 (Wc a) ∧ Blk wr (w.heap.size + 1 + 1) 25 Zc ∧ Blk wr (w.heap.size + 1 + 1 + 1) 25 (Wc (upto (downF m a s) k)) ∧ Below w.heap.size w wr) (fun i _ => 256 - (intOf i).toNat)
  case atStart => exact ⟨0, by omega, rfl, HX.out⟩
  case round =>
    clear HX
    obtain ⟨k, hk, rfl, N0, A0, R0, U0, hB⟩ := hrel
    by_cases hlt : k < 256
    · have hs : upto (downF m a s) (k + 1) = if downF m a s k then upto (downF m a s) k ||| 2 ^ k else upto (downF m a s) k := by rw [upto]
      generalize upto (downF m a s) k = u at *
      have g1 : IntKind.i64.wrap ((k : Int) + m) = ((k + m : Nat) : Int) := by rw [IntWalk.i64_in _ (by omega)]; omega
      have HW := Lib.hid (rwith_any u k hlt)
      obtain ⟨n0, n1, n2, n3, _, _, _, _⟩ := N0.get4
      have HX := Lib.hid (And.intro N0 (And.intro A0 (And.intro R0 (And.intro U0 hB))))
      clear N0 A0 R0 U0 hB
      by_cases hin : k + m < 256
      · have hF := downF_in m a s k hin
        rw [hF] at hs
        have hbit := rbit_any a (k + m) hin
        rw [bit_ref] at hbit
        have g2 : ((k + m : Nat) : Int) < 256 := by omega
        have g3 : ¬ (256 : Int) ≤ ((k + m : Nat) : Int) := by omega
        generalize k + m = q at *
        obtain ⟨t, ht⟩ : ∃ t, a.testBit q = t := ⟨_, rfl⟩
        rw [ht] at hs hbit
        have HBIT := Lib.hid hbit
        have HS := Lib.hid hs
        clear hs hF hbit ht
        go_wp2_with fail
        refine (HBY.out _).mono ?_
        rintro e w1 ⟨rfl, h1⟩
        obtain ⟨N0, A0, R0, U0, hB⟩ := HX.out
        have HX1 := Lib.hid (And.intro (N0.keep h1) (And.intro (A0.keep h1) (And.intro (R0.keep h1) (And.intro (U0.keep h1) (bstep hB h1)))))
        obtain ⟨b0, b1, b2, b3, _, _, _, _⟩ := (A0.keep h1).get4
        clear HX N0 A0 R0 U0 hB h1 n0 n1 n2 n3
        go_wp2_with fail
        refine (HBIT.out _).mono ?_
        rintro e wk ⟨rfl, hk2⟩
        obtain ⟨N0, A0, R0, U0, hB⟩ := HX1.out
        have HX2 := Lib.hid (And.intro (N0.keep hk2) (And.intro (A0.keep hk2) (And.intro (R0.keep hk2) (And.intro (U0.keep hk2) (bstep hB hk2)))))
        obtain ⟨u0, u1, u2, u3, f0, f1, f2, f3⟩ := (U0.keep hk2).get4
        clear HX1 N0 A0 R0 U0 hB hk2 b0 b1 b2 b3
        cases t with
        | true =>
          go_wp2_with fail
          refine (HW.out _).mono ?_
          rintro e w2 ⟨rfl, h2⟩
          obtain ⟨N1, A1, R1, U1, hB1⟩ := HX2.out
          have hG := grown_set4 w2 (w.heap.size + 1 + 1 + 1) (.int .u64 (lb (u ||| 2 ^ k) 0)) (.int .u64 (lb (u ||| 2 ^ k) 1)) (.int .u64 (lb (u ||| 2 ^ k) 2)) (.int .u64 (lb (u ||| 2 ^ k) 3))
          have hE := Lib.hid (And.intro ((N1.keep h2).kept hG (by intro e; injection e; omega)) (And.intro ((A1.keep h2).kept hG (by intro e; injection e; omega)) (And.intro ((R1.keep h2).kept hG (by intro e; injection e; omega)) (And.intro ((U1.keep h2).set4 (u ||| 2 ^ k)) (step_world (bstep hB1 h2) hG (Nat.le_refl _) (by omega))))))
          clear u0 u1 u2 u3 f0 f1 f2 f3
          obtain ⟨u0, u1, u2, u3, f0, f1, f2, f3⟩ := (U1.keep h2).get4
          clear HX2 N1 A1 R1 U1 hB1 h2 hG
          go_wp2_with fail
          go_roundw
          case rel => exact ⟨k + 1, by omega, by go_num, hE.out.1, hE.out.2.1, hE.out.2.2.1, by rw [HS.out]; exact hE.out.2.2.2.1, hE.out.2.2.2.2⟩
          case measure => simp [intOf]; omega
        | false =>
          clear u0 u1 u2 u3 f0 f1 f2 f3
          go_wp2_with fail
          go_roundw
          case rel => exact ⟨k + 1, by omega, by go_num, HX2.out.1, HX2.out.2.1, HX2.out.2.2.1, by rw [HS.out]; exact HX2.out.2.2.2.1, HX2.out.2.2.2.2⟩
          case measure => simp [intOf]; omega
      · have hF := downF_out m a s k hin
        rw [hF] at hs
        have g2 : ¬ ((k + m : Nat) : Int) < 256 := by omega
        have g3 : (256 : Int) ≤ ((k + m : Nat) : Int) := by omega
        generalize k + m = q at *
        have HS := Lib.hid hs
        clear hs hF
        go_wp2_with fail
        refine (HBY.out _).mono ?_
        rintro e wk ⟨rfl, hk2⟩
        obtain ⟨N0, A0, R0, U0, hB⟩ := HX.out
        have HX2 := Lib.hid (And.intro (N0.keep hk2) (And.intro (A0.keep hk2) (And.intro (R0.keep hk2) (And.intro (U0.keep hk2) (bstep hB hk2)))))
        obtain ⟨u0, u1, u2, u3, f0, f1, f2, f3⟩ := (U0.keep hk2).get4
        clear HX N0 A0 R0 U0 hB hk2 n0 n1 n2 n3
        cases s with
        | true =>
          go_wp2_with fail
          refine (HW.out _).mono ?_
          rintro e w2 ⟨rfl, h2⟩
          obtain ⟨N1, A1, R1, U1, hB1⟩ := HX2.out
          have hG := grown_set4 w2 (w.heap.size + 1 + 1 + 1) (.int .u64 (lb (u ||| 2 ^ k) 0)) (.int .u64 (lb (u ||| 2 ^ k) 1)) (.int .u64 (lb (u ||| 2 ^ k) 2)) (.int .u64 (lb (u ||| 2 ^ k) 3))
          have hE := Lib.hid (And.intro ((N1.keep h2).kept hG (by intro e; injection e; omega)) (And.intro ((A1.keep h2).kept hG (by intro e; injection e; omega)) (And.intro ((R1.keep h2).kept hG (by intro e; injection e; omega)) (And.intro ((U1.keep h2).set4 (u ||| 2 ^ k)) (step_world (bstep hB1 h2) hG (Nat.le_refl _) (by omega))))))
          clear u0 u1 u2 u3 f0 f1 f2 f3
          obtain ⟨u0, u1, u2, u3, f0, f1, f2, f3⟩ := (U1.keep h2).get4
          clear HX2 N1 A1 R1 U1 hB1 h2 hG
          go_wp2_with fail
          go_roundw
          case rel => exact ⟨k + 1, by omega, by go_num, hE.out.1, hE.out.2.1, hE.out.2.2.1, by rw [HS.out]; exact hE.out.2.2.2.1, hE.out.2.2.2.2⟩
          case measure => simp [intOf]; omega
        | false =>
          clear u0 u1 u2 u3 f0 f1 f2 f3
          go_wp2_with fail
          go_roundw
          case rel => exact ⟨k + 1, by omega, by go_num, HX2.out.1, HX2.out.2.1, HX2.out.2.2.1, by rw [HS.out]; exact HX2.out.2.2.2.1, HX2.out.2.2.2.2⟩
          case measure => simp [intOf]; omega
    · obtain rfl : k = 256 := by omega
      obtain ⟨r0, r1, r2, r3, f0, f1, f2, f3⟩ := R0.get4
      obtain ⟨u0, u1, u2, u3, _, _, _, _⟩ := U0.get4
      have HB := Lib.hid hB
      clear N0 A0 R0 U0 hB
      go_wp2
      exact bodyPost_ret (v := W (upto (downF m a s) 256)) (by simp [results, Tryd.results21, go_sem, r0, r1, r2, r3]) rfl ⟨rfl, step_world HB.out (grown_set4 wr (w.heap.size + 1 + 1) _ _ _ _) (Nat.le_refl _) (by omega)⟩
end Go.Proofs.YthjbiojbmjgkbaaDoor
