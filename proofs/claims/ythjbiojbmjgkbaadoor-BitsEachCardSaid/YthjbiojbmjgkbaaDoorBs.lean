/- bits' law: works: what its rows want, at their words. -/
import Derived.Test.YthjbiojbmjgkbaaDoorBp
namespace Go.Proofs.YthjbiojbmjgkbaaDoor
open Go.RowKit Go.Shelf
attribute [local go_sem] ix0 ix1 ix2 ix3
theorem W_lit (n : Nat) (a b c d : Int) (h : lb n 0 = a ∧ lb n 1 = b ∧ lb n 2 = c ∧ lb n 3 = d) : W n = .agg #[.int .u64 a, .int .u64 b, .int .u64 c, .int .u64 d] := by
  unfold W; rw [h.1, h.2.1, h.2.2.1, h.2.2.2]
theorem shl_works (w : World) : Calls Tryd.prog 18 #[.agg #[.int .u64 255, .int .u64 0, .int .u64 0, .int .u64 0], .agg #[.int .u64 3, .int .u64 0, .int .u64 0, .int .u64 0]] w fun e w' => e = .returned (.agg #[.int .u64 0, .int .u64 0, .int .u64 0, .int .u64 9223372036854775808]) ∧ Below w.heap.size w w' := by
  have h := shl_any 255 3 (by decide +kernel) (by decide +kernel) w
  rwa [(show W (shlN 255 3) = .agg #[.int .u64 0, .int .u64 0, .int .u64 0, .int .u64 9223372036854775808] from W_lit _ _ _ _ _ (by decide +kernel)), (show W (255) = .agg #[.int .u64 255, .int .u64 0, .int .u64 0, .int .u64 0] from W_lit _ _ _ _ _ (by decide +kernel)), (show W (3) = .agg #[.int .u64 3, .int .u64 0, .int .u64 0, .int .u64 0] from W_lit _ _ _ _ _ (by decide +kernel))] at h
theorem shr_works (w : World) : Calls Tryd.prog 20 #[.agg #[.int .u64 1, .int .u64 0, .int .u64 0, .int .u64 0], .agg #[.int .u64 5, .int .u64 0, .int .u64 0, .int .u64 0]] w fun e w' => e = .returned (.agg #[.int .u64 2, .int .u64 0, .int .u64 0, .int .u64 0]) ∧ Below w.heap.size w w' := by
  have h := shr_any 1 5 (by decide +kernel) (by decide +kernel) w
  rwa [(show W (shrN 1 5) = .agg #[.int .u64 2, .int .u64 0, .int .u64 0, .int .u64 0] from W_lit _ _ _ _ _ (by decide +kernel)), (show W (1) = .agg #[.int .u64 1, .int .u64 0, .int .u64 0, .int .u64 0] from W_lit _ _ _ _ _ (by decide +kernel)), (show W (5) = .agg #[.int .u64 5, .int .u64 0, .int .u64 0, .int .u64 0] from W_lit _ _ _ _ _ (by decide +kernel))] at h
theorem sar_works1 (w : World) : Calls Tryd.prog 22 #[.agg #[.int .u64 300, .int .u64 0, .int .u64 0, .int .u64 0], .agg #[.int .u64 18446744073709551615, .int .u64 18446744073709551615, .int .u64 18446744073709551615, .int .u64 18446744073709551615]] w fun e w' => e = .returned (.agg #[.int .u64 18446744073709551615, .int .u64 18446744073709551615, .int .u64 18446744073709551615, .int .u64 18446744073709551615]) ∧ Below w.heap.size w w' := by
  have h := sar_any 300 (MM - 1) (by decide +kernel) (by decide +kernel) w
  rwa [(show W (sarN 300 (MM - 1)) = .agg #[.int .u64 18446744073709551615, .int .u64 18446744073709551615, .int .u64 18446744073709551615, .int .u64 18446744073709551615] from W_lit _ _ _ _ _ (by decide +kernel)), (show W (300) = .agg #[.int .u64 300, .int .u64 0, .int .u64 0, .int .u64 0] from W_lit _ _ _ _ _ (by decide +kernel)), (show W (MM - 1) = .agg #[.int .u64 18446744073709551615, .int .u64 18446744073709551615, .int .u64 18446744073709551615, .int .u64 18446744073709551615] from W_lit _ _ _ _ _ (by decide +kernel))] at h
theorem sar_works2 (w : World) : Calls Tryd.prog 22 #[.agg #[.int .u64 1, .int .u64 0, .int .u64 0, .int .u64 0], .agg #[.int .u64 18446744073709551613, .int .u64 18446744073709551615, .int .u64 18446744073709551615, .int .u64 18446744073709551615]] w fun e w' => e = .returned (.agg #[.int .u64 18446744073709551614, .int .u64 18446744073709551615, .int .u64 18446744073709551615, .int .u64 18446744073709551615]) ∧ Below w.heap.size w w' := by
  have h := sar_any 1 (MM - 3) (by decide +kernel) (by decide +kernel) w
  rwa [(show W (sarN 1 (MM - 3)) = .agg #[.int .u64 18446744073709551614, .int .u64 18446744073709551615, .int .u64 18446744073709551615, .int .u64 18446744073709551615] from W_lit _ _ _ _ _ (by decide +kernel)), (show W (1) = .agg #[.int .u64 1, .int .u64 0, .int .u64 0, .int .u64 0] from W_lit _ _ _ _ _ (by decide +kernel)), (show W (MM - 3) = .agg #[.int .u64 18446744073709551613, .int .u64 18446744073709551615, .int .u64 18446744073709551615, .int .u64 18446744073709551615] from W_lit _ _ _ _ _ (by decide +kernel))] at h
theorem byte_works1 (w : World) : Calls Tryd.prog 24 #[.agg #[.int .u64 31, .int .u64 0, .int .u64 0, .int .u64 0], .agg #[.int .u64 4660, .int .u64 0, .int .u64 0, .int .u64 0]] w fun e w' => e = .returned (.agg #[.int .u64 52, .int .u64 0, .int .u64 0, .int .u64 0]) ∧ Below w.heap.size w w' := by
  have h := byte_any 31 4660 (by decide +kernel) w
  rwa [(show W (byteN 31 4660) = .agg #[.int .u64 52, .int .u64 0, .int .u64 0, .int .u64 0] from W_lit _ _ _ _ _ (by decide +kernel)), (show W (31) = .agg #[.int .u64 31, .int .u64 0, .int .u64 0, .int .u64 0] from W_lit _ _ _ _ _ (by decide +kernel)), (show W (4660) = .agg #[.int .u64 4660, .int .u64 0, .int .u64 0, .int .u64 0] from W_lit _ _ _ _ _ (by decide +kernel))] at h
theorem byte_works2 (w : World) : Calls Tryd.prog 24 #[.agg #[.int .u64 32, .int .u64 0, .int .u64 0, .int .u64 0], .agg #[.int .u64 1, .int .u64 0, .int .u64 0, .int .u64 0]] w fun e w' => e = .returned (.agg #[.int .u64 0, .int .u64 0, .int .u64 0, .int .u64 0]) ∧ Below w.heap.size w w' := by
  have h := byte_any 32 1 (by decide +kernel) w
  rwa [(show W (byteN 32 1) = .agg #[.int .u64 0, .int .u64 0, .int .u64 0, .int .u64 0] from W_lit _ _ _ _ _ (by decide +kernel)), (show W (32) = .agg #[.int .u64 32, .int .u64 0, .int .u64 0, .int .u64 0] from W_lit _ _ _ _ _ (by decide +kernel)), (show W (1) = .agg #[.int .u64 1, .int .u64 0, .int .u64 0, .int .u64 0] from W_lit _ _ _ _ _ (by decide +kernel))] at h
theorem ext_works1 (w : World) : Calls Tryd.prog 26 #[.agg #[.int .u64 0, .int .u64 0, .int .u64 0, .int .u64 0], .agg #[.int .u64 255, .int .u64 0, .int .u64 0, .int .u64 0]] w fun e w' => e = .returned (.agg #[.int .u64 18446744073709551615, .int .u64 18446744073709551615, .int .u64 18446744073709551615, .int .u64 18446744073709551615]) ∧ Below w.heap.size w w' := by
  have h := ext_any 0 255 (by decide +kernel) (by decide +kernel) w
  rwa [(show W (extN 0 255) = .agg #[.int .u64 18446744073709551615, .int .u64 18446744073709551615, .int .u64 18446744073709551615, .int .u64 18446744073709551615] from W_lit _ _ _ _ _ (by decide +kernel)), (show W (0) = .agg #[.int .u64 0, .int .u64 0, .int .u64 0, .int .u64 0] from W_lit _ _ _ _ _ (by decide +kernel)), (show W (255) = .agg #[.int .u64 255, .int .u64 0, .int .u64 0, .int .u64 0] from W_lit _ _ _ _ _ (by decide +kernel))] at h
theorem ext_works2 (w : World) : Calls Tryd.prog 26 #[.agg #[.int .u64 31, .int .u64 0, .int .u64 0, .int .u64 0], .agg #[.int .u64 5, .int .u64 0, .int .u64 0, .int .u64 0]] w fun e w' => e = .returned (.agg #[.int .u64 5, .int .u64 0, .int .u64 0, .int .u64 0]) ∧ Below w.heap.size w w' := by
  have h := ext_any 31 5 (by decide +kernel) (by decide +kernel) w
  rwa [(show W (extN 31 5) = .agg #[.int .u64 5, .int .u64 0, .int .u64 0, .int .u64 0] from W_lit _ _ _ _ _ (by decide +kernel)), (show W (31) = .agg #[.int .u64 31, .int .u64 0, .int .u64 0, .int .u64 0] from W_lit _ _ _ _ _ (by decide +kernel)), (show W (5) = .agg #[.int .u64 5, .int .u64 0, .int .u64 0, .int .u64 0] from W_lit _ _ _ _ _ (by decide +kernel))] at h
theorem len_works (w : World) : Calls Tryd.prog 30 #[.agg #[.int .u64 255, .int .u64 0, .int .u64 0, .int .u64 0]] w fun e w' => e = .returned (.int .i64 8) ∧ Below w.heap.size w w' := by
  have h := len_any 255 (by decide +kernel) w
  rwa [show ((lenN 255 : Nat) : Int) = 8 by decide +kernel, (show W (255) = .agg #[.int .u64 255, .int .u64 0, .int .u64 0, .int .u64 0] from W_lit _ _ _ _ _ (by decide +kernel))] at h
theorem and_works (w : World) : Calls Tryd.prog 12 #[.slice none 0 0] w fun e w' => e = .returned (.agg #[.int .u64 18446744073709551615, .int .u64 18446744073709551615, .int .u64 18446744073709551615, .int .u64 18446744073709551615]) ∧ Below w.heap.size w w' := by
  have h := and_nil w
  rwa [W_all] at h
theorem xor_works (X : World) : Calls Tryd.prog 15 #[.slice (some ⟨X.heap.size, 0, none⟩) 2 2] (X.alloc (.cells #[.int .u64 6, .int .u64 0, .int .u64 0, .int .u64 0, .int .u64 3, .int .u64 0, .int .u64 0, .int .u64 0] 25)) fun e w' => e = .returned (.agg #[.int .u64 5, .int .u64 0, .int .u64 0, .int .u64 0]) ∧ Below X.heap.size X w' := by
  have h := xor2_new 6 3 X
  have e : Pc 6 3 = #[.int .u64 6, .int .u64 0, .int .u64 0, .int .u64 0, .int .u64 3, .int .u64 0, .int .u64 0, .int .u64 0] := by
    have h6 : lb 6 0 = 6 ∧ lb 6 1 = 0 ∧ lb 6 2 = 0 ∧ lb 6 3 = 0 := by decide +kernel
    have h3 : lb 3 0 = 3 ∧ lb 3 1 = 0 ∧ lb 3 2 = 0 ∧ lb 3 3 = 0 := by decide +kernel
    unfold Pc; rw [h6.1, h6.2.1, h6.2.2.1, h6.2.2.2, h3.1, h3.2.1, h3.2.2.1, h3.2.2.2]
  rwa [e, (show W (6 ^^^ 3) = .agg #[.int .u64 5, .int .u64 0, .int .u64 0, .int .u64 0] from W_lit _ _ _ _ _ (by decide +kernel))] at h
theorem each_works (w : World) : Calls Tryd.prog 29 #[.agg #[.int .u64 10, .int .u64 0, .int .u64 0, .int .u64 0]] w fun e w' => e = .returned (.func (.func 60) #[] #[.pointer (some ⟨w.heap.size, 0, none⟩)]) ∧ w' = w.alloc (.cells (Wc 10) 25) := by
  have h := each_any 10 w
  rwa [(show W (10) = .agg #[.int .u64 10, .int .u64 0, .int .u64 0, .int .u64 0] from W_lit _ _ _ _ _ (by decide +kernel))] at h

theorem below3_any (n : Nat) (hn : n < B64) (w : World) : Calls Tryd.prog 44 #[.int .u64 n] w fun e w' => e = .returned (W (sb 0 n)) ∧ Below w.heap.size w w' := by
  have hs := Lib.hid (fun w => rsub_any 0 n w)
  have HR := Lib.hid (Blk.new w 25 Zc)
  go_enter Tryd.func44, Tryd.ntmps44
  go_wp2_with fail
  refine (rof_any n hn _).mono ?_
  rintro e w1 ⟨rfl, h1⟩
  have H1 := Lib.hid (And.intro (HR.out.keep h1) (bstep (balloc (Below.refl _ _) _) h1))
  clear HR h1
  go_wp2_with fail
  rw [← W_zero]
  refine (hs.out _).mono ?_
  rintro e w2 ⟨rfl, h2⟩
  obtain ⟨r0, r1, r2, r3, f0, f1, f2, f3⟩ := (H1.out.1.keep h2).get4
  have HB := Lib.hid (bstep H1.out.2 h2)
  clear H1 h2 hs
  go_wp2
  exact bodyPost_ret (v := W (sb 0 n)) (by simp [results, Tryd.results44, go_sem, r0, r1, r2, r3]) rfl ⟨rfl, step_world HB.out (grown_set4 w2 w.heap.size _ _ _ _) (Nat.le_refl _) (Nat.le_refl _)⟩
theorem below3_1 (w : World) : Calls Tryd.prog 44 #[.int .u64 1] w fun e w' => e = .returned (.agg #[.int .u64 18446744073709551615, .int .u64 18446744073709551615, .int .u64 18446744073709551615, .int .u64 18446744073709551615]) ∧ Below w.heap.size w w' := by
  have h := below3_any 1 (by decide) w
  rwa [(show W (sb 0 1) = .agg #[.int .u64 18446744073709551615, .int .u64 18446744073709551615, .int .u64 18446744073709551615, .int .u64 18446744073709551615] from W_lit _ _ _ _ _ (by decide +kernel))] at h
theorem below3_2 (w : World) : Calls Tryd.prog 44 #[.int .u64 2] w fun e w' => e = .returned (.agg #[.int .u64 18446744073709551614, .int .u64 18446744073709551615, .int .u64 18446744073709551615, .int .u64 18446744073709551615]) ∧ Below w.heap.size w w' := by
  have h := below3_any 2 (by decide) w
  rwa [(show W (sb 0 2) = .agg #[.int .u64 18446744073709551614, .int .u64 18446744073709551615, .int .u64 18446744073709551615, .int .u64 18446744073709551615] from W_lit _ _ _ _ _ (by decide +kernel))] at h
theorem below3_3 (w : World) : Calls Tryd.prog 44 #[.int .u64 3] w fun e w' => e = .returned (.agg #[.int .u64 18446744073709551613, .int .u64 18446744073709551615, .int .u64 18446744073709551615, .int .u64 18446744073709551615]) ∧ Below w.heap.size w w' := by
  have h := below3_any 3 (by decide) w
  rwa [(show W (sb 0 3) = .agg #[.int .u64 18446744073709551613, .int .u64 18446744073709551615, .int .u64 18446744073709551615, .int .u64 18446744073709551615] from W_lit _ _ _ _ _ (by decide +kernel))] at h
end Go.Proofs.YthjbiojbmjgkbaaDoor
