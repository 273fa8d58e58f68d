/- split's law: works: what its rows want, at their words. -/
import Derived.Test.YthdapmceafnhgaaTi
import Derived.Test.YthdapmceafnhgaaWx
import Derived.Test.YthdapmceafnhgaaWz
namespace Go.Proofs.Ythdapmceafnhgaa
open Go.RowKit Go.Shelf
attribute [local go_sem] ix0 ix1 ix2 ix3
attribute [local go_sem] Oper.semAt_some
theorem rof_int (n : Int) (w : World) :
    Calls Try.prog 10 #[.int .u64 n] w fun e w' => e = .returned (.agg #[.int .u64 n, .int .u64 0, .int .u64 0, .int .u64 0]) ∧ Below w.heap.size w w' := by
  go_enter Try.func10, Try.ntmps10
  go_wp2
  exact bodyPost_ret (v := .agg #[.int .u64 n, .int .u64 0, .int .u64 0, .int .u64 0]) (by simp [results, Try.results10, go_sem]) rfl ⟨rfl, by first | exact (Below.refl _ _).alloc (Nat.le_refl _) _ | exact Below.refl _ _⟩
theorem eq_same (t : TypeId) (ht : Try.prog.underlying t = some (.array 4 22)) (a b c d : Int) (w : World) : (binOp .eql t (.agg #[.int .u64 a, .int .u64 b, .int .u64 c, .int .u64 d]) (.agg #[.int .u64 a, .int .u64 b, .int .u64 c, .int .u64 d])).run Try.prog w = .ok (.bool true) w := by
  obtain ⟨i, hi⟩ := Option.isSome_iff_exists.1 info_u64
  have f : ∀ j, j < 4 → (#[Value.int .u64 a, .int .u64 b, .int .u64 c, .int .u64 d] : Array Value)[j]? = some (.int .u64 (([a, b, c, d] : List Int).getD j 0)) := fun j hj => by
    match j, hj with
    | 0, _ | 1, _ | 2, _ | 3, _ => rfl
  rw [run_eql_ints ht (k := .u64) (by kernel_rfl) hi (by kernel_rfl) _ _ (fun j => ([a, b, c, d] : List Int).getD j 0) (fun j => ([a, b, c, d] : List Int).getD j 0) (fun j hj => ⟨f j hj, f j hj⟩) w]
  simp
theorem eq_sameW (a b c d : Int) (w : World) : (binOp .eql 24 (.agg #[.int .u64 a, .int .u64 b, .int .u64 c, .int .u64 d]) (.agg #[.int .u64 a, .int .u64 b, .int .u64 c, .int .u64 d])).run Try.prog w = .ok (.bool true) w := eq_same _ (by kernel_rfl) a b c d w

theorem W_of (n : Nat) (v : Int) (h0 : lb n 0 = v) (h1 : lb n 1 = 0) (h2 : lb n 2 = 0) (h3 : lb n 3 = 0) : W n = .agg #[.int .u64 v, .int .u64 0, .int .u64 0, .int .u64 0] := by unfold W; rw [h0, h1, h2, h3]
theorem W_1 : W 1 = .agg #[.int .u64 1, .int .u64 0, .int .u64 0, .int .u64 0] := W_of 1 1 (by decide +kernel) (by decide +kernel) (by decide +kernel) (by decide +kernel)
theorem W_2 : W 2 = .agg #[.int .u64 2, .int .u64 0, .int .u64 0, .int .u64 0] := W_of 2 2 (by decide +kernel) (by decide +kernel) (by decide +kernel) (by decide +kernel)
theorem W_3 : W 3 = .agg #[.int .u64 3, .int .u64 0, .int .u64 0, .int .u64 0] := W_of 3 3 (by decide +kernel) (by decide +kernel) (by decide +kernel) (by decide +kernel)
theorem W_4 : W 4 = .agg #[.int .u64 4, .int .u64 0, .int .u64 0, .int .u64 0] := W_of 4 4 (by decide +kernel) (by decide +kernel) (by decide +kernel) (by decide +kernel)
theorem W_7 : W 7 = .agg #[.int .u64 7, .int .u64 0, .int .u64 0, .int .u64 0] := W_of 7 7 (by decide +kernel) (by decide +kernel) (by decide +kernel) (by decide +kernel)
theorem W_12 : W 12 = .agg #[.int .u64 12, .int .u64 0, .int .u64 0, .int .u64 0] := W_of 12 12 (by decide +kernel) (by decide +kernel) (by decide +kernel) (by decide +kernel)
theorem W_18 : W 18 = .agg #[.int .u64 18, .int .u64 0, .int .u64 0, .int .u64 0] := W_of 18 18 (by decide +kernel) (by decide +kernel) (by decide +kernel) (by decide +kernel)
theorem W_neg (n : Nat) (v : Int) (h0 : lb (sb 0 n) 0 = v) (h1 : lb (sb 0 n) 1 = 18446744073709551615) (h2 : lb (sb 0 n) 2 = 18446744073709551615) (h3 : lb (sb 0 n) 3 = 18446744073709551615) : W (sb 0 n) = .agg #[.int .u64 v, .int .u64 18446744073709551615, .int .u64 18446744073709551615, .int .u64 18446744073709551615] := by unfold W; rw [h0, h1, h2, h3]
theorem W_m1 : W (sb 0 1) = .agg #[.int .u64 18446744073709551615, .int .u64 18446744073709551615, .int .u64 18446744073709551615, .int .u64 18446744073709551615] := W_neg 1 _ (by decide +kernel) (by decide +kernel) (by decide +kernel) (by decide +kernel)
theorem W_m3 : W (sb 0 3) = .agg #[.int .u64 18446744073709551613, .int .u64 18446744073709551615, .int .u64 18446744073709551615, .int .u64 18446744073709551615] := W_neg 3 _ (by decide +kernel) (by decide +kernel) (by decide +kernel) (by decide +kernel)
theorem W_m7 : W (sb 0 7) = .agg #[.int .u64 18446744073709551609, .int .u64 18446744073709551615, .int .u64 18446744073709551615, .int .u64 18446744073709551615] := W_neg 7 _ (by decide +kernel) (by decide +kernel) (by decide +kernel) (by decide +kernel)
theorem W_top : W (2 ^ 255) = .agg #[.int .u64 0, .int .u64 0, .int .u64 0, .int .u64 9223372036854775808] := by
  have h0 : lb (2 ^ 255) 0 = 0 := by decide +kernel
  have h1 : lb (2 ^ 255) 1 = 0 := by decide +kernel
  have h2 : lb (2 ^ 255) 2 = 0 := by decide +kernel
  have h3 : lb (2 ^ 255) 3 = 9223372036854775808 := by decide +kernel
  unfold W; rw [h0, h1, h2, h3]
theorem m_lt (n : Nat) (h : n < 1000) : n < MM := Nat.lt_trans h (by decide +kernel)

theorem div_works (w : World) : Calls Try.prog 11 #[.agg #[.int .u64 7, .int .u64 0, .int .u64 0, .int .u64 0], .agg #[.int .u64 2, .int .u64 0, .int .u64 0, .int .u64 0]] w fun e w' => e = .returned (.agg #[.int .u64 3, .int .u64 0, .int .u64 0, .int .u64 0]) ∧ Below w.heap.size w w' := by
  have h := div_all 7 2 (m_lt _ (by decide)) (m_lt _ (by decide)) w
  rwa [show 7 / 2 = 3 from rfl, W_7, W_2, W_3] at h
theorem mod_works (w : World) : Calls Try.prog 12 #[.agg #[.int .u64 7, .int .u64 0, .int .u64 0, .int .u64 0], .agg #[.int .u64 0, .int .u64 0, .int .u64 0, .int .u64 0]] w fun e w' => e = .returned (.agg #[.int .u64 0, .int .u64 0, .int .u64 0, .int .u64 0]) ∧ Below w.heap.size w w' := by
  have h := mod_nought 7 w
  rwa [W_7, W_zero] at h
theorem sdiv_works (w : World) : Calls Try.prog 13 #[.agg #[.int .u64 18446744073709551609, .int .u64 18446744073709551615, .int .u64 18446744073709551615, .int .u64 18446744073709551615], .agg #[.int .u64 2, .int .u64 0, .int .u64 0, .int .u64 0]] w fun e w' => e = .returned (.agg #[.int .u64 18446744073709551613, .int .u64 18446744073709551615, .int .u64 18446744073709551615, .int .u64 18446744073709551615]) ∧ Below w.heap.size w w' := by
  have h := sdiv_any (sb 0 7) 2 (by decide +kernel) (m_lt _ (by decide)) w
  rwa [show sdN (sb 0 7) 2 = sb 0 3 by decide +kernel, W_m7, W_2, W_m3] at h
theorem smod_works (w : World) : Calls Try.prog 15 #[.agg #[.int .u64 18446744073709551609, .int .u64 18446744073709551615, .int .u64 18446744073709551615, .int .u64 18446744073709551615], .agg #[.int .u64 2, .int .u64 0, .int .u64 0, .int .u64 0]] w fun e w' => e = .returned (.agg #[.int .u64 18446744073709551615, .int .u64 18446744073709551615, .int .u64 18446744073709551615, .int .u64 18446744073709551615]) ∧ Below w.heap.size w w' := by
  have h := smod_any (sb 0 7) 2 (by decide +kernel) (m_lt _ (by decide)) w
  rwa [show smN (sb 0 7) 2 = sb 0 1 by decide +kernel, W_m7, W_2, W_m1] at h
theorem addmod_works (w : World) : Calls Try.prog 16 #[.agg #[.int .u64 18446744073709551615, .int .u64 18446744073709551615, .int .u64 18446744073709551615, .int .u64 18446744073709551615], .agg #[.int .u64 2, .int .u64 0, .int .u64 0, .int .u64 0], .agg #[.int .u64 2, .int .u64 0, .int .u64 0, .int .u64 0]] w fun e w' => e = .returned (.agg #[.int .u64 1, .int .u64 0, .int .u64 0, .int .u64 0]) ∧ Below w.heap.size w w' := by
  have h := addmod_any (sb 0 1) 2 2 (by decide +kernel) (m_lt _ (by decide)) (m_lt _ (by decide)) w
  rwa [show mdN (sb 0 1 + 2) 2 = 1 by decide +kernel, W_m1, W_2, W_1] at h
theorem mulmod_works (w : World) : Calls Try.prog 17 #[.agg #[.int .u64 0, .int .u64 0, .int .u64 0, .int .u64 9223372036854775808], .agg #[.int .u64 4, .int .u64 0, .int .u64 0, .int .u64 0], .agg #[.int .u64 7, .int .u64 0, .int .u64 0, .int .u64 0]] w fun e w' => e = .returned (.agg #[.int .u64 4, .int .u64 0, .int .u64 0, .int .u64 0]) ∧ Below w.heap.size w w' := by
  have h := mulmod_any (2 ^ 255) 4 7 (by decide +kernel) (m_lt _ (by decide)) (m_lt _ (by decide)) w
  rwa [show mdN (2 ^ 255 * 4) 7 = 4 by decide +kernel, W_top, W_4, W_7] at h
theorem steps_works (w : World) : Calls Try.prog 5 #[.agg #[.int .u64 12, .int .u64 0, .int .u64 0, .int .u64 0], .agg #[.int .u64 18, .int .u64 0, .int .u64 0, .int .u64 0]] w fun e w' => e = .returned (.func (.func 8) #[] #[.pointer (some ⟨w.heap.size, 0, none⟩), .pointer (some ⟨w.heap.size + 1, 0, none⟩)]) ∧ w' = (w.alloc (.cells (Wc 12) 24)).alloc (.cells (Wc 18) 24) := by
  have h := steps_any 12 18 w
  rwa [W_12, W_18] at h
theorem below_any (n : Nat) (hn : n < B64) (w : World) : Calls Try.prog 14 #[.int .u64 n] w fun e w' => e = .returned (W (sb 0 n)) ∧ Below w.heap.size w w' := by
  have hs := fun w => rsub_any 0 n w
  rw [W_zero] at hs
  have HR := Lib.hid (Blk.new w 24 #[.int .u64 0, .int .u64 0, .int .u64 0, .int .u64 0])
  go_enter Try.func14, Try.ntmps14
  go_wp2_with fail
  refine (rof_any n hn _).mono ?_
  rintro e w1 ⟨rfl, h1⟩
  go_wp2_with fail
  refine (hs _).mono ?_
  rintro e w2 ⟨rfl, h2⟩
  have hr := (HR.out.keep h1).keep h2
  have hB := bstep (bstep (balloc (Below.refl _ _) _) h1) h2
  have r0 := cell_of_row w2 _ 0 _ _ _ hr
  have r1 := cell_of_row w2 _ 1 _ _ _ hr
  have r2 := cell_of_row w2 _ 2 _ _ _ hr
  have r3 := cell_of_row w2 _ 3 _ _ _ hr
  have f0 := frozen_of_row w2 _ 0 _ _ hr
  have f1 := frozen_of_row w2 _ 1 _ _ hr
  have f2 := frozen_of_row w2 _ 2 _ _ hr
  have f3 := frozen_of_row w2 _ 3 _ _ hr
  clear hr h1 h2 hs HR
  go_wp2
  exact bodyPost_ret (v := W (sb 0 n)) (by simp [results, Try.results14, go_sem, r0, r1, r2, r3]) rfl ⟨rfl, (((hB.setCell (p := ⟨w.heap.size, 0, none⟩) (by simp) _).setCell (p := ⟨w.heap.size, 1, none⟩) (by simp) _).setCell (p := ⟨w.heap.size, 2, none⟩) (by simp) _).setCell (p := ⟨w.heap.size, 3, none⟩) (by simp) _⟩
theorem below_1 (w : World) : Calls Try.prog 14 #[.int .u64 1] w fun e w' => e = .returned (.agg #[.int .u64 18446744073709551615, .int .u64 18446744073709551615, .int .u64 18446744073709551615, .int .u64 18446744073709551615]) ∧ Below w.heap.size w w' := by
  have h := below_any 1 (by decide) w
  rwa [W_m1] at h
theorem below_3 (w : World) : Calls Try.prog 14 #[.int .u64 3] w fun e w' => e = .returned (.agg #[.int .u64 18446744073709551613, .int .u64 18446744073709551615, .int .u64 18446744073709551615, .int .u64 18446744073709551615]) ∧ Below w.heap.size w w' := by
  have h := below_any 3 (by decide) w
  rwa [W_m3] at h
theorem below_7 (w : World) : Calls Try.prog 14 #[.int .u64 7] w fun e w' => e = .returned (.agg #[.int .u64 18446744073709551609, .int .u64 18446744073709551615, .int .u64 18446744073709551615, .int .u64 18446744073709551615]) ∧ Below w.heap.size w w' := by
  have h := below_any 7 (by decide) w
  rwa [W_m7] at h
end Go.Proofs.Ythdapmceafnhgaa
