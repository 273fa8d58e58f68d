/- Layer word: what the carrying sum and difference of the library come to, likeness of words, and the small functions. -/
import Derived.Test.YtimmcljpfpimbaaDoorRows
import Derived.Test.YtimmcljpfpimbaaDoorWmath
import Derived.Test.YtimmcljpfpimbaaDoorWlaw
import Derived.WalkKit
import Derived.WalkSpells
import Derived.WalkLawsBesides
import Derived.Lib.Hide
import Derived.Deep.QuietTactic
import Derived.BigQuiet
namespace Go.Proofs.YtimmcljpfpimbaaDoor
open Go.RowKit

/-- The word of a number, as a value. -/
abbrev W (n : Nat) : Value := .agg #[.int .u64 (lb n 0), .int .u64 (lb n 1), .int .u64 (lb n 2), .int .u64 (lb n 3)]
/-- Its cells. -/
abbrev Wc (n : Nat) : Array Value := #[.int .u64 (lb n 0), .int .u64 (lb n 1), .int .u64 (lb n 2), .int .u64 (lb n 3)]

theorem natLb (n i : Nat) : ((n / B64 ^ i % B64 : Nat) : Int) = lb n i := rfl

theorem add64_i (a b i : Nat) (w : World) :
    (callFunc 33 #[.int .u64 (lb a i), .int .u64 (lb b i), .int .u64 (cy a b i)]).run Tryd.prog w =
      .ok (.value (.tuple #[.int .u64 (lb (a + b) i), .int .u64 (cy a b (i + 1))])) w := by
  have hc : 0 ≤ cy a b i ∧ cy a b i ≤ 1 := ⟨Int.natCast_nonneg _, by have := cy_le a b i; unfold cy; exact Int.ofNat_le.2 this⟩
  rw [run_callFunc_extern (fn := Tryd.f33) (by kernel_rfl) (by kernel_rfl) (by kernel_rfl) (by kernel_rfl) (e := add64Entry) (by kernel_rfl), run_add64 _ _ _ (lb_nonneg _ _) (lb_nonneg _ _) hc.1 hc.2]
  simp only [Result.andThen]
  have h1 : (lb a i + lb b i + cy a b i) % 18446744073709551616 = lb (a + b) i := by
    unfold lb cy; rw [← lb_add a b i]; simp only [Int.natCast_emod, Int.natCast_add]; rfl
  have h2 : (lb a i + lb b i + cy a b i) / 18446744073709551616 = cy a b (i + 1) := by
    unfold lb cy; rw [← cy_add a b i]; simp only [Int.natCast_ediv, Int.natCast_add]; rfl
  rw [h1, h2]

theorem add64_0 (a b : Nat) (w : World) :
    (callFunc 33 #[.int .u64 (lb a 0), .int .u64 (lb b 0), .int .u64 0]).run Tryd.prog w =
      .ok (.value (.tuple #[.int .u64 (lb (a + b) 0), .int .u64 (cy a b 1)])) w := by
  have h := add64_i a b 0 w
  rwa [cy_zero] at h

theorem sub64_raw (x y b : Nat) (hb : b ≤ 1) (w : World) :
    (callFunc 35 #[.int .u64 x, .int .u64 y, .int .u64 b]).run Tryd.prog w =
      .ok (.value (.tuple #[.int .u64 (((x + 18446744073709551616 - y - b) % 18446744073709551616 : Nat) : Int), .int .u64 ((if x < y + b then 1 else 0 : Nat) : Int)])) w := by
  have : b = 0 ∨ b = 1 := by omega
  rcases this with rfl | rfl
  · rfl
  · rfl

theorem sub64_i (a b i : Nat) (hi : i < 4) (w : World) :
    (callFunc 35 #[.int .u64 (lb a i), .int .u64 (lb b i), .int .u64 (bw a b i)]).run Tryd.prog w =
      .ok (.value (.tuple #[.int .u64 (lb (sb a b) i), .int .u64 (bw a b (i + 1))])) w := by
  have h := sub64_raw (a / B64 ^ i % B64) (b / B64 ^ i % B64) (if a % B64 ^ i < b % B64 ^ i then 1 else 0) (by split <;> omega) w
  have e1 := lb_sub a b i hi
  have e2 := bw_sub a b i
  unfold bw lb
  rw [h, e2, ← e1]; rfl

theorem sub64_0 (a b : Nat) (w : World) :
    (callFunc 35 #[.int .u64 (lb a 0), .int .u64 (lb b 0), .int .u64 0]).run Tryd.prog w =
      .ok (.value (.tuple #[.int .u64 (lb (sb a b) 0), .int .u64 (bw a b 1)])) w := by
  have h := sub64_i a b 0 (by omega) w
  rwa [bw_zero] at h

/-- num: an error's number. -/
theorem num_any (a : Int) (w : World) :
    Calls Tryd.prog 29 #[.int .i64 a] w fun e w' => e = .returned (.int .i64 a) ∧ w = w' := by
  go_enter Tryd.func29, Tryd.ntmps29
  go_wp2
  go_ret
  exact ⟨rfl, rfl⟩

theorem ix0 (x0 x1 x2 x3 : Value) (w : World) : (Instr.index 24 (.agg #[x0, x1, x2, x3]) (.int .i64 0)).run Tryd.prog w = .ok x0 w := by kernel_rfl
theorem ix1 (x0 x1 x2 x3 : Value) (w : World) : (Instr.index 24 (.agg #[x0, x1, x2, x3]) (.int .i64 1)).run Tryd.prog w = .ok x1 w := by kernel_rfl
theorem ix2 (x0 x1 x2 x3 : Value) (w : World) : (Instr.index 24 (.agg #[x0, x1, x2, x3]) (.int .i64 2)).run Tryd.prog w = .ok x2 w := by kernel_rfl
theorem ix3 (x0 x1 x2 x3 : Value) (w : World) : (Instr.index 24 (.agg #[x0, x1, x2, x3]) (.int .i64 3)).run Tryd.prog w = .ok x3 w := by kernel_rfl
attribute [local go_sem] ix0 ix1 ix2 ix3

theorem sub_any (a b : Nat) (w : World) :
    Calls Tryd.prog 13 #[W a, W b] w fun e w' => e = .returned (W (sb a b)) ∧ Below w.heap.size w w' := by
  have k0 := sub64_0 a b
  have k1 := sub64_i a b 1 (by omega)
  have k2 := sub64_i a b 2 (by omega)
  have k3 := sub64_i a b 3 (by omega)
  go_enter Tryd.func13, Tryd.ntmps13
  go_wp2
  refine wp_loop_rounds 5 ?_
  iterate 5 (rw [rounds_succ]; go_wp2)
  exact bodyPost_ret (v := W (sb a b)) (by simp [results, Tryd.results13, go_sem]) rfl ⟨rfl, (((Below.refl _ _).alloc (Nat.le_refl _) _).alloc (by simp) _).alloc (by simp; omega) _⟩

theorem of_any (n : Nat) (h : n < B64) (w : World) :
    Calls Tryd.prog 19 #[.int .u64 n] w fun e w' => e = .returned (W n) ∧ Below w.heap.size w w' := by
  have h0 : (n : Int) = lb n 0 := by unfold lb; rw [Nat.pow_zero, Nat.div_one, Nat.mod_eq_of_lt h]
  have h1 : lb n 1 = 0 := by unfold lb; rw [Nat.div_eq_of_lt (by rw [Nat.pow_one]; exact h)]; rfl
  have h2 : lb n 2 = 0 := by unfold lb; rw [Nat.div_eq_of_lt (by unfold B64 at *; omega)]; rfl
  have h3 : lb n 3 = 0 := by unfold lb; rw [Nat.div_eq_of_lt (by unfold B64 at *; omega)]; rfl
  have e : W n = .agg #[.int .u64 n, .int .u64 0, .int .u64 0, .int .u64 0] := by unfold W; rw [h1, h2, h3, ← h0]
  clear h0 h1 h2 h3
  rw [e]; clear e
  go_enter Tryd.func19, Tryd.ntmps19
  go_wp2
  exact bodyPost_ret (v := .agg #[.int .u64 n, .int .u64 0, .int .u64 0, .int .u64 0]) (by simp [results, Tryd.results19, go_sem]) rfl ⟨rfl, (Below.refl _ _).alloc (Nat.le_refl _) _⟩

theorem info_u64 : (Tryd.prog.info? 22).isSome = true := by kernel_rfl
theorem eqW_raw (t : TypeId) (ht : Tryd.prog.underlying t = some (.array 4 22)) (x y : Nat) (w : World) :
    (binOp .eql t (W x) (W y)).run Tryd.prog w = .ok (.bool (x % MM == y % MM)) w := by
  obtain ⟨i, hi⟩ := Option.isSome_iff_exists.1 info_u64
  have h := run_eql_ints ht (k := .u64) (by kernel_rfl) hi (by kernel_rfl) (Wc x) (Wc y) (lb x) (lb y)
    (fun j hj => by match j, hj with | 0, _ | 1, _ | 2, _ | 3, _ => exact ⟨rfl, rfl⟩) w
  rw [h]
  congr 2
  rw [Bool.eq_iff_iff]
  simp only [List.all_eq_true, List.mem_range, beq_iff_eq]
  rw [← lb_eq_iff]
  exact ⟨fun h => ⟨h 0 (by omega), h 1 (by omega), h 2 (by omega), h 3 (by omega)⟩, fun h j hj => by match j, hj with | 0, _ => exact h.1 | 1, _ => exact h.2.1 | 2, _ => exact h.2.2.1 | 3, _ => exact h.2.2.2⟩
theorem eqW (x y : Nat) (w : World) : (binOp .eql 24 (W x) (W y)).run Tryd.prog w = .ok (.bool (x % MM == y % MM)) w := eqW_raw _ (by kernel_rfl) x y w

theorem bstep {w W w1 : World} (h : Below w.heap.size w W) (k : Below W.heap.size W w1) : Below w.heap.size w w1 := h.trans (k.mono h.size)
theorem balloc {w W : World} (h : Below w.heap.size w W) (o : Obj) : Below w.heap.size w (W.alloc o) := h.alloc h.size o

/-- cmp.Compare of two numbers of 64 bits. -/
theorem compare_any (a b : Int) (w : World) :
    Calls Tryd.prog 40 #[.int .u64 a, .int .u64 b] w fun e w' => e = .returned (.int .i64 (cmpI a b)) ∧ Below w.heap.size w w' := by
  rcases Int.lt_trichotomy a b with h | h | h
  · have E : Hid (cmpI a b = -1) := by unfold cmpI; exact if_pos h
    go_enter Tryd.func40, Tryd.ntmps40
    go_wp2
    go_ret
    rw [E.out]; exact ⟨rfl, Below.refl _ _⟩
  · subst h
    have E : Hid (cmpI a a = 0) := by unfold cmpI; rw [if_neg (by omega), if_neg (by omega)]; rfl
    go_enter Tryd.func40, Tryd.ntmps40
    go_wp2
    go_ret
    rw [E.out]; exact ⟨rfl, Below.refl _ _⟩
  · have h' : ¬ a < b := by omega
    have E : Hid (cmpI a b = 1) := by unfold cmpI; rw [if_neg h', if_pos h]; rfl
    go_enter Tryd.func40, Tryd.ntmps40
    go_wp2
    go_ret
    rw [E.out]; exact ⟨rfl, Below.refl _ _⟩

theorem fu_3 (a b : Nat) (h3 : lb a 3 ≠ lb b 3) (w : World) :
    Calls Tryd.prog 39 #[W a, W b] w fun e w' => e = .returned (.tuple #[.int .u64 (fuN a b), .int .u64 (fuN b a)]) ∧ Below w.heap.size w w' := by
  have E1 : Hid (fuN a b = _) := fuN_3 h3
  have E2 : Hid (fuN b a = _) := fuN_3 (Ne.symm h3)
  have g3 : (lb a 3 != lb b 3) = true := by simpa using h3
  have e3 : (lb a 3 == lb b 3) = false := by simpa using h3
  clear h3
  go_enter Tryd.func39, Tryd.ntmps39
  go_wp2_with fail
  refine wp_loop_rounds 5 ?_
  rw [rounds_succ]; go_wp2_with fail; go_quiet (fail); go_wp2_with fail; go_quiet (fail); go_wp2
  go_ret2
  rw [E1.out, E2.out]
  exact ⟨rfl, by repeat (first | exact ((Below.refl _ _).alloc (Nat.le_refl _) _).alloc (by simp) _ | refine below_drewN ?_ _)⟩

theorem fu_2 (a b : Nat) (h3 : lb a 3 = lb b 3) (h2 : lb a 2 ≠ lb b 2) (w : World) :
    Calls Tryd.prog 39 #[W a, W b] w fun e w' => e = .returned (.tuple #[.int .u64 (fuN a b), .int .u64 (fuN b a)]) ∧ Below w.heap.size w w' := by
  have E1 : Hid (fuN a b = _) := fuN_2 h3 h2
  have E2 : Hid (fuN b a = _) := fuN_2 h3.symm (Ne.symm h2)
  have g3 : (lb a 3 != lb b 3) = false := by rw [h3]; simp
  have e3 : (lb a 3 == lb b 3) = true := by rw [h3]; simp
  have g2 : (lb a 2 != lb b 2) = true := by simpa using h2
  have e2 : (lb a 2 == lb b 2) = false := by simpa using h2
  clear h3 h2
  go_enter Tryd.func39, Tryd.ntmps39
  go_wp2_with fail
  refine wp_loop_rounds 5 ?_
  rw [rounds_succ]; go_wp2_with fail; go_quiet (fail); go_wp2
  rw [rounds_succ]; go_wp2_with fail; go_quiet (fail); go_wp2_with fail; go_quiet (fail); go_wp2
  go_ret2
  rw [E1.out, E2.out]
  exact ⟨rfl, by repeat (first | exact ((Below.refl _ _).alloc (Nat.le_refl _) _).alloc (by simp) _ | refine below_drewN ?_ _)⟩

theorem fu_1 (a b : Nat) (h3 : lb a 3 = lb b 3) (h2 : lb a 2 = lb b 2) (h1 : lb a 1 ≠ lb b 1) (w : World) :
    Calls Tryd.prog 39 #[W a, W b] w fun e w' => e = .returned (.tuple #[.int .u64 (fuN a b), .int .u64 (fuN b a)]) ∧ Below w.heap.size w w' := by
  have E1 : Hid (fuN a b = _) := fuN_1 h3 h2 h1
  have E2 : Hid (fuN b a = _) := fuN_1 h3.symm h2.symm (Ne.symm h1)
  have g3 : (lb a 3 != lb b 3) = false := by rw [h3]; simp
  have e3 : (lb a 3 == lb b 3) = true := by rw [h3]; simp
  have g2 : (lb a 2 != lb b 2) = false := by rw [h2]; simp
  have e2 : (lb a 2 == lb b 2) = true := by rw [h2]; simp
  have g1 : (lb a 1 != lb b 1) = true := by simpa using h1
  have e1 : (lb a 1 == lb b 1) = false := by simpa using h1
  clear h3 h2 h1
  go_enter Tryd.func39, Tryd.ntmps39
  go_wp2_with fail
  refine wp_loop_rounds 5 ?_
  rw [rounds_succ]; go_wp2_with fail; go_quiet (fail); go_wp2
  rw [rounds_succ]; go_wp2_with fail; go_quiet (fail); go_wp2
  rw [rounds_succ]; go_wp2_with fail; go_quiet (fail); go_wp2_with fail; go_quiet (fail); go_wp2
  go_ret2
  rw [E1.out, E2.out]
  exact ⟨rfl, by repeat (first | exact ((Below.refl _ _).alloc (Nat.le_refl _) _).alloc (by simp) _ | refine below_drewN ?_ _)⟩

theorem fu_0 (a b : Nat) (h3 : lb a 3 = lb b 3) (h2 : lb a 2 = lb b 2) (h1 : lb a 1 = lb b 1) (h0 : lb a 0 ≠ lb b 0) (w : World) :
    Calls Tryd.prog 39 #[W a, W b] w fun e w' => e = .returned (.tuple #[.int .u64 (fuN a b), .int .u64 (fuN b a)]) ∧ Below w.heap.size w w' := by
  have E1 : Hid (fuN a b = _) := fuN_0 h3 h2 h1 h0
  have E2 : Hid (fuN b a = _) := fuN_0 h3.symm h2.symm h1.symm (Ne.symm h0)
  have g3 : (lb a 3 != lb b 3) = false := by rw [h3]; simp
  have e3 : (lb a 3 == lb b 3) = true := by rw [h3]; simp
  have g2 : (lb a 2 != lb b 2) = false := by rw [h2]; simp
  have e2 : (lb a 2 == lb b 2) = true := by rw [h2]; simp
  have g1 : (lb a 1 != lb b 1) = false := by rw [h1]; simp
  have e1 : (lb a 1 == lb b 1) = true := by rw [h1]; simp
  have g0 : (lb a 0 != lb b 0) = true := by simpa using h0
  have e0 : (lb a 0 == lb b 0) = false := by simpa using h0
  clear h3 h2 h1 h0
  go_enter Tryd.func39, Tryd.ntmps39
  go_wp2_with fail
  refine wp_loop_rounds 5 ?_
  rw [rounds_succ]; go_wp2_with fail; go_quiet (fail); go_wp2
  rw [rounds_succ]; go_wp2_with fail; go_quiet (fail); go_wp2
  rw [rounds_succ]; go_wp2_with fail; go_quiet (fail); go_wp2
  rw [rounds_succ]; go_wp2_with fail; go_quiet (fail); go_wp2_with fail; go_quiet (fail); go_wp2
  go_ret2
  rw [E1.out, E2.out]
  exact ⟨rfl, by repeat (first | exact ((Below.refl _ _).alloc (Nat.le_refl _) _).alloc (by simp) _ | refine below_drewN ?_ _)⟩

theorem fu_n (a b : Nat) (h3 : lb a 3 = lb b 3) (h2 : lb a 2 = lb b 2) (h1 : lb a 1 = lb b 1) (h0 : lb a 0 = lb b 0) (w : World) :
    Calls Tryd.prog 39 #[W a, W b] w fun e w' => e = .returned (.tuple #[.int .u64 (fuN a b), .int .u64 (fuN b a)]) ∧ Below w.heap.size w w' := by
  have E1 : Hid (fuN a b = _) := fuN_n h3 h2 h1 h0
  have E2 : Hid (fuN b a = _) := fuN_n h3.symm h2.symm h1.symm h0.symm
  have g3 : (lb a 3 != lb b 3) = false := by rw [h3]; simp
  have e3 : (lb a 3 == lb b 3) = true := by rw [h3]; simp
  have g2 : (lb a 2 != lb b 2) = false := by rw [h2]; simp
  have e2 : (lb a 2 == lb b 2) = true := by rw [h2]; simp
  have g1 : (lb a 1 != lb b 1) = false := by rw [h1]; simp
  have e1 : (lb a 1 == lb b 1) = true := by rw [h1]; simp
  have g0 : (lb a 0 != lb b 0) = false := by rw [h0]; simp
  have e0 : (lb a 0 == lb b 0) = true := by rw [h0]; simp
  clear h3 h2 h1 h0
  go_enter Tryd.func39, Tryd.ntmps39
  go_wp2_with fail
  refine wp_loop_rounds 5 ?_
  rw [rounds_succ]; go_wp2_with fail; go_quiet (fail); go_wp2
  rw [rounds_succ]; go_wp2_with fail; go_quiet (fail); go_wp2
  rw [rounds_succ]; go_wp2_with fail; go_quiet (fail); go_wp2
  rw [rounds_succ]; go_wp2_with fail; go_quiet (fail); go_wp2
  rw [rounds_succ]; go_wp2
  go_ret2
  rw [E1.out, E2.out]
  exact ⟨rfl, by repeat (first | exact ((Below.refl _ _).alloc (Nat.le_refl _) _).alloc (by simp) _ | refine below_drewN ?_ _)⟩

theorem fu_any (a b : Nat) (w : World) :
    Calls Tryd.prog 39 #[W a, W b] w fun e w' => e = .returned (.tuple #[.int .u64 (fuN a b), .int .u64 (fuN b a)]) ∧ Below w.heap.size w w' := by
  by_cases h3 : lb a 3 = lb b 3
  · by_cases h2 : lb a 2 = lb b 2
    · by_cases h1 : lb a 1 = lb b 1
      · by_cases h0 : lb a 0 = lb b 0
        · exact fu_n a b h3 h2 h1 h0 w
        · exact fu_0 a b h3 h2 h1 h0 w
      · exact fu_1 a b h3 h2 h1 w
    · exact fu_2 a b h3 h2 w
  · exact fu_3 a b h3 w

theorem order_any (a b : Nat) (ha : a < MM) (hb : b < MM) (w : World) :
    Calls Tryd.prog 17 #[W a, W b] w fun e w' => e = .returned (.int .i64 (cmpN a b)) ∧ Below w.heap.size w w' := by
  have he := eqW a b
  by_cases h : a = b
  · subst h
    have h' : (a % MM == a % MM) = true := by simp
    have E : Hid (cmpN a a = 0) := cmpN_eq a
    go_enter Tryd.func17, Tryd.ntmps17
    go_wp2
    go_ret
    rw [E.out]
    exact ⟨rfl, ((Below.refl _ _).alloc (Nat.le_refl _) _).alloc (by simp) _⟩
  · have h' : (a % MM == b % MM) = false := by rw [Nat.mod_eq_of_lt ha, Nat.mod_eq_of_lt hb]; simpa using h
    have E : Hid (cmpI (fuN a b) (fuN b a) = cmpN a b) := cmp_fu ha hb
    clear ha hb h
    go_enter Tryd.func17, Tryd.ntmps17
    go_wp2_with (first | (go_at_call 39; refine (fu_any a b _).mono ?_; rintro e w1 ⟨rfl, hb1⟩) | (go_at_call 40; refine (compare_any _ _ _).mono ?_; rintro e w2 ⟨rfl, hb2⟩))
    go_ret
    rw [E.out]
    exact ⟨rfl, bstep (bstep (balloc (balloc (Below.refl _ _) _) _) hb1) hb2⟩

end Go.Proofs.YtimmcljpfpimbaaDoor
