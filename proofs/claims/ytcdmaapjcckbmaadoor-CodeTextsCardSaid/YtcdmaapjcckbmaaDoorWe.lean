/- Layer word: a word under way takes a digit; the word of bytes (word.Read). -/
import Derived.Test.YtcdmaapjcckbmaaDoorWc
import Derived.Deep.RegionWith
namespace Go.Proofs.YtcdmaapjcckbmaaDoor
open Go.RowKit
attribute [local go_sem] ix0 ix1 ix2 ix3
theorem or_add (k a b : Nat) (hb : b < 2 ^ k) (hab : 2 ^ k * a + b < 18446744073709551616) : bits .or .u64 ((2 ^ k * a : Nat) : Int) (b : Int) = ((2 ^ k * a + b : Nat) : Int) := by
  rw [bits_or_u64_nat _ _ (by omega) (by omega), ← Nat.two_pow_add_eq_or_of_lt hb]
theorem wrap_mul (x c : Nat) : IntKind.u64.wrap ((x : Int) * (c : Int)) = ((x * c % 18446744073709551616 : Nat) : Int) := by rw [mulN, wrapM]
/-- A number that is moved up, with what comes from below. -/
theorem or_i (s c D i k : Nat) (hc : c = 2 ^ k) (hB : c * D = 18446744073709551616) (hi : 0 < c) : bits .or .u64 (IntKind.u64.wrap (lb s (i + 1) * (c : Int))) (lb s i / (D : Int)) = lb (s * c) (i + 1) := by
  have e := limb_mul s c D i (by unfold B64; exact hB.symm) hi
  unfold lb
  rw [e, wrap_mul, ← Int.natCast_ediv]
  have hD : 0 < D := by rcases Nat.eq_zero_or_pos D with h | h; · rw [h, Nat.mul_zero] at hB; omega
                        · exact h
  have hy : (s / B64 ^ i % B64) / D < c := by
    refine Nat.div_lt_of_lt_mul ?_
    have := Nat.mod_lt (s / B64 ^ i) B64_pos
    unfold B64 at *; rw [Nat.mul_comm, hB]; exact this
  have e5 : (s / B64 ^ (i + 1) % B64) * c % 18446744073709551616 = 2 ^ k * ((s / B64 ^ (i + 1) % B64) % D) := by
    rw [← hB, Nat.mul_comm _ c, Nat.mul_mod_mul_left, hc]
  have hu : (s / B64 ^ (i + 1) % B64) % D < D := Nat.mod_lt _ hD
  have e6 : (s / B64 ^ (i + 1) % B64) * c % B64 = 2 ^ k * ((s / B64 ^ (i + 1) % B64) % D) := e5
  rw [e5, e6]
  generalize (s / B64 ^ i % B64) / D = y at *
  generalize (s / B64 ^ (i + 1) % B64) % D = u at *
  refine or_add k u y (by rw [← hc]; exact hy) ?_
  rw [← hc]
  have : c * u + c ≤ c * D := by rw [← Nat.mul_succ]; exact Nat.mul_le_mul_left _ hu
  omega
theorem or_0 (s c D k : Nat) (hc : c = 2 ^ k) (hB : c * D = 18446744073709551616) (hi : 0 < c) : bits .or .u64 (IntKind.u64.wrap (lb s 0 * (c : Int))) 0 = lb (s * c) 0 := by
  have e := limb_mul0 s c
  unfold lb
  rw [e, wrap_mul]
  have hD : 0 < D := by rcases Nat.eq_zero_or_pos D with h | h; · rw [h, Nat.mul_zero] at hB; omega
                        · exact h
  have e5 : (s / B64 ^ 0 % B64) * c % 18446744073709551616 = 2 ^ k * ((s / B64 ^ 0 % B64) % D) := by
    rw [← hB, Nat.mul_comm _ c, Nat.mul_mod_mul_left, hc]
  have hu : (s / B64 ^ 0 % B64) % D < D := Nat.mod_lt _ hD
  have e6 : (s / B64 ^ 0 % B64) * c % B64 = 2 ^ k * ((s / B64 ^ 0 % B64) % D) := e5
  rw [e5, e6]
  generalize (s / B64 ^ 0 % B64) % D = u at *
  have h := or_add k u 0 (by rw [← hc]; exact hi) (by
    rw [← hc]
    have : c * u + c ≤ c * D := by rw [← Nat.mul_succ]; exact Nat.mul_le_mul_left _ hu
    omega)
  exact h
theorem grown_set' {w wr : World} {g : Nat} (h : w.grownBy wr (some g)) (k : Nat) (v : Value) : w.grownBy (wr.setCell ⟨g, k, none⟩ v) (some g) :=
  ⟨h.os, h.tape, h.output, by have := h.size; simp [World.setCell]; exact this, fun i hi hne => (Below.heap_setCell wr ⟨g, k, none⟩ v i (fun e => hne (by rw [e]))).trans (h.block i hi hne)⟩
theorem grown_trans {w X Y : World} {row : Option Nat} (h : w.grownBy X row) (k : X.grownBy Y row) : w.grownBy Y row :=
  ⟨k.os.trans h.os, k.tape.trans h.tape, k.output.trans h.output, Nat.le_trans h.size k.size, fun i hi hne => (k.block i (Nat.lt_of_lt_of_le hi h.size) hne).trans (h.block i hi hne)⟩
theorem grown_drew {w wr : World} {row : Option Nat} (h : w.grownBy wr row) : w.grownBy wr.drew row := ⟨h.os, h.tape, h.output, h.size, h.block⟩

theorem shift_8 (s g : Nat) (w : World) (hg : w.heap[g]? = some (.cells (Dc s 8) 95 (0, 0))) :
    Calls Tryd.prog 75 #[.pointer (some ⟨g, 0, none⟩), .int .i64 8] w fun e w' => e = .returned (.tuple #[]) ∧ w'.heap[g]? = some (.cells (Dc (s * 256) 8) 95 (0, 0)) ∧ w.grownBy w' (some g) := by
  have c0 := (cell_of_row w g 0 _ _ _ hg).trans (show (Dc s 8)[0]? = some (.int .u64 (lb s 0)) from rfl)
  have c1 := (cell_of_row w g 1 _ _ _ hg).trans (show (Dc s 8)[1]? = some (.int .u64 (lb s 1)) from rfl)
  have c2 := (cell_of_row w g 2 _ _ _ hg).trans (show (Dc s 8)[2]? = some (.int .u64 (lb s 2)) from rfl)
  have c3 := (cell_of_row w g 3 _ _ _ hg).trans (show (Dc s 8)[3]? = some (.int .u64 (lb s 3)) from rfl)
  have f0 := frozen_of_row w g 0 _ _ hg
  have f1 := frozen_of_row w g 1 _ _ hg
  have f2 := frozen_of_row w g 2 _ _ hg
  have f3 := frozen_of_row w g 3 _ _ hg
  have b0 := lb_nonneg s 0
  have b1 := lb_nonneg s 1
  have b2 := lb_nonneg s 2
  have b3 := lb_nonneg s 3
  have Hg := Lib.hid hg
  clear hg
  go_enter Tryd.func75, Tryd.ntmps75
  go_wp2
  refine wp_loop_rounds 5 ?_
  iterate 4 (rw [rounds_succ]; go_wp2; go_region; go_wp2; go_region; go_wp2)
  rw [rounds_succ]
  go_wp2
  go_end0
  have o0 : bits .or .u64 (IntKind.u64.wrap (lb s 0 * 256)) 0 = lb (s * 256) 0 := or_0 s 256 72057594037927936 8 (by decide) (by decide) (by decide)
  have o1 : bits .or .u64 (IntKind.u64.wrap (lb s 1 * 256)) (lb s 0 / 72057594037927936) = lb (s * 256) 1 := or_i s 256 72057594037927936 0 8 (by decide) (by decide) (by decide)
  have o2 : bits .or .u64 (IntKind.u64.wrap (lb s 2 * 256)) (lb s 1 / 72057594037927936) = lb (s * 256) 2 := or_i s 256 72057594037927936 1 8 (by decide) (by decide) (by decide)
  have o3 : bits .or .u64 (IntKind.u64.wrap (lb s 3 * 256)) (lb s 2 / 72057594037927936) = lb (s * 256) 3 := or_i s 256 72057594037927936 2 8 (by decide) (by decide) (by decide)
  rw [o0, o1, o2, o3]
  refine ⟨rfl, heap_setCell_same _ g 3 _ _ _ (heap_setCell_same _ g 2 _ _ _ (heap_setCell_same _ g 1 _ _ _ (heap_setCell_same w g 0 _ _ _ Hg.out))), ?_⟩
  exact grown_drew (grown_drew (grown_drew (grown_drew (grown_drew (grown_drew (grown_drew (grown_drew (grown_set' (grown_set' (grown_set' (grown_set' (grown_refl w g) 0 _) 1 _) 2 _) 3 _))))))))

theorem shift_4 (s g : Nat) (w : World) (hg : w.heap[g]? = some (.cells (Dc s 4) 95 (0, 0))) :
    Calls Tryd.prog 75 #[.pointer (some ⟨g, 0, none⟩), .int .i64 4] w fun e w' => e = .returned (.tuple #[]) ∧ w'.heap[g]? = some (.cells (Dc (s * 16) 4) 95 (0, 0)) ∧ w.grownBy w' (some g) := by
  have c0 := (cell_of_row w g 0 _ _ _ hg).trans (show (Dc s 4)[0]? = some (.int .u64 (lb s 0)) from rfl)
  have c1 := (cell_of_row w g 1 _ _ _ hg).trans (show (Dc s 4)[1]? = some (.int .u64 (lb s 1)) from rfl)
  have c2 := (cell_of_row w g 2 _ _ _ hg).trans (show (Dc s 4)[2]? = some (.int .u64 (lb s 2)) from rfl)
  have c3 := (cell_of_row w g 3 _ _ _ hg).trans (show (Dc s 4)[3]? = some (.int .u64 (lb s 3)) from rfl)
  have f0 := frozen_of_row w g 0 _ _ hg
  have f1 := frozen_of_row w g 1 _ _ hg
  have f2 := frozen_of_row w g 2 _ _ hg
  have f3 := frozen_of_row w g 3 _ _ hg
  have b0 := lb_nonneg s 0
  have b1 := lb_nonneg s 1
  have b2 := lb_nonneg s 2
  have b3 := lb_nonneg s 3
  have Hg := Lib.hid hg
  clear hg
  go_enter Tryd.func75, Tryd.ntmps75
  go_wp2
  refine wp_loop_rounds 5 ?_
  iterate 4 (rw [rounds_succ]; go_wp2; go_region; go_wp2; go_region; go_wp2)
  rw [rounds_succ]
  go_wp2
  go_end0
  have o0 : bits .or .u64 (IntKind.u64.wrap (lb s 0 * 16)) 0 = lb (s * 16) 0 := or_0 s 16 1152921504606846976 4 (by decide) (by decide) (by decide)
  have o1 : bits .or .u64 (IntKind.u64.wrap (lb s 1 * 16)) (lb s 0 / 1152921504606846976) = lb (s * 16) 1 := or_i s 16 1152921504606846976 0 4 (by decide) (by decide) (by decide)
  have o2 : bits .or .u64 (IntKind.u64.wrap (lb s 2 * 16)) (lb s 1 / 1152921504606846976) = lb (s * 16) 2 := or_i s 16 1152921504606846976 1 4 (by decide) (by decide) (by decide)
  have o3 : bits .or .u64 (IntKind.u64.wrap (lb s 3 * 16)) (lb s 2 / 1152921504606846976) = lb (s * 16) 3 := or_i s 16 1152921504606846976 2 4 (by decide) (by decide) (by decide)
  rw [o0, o1, o2, o3]
  refine ⟨rfl, heap_setCell_same _ g 3 _ _ _ (heap_setCell_same _ g 2 _ _ _ (heap_setCell_same _ g 1 _ _ _ (heap_setCell_same w g 0 _ _ _ Hg.out))), ?_⟩
  exact grown_drew (grown_drew (grown_drew (grown_drew (grown_drew (grown_drew (grown_drew (grown_drew (grown_set' (grown_set' (grown_set' (grown_set' (grown_refl w g) 0 _) 1 _) 2 _) 3 _))))))))


theorem take_8 (s d g : Nat) (hd : d < B64) (w : World) (hg : w.heap[g]? = some (.cells (Dc s 8) 95 (0, 0))) :
    Calls Tryd.prog 67 #[.pointer (some ⟨g, 0, none⟩), .int .u64 d] w fun e w' => e = .returned (.tuple #[]) ∧ w'.heap[g]? = some (.cells (Dc (s * 256 + d) 8) 95 (0, 0)) ∧ w.grownBy w' (some g) := by
  have c4 := (cell_of_row w g 4 _ _ _ hg).trans (show (Dc s 8)[4]? = some (.int .i64 8) from rfl)
  have Hg := Lib.hid hg
  have e : Hid (s * 256 + d * B64 ^ 0 = s * 256 + d) := by show _ = _; rw [Nat.pow_zero, Nat.mul_one]
  have ha : Hid (∀ w1, w1.heap[g]? = some (.cells (Dc (s * 256) 8) 95 (0, 0)) → Calls Tryd.prog 76 #[.pointer (some ⟨g, 0, none⟩), .int .i64 0, .int .u64 d] w1 fun e w' => e = .returned (.tuple #[]) ∧ w'.heap[g]? = some (.cells (Dc (s * 256 + d) 8) 95 (0, 0)) ∧ w1.grownBy w' (some g)) := fun w1 h1 => by
    have := addAt_any (s * 256) 0 d g 8 (by omega) hd w1 h1
    rw [e.out] at this; exact this
  clear hg e
  go_enter Tryd.func67, Tryd.ntmps67
  go_wp2
  go_region_with (go_at_call 75; refine (shift_8 s g _ (by exact Hg.out)).mono ?_; rintro e w1 ⟨rfl, h1, hg1⟩)
  go_wp2_with (go_at_call 76; refine (ha.out _ h1).mono ?_; rintro e w2 ⟨rfl, h2, hg2⟩)
  go_end0
  exact ⟨rfl, h2, grown_trans ⟨hg1.os, hg1.tape, hg1.output, hg1.size, hg1.block⟩ hg2⟩

theorem take_4 (s d g : Nat) (hd : d < B64) (w : World) (hg : w.heap[g]? = some (.cells (Dc s 4) 95 (0, 0))) :
    Calls Tryd.prog 67 #[.pointer (some ⟨g, 0, none⟩), .int .u64 d] w fun e w' => e = .returned (.tuple #[]) ∧ w'.heap[g]? = some (.cells (Dc (s * 16 + d) 4) 95 (0, 0)) ∧ w.grownBy w' (some g) := by
  have c4 := (cell_of_row w g 4 _ _ _ hg).trans (show (Dc s 4)[4]? = some (.int .i64 4) from rfl)
  have Hg := Lib.hid hg
  have e : Hid (s * 16 + d * B64 ^ 0 = s * 16 + d) := by show _ = _; rw [Nat.pow_zero, Nat.mul_one]
  have ha : Hid (∀ w1, w1.heap[g]? = some (.cells (Dc (s * 16) 4) 95 (0, 0)) → Calls Tryd.prog 76 #[.pointer (some ⟨g, 0, none⟩), .int .i64 0, .int .u64 d] w1 fun e w' => e = .returned (.tuple #[]) ∧ w'.heap[g]? = some (.cells (Dc (s * 16 + d) 4) 95 (0, 0)) ∧ w1.grownBy w' (some g)) := fun w1 h1 => by
    have := addAt_any (s * 16) 0 d g 4 (by omega) hd w1 h1
    rw [e.out] at this; exact this
  clear hg e
  go_enter Tryd.func67, Tryd.ntmps67
  go_wp2
  go_region_with (go_at_call 75; refine (shift_4 s g _ (by exact Hg.out)).mono ?_; rintro e w1 ⟨rfl, h1, hg1⟩)
  go_wp2_with (go_at_call 76; refine (ha.out _ h1).mono ?_; rintro e w2 ⟨rfl, h2, hg2⟩)
  go_end0
  exact ⟨rfl, h2, grown_trans ⟨hg1.os, hg1.tape, hg1.output, hg1.size, hg1.block⟩ hg2⟩

end Go.Proofs.YtcdmaapjcckbmaaDoor
