/- split's reference: twice. -/
import Derived.Test.YthdapmceafnhgaaTk
namespace Go.Proofs.Ythdapmceafnhgaa
open Go.RowKit Go.Shelf
attribute [local go_sem] ix0 ix1 ix2 ix3
theorem lb_odd0 (n : Nat) : bits .or .u64 (lb (n + n) 0) 1 = lb (n + n + 1) 0 := by
  unfold lb
  rw [Nat.pow_zero, Nat.div_one, Nat.div_one]
  have e1 : (n + n) % B64 = 2 ^ 1 * (n % 9223372036854775808) := by unfold B64; omega
  have e2 : (n + n + 1) % B64 = 2 ^ 1 * (n % 9223372036854775808) + 1 := by unfold B64; omega
  rw [e1, e2]
  exact or_add 1 (n % 9223372036854775808) 1 (by omega) (by omega)
theorem lb_odd (n i : Nat) : lb (n + n + 1) (i + 1) = lb (n + n) (i + 1) := by
  unfold lb
  congr 2
  rw [Nat.pow_succ, Nat.mul_comm, ← Nat.div_div_eq_div_mul, ← Nat.div_div_eq_div_mul]
  congr 1
  unfold B64
  omega

set_option maxHeartbeats 1000000 in
theorem rtwice_any (a : Nat) (t : Bool) (w : World) :
    Calls Try.prog 18 #[W a, .bool t] w fun e w' => e = .returned (.tuple #[W (a + a + (if t then 1 else 0)), .bool (a / 2 ^ 255 % 2 == 1)]) ∧ Below w.heap.size w w' := by
  have o0 := lb_odd0 a
  have o1 := lb_odd a 0
  have o2 := lb_odd a 1
  have o3 := lb_odd a 2
  rw [Nat.zero_add] at o1
  rw [show 1 + 1 = 2 from rfl] at o2
  rw [show 2 + 1 = 3 from rfl] at o3
  have eW : W (a + a + 1) = .agg #[.int .u64 (bits .or .u64 (lb (a + a) 0) 1), .int .u64 (lb (a + a) 1), .int .u64 (lb (a + a) 2), .int .u64 (lb (a + a) 3)] := by unfold W; rw [o1, o2, o3, o0]
  have hbit := rbit_any a 255 (by omega)
  generalize (a / 2 ^ 255 % 2 == 1) = ov at hbit ⊢
  have EW := Lib.hid eW
  have HBIT := Lib.hid hbit
  clear eW hbit
  have A0 := Lib.hid ((Blk.new w 24 (Wc a)).alloc (.cells #[.int .u64 0, .int .u64 0, .int .u64 0, .int .u64 0] 24))
  have R0 := Lib.hid (Blk.newS w (.cells (Wc a) 24) 24 #[.int .u64 0, .int .u64 0, .int .u64 0, .int .u64 0])
  clear o0 o1 o2 o3
  cases t
  all_goals
    go_enter Try.func18, Try.ntmps18
    go_wp2_with fail
    refine (HBIT.out _).mono ?_
    rintro e w1 ⟨rfl, h1⟩
    have A1 := A0.out.keep h1
    have R1 := R0.out.keep h1
    have hB := bstep (balloc (balloc (Below.refl w.heap.size w) (.cells (Wc a) 24)) (.cells #[.int .u64 0, .int .u64 0, .int .u64 0, .int .u64 0] 24)) h1
    have c0 := (cell_of_row w1 _ 0 _ _ _ A1).trans (wc_get a 0 (by omega))
    have c1 := (cell_of_row w1 _ 1 _ _ _ A1).trans (wc_get a 1 (by omega))
    have c2 := (cell_of_row w1 _ 2 _ _ _ A1).trans (wc_get a 2 (by omega))
    have c3 := (cell_of_row w1 _ 3 _ _ _ A1).trans (wc_get a 3 (by omega))
    have HA1 := Lib.hid A1
    have HR1 := Lib.hid R1
    have HB := Lib.hid hB
    clear A1 R1 hB h1 A0 R0
    go_wp2_with fail
    refine (radd_any a a _).mono ?_
    rintro e w2 ⟨rfl, h2⟩
    have A2 := HA1.out.keep h2
    have R2 := HR1.out.keep h2
    have hB := bstep HB.out h2
    clear c0 c1 c2 c3 HA1 HR1 HB
    have c0 := cell_of_row w2 _ 0 _ _ _ A2
    have c1 := cell_of_row w2 _ 1 _ _ _ A2
    have c2 := cell_of_row w2 _ 2 _ _ _ A2
    have c3 := cell_of_row w2 _ 3 _ _ _ A2
    have f0 := frozen_of_row w2 _ 0 _ _ A2
    have f1 := frozen_of_row w2 _ 1 _ _ A2
    have f2 := frozen_of_row w2 _ 2 _ _ A2
    have f3 := frozen_of_row w2 _ 3 _ _ A2
    have r0 := cell_of_row w2 _ 0 _ _ _ R2
    have r1 := cell_of_row w2 _ 1 _ _ _ R2
    have r2 := cell_of_row w2 _ 2 _ _ _ R2
    have r3 := cell_of_row w2 _ 3 _ _ _ R2
    have g0 := frozen_of_row w2 _ 0 _ _ R2
    have g1 := frozen_of_row w2 _ 1 _ _ R2
    have g2 := frozen_of_row w2 _ 2 _ _ R2
    have g3 := frozen_of_row w2 _ 3 _ _ R2
    have HB := Lib.hid hB
    clear A2 R2 hB h2
    go_wp2
  · exact bodyPost_ret (v := .tuple #[W (a + a), .bool ov]) (by simp [results, Try.results18, go_sem, r0, r1, r2, r3]) rfl ⟨rfl, ((((((((HB.out.setCell (p := ⟨w.heap.size, 0, none⟩) (by simp; try omega) _).setCell (p := ⟨w.heap.size, 1, none⟩) (by simp; try omega) _).setCell (p := ⟨w.heap.size, 2, none⟩) (by simp; try omega) _).setCell (p := ⟨w.heap.size, 3, none⟩) (by simp; try omega) _).setCell (p := ⟨w.heap.size + 1, 0, none⟩) (by simp; try omega) _).setCell (p := ⟨w.heap.size + 1, 1, none⟩) (by simp; try omega) _).setCell (p := ⟨w.heap.size + 1, 2, none⟩) (by simp; try omega) _).setCell (p := ⟨w.heap.size + 1, 3, none⟩) (by simp; try omega) _)⟩
  · refine bodyPost_ret (v := .tuple #[.agg #[.int .u64 (bits .or .u64 (lb (a + a) 0) 1), .int .u64 (lb (a + a) 1), .int .u64 (lb (a + a) 2), .int .u64 (lb (a + a) 3)], .bool ov]) (by simp [results, Try.results18, go_sem, r0, r1, r2, r3]) rfl ⟨?_, (((((((((HB.out.setCell (p := ⟨w.heap.size, 0, none⟩) (by simp; try omega) _).setCell (p := ⟨w.heap.size, 1, none⟩) (by simp; try omega) _).setCell (p := ⟨w.heap.size, 2, none⟩) (by simp; try omega) _).setCell (p := ⟨w.heap.size, 3, none⟩) (by simp; try omega) _).setCell (p := ⟨w.heap.size, 0, none⟩) (by simp; try omega) _).setCell (p := ⟨w.heap.size + 1, 0, none⟩) (by simp; try omega) _).setCell (p := ⟨w.heap.size + 1, 1, none⟩) (by simp; try omega) _).setCell (p := ⟨w.heap.size + 1, 2, none⟩) (by simp; try omega) _).setCell (p := ⟨w.heap.size + 1, 3, none⟩) (by simp; try omega) _)⟩
    show Ending.returned _ = Ending.returned _
    rw [EW.out]
end Go.Proofs.Ythdapmceafnhgaa
