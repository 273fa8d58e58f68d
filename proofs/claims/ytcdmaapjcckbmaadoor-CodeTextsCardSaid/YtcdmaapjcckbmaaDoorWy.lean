/- Small, the reference's and the program's; the reference's Order. -/
import Derived.Test.YtcdmaapjcckbmaaDoorWz
import Derived.Deep.RegionHeld3
import Derived.Deep.QuietTactic
import Derived.BigQuiet
namespace Go.Proofs.YtcdmaapjcckbmaaDoor
open Go.RowKit
attribute [local go_sem] ix0 ix1 ix2 ix3
/-- What Small tells. -/
def smB (a : Nat) : Bool := lb a 1 == 0 && lb a 2 == 0 && lb a 3 == 0
def smV (a : Nat) : Int := if smB a then lb a 0 else 0
theorem smB_true {a : Nat} (h1 : lb a 1 = 0) (h2 : lb a 2 = 0) (h3 : lb a 3 = 0) : smB a = true := by unfold smB; simp [h1, h2, h3]
theorem smB_1 {a : Nat} (h : lb a 1 ≠ 0) : smB a = false := by unfold smB; simp [h]
theorem smB_2 {a : Nat} (h : lb a 2 ≠ 0) : smB a = false := by unfold smB; simp [h]
theorem smB_3 {a : Nat} (h : lb a 3 ≠ 0) : smB a = false := by unfold smB; simp [h]

set_option maxHeartbeats 1000000 in
theorem rsmall_any (a : Nat) (w : World) :
    Calls Tryd.prog 47 #[W a] w fun e w' => e = .returned (.tuple #[.int .u64 (smV a), .bool (smB a)]) ∧ Below w.heap.size w w' := by
  by_cases h1 : lb a 1 = 0
  · by_cases h2 : lb a 2 = 0
    · by_cases h3 : lb a 3 = 0
      · have E : Hid (smB a = true) := smB_true h1 h2 h3
        unfold smV
        rw [E.out]
        go_enter Tryd.func47, Tryd.ntmps47
        go_wp2
        go_ret2
        exact ⟨rfl, balloc (Below.refl _ _) _⟩
      · have E : Hid (smB a = false) := smB_3 h3
        unfold smV
        rw [E.out]
        go_enter Tryd.func47, Tryd.ntmps47
        go_wp2
        go_ret2
        exact ⟨rfl, balloc (Below.refl _ _) _⟩
    · have E : Hid (smB a = false) := smB_2 h2
      unfold smV
      rw [E.out]
      go_enter Tryd.func47, Tryd.ntmps47
      go_wp2
      go_ret2
      exact ⟨rfl, balloc (Below.refl _ _) _⟩
  · have E : Hid (smB a = false) := smB_1 h1
    unfold smV
    rw [E.out]
    go_enter Tryd.func47, Tryd.ntmps47
    go_wp2
    go_ret2
    exact ⟨rfl, balloc (Below.refl _ _) _⟩

theorem lb_low0 (a : Nat) : lb a 0 = ((a % B64 : Nat) : Int) := by unfold lb; rw [Nat.pow_zero, Nat.div_one]
theorem neq_small (a : Nat) (w : World) : (binOp .neq 40 (W a) (W (a % B64))).run Tryd.prog w = .ok (.bool (!smB a)) w := by
  obtain ⟨i, hi⟩ := Option.isSome_iff_exists.1 info_u64
  have h := run_neq_ints (t := 40) (n := 4) (P := Tryd.prog) (by kernel_rfl) (k := .u64) (by kernel_rfl) hi (by kernel_rfl) (Wc a) (Wc (a % B64)) (lb a) (lb (a % B64))
    (fun j hj => by match j, hj with | 0, _ | 1, _ | 2, _ | 3, _ => exact ⟨rfl, rfl⟩) w
  have hB := Nat.mod_lt a B64_pos
  have e0 : lb (a % B64) 0 = lb a 0 := by rw [lb_low0, lb_low0, Nat.mod_mod]
  have e1 : lb (a % B64) 1 = 0 := by unfold lb; rw [Nat.div_eq_of_lt (by rw [Nat.pow_one]; exact hB)]; rfl
  have e2 : lb (a % B64) 2 = 0 := by unfold lb; rw [Nat.div_eq_of_lt (by unfold B64 at *; omega)]; rfl
  have e3 : lb (a % B64) 3 = 0 := by unfold lb; rw [Nat.div_eq_of_lt (by unfold B64 at *; omega)]; rfl
  rw [show W a = .agg (Wc a) from rfl, show W (a % B64) = .agg (Wc (a % B64)) from rfl, h]
  have r4 : List.range 4 = [0, 1, 2, 3] := rfl
  simp [r4, e0, e1, e2, e3, smB, Bool.and_assoc]

theorem of_lb (a : Nat) (w : World) : Calls Tryd.prog 66 #[.int .u64 (lb a 0)] w fun e w' => e = .returned (W (a % B64)) ∧ Below w.heap.size w w' := by
  rw [lb_low0]; exact of_any _ (Nat.mod_lt a B64_pos) w
set_option maxHeartbeats 1000000 in
theorem small_any (a : Nat) (w : World) :
    Calls Tryd.prog 40 #[W a] w fun e w' => e = .returned (.tuple #[.int .u64 (smV a), .bool (smB a)]) ∧ Below w.heap.size w w' := by
  have hn := neq_small a
  have e : ∀ b : Bool, smB a = b → smV a = if b then lb a 0 else 0 := fun b h => by unfold smV; rw [h]
  cases hb : smB a
  all_goals
    rw [hb] at hn
    rw [e _ hb]
    clear e hb
    go_enter Tryd.func40, Tryd.ntmps40
    go_wp2_with fail
    have A : Blk (w.alloc (.cells (Wc a) 40)) w.heap.size 40 (Wc a) := Blk.new _ _ _
    have hW : Below w.heap.size w (w.alloc (.cells (Wc a) 40)) := balloc (Below.refl _ _) _
    obtain ⟨W0, hW0⟩ : ∃ W0, w.alloc (.cells (Wc a) 40) = W0 := ⟨_, rfl⟩
    rw [hW0] at A hW ⊢
    clear hW0
    have c0 : ∀ w', Below W0.heap.size W0 w' → w'.cell? ⟨w.heap.size, 0, none⟩ = some (.int .u64 (lb a 0)) := fun w' h => (h.cell (p := ⟨w.heap.size, 0, none⟩) A.lt).trans (cell_of_row _ _ 0 _ _ _ A)
    have c1 : ∀ w', Below W0.heap.size W0 w' → w'.cell? ⟨w.heap.size, 1, none⟩ = some (.int .u64 (lb a 1)) := fun w' h => (h.cell (p := ⟨w.heap.size, 1, none⟩) A.lt).trans (cell_of_row _ _ 1 _ _ _ A)
    have c2 : ∀ w', Below W0.heap.size W0 w' → w'.cell? ⟨w.heap.size, 2, none⟩ = some (.int .u64 (lb a 2)) := fun w' h => (h.cell (p := ⟨w.heap.size, 2, none⟩) A.lt).trans (cell_of_row _ _ 2 _ _ _ A)
    have c3 : ∀ w', Below W0.heap.size W0 w' → w'.cell? ⟨w.heap.size, 3, none⟩ = some (.int .u64 (lb a 3)) := fun w' h => (h.cell (p := ⟨w.heap.size, 3, none⟩) A.lt).trans (cell_of_row _ _ 3 _ _ _ A)
    have HW := Lib.hid hW
    have HA := Lib.hid A
    clear A hW
    go_region_held3 (fun w' => Below W0.heap.size W0 w') (first | assumption | exact (Below.refl _ _).drew | exact rstep (by assumption) (by assumption))
      (first
        | (go_at_call 66; refine (of_lb a _).mono ?_; rintro e wk ⟨rfl, hk⟩))
    all_goals
      rename_i hHeld
      have C0 := c0 _ hHeld
      have HB := bstep HW.out hHeld
      go_wp2
      go_ret2
      exact ⟨rfl, HB⟩

end Go.Proofs.YtcdmaapjcckbmaaDoor
