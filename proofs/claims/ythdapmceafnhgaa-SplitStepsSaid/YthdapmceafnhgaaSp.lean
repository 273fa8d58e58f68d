/- split: divide by nought. -/
import Derived.Test.YthdapmceafnhgaaSn
namespace Go.Proofs.Ythdapmceafnhgaa
open Go.RowKit
attribute [local go_sem] ix0 ix1 ix2 ix3
def NJ (B : Nat) (w0 : World) (a : Act) (w : World) : Prop := ∃ x0 x1 x2 x3 x5 x6 x7 x8 x9 x10 x11 x12 x13 x14 x15 x16 x17 x18 x19 x20 x21 x22 x23 x24 x25 x26, a = { tmps := #[x0, x1, x2, x3, .pointer (some ⟨B + 1 + 1, 0, none⟩), x5, x6, x7, x8, x9, x10, x11, x12, x13, x14, x15, x16, x17, x18, x19, x20, x21, x22, x23, x24, x25, x26], defers := [] } ∧ Blk w (B + 1 + 1) 51 #[.int .u64 0, .int .u64 0, .int .u64 0, .int .u64 0, .int .u64 0, .int .u64 0, .int .u64 0, .int .u64 0] ∧ Below B w0 w
set_option maxRecDepth 100000 in
set_option maxHeartbeats 2000000 in
theorem divide_nought (x : Option Addr) (n cap : Nat) (w : World) :
    Calls Try.prog 24 #[W 0, .slice x n cap] w fun e w' => e = .returned (WL 0 0) ∧ Below w.heap.size w w' := by
  have heq : ∀ w, (binOp .eql 24 (W 0) (W 0)).run Try.prog w = .ok (.bool true) w := fun w => by rw [eqW]; simp
  rw [W_zero] at heq ⊢
  have e8 : WL 0 0 = .agg #[.int .u64 0, .int .u64 0, .int .u64 0, .int .u64 0, .int .u64 0, .int .u64 0, .int .u64 0, .int .u64 0] := by unfold WL; simp only [lb_zero]
  rw [e8]
  clear e8
  have hZ : Blk ((((w.alloc (.cells #[.int .u64 0, .int .u64 0, .int .u64 0, .int .u64 0] 24)).alloc (.cells #[.slice x n cap] 53)).alloc (.cells #[.int .u64 0, .int .u64 0, .int .u64 0, .int .u64 0, .int .u64 0, .int .u64 0, .int .u64 0, .int .u64 0] 51))) (w.heap.size + 1 + 1) 51 #[.int .u64 0, .int .u64 0, .int .u64 0, .int .u64 0, .int .u64 0, .int .u64 0, .int .u64 0, .int .u64 0] := by
    have h := Blk.new ((w.alloc (.cells #[.int .u64 0, .int .u64 0, .int .u64 0, .int .u64 0] 24)).alloc (.cells #[.slice x n cap] 53)) 51 #[.int .u64 0, .int .u64 0, .int .u64 0, .int .u64 0, .int .u64 0, .int .u64 0, .int .u64 0, .int .u64 0]
    rwa [World.size_alloc, World.size_alloc] at h
  have HZ := Lib.hid hZ
  clear hZ
  go_enter Try.func24, Try.ntmps24
  go_wp2
  refine wp_scope_jumps 0 (NJ w.heap.size w) (fun _ _ => 0) rfl ?first ?pass
  case first =>
    go_wp2
    go_step3
    exact ⟨rfl, _, _, _, _, _, _, _, _, _, _, _, _, _, _, _, _, _, _, _, _, _, _, _, _, _, _, rfl, HZ.out.alloc _, balloc (balloc (balloc (balloc (Below.refl _ _) _) _) _) _⟩
  case pass =>
    rintro a X ⟨x0, x1, x2, x3, x5, x6, x7, x8, x9, x10, x11, x12, x13, x14, x15, x16, x17, x18, x19, x20, x21, x22, x23, x24, x25, x26, rfl, hz, hB⟩
    have r0 := cell_of_row X _ 0 _ _ _ hz
    have f0 := frozen_of_row X _ 0 _ _ hz
    have r1 := cell_of_row X _ 1 _ _ _ hz
    have f1 := frozen_of_row X _ 1 _ _ hz
    have r2 := cell_of_row X _ 2 _ _ _ hz
    have f2 := frozen_of_row X _ 2 _ _ hz
    have r3 := cell_of_row X _ 3 _ _ _ hz
    have f3 := frozen_of_row X _ 3 _ _ hz
    have r4 := cell_of_row X _ 4 _ _ _ hz
    have f4 := frozen_of_row X _ 4 _ _ hz
    have r5 := cell_of_row X _ 5 _ _ _ hz
    have f5 := frozen_of_row X _ 5 _ _ hz
    have r6 := cell_of_row X _ 6 _ _ _ hz
    have f6 := frozen_of_row X _ 6 _ _ hz
    have r7 := cell_of_row X _ 7 _ _ _ hz
    have f7 := frozen_of_row X _ 7 _ _ hz
    clear hz
    go_wp2
    exact bodyPost_ret (R := fun e w' => e = .returned (.agg #[.int .u64 0, .int .u64 0, .int .u64 0, .int .u64 0, .int .u64 0, .int .u64 0, .int .u64 0, .int .u64 0]) ∧ Below w.heap.size w w') (v := .agg #[.int .u64 0, .int .u64 0, .int .u64 0, .int .u64 0, .int .u64 0, .int .u64 0, .int .u64 0, .int .u64 0]) (by simp [results, Try.results24, go_sem, r0, r1, r2, r3, r4, r5, r6, r7]) rfl ⟨rfl, ((((((((hB.setCell (p := ⟨w.heap.size + 1 + 1, 0, none⟩) (by simp; omega) _).setCell (p := ⟨w.heap.size + 1 + 1, 1, none⟩) (by simp; omega) _).setCell (p := ⟨w.heap.size + 1 + 1, 2, none⟩) (by simp; omega) _).setCell (p := ⟨w.heap.size + 1 + 1, 3, none⟩) (by simp; omega) _).setCell (p := ⟨w.heap.size + 1 + 1, 4, none⟩) (by simp; omega) _).setCell (p := ⟨w.heap.size + 1 + 1, 5, none⟩) (by simp; omega) _).setCell (p := ⟨w.heap.size + 1 + 1, 6, none⟩) (by simp; omega) _).setCell (p := ⟨w.heap.size + 1 + 1, 7, none⟩) (by simp; omega) _)⟩
end Go.Proofs.Ythdapmceafnhgaa
