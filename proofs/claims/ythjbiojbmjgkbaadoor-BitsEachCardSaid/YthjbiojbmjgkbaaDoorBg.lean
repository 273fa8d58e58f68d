/- bits: a word's bits moved so many places (moved). -/
import Derived.Test.YthjbiojbmjgkbaaDoorBf
import Derived.ScopeJumps
namespace Go.Proofs.YthjbiojbmjgkbaaDoor
open Go.RowKit
attribute [local go_sem] ix0 ix1 ix2 ix3
attribute [local irreducible] lb numI
/-- What stands where moved jumps to. -/
def MJ (a : Nat) (F : Value) (w0 : World) (act : Act) (w : World) : Prop := ∃ x0 x1 x2 x4 x5 x7 x8 x9 x10 x11 x12 x13 x14 x15 x16 x17 x18 x19 x20 x21 x22 x23 x24, act = { tmps := #[x0, x1, x2, .pointer (some ⟨w0.heap.size, 0, none⟩), x4, x5, .pointer (some ⟨w0.heap.size + 1 + 1, 0, none⟩), x7, x8, x9, x10, x11, x12, x13, x14, x15, x16, x17, x18, x19, x20, x21, x22, x23, x24], defers := [] } ∧
  Blk w w0.heap.size 64 (Df a F) ∧ Blk w (w0.heap.size + 1 + 1) 25 Zc ∧ Below w0.heap.size w0 w

set_option maxRecDepth 100000 in
set_option maxHeartbeats 2000000 in
theorem moved_near (a : Nat) (F : Value) (x : Int) (hF : Fills F x) (n : Nat) (hn : n < 256) (way : Int) (q : Int) (r : Nat) (hw : way * n = 64 * q + r) (hway : way = 1 ∨ way = -1) (hq : -4 ≤ q ∧ q ≤ 3) (hr : r < 64) (res : Nat)
    (hres : ∀ i : Nat, i < 4 → bits .or .u64 (numI a x (q + i) / 2 ^ r) (IntKind.u64.wrap (numI a x (q + i + 1) * 2 ^ (64 - r))) = lb res i) (w : World) :
    Calls Tryd.prog 53 #[Dv a F, W n, .int .i64 way] w fun e w' => e = .returned (W res) ∧ Below w.heap.size w w' := by
  have A := ((Blk.new w 64 (Df a F)).alloc (.cells (Wc n) 25)).alloc (.cells Zc 25)
  have R : Blk (((w.alloc (.cells (Df a F) 64)).alloc (.cells (Wc n) 25)).alloc (.cells Zc 25)) (w.heap.size + 1 + 1) 25 Zc := by
    have h := Blk.newS (w.alloc (.cells (Df a F) 64)) (.cells (Wc n) 25) 25 Zc
    rwa [World.size_alloc] at h
  have HW := Lib.hid (balloc (balloc (balloc (Below.refl w.heap.size w) (.cells (Df a F) 64)) (.cells (Wc n) 25)) (.cells Zc 25))
  have HA := Lib.hid A
  have HR := Lib.hid R
  have g1 : IntKind.i64.wrap (way * (n : Int)) = way * n := IntWalk.i64_in _ (by rcases hway with rfl | rfl <;> omega)
  have HG := Lib.hid hw
  have HC := Lib.hid (from_any a F x hF q r hq hr res hres)
  have HB := Lib.hid (below_yes n 256 (by omega) hn)
  clear A R hF hres hw hway hq
  go_enter Tryd.func53, Tryd.ntmps53
  go_wp2
  refine wp_scope_jumps 0 (fun _ _ => False) (fun _ _ => 0) rfl ?first ?pass
  case first =>
    go_wp2_with fail
    refine (HB.out _).mono ?_
    rintro e w1 ⟨rfl, h1⟩
    have a0 := cell_of_row _ _ 0 _ _ _ (HA.out.keep h1)
    have a1 := cell_of_row _ _ 1 _ _ _ (HA.out.keep h1)
    have a2 := cell_of_row _ _ 2 _ _ _ (HA.out.keep h1)
    have a3 := cell_of_row _ _ 3 _ _ _ (HA.out.keep h1)
    have a4 := cell_of_row _ _ 4 _ _ _ (HA.out.keep h1)
    have HR1 := Lib.hid (HR.out.keep h1)
    have HW1 := Lib.hid (bstep HW.out h1)
    clear HA HR HW h1 HB
    go_wp2_with fail
    rw [HG.out]
    refine (HC.out _).mono ?_
    rintro e w2 ⟨rfl, h2⟩
    have HW2 := Lib.hid (bstep HW1.out h2)
    obtain ⟨c0, c1, c2, c3, f0, f1, f2, f3⟩ := (HR1.out.keep h2).get4
    clear a0 a1 a2 a3 a4 HR1 HW1 h2 HC HG g1
    go_wp2
    exact bodyPost_ret (R := fun e w' => e = .returned (W res) ∧ Below w.heap.size w w') (v := W res) (by simp [results, Tryd.results53, go_sem, c0, c1, c2, c3]) rfl ⟨rfl, step_world HW2.out (grown_set4 w2 (w.heap.size + 1 + 1) _ _ _ _) (Nat.le_refl _) (by omega)⟩
  case pass =>
    rintro _ _ h
    exact h.elim

set_option maxRecDepth 100000 in
set_option maxHeartbeats 2000000 in
theorem moved_far (a : Nat) (F : Value) (x : Int) (hF : Fills F x) (n : Nat) (hn : ¬ n < 256) (hM : n < MM) (way : Int) (w : World) :
    Calls Tryd.prog 53 #[Dv a F, W n, .int .i64 way] w fun e w' => e = .returned (.agg #[.int .u64 x, .int .u64 x, .int .u64 x, .int .u64 x]) ∧ Below w.heap.size w w' := by
  have A := ((Blk.new w 64 (Df a F)).alloc (.cells (Wc n) 25)).alloc (.cells Zc 25)
  have R : Blk (((w.alloc (.cells (Df a F) 64)).alloc (.cells (Wc n) 25)).alloc (.cells Zc 25)) (w.heap.size + 1 + 1) 25 Zc := by
    have h := Blk.newS (w.alloc (.cells (Df a F) 64)) (.cells (Wc n) 25) 25 Zc
    rwa [World.size_alloc] at h
  have HW := Lib.hid (balloc (balloc (balloc (Below.refl w.heap.size w) (.cells (Df a F) 64)) (.cells (Wc n) 25)) (.cells Zc 25))
  have HA := Lib.hid A
  have HR := Lib.hid R
  have HB := Lib.hid (below_no n 256 hM (by omega) hn)
  clear A R hn hM
  go_enter Tryd.func53, Tryd.ntmps53
  go_wp2
  refine wp_scope_jumps 0 (MJ a F w) (fun _ _ => 0) rfl ?first ?pass
  case first =>
    go_wp2_with fail
    refine (HB.out _).mono ?_
    rintro e w1 ⟨rfl, h1⟩
    have hE := Lib.hid (And.intro (HA.out.keep h1) (And.intro (HR.out.keep h1) (bstep HW.out h1)))
    clear HA HR HW h1 HB
    go_wp2_with fail
    go_step3
    exact ⟨rfl, _, _, _, _, _, _, _, _, _, _, _, _, _, _, _, _, _, _, _, _, _, _, _, rfl, hE.out⟩
  case pass =>
    rintro act X ⟨x0, x1, x2, x4, x5, x7, x8, x9, x10, x11, x12, x13, x14, x15, x16, x17, x18, x19, x20, x21, x22, x23, x24, rfl, hA, hR, hB⟩
    clear HA HR HW HB
    obtain ⟨G, v, rfl, hG, hc⟩ := hF
    have a4 := cell_of_row _ _ 4 _ _ _ hA
    have HR := Lib.hid hR
    have HX := Lib.hid hB
    clear hA hR hB
    go_wp2_with fail
    refine (hc _).mono ?_
    rintro e w1 ⟨rfl, h1⟩
    have HR1 := Lib.hid (HR.out.keep h1)
    have HX1 := Lib.hid (bstep HX.out h1)
    clear HR HX h1 a4
    go_wp2_with fail
    refine (filled_any _ _).mono ?_
    rintro e w2 ⟨rfl, h2⟩
    obtain ⟨c0, c1, c2, c3, f0, f1, f2, f3⟩ := (HR1.out.keep h2).get4
    have HX2 := Lib.hid (bstep HX1.out h2)
    clear HR1 HX1 h2
    go_wp2
    exact bodyPost_ret (R := fun e w' => e = .returned (.agg #[.int .u64 x, .int .u64 x, .int .u64 x, .int .u64 x]) ∧ Below w.heap.size w w') (v := .agg #[.int .u64 x, .int .u64 x, .int .u64 x, .int .u64 x]) (by simp [results, Tryd.results53, go_sem, c0, c1, c2, c3]) rfl ⟨rfl, step_world HX2.out (grown_set4 w2 (w.heap.size + 1 + 1) _ _ _ _) (Nat.le_refl _) (by omega)⟩
end Go.Proofs.YthjbiojbmjgkbaaDoor
