/- bits: Byte. -/
import Derived.Test.YthjbiojbmjgkbaaDoorBi
namespace Go.Proofs.YthjbiojbmjgkbaaDoor
open Go.RowKit
attribute [local go_sem] ix0 ix1 ix2 ix3
theorem ixB (a k : Nat) (hk : k < 32) (w : World) : (Instr.index 67 (.agg (byC a 32)) (.int .i64 k)).run Tryd.prog w = .ok (.int .u8 (byA a (31 - k) : Nat)) w := by
  have h : k = 0 ∨ k = 1 ∨ k = 2 ∨ k = 3 ∨ k = 4 ∨ k = 5 ∨ k = 6 ∨ k = 7 ∨ k = 8 ∨ k = 9 ∨ k = 10 ∨ k = 11 ∨ k = 12 ∨ k = 13 ∨ k = 14 ∨ k = 15 ∨ k = 16 ∨ k = 17 ∨ k = 18 ∨ k = 19 ∨ k = 20 ∨ k = 21 ∨ k = 22 ∨ k = 23 ∨ k = 24 ∨ k = 25 ∨ k = 26 ∨ k = 27 ∨ k = 28 ∨ k = 29 ∨ k = 30 ∨ k = 31 := by omega
  rcases h with rfl | rfl | rfl | rfl | rfl | rfl | rfl | rfl | rfl | rfl | rfl | rfl | rfl | rfl | rfl | rfl | rfl | rfl | rfl | rfl | rfl | rfl | rfl | rfl | rfl | rfl | rfl | rfl | rfl | rfl | rfl | rfl
  · exact (show (Instr.index 67 (.agg (byC a 32)) (.int .i64 0)).run Tryd.prog w = .ok (.int .u8 (byA a 31 : Nat)) w by kernel_rfl)
  · exact (show (Instr.index 67 (.agg (byC a 32)) (.int .i64 1)).run Tryd.prog w = .ok (.int .u8 (byA a 30 : Nat)) w by kernel_rfl)
  · exact (show (Instr.index 67 (.agg (byC a 32)) (.int .i64 2)).run Tryd.prog w = .ok (.int .u8 (byA a 29 : Nat)) w by kernel_rfl)
  · exact (show (Instr.index 67 (.agg (byC a 32)) (.int .i64 3)).run Tryd.prog w = .ok (.int .u8 (byA a 28 : Nat)) w by kernel_rfl)
  · exact (show (Instr.index 67 (.agg (byC a 32)) (.int .i64 4)).run Tryd.prog w = .ok (.int .u8 (byA a 27 : Nat)) w by kernel_rfl)
  · exact (show (Instr.index 67 (.agg (byC a 32)) (.int .i64 5)).run Tryd.prog w = .ok (.int .u8 (byA a 26 : Nat)) w by kernel_rfl)
  · exact (show (Instr.index 67 (.agg (byC a 32)) (.int .i64 6)).run Tryd.prog w = .ok (.int .u8 (byA a 25 : Nat)) w by kernel_rfl)
  · exact (show (Instr.index 67 (.agg (byC a 32)) (.int .i64 7)).run Tryd.prog w = .ok (.int .u8 (byA a 24 : Nat)) w by kernel_rfl)
  · exact (show (Instr.index 67 (.agg (byC a 32)) (.int .i64 8)).run Tryd.prog w = .ok (.int .u8 (byA a 23 : Nat)) w by kernel_rfl)
  · exact (show (Instr.index 67 (.agg (byC a 32)) (.int .i64 9)).run Tryd.prog w = .ok (.int .u8 (byA a 22 : Nat)) w by kernel_rfl)
  · exact (show (Instr.index 67 (.agg (byC a 32)) (.int .i64 10)).run Tryd.prog w = .ok (.int .u8 (byA a 21 : Nat)) w by kernel_rfl)
  · exact (show (Instr.index 67 (.agg (byC a 32)) (.int .i64 11)).run Tryd.prog w = .ok (.int .u8 (byA a 20 : Nat)) w by kernel_rfl)
  · exact (show (Instr.index 67 (.agg (byC a 32)) (.int .i64 12)).run Tryd.prog w = .ok (.int .u8 (byA a 19 : Nat)) w by kernel_rfl)
  · exact (show (Instr.index 67 (.agg (byC a 32)) (.int .i64 13)).run Tryd.prog w = .ok (.int .u8 (byA a 18 : Nat)) w by kernel_rfl)
  · exact (show (Instr.index 67 (.agg (byC a 32)) (.int .i64 14)).run Tryd.prog w = .ok (.int .u8 (byA a 17 : Nat)) w by kernel_rfl)
  · exact (show (Instr.index 67 (.agg (byC a 32)) (.int .i64 15)).run Tryd.prog w = .ok (.int .u8 (byA a 16 : Nat)) w by kernel_rfl)
  · exact (show (Instr.index 67 (.agg (byC a 32)) (.int .i64 16)).run Tryd.prog w = .ok (.int .u8 (byA a 15 : Nat)) w by kernel_rfl)
  · exact (show (Instr.index 67 (.agg (byC a 32)) (.int .i64 17)).run Tryd.prog w = .ok (.int .u8 (byA a 14 : Nat)) w by kernel_rfl)
  · exact (show (Instr.index 67 (.agg (byC a 32)) (.int .i64 18)).run Tryd.prog w = .ok (.int .u8 (byA a 13 : Nat)) w by kernel_rfl)
  · exact (show (Instr.index 67 (.agg (byC a 32)) (.int .i64 19)).run Tryd.prog w = .ok (.int .u8 (byA a 12 : Nat)) w by kernel_rfl)
  · exact (show (Instr.index 67 (.agg (byC a 32)) (.int .i64 20)).run Tryd.prog w = .ok (.int .u8 (byA a 11 : Nat)) w by kernel_rfl)
  · exact (show (Instr.index 67 (.agg (byC a 32)) (.int .i64 21)).run Tryd.prog w = .ok (.int .u8 (byA a 10 : Nat)) w by kernel_rfl)
  · exact (show (Instr.index 67 (.agg (byC a 32)) (.int .i64 22)).run Tryd.prog w = .ok (.int .u8 (byA a 9 : Nat)) w by kernel_rfl)
  · exact (show (Instr.index 67 (.agg (byC a 32)) (.int .i64 23)).run Tryd.prog w = .ok (.int .u8 (byA a 8 : Nat)) w by kernel_rfl)
  · exact (show (Instr.index 67 (.agg (byC a 32)) (.int .i64 24)).run Tryd.prog w = .ok (.int .u8 (byA a 7 : Nat)) w by kernel_rfl)
  · exact (show (Instr.index 67 (.agg (byC a 32)) (.int .i64 25)).run Tryd.prog w = .ok (.int .u8 (byA a 6 : Nat)) w by kernel_rfl)
  · exact (show (Instr.index 67 (.agg (byC a 32)) (.int .i64 26)).run Tryd.prog w = .ok (.int .u8 (byA a 5 : Nat)) w by kernel_rfl)
  · exact (show (Instr.index 67 (.agg (byC a 32)) (.int .i64 27)).run Tryd.prog w = .ok (.int .u8 (byA a 4 : Nat)) w by kernel_rfl)
  · exact (show (Instr.index 67 (.agg (byC a 32)) (.int .i64 28)).run Tryd.prog w = .ok (.int .u8 (byA a 3 : Nat)) w by kernel_rfl)
  · exact (show (Instr.index 67 (.agg (byC a 32)) (.int .i64 29)).run Tryd.prog w = .ok (.int .u8 (byA a 2 : Nat)) w by kernel_rfl)
  · exact (show (Instr.index 67 (.agg (byC a 32)) (.int .i64 30)).run Tryd.prog w = .ok (.int .u8 (byA a 1 : Nat)) w by kernel_rfl)
  · exact (show (Instr.index 67 (.agg (byC a 32)) (.int .i64 31)).run Tryd.prog w = .ok (.int .u8 (byA a 0 : Nat)) w by kernel_rfl)
theorem atB (g : Nat) (w : World) : (Instr.arrayAt 67 (.slice (some ⟨g, 0, none⟩) 32 32)).run Tryd.prog w = .ok (.pointer (some ⟨g, 0, none⟩)) w := by kernel_rfl
/-- The byte at a place, the highest one's being 0. -/
def byteN (n a : Nat) : Nat := if n < 32 then byA a (31 - n) else 0
attribute [local irreducible] lb byC byA
/-- What stands where Byte jumps to. -/
def YJ (w0 : World) (act : Act) (w : World) : Prop := ∃ x0 x1 x2 x3 x5 x6 x7 x8 x9 x10 x11 x12 x13 x14 x15 x16 x17 x18 x19 x20 x21 x22, act = { tmps := #[x0, x1, x2, x3, .pointer (some ⟨w0.heap.size + 1 + 1, 0, none⟩), x5, x6, x7, x8, x9, x10, x11, x12, x13, x14, x15, x16, x17, x18, x19, x20, x21, x22], defers := [] } ∧
  Blk w (w0.heap.size + 1 + 1) 25 Zc ∧ Below w0.heap.size w0 w

set_option maxRecDepth 100000 in
set_option maxHeartbeats 2000000 in
theorem byte_any (n a : Nat) (hn : n < MM) (w : World) :
    Calls Tryd.prog 24 #[W n, W a] w fun e w' => e = .returned (W (byteN n a)) ∧ Below w.heap.size w w' := by
  have A := (Blk.newS w (.cells (Wc n) 25) 25 (Wc a)).alloc (.cells Zc 25)
  have R : Blk (((w.alloc (.cells (Wc n) 25)).alloc (.cells (Wc a) 25)).alloc (.cells Zc 25)) (w.heap.size + 1 + 1) 25 Zc := by
    have h := Blk.newS (w.alloc (.cells (Wc n) 25)) (.cells (Wc a) 25) 25 Zc
    rwa [World.size_alloc] at h
  have HW := Lib.hid (balloc (balloc (balloc (Below.refl w.heap.size w) (.cells (Wc n) 25)) (.cells (Wc a) 25)) (.cells Zc 25))
  have HA := Lib.hid A
  have HR := Lib.hid R
  clear A R
  by_cases h : n < 32
  · have HB := Lib.hid (below_yes n 32 (by omega) h)
    have E : Hid (byteN n a = byA a (31 - n)) := if_pos h
    rw [E.out]
    have hix := ixB a n h
    have hat := atB
    have hlt := byA_lt a (31 - n)
    have g1 : IntKind.u64.wrap (((byA a (31 - n) : Nat)) : Int) = ((byA a (31 - n) : Nat) : Int) := IntWalk.u64_in _ (by omega)
    have HO := Lib.hid (of_any (byA a (31 - n)) (by unfold B64; omega))
    clear hn E h
    go_enter Tryd.func24, Tryd.ntmps24
    go_wp2
    refine wp_scope_jumps 0 (fun _ _ => False) (fun _ _ => 0) rfl ?first ?pass
    case pass => intro a w h; exact h.elim
    case first =>
      go_wp2_with fail
      refine (HB.out _).mono ?_
      rintro e w1 ⟨rfl, h1⟩
      obtain ⟨a0, a1, a2, a3, _, _, _, _⟩ := (HA.out.keep h1).get4
      have HR1 := Lib.hid (HR.out.keep h1)
      have HW1 := Lib.hid (bstep HW.out h1)
      clear HA HR HW h1 HB
      go_wp2_with fail
      refine (bytes_any a _).mono ?_
      rintro e w2 ⟨rfl, hb, h2⟩
      have HR2 := Lib.hid (HR1.out.keep h2)
      have HW2 := Lib.hid (bstep HW1.out h2)
      have HBY := Lib.hid hb
      clear HR1 HW1 h2 hb a0 a1 a2 a3
      generalize w1.heap.size + 1 = gb at HBY ⊢
      go_wp2_with (refine wpList_load_row rfl 67 (.tmp 16) rfl gb rfl 5 (byC a 32) (0, 0) (.array 32 5) HBY.out (by kernel_rfl) rfl (by rw [byC_size]; kernel_rfl) ?_)
      refine (HO.out _).mono ?_
      rintro e w3 ⟨rfl, h3⟩
      have HW3 := Lib.hid (bstep HW2.out h3)
      obtain ⟨c0, c1, c2, c3, f0, f1, f2, f3⟩ := (HR2.out.keep h3).get4
      clear HR2 HW2 h3 HO HBY
      go_wp2
      exact bodyPost_ret (R := fun e w' => e = .returned (W (byA a (31 - n))) ∧ Below w.heap.size w w') (v := W (byA a (31 - n))) (by simp [results, Tryd.results24, go_sem, c0, c1, c2, c3]) rfl ⟨rfl, step_world HW3.out (grown_set4 w3 (w.heap.size + 1 + 1) _ _ _ _) (Nat.le_refl _) (by omega)⟩
  · have HB := Lib.hid (below_no n 32 hn (by omega) h)
    have E : Hid (byteN n a = 0) := if_neg h
    rw [E.out, W_zero]
    clear hn E h HA
    go_enter Tryd.func24, Tryd.ntmps24
    go_wp2
    refine wp_scope_jumps 0 (YJ w) (fun _ _ => 0) rfl ?first ?pass
    case first =>
      go_wp2_with fail
      refine (HB.out _).mono ?_
      rintro e w1 ⟨rfl, h1⟩
      have hE := Lib.hid (And.intro (HR.out.keep h1) (bstep HW.out h1))
      clear HR HW h1 HB
      go_wp2_with fail
      go_step3
      exact ⟨rfl, _, _, _, _, _, _, _, _, _, _, _, _, _, _, _, _, _, _, _, _, _, _, rfl, hE.out⟩
    case pass =>
      rintro act X ⟨x0, x1, x2, x3, x5, x6, x7, x8, x9, x10, x11, x12, x13, x14, x15, x16, x17, x18, x19, x20, x21, x22, rfl, hR, hB⟩
      clear HR HW HB
      obtain ⟨c0, c1, c2, c3, f0, f1, f2, f3⟩ := hR.get4
      have HX := Lib.hid hB
      clear hR hB
      go_wp2
      exact bodyPost_ret (R := fun e w' => e = .returned (.agg Zc) ∧ Below w.heap.size w w') (v := .agg Zc) (by simp [results, Tryd.results24, go_sem, c0, c1, c2, c3]) rfl ⟨rfl, step_world HX.out (grown_set4 X (w.heap.size + 1 + 1) _ _ _ _) (Nat.le_refl _) (by omega)⟩
end Go.Proofs.YthjbiojbmjgkbaaDoor
