/- power: Squares. -/
import Derived.Test.YtidpekcegocjfaaDoorEc
namespace Go.Proofs.YtidpekcegocjfaaDoor
open Go.RowKit
attribute [local go_sem] ix0 ix1 ix2 ix3
attribute [local irreducible] sqF sq1
set_option maxHeartbeats 2000000 in
theorem sfold_nil (x g : Nat) (w : World) :
    Calls Tryd.prog 27 #[W x, .func (.func 28) #[] #[.pointer (some ⟨g, 0, none⟩)], .slice none 0 0] w fun e w' => e = .returned (W x) ∧ Below w.heap.size w w' := by
  go_enter Tryd.func27, Tryd.ntmps27
  go_wp2
  refine wp_scope_jumps 0 (fun _ _ => False) (fun _ _ => 0) rfl ?first ?pass
  case first =>
    go_wp2
    refine wp_loop_rounds 1 ?_
    rw [rounds_succ]; go_wp2
    exact bodyPost_ret (R := fun e w' => e = .returned (W x) ∧ Below w.heap.size w w') (v := W x) (by simp [results, Tryd.results27, go_sem]) rfl ⟨rfl, balloc (balloc (Below.refl _ _) _) _⟩
  case pass =>
    rintro _ _ h
    exact h.elim

set_option maxRecDepth 100000 in
set_option maxHeartbeats 2000000 in
theorem squares_gen (a r : Nat) (v : Value) (w : World) (hv : ∀ (g : Nat) (X : World), Below w.heap.size w X → Blk X g 53 (UP a 1) →
      Calls Tryd.prog 27 #[W 1, .func (.func 28) #[] #[.pointer (some ⟨g, 0, none⟩)], v] X fun e w' => e = .returned (W r) ∧ Below X.heap.size X w') :
    Calls Tryd.prog 14 #[W a, v] w fun e w' => e = .returned (W r) ∧ Below w.heap.size w w' := by
  have HV := Lib.hid hv
  clear hv
  have hS : Blk ((w.alloc (.cells (Wc a) 24)).alloc (.cells Zc4 24)) w.heap.size 24 (Wc a) := (Blk.new w _ _).alloc _
  have hR := Blk.newS w (.cells (Wc a) 24) 24 Zc4
  have hW := balloc (balloc (Below.refl w.heap.size w) (.cells (Wc a) 24)) (.cells Zc4 24)
  have HX := Lib.hid (And.intro hR hW)
  clear hS hR hW
  go_enter Tryd.func14, Tryd.ntmps14
  go_wp2_with fail
  refine (begun_any a _).mono ?_
  rintro e w1 ⟨rfl, h1⟩
  obtain ⟨hR0, hW0⟩ := HX.out
  have HY := Lib.hid (And.intro (hR0.keep h1) (bstep hW0 h1))
  clear hR0 hW0 HX h1
  go_upto_region 2 with fail
  have hU := Blk.new w1 53 (UP a 1)
  have hR1 := HY.out.1.alloc (.cells (UP a 1) 53)
  have hW1 := balloc HY.out.2 (.cells (UP a 1) 53)
  obtain ⟨w2, hw2⟩ : ∃ w2, w1.alloc (.cells (UP a 1) 53) = w2 := ⟨_, rfl⟩
  rw [hw2] at hU hR1 hW1 ⊢
  generalize w1.heap.size = gu at hU ⊢
  clear hw2 HY
  have u0 := cell_of_row _ _ 0 _ _ _ hU
  have u1 := cell_of_row _ _ 1 _ _ _ hU
  have u2 := cell_of_row _ _ 2 _ _ _ hU
  have u3 := cell_of_row _ _ 3 _ _ _ hU
  have u4 := cell_of_row _ _ 4 _ _ _ hU
  have u5 := cell_of_row _ _ 5 _ _ _ hU
  have u6 := cell_of_row _ _ 6 _ _ _ hU
  have u7 := cell_of_row _ _ 7 _ _ _ hU
  have HX := Lib.hid (And.intro hU (And.intro hR1 hW1))
  clear hU hR1 hW1
  go_wp2_with fail
  refine (HV.out gu w2 HX.out.2.2 HX.out.1).mono ?_
  rintro e w3 ⟨rfl, h3⟩
  obtain ⟨hU0, hR0, hW0⟩ := HX.out
  have hR := hR0.keep h3
  have hW := bstep hW0 h3
  clear hU0 hR0 hW0 HX h3 u0 u1 u2 u3 u4 u5 u6 u7
  have f0 := frozen_of_row _ _ 0 _ _ hR
  have f1 := frozen_of_row _ _ 1 _ _ hR
  have f2 := frozen_of_row _ _ 2 _ _ hR
  have f3 := frozen_of_row _ _ 3 _ _ hR
  have r0 := cell_of_row _ _ 0 _ _ _ hR
  have r1 := cell_of_row _ _ 1 _ _ _ hR
  have r2 := cell_of_row _ _ 2 _ _ _ hR
  have r3 := cell_of_row _ _ 3 _ _ _ hR
  have hG := grown_set4 w3 (w.heap.size + 1) (.int .u64 (lb (r) 0)) (.int .u64 (lb (r) 1)) (.int .u64 (lb (r) 2)) (.int .u64 (lb (r) 3))
  have HE := Lib.hid (step_world hW hG (Nat.le_refl _) (by omega))
  clear hR hW hG
  go_wp2_with fail
  exact bodyPost_ret (v := W r) (by simp [results, Tryd.results14, go_sem, r0, r1, r2, r3]) rfl ⟨rfl, HE.out⟩
theorem squares_any (a b o n cap : Nat) (f : Nat → Bool) (w : World) (hn : n ≤ 9223372036854775807) (hb : b < w.heap.size) (hf : ∀ j, j < n → w.cell? ⟨b, o + j, none⟩ = some (.bool (f j))) :
    Calls Tryd.prog 14 #[W a, .slice (some ⟨b, o, none⟩) n cap] w fun e w' => e = .returned (W (sqF a f 1 n)) ∧ Below w.heap.size w w' :=
  squares_gen a _ _ w fun g X hX hg => sfold_any a 1 1 g b o n cap f X hg hn (Nat.lt_of_lt_of_le hb hX.size) fun j hj => (hX.cell (p := ⟨b, o + j, none⟩) hb).trans (hf j hj)
theorem squares_nil (a : Nat) (w : World) : Calls Tryd.prog 14 #[W a, .slice none 0 0] w fun e w' => e = .returned (W 1) ∧ Below w.heap.size w w' :=
  squares_gen a _ _ w fun g X _ _ => sfold_nil 1 g X
end Go.Proofs.YtidpekcegocjfaaDoor
