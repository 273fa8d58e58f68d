/- power: times, begun, Squares' closure. -/
import Derived.Test.YtidpekcegocjfaaDoorPc
import Derived.Test.YtidpekcegocjfaaDoorBp
import Derived.Deep.RegionHeld3
namespace Go.Proofs.YtidpekcegocjfaaDoor
open Go.RowKit
attribute [local go_sem] ix0 ix1 ix2 ix3
theorem wc_mod (n : Nat) : Wc (n % MM) = Wc n := by unfold Wc; rw [lb_mod n 0 (by omega), lb_mod n 1 (by omega), lb_mod n 2 (by omega), lb_mod n 3 (by omega)]
theorem w_mod (n : Nat) : W (n % MM) = W n := by unfold W; rw [lb_mod n 0 (by omega), lb_mod n 1 (by omega), lb_mod n 2 (by omega), lb_mod n 3 (by omega)]
/-- A power under way: its word, its product. -/
abbrev UP (a p : Nat) : Array Value := #[.int .u64 (lb a 0), .int .u64 (lb a 1), .int .u64 (lb a 2), .int .u64 (lb a 3), .int .u64 (lb p 0), .int .u64 (lb p 1), .int .u64 (lb p 2), .int .u64 (lb p 3)]

set_option maxHeartbeats 1000000 in
theorem times_any (b p : Nat) (w : World) :
    Calls Tryd.prog 30 #[W b, W p] w fun e w' => e = .returned (W (p * b)) ∧ Below w.heap.size w w' := by
  go_enter Tryd.func30, Tryd.ntmps30
  have hR : Blk (((w.alloc (.cells (Wc b) 51)).alloc (.cells (Wc p) 24)).alloc (.cells #[.int .u64 0, .int .u64 0, .int .u64 0, .int .u64 0] 24)) (w.heap.size + 1 + 1) 24 #[.int .u64 0, .int .u64 0, .int .u64 0, .int .u64 0] := by
    have h := Blk.newS (w.alloc (.cells (Wc b) 51)) (.cells (Wc p) 24) 24 #[.int .u64 0, .int .u64 0, .int .u64 0, .int .u64 0]
    rwa [World.size_alloc] at h
  have hW := balloc (balloc (balloc (Below.refl w.heap.size w) (.cells (Wc b) 51)) (.cells (Wc p) 24)) (.cells #[.int .u64 0, .int .u64 0, .int .u64 0, .int .u64 0] 24)
  have HX := Lib.hid (And.intro hR hW)
  clear hR hW
  go_wp2_with fail
  refine (mul_any p b _).mono ?_
  rintro e w1 ⟨rfl, h1⟩
  have hR := HX.out.1.keep h1
  have hW := bstep HX.out.2 h1
  have f0 := frozen_of_row _ _ 0 _ _ hR
  have f1 := frozen_of_row _ _ 1 _ _ hR
  have f2 := frozen_of_row _ _ 2 _ _ hR
  have f3 := frozen_of_row _ _ 3 _ _ hR
  have c0 := cell_of_row _ _ 0 _ _ _ hR
  have c1 := cell_of_row _ _ 1 _ _ _ hR
  have c2 := cell_of_row _ _ 2 _ _ _ hR
  have c3 := cell_of_row _ _ 3 _ _ _ hR
  have hG := grown_set4 w1 (w.heap.size + 1 + 1) (.int .u64 (lb (p * b) 0)) (.int .u64 (lb (p * b) 1)) (.int .u64 (lb (p * b) 2)) (.int .u64 (lb (p * b) 3))
  have HE := Lib.hid (step_world hW hG (Nat.le_refl _) (by omega))
  clear hR hW hG HX h1
  go_wp2_with fail
  exact bodyPost_ret (v := W (p * b)) (by simp [results, Tryd.results30, go_sem, c0, c1, c2, c3]) rfl ⟨rfl, HE.out⟩

theorem below_drew' {n : Nat} {w X : World} (h : Below n w X) : Below n w X.drew := ⟨h.os, h.tape, h.output, h.size, h.block⟩
theorem Blk.drew' {X : World} {g : Nat} {t : TypeId} {cs : Array Value} (h : Blk X g t cs) : Blk X.drew g t cs := h
theorem of1_any (w : World) : Calls Tryd.prog 37 #[.int .u64 1] w fun e w' => e = .returned (W 1) ∧ Below w.heap.size w w' := of_any 1 (by decide) w
theorem grown8 (w : World) (g : Nat) (a b c d e f h i : Int) : w.grownBy ((((((((w.setCell ⟨g, 0, none⟩ (.int .u64 a)).setCell ⟨g, 1, none⟩ (.int .u64 b)).setCell ⟨g, 2, none⟩ (.int .u64 c)).setCell ⟨g, 3, none⟩ (.int .u64 d)).setCell ⟨g, 4, none⟩ (.int .u64 e)).setCell ⟨g, 5, none⟩ (.int .u64 f)).setCell ⟨g, 6, none⟩ (.int .u64 h)).setCell ⟨g, 7, none⟩ (.int .u64 i)) (some g) :=
  grown_set' (grown_set' (grown_set' (grown_set' (grown_set' (grown_set' (grown_set' (grown_set' (grown_refl w g) 0 _) 1 _) 2 _) 3 _) 4 _) 5 _) 6 _) 7 _
theorem blk8v {X : World} {g : Nat} {t : TypeId} {x0 x1 x2 x3 x4 x5 x6 x7 : Value} (h : Blk X g t #[x0, x1, x2, x3, x4, x5, x6, x7]) (v0 v1 v2 v3 v4 v5 v6 v7 : Value) :
    Blk ((((((((X.setCell ⟨g, 0, none⟩ v0).setCell ⟨g, 1, none⟩ v1).setCell ⟨g, 2, none⟩ v2).setCell ⟨g, 3, none⟩ v3).setCell ⟨g, 4, none⟩ v4).setCell ⟨g, 5, none⟩ v5).setCell ⟨g, 6, none⟩ v6).setCell ⟨g, 7, none⟩ v7) g t #[v0, v1, v2, v3, v4, v5, v6, v7] := by
  have h0 : Blk (X.setCell ⟨g, 0, none⟩ v0) g t #[v0, x1, x2, x3, x4, x5, x6, x7] := heap_setCell_same _ g 0 _ _ _ h
  have h1 : Blk ((X.setCell ⟨g, 0, none⟩ v0).setCell ⟨g, 1, none⟩ v1) g t #[v0, v1, x2, x3, x4, x5, x6, x7] := heap_setCell_same _ g 1 _ _ _ h0
  have h2 : Blk (((X.setCell ⟨g, 0, none⟩ v0).setCell ⟨g, 1, none⟩ v1).setCell ⟨g, 2, none⟩ v2) g t #[v0, v1, v2, x3, x4, x5, x6, x7] := heap_setCell_same _ g 2 _ _ _ h1
  have h3 : Blk ((((X.setCell ⟨g, 0, none⟩ v0).setCell ⟨g, 1, none⟩ v1).setCell ⟨g, 2, none⟩ v2).setCell ⟨g, 3, none⟩ v3) g t #[v0, v1, v2, v3, x4, x5, x6, x7] := heap_setCell_same _ g 3 _ _ _ h2
  have h4 : Blk (((((X.setCell ⟨g, 0, none⟩ v0).setCell ⟨g, 1, none⟩ v1).setCell ⟨g, 2, none⟩ v2).setCell ⟨g, 3, none⟩ v3).setCell ⟨g, 4, none⟩ v4) g t #[v0, v1, v2, v3, v4, x5, x6, x7] := heap_setCell_same _ g 4 _ _ _ h3
  have h5 : Blk ((((((X.setCell ⟨g, 0, none⟩ v0).setCell ⟨g, 1, none⟩ v1).setCell ⟨g, 2, none⟩ v2).setCell ⟨g, 3, none⟩ v3).setCell ⟨g, 4, none⟩ v4).setCell ⟨g, 5, none⟩ v5) g t #[v0, v1, v2, v3, v4, v5, x6, x7] := heap_setCell_same _ g 5 _ _ _ h4
  have h6 : Blk (((((((X.setCell ⟨g, 0, none⟩ v0).setCell ⟨g, 1, none⟩ v1).setCell ⟨g, 2, none⟩ v2).setCell ⟨g, 3, none⟩ v3).setCell ⟨g, 4, none⟩ v4).setCell ⟨g, 5, none⟩ v5).setCell ⟨g, 6, none⟩ v6) g t #[v0, v1, v2, v3, v4, v5, v6, x7] := heap_setCell_same _ g 6 _ _ _ h5
  have h7 : Blk ((((((((X.setCell ⟨g, 0, none⟩ v0).setCell ⟨g, 1, none⟩ v1).setCell ⟨g, 2, none⟩ v2).setCell ⟨g, 3, none⟩ v3).setCell ⟨g, 4, none⟩ v4).setCell ⟨g, 5, none⟩ v5).setCell ⟨g, 6, none⟩ v6).setCell ⟨g, 7, none⟩ v7) g t #[v0, v1, v2, v3, v4, v5, v6, v7] := heap_setCell_same _ g 7 _ _ _ h6
  exact h7
set_option maxHeartbeats 1000000 in
theorem begun_any (a : Nat) (w : World) :
    Calls Tryd.prog 26 #[W a] w fun e w' => e = .returned (.agg (UP a 1)) ∧ Below w.heap.size w w' := by
  go_enter Tryd.func26, Tryd.ntmps26
  have hA := Blk.alloc (Blk.new w 24 (Wc a)) (.cells (Array.replicate 8 (.int .u64 0)) 53)
  have hR := Blk.newS w (.cells (Wc a) 24) 53 (Array.replicate 8 (.int .u64 0))
  have hW := balloc (balloc (Below.refl w.heap.size w) (.cells (Wc a) 24)) (.cells (Array.replicate 8 (.int .u64 0)) 53)
  simp only [Array.replicate_succ, Array.replicate_zero, List.push_toArray, List.nil_append, List.cons_append] at hA hR hW
  go_upto_region 1 with fail
  obtain ⟨W0, hW0⟩ : ∃ W0, (w.alloc (.cells (Wc a) 24)).alloc (.cells #[.int .u64 0, .int .u64 0, .int .u64 0, .int .u64 0, .int .u64 0, .int .u64 0, .int .u64 0, .int .u64 0] 53) = W0 := ⟨_, rfl⟩
  rw [hW0] at hA hR hW ⊢
  clear hW0
  refine wp_region_held_drew (S := fun w' => Blk w' w.heap.size 24 (Wc a) ∧ Below w.heap.size w w') (by as_aux_lemma => kernel_rfl) ⟨Blk.drew' hA, below_drew' hW⟩ (fun hHeld => ?_)
  simp only [List.size_toArray, List.length_cons, List.length_nil, Nat.reduceAdd, Array.replicate_succ, Array.replicate_zero, List.push_toArray, List.nil_append, List.cons_append]
  refine wpAnyH_take (i := 0) (oi := { dst := some 3, op := Op.load 24 (Operand.tmp 1), type := 24, pos := "power.go:85", after := #[], guard := none }) (v := ?vq0) rfl (by as_aux_lemma => kernel_rfl) (by as_aux_lemma => kernel_rfl) (by as_aux_lemma => kernel_rfl) (fun _ _ _ h => h) (Or.inl ⟨by rfl, ?yq0⟩) (by assumption) ?rq0
  case yq0 => (intro w hSw; (try dsimp only at hSw); have c0 := (cell_of_row _ _ 0 _ _ _ hSw.1).trans (wc_get a 0 (by omega)); have c1 := (cell_of_row _ _ 1 _ _ _ hSw.1).trans (wc_get a 1 (by omega)); have c2 := (cell_of_row _ _ 2 _ _ _ hSw.1).trans (wc_get a 2 (by omega)); have c3 := (cell_of_row _ _ 3 _ _ _ hSw.1).trans (wc_get a 3 (by omega)); go_simp <;> with_reducible rfl)
  simp only [Act.put, List.setIfInBounds_toArray, List.set_cons_zero, List.set_cons_succ]
  refine wpAnyH_ready (rs := [1]) (by as_aux_lemma => kernel_rfl) (by simp) ?_
  refine AllReadyH.cons (o := { dst := some 4, op := Op.call { callee := Callee.value (Operand.func 37), args := #[Operand.const (Value.int IntKind.u64 1)], argTypes := #[22] }, type := 24, pos := "power.go:85", after := #[], guard := none }) rfl (fun K hK => ?_) (by exact AllReadyH.nil)
  rw [if_pos (by rfl)]
  go_simp
  go_at_call 37
  refine (of1_any _).mono ?_
  rintro e w1 ⟨rfl, h1⟩
  refine hK.out _ _ (by (try dsimp only); exact ⟨(Blk.drew' hA).keep h1, bstep (below_drew' hW) h1⟩) (fun hHeld => ?_)
  clear hK K
  simp only [List.setIfInBounds_toArray, List.set_cons_zero, List.set_cons_succ]
  refine wpAnyH_take (i := 2) (oi := { dst := some 5, op := Op.build 53 #[(0, Operand.tmp 3), (1, Operand.tmp 4)], type := 53, pos := "power.go:85", after := #[{ on := 0, ground := Ground.data }, { on := 1, ground := Ground.data }], guard := none }) (v := ?vq2) rfl (by as_aux_lemma => kernel_rfl) (by as_aux_lemma => kernel_rfl) (by as_aux_lemma => kernel_rfl) (fun _ _ _ h => h) (Or.inl ⟨by rfl, ?yq2⟩) (by assumption) ?rq2
  case yq2 => (intro w hSw; (try dsimp only at hSw); go_simp <;> with_reducible rfl)
  simp only [Act.put, List.setIfInBounds_toArray, List.set_cons_zero, List.set_cons_succ]
  have hR1 := (Blk.drew' hR).keep h1
  have f0 := frozen_of_row _ _ 0 _ _ hR1
  have f1 := frozen_of_row _ _ 1 _ _ hR1
  have f2 := frozen_of_row _ _ 2 _ _ hR1
  have f3 := frozen_of_row _ _ 3 _ _ hR1
  have f4 := frozen_of_row _ _ 4 _ _ hR1
  have f5 := frozen_of_row _ _ 5 _ _ hR1
  have f6 := frozen_of_row _ _ 6 _ _ hR1
  have f7 := frozen_of_row _ _ 7 _ _ hR1
  have r0 := cell_of_row _ _ 0 _ _ _ hR1
  have r1 := cell_of_row _ _ 1 _ _ _ hR1
  have r2 := cell_of_row _ _ 2 _ _ _ hR1
  have r3 := cell_of_row _ _ 3 _ _ _ hR1
  have r4 := cell_of_row _ _ 4 _ _ _ hR1
  have r5 := cell_of_row _ _ 5 _ _ _ hR1
  have r6 := cell_of_row _ _ 6 _ _ _ hR1
  have r7 := cell_of_row _ _ 7 _ _ _ hR1
  have hG := grown8 w1 (w.heap.size + 1) (lb a 0) (lb a 1) (lb a 2) (lb a 3) (lb 1 0) (lb 1 1) (lb 1 2) (lb 1 3)
  have hT := blk8v hR1 (.int .u64 (lb a 0)) (.int .u64 (lb a 1)) (.int .u64 (lb a 2)) (.int .u64 (lb a 3)) (.int .u64 (lb 1 0)) (.int .u64 (lb 1 1)) (.int .u64 (lb 1 2)) (.int .u64 (lb 1 3))
  have HF := Lib.hid (show _ ∧ _ ∧ _ from ⟨((Blk.drew' hA).keep h1).kept hG (fun e => by injection e; omega), step_world (bstep (below_drew' hW) h1) hG (Nat.le_refl _) (by omega), hT⟩)
  refine wpAnyH_ready (rs := [3]) (by as_aux_lemma => kernel_rfl) (by simp) ?_
  refine AllReadyH.cons (o := { dst := none, op := Op.store 53 (Operand.tmp 2) (Operand.tmp 5), type := 0, pos := "power.go:85", after := #[{ on := 2, ground := Ground.data }, { on := 1, ground := Ground.chain }, { on := 0, ground := Ground.phase }, { on := 1, ground := Ground.phase }, { on := 2, ground := Ground.phase }], guard := none }) rfl (fun K hK => ?_) (by exact AllReadyH.nil)
  rw [if_pos (by rfl)]
  go_simp
  refine hK.out _ _ (by (try dsimp only); exact ⟨HF.out.1, HF.out.2.1⟩) (fun hHeld => ?_)
  clear hK K
  simp only [List.setIfInBounds_toArray, List.set_cons_zero, List.set_cons_succ]
  refine wpAnyH_done (by as_aux_lemma => kernel_rfl) ?_ _
  obtain ⟨hU, hW3, hP⟩ := HF.out
  clear hA hR hW hR1 hG hT h1 hHeld HF f0 f1 f2 f3 f4 f5 f6 f7 r0 r1 r2 r3 r4 r5 r6 r7
  generalize ((((((((w1.setCell ⟨w.heap.size + 1, 0, none⟩ (.int .u64 (lb a 0))).setCell ⟨w.heap.size + 1, 1, none⟩ (.int .u64 (lb a 1))).setCell ⟨w.heap.size + 1, 2, none⟩ (.int .u64 (lb a 2))).setCell ⟨w.heap.size + 1, 3, none⟩ (.int .u64 (lb a 3))).setCell ⟨w.heap.size + 1, 4, none⟩ (.int .u64 (lb 1 0))).setCell ⟨w.heap.size + 1, 5, none⟩ (.int .u64 (lb 1 1))).setCell ⟨w.heap.size + 1, 6, none⟩ (.int .u64 (lb 1 2))).setCell ⟨w.heap.size + 1, 7, none⟩ (.int .u64 (lb 1 3))) = W3 at hU hW3 hP ⊢
  have c0 := cell_of_row _ _ 0 _ _ _ hP
  have c1 := cell_of_row _ _ 1 _ _ _ hP
  have c2 := cell_of_row _ _ 2 _ _ _ hP
  have c3 := cell_of_row _ _ 3 _ _ _ hP
  have c4 := cell_of_row _ _ 4 _ _ _ hP
  have c5 := cell_of_row _ _ 5 _ _ _ hP
  have c6 := cell_of_row _ _ 6 _ _ _ hP
  have c7 := cell_of_row _ _ 7 _ _ _ hP
  have HW := Lib.hid hW3
  clear hU hW3 hP
  go_wp2_with fail
  exact bodyPost_ret (v := .agg (UP a 1)) (by simp [results, Tryd.results26, go_sem, c0, c1, c2, c3, c4, c5, c6, c7]) rfl ⟨rfl, HW.out⟩
end Go.Proofs.YtidpekcegocjfaaDoor
