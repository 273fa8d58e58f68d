/- The reference of layer word: Sub, Order, Small, by contracts. -/
import Derived.Test.YthdapmceafnhgaaWv
namespace Go.Proofs.Ythdapmceafnhgaa
open Go.RowKit
attribute [local go_sem] ix0 ix1 ix2 ix3
theorem rstepB {B : Nat} {W W1 w1 : World} (hB : B ≤ W.heap.size) (k : Below W1.heap.size W1 w1) (h : Below B W W1) : Below B W w1 := h.trans (k.mono (Nat.le_trans hB h.size))
theorem wc_one (n : Nat) : (Wc n).all (·.oneCell') = true := by
  rw [Array.all_eq_true_iff_forall_mem]
  intro v hv
  unfold Wc at hv
  simp only [List.mem_toArray, List.mem_cons, List.not_mem_nil, or_false] at hv
  rcases hv with rfl | rfl | rfl | rfl <;> rfl
theorem info_word : (Try.prog.info? 24).map (·.size) = some 4 := by kernel_rfl

set_option maxRecDepth 100000 in
set_option maxHeartbeats 1000000 in
theorem rsub_any (a b : Nat) (w : World) :
    Calls Try.prog 21 #[W a, W b] w fun e w' => e = .returned (W (sb a b)) ∧ Below w.heap.size w w' := by
  have HI := Lib.hid info_word
  go_enter Try.func21, Try.ntmps21
  go_wp2_with fail
  have A : Blk (((w.alloc (.cells (Wc a) 24)).alloc (.cells (Wc b) 24)).alloc (.cells (Wc 0) 24)) w.heap.size 24 (Wc a) := ((Blk.new _ _ _).alloc _).alloc _
  have B : Blk (((w.alloc (.cells (Wc a) 24)).alloc (.cells (Wc b) 24)).alloc (.cells (Wc 0) 24)) (w.heap.size + 1) 24 (Wc b) := (Blk.newS w _ _ _).alloc _
  have R : Blk (((w.alloc (.cells (Wc a) 24)).alloc (.cells (Wc b) 24)).alloc (.cells (Wc 0) 24)) (w.heap.size + 1 + 1) 24 (Wc 0) := by
    have h := Blk.newS (w.alloc (.cells (Wc a) 24)) (.cells (Wc b) 24) 24 (Wc 0)
    rwa [World.size_alloc] at h
  have hW : Below w.heap.size w (((w.alloc (.cells (Wc a) 24)).alloc (.cells (Wc b) 24)).alloc (.cells (Wc 0) 24)) := balloc (balloc (balloc (Below.refl _ _) _) _) _
  have e0 : Wc 0 = #[.int .u64 0, .int .u64 0, .int .u64 0, .int .u64 0] := by unfold Wc; simp only [lb_zero]
  obtain ⟨W0, hW0⟩ : ∃ W0, ((w.alloc (.cells (Wc a) 24)).alloc (.cells (Wc b) 24)).alloc (.cells (Wc 0) 24) = W0 := ⟨_, rfl⟩
  rw [hW0] at A B R hW
  rw [e0] at hW0
  rw [hW0]
  clear hW0 e0
  have hle : w.heap.size + 1 + 1 ≤ W0.heap.size := Nat.le_of_lt R.lt
  have cA0 : ∀ w', Below (w.heap.size + 1 + 1) W0 w' → w'.cell? ⟨w.heap.size, 0, none⟩ = some (.int .u64 (lb a 0)) := fun w' h => (h.cell (p := ⟨w.heap.size, 0, none⟩) (by show w.heap.size < w.heap.size + 1 + 1; omega)).trans (cell_of_row _ _ 0 _ _ _ A)
  have cA1 : ∀ w', Below (w.heap.size + 1 + 1) W0 w' → w'.cell? ⟨w.heap.size, 1, none⟩ = some (.int .u64 (lb a 1)) := fun w' h => (h.cell (p := ⟨w.heap.size, 1, none⟩) (by show w.heap.size < w.heap.size + 1 + 1; omega)).trans (cell_of_row _ _ 1 _ _ _ A)
  have cA2 : ∀ w', Below (w.heap.size + 1 + 1) W0 w' → w'.cell? ⟨w.heap.size, 2, none⟩ = some (.int .u64 (lb a 2)) := fun w' h => (h.cell (p := ⟨w.heap.size, 2, none⟩) (by show w.heap.size < w.heap.size + 1 + 1; omega)).trans (cell_of_row _ _ 2 _ _ _ A)
  have cA3 : ∀ w', Below (w.heap.size + 1 + 1) W0 w' → w'.cell? ⟨w.heap.size, 3, none⟩ = some (.int .u64 (lb a 3)) := fun w' h => (h.cell (p := ⟨w.heap.size, 3, none⟩) (by show w.heap.size < w.heap.size + 1 + 1; omega)).trans (cell_of_row _ _ 3 _ _ _ A)
  have cB0 : ∀ w', Below (w.heap.size + 1 + 1) W0 w' → w'.cell? ⟨w.heap.size + 1, 0, none⟩ = some (.int .u64 (lb b 0)) := fun w' h => (h.cell (p := ⟨w.heap.size + 1, 0, none⟩) (by show w.heap.size + 1 < w.heap.size + 1 + 1; omega)).trans (cell_of_row _ _ 0 _ _ _ B)
  have cB1 : ∀ w', Below (w.heap.size + 1 + 1) W0 w' → w'.cell? ⟨w.heap.size + 1, 1, none⟩ = some (.int .u64 (lb b 1)) := fun w' h => (h.cell (p := ⟨w.heap.size + 1, 1, none⟩) (by show w.heap.size + 1 < w.heap.size + 1 + 1; omega)).trans (cell_of_row _ _ 1 _ _ _ B)
  have cB2 : ∀ w', Below (w.heap.size + 1 + 1) W0 w' → w'.cell? ⟨w.heap.size + 1, 2, none⟩ = some (.int .u64 (lb b 2)) := fun w' h => (h.cell (p := ⟨w.heap.size + 1, 2, none⟩) (by show w.heap.size + 1 < w.heap.size + 1 + 1; omega)).trans (cell_of_row _ _ 2 _ _ _ B)
  have cB3 : ∀ w', Below (w.heap.size + 1 + 1) W0 w' → w'.cell? ⟨w.heap.size + 1, 3, none⟩ = some (.int .u64 (lb b 3)) := fun w' h => (h.cell (p := ⟨w.heap.size + 1, 3, none⟩) (by show w.heap.size + 1 < w.heap.size + 1 + 1; omega)).trans (cell_of_row _ _ 3 _ _ _ B)
  have HR := Lib.hid R
  have HW := Lib.hid hW
  clear A B R hW
  refine wp_region_held_drew (S := fun w' => Below (w.heap.size + 1 + 1) W0 w') (by as_aux_lemma => kernel_rfl) (Below.refl _ _).drew (fun hHeld => ?_)
  simp only [List.size_toArray, List.length_cons, List.length_nil, Nat.reduceAdd, Array.replicate_succ, Array.replicate_zero, List.push_toArray, List.nil_append, List.cons_append]
  refine wpAnyH_take (i := 0) (oi := { dst := some 5, op := Op.load 24 (Operand.tmp 2), type := 24, pos := "ref.go:52", after := #[], guard := none }) (v := ?vq0) rfl (by as_aux_lemma => kernel_rfl) (by as_aux_lemma => kernel_rfl) (by as_aux_lemma => kernel_rfl) (fun _ _ _ h => h) (Or.inl ⟨by rfl, ?yq0⟩) (by assumption) ?rq0
  case yq0 => (intro w hSw; (try dsimp only at hSw); go_simp <;> with_reducible rfl)
  simp only [Act.put, List.setIfInBounds_toArray, List.set_cons_zero, List.set_cons_succ]
  refine wpAnyH_take (i := 1) (oi := { dst := some 6, op := Op.load 24 (Operand.tmp 3), type := 24, pos := "ref.go:52", after := #[], guard := none }) (v := ?vq1) rfl (by as_aux_lemma => kernel_rfl) (by as_aux_lemma => kernel_rfl) (by as_aux_lemma => kernel_rfl) (fun _ _ _ h => h) (Or.inl ⟨by rfl, ?yq1⟩) (by assumption) ?rq1
  case yq1 => (intro w hSw; (try dsimp only at hSw); go_simp <;> with_reducible rfl)
  simp only [Act.put, List.setIfInBounds_toArray, List.set_cons_zero, List.set_cons_succ]
  refine wpAnyH_ready (rs := [2]) (by as_aux_lemma => kernel_rfl) (by simp) ?_
  refine AllReadyH.cons (o := { dst := some 7, op := Op.call { callee := Callee.value (Operand.func 32), args := #[Operand.tmp 6], argTypes := #[24] }, type := 24, pos := "ref.go:52", after := #[{ on := 1, ground := Ground.data }], guard := none }) rfl (fun K hK => ?_) (by exact AllReadyH.nil)
  go_simp
  (go_at_call 32; refine (rnot_any _ _).mono ?_; rintro e wk2 ⟨rfl, hk2⟩)
  refine hK.out _ _ (by (try dsimp only); (first | assumption | exact (Below.refl _ _).drew | exact rstepB hle (by assumption) (by assumption))) (fun hHeld => ?_)
  clear hK K
  simp only [List.setIfInBounds_toArray, List.set_cons_zero, List.set_cons_succ]
  refine wpAnyH_ready (rs := [3]) (by as_aux_lemma => kernel_rfl) (by simp) ?_
  refine AllReadyH.cons (o := { dst := some 8, op := Op.call { callee := Callee.value (Operand.func 31), args := #[Operand.tmp 5, Operand.tmp 7], argTypes := #[24, 24] }, type := 24, pos := "ref.go:52", after := #[{ on := 0, ground := Ground.data }, { on := 2, ground := Ground.data }, { on := 2, ground := Ground.chain }], guard := none }) rfl (fun K hK => ?_) (by exact AllReadyH.nil)
  go_simp
  (go_at_call 31; refine (radd_any _ _ _).mono ?_; rintro e wk3 ⟨rfl, hk3⟩)
  refine hK.out _ _ (by (try dsimp only); (first | assumption | exact (Below.refl _ _).drew | exact rstepB hle (by assumption) (by assumption))) (fun hHeld => ?_)
  clear hK K
  simp only [List.setIfInBounds_toArray, List.set_cons_zero, List.set_cons_succ]
  refine wpAnyH_ready (rs := [4]) (by as_aux_lemma => kernel_rfl) (by simp) ?_
  refine AllReadyH.cons (o := { dst := some 9, op := Op.call { callee := Callee.value (Operand.func 10), args := #[Operand.const (Value.int IntKind.u64 1)], argTypes := #[22] }, type := 24, pos := "ref.go:52", after := #[{ on := 3, ground := Ground.chain }], guard := none }) rfl (fun K hK => ?_) (by exact AllReadyH.nil)
  go_simp
  (go_at_call 10; refine (rof_any 1 (by decide) _).mono ?_; rintro e wk4 ⟨rfl, hk4⟩)
  refine hK.out _ _ (by (try dsimp only); (first | assumption | exact (Below.refl _ _).drew | exact rstepB hle (by assumption) (by assumption))) (fun hHeld => ?_)
  clear hK K
  simp only [List.setIfInBounds_toArray, List.set_cons_zero, List.set_cons_succ]
  refine wpAnyH_ready (rs := [5]) (by as_aux_lemma => kernel_rfl) (by simp) ?_
  refine AllReadyH.cons (o := { dst := some 10, op := Op.call { callee := Callee.value (Operand.func 31), args := #[Operand.tmp 8, Operand.tmp 9], argTypes := #[24, 24] }, type := 24, pos := "ref.go:52", after := #[{ on := 3, ground := Ground.data }, { on := 4, ground := Ground.data }, { on := 4, ground := Ground.chain }], guard := none }) rfl (fun K hK => ?_) (by exact AllReadyH.nil)
  go_simp
  (go_at_call 31; refine (radd_any _ _ _).mono ?_; rintro e wk5 ⟨rfl, hk5⟩)
  refine hK.out _ _ (by (try dsimp only); (first | assumption | exact (Below.refl _ _).drew | exact rstepB hle (by assumption) (by assumption))) (fun hHeld => ?_)
  clear hK K
  simp only [List.setIfInBounds_toArray, List.set_cons_zero, List.set_cons_succ]
  refine wpAnyH_ready (rs := [6]) (by as_aux_lemma => kernel_rfl) (by simp) ?_
  refine AllReadyH.cons (o := { dst := none, op := Op.store 24 (Operand.tmp 4) (Operand.tmp 10), type := 0, pos := "ref.go:52", after := #[{ on := 5, ground := Ground.data }, { on := 5, ground := Ground.chain }, { on := 0, ground := Ground.phase }, { on := 1, ground := Ground.phase }, { on := 2, ground := Ground.phase }, { on := 3, ground := Ground.phase }, { on := 4, ground := Ground.phase }, { on := 5, ground := Ground.phase }], guard := none }) rfl (fun K hK => ?_) (by exact AllReadyH.nil)
  have hR2 := (((HR.out.drewR.keep hk2).keep hk3).keep hk4).keep hk5
  rw [if_pos (by rfl)]
  refine wp_store_mid 24 (.tmp 4) (.tmp 10) rfl (w.heap.size + 1 + 1) 0 (Wc (a + ntN b + 1)) rfl rfl (hR2.there _ (Nat.le_refl 4)) HI.out (wc_one _) (hK.out _ _ (below_setCells' (Nat.le_refl _) _ 0 _ hHeld) (fun hHeld => ?_))
  have hR3 := blk_setCells hR2 (Wc (a + ntN b + 1)) rfl (wc_one _)
  clear hK K
  simp only [List.setIfInBounds_toArray, List.set_cons_zero, List.set_cons_succ]
  refine wpAnyH_done (by as_aux_lemma => kernel_rfl) ?_ _
  have hB := rstepB (Nat.le_refl _) (Below.refl _ _) (HW.out.trans (hHeld.mono (by omega)))
  clear cA0 cA1 cA2 cA3 cB0 cB1 cB2 cB3
  generalize wk5.setCells (w.heap.size + 1 + 1) 0 (Wc (a + ntN b + 1)).toList = wz at hR3 hB ⊢
  rw [sb_nt] at hR3
  have r0 := (cell_of_row wz _ 0 _ _ _ hR3).trans (wc_get _ 0 (by omega))
  have r1 := (cell_of_row wz _ 1 _ _ _ hR3).trans (wc_get _ 1 (by omega))
  have r2 := (cell_of_row wz _ 2 _ _ _ hR3).trans (wc_get _ 2 (by omega))
  have r3 := (cell_of_row wz _ 3 _ _ _ hR3).trans (wc_get _ 3 (by omega))
  clear hR3 hR2
  go_wp2
  exact bodyPost_ret (v := W (sb a b)) (by simp [results, Try.results21, go_sem, r0, r1, r2, r3]) rfl ⟨rfl, hB⟩

end Go.Proofs.Ythdapmceafnhgaa
