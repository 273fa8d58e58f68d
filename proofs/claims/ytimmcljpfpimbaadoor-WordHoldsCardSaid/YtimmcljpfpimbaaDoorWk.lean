/- The stage's theorem of the layer word (WordHolds): the walk, its one region by hand. -/
import Derived.Test.YtimmcljpfpimbaaDoorWq
namespace Go.Proofs.YtimmcljpfpimbaaDoor
open Go.RowKit

theorem join2' {C : Nat → Nat → World → Prop} {G : Prop} (P : Nat → Nat → World → Prop) (main : (∀ X Y wz, C X Y wz → P X Y wz) → G) (hrest : ∀ X Y wz, C X Y wz → P X Y wz) : G := main hrest
set_option maxRecDepth 100000 in
set_option maxHeartbeats 16000000 in
theorem holds_walk (a b c : Nat) (ha : a < MM) (hb : b < MM) (w : World) :
    Calls Tryd.prog 8 #[W a, W b, W c] w fun e w' => e = .returned (.bool true) ∧ Below w.heap.size w w' := by
  have h1 := eqW_true (sb (a + b) b) a (sb_add a b)
  have h2 := eqW_true (a + b) (b + a) (by rw [Nat.add_comm])
  have h3 := eqW_true (a * b) (b * a) (by rw [Nat.mul_comm])
  have h4 := eqW_true (a * (b + c)) (a * b + a * c) (by rw [Nat.mul_add])
  have h5 := eqW_true (a * b * c) (a * (b * c)) (by rw [Nat.mul_assoc])
  have h6 := eqW a b
  have ht := txt_eq a b ha hb
  have hb0 := (cmpN_bd b a).1
  have hb1 := (cmpN_bd b a).2
  have hw1 : wrap64 (-cmpN b a) = -cmpN b a := IntWalk.wrap64_in _ ⟨by omega, by omega⟩
  have hw2 : IntKind.i64.wrap (-cmpN b a) = -cmpN b a := IntWalk.i64_in _ (by omega)
  have hcm := cmpN_anti a b
  go_enter Tryd.func8, Tryd.ntmps8
  go_wp2_with fail
  have A : Blk (((w.alloc (.cells (Wc a) 24)).alloc (.cells (Wc b) 24)).alloc (.cells (Wc c) 24)) w.heap.size 24 (Wc a) := ((Blk.new _ _ _).alloc _).alloc _
  have B : Blk (((w.alloc (.cells (Wc a) 24)).alloc (.cells (Wc b) 24)).alloc (.cells (Wc c) 24)) (w.heap.size + 1) 24 (Wc b) := (Blk.new1 w _ _ _).alloc _
  have C : Blk (((w.alloc (.cells (Wc a) 24)).alloc (.cells (Wc b) 24)).alloc (.cells (Wc c) 24)) (w.heap.size + 1 + 1) 24 (Wc c) := by
    have h := Blk.new1 (w.alloc (.cells (Wc a) 24)) (.cells (Wc b) 24) 24 (Wc c)
    rwa [World.size_alloc] at h
  have hW : Below w.heap.size w (((w.alloc (.cells (Wc a) 24)).alloc (.cells (Wc b) 24)).alloc (.cells (Wc c) 24)) := balloc (balloc (balloc (Below.refl _ _) _) _) _
  obtain ⟨W0, hW0⟩ : ∃ W0, ((w.alloc (.cells (Wc a) 24)).alloc (.cells (Wc b) 24)).alloc (.cells (Wc c) 24) = W0 := ⟨_, rfl⟩
  rw [hW0] at A B C hW ⊢
  clear hW0
  have cA0 : ∀ w', Below W0.heap.size W0 w' → w'.cell? ⟨w.heap.size, 0, none⟩ = some (.int .u64 (lb a 0)) := fun w' h => (h.cell (p := ⟨w.heap.size, 0, none⟩) A.lt).trans (cell_of_row _ _ 0 _ _ _ A)
  have cA1 : ∀ w', Below W0.heap.size W0 w' → w'.cell? ⟨w.heap.size, 1, none⟩ = some (.int .u64 (lb a 1)) := fun w' h => (h.cell (p := ⟨w.heap.size, 1, none⟩) A.lt).trans (cell_of_row _ _ 1 _ _ _ A)
  have cA2 : ∀ w', Below W0.heap.size W0 w' → w'.cell? ⟨w.heap.size, 2, none⟩ = some (.int .u64 (lb a 2)) := fun w' h => (h.cell (p := ⟨w.heap.size, 2, none⟩) A.lt).trans (cell_of_row _ _ 2 _ _ _ A)
  have cA3 : ∀ w', Below W0.heap.size W0 w' → w'.cell? ⟨w.heap.size, 3, none⟩ = some (.int .u64 (lb a 3)) := fun w' h => (h.cell (p := ⟨w.heap.size, 3, none⟩) A.lt).trans (cell_of_row _ _ 3 _ _ _ A)
  have cB0 : ∀ w', Below W0.heap.size W0 w' → w'.cell? ⟨w.heap.size + 1, 0, none⟩ = some (.int .u64 (lb b 0)) := fun w' h => (h.cell (p := ⟨w.heap.size + 1, 0, none⟩) B.lt).trans (cell_of_row _ _ 0 _ _ _ B)
  have cB1 : ∀ w', Below W0.heap.size W0 w' → w'.cell? ⟨w.heap.size + 1, 1, none⟩ = some (.int .u64 (lb b 1)) := fun w' h => (h.cell (p := ⟨w.heap.size + 1, 1, none⟩) B.lt).trans (cell_of_row _ _ 1 _ _ _ B)
  have cB2 : ∀ w', Below W0.heap.size W0 w' → w'.cell? ⟨w.heap.size + 1, 2, none⟩ = some (.int .u64 (lb b 2)) := fun w' h => (h.cell (p := ⟨w.heap.size + 1, 2, none⟩) B.lt).trans (cell_of_row _ _ 2 _ _ _ B)
  have cB3 : ∀ w', Below W0.heap.size W0 w' → w'.cell? ⟨w.heap.size + 1, 3, none⟩ = some (.int .u64 (lb b 3)) := fun w' h => (h.cell (p := ⟨w.heap.size + 1, 3, none⟩) B.lt).trans (cell_of_row _ _ 3 _ _ _ B)
  have cC0 : ∀ w', Below W0.heap.size W0 w' → w'.cell? ⟨w.heap.size + 1 + 1, 0, none⟩ = some (.int .u64 (lb c 0)) := fun w' h => (h.cell (p := ⟨w.heap.size + 1 + 1, 0, none⟩) C.lt).trans (cell_of_row _ _ 0 _ _ _ C)
  have cC1 : ∀ w', Below W0.heap.size W0 w' → w'.cell? ⟨w.heap.size + 1 + 1, 1, none⟩ = some (.int .u64 (lb c 1)) := fun w' h => (h.cell (p := ⟨w.heap.size + 1 + 1, 1, none⟩) C.lt).trans (cell_of_row _ _ 1 _ _ _ C)
  have cC2 : ∀ w', Below W0.heap.size W0 w' → w'.cell? ⟨w.heap.size + 1 + 1, 2, none⟩ = some (.int .u64 (lb c 2)) := fun w' h => (h.cell (p := ⟨w.heap.size + 1 + 1, 2, none⟩) C.lt).trans (cell_of_row _ _ 2 _ _ _ C)
  have cC3 : ∀ w', Below W0.heap.size W0 w' → w'.cell? ⟨w.heap.size + 1 + 1, 3, none⟩ = some (.int .u64 (lb c 3)) := fun w' h => (h.cell (p := ⟨w.heap.size + 1 + 1, 3, none⟩) C.lt).trans (cell_of_row _ _ 3 _ _ _ C)
  clear A B C
  have HW := Lib.hid hW
  clear hW
  simp only [List.append]
  refine join2' (C := fun _ _ wz => Below W0.heap.size W0 wz) ?PJ ?main ?hrest
  case main =>
    intro rest
    refine wp_region_held_drew (S := fun w' => Below W0.heap.size W0 w') (by as_aux_lemma => kernel_rfl) (Below.refl _ _).drew (fun hHeld => ?_)
    simp only [List.size_toArray, List.length_cons, List.length_nil, Nat.reduceAdd, Array.replicate_succ, Array.replicate_zero, List.push_toArray, List.nil_append, List.cons_append]
    refine wpAnyH_take (i := 0) (oi := { dst := some 7, op := Op.load 24 (Operand.tmp 3), type := 24, pos := "law.go:97", after := #[], guard := none }) (v := ?vq0) rfl (by as_aux_lemma => kernel_rfl) (by as_aux_lemma => kernel_rfl) (by as_aux_lemma => kernel_rfl) (fun _ _ _ h => h) (Or.inl ⟨by rfl, ?yq0⟩) (by assumption) ?rq0
    case yq0 => (intro w hSw; (try dsimp only at hSw); go_simp <;> with_reducible rfl)
    simp only [Act.put, List.setIfInBounds_toArray, List.set_cons_zero, List.set_cons_succ]
    refine wpAnyH_take (i := 1) (oi := { dst := some 8, op := Op.load 24 (Operand.tmp 4), type := 24, pos := "law.go:97", after := #[], guard := none }) (v := ?vq1) rfl (by as_aux_lemma => kernel_rfl) (by as_aux_lemma => kernel_rfl) (by as_aux_lemma => kernel_rfl) (fun _ _ _ h => h) (Or.inl ⟨by rfl, ?yq1⟩) (by assumption) ?rq1
    case yq1 => (intro w hSw; (try dsimp only at hSw); go_simp <;> with_reducible rfl)
    simp only [Act.put, List.setIfInBounds_toArray, List.set_cons_zero, List.set_cons_succ]
    refine wpAnyH_take (i := 4) (oi := { dst := some 11, op := Op.load 24 (Operand.tmp 4), type := 24, pos := "law.go:97", after := #[], guard := none }) (v := ?vq2) rfl (by as_aux_lemma => kernel_rfl) (by as_aux_lemma => kernel_rfl) (by as_aux_lemma => kernel_rfl) (fun _ _ _ h => h) (Or.inl ⟨by rfl, ?yq2⟩) (by assumption) ?rq2
    case yq2 => (intro w hSw; (try dsimp only at hSw); go_simp <;> with_reducible rfl)
    simp only [Act.put, List.setIfInBounds_toArray, List.set_cons_zero, List.set_cons_succ]
    refine wpAnyH_take (i := 6) (oi := { dst := some 13, op := Op.load 24 (Operand.tmp 3), type := 24, pos := "law.go:97", after := #[], guard := none }) (v := ?vq3) rfl (by as_aux_lemma => kernel_rfl) (by as_aux_lemma => kernel_rfl) (by as_aux_lemma => kernel_rfl) (fun _ _ _ h => h) (Or.inl ⟨by rfl, ?yq3⟩) (by assumption) ?rq3
    case yq3 => (intro w hSw; (try dsimp only at hSw); go_simp <;> with_reducible rfl)
    simp only [Act.put, List.setIfInBounds_toArray, List.set_cons_zero, List.set_cons_succ]
    refine wpAnyH_ready (rs := [2]) (by as_aux_lemma => kernel_rfl) (by simp) ?_
    refine AllReadyH.cons (o := { dst := some 9, op := Op.buildSlice 33 2 #[(0, Operand.tmp 7), (1, Operand.tmp 8)], type := 33, pos := "law.go:97", after := #[{ on := 0, ground := Ground.data }, { on := 1, ground := Ground.data }], guard := none }) rfl (fun K hK => ?_) (by exact AllReadyH.nil)
    rw [if_pos (by rfl)]
    go_simp
    refine hK.out _ _ (by (try dsimp only); (first | assumption | exact (Below.refl _ _).drew | exact (balloc (Below.refl _ _) _).drew | exact bstep' (by assumption) (by assumption) | exact balloc (by assumption) _ | exact balloc (balloc (by assumption) _) _)) (fun hHeld => ?_)
    clear hK K
    simp only [List.setIfInBounds_toArray, List.set_cons_zero, List.set_cons_succ]
    refine wpAnyH_ready (rs := [3]) (by as_aux_lemma => kernel_rfl) (by simp) ?_
    refine AllReadyH.cons (o := { dst := some 10, op := Op.call { callee := Callee.value (Operand.func 11), args := #[Operand.tmp 9], argTypes := #[33] }, type := 24, pos := "law.go:97", after := #[{ on := 2, ground := Ground.data }], guard := none }) rfl (fun K hK => ?_) (by exact AllReadyH.nil)
    rw [if_pos (by rfl)]
    go_simp
    (first | (go_at_call 11; refine (add2_any _ _ _ _ _ (by first | exact Blk.new _ _ _ | exact (Blk.new _ _ _).drewn | exact (Blk.new _ _ _).alloc _ | exact Blk.new1 _ _ _ _ | exact Blk.below ((Blk.new _ _ _).alloc _) (by assumption) | exact Blk.below (Blk.new1 _ _ _ _) (by assumption) | exact Blk.below (Blk.new _ _ _) (by assumption))).mono ?_; rintro e wk3 ⟨rfl, hk3⟩) | (go_at_call 13; refine (sub_any _ _ _).mono ?_; rintro e wk3 ⟨rfl, hk3⟩) | (go_at_call 15; refine (mul_any _ _ _).mono ?_; rintro e wk3 ⟨rfl, hk3⟩) | (go_at_call 17; refine (order_any _ _ (by assumption) (by assumption) _).mono ?_; rintro e wk3 ⟨rfl, hk3⟩) | (go_at_call 24; refine (text_any _ _).mono ?_; rintro e wk3 ⟨rfl, hk3⟩) | (go_at_call 21; refine (works_any _).mono ?_; rintro e wk3 ⟨rfl, hk3⟩))
    refine hK.out _ _ (by (try dsimp only); (first | assumption | exact (Below.refl _ _).drew | exact (balloc (Below.refl _ _) _).drew | exact bstep' (by assumption) (by assumption) | exact balloc (by assumption) _ | exact balloc (balloc (by assumption) _) _)) (fun hHeld => ?_)
    clear hK K
    simp only [List.setIfInBounds_toArray, List.set_cons_zero, List.set_cons_succ]
    refine wpAnyH_ready (rs := [5]) (by as_aux_lemma => kernel_rfl) (by simp) ?_
    refine AllReadyH.cons (o := { dst := some 12, op := Op.call { callee := Callee.value (Operand.func 13), args := #[Operand.tmp 10, Operand.tmp 11], argTypes := #[24, 24] }, type := 24, pos := "law.go:97", after := #[{ on := 3, ground := Ground.data }, { on := 4, ground := Ground.data }, { on := 3, ground := Ground.chain }], guard := none }) rfl (fun K hK => ?_) (by exact AllReadyH.nil)
    rw [if_pos (by rfl)]
    go_simp
    (first | (go_at_call 11; refine (add2_any _ _ _ _ _ (by first | exact Blk.new _ _ _ | exact (Blk.new _ _ _).drewn | exact (Blk.new _ _ _).alloc _ | exact Blk.new1 _ _ _ _ | exact Blk.below ((Blk.new _ _ _).alloc _) (by assumption) | exact Blk.below (Blk.new1 _ _ _ _) (by assumption) | exact Blk.below (Blk.new _ _ _) (by assumption))).mono ?_; rintro e wk5 ⟨rfl, hk5⟩) | (go_at_call 13; refine (sub_any _ _ _).mono ?_; rintro e wk5 ⟨rfl, hk5⟩) | (go_at_call 15; refine (mul_any _ _ _).mono ?_; rintro e wk5 ⟨rfl, hk5⟩) | (go_at_call 17; refine (order_any _ _ (by assumption) (by assumption) _).mono ?_; rintro e wk5 ⟨rfl, hk5⟩) | (go_at_call 24; refine (text_any _ _).mono ?_; rintro e wk5 ⟨rfl, hk5⟩) | (go_at_call 21; refine (works_any _).mono ?_; rintro e wk5 ⟨rfl, hk5⟩))
    refine hK.out _ _ (by (try dsimp only); (first | assumption | exact (Below.refl _ _).drew | exact (balloc (Below.refl _ _) _).drew | exact bstep' (by assumption) (by assumption) | exact balloc (by assumption) _ | exact balloc (balloc (by assumption) _) _)) (fun hHeld => ?_)
    clear hK K
    simp only [List.setIfInBounds_toArray, List.set_cons_zero, List.set_cons_succ]
    refine wpAnyH_take (i := 7) (oi := { dst := some 14, op := Op.binOp BinOp.eql 24 (Operand.tmp 12) (Operand.tmp 13) 24, type := 4, pos := "law.go:97", after := #[{ on := 5, ground := Ground.data }, { on := 6, ground := Ground.data }], guard := none }) (v := ?vq7) rfl (by as_aux_lemma => kernel_rfl) (by as_aux_lemma => kernel_rfl) (by as_aux_lemma => kernel_rfl) (fun _ _ _ h => h) (Or.inl ⟨by rfl, ?yq7⟩) (by assumption) ?rq7
    case yq7 => (intro w hSw; (try dsimp only at hSw); go_simp <;> with_reducible rfl)
    simp only [Act.put, List.setIfInBounds_toArray, List.set_cons_zero, List.set_cons_succ]
    refine wpAnyH_take (i := 8) (oi := { dst := some 15, op := Op.move (Operand.tmp 14), type := 4, pos := "law.go:97", after := #[{ on := 7, ground := Ground.data }, { on := 5, ground := Ground.chain }], guard := none }) (v := ?vq8) rfl (by as_aux_lemma => kernel_rfl) (by as_aux_lemma => kernel_rfl) (by as_aux_lemma => kernel_rfl) (fun _ _ _ h => h) (Or.inl ⟨by rfl, ?yq8⟩) (by assumption) ?rq8
    case yq8 => (intro w hSw; (try dsimp only at hSw); go_simp <;> with_reducible rfl)
    simp only [Act.put, List.setIfInBounds_toArray, List.set_cons_zero, List.set_cons_succ]
    refine wpAnyH_take (i := 9) (oi := { dst := some 16, op := Op.load 24 (Operand.tmp 3), type := 24, pos := "law.go:97", after := #[{ on := 8, ground := Ground.guard }], guard := some (8, true) }) (v := ?vq9) rfl (by as_aux_lemma => kernel_rfl) (by as_aux_lemma => kernel_rfl) (by as_aux_lemma => kernel_rfl) (fun _ _ _ h => h) (Or.inl ⟨by rfl, ?yq9⟩) (by assumption) ?rq9
    case yq9 => (intro w hSw; (try dsimp only at hSw); go_simp <;> with_reducible rfl)
    simp only [Act.put, List.setIfInBounds_toArray, List.set_cons_zero, List.set_cons_succ]
    refine wpAnyH_take (i := 10) (oi := { dst := some 17, op := Op.load 24 (Operand.tmp 4), type := 24, pos := "law.go:97", after := #[{ on := 8, ground := Ground.guard }], guard := some (8, true) }) (v := ?vq10) rfl (by as_aux_lemma => kernel_rfl) (by as_aux_lemma => kernel_rfl) (by as_aux_lemma => kernel_rfl) (fun _ _ _ h => h) (Or.inl ⟨by rfl, ?yq10⟩) (by assumption) ?rq10
    case yq10 => (intro w hSw; (try dsimp only at hSw); go_simp <;> with_reducible rfl)
    simp only [Act.put, List.setIfInBounds_toArray, List.set_cons_zero, List.set_cons_succ]
    refine wpAnyH_take (i := 13) (oi := { dst := some 20, op := Op.load 24 (Operand.tmp 4), type := 24, pos := "law.go:97", after := #[{ on := 8, ground := Ground.guard }], guard := some (8, true) }) (v := ?vq11) rfl (by as_aux_lemma => kernel_rfl) (by as_aux_lemma => kernel_rfl) (by as_aux_lemma => kernel_rfl) (fun _ _ _ h => h) (Or.inl ⟨by rfl, ?yq11⟩) (by assumption) ?rq11
    case yq11 => (intro w hSw; (try dsimp only at hSw); go_simp <;> with_reducible rfl)
    simp only [Act.put, List.setIfInBounds_toArray, List.set_cons_zero, List.set_cons_succ]
    refine wpAnyH_take (i := 14) (oi := { dst := some 21, op := Op.load 24 (Operand.tmp 3), type := 24, pos := "law.go:97", after := #[{ on := 8, ground := Ground.guard }], guard := some (8, true) }) (v := ?vq12) rfl (by as_aux_lemma => kernel_rfl) (by as_aux_lemma => kernel_rfl) (by as_aux_lemma => kernel_rfl) (fun _ _ _ h => h) (Or.inl ⟨by rfl, ?yq12⟩) (by assumption) ?rq12
    case yq12 => (intro w hSw; (try dsimp only at hSw); go_simp <;> with_reducible rfl)
    simp only [Act.put, List.setIfInBounds_toArray, List.set_cons_zero, List.set_cons_succ]
    refine wpAnyH_ready (rs := [11, 15]) (by as_aux_lemma => kernel_rfl) (by simp) ?_
    refine AllReadyH.cons (o := { dst := some 18, op := Op.buildSlice 33 2 #[(0, Operand.tmp 16), (1, Operand.tmp 17)], type := 33, pos := "law.go:97", after := #[{ on := 9, ground := Ground.data }, { on := 10, ground := Ground.data }, { on := 8, ground := Ground.guard }], guard := some (8, true) }) rfl (fun K hK => ?_) ?_
    · rw [if_pos (by rfl)]
      go_simp
      refine hK.out _ _ (by (try dsimp only); (first | assumption | exact (Below.refl _ _).drew | exact (balloc (Below.refl _ _) _).drew | exact bstep' (by assumption) (by assumption) | exact balloc (by assumption) _ | exact balloc (balloc (by assumption) _) _)) (fun hHeld => ?_)
      clear hK K
      simp only [List.setIfInBounds_toArray, List.set_cons_zero, List.set_cons_succ]
      refine wpAnyH_ready (rs := [12, 15]) (by as_aux_lemma => kernel_rfl) (by simp) ?_
      refine AllReadyH.cons (o := { dst := some 19, op := Op.call { callee := Callee.value (Operand.func 11), args := #[Operand.tmp 18], argTypes := #[33] }, type := 24, pos := "law.go:97", after := #[{ on := 11, ground := Ground.data }, { on := 8, ground := Ground.chain }, { on := 8, ground := Ground.guard }], guard := some (8, true) }) rfl (fun K hK => ?_) ?_
      · rw [if_pos (by rfl)]
        go_simp
        (first | (go_at_call 11; refine (add2_any _ _ _ _ _ (by first | exact Blk.new _ _ _ | exact (Blk.new _ _ _).drewn | exact (Blk.new _ _ _).alloc _ | exact Blk.new1 _ _ _ _ | exact Blk.below ((Blk.new _ _ _).alloc _) (by assumption) | exact Blk.below (Blk.new1 _ _ _ _) (by assumption) | exact Blk.below (Blk.new _ _ _) (by assumption))).mono ?_; rintro e wk12 ⟨rfl, hk12⟩) | (go_at_call 13; refine (sub_any _ _ _).mono ?_; rintro e wk12 ⟨rfl, hk12⟩) | (go_at_call 15; refine (mul_any _ _ _).mono ?_; rintro e wk12 ⟨rfl, hk12⟩) | (go_at_call 17; refine (order_any _ _ (by assumption) (by assumption) _).mono ?_; rintro e wk12 ⟨rfl, hk12⟩) | (go_at_call 24; refine (text_any _ _).mono ?_; rintro e wk12 ⟨rfl, hk12⟩) | (go_at_call 21; refine (works_any _).mono ?_; rintro e wk12 ⟨rfl, hk12⟩))
        refine hK.out _ _ (by (try dsimp only); (first | assumption | exact (Below.refl _ _).drew | exact (balloc (Below.refl _ _) _).drew | exact bstep' (by assumption) (by assumption) | exact balloc (by assumption) _ | exact balloc (balloc (by assumption) _) _)) (fun hHeld => ?_)
        clear hK K
        simp only [List.setIfInBounds_toArray, List.set_cons_zero, List.set_cons_succ]
        refine wpAnyH_ready (rs := [15]) (by as_aux_lemma => kernel_rfl) (by simp) ?_
        refine AllReadyH.cons (o := { dst := some 22, op := Op.buildSlice 33 2 #[(0, Operand.tmp 20), (1, Operand.tmp 21)], type := 33, pos := "law.go:97", after := #[{ on := 13, ground := Ground.data }, { on := 14, ground := Ground.data }, { on := 8, ground := Ground.guard }], guard := some (8, true) }) rfl (fun K hK => ?_) (by exact AllReadyH.nil)
        rw [if_pos (by rfl)]
        go_simp
        refine hK.out _ _ (by (try dsimp only); (first | assumption | exact (Below.refl _ _).drew | exact (balloc (Below.refl _ _) _).drew | exact bstep' (by assumption) (by assumption) | exact balloc (by assumption) _ | exact balloc (balloc (by assumption) _) _)) (fun hHeld => ?_)
        clear hK K
        simp only [List.setIfInBounds_toArray, List.set_cons_zero, List.set_cons_succ]
        refine wpAnyH_ready (rs := [16]) (by as_aux_lemma => kernel_rfl) (by simp) ?_
        refine AllReadyH.cons (o := { dst := some 23, op := Op.call { callee := Callee.value (Operand.func 11), args := #[Operand.tmp 22], argTypes := #[33] }, type := 24, pos := "law.go:97", after := #[{ on := 15, ground := Ground.data }, { on := 12, ground := Ground.chain }, { on := 8, ground := Ground.guard }], guard := some (8, true) }) rfl (fun K hK => ?_) (by exact AllReadyH.nil)
        rw [if_pos (by rfl)]
        go_simp
        (first | (go_at_call 11; refine (add2_any _ _ _ _ _ (by first | exact Blk.new _ _ _ | exact (Blk.new _ _ _).drewn | exact (Blk.new _ _ _).alloc _ | exact Blk.new1 _ _ _ _ | exact Blk.below ((Blk.new _ _ _).alloc _) (by assumption) | exact Blk.below (Blk.new1 _ _ _ _) (by assumption) | exact Blk.below (Blk.new _ _ _) (by assumption))).mono ?_; rintro e wk16 ⟨rfl, hk16⟩) | (go_at_call 13; refine (sub_any _ _ _).mono ?_; rintro e wk16 ⟨rfl, hk16⟩) | (go_at_call 15; refine (mul_any _ _ _).mono ?_; rintro e wk16 ⟨rfl, hk16⟩) | (go_at_call 17; refine (order_any _ _ (by assumption) (by assumption) _).mono ?_; rintro e wk16 ⟨rfl, hk16⟩) | (go_at_call 24; refine (text_any _ _).mono ?_; rintro e wk16 ⟨rfl, hk16⟩) | (go_at_call 21; refine (works_any _).mono ?_; rintro e wk16 ⟨rfl, hk16⟩))
        refine hK.out _ _ (by (try dsimp only); (first | assumption | exact (Below.refl _ _).drew | exact (balloc (Below.refl _ _) _).drew | exact bstep' (by assumption) (by assumption) | exact balloc (by assumption) _ | exact balloc (balloc (by assumption) _) _)) (fun hHeld => ?_)
        clear hK K
        simp only [List.setIfInBounds_toArray, List.set_cons_zero, List.set_cons_succ]
        generalize wk5.heap.size = n18; generalize wk12.heap.size = n22; exact rest n18 n22 wk16 hHeld
      refine AllReadyH.cons (o := { dst := some 22, op := Op.buildSlice 33 2 #[(0, Operand.tmp 20), (1, Operand.tmp 21)], type := 33, pos := "law.go:97", after := #[{ on := 13, ground := Ground.data }, { on := 14, ground := Ground.data }, { on := 8, ground := Ground.guard }], guard := some (8, true) }) rfl (fun K hK => ?_) (by exact AllReadyH.nil)
      rw [if_pos (by rfl)]
      go_simp
      refine hK.out _ _ (by (try dsimp only); (first | assumption | exact (Below.refl _ _).drew | exact (balloc (Below.refl _ _) _).drew | exact bstep' (by assumption) (by assumption) | exact balloc (by assumption) _ | exact balloc (balloc (by assumption) _) _)) (fun hHeld => ?_)
      clear hK K
      simp only [List.setIfInBounds_toArray, List.set_cons_zero, List.set_cons_succ]
      refine wpAnyH_ready (rs := [12]) (by as_aux_lemma => kernel_rfl) (by simp) ?_
      refine AllReadyH.cons (o := { dst := some 19, op := Op.call { callee := Callee.value (Operand.func 11), args := #[Operand.tmp 18], argTypes := #[33] }, type := 24, pos := "law.go:97", after := #[{ on := 11, ground := Ground.data }, { on := 8, ground := Ground.chain }, { on := 8, ground := Ground.guard }], guard := some (8, true) }) rfl (fun K hK => ?_) (by exact AllReadyH.nil)
      rw [if_pos (by rfl)]
      go_simp
      (first | (go_at_call 11; refine (add2_any _ _ _ _ _ (by first | exact Blk.new _ _ _ | exact (Blk.new _ _ _).drewn | exact (Blk.new _ _ _).alloc _ | exact Blk.new1 _ _ _ _ | exact Blk.below ((Blk.new _ _ _).alloc _) (by assumption) | exact Blk.below (Blk.new1 _ _ _ _) (by assumption) | exact Blk.below (Blk.new _ _ _) (by assumption))).mono ?_; rintro e wk12 ⟨rfl, hk12⟩) | (go_at_call 13; refine (sub_any _ _ _).mono ?_; rintro e wk12 ⟨rfl, hk12⟩) | (go_at_call 15; refine (mul_any _ _ _).mono ?_; rintro e wk12 ⟨rfl, hk12⟩) | (go_at_call 17; refine (order_any _ _ (by assumption) (by assumption) _).mono ?_; rintro e wk12 ⟨rfl, hk12⟩) | (go_at_call 24; refine (text_any _ _).mono ?_; rintro e wk12 ⟨rfl, hk12⟩) | (go_at_call 21; refine (works_any _).mono ?_; rintro e wk12 ⟨rfl, hk12⟩))
      refine hK.out _ _ (by (try dsimp only); (first | assumption | exact (Below.refl _ _).drew | exact (balloc (Below.refl _ _) _).drew | exact bstep' (by assumption) (by assumption) | exact balloc (by assumption) _ | exact balloc (balloc (by assumption) _) _)) (fun hHeld => ?_)
      clear hK K
      simp only [List.setIfInBounds_toArray, List.set_cons_zero, List.set_cons_succ]
      refine wpAnyH_ready (rs := [16]) (by as_aux_lemma => kernel_rfl) (by simp) ?_
      refine AllReadyH.cons (o := { dst := some 23, op := Op.call { callee := Callee.value (Operand.func 11), args := #[Operand.tmp 22], argTypes := #[33] }, type := 24, pos := "law.go:97", after := #[{ on := 15, ground := Ground.data }, { on := 12, ground := Ground.chain }, { on := 8, ground := Ground.guard }], guard := some (8, true) }) rfl (fun K hK => ?_) (by exact AllReadyH.nil)
      rw [if_pos (by rfl)]
      go_simp
      (first | (go_at_call 11; refine (add2_any _ _ _ _ _ (by first | exact Blk.new _ _ _ | exact (Blk.new _ _ _).drewn | exact (Blk.new _ _ _).alloc _ | exact Blk.new1 _ _ _ _ | exact Blk.below ((Blk.new _ _ _).alloc _) (by assumption) | exact Blk.below (Blk.new1 _ _ _ _) (by assumption) | exact Blk.below (Blk.new _ _ _) (by assumption))).mono ?_; rintro e wk16 ⟨rfl, hk16⟩) | (go_at_call 13; refine (sub_any _ _ _).mono ?_; rintro e wk16 ⟨rfl, hk16⟩) | (go_at_call 15; refine (mul_any _ _ _).mono ?_; rintro e wk16 ⟨rfl, hk16⟩) | (go_at_call 17; refine (order_any _ _ (by assumption) (by assumption) _).mono ?_; rintro e wk16 ⟨rfl, hk16⟩) | (go_at_call 24; refine (text_any _ _).mono ?_; rintro e wk16 ⟨rfl, hk16⟩) | (go_at_call 21; refine (works_any _).mono ?_; rintro e wk16 ⟨rfl, hk16⟩))
      refine hK.out _ _ (by (try dsimp only); (first | assumption | exact (Below.refl _ _).drew | exact (balloc (Below.refl _ _) _).drew | exact bstep' (by assumption) (by assumption) | exact balloc (by assumption) _ | exact balloc (balloc (by assumption) _) _)) (fun hHeld => ?_)
      clear hK K
      simp only [List.setIfInBounds_toArray, List.set_cons_zero, List.set_cons_succ]
      exact rest _ _ _ hHeld
    refine AllReadyH.cons (o := { dst := some 22, op := Op.buildSlice 33 2 #[(0, Operand.tmp 20), (1, Operand.tmp 21)], type := 33, pos := "law.go:97", after := #[{ on := 13, ground := Ground.data }, { on := 14, ground := Ground.data }, { on := 8, ground := Ground.guard }], guard := some (8, true) }) rfl (fun K hK => ?_) (by exact AllReadyH.nil)
    rw [if_pos (by rfl)]
    go_simp
    refine hK.out _ _ (by (try dsimp only); (first | assumption | exact (Below.refl _ _).drew | exact (balloc (Below.refl _ _) _).drew | exact bstep' (by assumption) (by assumption) | exact balloc (by assumption) _ | exact balloc (balloc (by assumption) _) _)) (fun hHeld => ?_)
    clear hK K
    simp only [List.setIfInBounds_toArray, List.set_cons_zero, List.set_cons_succ]
    refine wpAnyH_ready (rs := [11]) (by as_aux_lemma => kernel_rfl) (by simp) ?_
    refine AllReadyH.cons (o := { dst := some 18, op := Op.buildSlice 33 2 #[(0, Operand.tmp 16), (1, Operand.tmp 17)], type := 33, pos := "law.go:97", after := #[{ on := 9, ground := Ground.data }, { on := 10, ground := Ground.data }, { on := 8, ground := Ground.guard }], guard := some (8, true) }) rfl (fun K hK => ?_) (by exact AllReadyH.nil)
    rw [if_pos (by rfl)]
    go_simp
    refine hK.out _ _ (by (try dsimp only); (first | assumption | exact (Below.refl _ _).drew | exact (balloc (Below.refl _ _) _).drew | exact bstep' (by assumption) (by assumption) | exact balloc (by assumption) _ | exact balloc (balloc (by assumption) _) _)) (fun hHeld => ?_)
    clear hK K
    simp only [List.setIfInBounds_toArray, List.set_cons_zero, List.set_cons_succ]
    refine wpAnyH_ready (rs := [12]) (by as_aux_lemma => kernel_rfl) (by simp) ?_
    refine AllReadyH.cons (o := { dst := some 19, op := Op.call { callee := Callee.value (Operand.func 11), args := #[Operand.tmp 18], argTypes := #[33] }, type := 24, pos := "law.go:97", after := #[{ on := 11, ground := Ground.data }, { on := 8, ground := Ground.chain }, { on := 8, ground := Ground.guard }], guard := some (8, true) }) rfl (fun K hK => ?_) (by exact AllReadyH.nil)
    rw [if_pos (by rfl)]
    go_simp
    (first | (go_at_call 11; refine (add2_any _ _ _ _ _ (by first | exact Blk.new _ _ _ | exact (Blk.new _ _ _).drewn | exact (Blk.new _ _ _).alloc _ | exact Blk.new1 _ _ _ _ | exact Blk.below ((Blk.new _ _ _).alloc _) (by assumption) | exact Blk.below (Blk.new1 _ _ _ _) (by assumption) | exact Blk.below (Blk.new _ _ _) (by assumption))).mono ?_; rintro e wk12 ⟨rfl, hk12⟩) | (go_at_call 13; refine (sub_any _ _ _).mono ?_; rintro e wk12 ⟨rfl, hk12⟩) | (go_at_call 15; refine (mul_any _ _ _).mono ?_; rintro e wk12 ⟨rfl, hk12⟩) | (go_at_call 17; refine (order_any _ _ (by assumption) (by assumption) _).mono ?_; rintro e wk12 ⟨rfl, hk12⟩) | (go_at_call 24; refine (text_any _ _).mono ?_; rintro e wk12 ⟨rfl, hk12⟩) | (go_at_call 21; refine (works_any _).mono ?_; rintro e wk12 ⟨rfl, hk12⟩))
    refine hK.out _ _ (by (try dsimp only); (first | assumption | exact (Below.refl _ _).drew | exact (balloc (Below.refl _ _) _).drew | exact bstep' (by assumption) (by assumption) | exact balloc (by assumption) _ | exact balloc (balloc (by assumption) _) _)) (fun hHeld => ?_)
    clear hK K
    simp only [List.setIfInBounds_toArray, List.set_cons_zero, List.set_cons_succ]
    refine wpAnyH_ready (rs := [16]) (by as_aux_lemma => kernel_rfl) (by simp) ?_
    refine AllReadyH.cons (o := { dst := some 23, op := Op.call { callee := Callee.value (Operand.func 11), args := #[Operand.tmp 22], argTypes := #[33] }, type := 24, pos := "law.go:97", after := #[{ on := 15, ground := Ground.data }, { on := 12, ground := Ground.chain }, { on := 8, ground := Ground.guard }], guard := some (8, true) }) rfl (fun K hK => ?_) (by exact AllReadyH.nil)
    rw [if_pos (by rfl)]
    go_simp
    (first | (go_at_call 11; refine (add2_any _ _ _ _ _ (by first | exact Blk.new _ _ _ | exact (Blk.new _ _ _).drewn | exact (Blk.new _ _ _).alloc _ | exact Blk.new1 _ _ _ _ | exact Blk.below ((Blk.new _ _ _).alloc _) (by assumption) | exact Blk.below (Blk.new1 _ _ _ _) (by assumption) | exact Blk.below (Blk.new _ _ _) (by assumption))).mono ?_; rintro e wk16 ⟨rfl, hk16⟩) | (go_at_call 13; refine (sub_any _ _ _).mono ?_; rintro e wk16 ⟨rfl, hk16⟩) | (go_at_call 15; refine (mul_any _ _ _).mono ?_; rintro e wk16 ⟨rfl, hk16⟩) | (go_at_call 17; refine (order_any _ _ (by assumption) (by assumption) _).mono ?_; rintro e wk16 ⟨rfl, hk16⟩) | (go_at_call 24; refine (text_any _ _).mono ?_; rintro e wk16 ⟨rfl, hk16⟩) | (go_at_call 21; refine (works_any _).mono ?_; rintro e wk16 ⟨rfl, hk16⟩))
    refine hK.out _ _ (by (try dsimp only); (first | assumption | exact (Below.refl _ _).drew | exact (balloc (Below.refl _ _) _).drew | exact bstep' (by assumption) (by assumption) | exact balloc (by assumption) _ | exact balloc (balloc (by assumption) _) _)) (fun hHeld => ?_)
    clear hK K
    simp only [List.setIfInBounds_toArray, List.set_cons_zero, List.set_cons_succ]
    exact rest _ _ _ hHeld
  case hrest =>
    intro v18 v22 wz hHeld
    refine wpAnyH_take (i := 17) (oi := { dst := some 24, op := Op.binOp BinOp.eql 24 (Operand.tmp 19) (Operand.tmp 23) 24, type := 4, pos := "law.go:97", after := #[{ on := 12, ground := Ground.data }, { on := 16, ground := Ground.data }, { on := 8, ground := Ground.guard }], guard := some (8, true) }) (v := ?vq22) rfl (by as_aux_lemma => kernel_rfl) (by as_aux_lemma => kernel_rfl) (by as_aux_lemma => kernel_rfl) (fun _ _ _ h => h) (Or.inl ⟨by rfl, ?yq22⟩) (by assumption) ?rq22
    case yq22 => (intro w hSw; (try dsimp only at hSw); go_simp <;> with_reducible rfl)
    simp only [Act.put, List.setIfInBounds_toArray, List.set_cons_zero, List.set_cons_succ]
    refine wpAnyH_take (i := 18) (oi := { dst := some 25, op := Op.pick (Operand.tmp 15) (Operand.tmp 24) (Operand.const (Value.bool false)), type := 4, pos := "law.go:97", after := #[{ on := 8, ground := Ground.data }, { on := 17, ground := Ground.data }], guard := none }) (v := ?vq23) rfl (by as_aux_lemma => kernel_rfl) (by as_aux_lemma => kernel_rfl) (by as_aux_lemma => kernel_rfl) (fun _ _ _ h => h) (Or.inl ⟨by rfl, ?yq23⟩) (by assumption) ?rq23
    case yq23 => (intro w hSw; (try dsimp only at hSw); go_simp <;> with_reducible rfl)
    simp only [Act.put, List.setIfInBounds_toArray, List.set_cons_zero, List.set_cons_succ]
    refine wpAnyH_take (i := 19) (oi := { dst := some 26, op := Op.move (Operand.tmp 25), type := 4, pos := "law.go:97", after := #[{ on := 18, ground := Ground.data }, { on := 16, ground := Ground.chain }], guard := none }) (v := ?vq24) rfl (by as_aux_lemma => kernel_rfl) (by as_aux_lemma => kernel_rfl) (by as_aux_lemma => kernel_rfl) (fun _ _ _ h => h) (Or.inl ⟨by rfl, ?yq24⟩) (by assumption) ?rq24
    case yq24 => (intro w hSw; (try dsimp only at hSw); go_simp <;> with_reducible rfl)
    simp only [Act.put, List.setIfInBounds_toArray, List.set_cons_zero, List.set_cons_succ]
    refine wpAnyH_take (i := 20) (oi := { dst := some 27, op := Op.load 24 (Operand.tmp 3), type := 24, pos := "law.go:97", after := #[{ on := 19, ground := Ground.guard }], guard := some (19, true) }) (v := ?vq25) rfl (by as_aux_lemma => kernel_rfl) (by as_aux_lemma => kernel_rfl) (by as_aux_lemma => kernel_rfl) (fun _ _ _ h => h) (Or.inl ⟨by rfl, ?yq25⟩) (by assumption) ?rq25
    case yq25 => (intro w hSw; (try dsimp only at hSw); go_simp <;> with_reducible rfl)
    simp only [Act.put, List.setIfInBounds_toArray, List.set_cons_zero, List.set_cons_succ]
    refine wpAnyH_take (i := 21) (oi := { dst := some 28, op := Op.load 24 (Operand.tmp 4), type := 24, pos := "law.go:97", after := #[{ on := 19, ground := Ground.guard }], guard := some (19, true) }) (v := ?vq26) rfl (by as_aux_lemma => kernel_rfl) (by as_aux_lemma => kernel_rfl) (by as_aux_lemma => kernel_rfl) (fun _ _ _ h => h) (Or.inl ⟨by rfl, ?yq26⟩) (by assumption) ?rq26
    case yq26 => (intro w hSw; (try dsimp only at hSw); go_simp <;> with_reducible rfl)
    simp only [Act.put, List.setIfInBounds_toArray, List.set_cons_zero, List.set_cons_succ]
    refine wpAnyH_take (i := 23) (oi := { dst := some 30, op := Op.load 24 (Operand.tmp 4), type := 24, pos := "law.go:97", after := #[{ on := 19, ground := Ground.guard }], guard := some (19, true) }) (v := ?vq27) rfl (by as_aux_lemma => kernel_rfl) (by as_aux_lemma => kernel_rfl) (by as_aux_lemma => kernel_rfl) (fun _ _ _ h => h) (Or.inl ⟨by rfl, ?yq27⟩) (by assumption) ?rq27
    case yq27 => (intro w hSw; (try dsimp only at hSw); go_simp <;> with_reducible rfl)
    simp only [Act.put, List.setIfInBounds_toArray, List.set_cons_zero, List.set_cons_succ]
    refine wpAnyH_take (i := 24) (oi := { dst := some 31, op := Op.load 24 (Operand.tmp 3), type := 24, pos := "law.go:97", after := #[{ on := 19, ground := Ground.guard }], guard := some (19, true) }) (v := ?vq28) rfl (by as_aux_lemma => kernel_rfl) (by as_aux_lemma => kernel_rfl) (by as_aux_lemma => kernel_rfl) (fun _ _ _ h => h) (Or.inl ⟨by rfl, ?yq28⟩) (by assumption) ?rq28
    case yq28 => (intro w hSw; (try dsimp only at hSw); go_simp <;> with_reducible rfl)
    simp only [Act.put, List.setIfInBounds_toArray, List.set_cons_zero, List.set_cons_succ]
    refine wpAnyH_ready (rs := [22]) (by as_aux_lemma => kernel_rfl) (by simp) ?_
    refine AllReadyH.cons (o := { dst := some 29, op := Op.call { callee := Callee.value (Operand.func 15), args := #[Operand.tmp 27, Operand.tmp 28], argTypes := #[24, 24] }, type := 24, pos := "law.go:97", after := #[{ on := 20, ground := Ground.data }, { on := 21, ground := Ground.data }, { on := 19, ground := Ground.chain }, { on := 19, ground := Ground.guard }], guard := some (19, true) }) rfl (fun K hK => ?_) (by exact AllReadyH.nil)
    rw [if_pos (by rfl)]
    go_simp
    (first | (go_at_call 11; refine (add2_any _ _ _ _ _ (by first | exact Blk.new _ _ _ | exact (Blk.new _ _ _).drewn | exact (Blk.new _ _ _).alloc _ | exact Blk.new1 _ _ _ _ | exact Blk.below ((Blk.new _ _ _).alloc _) (by assumption) | exact Blk.below (Blk.new1 _ _ _ _) (by assumption) | exact Blk.below (Blk.new _ _ _) (by assumption))).mono ?_; rintro e wk22 ⟨rfl, hk22⟩) | (go_at_call 13; refine (sub_any _ _ _).mono ?_; rintro e wk22 ⟨rfl, hk22⟩) | (go_at_call 15; refine (mul_any _ _ _).mono ?_; rintro e wk22 ⟨rfl, hk22⟩) | (go_at_call 17; refine (order_any _ _ (by assumption) (by assumption) _).mono ?_; rintro e wk22 ⟨rfl, hk22⟩) | (go_at_call 24; refine (text_any _ _).mono ?_; rintro e wk22 ⟨rfl, hk22⟩) | (go_at_call 21; refine (works_any _).mono ?_; rintro e wk22 ⟨rfl, hk22⟩))
    refine hK.out _ _ (by (try dsimp only); (first | assumption | exact (Below.refl _ _).drew | exact (balloc (Below.refl _ _) _).drew | exact bstep' (by assumption) (by assumption) | exact balloc (by assumption) _ | exact balloc (balloc (by assumption) _) _)) (fun hHeld => ?_)
    clear hK K
    simp only [List.setIfInBounds_toArray, List.set_cons_zero, List.set_cons_succ]
    refine wpAnyH_ready (rs := [25]) (by as_aux_lemma => kernel_rfl) (by simp) ?_
    refine AllReadyH.cons (o := { dst := some 32, op := Op.call { callee := Callee.value (Operand.func 15), args := #[Operand.tmp 30, Operand.tmp 31], argTypes := #[24, 24] }, type := 24, pos := "law.go:97", after := #[{ on := 23, ground := Ground.data }, { on := 24, ground := Ground.data }, { on := 22, ground := Ground.chain }, { on := 19, ground := Ground.guard }], guard := some (19, true) }) rfl (fun K hK => ?_) (by exact AllReadyH.nil)
    rw [if_pos (by rfl)]
    go_simp
    (first | (go_at_call 11; refine (add2_any _ _ _ _ _ (by first | exact Blk.new _ _ _ | exact (Blk.new _ _ _).drewn | exact (Blk.new _ _ _).alloc _ | exact Blk.new1 _ _ _ _ | exact Blk.below ((Blk.new _ _ _).alloc _) (by assumption) | exact Blk.below (Blk.new1 _ _ _ _) (by assumption) | exact Blk.below (Blk.new _ _ _) (by assumption))).mono ?_; rintro e wk25 ⟨rfl, hk25⟩) | (go_at_call 13; refine (sub_any _ _ _).mono ?_; rintro e wk25 ⟨rfl, hk25⟩) | (go_at_call 15; refine (mul_any _ _ _).mono ?_; rintro e wk25 ⟨rfl, hk25⟩) | (go_at_call 17; refine (order_any _ _ (by assumption) (by assumption) _).mono ?_; rintro e wk25 ⟨rfl, hk25⟩) | (go_at_call 24; refine (text_any _ _).mono ?_; rintro e wk25 ⟨rfl, hk25⟩) | (go_at_call 21; refine (works_any _).mono ?_; rintro e wk25 ⟨rfl, hk25⟩))
    refine hK.out _ _ (by (try dsimp only); (first | assumption | exact (Below.refl _ _).drew | exact (balloc (Below.refl _ _) _).drew | exact bstep' (by assumption) (by assumption) | exact balloc (by assumption) _ | exact balloc (balloc (by assumption) _) _)) (fun hHeld => ?_)
    clear hK K
    simp only [List.setIfInBounds_toArray, List.set_cons_zero, List.set_cons_succ]
    refine wpAnyH_take (i := 26) (oi := { dst := some 33, op := Op.binOp BinOp.eql 24 (Operand.tmp 29) (Operand.tmp 32) 24, type := 4, pos := "law.go:97", after := #[{ on := 22, ground := Ground.data }, { on := 25, ground := Ground.data }, { on := 19, ground := Ground.guard }], guard := some (19, true) }) (v := ?vq31) rfl (by as_aux_lemma => kernel_rfl) (by as_aux_lemma => kernel_rfl) (by as_aux_lemma => kernel_rfl) (fun _ _ _ h => h) (Or.inl ⟨by rfl, ?yq31⟩) (by assumption) ?rq31
    case yq31 => (intro w hSw; (try dsimp only at hSw); go_simp <;> with_reducible rfl)
    simp only [Act.put, List.setIfInBounds_toArray, List.set_cons_zero, List.set_cons_succ]
    refine wpAnyH_take (i := 27) (oi := { dst := some 34, op := Op.pick (Operand.tmp 26) (Operand.tmp 33) (Operand.const (Value.bool false)), type := 4, pos := "law.go:97", after := #[{ on := 19, ground := Ground.data }, { on := 26, ground := Ground.data }], guard := none }) (v := ?vq32) rfl (by as_aux_lemma => kernel_rfl) (by as_aux_lemma => kernel_rfl) (by as_aux_lemma => kernel_rfl) (fun _ _ _ h => h) (Or.inl ⟨by rfl, ?yq32⟩) (by assumption) ?rq32
    case yq32 => (intro w hSw; (try dsimp only at hSw); go_simp <;> with_reducible rfl)
    simp only [Act.put, List.setIfInBounds_toArray, List.set_cons_zero, List.set_cons_succ]
    refine wpAnyH_take (i := 28) (oi := { dst := some 35, op := Op.move (Operand.tmp 34), type := 4, pos := "law.go:97", after := #[{ on := 27, ground := Ground.data }, { on := 25, ground := Ground.chain }], guard := none }) (v := ?vq33) rfl (by as_aux_lemma => kernel_rfl) (by as_aux_lemma => kernel_rfl) (by as_aux_lemma => kernel_rfl) (fun _ _ _ h => h) (Or.inl ⟨by rfl, ?yq33⟩) (by assumption) ?rq33
    case yq33 => (intro w hSw; (try dsimp only at hSw); go_simp <;> with_reducible rfl)
    simp only [Act.put, List.setIfInBounds_toArray, List.set_cons_zero, List.set_cons_succ]
    refine wpAnyH_take (i := 29) (oi := { dst := some 36, op := Op.load 24 (Operand.tmp 3), type := 24, pos := "law.go:97", after := #[{ on := 28, ground := Ground.guard }], guard := some (28, true) }) (v := ?vq34) rfl (by as_aux_lemma => kernel_rfl) (by as_aux_lemma => kernel_rfl) (by as_aux_lemma => kernel_rfl) (fun _ _ _ h => h) (Or.inl ⟨by rfl, ?yq34⟩) (by assumption) ?rq34
    case yq34 => (intro w hSw; (try dsimp only at hSw); go_simp <;> with_reducible rfl)
    simp only [Act.put, List.setIfInBounds_toArray, List.set_cons_zero, List.set_cons_succ]
    refine wpAnyH_take (i := 30) (oi := { dst := some 37, op := Op.load 24 (Operand.tmp 4), type := 24, pos := "law.go:97", after := #[{ on := 28, ground := Ground.guard }], guard := some (28, true) }) (v := ?vq35) rfl (by as_aux_lemma => kernel_rfl) (by as_aux_lemma => kernel_rfl) (by as_aux_lemma => kernel_rfl) (fun _ _ _ h => h) (Or.inl ⟨by rfl, ?yq35⟩) (by assumption) ?rq35
    case yq35 => (intro w hSw; (try dsimp only at hSw); go_simp <;> with_reducible rfl)
    simp only [Act.put, List.setIfInBounds_toArray, List.set_cons_zero, List.set_cons_succ]
    refine wpAnyH_take (i := 31) (oi := { dst := some 38, op := Op.load 24 (Operand.tmp 5), type := 24, pos := "law.go:97", after := #[{ on := 28, ground := Ground.guard }], guard := some (28, true) }) (v := ?vq36) rfl (by as_aux_lemma => kernel_rfl) (by as_aux_lemma => kernel_rfl) (by as_aux_lemma => kernel_rfl) (fun _ _ _ h => h) (Or.inl ⟨by rfl, ?yq36⟩) (by assumption) ?rq36
    case yq36 => (intro w hSw; (try dsimp only at hSw); go_simp <;> with_reducible rfl)
    simp only [Act.put, List.setIfInBounds_toArray, List.set_cons_zero, List.set_cons_succ]
    refine wpAnyH_take (i := 35) (oi := { dst := some 42, op := Op.load 24 (Operand.tmp 3), type := 24, pos := "law.go:97", after := #[{ on := 28, ground := Ground.guard }], guard := some (28, true) }) (v := ?vq37) rfl (by as_aux_lemma => kernel_rfl) (by as_aux_lemma => kernel_rfl) (by as_aux_lemma => kernel_rfl) (fun _ _ _ h => h) (Or.inl ⟨by rfl, ?yq37⟩) (by assumption) ?rq37
    case yq37 => (intro w hSw; (try dsimp only at hSw); go_simp <;> with_reducible rfl)
    simp only [Act.put, List.setIfInBounds_toArray, List.set_cons_zero, List.set_cons_succ]
    refine wpAnyH_take (i := 36) (oi := { dst := some 43, op := Op.load 24 (Operand.tmp 4), type := 24, pos := "law.go:97", after := #[{ on := 28, ground := Ground.guard }], guard := some (28, true) }) (v := ?vq38) rfl (by as_aux_lemma => kernel_rfl) (by as_aux_lemma => kernel_rfl) (by as_aux_lemma => kernel_rfl) (fun _ _ _ h => h) (Or.inl ⟨by rfl, ?yq38⟩) (by assumption) ?rq38
    case yq38 => (intro w hSw; (try dsimp only at hSw); go_simp <;> with_reducible rfl)
    simp only [Act.put, List.setIfInBounds_toArray, List.set_cons_zero, List.set_cons_succ]
    refine wpAnyH_take (i := 38) (oi := { dst := some 45, op := Op.load 24 (Operand.tmp 3), type := 24, pos := "law.go:97", after := #[{ on := 28, ground := Ground.guard }], guard := some (28, true) }) (v := ?vq39) rfl (by as_aux_lemma => kernel_rfl) (by as_aux_lemma => kernel_rfl) (by as_aux_lemma => kernel_rfl) (fun _ _ _ h => h) (Or.inl ⟨by rfl, ?yq39⟩) (by assumption) ?rq39
    case yq39 => (intro w hSw; (try dsimp only at hSw); go_simp <;> with_reducible rfl)
    simp only [Act.put, List.setIfInBounds_toArray, List.set_cons_zero, List.set_cons_succ]
    refine wpAnyH_take (i := 39) (oi := { dst := some 46, op := Op.load 24 (Operand.tmp 5), type := 24, pos := "law.go:97", after := #[{ on := 28, ground := Ground.guard }], guard := some (28, true) }) (v := ?vq40) rfl (by as_aux_lemma => kernel_rfl) (by as_aux_lemma => kernel_rfl) (by as_aux_lemma => kernel_rfl) (fun _ _ _ h => h) (Or.inl ⟨by rfl, ?yq40⟩) (by assumption) ?rq40
    case yq40 => (intro w hSw; (try dsimp only at hSw); go_simp <;> with_reducible rfl)
    simp only [Act.put, List.setIfInBounds_toArray, List.set_cons_zero, List.set_cons_succ]
    refine wpAnyH_ready (rs := [32]) (by as_aux_lemma => kernel_rfl) (by simp) ?_
    refine AllReadyH.cons (o := { dst := some 39, op := Op.buildSlice 33 2 #[(0, Operand.tmp 37), (1, Operand.tmp 38)], type := 33, pos := "law.go:97", after := #[{ on := 30, ground := Ground.data }, { on := 31, ground := Ground.data }, { on := 28, ground := Ground.guard }], guard := some (28, true) }) rfl (fun K hK => ?_) (by exact AllReadyH.nil)
    rw [if_pos (by rfl)]
    go_simp
    refine hK.out _ _ (by (try dsimp only); (first | assumption | exact (Below.refl _ _).drew | exact (balloc (Below.refl _ _) _).drew | exact bstep' (by assumption) (by assumption) | exact balloc (by assumption) _ | exact balloc (balloc (by assumption) _) _)) (fun hHeld => ?_)
    clear hK K
    simp only [List.setIfInBounds_toArray, List.set_cons_zero, List.set_cons_succ]
    refine wpAnyH_ready (rs := [33]) (by as_aux_lemma => kernel_rfl) (by simp) ?_
    refine AllReadyH.cons (o := { dst := some 40, op := Op.call { callee := Callee.value (Operand.func 11), args := #[Operand.tmp 39], argTypes := #[33] }, type := 24, pos := "law.go:97", after := #[{ on := 32, ground := Ground.data }, { on := 28, ground := Ground.chain }, { on := 28, ground := Ground.guard }], guard := some (28, true) }) rfl (fun K hK => ?_) (by exact AllReadyH.nil)
    rw [if_pos (by rfl)]
    go_simp
    (first | (go_at_call 11; refine (add2_any _ _ _ _ _ (by first | exact Blk.new _ _ _ | exact (Blk.new _ _ _).drewn | exact (Blk.new _ _ _).alloc _ | exact Blk.new1 _ _ _ _ | exact Blk.below ((Blk.new _ _ _).alloc _) (by assumption) | exact Blk.below (Blk.new1 _ _ _ _) (by assumption) | exact Blk.below (Blk.new _ _ _) (by assumption))).mono ?_; rintro e wk33 ⟨rfl, hk33⟩) | (go_at_call 13; refine (sub_any _ _ _).mono ?_; rintro e wk33 ⟨rfl, hk33⟩) | (go_at_call 15; refine (mul_any _ _ _).mono ?_; rintro e wk33 ⟨rfl, hk33⟩) | (go_at_call 17; refine (order_any _ _ (by assumption) (by assumption) _).mono ?_; rintro e wk33 ⟨rfl, hk33⟩) | (go_at_call 24; refine (text_any _ _).mono ?_; rintro e wk33 ⟨rfl, hk33⟩) | (go_at_call 21; refine (works_any _).mono ?_; rintro e wk33 ⟨rfl, hk33⟩))
    refine hK.out _ _ (by (try dsimp only); (first | assumption | exact (Below.refl _ _).drew | exact (balloc (Below.refl _ _) _).drew | exact bstep' (by assumption) (by assumption) | exact balloc (by assumption) _ | exact balloc (balloc (by assumption) _) _)) (fun hHeld => ?_)
    clear hK K
    simp only [List.setIfInBounds_toArray, List.set_cons_zero, List.set_cons_succ]
    refine wpAnyH_ready (rs := [34]) (by as_aux_lemma => kernel_rfl) (by simp) ?_
    refine AllReadyH.cons (o := { dst := some 41, op := Op.call { callee := Callee.value (Operand.func 15), args := #[Operand.tmp 36, Operand.tmp 40], argTypes := #[24, 24] }, type := 24, pos := "law.go:97", after := #[{ on := 29, ground := Ground.data }, { on := 33, ground := Ground.data }, { on := 33, ground := Ground.chain }, { on := 28, ground := Ground.guard }], guard := some (28, true) }) rfl (fun K hK => ?_) (by exact AllReadyH.nil)
    rw [if_pos (by rfl)]
    go_simp
    (first | (go_at_call 11; refine (add2_any _ _ _ _ _ (by first | exact Blk.new _ _ _ | exact (Blk.new _ _ _).drewn | exact (Blk.new _ _ _).alloc _ | exact Blk.new1 _ _ _ _ | exact Blk.below ((Blk.new _ _ _).alloc _) (by assumption) | exact Blk.below (Blk.new1 _ _ _ _) (by assumption) | exact Blk.below (Blk.new _ _ _) (by assumption))).mono ?_; rintro e wk34 ⟨rfl, hk34⟩) | (go_at_call 13; refine (sub_any _ _ _).mono ?_; rintro e wk34 ⟨rfl, hk34⟩) | (go_at_call 15; refine (mul_any _ _ _).mono ?_; rintro e wk34 ⟨rfl, hk34⟩) | (go_at_call 17; refine (order_any _ _ (by assumption) (by assumption) _).mono ?_; rintro e wk34 ⟨rfl, hk34⟩) | (go_at_call 24; refine (text_any _ _).mono ?_; rintro e wk34 ⟨rfl, hk34⟩) | (go_at_call 21; refine (works_any _).mono ?_; rintro e wk34 ⟨rfl, hk34⟩))
    refine hK.out _ _ (by (try dsimp only); (first | assumption | exact (Below.refl _ _).drew | exact (balloc (Below.refl _ _) _).drew | exact bstep' (by assumption) (by assumption) | exact balloc (by assumption) _ | exact balloc (balloc (by assumption) _) _)) (fun hHeld => ?_)
    clear hK K
    simp only [List.setIfInBounds_toArray, List.set_cons_zero, List.set_cons_succ]
    refine wpAnyH_ready (rs := [37]) (by as_aux_lemma => kernel_rfl) (by simp) ?_
    refine AllReadyH.cons (o := { dst := some 44, op := Op.call { callee := Callee.value (Operand.func 15), args := #[Operand.tmp 42, Operand.tmp 43], argTypes := #[24, 24] }, type := 24, pos := "law.go:97", after := #[{ on := 35, ground := Ground.data }, { on := 36, ground := Ground.data }, { on := 34, ground := Ground.chain }, { on := 28, ground := Ground.guard }], guard := some (28, true) }) rfl (fun K hK => ?_) (by exact AllReadyH.nil)
    rw [if_pos (by rfl)]
    go_simp
    (first | (go_at_call 11; refine (add2_any _ _ _ _ _ (by first | exact Blk.new _ _ _ | exact (Blk.new _ _ _).drewn | exact (Blk.new _ _ _).alloc _ | exact Blk.new1 _ _ _ _ | exact Blk.below ((Blk.new _ _ _).alloc _) (by assumption) | exact Blk.below (Blk.new1 _ _ _ _) (by assumption) | exact Blk.below (Blk.new _ _ _) (by assumption))).mono ?_; rintro e wk37 ⟨rfl, hk37⟩) | (go_at_call 13; refine (sub_any _ _ _).mono ?_; rintro e wk37 ⟨rfl, hk37⟩) | (go_at_call 15; refine (mul_any _ _ _).mono ?_; rintro e wk37 ⟨rfl, hk37⟩) | (go_at_call 17; refine (order_any _ _ (by assumption) (by assumption) _).mono ?_; rintro e wk37 ⟨rfl, hk37⟩) | (go_at_call 24; refine (text_any _ _).mono ?_; rintro e wk37 ⟨rfl, hk37⟩) | (go_at_call 21; refine (works_any _).mono ?_; rintro e wk37 ⟨rfl, hk37⟩))
    refine hK.out _ _ (by (try dsimp only); (first | assumption | exact (Below.refl _ _).drew | exact (balloc (Below.refl _ _) _).drew | exact bstep' (by assumption) (by assumption) | exact balloc (by assumption) _ | exact balloc (balloc (by assumption) _) _)) (fun hHeld => ?_)
    clear hK K
    simp only [List.setIfInBounds_toArray, List.set_cons_zero, List.set_cons_succ]
    refine wpAnyH_ready (rs := [40]) (by as_aux_lemma => kernel_rfl) (by simp) ?_
    refine AllReadyH.cons (o := { dst := some 47, op := Op.call { callee := Callee.value (Operand.func 15), args := #[Operand.tmp 45, Operand.tmp 46], argTypes := #[24, 24] }, type := 24, pos := "law.go:97", after := #[{ on := 38, ground := Ground.data }, { on := 39, ground := Ground.data }, { on := 37, ground := Ground.chain }, { on := 28, ground := Ground.guard }], guard := some (28, true) }) rfl (fun K hK => ?_) (by exact AllReadyH.nil)
    rw [if_pos (by rfl)]
    go_simp
    (first | (go_at_call 11; refine (add2_any _ _ _ _ _ (by first | exact Blk.new _ _ _ | exact (Blk.new _ _ _).drewn | exact (Blk.new _ _ _).alloc _ | exact Blk.new1 _ _ _ _ | exact Blk.below ((Blk.new _ _ _).alloc _) (by assumption) | exact Blk.below (Blk.new1 _ _ _ _) (by assumption) | exact Blk.below (Blk.new _ _ _) (by assumption))).mono ?_; rintro e wk40 ⟨rfl, hk40⟩) | (go_at_call 13; refine (sub_any _ _ _).mono ?_; rintro e wk40 ⟨rfl, hk40⟩) | (go_at_call 15; refine (mul_any _ _ _).mono ?_; rintro e wk40 ⟨rfl, hk40⟩) | (go_at_call 17; refine (order_any _ _ (by assumption) (by assumption) _).mono ?_; rintro e wk40 ⟨rfl, hk40⟩) | (go_at_call 24; refine (text_any _ _).mono ?_; rintro e wk40 ⟨rfl, hk40⟩) | (go_at_call 21; refine (works_any _).mono ?_; rintro e wk40 ⟨rfl, hk40⟩))
    refine hK.out _ _ (by (try dsimp only); (first | assumption | exact (Below.refl _ _).drew | exact (balloc (Below.refl _ _) _).drew | exact bstep' (by assumption) (by assumption) | exact balloc (by assumption) _ | exact balloc (balloc (by assumption) _) _)) (fun hHeld => ?_)
    clear hK K
    simp only [List.setIfInBounds_toArray, List.set_cons_zero, List.set_cons_succ]
    refine wpAnyH_ready (rs := [41]) (by as_aux_lemma => kernel_rfl) (by simp) ?_
    refine AllReadyH.cons (o := { dst := some 48, op := Op.buildSlice 33 2 #[(0, Operand.tmp 44), (1, Operand.tmp 47)], type := 33, pos := "law.go:97", after := #[{ on := 37, ground := Ground.data }, { on := 40, ground := Ground.data }, { on := 28, ground := Ground.guard }], guard := some (28, true) }) rfl (fun K hK => ?_) (by exact AllReadyH.nil)
    rw [if_pos (by rfl)]
    go_simp
    refine hK.out _ _ (by (try dsimp only); (first | assumption | exact (Below.refl _ _).drew | exact (balloc (Below.refl _ _) _).drew | exact bstep' (by assumption) (by assumption) | exact balloc (by assumption) _ | exact balloc (balloc (by assumption) _) _)) (fun hHeld => ?_)
    clear hK K
    simp only [List.setIfInBounds_toArray, List.set_cons_zero, List.set_cons_succ]
    refine wpAnyH_ready (rs := [42]) (by as_aux_lemma => kernel_rfl) (by simp) ?_
    refine AllReadyH.cons (o := { dst := some 49, op := Op.call { callee := Callee.value (Operand.func 11), args := #[Operand.tmp 48], argTypes := #[33] }, type := 24, pos := "law.go:97", after := #[{ on := 41, ground := Ground.data }, { on := 40, ground := Ground.chain }, { on := 28, ground := Ground.guard }], guard := some (28, true) }) rfl (fun K hK => ?_) (by exact AllReadyH.nil)
    rw [if_pos (by rfl)]
    go_simp
    (first | (go_at_call 11; refine (add2_any _ _ _ _ _ (by first | exact Blk.new _ _ _ | exact (Blk.new _ _ _).drewn | exact (Blk.new _ _ _).alloc _ | exact Blk.new1 _ _ _ _ | exact Blk.below ((Blk.new _ _ _).alloc _) (by assumption) | exact Blk.below (Blk.new1 _ _ _ _) (by assumption) | exact Blk.below (Blk.new _ _ _) (by assumption))).mono ?_; rintro e wk42 ⟨rfl, hk42⟩) | (go_at_call 13; refine (sub_any _ _ _).mono ?_; rintro e wk42 ⟨rfl, hk42⟩) | (go_at_call 15; refine (mul_any _ _ _).mono ?_; rintro e wk42 ⟨rfl, hk42⟩) | (go_at_call 17; refine (order_any _ _ (by assumption) (by assumption) _).mono ?_; rintro e wk42 ⟨rfl, hk42⟩) | (go_at_call 24; refine (text_any _ _).mono ?_; rintro e wk42 ⟨rfl, hk42⟩) | (go_at_call 21; refine (works_any _).mono ?_; rintro e wk42 ⟨rfl, hk42⟩))
    refine hK.out _ _ (by (try dsimp only); (first | assumption | exact (Below.refl _ _).drew | exact (balloc (Below.refl _ _) _).drew | exact bstep' (by assumption) (by assumption) | exact balloc (by assumption) _ | exact balloc (balloc (by assumption) _) _)) (fun hHeld => ?_)
    clear hK K
    simp only [List.setIfInBounds_toArray, List.set_cons_zero, List.set_cons_succ]
    refine wpAnyH_take (i := 43) (oi := { dst := some 50, op := Op.binOp BinOp.eql 24 (Operand.tmp 41) (Operand.tmp 49) 24, type := 4, pos := "law.go:97", after := #[{ on := 34, ground := Ground.data }, { on := 42, ground := Ground.data }, { on := 28, ground := Ground.guard }], guard := some (28, true) }) (v := ?vq48) rfl (by as_aux_lemma => kernel_rfl) (by as_aux_lemma => kernel_rfl) (by as_aux_lemma => kernel_rfl) (fun _ _ _ h => h) (Or.inl ⟨by rfl, ?yq48⟩) (by assumption) ?rq48
    case yq48 => (intro w hSw; (try dsimp only at hSw); go_simp <;> with_reducible rfl)
    simp only [Act.put, List.setIfInBounds_toArray, List.set_cons_zero, List.set_cons_succ]
    refine wpAnyH_take (i := 44) (oi := { dst := some 51, op := Op.pick (Operand.tmp 35) (Operand.tmp 50) (Operand.const (Value.bool false)), type := 4, pos := "law.go:97", after := #[{ on := 28, ground := Ground.data }, { on := 43, ground := Ground.data }], guard := none }) (v := ?vq49) rfl (by as_aux_lemma => kernel_rfl) (by as_aux_lemma => kernel_rfl) (by as_aux_lemma => kernel_rfl) (fun _ _ _ h => h) (Or.inl ⟨by rfl, ?yq49⟩) (by assumption) ?rq49
    case yq49 => (intro w hSw; (try dsimp only at hSw); go_simp <;> with_reducible rfl)
    simp only [Act.put, List.setIfInBounds_toArray, List.set_cons_zero, List.set_cons_succ]
    refine wpAnyH_take (i := 45) (oi := { dst := some 52, op := Op.move (Operand.tmp 51), type := 4, pos := "law.go:97", after := #[{ on := 44, ground := Ground.data }, { on := 42, ground := Ground.chain }], guard := none }) (v := ?vq50) rfl (by as_aux_lemma => kernel_rfl) (by as_aux_lemma => kernel_rfl) (by as_aux_lemma => kernel_rfl) (fun _ _ _ h => h) (Or.inl ⟨by rfl, ?yq50⟩) (by assumption) ?rq50
    case yq50 => (intro w hSw; (try dsimp only at hSw); go_simp <;> with_reducible rfl)
    simp only [Act.put, List.setIfInBounds_toArray, List.set_cons_zero, List.set_cons_succ]
    refine wpAnyH_take (i := 46) (oi := { dst := some 53, op := Op.load 24 (Operand.tmp 3), type := 24, pos := "law.go:97", after := #[{ on := 45, ground := Ground.guard }], guard := some (45, true) }) (v := ?vq51) rfl (by as_aux_lemma => kernel_rfl) (by as_aux_lemma => kernel_rfl) (by as_aux_lemma => kernel_rfl) (fun _ _ _ h => h) (Or.inl ⟨by rfl, ?yq51⟩) (by assumption) ?rq51
    case yq51 => (intro w hSw; (try dsimp only at hSw); go_simp <;> with_reducible rfl)
    simp only [Act.put, List.setIfInBounds_toArray, List.set_cons_zero, List.set_cons_succ]
    refine wpAnyH_take (i := 47) (oi := { dst := some 54, op := Op.load 24 (Operand.tmp 4), type := 24, pos := "law.go:97", after := #[{ on := 45, ground := Ground.guard }], guard := some (45, true) }) (v := ?vq52) rfl (by as_aux_lemma => kernel_rfl) (by as_aux_lemma => kernel_rfl) (by as_aux_lemma => kernel_rfl) (fun _ _ _ h => h) (Or.inl ⟨by rfl, ?yq52⟩) (by assumption) ?rq52
    case yq52 => (intro w hSw; (try dsimp only at hSw); go_simp <;> with_reducible rfl)
    simp only [Act.put, List.setIfInBounds_toArray, List.set_cons_zero, List.set_cons_succ]
    refine wpAnyH_take (i := 49) (oi := { dst := some 56, op := Op.load 24 (Operand.tmp 5), type := 24, pos := "law.go:97", after := #[{ on := 45, ground := Ground.guard }], guard := some (45, true) }) (v := ?vq53) rfl (by as_aux_lemma => kernel_rfl) (by as_aux_lemma => kernel_rfl) (by as_aux_lemma => kernel_rfl) (fun _ _ _ h => h) (Or.inl ⟨by rfl, ?yq53⟩) (by assumption) ?rq53
    case yq53 => (intro w hSw; (try dsimp only at hSw); go_simp <;> with_reducible rfl)
    simp only [Act.put, List.setIfInBounds_toArray, List.set_cons_zero, List.set_cons_succ]
    refine wpAnyH_take (i := 51) (oi := { dst := some 58, op := Op.load 24 (Operand.tmp 3), type := 24, pos := "law.go:97", after := #[{ on := 45, ground := Ground.guard }], guard := some (45, true) }) (v := ?vq54) rfl (by as_aux_lemma => kernel_rfl) (by as_aux_lemma => kernel_rfl) (by as_aux_lemma => kernel_rfl) (fun _ _ _ h => h) (Or.inl ⟨by rfl, ?yq54⟩) (by assumption) ?rq54
    case yq54 => (intro w hSw; (try dsimp only at hSw); go_simp <;> with_reducible rfl)
    simp only [Act.put, List.setIfInBounds_toArray, List.set_cons_zero, List.set_cons_succ]
    refine wpAnyH_take (i := 52) (oi := { dst := some 59, op := Op.load 24 (Operand.tmp 4), type := 24, pos := "law.go:97", after := #[{ on := 45, ground := Ground.guard }], guard := some (45, true) }) (v := ?vq55) rfl (by as_aux_lemma => kernel_rfl) (by as_aux_lemma => kernel_rfl) (by as_aux_lemma => kernel_rfl) (fun _ _ _ h => h) (Or.inl ⟨by rfl, ?yq55⟩) (by assumption) ?rq55
    case yq55 => (intro w hSw; (try dsimp only at hSw); go_simp <;> with_reducible rfl)
    simp only [Act.put, List.setIfInBounds_toArray, List.set_cons_zero, List.set_cons_succ]
    refine wpAnyH_take (i := 53) (oi := { dst := some 60, op := Op.load 24 (Operand.tmp 5), type := 24, pos := "law.go:97", after := #[{ on := 45, ground := Ground.guard }], guard := some (45, true) }) (v := ?vq56) rfl (by as_aux_lemma => kernel_rfl) (by as_aux_lemma => kernel_rfl) (by as_aux_lemma => kernel_rfl) (fun _ _ _ h => h) (Or.inl ⟨by rfl, ?yq56⟩) (by assumption) ?rq56
    case yq56 => (intro w hSw; (try dsimp only at hSw); go_simp <;> with_reducible rfl)
    simp only [Act.put, List.setIfInBounds_toArray, List.set_cons_zero, List.set_cons_succ]
    refine wpAnyH_ready (rs := [48]) (by as_aux_lemma => kernel_rfl) (by simp) ?_
    refine AllReadyH.cons (o := { dst := some 55, op := Op.call { callee := Callee.value (Operand.func 15), args := #[Operand.tmp 53, Operand.tmp 54], argTypes := #[24, 24] }, type := 24, pos := "law.go:97", after := #[{ on := 46, ground := Ground.data }, { on := 47, ground := Ground.data }, { on := 45, ground := Ground.chain }, { on := 45, ground := Ground.guard }], guard := some (45, true) }) rfl (fun K hK => ?_) (by exact AllReadyH.nil)
    rw [if_pos (by rfl)]
    go_simp
    (first | (go_at_call 11; refine (add2_any _ _ _ _ _ (by first | exact Blk.new _ _ _ | exact (Blk.new _ _ _).drewn | exact (Blk.new _ _ _).alloc _ | exact Blk.new1 _ _ _ _ | exact Blk.below ((Blk.new _ _ _).alloc _) (by assumption) | exact Blk.below (Blk.new1 _ _ _ _) (by assumption) | exact Blk.below (Blk.new _ _ _) (by assumption))).mono ?_; rintro e wk48 ⟨rfl, hk48⟩) | (go_at_call 13; refine (sub_any _ _ _).mono ?_; rintro e wk48 ⟨rfl, hk48⟩) | (go_at_call 15; refine (mul_any _ _ _).mono ?_; rintro e wk48 ⟨rfl, hk48⟩) | (go_at_call 17; refine (order_any _ _ (by assumption) (by assumption) _).mono ?_; rintro e wk48 ⟨rfl, hk48⟩) | (go_at_call 24; refine (text_any _ _).mono ?_; rintro e wk48 ⟨rfl, hk48⟩) | (go_at_call 21; refine (works_any _).mono ?_; rintro e wk48 ⟨rfl, hk48⟩))
    refine hK.out _ _ (by (try dsimp only); (first | assumption | exact (Below.refl _ _).drew | exact (balloc (Below.refl _ _) _).drew | exact bstep' (by assumption) (by assumption) | exact balloc (by assumption) _ | exact balloc (balloc (by assumption) _) _)) (fun hHeld => ?_)
    clear hK K
    simp only [List.setIfInBounds_toArray, List.set_cons_zero, List.set_cons_succ]
    refine wpAnyH_ready (rs := [50]) (by as_aux_lemma => kernel_rfl) (by simp) ?_
    refine AllReadyH.cons (o := { dst := some 57, op := Op.call { callee := Callee.value (Operand.func 15), args := #[Operand.tmp 55, Operand.tmp 56], argTypes := #[24, 24] }, type := 24, pos := "law.go:97", after := #[{ on := 48, ground := Ground.data }, { on := 49, ground := Ground.data }, { on := 48, ground := Ground.chain }, { on := 45, ground := Ground.guard }], guard := some (45, true) }) rfl (fun K hK => ?_) (by exact AllReadyH.nil)
    rw [if_pos (by rfl)]
    go_simp
    (first | (go_at_call 11; refine (add2_any _ _ _ _ _ (by first | exact Blk.new _ _ _ | exact (Blk.new _ _ _).drewn | exact (Blk.new _ _ _).alloc _ | exact Blk.new1 _ _ _ _ | exact Blk.below ((Blk.new _ _ _).alloc _) (by assumption) | exact Blk.below (Blk.new1 _ _ _ _) (by assumption) | exact Blk.below (Blk.new _ _ _) (by assumption))).mono ?_; rintro e wk50 ⟨rfl, hk50⟩) | (go_at_call 13; refine (sub_any _ _ _).mono ?_; rintro e wk50 ⟨rfl, hk50⟩) | (go_at_call 15; refine (mul_any _ _ _).mono ?_; rintro e wk50 ⟨rfl, hk50⟩) | (go_at_call 17; refine (order_any _ _ (by assumption) (by assumption) _).mono ?_; rintro e wk50 ⟨rfl, hk50⟩) | (go_at_call 24; refine (text_any _ _).mono ?_; rintro e wk50 ⟨rfl, hk50⟩) | (go_at_call 21; refine (works_any _).mono ?_; rintro e wk50 ⟨rfl, hk50⟩))
    refine hK.out _ _ (by (try dsimp only); (first | assumption | exact (Below.refl _ _).drew | exact (balloc (Below.refl _ _) _).drew | exact bstep' (by assumption) (by assumption) | exact balloc (by assumption) _ | exact balloc (balloc (by assumption) _) _)) (fun hHeld => ?_)
    clear hK K
    simp only [List.setIfInBounds_toArray, List.set_cons_zero, List.set_cons_succ]
    refine wpAnyH_ready (rs := [54]) (by as_aux_lemma => kernel_rfl) (by simp) ?_
    refine AllReadyH.cons (o := { dst := some 61, op := Op.call { callee := Callee.value (Operand.func 15), args := #[Operand.tmp 59, Operand.tmp 60], argTypes := #[24, 24] }, type := 24, pos := "law.go:97", after := #[{ on := 52, ground := Ground.data }, { on := 53, ground := Ground.data }, { on := 50, ground := Ground.chain }, { on := 45, ground := Ground.guard }], guard := some (45, true) }) rfl (fun K hK => ?_) (by exact AllReadyH.nil)
    rw [if_pos (by rfl)]
    go_simp
    (first | (go_at_call 11; refine (add2_any _ _ _ _ _ (by first | exact Blk.new _ _ _ | exact (Blk.new _ _ _).drewn | exact (Blk.new _ _ _).alloc _ | exact Blk.new1 _ _ _ _ | exact Blk.below ((Blk.new _ _ _).alloc _) (by assumption) | exact Blk.below (Blk.new1 _ _ _ _) (by assumption) | exact Blk.below (Blk.new _ _ _) (by assumption))).mono ?_; rintro e wk54 ⟨rfl, hk54⟩) | (go_at_call 13; refine (sub_any _ _ _).mono ?_; rintro e wk54 ⟨rfl, hk54⟩) | (go_at_call 15; refine (mul_any _ _ _).mono ?_; rintro e wk54 ⟨rfl, hk54⟩) | (go_at_call 17; refine (order_any _ _ (by assumption) (by assumption) _).mono ?_; rintro e wk54 ⟨rfl, hk54⟩) | (go_at_call 24; refine (text_any _ _).mono ?_; rintro e wk54 ⟨rfl, hk54⟩) | (go_at_call 21; refine (works_any _).mono ?_; rintro e wk54 ⟨rfl, hk54⟩))
    refine hK.out _ _ (by (try dsimp only); (first | assumption | exact (Below.refl _ _).drew | exact (balloc (Below.refl _ _) _).drew | exact bstep' (by assumption) (by assumption) | exact balloc (by assumption) _ | exact balloc (balloc (by assumption) _) _)) (fun hHeld => ?_)
    clear hK K
    simp only [List.setIfInBounds_toArray, List.set_cons_zero, List.set_cons_succ]
    refine wpAnyH_ready (rs := [55]) (by as_aux_lemma => kernel_rfl) (by simp) ?_
    refine AllReadyH.cons (o := { dst := some 62, op := Op.call { callee := Callee.value (Operand.func 15), args := #[Operand.tmp 58, Operand.tmp 61], argTypes := #[24, 24] }, type := 24, pos := "law.go:97", after := #[{ on := 51, ground := Ground.data }, { on := 54, ground := Ground.data }, { on := 54, ground := Ground.chain }, { on := 45, ground := Ground.guard }], guard := some (45, true) }) rfl (fun K hK => ?_) (by exact AllReadyH.nil)
    rw [if_pos (by rfl)]
    go_simp
    (first | (go_at_call 11; refine (add2_any _ _ _ _ _ (by first | exact Blk.new _ _ _ | exact (Blk.new _ _ _).drewn | exact (Blk.new _ _ _).alloc _ | exact Blk.new1 _ _ _ _ | exact Blk.below ((Blk.new _ _ _).alloc _) (by assumption) | exact Blk.below (Blk.new1 _ _ _ _) (by assumption) | exact Blk.below (Blk.new _ _ _) (by assumption))).mono ?_; rintro e wk55 ⟨rfl, hk55⟩) | (go_at_call 13; refine (sub_any _ _ _).mono ?_; rintro e wk55 ⟨rfl, hk55⟩) | (go_at_call 15; refine (mul_any _ _ _).mono ?_; rintro e wk55 ⟨rfl, hk55⟩) | (go_at_call 17; refine (order_any _ _ (by assumption) (by assumption) _).mono ?_; rintro e wk55 ⟨rfl, hk55⟩) | (go_at_call 24; refine (text_any _ _).mono ?_; rintro e wk55 ⟨rfl, hk55⟩) | (go_at_call 21; refine (works_any _).mono ?_; rintro e wk55 ⟨rfl, hk55⟩))
    refine hK.out _ _ (by (try dsimp only); (first | assumption | exact (Below.refl _ _).drew | exact (balloc (Below.refl _ _) _).drew | exact bstep' (by assumption) (by assumption) | exact balloc (by assumption) _ | exact balloc (balloc (by assumption) _) _)) (fun hHeld => ?_)
    clear hK K
    simp only [List.setIfInBounds_toArray, List.set_cons_zero, List.set_cons_succ]
    refine wpAnyH_take (i := 56) (oi := { dst := some 63, op := Op.binOp BinOp.eql 24 (Operand.tmp 57) (Operand.tmp 62) 24, type := 4, pos := "law.go:97", after := #[{ on := 50, ground := Ground.data }, { on := 55, ground := Ground.data }, { on := 45, ground := Ground.guard }], guard := some (45, true) }) (v := ?vq61) rfl (by as_aux_lemma => kernel_rfl) (by as_aux_lemma => kernel_rfl) (by as_aux_lemma => kernel_rfl) (fun _ _ _ h => h) (Or.inl ⟨by rfl, ?yq61⟩) (by assumption) ?rq61
    case yq61 => (intro w hSw; (try dsimp only at hSw); go_simp <;> with_reducible rfl)
    simp only [Act.put, List.setIfInBounds_toArray, List.set_cons_zero, List.set_cons_succ]
    refine wpAnyH_take (i := 57) (oi := { dst := some 64, op := Op.pick (Operand.tmp 52) (Operand.tmp 63) (Operand.const (Value.bool false)), type := 4, pos := "law.go:97", after := #[{ on := 45, ground := Ground.data }, { on := 56, ground := Ground.data }], guard := none }) (v := ?vq62) rfl (by as_aux_lemma => kernel_rfl) (by as_aux_lemma => kernel_rfl) (by as_aux_lemma => kernel_rfl) (fun _ _ _ h => h) (Or.inl ⟨by rfl, ?yq62⟩) (by assumption) ?rq62
    case yq62 => (intro w hSw; (try dsimp only at hSw); go_simp <;> with_reducible rfl)
    simp only [Act.put, List.setIfInBounds_toArray, List.set_cons_zero, List.set_cons_succ]
    refine wpAnyH_take (i := 58) (oi := { dst := some 65, op := Op.move (Operand.tmp 64), type := 4, pos := "law.go:97", after := #[{ on := 57, ground := Ground.data }, { on := 55, ground := Ground.chain }], guard := none }) (v := ?vq63) rfl (by as_aux_lemma => kernel_rfl) (by as_aux_lemma => kernel_rfl) (by as_aux_lemma => kernel_rfl) (fun _ _ _ h => h) (Or.inl ⟨by rfl, ?yq63⟩) (by assumption) ?rq63
    case yq63 => (intro w hSw; (try dsimp only at hSw); go_simp <;> with_reducible rfl)
    simp only [Act.put, List.setIfInBounds_toArray, List.set_cons_zero, List.set_cons_succ]
    refine wpAnyH_take (i := 59) (oi := { dst := some 66, op := Op.load 24 (Operand.tmp 3), type := 24, pos := "law.go:97", after := #[{ on := 58, ground := Ground.guard }], guard := some (58, true) }) (v := ?vq64) rfl (by as_aux_lemma => kernel_rfl) (by as_aux_lemma => kernel_rfl) (by as_aux_lemma => kernel_rfl) (fun _ _ _ h => h) (Or.inl ⟨by rfl, ?yq64⟩) (by assumption) ?rq64
    case yq64 => (intro w hSw; (try dsimp only at hSw); go_simp <;> with_reducible rfl)
    simp only [Act.put, List.setIfInBounds_toArray, List.set_cons_zero, List.set_cons_succ]
    refine wpAnyH_take (i := 61) (oi := { dst := some 68, op := Op.load 24 (Operand.tmp 4), type := 24, pos := "law.go:97", after := #[{ on := 58, ground := Ground.guard }], guard := some (58, true) }) (v := ?vq65) rfl (by as_aux_lemma => kernel_rfl) (by as_aux_lemma => kernel_rfl) (by as_aux_lemma => kernel_rfl) (fun _ _ _ h => h) (Or.inl ⟨by rfl, ?yq65⟩) (by assumption) ?rq65
    case yq65 => (intro w hSw; (try dsimp only at hSw); go_simp <;> with_reducible rfl)
    simp only [Act.put, List.setIfInBounds_toArray, List.set_cons_zero, List.set_cons_succ]
    refine wpAnyH_take (i := 64) (oi := { dst := some 71, op := Op.load 24 (Operand.tmp 3), type := 24, pos := "law.go:97", after := #[{ on := 58, ground := Ground.guard }], guard := some (58, true) }) (v := ?vq66) rfl (by as_aux_lemma => kernel_rfl) (by as_aux_lemma => kernel_rfl) (by as_aux_lemma => kernel_rfl) (fun _ _ _ h => h) (Or.inl ⟨by rfl, ?yq66⟩) (by assumption) ?rq66
    case yq66 => (intro w hSw; (try dsimp only at hSw); go_simp <;> with_reducible rfl)
    simp only [Act.put, List.setIfInBounds_toArray, List.set_cons_zero, List.set_cons_succ]
    refine wpAnyH_take (i := 65) (oi := { dst := some 72, op := Op.load 24 (Operand.tmp 4), type := 24, pos := "law.go:97", after := #[{ on := 58, ground := Ground.guard }], guard := some (58, true) }) (v := ?vq67) rfl (by as_aux_lemma => kernel_rfl) (by as_aux_lemma => kernel_rfl) (by as_aux_lemma => kernel_rfl) (fun _ _ _ h => h) (Or.inl ⟨by rfl, ?yq67⟩) (by assumption) ?rq67
    case yq67 => (intro w hSw; (try dsimp only at hSw); go_simp <;> with_reducible rfl)
    simp only [Act.put, List.setIfInBounds_toArray, List.set_cons_zero, List.set_cons_succ]
    refine wpAnyH_take (i := 66) (oi := { dst := some 73, op := Op.binOp BinOp.eql 24 (Operand.tmp 71) (Operand.tmp 72) 24, type := 4, pos := "law.go:97", after := #[{ on := 64, ground := Ground.data }, { on := 65, ground := Ground.data }, { on := 58, ground := Ground.guard }], guard := some (58, true) }) (v := ?vq68) rfl (by as_aux_lemma => kernel_rfl) (by as_aux_lemma => kernel_rfl) (by as_aux_lemma => kernel_rfl) (fun _ _ _ h => h) (Or.inl ⟨by rfl, ?yq68⟩) (by assumption) ?rq68
    case yq68 => (intro w hSw; (try dsimp only at hSw); go_simp <;> with_reducible rfl)
    simp only [Act.put, List.setIfInBounds_toArray, List.set_cons_zero, List.set_cons_succ]
    refine wpAnyH_ready (rs := [60]) (by as_aux_lemma => kernel_rfl) (by simp) ?_
    refine AllReadyH.cons (o := { dst := some 67, op := Op.call { callee := Callee.value (Operand.func 24), args := #[Operand.tmp 66], argTypes := #[24] }, type := 9, pos := "law.go:97", after := #[{ on := 59, ground := Ground.data }, { on := 58, ground := Ground.chain }, { on := 58, ground := Ground.guard }], guard := some (58, true) }) rfl (fun K hK => ?_) (by exact AllReadyH.nil)
    rw [if_pos (by rfl)]
    go_simp
    (first | (go_at_call 11; refine (add2_any _ _ _ _ _ (by first | exact Blk.new _ _ _ | exact (Blk.new _ _ _).drewn | exact (Blk.new _ _ _).alloc _ | exact Blk.new1 _ _ _ _ | exact Blk.below ((Blk.new _ _ _).alloc _) (by assumption) | exact Blk.below (Blk.new1 _ _ _ _) (by assumption) | exact Blk.below (Blk.new _ _ _) (by assumption))).mono ?_; rintro e wk60 ⟨rfl, hk60⟩) | (go_at_call 13; refine (sub_any _ _ _).mono ?_; rintro e wk60 ⟨rfl, hk60⟩) | (go_at_call 15; refine (mul_any _ _ _).mono ?_; rintro e wk60 ⟨rfl, hk60⟩) | (go_at_call 17; refine (order_any _ _ (by assumption) (by assumption) _).mono ?_; rintro e wk60 ⟨rfl, hk60⟩) | (go_at_call 24; refine (text_any _ _).mono ?_; rintro e wk60 ⟨rfl, hk60⟩) | (go_at_call 21; refine (works_any _).mono ?_; rintro e wk60 ⟨rfl, hk60⟩))
    refine hK.out _ _ (by (try dsimp only); (first | assumption | exact (Below.refl _ _).drew | exact (balloc (Below.refl _ _) _).drew | exact bstep' (by assumption) (by assumption) | exact balloc (by assumption) _ | exact balloc (balloc (by assumption) _) _)) (fun hHeld => ?_)
    clear hK K
    simp only [List.setIfInBounds_toArray, List.set_cons_zero, List.set_cons_succ]
    refine wpAnyH_ready (rs := [62]) (by as_aux_lemma => kernel_rfl) (by simp) ?_
    refine AllReadyH.cons (o := { dst := some 69, op := Op.call { callee := Callee.value (Operand.func 24), args := #[Operand.tmp 68], argTypes := #[24] }, type := 9, pos := "law.go:97", after := #[{ on := 61, ground := Ground.data }, { on := 60, ground := Ground.chain }, { on := 58, ground := Ground.guard }], guard := some (58, true) }) rfl (fun K hK => ?_) (by exact AllReadyH.nil)
    rw [if_pos (by rfl)]
    go_simp
    (first | (go_at_call 11; refine (add2_any _ _ _ _ _ (by first | exact Blk.new _ _ _ | exact (Blk.new _ _ _).drewn | exact (Blk.new _ _ _).alloc _ | exact Blk.new1 _ _ _ _ | exact Blk.below ((Blk.new _ _ _).alloc _) (by assumption) | exact Blk.below (Blk.new1 _ _ _ _) (by assumption) | exact Blk.below (Blk.new _ _ _) (by assumption))).mono ?_; rintro e wk62 ⟨rfl, hk62⟩) | (go_at_call 13; refine (sub_any _ _ _).mono ?_; rintro e wk62 ⟨rfl, hk62⟩) | (go_at_call 15; refine (mul_any _ _ _).mono ?_; rintro e wk62 ⟨rfl, hk62⟩) | (go_at_call 17; refine (order_any _ _ (by assumption) (by assumption) _).mono ?_; rintro e wk62 ⟨rfl, hk62⟩) | (go_at_call 24; refine (text_any _ _).mono ?_; rintro e wk62 ⟨rfl, hk62⟩) | (go_at_call 21; refine (works_any _).mono ?_; rintro e wk62 ⟨rfl, hk62⟩))
    refine hK.out _ _ (by (try dsimp only); (first | assumption | exact (Below.refl _ _).drew | exact (balloc (Below.refl _ _) _).drew | exact bstep' (by assumption) (by assumption) | exact balloc (by assumption) _ | exact balloc (balloc (by assumption) _) _)) (fun hHeld => ?_)
    clear hK K
    simp only [List.setIfInBounds_toArray, List.set_cons_zero, List.set_cons_succ]
    refine wpAnyH_take (i := 63) (oi := { dst := some 70, op := Op.binOp BinOp.eql 9 (Operand.tmp 67) (Operand.tmp 69) 9, type := 4, pos := "law.go:97", after := #[{ on := 60, ground := Ground.data }, { on := 62, ground := Ground.data }, { on := 58, ground := Ground.guard }], guard := some (58, true) }) (v := ?vq71) rfl (by as_aux_lemma => kernel_rfl) (by as_aux_lemma => kernel_rfl) (by as_aux_lemma => kernel_rfl) (fun _ _ _ h => h) (Or.inl ⟨by rfl, ?yq71⟩) (by assumption) ?rq71
    case yq71 => (intro w hSw; (try dsimp only at hSw); go_simp <;> with_reducible rfl)
    simp only [Act.put, List.setIfInBounds_toArray, List.set_cons_zero, List.set_cons_succ]
    refine wpAnyH_take (i := 67) (oi := { dst := some 74, op := Op.binOp BinOp.eql 4 (Operand.tmp 70) (Operand.tmp 73) 4, type := 4, pos := "law.go:97", after := #[{ on := 63, ground := Ground.data }, { on := 66, ground := Ground.data }, { on := 58, ground := Ground.guard }], guard := some (58, true) }) (v := ?vq72) rfl (by as_aux_lemma => kernel_rfl) (by as_aux_lemma => kernel_rfl) (by as_aux_lemma => kernel_rfl) (fun _ _ _ h => h) (Or.inl ⟨by rfl, ?yq72⟩) (by assumption) ?rq72
    case yq72 => (intro w hSw; (try dsimp only at hSw); go_simp <;> with_reducible rfl)
    simp only [Act.put, List.setIfInBounds_toArray, List.set_cons_zero, List.set_cons_succ]
    refine wpAnyH_take (i := 68) (oi := { dst := some 75, op := Op.pick (Operand.tmp 65) (Operand.tmp 74) (Operand.const (Value.bool false)), type := 4, pos := "law.go:97", after := #[{ on := 58, ground := Ground.data }, { on := 67, ground := Ground.data }], guard := none }) (v := ?vq73) rfl (by as_aux_lemma => kernel_rfl) (by as_aux_lemma => kernel_rfl) (by as_aux_lemma => kernel_rfl) (fun _ _ _ h => h) (Or.inl ⟨by rfl, ?yq73⟩) (by assumption) ?rq73
    case yq73 => (intro w hSw; (try dsimp only at hSw); go_simp <;> with_reducible rfl)
    simp only [Act.put, List.setIfInBounds_toArray, List.set_cons_zero, List.set_cons_succ]
    refine wpAnyH_take (i := 69) (oi := { dst := some 76, op := Op.move (Operand.tmp 75), type := 4, pos := "law.go:97", after := #[{ on := 68, ground := Ground.data }, { on := 62, ground := Ground.chain }], guard := none }) (v := ?vq74) rfl (by as_aux_lemma => kernel_rfl) (by as_aux_lemma => kernel_rfl) (by as_aux_lemma => kernel_rfl) (fun _ _ _ h => h) (Or.inl ⟨by rfl, ?yq74⟩) (by assumption) ?rq74
    case yq74 => (intro w hSw; (try dsimp only at hSw); go_simp <;> with_reducible rfl)
    simp only [Act.put, List.setIfInBounds_toArray, List.set_cons_zero, List.set_cons_succ]
    refine wpAnyH_take (i := 70) (oi := { dst := some 77, op := Op.load 24 (Operand.tmp 3), type := 24, pos := "law.go:97", after := #[{ on := 69, ground := Ground.guard }], guard := some (69, true) }) (v := ?vq75) rfl (by as_aux_lemma => kernel_rfl) (by as_aux_lemma => kernel_rfl) (by as_aux_lemma => kernel_rfl) (fun _ _ _ h => h) (Or.inl ⟨by rfl, ?yq75⟩) (by assumption) ?rq75
    case yq75 => (intro w hSw; (try dsimp only at hSw); go_simp <;> with_reducible rfl)
    simp only [Act.put, List.setIfInBounds_toArray, List.set_cons_zero, List.set_cons_succ]
    refine wpAnyH_take (i := 71) (oi := { dst := some 78, op := Op.load 24 (Operand.tmp 4), type := 24, pos := "law.go:97", after := #[{ on := 69, ground := Ground.guard }], guard := some (69, true) }) (v := ?vq76) rfl (by as_aux_lemma => kernel_rfl) (by as_aux_lemma => kernel_rfl) (by as_aux_lemma => kernel_rfl) (fun _ _ _ h => h) (Or.inl ⟨by rfl, ?yq76⟩) (by assumption) ?rq76
    case yq76 => (intro w hSw; (try dsimp only at hSw); go_simp <;> with_reducible rfl)
    simp only [Act.put, List.setIfInBounds_toArray, List.set_cons_zero, List.set_cons_succ]
    refine wpAnyH_take (i := 73) (oi := { dst := some 80, op := Op.load 24 (Operand.tmp 4), type := 24, pos := "law.go:97", after := #[{ on := 69, ground := Ground.guard }], guard := some (69, true) }) (v := ?vq77) rfl (by as_aux_lemma => kernel_rfl) (by as_aux_lemma => kernel_rfl) (by as_aux_lemma => kernel_rfl) (fun _ _ _ h => h) (Or.inl ⟨by rfl, ?yq77⟩) (by assumption) ?rq77
    case yq77 => (intro w hSw; (try dsimp only at hSw); go_simp <;> with_reducible rfl)
    simp only [Act.put, List.setIfInBounds_toArray, List.set_cons_zero, List.set_cons_succ]
    refine wpAnyH_take (i := 74) (oi := { dst := some 81, op := Op.load 24 (Operand.tmp 3), type := 24, pos := "law.go:97", after := #[{ on := 69, ground := Ground.guard }], guard := some (69, true) }) (v := ?vq78) rfl (by as_aux_lemma => kernel_rfl) (by as_aux_lemma => kernel_rfl) (by as_aux_lemma => kernel_rfl) (fun _ _ _ h => h) (Or.inl ⟨by rfl, ?yq78⟩) (by assumption) ?rq78
    case yq78 => (intro w hSw; (try dsimp only at hSw); go_simp <;> with_reducible rfl)
    simp only [Act.put, List.setIfInBounds_toArray, List.set_cons_zero, List.set_cons_succ]
    refine wpAnyH_ready (rs := [72]) (by as_aux_lemma => kernel_rfl) (by simp) ?_
    refine AllReadyH.cons (o := { dst := some 79, op := Op.call { callee := Callee.value (Operand.func 17), args := #[Operand.tmp 77, Operand.tmp 78], argTypes := #[24, 24] }, type := 3, pos := "law.go:97", after := #[{ on := 70, ground := Ground.data }, { on := 71, ground := Ground.data }, { on := 69, ground := Ground.chain }, { on := 69, ground := Ground.guard }], guard := some (69, true) }) rfl (fun K hK => ?_) (by exact AllReadyH.nil)
    rw [if_pos (by rfl)]
    go_simp
    (first | (go_at_call 11; refine (add2_any _ _ _ _ _ (by first | exact Blk.new _ _ _ | exact (Blk.new _ _ _).drewn | exact (Blk.new _ _ _).alloc _ | exact Blk.new1 _ _ _ _ | exact Blk.below ((Blk.new _ _ _).alloc _) (by assumption) | exact Blk.below (Blk.new1 _ _ _ _) (by assumption) | exact Blk.below (Blk.new _ _ _) (by assumption))).mono ?_; rintro e wk72 ⟨rfl, hk72⟩) | (go_at_call 13; refine (sub_any _ _ _).mono ?_; rintro e wk72 ⟨rfl, hk72⟩) | (go_at_call 15; refine (mul_any _ _ _).mono ?_; rintro e wk72 ⟨rfl, hk72⟩) | (go_at_call 17; refine (order_any _ _ (by assumption) (by assumption) _).mono ?_; rintro e wk72 ⟨rfl, hk72⟩) | (go_at_call 24; refine (text_any _ _).mono ?_; rintro e wk72 ⟨rfl, hk72⟩) | (go_at_call 21; refine (works_any _).mono ?_; rintro e wk72 ⟨rfl, hk72⟩))
    refine hK.out _ _ (by (try dsimp only); (first | assumption | exact (Below.refl _ _).drew | exact (balloc (Below.refl _ _) _).drew | exact bstep' (by assumption) (by assumption) | exact balloc (by assumption) _ | exact balloc (balloc (by assumption) _) _)) (fun hHeld => ?_)
    clear hK K
    simp only [List.setIfInBounds_toArray, List.set_cons_zero, List.set_cons_succ]
    refine wpAnyH_ready (rs := [75]) (by as_aux_lemma => kernel_rfl) (by simp) ?_
    refine AllReadyH.cons (o := { dst := some 82, op := Op.call { callee := Callee.value (Operand.func 17), args := #[Operand.tmp 80, Operand.tmp 81], argTypes := #[24, 24] }, type := 3, pos := "law.go:97", after := #[{ on := 73, ground := Ground.data }, { on := 74, ground := Ground.data }, { on := 72, ground := Ground.chain }, { on := 69, ground := Ground.guard }], guard := some (69, true) }) rfl (fun K hK => ?_) (by exact AllReadyH.nil)
    rw [if_pos (by rfl)]
    go_simp
    (first | (go_at_call 11; refine (add2_any _ _ _ _ _ (by first | exact Blk.new _ _ _ | exact (Blk.new _ _ _).drewn | exact (Blk.new _ _ _).alloc _ | exact Blk.new1 _ _ _ _ | exact Blk.below ((Blk.new _ _ _).alloc _) (by assumption) | exact Blk.below (Blk.new1 _ _ _ _) (by assumption) | exact Blk.below (Blk.new _ _ _) (by assumption))).mono ?_; rintro e wk75 ⟨rfl, hk75⟩) | (go_at_call 13; refine (sub_any _ _ _).mono ?_; rintro e wk75 ⟨rfl, hk75⟩) | (go_at_call 15; refine (mul_any _ _ _).mono ?_; rintro e wk75 ⟨rfl, hk75⟩) | (go_at_call 17; refine (order_any _ _ (by assumption) (by assumption) _).mono ?_; rintro e wk75 ⟨rfl, hk75⟩) | (go_at_call 24; refine (text_any _ _).mono ?_; rintro e wk75 ⟨rfl, hk75⟩) | (go_at_call 21; refine (works_any _).mono ?_; rintro e wk75 ⟨rfl, hk75⟩))
    refine hK.out _ _ (by (try dsimp only); (first | assumption | exact (Below.refl _ _).drew | exact (balloc (Below.refl _ _) _).drew | exact bstep' (by assumption) (by assumption) | exact balloc (by assumption) _ | exact balloc (balloc (by assumption) _) _)) (fun hHeld => ?_)
    clear hK K
    simp only [List.setIfInBounds_toArray, List.set_cons_zero, List.set_cons_succ]
    refine wpAnyH_take (i := 76) (oi := { dst := some 83, op := Op.unOp UnOp.neg 3 (Operand.tmp 82), type := 3, pos := "law.go:97", after := #[{ on := 75, ground := Ground.data }, { on := 69, ground := Ground.guard }], guard := some (69, true) }) (v := ?vq81) rfl (by as_aux_lemma => kernel_rfl) (by as_aux_lemma => kernel_rfl) (by as_aux_lemma => kernel_rfl) (fun _ _ _ h => h) (Or.inl ⟨by rfl, ?yq81⟩) (by assumption) ?rq81
    case yq81 => (intro w hSw; (try dsimp only at hSw); go_simp <;> with_reducible rfl)
    simp only [Act.put, List.setIfInBounds_toArray, List.set_cons_zero, List.set_cons_succ]
    refine wpAnyH_take (i := 77) (oi := { dst := some 84, op := Op.binOp BinOp.eql 3 (Operand.tmp 79) (Operand.tmp 83) 3, type := 4, pos := "law.go:97", after := #[{ on := 72, ground := Ground.data }, { on := 76, ground := Ground.data }, { on := 69, ground := Ground.guard }], guard := some (69, true) }) (v := ?vq82) rfl (by as_aux_lemma => kernel_rfl) (by as_aux_lemma => kernel_rfl) (by as_aux_lemma => kernel_rfl) (fun _ _ _ h => h) (Or.inl ⟨by rfl, ?yq82⟩) (by assumption) ?rq82
    case yq82 => (intro w hSw; (try dsimp only at hSw); go_simp <;> with_reducible rfl)
    simp only [Act.put, List.setIfInBounds_toArray, List.set_cons_zero, List.set_cons_succ]
    refine wpAnyH_take (i := 78) (oi := { dst := some 85, op := Op.pick (Operand.tmp 76) (Operand.tmp 84) (Operand.const (Value.bool false)), type := 4, pos := "law.go:97", after := #[{ on := 69, ground := Ground.data }, { on := 77, ground := Ground.data }], guard := none }) (v := ?vq83) rfl (by as_aux_lemma => kernel_rfl) (by as_aux_lemma => kernel_rfl) (by as_aux_lemma => kernel_rfl) (fun _ _ _ h => h) (Or.inl ⟨by rfl, ?yq83⟩) (by assumption) ?rq83
    case yq83 => (intro w hSw; (try dsimp only at hSw); go_simp <;> with_reducible rfl)
    simp only [Act.put, List.setIfInBounds_toArray, List.set_cons_zero, List.set_cons_succ]
    refine wpAnyH_take (i := 79) (oi := { dst := some 86, op := Op.move (Operand.tmp 85), type := 4, pos := "law.go:97", after := #[{ on := 78, ground := Ground.data }, { on := 75, ground := Ground.chain }], guard := none }) (v := ?vq84) rfl (by as_aux_lemma => kernel_rfl) (by as_aux_lemma => kernel_rfl) (by as_aux_lemma => kernel_rfl) (fun _ _ _ h => h) (Or.inl ⟨by rfl, ?yq84⟩) (by assumption) ?rq84
    case yq84 => (intro w hSw; (try dsimp only at hSw); go_simp <;> with_reducible rfl)
    simp only [Act.put, List.setIfInBounds_toArray, List.set_cons_zero, List.set_cons_succ]
    refine wpAnyH_ready (rs := [80]) (by as_aux_lemma => kernel_rfl) (by simp) ?_
    refine AllReadyH.cons (o := { dst := some 87, op := Op.call { callee := Callee.value (Operand.func 21), args := #[], argTypes := #[] }, type := 4, pos := "law.go:97", after := #[{ on := 79, ground := Ground.chain }, { on := 79, ground := Ground.guard }], guard := some (79, true) }) rfl (fun K hK => ?_) (by exact AllReadyH.nil)
    rw [if_pos (by rfl)]
    go_simp
    (first | (go_at_call 11; refine (add2_any _ _ _ _ _ (by first | exact Blk.new _ _ _ | exact (Blk.new _ _ _).drewn | exact (Blk.new _ _ _).alloc _ | exact Blk.new1 _ _ _ _ | exact Blk.below ((Blk.new _ _ _).alloc _) (by assumption) | exact Blk.below (Blk.new1 _ _ _ _) (by assumption) | exact Blk.below (Blk.new _ _ _) (by assumption))).mono ?_; rintro e wk80 ⟨rfl, hk80⟩) | (go_at_call 13; refine (sub_any _ _ _).mono ?_; rintro e wk80 ⟨rfl, hk80⟩) | (go_at_call 15; refine (mul_any _ _ _).mono ?_; rintro e wk80 ⟨rfl, hk80⟩) | (go_at_call 17; refine (order_any _ _ (by assumption) (by assumption) _).mono ?_; rintro e wk80 ⟨rfl, hk80⟩) | (go_at_call 24; refine (text_any _ _).mono ?_; rintro e wk80 ⟨rfl, hk80⟩) | (go_at_call 21; refine (works_any _).mono ?_; rintro e wk80 ⟨rfl, hk80⟩))
    refine hK.out _ _ (by (try dsimp only); (first | assumption | exact (Below.refl _ _).drew | exact (balloc (Below.refl _ _) _).drew | exact bstep' (by assumption) (by assumption) | exact balloc (by assumption) _ | exact balloc (balloc (by assumption) _) _)) (fun hHeld => ?_)
    clear hK K
    simp only [List.setIfInBounds_toArray, List.set_cons_zero, List.set_cons_succ]
    refine wpAnyH_take (i := 81) (oi := { dst := some 88, op := Op.pick (Operand.tmp 86) (Operand.tmp 87) (Operand.const (Value.bool false)), type := 4, pos := "law.go:97", after := #[{ on := 79, ground := Ground.data }, { on := 80, ground := Ground.data }], guard := none }) (v := ?vq86) rfl (by as_aux_lemma => kernel_rfl) (by as_aux_lemma => kernel_rfl) (by as_aux_lemma => kernel_rfl) (fun _ _ _ h => h) (Or.inl ⟨by rfl, ?yq86⟩) (by assumption) ?rq86
    case yq86 => (intro w hSw; (try dsimp only at hSw); go_simp <;> with_reducible rfl)
    simp only [Act.put, List.setIfInBounds_toArray, List.set_cons_zero, List.set_cons_succ]
    refine wpAnyH_ready (rs := [82]) (by as_aux_lemma => kernel_rfl) (by simp) ?_
    refine AllReadyH.cons (o := { dst := some 6, op := Op.assign (Operand.tmp 88), type := 4, pos := "law.go:97", after := #[{ on := 81, ground := Ground.data }, { on := 80, ground := Ground.chain }, { on := 0, ground := Ground.phase }, { on := 1, ground := Ground.phase }, { on := 2, ground := Ground.phase }, { on := 3, ground := Ground.phase }, { on := 4, ground := Ground.phase }, { on := 5, ground := Ground.phase }, { on := 6, ground := Ground.phase }, { on := 7, ground := Ground.phase }, { on := 8, ground := Ground.phase }, { on := 9, ground := Ground.phase }, { on := 10, ground := Ground.phase }, { on := 11, ground := Ground.phase }, { on := 12, ground := Ground.phase }, { on := 13, ground := Ground.phase }, { on := 14, ground := Ground.phase }, { on := 15, ground := Ground.phase }, { on := 16, ground := Ground.phase }, { on := 17, ground := Ground.phase }, { on := 18, ground := Ground.phase }, { on := 19, ground := Ground.phase }, { on := 20, ground := Ground.phase }, { on := 21, ground := Ground.phase }, { on := 22, ground := Ground.phase }, { on := 23, ground := Ground.phase }, { on := 24, ground := Ground.phase }, { on := 25, ground := Ground.phase }, { on := 26, ground := Ground.phase }, { on := 27, ground := Ground.phase }, { on := 28, ground := Ground.phase }, { on := 29, ground := Ground.phase }, { on := 30, ground := Ground.phase }, { on := 31, ground := Ground.phase }, { on := 32, ground := Ground.phase }, { on := 33, ground := Ground.phase }, { on := 34, ground := Ground.phase }, { on := 35, ground := Ground.phase }, { on := 36, ground := Ground.phase }, { on := 37, ground := Ground.phase }, { on := 38, ground := Ground.phase }, { on := 39, ground := Ground.phase }, { on := 40, ground := Ground.phase }, { on := 41, ground := Ground.phase }, { on := 42, ground := Ground.phase }, { on := 43, ground := Ground.phase }, { on := 44, ground := Ground.phase }, { on := 45, ground := Ground.phase }, { on := 46, ground := Ground.phase }, { on := 47, ground := Ground.phase }, { on := 48, ground := Ground.phase }, { on := 49, ground := Ground.phase }, { on := 50, ground := Ground.phase }, { on := 51, ground := Ground.phase }, { on := 52, ground := Ground.phase }, { on := 53, ground := Ground.phase }, { on := 54, ground := Ground.phase }, { on := 55, ground := Ground.phase }, { on := 56, ground := Ground.phase }, { on := 57, ground := Ground.phase }, { on := 58, ground := Ground.phase }, { on := 59, ground := Ground.phase }, { on := 60, ground := Ground.phase }, { on := 61, ground := Ground.phase }, { on := 62, ground := Ground.phase }, { on := 63, ground := Ground.phase }, { on := 64, ground := Ground.phase }, { on := 65, ground := Ground.phase }, { on := 66, ground := Ground.phase }, { on := 67, ground := Ground.phase }, { on := 68, ground := Ground.phase }, { on := 69, ground := Ground.phase }, { on := 70, ground := Ground.phase }, { on := 71, ground := Ground.phase }, { on := 72, ground := Ground.phase }, { on := 73, ground := Ground.phase }, { on := 74, ground := Ground.phase }, { on := 75, ground := Ground.phase }, { on := 76, ground := Ground.phase }, { on := 77, ground := Ground.phase }, { on := 78, ground := Ground.phase }, { on := 79, ground := Ground.phase }, { on := 80, ground := Ground.phase }, { on := 81, ground := Ground.phase }], guard := none }) rfl (fun K hK => ?_) (by exact AllReadyH.nil)
    rw [if_pos (by rfl)]
    go_simp
    refine hK.out _ _ (by (try dsimp only); (first | assumption | exact (Below.refl _ _).drew | exact (balloc (Below.refl _ _) _).drew | exact bstep' (by assumption) (by assumption) | exact balloc (by assumption) _ | exact balloc (balloc (by assumption) _) _)) (fun hHeld => ?_)
    clear hK K
    simp only [List.setIfInBounds_toArray, List.set_cons_zero, List.set_cons_succ]
    refine wpAnyH_done (by as_aux_lemma => kernel_rfl) ?_ _
    (go_wp2; go_ret; exact ⟨rfl, bstep HW.out (by assumption)⟩)

end Go.Proofs.YtimmcljpfpimbaaDoor
