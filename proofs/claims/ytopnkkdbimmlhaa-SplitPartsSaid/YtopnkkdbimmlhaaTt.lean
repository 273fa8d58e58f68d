/- split's reference: SDiv, SMod. -/
import Derived.Test.YtopnkkdbimmlhaaTs
import Derived.Deep.RegionHeld
import Derived.Deep.MidRow
namespace Go.Proofs.Ytopnkkdbimmlhaa
open Go.RowKit Go.Shelf
attribute [local go_sem] ix0 ix1 ix2 ix3
attribute [local irreducible] lb ngN mdN tnN

set_option maxRecDepth 100000 in
set_option maxHeartbeats 4000000 in
theorem rsdiv_any (a b : Nat) (ha : a < MM) (hb : b < MM) (w : World) :
    Calls Try.prog 12 #[W a, W b] w fun e w' => e = .returned (W (sdN a b)) ∧ Below w.heap.size w w' := by
  unfold sdN
  have hA := tn_lt a ha
  have hB := tn_lt b hb
  have hpa := fun w => rabs_any a w
  have hpb := fun w => rabs_any b w
  generalize tnN a (ngN a) = x at hA hpa ⊢
  generalize tnN b (ngN b) = y at hB hpb ⊢
  have HM := Lib.hid (And.intro hA hB)
  have HPA := Lib.hid hpa
  have HPB := Lib.hid hpb
  have hi : (Try.prog.info? 24).map (·.size) = some (Wc 0).size := by kernel_rfl
  have HI := Lib.hid hi
  clear hpa hpb ha hb hA hB hi
  have A : Blk (((w.alloc (.cells (Wc a) 24)).alloc (.cells (Wc b) 24)).alloc (.cells #[.int .u64 0, .int .u64 0, .int .u64 0, .int .u64 0] 24)) w.heap.size 24 (Wc a) := ((Blk.new _ _ _).alloc _).alloc _
  have B : Blk (((w.alloc (.cells (Wc a) 24)).alloc (.cells (Wc b) 24)).alloc (.cells #[.int .u64 0, .int .u64 0, .int .u64 0, .int .u64 0] 24)) (w.heap.size + 1) 24 (Wc b) := (Blk.newS w _ _ _).alloc _
  have R : Blk (((w.alloc (.cells (Wc a) 24)).alloc (.cells (Wc b) 24)).alloc (.cells #[.int .u64 0, .int .u64 0, .int .u64 0, .int .u64 0] 24)) (w.heap.size + 1 + 1) 24 #[.int .u64 0, .int .u64 0, .int .u64 0, .int .u64 0] := by
    have h := Blk.newS (w.alloc (.cells (Wc a) 24)) (.cells (Wc b) 24) 24 #[.int .u64 0, .int .u64 0, .int .u64 0, .int .u64 0]
    rwa [World.size_alloc] at h
  have hW : Below w.heap.size w (((w.alloc (.cells (Wc a) 24)).alloc (.cells (Wc b) 24)).alloc (.cells #[.int .u64 0, .int .u64 0, .int .u64 0, .int .u64 0] 24)) := balloc (balloc (balloc (Below.refl _ _) _) _) _
  have HP := Lib.hid (And.intro A (And.intro B (And.intro R hW)))
  clear A B R hW
  go_enter Try.func12, Try.ntmps12
  go_upto_region 1 with fail
  obtain ⟨W0, hW0⟩ : ∃ W0, (((w.alloc (.cells (Wc a) 24)).alloc (.cells (Wc b) 24)).alloc (.cells #[.int .u64 0, .int .u64 0, .int .u64 0, .int .u64 0] 24)) = W0 := ⟨_, rfl⟩
  rw [hW0] at HP ⊢
  clear hW0
  obtain ⟨A, B, R, hW⟩ := HP.out
  clear HP
  have hl0 := R.lt
  rename_i Kc hKc
  have cA0 : ∀ w', Below W0.heap.size W0 w' → w'.cell? ⟨w.heap.size, 0, none⟩ = some (.int .u64 (lb (a) 0)) := fun w' h => (cell_of_row _ _ 0 _ _ _ (A.block_below h)).trans rfl
  have cA1 : ∀ w', Below W0.heap.size W0 w' → w'.cell? ⟨w.heap.size, 1, none⟩ = some (.int .u64 (lb (a) 1)) := fun w' h => (cell_of_row _ _ 1 _ _ _ (A.block_below h)).trans rfl
  have cA2 : ∀ w', Below W0.heap.size W0 w' → w'.cell? ⟨w.heap.size, 2, none⟩ = some (.int .u64 (lb (a) 2)) := fun w' h => (cell_of_row _ _ 2 _ _ _ (A.block_below h)).trans rfl
  have cA3 : ∀ w', Below W0.heap.size W0 w' → w'.cell? ⟨w.heap.size, 3, none⟩ = some (.int .u64 (lb (a) 3)) := fun w' h => (cell_of_row _ _ 3 _ _ _ (A.block_below h)).trans rfl
  have cB0 : ∀ w', Below W0.heap.size W0 w' → w'.cell? ⟨w.heap.size + 1, 0, none⟩ = some (.int .u64 (lb (b) 0)) := fun w' h => (cell_of_row _ _ 0 _ _ _ (B.block_below h)).trans rfl
  have cB1 : ∀ w', Below W0.heap.size W0 w' → w'.cell? ⟨w.heap.size + 1, 1, none⟩ = some (.int .u64 (lb (b) 1)) := fun w' h => (cell_of_row _ _ 1 _ _ _ (B.block_below h)).trans rfl
  have cB2 : ∀ w', Below W0.heap.size W0 w' → w'.cell? ⟨w.heap.size + 1, 2, none⟩ = some (.int .u64 (lb (b) 2)) := fun w' h => (cell_of_row _ _ 2 _ _ _ (B.block_below h)).trans rfl
  have cB3 : ∀ w', Below W0.heap.size W0 w' → w'.cell? ⟨w.heap.size + 1, 3, none⟩ = some (.int .u64 (lb (b) 3)) := fun w' h => (cell_of_row _ _ 3 _ _ _ (B.block_below h)).trans rfl
  refine join2 (C := fun X Y wz => Blk wz X 24 #[.int .u64 0, .int .u64 0, .int .u64 0, .int .u64 0] ∧ Blk wz Y 24 #[.int .u64 0, .int .u64 0, .int .u64 0, .int .u64 0] ∧ X ≠ Y ∧ W0.heap.size ≤ X ∧ W0.heap.size ≤ Y ∧ Below W0.heap.size W0 wz) ?PJ ?main ?hrest
  case main =>
    intro rest
    refine wp_region_held_drew (S := fun w' => Below W0.heap.size W0 w') (by as_aux_lemma => kernel_rfl) (Below.refl _ _).drew (fun hHeld => ?_)
    simp only [List.size_toArray, List.length_cons, List.length_nil, Nat.reduceAdd, Array.replicate_succ, Array.replicate_zero, List.push_toArray, List.nil_append, List.cons_append]
    refine wpAnyH_take (i := 0) (oi := { dst := some 8, op := Op.load 24 (Operand.tmp 2), type := 24, pos := "ref.go:53", after := #[], guard := none }) (v := ?vq0) rfl (by as_aux_lemma => kernel_rfl) (by as_aux_lemma => kernel_rfl) (by as_aux_lemma => kernel_rfl) (fun _ _ _ h => h) (Or.inl ⟨by rfl, ?yq0⟩) (by assumption) ?rq0
    case yq0 => (intro w hSw; (try dsimp only at hSw); go_simp <;> with_reducible rfl)
    simp only [Act.put, List.setIfInBounds_toArray, List.set_cons_zero, List.set_cons_succ]
    refine wpAnyH_take (i := 2) (oi := { dst := some 10, op := Op.load 24 (Operand.tmp 3), type := 24, pos := "ref.go:53", after := #[], guard := none }) (v := ?vq1) rfl (by as_aux_lemma => kernel_rfl) (by as_aux_lemma => kernel_rfl) (by as_aux_lemma => kernel_rfl) (fun _ _ _ h => h) (Or.inl ⟨by rfl, ?yq1⟩) (by assumption) ?rq1
    case yq1 => (intro w hSw; (try dsimp only at hSw); go_simp <;> with_reducible rfl)
    simp only [Act.put, List.setIfInBounds_toArray, List.set_cons_zero, List.set_cons_succ]
    refine wpAnyH_ready (rs := [1, 8, 9]) (by as_aux_lemma => kernel_rfl) (by simp) ?_
    refine AllReadyH.cons (o := { dst := some 9, op := Op.call { callee := Callee.value (Operand.func 39), args := #[Operand.tmp 8], argTypes := #[24] }, type := 24, pos := "ref.go:53", after := #[{ on := 0, ground := Ground.data }], guard := none }) rfl (fun K hK => ?_) ?_
    · rw [if_pos (by rfl)]
      go_simp
      (go_at_call 39; refine (HPA.out _).mono ?_; rintro e wk1 ⟨rfl, hk1⟩)
      refine hK.out _ _ (by (try dsimp only); (first | assumption | exact (Below.refl _ _).drew | exact (balloc (Below.refl _ _) _).drew | exact (balloc (balloc (Below.refl _ _) _) _).drew | exact rstep (by assumption) (by assumption) | exact balloc (by assumption) _ | exact balloc (balloc (by assumption) _) _)) (fun hHeld => ?_)
      clear hK K
      simp only [List.setIfInBounds_toArray, List.set_cons_zero, List.set_cons_succ]
      refine wpAnyH_ready (rs := [3, 8, 9]) (by as_aux_lemma => kernel_rfl) (by simp) ?_
      refine AllReadyH.cons (o := { dst := some 11, op := Op.call { callee := Callee.value (Operand.func 39), args := #[Operand.tmp 10], argTypes := #[24] }, type := 24, pos := "ref.go:53", after := #[{ on := 2, ground := Ground.data }, { on := 1, ground := Ground.chain }], guard := none }) rfl (fun K hK => ?_) ?_
      · rw [if_pos (by rfl)]
        go_simp
        (go_at_call 39; refine (HPB.out _).mono ?_; rintro e wk3 ⟨rfl, hk3⟩)
        refine hK.out _ _ (by (try dsimp only); (first | assumption | exact (Below.refl _ _).drew | exact (balloc (Below.refl _ _) _).drew | exact (balloc (balloc (Below.refl _ _) _) _).drew | exact rstep (by assumption) (by assumption) | exact balloc (by assumption) _ | exact balloc (balloc (by assumption) _) _)) (fun hHeld => ?_)
        clear hK K
        simp only [List.setIfInBounds_toArray, List.set_cons_zero, List.set_cons_succ]
        refine wpAnyH_ready (rs := [4, 8, 9]) (by as_aux_lemma => kernel_rfl) (by simp) ?_
        refine AllReadyH.cons (o := { dst := some 12, op := Op.call { callee := Callee.value (Operand.func 8), args := #[Operand.tmp 9, Operand.tmp 11], argTypes := #[24, 24] }, type := 25, pos := "ref.go:53", after := #[{ on := 1, ground := Ground.data }, { on := 3, ground := Ground.data }, { on := 3, ground := Ground.chain }], guard := none }) rfl (fun K hK => ?_) ?_
        · rw [if_pos (by rfl)]
          go_simp
          (go_at_call 8; refine (rdivide_all x y HM.out.1 HM.out.2 _).mono ?_; rintro e wk4 ⟨rfl, hk4⟩)
          refine hK.out _ _ (by (try dsimp only); (first | assumption | exact (Below.refl _ _).drew | exact (balloc (Below.refl _ _) _).drew | exact (balloc (balloc (Below.refl _ _) _) _).drew | exact rstep (by assumption) (by assumption) | exact balloc (by assumption) _ | exact balloc (balloc (by assumption) _) _)) (fun hHeld => ?_)
          clear hK K
          simp only [List.setIfInBounds_toArray, List.set_cons_zero, List.set_cons_succ]
          refine wpAnyH_take (i := 5) (oi := { dst := some 7, op := Op.move (Operand.tmp 12), type := 25, pos := "ref.go:53", after := #[{ on := 4, ground := Ground.data }], guard := none }) (v := ?vq5) rfl (by as_aux_lemma => kernel_rfl) (by as_aux_lemma => kernel_rfl) (by as_aux_lemma => kernel_rfl) (fun _ _ _ h => h) (Or.inl ⟨by rfl, ?yq5⟩) (by assumption) ?rq5
          case yq5 => (intro w hSw; (try dsimp only at hSw); go_simp <;> with_reducible rfl)
          simp only [Act.put, List.setIfInBounds_toArray, List.set_cons_zero, List.set_cons_succ]
          refine wpAnyH_take (i := 6) (oi := { dst := some 13, op := Op.extract (Operand.tmp 7) 0, type := 24, pos := "ref.go:53", after := #[{ on := 5, ground := Ground.data }], guard := none }) (v := ?vq6) rfl (by as_aux_lemma => kernel_rfl) (by as_aux_lemma => kernel_rfl) (by as_aux_lemma => kernel_rfl) (fun _ _ _ h => h) (Or.inl ⟨by rfl, ?yq6⟩) (by assumption) ?rq6
          case yq6 => (intro w hSw; (try dsimp only at hSw); go_simp <;> with_reducible rfl)
          simp only [Act.put, List.setIfInBounds_toArray, List.set_cons_zero, List.set_cons_succ]
          refine wpAnyH_take (i := 7) (oi := { dst := some 14, op := Op.extract (Operand.tmp 7) 1, type := 24, pos := "ref.go:53", after := #[{ on := 5, ground := Ground.data }, { on := 10, ground := Ground.gcOnly Departure.lateStores }], guard := none }) (v := ?vq7) rfl (by as_aux_lemma => kernel_rfl) (by as_aux_lemma => kernel_rfl) (by as_aux_lemma => kernel_rfl) (fun _ _ _ h => h) (Or.inl ⟨by rfl, ?yq7⟩) (by assumption) ?rq7
          case yq7 => (intro w hSw; (try dsimp only at hSw); go_simp <;> with_reducible rfl)
          simp only [Act.put, List.setIfInBounds_toArray, List.set_cons_zero, List.set_cons_succ]
          refine wpAnyH_ready (rs := [8, 9]) (by as_aux_lemma => kernel_rfl) (by simp) ?_
          refine AllReadyH.cons (o := { dst := some 5, op := Op.alloc 24, type := 0, pos := "ref.go:53", after := #[], guard := none }) rfl (fun K hK => ?_) ?_
          · rw [if_pos (by rfl)]
            go_simp
            refine hK.out _ _ (by (try dsimp only); (first | assumption | exact (Below.refl _ _).drew | exact (balloc (Below.refl _ _) _).drew | exact (balloc (balloc (Below.refl _ _) _) _).drew | exact rstep (by assumption) (by assumption) | exact balloc (by assumption) _ | exact balloc (balloc (by assumption) _) _)) (fun hHeld => ?_)
            clear hK K
            simp only [List.setIfInBounds_toArray, List.set_cons_zero, List.set_cons_succ]
            refine wpAnyH_ready (rs := [9]) (by as_aux_lemma => kernel_rfl) (by simp) ?_
            refine AllReadyH.cons (o := { dst := some 6, op := Op.alloc 24, type := 0, pos := "ref.go:53", after := #[], guard := none }) rfl (fun K hK => ?_) (by exact AllReadyH.nil)
            rw [if_pos (by rfl)]
            go_simp
            refine hK.out _ _ (by (try dsimp only); (first | assumption | exact (Below.refl _ _).drew | exact (balloc (Below.refl _ _) _).drew | exact (balloc (balloc (Below.refl _ _) _) _).drew | exact rstep (by assumption) (by assumption) | exact balloc (by assumption) _ | exact balloc (balloc (by assumption) _) _)) (fun hHeld => ?_)
            clear hK K
            simp only [List.setIfInBounds_toArray, List.set_cons_zero, List.set_cons_succ]
            have z1 : Blk ((wk4.alloc (.cells #[.int .u64 0, .int .u64 0, .int .u64 0, .int .u64 0] 24)).alloc (.cells #[.int .u64 0, .int .u64 0, .int .u64 0, .int .u64 0] 24)) wk4.heap.size 24 #[.int .u64 0, .int .u64 0, .int .u64 0, .int .u64 0] := (Blk.new _ _ _).alloc _
            have z2 : Blk ((wk4.alloc (.cells #[.int .u64 0, .int .u64 0, .int .u64 0, .int .u64 0] 24)).alloc (.cells #[.int .u64 0, .int .u64 0, .int .u64 0, .int .u64 0] 24)) (wk4.heap.size + 1) 24 #[.int .u64 0, .int .u64 0, .int .u64 0, .int .u64 0] := Blk.newS _ _ _ _
            have z3 : wk4.heap.size ≠ wk4.heap.size + 1 := by omega
            have z4 : W0.heap.size ≤ wk4.heap.size := by (have e1 := hk1.size; have e3 := hk3.size; have e4 := hk4.size; first | (simp only [World.size_drew'] at e1 e3 e4 ⊢; omega) | (simp only [World.size_alloc, World.size_drew'] at e1 e3 e4 ⊢; omega))
            have z5 : W0.heap.size ≤ wk4.heap.size + 1 := by omega
            have z6 := hHeld
            clear hHeld
            generalize ((wk4.alloc _).alloc _) = wz at z1 z2 z6 ⊢
            generalize wk4.heap.size + 1 = Y at z2 z3 z5 ⊢
            generalize wk4.heap.size = X at z1 z3 z4 ⊢
            exact rest X Y wz ⟨z1, z2, z3, z4, z5, z6⟩
          refine AllReadyH.cons (o := { dst := some 6, op := Op.alloc 24, type := 0, pos := "ref.go:53", after := #[], guard := none }) rfl (fun K hK => ?_) (by exact AllReadyH.nil)
          rw [if_pos (by rfl)]
          go_simp
          refine hK.out _ _ (by (try dsimp only); (first | assumption | exact (Below.refl _ _).drew | exact (balloc (Below.refl _ _) _).drew | exact (balloc (balloc (Below.refl _ _) _) _).drew | exact rstep (by assumption) (by assumption) | exact balloc (by assumption) _ | exact balloc (balloc (by assumption) _) _)) (fun hHeld => ?_)
          clear hK K
          simp only [List.setIfInBounds_toArray, List.set_cons_zero, List.set_cons_succ]
          refine wpAnyH_ready (rs := [8]) (by as_aux_lemma => kernel_rfl) (by simp) ?_
          refine AllReadyH.cons (o := { dst := some 5, op := Op.alloc 24, type := 0, pos := "ref.go:53", after := #[], guard := none }) rfl (fun K hK => ?_) (by exact AllReadyH.nil)
          rw [if_pos (by rfl)]
          go_simp
          refine hK.out _ _ (by (try dsimp only); (first | assumption | exact (Below.refl _ _).drew | exact (balloc (Below.refl _ _) _).drew | exact (balloc (balloc (Below.refl _ _) _) _).drew | exact rstep (by assumption) (by assumption) | exact balloc (by assumption) _ | exact balloc (balloc (by assumption) _) _)) (fun hHeld => ?_)
          clear hK K
          simp only [List.setIfInBounds_toArray, List.set_cons_zero, List.set_cons_succ]
          refine rest _ _ _ ⟨?_, ?_, ?_, ?_, ?_, hHeld⟩
          · (repeat (first | exact Blk.new _ _ _ | exact Blk.newS _ _ _ _ | with_reducible refine Blk.drewR ?_ | with_reducible refine Blk.alloc ?_ _ | refine Blk.keep ?_ hk4 | refine Blk.keep ?_ hk3 | refine Blk.keep ?_ hk1))
          · (repeat (first | exact Blk.new _ _ _ | exact Blk.newS _ _ _ _ | with_reducible refine Blk.drewR ?_ | with_reducible refine Blk.alloc ?_ _ | refine Blk.keep ?_ hk4 | refine Blk.keep ?_ hk3 | refine Blk.keep ?_ hk1))
          · (have e1 := hk1.size; have e3 := hk3.size; have e4 := hk4.size; first | (simp only [World.size_drew'] at e1 e3 e4 ⊢; omega) | (simp only [World.size_alloc, World.size_drew'] at e1 e3 e4 ⊢; omega))
          · (have e1 := hk1.size; have e3 := hk3.size; have e4 := hk4.size; first | (simp only [World.size_drew'] at e1 e3 e4 ⊢; omega) | (simp only [World.size_alloc, World.size_drew'] at e1 e3 e4 ⊢; omega))
          · (have e1 := hk1.size; have e3 := hk3.size; have e4 := hk4.size; first | (simp only [World.size_drew'] at e1 e3 e4 ⊢; omega) | (simp only [World.size_alloc, World.size_drew'] at e1 e3 e4 ⊢; omega))
        refine AllReadyH.cons (o := { dst := some 5, op := Op.alloc 24, type := 0, pos := "ref.go:53", after := #[], guard := none }) rfl (fun K hK => ?_) ?_
        · rw [if_pos (by rfl)]
          go_simp
          refine hK.out _ _ (by (try dsimp only); (first | assumption | exact (Below.refl _ _).drew | exact (balloc (Below.refl _ _) _).drew | exact (balloc (balloc (Below.refl _ _) _) _).drew | exact rstep (by assumption) (by assumption) | exact balloc (by assumption) _ | exact balloc (balloc (by assumption) _) _)) (fun hHeld => ?_)
          clear hK K
          simp only [List.setIfInBounds_toArray, List.set_cons_zero, List.set_cons_succ]
          refine wpAnyH_ready (rs := [4, 9]) (by as_aux_lemma => kernel_rfl) (by simp) ?_
          refine AllReadyH.cons (o := { dst := some 12, op := Op.call { callee := Callee.value (Operand.func 8), args := #[Operand.tmp 9, Operand.tmp 11], argTypes := #[24, 24] }, type := 25, pos := "ref.go:53", after := #[{ on := 1, ground := Ground.data }, { on := 3, ground := Ground.data }, { on := 3, ground := Ground.chain }], guard := none }) rfl (fun K hK => ?_) ?_
          · rw [if_pos (by rfl)]
            go_simp
            (go_at_call 8; refine (rdivide_all x y HM.out.1 HM.out.2 _).mono ?_; rintro e wk4 ⟨rfl, hk4⟩)
            refine hK.out _ _ (by (try dsimp only); (first | assumption | exact (Below.refl _ _).drew | exact (balloc (Below.refl _ _) _).drew | exact (balloc (balloc (Below.refl _ _) _) _).drew | exact rstep (by assumption) (by assumption) | exact balloc (by assumption) _ | exact balloc (balloc (by assumption) _) _)) (fun hHeld => ?_)
            clear hK K
            simp only [List.setIfInBounds_toArray, List.set_cons_zero, List.set_cons_succ]
            refine wpAnyH_take (i := 5) (oi := { dst := some 7, op := Op.move (Operand.tmp 12), type := 25, pos := "ref.go:53", after := #[{ on := 4, ground := Ground.data }], guard := none }) (v := ?vq12) rfl (by as_aux_lemma => kernel_rfl) (by as_aux_lemma => kernel_rfl) (by as_aux_lemma => kernel_rfl) (fun _ _ _ h => h) (Or.inl ⟨by rfl, ?yq12⟩) (by assumption) ?rq12
            case yq12 => (intro w hSw; (try dsimp only at hSw); go_simp <;> with_reducible rfl)
            simp only [Act.put, List.setIfInBounds_toArray, List.set_cons_zero, List.set_cons_succ]
            refine wpAnyH_take (i := 6) (oi := { dst := some 13, op := Op.extract (Operand.tmp 7) 0, type := 24, pos := "ref.go:53", after := #[{ on := 5, ground := Ground.data }], guard := none }) (v := ?vq13) rfl (by as_aux_lemma => kernel_rfl) (by as_aux_lemma => kernel_rfl) (by as_aux_lemma => kernel_rfl) (fun _ _ _ h => h) (Or.inl ⟨by rfl, ?yq13⟩) (by assumption) ?rq13
            case yq13 => (intro w hSw; (try dsimp only at hSw); go_simp <;> with_reducible rfl)
            simp only [Act.put, List.setIfInBounds_toArray, List.set_cons_zero, List.set_cons_succ]
            refine wpAnyH_take (i := 7) (oi := { dst := some 14, op := Op.extract (Operand.tmp 7) 1, type := 24, pos := "ref.go:53", after := #[{ on := 5, ground := Ground.data }, { on := 10, ground := Ground.gcOnly Departure.lateStores }], guard := none }) (v := ?vq14) rfl (by as_aux_lemma => kernel_rfl) (by as_aux_lemma => kernel_rfl) (by as_aux_lemma => kernel_rfl) (fun _ _ _ h => h) (Or.inl ⟨by rfl, ?yq14⟩) (by assumption) ?rq14
            case yq14 => (intro w hSw; (try dsimp only at hSw); go_simp <;> with_reducible rfl)
            simp only [Act.put, List.setIfInBounds_toArray, List.set_cons_zero, List.set_cons_succ]
            refine wpAnyH_ready (rs := [9]) (by as_aux_lemma => kernel_rfl) (by simp) ?_
            refine AllReadyH.cons (o := { dst := some 6, op := Op.alloc 24, type := 0, pos := "ref.go:53", after := #[], guard := none }) rfl (fun K hK => ?_) (by exact AllReadyH.nil)
            rw [if_pos (by rfl)]
            go_simp
            refine hK.out _ _ (by (try dsimp only); (first | assumption | exact (Below.refl _ _).drew | exact (balloc (Below.refl _ _) _).drew | exact (balloc (balloc (Below.refl _ _) _) _).drew | exact rstep (by assumption) (by assumption) | exact balloc (by assumption) _ | exact balloc (balloc (by assumption) _) _)) (fun hHeld => ?_)
            clear hK K
            simp only [List.setIfInBounds_toArray, List.set_cons_zero, List.set_cons_succ]
            refine rest _ _ _ ⟨?_, ?_, ?_, ?_, ?_, hHeld⟩
            · (repeat (first | exact Blk.new _ _ _ | exact Blk.newS _ _ _ _ | with_reducible refine Blk.drewR ?_ | with_reducible refine Blk.alloc ?_ _ | refine Blk.keep ?_ hk4 | refine Blk.keep ?_ hk3 | refine Blk.keep ?_ hk1))
            · (repeat (first | exact Blk.new _ _ _ | exact Blk.newS _ _ _ _ | with_reducible refine Blk.drewR ?_ | with_reducible refine Blk.alloc ?_ _ | refine Blk.keep ?_ hk4 | refine Blk.keep ?_ hk3 | refine Blk.keep ?_ hk1))
            · (have e1 := hk1.size; have e3 := hk3.size; have e4 := hk4.size; first | (simp only [World.size_drew'] at e1 e3 e4 ⊢; omega) | (simp only [World.size_alloc, World.size_drew'] at e1 e3 e4 ⊢; omega))
            · (have e1 := hk1.size; have e3 := hk3.size; have e4 := hk4.size; first | (simp only [World.size_drew'] at e1 e3 e4 ⊢; omega) | (simp only [World.size_alloc, World.size_drew'] at e1 e3 e4 ⊢; omega))
            · (have e1 := hk1.size; have e3 := hk3.size; have e4 := hk4.size; first | (simp only [World.size_drew'] at e1 e3 e4 ⊢; omega) | (simp only [World.size_alloc, World.size_drew'] at e1 e3 e4 ⊢; omega))
          refine AllReadyH.cons (o := { dst := some 6, op := Op.alloc 24, type := 0, pos := "ref.go:53", after := #[], guard := none }) rfl (fun K hK => ?_) (by exact AllReadyH.nil)
          rw [if_pos (by rfl)]
          go_simp
          refine hK.out _ _ (by (try dsimp only); (first | assumption | exact (Below.refl _ _).drew | exact (balloc (Below.refl _ _) _).drew | exact (balloc (balloc (Below.refl _ _) _) _).drew | exact rstep (by assumption) (by assumption) | exact balloc (by assumption) _ | exact balloc (balloc (by assumption) _) _)) (fun hHeld => ?_)
          clear hK K
          simp only [List.setIfInBounds_toArray, List.set_cons_zero, List.set_cons_succ]
          refine wpAnyH_ready (rs := [4]) (by as_aux_lemma => kernel_rfl) (by simp) ?_
          refine AllReadyH.cons (o := { dst := some 12, op := Op.call { callee := Callee.value (Operand.func 8), args := #[Operand.tmp 9, Operand.tmp 11], argTypes := #[24, 24] }, type := 25, pos := "ref.go:53", after := #[{ on := 1, ground := Ground.data }, { on := 3, ground := Ground.data }, { on := 3, ground := Ground.chain }], guard := none }) rfl (fun K hK => ?_) (by exact AllReadyH.nil)
          rw [if_pos (by rfl)]
          go_simp
          (go_at_call 8; refine (rdivide_all x y HM.out.1 HM.out.2 _).mono ?_; rintro e wk4 ⟨rfl, hk4⟩)
          refine hK.out _ _ (by (try dsimp only); (first | assumption | exact (Below.refl _ _).drew | exact (balloc (Below.refl _ _) _).drew | exact (balloc (balloc (Below.refl _ _) _) _).drew | exact rstep (by assumption) (by assumption) | exact balloc (by assumption) _ | exact balloc (balloc (by assumption) _) _)) (fun hHeld => ?_)
          clear hK K
          simp only [List.setIfInBounds_toArray, List.set_cons_zero, List.set_cons_succ]
          refine wpAnyH_take (i := 5) (oi := { dst := some 7, op := Op.move (Operand.tmp 12), type := 25, pos := "ref.go:53", after := #[{ on := 4, ground := Ground.data }], guard := none }) (v := ?vq17) rfl (by as_aux_lemma => kernel_rfl) (by as_aux_lemma => kernel_rfl) (by as_aux_lemma => kernel_rfl) (fun _ _ _ h => h) (Or.inl ⟨by rfl, ?yq17⟩) (by assumption) ?rq17
          case yq17 => (intro w hSw; (try dsimp only at hSw); go_simp <;> with_reducible rfl)
          simp only [Act.put, List.setIfInBounds_toArray, List.set_cons_zero, List.set_cons_succ]
          refine wpAnyH_take (i := 6) (oi := { dst := some 13, op := Op.extract (Operand.tmp 7) 0, type := 24, pos := "ref.go:53", after := #[{ on := 5, ground := Ground.data }], guard := none }) (v := ?vq18) rfl (by as_aux_lemma => kernel_rfl) (by as_aux_lemma => kernel_rfl) (by as_aux_lemma => kernel_rfl) (fun _ _ _ h => h) (Or.inl ⟨by rfl, ?yq18⟩) (by assumption) ?rq18
          case yq18 => (intro w hSw; (try dsimp only at hSw); go_simp <;> with_reducible rfl)
          simp only [Act.put, List.setIfInBounds_toArray, List.set_cons_zero, List.set_cons_succ]
          refine wpAnyH_take (i := 7) (oi := { dst := some 14, op := Op.extract (Operand.tmp 7) 1, type := 24, pos := "ref.go:53", after := #[{ on := 5, ground := Ground.data }, { on := 10, ground := Ground.gcOnly Departure.lateStores }], guard := none }) (v := ?vq19) rfl (by as_aux_lemma => kernel_rfl) (by as_aux_lemma => kernel_rfl) (by as_aux_lemma => kernel_rfl) (fun _ _ _ h => h) (Or.inl ⟨by rfl, ?yq19⟩) (by assumption) ?rq19
          case yq19 => (intro w hSw; (try dsimp only at hSw); go_simp <;> with_reducible rfl)
          simp only [Act.put, List.setIfInBounds_toArray, List.set_cons_zero, List.set_cons_succ]
          refine rest _ _ _ ⟨?_, ?_, ?_, ?_, ?_, hHeld⟩
          · (repeat (first | exact Blk.new _ _ _ | exact Blk.newS _ _ _ _ | with_reducible refine Blk.drewR ?_ | with_reducible refine Blk.alloc ?_ _ | refine Blk.keep ?_ hk4 | refine Blk.keep ?_ hk3 | refine Blk.keep ?_ hk1))
          · (repeat (first | exact Blk.new _ _ _ | exact Blk.newS _ _ _ _ | with_reducible refine Blk.drewR ?_ | with_reducible refine Blk.alloc ?_ _ | refine Blk.keep ?_ hk4 | refine Blk.keep ?_ hk3 | refine Blk.keep ?_ hk1))
          · (have e1 := hk1.size; have e3 := hk3.size; have e4 := hk4.size; first | (simp only [World.size_drew'] at e1 e3 e4 ⊢; omega) | (simp only [World.size_alloc, World.size_drew'] at e1 e3 e4 ⊢; omega))
          · (have e1 := hk1.size; have e3 := hk3.size; have e4 := hk4.size; first | (simp only [World.size_drew'] at e1 e3 e4 ⊢; omega) | (simp only [World.size_alloc, World.size_drew'] at e1 e3 e4 ⊢; omega))
          · (have e1 := hk1.size; have e3 := hk3.size; have e4 := hk4.size; first | (simp only [World.size_drew'] at e1 e3 e4 ⊢; omega) | (simp only [World.size_alloc, World.size_drew'] at e1 e3 e4 ⊢; omega))
        refine AllReadyH.cons (o := { dst := some 6, op := Op.alloc 24, type := 0, pos := "ref.go:53", after := #[], guard := none }) rfl (fun K hK => ?_) (by exact AllReadyH.nil)
        rw [if_pos (by rfl)]
        go_simp
        refine hK.out _ _ (by (try dsimp only); (first | assumption | exact (Below.refl _ _).drew | exact (balloc (Below.refl _ _) _).drew | exact (balloc (balloc (Below.refl _ _) _) _).drew | exact rstep (by assumption) (by assumption) | exact balloc (by assumption) _ | exact balloc (balloc (by assumption) _) _)) (fun hHeld => ?_)
        clear hK K
        simp only [List.setIfInBounds_toArray, List.set_cons_zero, List.set_cons_succ]
        refine wpAnyH_ready (rs := [4, 8]) (by as_aux_lemma => kernel_rfl) (by simp) ?_
        refine AllReadyH.cons (o := { dst := some 12, op := Op.call { callee := Callee.value (Operand.func 8), args := #[Operand.tmp 9, Operand.tmp 11], argTypes := #[24, 24] }, type := 25, pos := "ref.go:53", after := #[{ on := 1, ground := Ground.data }, { on := 3, ground := Ground.data }, { on := 3, ground := Ground.chain }], guard := none }) rfl (fun K hK => ?_) ?_
        · rw [if_pos (by rfl)]
          go_simp
          (go_at_call 8; refine (rdivide_all x y HM.out.1 HM.out.2 _).mono ?_; rintro e wk4 ⟨rfl, hk4⟩)
          refine hK.out _ _ (by (try dsimp only); (first | assumption | exact (Below.refl _ _).drew | exact (balloc (Below.refl _ _) _).drew | exact (balloc (balloc (Below.refl _ _) _) _).drew | exact rstep (by assumption) (by assumption) | exact balloc (by assumption) _ | exact balloc (balloc (by assumption) _) _)) (fun hHeld => ?_)
          clear hK K
          simp only [List.setIfInBounds_toArray, List.set_cons_zero, List.set_cons_succ]
          refine wpAnyH_take (i := 5) (oi := { dst := some 7, op := Op.move (Operand.tmp 12), type := 25, pos := "ref.go:53", after := #[{ on := 4, ground := Ground.data }], guard := none }) (v := ?vq21) rfl (by as_aux_lemma => kernel_rfl) (by as_aux_lemma => kernel_rfl) (by as_aux_lemma => kernel_rfl) (fun _ _ _ h => h) (Or.inl ⟨by rfl, ?yq21⟩) (by assumption) ?rq21
          case yq21 => (intro w hSw; (try dsimp only at hSw); go_simp <;> with_reducible rfl)
          simp only [Act.put, List.setIfInBounds_toArray, List.set_cons_zero, List.set_cons_succ]
          refine wpAnyH_take (i := 6) (oi := { dst := some 13, op := Op.extract (Operand.tmp 7) 0, type := 24, pos := "ref.go:53", after := #[{ on := 5, ground := Ground.data }], guard := none }) (v := ?vq22) rfl (by as_aux_lemma => kernel_rfl) (by as_aux_lemma => kernel_rfl) (by as_aux_lemma => kernel_rfl) (fun _ _ _ h => h) (Or.inl ⟨by rfl, ?yq22⟩) (by assumption) ?rq22
          case yq22 => (intro w hSw; (try dsimp only at hSw); go_simp <;> with_reducible rfl)
          simp only [Act.put, List.setIfInBounds_toArray, List.set_cons_zero, List.set_cons_succ]
          refine wpAnyH_take (i := 7) (oi := { dst := some 14, op := Op.extract (Operand.tmp 7) 1, type := 24, pos := "ref.go:53", after := #[{ on := 5, ground := Ground.data }, { on := 10, ground := Ground.gcOnly Departure.lateStores }], guard := none }) (v := ?vq23) rfl (by as_aux_lemma => kernel_rfl) (by as_aux_lemma => kernel_rfl) (by as_aux_lemma => kernel_rfl) (fun _ _ _ h => h) (Or.inl ⟨by rfl, ?yq23⟩) (by assumption) ?rq23
          case yq23 => (intro w hSw; (try dsimp only at hSw); go_simp <;> with_reducible rfl)
          simp only [Act.put, List.setIfInBounds_toArray, List.set_cons_zero, List.set_cons_succ]
          refine wpAnyH_ready (rs := [8]) (by as_aux_lemma => kernel_rfl) (by simp) ?_
          refine AllReadyH.cons (o := { dst := some 5, op := Op.alloc 24, type := 0, pos := "ref.go:53", after := #[], guard := none }) rfl (fun K hK => ?_) (by exact AllReadyH.nil)
          rw [if_pos (by rfl)]
          go_simp
          refine hK.out _ _ (by (try dsimp only); (first | assumption | exact (Below.refl _ _).drew | exact (balloc (Below.refl _ _) _).drew | exact (balloc (balloc (Below.refl _ _) _) _).drew | exact rstep (by assumption) (by assumption) | exact balloc (by assumption) _ | exact balloc (balloc (by assumption) _) _)) (fun hHeld => ?_)
          clear hK K
          simp only [List.setIfInBounds_toArray, List.set_cons_zero, List.set_cons_succ]
          refine rest _ _ _ ⟨?_, ?_, ?_, ?_, ?_, hHeld⟩
          · (repeat (first | exact Blk.new _ _ _ | exact Blk.newS _ _ _ _ | with_reducible refine Blk.drewR ?_ | with_reducible refine Blk.alloc ?_ _ | refine Blk.keep ?_ hk4 | refine Blk.keep ?_ hk3 | refine Blk.keep ?_ hk1))
          · (repeat (first | exact Blk.new _ _ _ | exact Blk.newS _ _ _ _ | with_reducible refine Blk.drewR ?_ | with_reducible refine Blk.alloc ?_ _ | refine Blk.keep ?_ hk4 | refine Blk.keep ?_ hk3 | refine Blk.keep ?_ hk1))
          · (have e1 := hk1.size; have e3 := hk3.size; have e4 := hk4.size; first | (simp only [World.size_drew'] at e1 e3 e4 ⊢; omega) | (simp only [World.size_alloc, World.size_drew'] at e1 e3 e4 ⊢; omega))
          · (have e1 := hk1.size; have e3 := hk3.size; have e4 := hk4.size; first | (simp only [World.size_drew'] at e1 e3 e4 ⊢; omega) | (simp only [World.size_alloc, World.size_drew'] at e1 e3 e4 ⊢; omega))
          · (have e1 := hk1.size; have e3 := hk3.size; have e4 := hk4.size; first | (simp only [World.size_drew'] at e1 e3 e4 ⊢; omega) | (simp only [World.size_alloc, World.size_drew'] at e1 e3 e4 ⊢; omega))
        refine AllReadyH.cons (o := { dst := some 5, op := Op.alloc 24, type := 0, pos := "ref.go:53", after := #[], guard := none }) rfl (fun K hK => ?_) (by exact AllReadyH.nil)
        rw [if_pos (by rfl)]
        go_simp
        refine hK.out _ _ (by (try dsimp only); (first | assumption | exact (Below.refl _ _).drew | exact (balloc (Below.refl _ _) _).drew | exact (balloc (balloc (Below.refl _ _) _) _).drew | exact rstep (by assumption) (by assumption) | exact balloc (by assumption) _ | exact balloc (balloc (by assumption) _) _)) (fun hHeld => ?_)
        clear hK K
        simp only [List.setIfInBounds_toArray, List.set_cons_zero, List.set_cons_succ]
        refine wpAnyH_ready (rs := [4]) (by as_aux_lemma => kernel_rfl) (by simp) ?_
        refine AllReadyH.cons (o := { dst := some 12, op := Op.call { callee := Callee.value (Operand.func 8), args := #[Operand.tmp 9, Operand.tmp 11], argTypes := #[24, 24] }, type := 25, pos := "ref.go:53", after := #[{ on := 1, ground := Ground.data }, { on := 3, ground := Ground.data }, { on := 3, ground := Ground.chain }], guard := none }) rfl (fun K hK => ?_) (by exact AllReadyH.nil)
        rw [if_pos (by rfl)]
        go_simp
        (go_at_call 8; refine (rdivide_all x y HM.out.1 HM.out.2 _).mono ?_; rintro e wk4 ⟨rfl, hk4⟩)
        refine hK.out _ _ (by (try dsimp only); (first | assumption | exact (Below.refl _ _).drew | exact (balloc (Below.refl _ _) _).drew | exact (balloc (balloc (Below.refl _ _) _) _).drew | exact rstep (by assumption) (by assumption) | exact balloc (by assumption) _ | exact balloc (balloc (by assumption) _) _)) (fun hHeld => ?_)
        clear hK K
        simp only [List.setIfInBounds_toArray, List.set_cons_zero, List.set_cons_succ]
        refine wpAnyH_take (i := 5) (oi := { dst := some 7, op := Op.move (Operand.tmp 12), type := 25, pos := "ref.go:53", after := #[{ on := 4, ground := Ground.data }], guard := none }) (v := ?vq26) rfl (by as_aux_lemma => kernel_rfl) (by as_aux_lemma => kernel_rfl) (by as_aux_lemma => kernel_rfl) (fun _ _ _ h => h) (Or.inl ⟨by rfl, ?yq26⟩) (by assumption) ?rq26
        case yq26 => (intro w hSw; (try dsimp only at hSw); go_simp <;> with_reducible rfl)
        simp only [Act.put, List.setIfInBounds_toArray, List.set_cons_zero, List.set_cons_succ]
        refine wpAnyH_take (i := 6) (oi := { dst := some 13, op := Op.extract (Operand.tmp 7) 0, type := 24, pos := "ref.go:53", after := #[{ on := 5, ground := Ground.data }], guard := none }) (v := ?vq27) rfl (by as_aux_lemma => kernel_rfl) (by as_aux_lemma => kernel_rfl) (by as_aux_lemma => kernel_rfl) (fun _ _ _ h => h) (Or.inl ⟨by rfl, ?yq27⟩) (by assumption) ?rq27
        case yq27 => (intro w hSw; (try dsimp only at hSw); go_simp <;> with_reducible rfl)
        simp only [Act.put, List.setIfInBounds_toArray, List.set_cons_zero, List.set_cons_succ]
        refine wpAnyH_take (i := 7) (oi := { dst := some 14, op := Op.extract (Operand.tmp 7) 1, type := 24, pos := "ref.go:53", after := #[{ on := 5, ground := Ground.data }, { on := 10, ground := Ground.gcOnly Departure.lateStores }], guard := none }) (v := ?vq28) rfl (by as_aux_lemma => kernel_rfl) (by as_aux_lemma => kernel_rfl) (by as_aux_lemma => kernel_rfl) (fun _ _ _ h => h) (Or.inl ⟨by rfl, ?yq28⟩) (by assumption) ?rq28
        case yq28 => (intro w hSw; (try dsimp only at hSw); go_simp <;> with_reducible rfl)
        simp only [Act.put, List.setIfInBounds_toArray, List.set_cons_zero, List.set_cons_succ]
        refine rest _ _ _ ⟨?_, ?_, ?_, ?_, ?_, hHeld⟩
        · (repeat (first | exact Blk.new _ _ _ | exact Blk.newS _ _ _ _ | with_reducible refine Blk.drewR ?_ | with_reducible refine Blk.alloc ?_ _ | refine Blk.keep ?_ hk4 | refine Blk.keep ?_ hk3 | refine Blk.keep ?_ hk1))
        · (repeat (first | exact Blk.new _ _ _ | exact Blk.newS _ _ _ _ | with_reducible refine Blk.drewR ?_ | with_reducible refine Blk.alloc ?_ _ | refine Blk.keep ?_ hk4 | refine Blk.keep ?_ hk3 | refine Blk.keep ?_ hk1))
        · (have e1 := hk1.size; have e3 := hk3.size; have e4 := hk4.size; first | (simp only [World.size_drew'] at e1 e3 e4 ⊢; omega) | (simp only [World.size_alloc, World.size_drew'] at e1 e3 e4 ⊢; omega))
        · (have e1 := hk1.size; have e3 := hk3.size; have e4 := hk4.size; first | (simp only [World.size_drew'] at e1 e3 e4 ⊢; omega) | (simp only [World.size_alloc, World.size_drew'] at e1 e3 e4 ⊢; omega))
        · (have e1 := hk1.size; have e3 := hk3.size; have e4 := hk4.size; first | (simp only [World.size_drew'] at e1 e3 e4 ⊢; omega) | (simp only [World.size_alloc, World.size_drew'] at e1 e3 e4 ⊢; omega))
      refine AllReadyH.cons (o := { dst := some 5, op := Op.alloc 24, type := 0, pos := "ref.go:53", after := #[], guard := none }) rfl (fun K hK => ?_) ?_
      · rw [if_pos (by rfl)]
        go_simp
        refine hK.out _ _ (by (try dsimp only); (first | assumption | exact (Below.refl _ _).drew | exact (balloc (Below.refl _ _) _).drew | exact (balloc (balloc (Below.refl _ _) _) _).drew | exact rstep (by assumption) (by assumption) | exact balloc (by assumption) _ | exact balloc (balloc (by assumption) _) _)) (fun hHeld => ?_)
        clear hK K
        simp only [List.setIfInBounds_toArray, List.set_cons_zero, List.set_cons_succ]
        refine wpAnyH_ready (rs := [3, 9]) (by as_aux_lemma => kernel_rfl) (by simp) ?_
        refine AllReadyH.cons (o := { dst := some 11, op := Op.call { callee := Callee.value (Operand.func 39), args := #[Operand.tmp 10], argTypes := #[24] }, type := 24, pos := "ref.go:53", after := #[{ on := 2, ground := Ground.data }, { on := 1, ground := Ground.chain }], guard := none }) rfl (fun K hK => ?_) ?_
        · rw [if_pos (by rfl)]
          go_simp
          (go_at_call 39; refine (HPB.out _).mono ?_; rintro e wk3 ⟨rfl, hk3⟩)
          refine hK.out _ _ (by (try dsimp only); (first | assumption | exact (Below.refl _ _).drew | exact (balloc (Below.refl _ _) _).drew | exact (balloc (balloc (Below.refl _ _) _) _).drew | exact rstep (by assumption) (by assumption) | exact balloc (by assumption) _ | exact balloc (balloc (by assumption) _) _)) (fun hHeld => ?_)
          clear hK K
          simp only [List.setIfInBounds_toArray, List.set_cons_zero, List.set_cons_succ]
          refine wpAnyH_ready (rs := [4, 9]) (by as_aux_lemma => kernel_rfl) (by simp) ?_
          refine AllReadyH.cons (o := { dst := some 12, op := Op.call { callee := Callee.value (Operand.func 8), args := #[Operand.tmp 9, Operand.tmp 11], argTypes := #[24, 24] }, type := 25, pos := "ref.go:53", after := #[{ on := 1, ground := Ground.data }, { on := 3, ground := Ground.data }, { on := 3, ground := Ground.chain }], guard := none }) rfl (fun K hK => ?_) ?_
          · rw [if_pos (by rfl)]
            go_simp
            (go_at_call 8; refine (rdivide_all x y HM.out.1 HM.out.2 _).mono ?_; rintro e wk4 ⟨rfl, hk4⟩)
            refine hK.out _ _ (by (try dsimp only); (first | assumption | exact (Below.refl _ _).drew | exact (balloc (Below.refl _ _) _).drew | exact (balloc (balloc (Below.refl _ _) _) _).drew | exact rstep (by assumption) (by assumption) | exact balloc (by assumption) _ | exact balloc (balloc (by assumption) _) _)) (fun hHeld => ?_)
            clear hK K
            simp only [List.setIfInBounds_toArray, List.set_cons_zero, List.set_cons_succ]
            refine wpAnyH_take (i := 5) (oi := { dst := some 7, op := Op.move (Operand.tmp 12), type := 25, pos := "ref.go:53", after := #[{ on := 4, ground := Ground.data }], guard := none }) (v := ?vq31) rfl (by as_aux_lemma => kernel_rfl) (by as_aux_lemma => kernel_rfl) (by as_aux_lemma => kernel_rfl) (fun _ _ _ h => h) (Or.inl ⟨by rfl, ?yq31⟩) (by assumption) ?rq31
            case yq31 => (intro w hSw; (try dsimp only at hSw); go_simp <;> with_reducible rfl)
            simp only [Act.put, List.setIfInBounds_toArray, List.set_cons_zero, List.set_cons_succ]
            refine wpAnyH_take (i := 6) (oi := { dst := some 13, op := Op.extract (Operand.tmp 7) 0, type := 24, pos := "ref.go:53", after := #[{ on := 5, ground := Ground.data }], guard := none }) (v := ?vq32) rfl (by as_aux_lemma => kernel_rfl) (by as_aux_lemma => kernel_rfl) (by as_aux_lemma => kernel_rfl) (fun _ _ _ h => h) (Or.inl ⟨by rfl, ?yq32⟩) (by assumption) ?rq32
            case yq32 => (intro w hSw; (try dsimp only at hSw); go_simp <;> with_reducible rfl)
            simp only [Act.put, List.setIfInBounds_toArray, List.set_cons_zero, List.set_cons_succ]
            refine wpAnyH_take (i := 7) (oi := { dst := some 14, op := Op.extract (Operand.tmp 7) 1, type := 24, pos := "ref.go:53", after := #[{ on := 5, ground := Ground.data }, { on := 10, ground := Ground.gcOnly Departure.lateStores }], guard := none }) (v := ?vq33) rfl (by as_aux_lemma => kernel_rfl) (by as_aux_lemma => kernel_rfl) (by as_aux_lemma => kernel_rfl) (fun _ _ _ h => h) (Or.inl ⟨by rfl, ?yq33⟩) (by assumption) ?rq33
            case yq33 => (intro w hSw; (try dsimp only at hSw); go_simp <;> with_reducible rfl)
            simp only [Act.put, List.setIfInBounds_toArray, List.set_cons_zero, List.set_cons_succ]
            refine wpAnyH_ready (rs := [9]) (by as_aux_lemma => kernel_rfl) (by simp) ?_
            refine AllReadyH.cons (o := { dst := some 6, op := Op.alloc 24, type := 0, pos := "ref.go:53", after := #[], guard := none }) rfl (fun K hK => ?_) (by exact AllReadyH.nil)
            rw [if_pos (by rfl)]
            go_simp
            refine hK.out _ _ (by (try dsimp only); (first | assumption | exact (Below.refl _ _).drew | exact (balloc (Below.refl _ _) _).drew | exact (balloc (balloc (Below.refl _ _) _) _).drew | exact rstep (by assumption) (by assumption) | exact balloc (by assumption) _ | exact balloc (balloc (by assumption) _) _)) (fun hHeld => ?_)
            clear hK K
            simp only [List.setIfInBounds_toArray, List.set_cons_zero, List.set_cons_succ]
            refine rest _ _ _ ⟨?_, ?_, ?_, ?_, ?_, hHeld⟩
            · (repeat (first | exact Blk.new _ _ _ | exact Blk.newS _ _ _ _ | with_reducible refine Blk.drewR ?_ | with_reducible refine Blk.alloc ?_ _ | refine Blk.keep ?_ hk4 | refine Blk.keep ?_ hk3 | refine Blk.keep ?_ hk1))
            · (repeat (first | exact Blk.new _ _ _ | exact Blk.newS _ _ _ _ | with_reducible refine Blk.drewR ?_ | with_reducible refine Blk.alloc ?_ _ | refine Blk.keep ?_ hk4 | refine Blk.keep ?_ hk3 | refine Blk.keep ?_ hk1))
            · (have e1 := hk1.size; have e3 := hk3.size; have e4 := hk4.size; first | (simp only [World.size_drew'] at e1 e3 e4 ⊢; omega) | (simp only [World.size_alloc, World.size_drew'] at e1 e3 e4 ⊢; omega))
            · (have e1 := hk1.size; have e3 := hk3.size; have e4 := hk4.size; first | (simp only [World.size_drew'] at e1 e3 e4 ⊢; omega) | (simp only [World.size_alloc, World.size_drew'] at e1 e3 e4 ⊢; omega))
            · (have e1 := hk1.size; have e3 := hk3.size; have e4 := hk4.size; first | (simp only [World.size_drew'] at e1 e3 e4 ⊢; omega) | (simp only [World.size_alloc, World.size_drew'] at e1 e3 e4 ⊢; omega))
          refine AllReadyH.cons (o := { dst := some 6, op := Op.alloc 24, type := 0, pos := "ref.go:53", after := #[], guard := none }) rfl (fun K hK => ?_) (by exact AllReadyH.nil)
          rw [if_pos (by rfl)]
          go_simp
          refine hK.out _ _ (by (try dsimp only); (first | assumption | exact (Below.refl _ _).drew | exact (balloc (Below.refl _ _) _).drew | exact (balloc (balloc (Below.refl _ _) _) _).drew | exact rstep (by assumption) (by assumption) | exact balloc (by assumption) _ | exact balloc (balloc (by assumption) _) _)) (fun hHeld => ?_)
          clear hK K
          simp only [List.setIfInBounds_toArray, List.set_cons_zero, List.set_cons_succ]
          refine wpAnyH_ready (rs := [4]) (by as_aux_lemma => kernel_rfl) (by simp) ?_
          refine AllReadyH.cons (o := { dst := some 12, op := Op.call { callee := Callee.value (Operand.func 8), args := #[Operand.tmp 9, Operand.tmp 11], argTypes := #[24, 24] }, type := 25, pos := "ref.go:53", after := #[{ on := 1, ground := Ground.data }, { on := 3, ground := Ground.data }, { on := 3, ground := Ground.chain }], guard := none }) rfl (fun K hK => ?_) (by exact AllReadyH.nil)
          rw [if_pos (by rfl)]
          go_simp
          (go_at_call 8; refine (rdivide_all x y HM.out.1 HM.out.2 _).mono ?_; rintro e wk4 ⟨rfl, hk4⟩)
          refine hK.out _ _ (by (try dsimp only); (first | assumption | exact (Below.refl _ _).drew | exact (balloc (Below.refl _ _) _).drew | exact (balloc (balloc (Below.refl _ _) _) _).drew | exact rstep (by assumption) (by assumption) | exact balloc (by assumption) _ | exact balloc (balloc (by assumption) _) _)) (fun hHeld => ?_)
          clear hK K
          simp only [List.setIfInBounds_toArray, List.set_cons_zero, List.set_cons_succ]
          refine wpAnyH_take (i := 5) (oi := { dst := some 7, op := Op.move (Operand.tmp 12), type := 25, pos := "ref.go:53", after := #[{ on := 4, ground := Ground.data }], guard := none }) (v := ?vq36) rfl (by as_aux_lemma => kernel_rfl) (by as_aux_lemma => kernel_rfl) (by as_aux_lemma => kernel_rfl) (fun _ _ _ h => h) (Or.inl ⟨by rfl, ?yq36⟩) (by assumption) ?rq36
          case yq36 => (intro w hSw; (try dsimp only at hSw); go_simp <;> with_reducible rfl)
          simp only [Act.put, List.setIfInBounds_toArray, List.set_cons_zero, List.set_cons_succ]
          refine wpAnyH_take (i := 6) (oi := { dst := some 13, op := Op.extract (Operand.tmp 7) 0, type := 24, pos := "ref.go:53", after := #[{ on := 5, ground := Ground.data }], guard := none }) (v := ?vq37) rfl (by as_aux_lemma => kernel_rfl) (by as_aux_lemma => kernel_rfl) (by as_aux_lemma => kernel_rfl) (fun _ _ _ h => h) (Or.inl ⟨by rfl, ?yq37⟩) (by assumption) ?rq37
          case yq37 => (intro w hSw; (try dsimp only at hSw); go_simp <;> with_reducible rfl)
          simp only [Act.put, List.setIfInBounds_toArray, List.set_cons_zero, List.set_cons_succ]
          refine wpAnyH_take (i := 7) (oi := { dst := some 14, op := Op.extract (Operand.tmp 7) 1, type := 24, pos := "ref.go:53", after := #[{ on := 5, ground := Ground.data }, { on := 10, ground := Ground.gcOnly Departure.lateStores }], guard := none }) (v := ?vq38) rfl (by as_aux_lemma => kernel_rfl) (by as_aux_lemma => kernel_rfl) (by as_aux_lemma => kernel_rfl) (fun _ _ _ h => h) (Or.inl ⟨by rfl, ?yq38⟩) (by assumption) ?rq38
          case yq38 => (intro w hSw; (try dsimp only at hSw); go_simp <;> with_reducible rfl)
          simp only [Act.put, List.setIfInBounds_toArray, List.set_cons_zero, List.set_cons_succ]
          refine rest _ _ _ ⟨?_, ?_, ?_, ?_, ?_, hHeld⟩
          · (repeat (first | exact Blk.new _ _ _ | exact Blk.newS _ _ _ _ | with_reducible refine Blk.drewR ?_ | with_reducible refine Blk.alloc ?_ _ | refine Blk.keep ?_ hk4 | refine Blk.keep ?_ hk3 | refine Blk.keep ?_ hk1))
          · (repeat (first | exact Blk.new _ _ _ | exact Blk.newS _ _ _ _ | with_reducible refine Blk.drewR ?_ | with_reducible refine Blk.alloc ?_ _ | refine Blk.keep ?_ hk4 | refine Blk.keep ?_ hk3 | refine Blk.keep ?_ hk1))
          · (have e1 := hk1.size; have e3 := hk3.size; have e4 := hk4.size; first | (simp only [World.size_drew'] at e1 e3 e4 ⊢; omega) | (simp only [World.size_alloc, World.size_drew'] at e1 e3 e4 ⊢; omega))
          · (have e1 := hk1.size; have e3 := hk3.size; have e4 := hk4.size; first | (simp only [World.size_drew'] at e1 e3 e4 ⊢; omega) | (simp only [World.size_alloc, World.size_drew'] at e1 e3 e4 ⊢; omega))
          · (have e1 := hk1.size; have e3 := hk3.size; have e4 := hk4.size; first | (simp only [World.size_drew'] at e1 e3 e4 ⊢; omega) | (simp only [World.size_alloc, World.size_drew'] at e1 e3 e4 ⊢; omega))
        refine AllReadyH.cons (o := { dst := some 6, op := Op.alloc 24, type := 0, pos := "ref.go:53", after := #[], guard := none }) rfl (fun K hK => ?_) (by exact AllReadyH.nil)
        rw [if_pos (by rfl)]
        go_simp
        refine hK.out _ _ (by (try dsimp only); (first | assumption | exact (Below.refl _ _).drew | exact (balloc (Below.refl _ _) _).drew | exact (balloc (balloc (Below.refl _ _) _) _).drew | exact rstep (by assumption) (by assumption) | exact balloc (by assumption) _ | exact balloc (balloc (by assumption) _) _)) (fun hHeld => ?_)
        clear hK K
        simp only [List.setIfInBounds_toArray, List.set_cons_zero, List.set_cons_succ]
        refine wpAnyH_ready (rs := [3]) (by as_aux_lemma => kernel_rfl) (by simp) ?_
        refine AllReadyH.cons (o := { dst := some 11, op := Op.call { callee := Callee.value (Operand.func 39), args := #[Operand.tmp 10], argTypes := #[24] }, type := 24, pos := "ref.go:53", after := #[{ on := 2, ground := Ground.data }, { on := 1, ground := Ground.chain }], guard := none }) rfl (fun K hK => ?_) (by exact AllReadyH.nil)
        rw [if_pos (by rfl)]
        go_simp
        (go_at_call 39; refine (HPB.out _).mono ?_; rintro e wk3 ⟨rfl, hk3⟩)
        refine hK.out _ _ (by (try dsimp only); (first | assumption | exact (Below.refl _ _).drew | exact (balloc (Below.refl _ _) _).drew | exact (balloc (balloc (Below.refl _ _) _) _).drew | exact rstep (by assumption) (by assumption) | exact balloc (by assumption) _ | exact balloc (balloc (by assumption) _) _)) (fun hHeld => ?_)
        clear hK K
        simp only [List.setIfInBounds_toArray, List.set_cons_zero, List.set_cons_succ]
        refine wpAnyH_ready (rs := [4]) (by as_aux_lemma => kernel_rfl) (by simp) ?_
        refine AllReadyH.cons (o := { dst := some 12, op := Op.call { callee := Callee.value (Operand.func 8), args := #[Operand.tmp 9, Operand.tmp 11], argTypes := #[24, 24] }, type := 25, pos := "ref.go:53", after := #[{ on := 1, ground := Ground.data }, { on := 3, ground := Ground.data }, { on := 3, ground := Ground.chain }], guard := none }) rfl (fun K hK => ?_) (by exact AllReadyH.nil)
        rw [if_pos (by rfl)]
        go_simp
        (go_at_call 8; refine (rdivide_all x y HM.out.1 HM.out.2 _).mono ?_; rintro e wk4 ⟨rfl, hk4⟩)
        refine hK.out _ _ (by (try dsimp only); (first | assumption | exact (Below.refl _ _).drew | exact (balloc (Below.refl _ _) _).drew | exact (balloc (balloc (Below.refl _ _) _) _).drew | exact rstep (by assumption) (by assumption) | exact balloc (by assumption) _ | exact balloc (balloc (by assumption) _) _)) (fun hHeld => ?_)
        clear hK K
        simp only [List.setIfInBounds_toArray, List.set_cons_zero, List.set_cons_succ]
        refine wpAnyH_take (i := 5) (oi := { dst := some 7, op := Op.move (Operand.tmp 12), type := 25, pos := "ref.go:53", after := #[{ on := 4, ground := Ground.data }], guard := none }) (v := ?vq41) rfl (by as_aux_lemma => kernel_rfl) (by as_aux_lemma => kernel_rfl) (by as_aux_lemma => kernel_rfl) (fun _ _ _ h => h) (Or.inl ⟨by rfl, ?yq41⟩) (by assumption) ?rq41
        case yq41 => (intro w hSw; (try dsimp only at hSw); go_simp <;> with_reducible rfl)
        simp only [Act.put, List.setIfInBounds_toArray, List.set_cons_zero, List.set_cons_succ]
        refine wpAnyH_take (i := 6) (oi := { dst := some 13, op := Op.extract (Operand.tmp 7) 0, type := 24, pos := "ref.go:53", after := #[{ on := 5, ground := Ground.data }], guard := none }) (v := ?vq42) rfl (by as_aux_lemma => kernel_rfl) (by as_aux_lemma => kernel_rfl) (by as_aux_lemma => kernel_rfl) (fun _ _ _ h => h) (Or.inl ⟨by rfl, ?yq42⟩) (by assumption) ?rq42
        case yq42 => (intro w hSw; (try dsimp only at hSw); go_simp <;> with_reducible rfl)
        simp only [Act.put, List.setIfInBounds_toArray, List.set_cons_zero, List.set_cons_succ]
        refine wpAnyH_take (i := 7) (oi := { dst := some 14, op := Op.extract (Operand.tmp 7) 1, type := 24, pos := "ref.go:53", after := #[{ on := 5, ground := Ground.data }, { on := 10, ground := Ground.gcOnly Departure.lateStores }], guard := none }) (v := ?vq43) rfl (by as_aux_lemma => kernel_rfl) (by as_aux_lemma => kernel_rfl) (by as_aux_lemma => kernel_rfl) (fun _ _ _ h => h) (Or.inl ⟨by rfl, ?yq43⟩) (by assumption) ?rq43
        case yq43 => (intro w hSw; (try dsimp only at hSw); go_simp <;> with_reducible rfl)
        simp only [Act.put, List.setIfInBounds_toArray, List.set_cons_zero, List.set_cons_succ]
        refine rest _ _ _ ⟨?_, ?_, ?_, ?_, ?_, hHeld⟩
        · (repeat (first | exact Blk.new _ _ _ | exact Blk.newS _ _ _ _ | with_reducible refine Blk.drewR ?_ | with_reducible refine Blk.alloc ?_ _ | refine Blk.keep ?_ hk4 | refine Blk.keep ?_ hk3 | refine Blk.keep ?_ hk1))
        · (repeat (first | exact Blk.new _ _ _ | exact Blk.newS _ _ _ _ | with_reducible refine Blk.drewR ?_ | with_reducible refine Blk.alloc ?_ _ | refine Blk.keep ?_ hk4 | refine Blk.keep ?_ hk3 | refine Blk.keep ?_ hk1))
        · (have e1 := hk1.size; have e3 := hk3.size; have e4 := hk4.size; first | (simp only [World.size_drew'] at e1 e3 e4 ⊢; omega) | (simp only [World.size_alloc, World.size_drew'] at e1 e3 e4 ⊢; omega))
        · (have e1 := hk1.size; have e3 := hk3.size; have e4 := hk4.size; first | (simp only [World.size_drew'] at e1 e3 e4 ⊢; omega) | (simp only [World.size_alloc, World.size_drew'] at e1 e3 e4 ⊢; omega))
        · (have e1 := hk1.size; have e3 := hk3.size; have e4 := hk4.size; first | (simp only [World.size_drew'] at e1 e3 e4 ⊢; omega) | (simp only [World.size_alloc, World.size_drew'] at e1 e3 e4 ⊢; omega))
      refine AllReadyH.cons (o := { dst := some 6, op := Op.alloc 24, type := 0, pos := "ref.go:53", after := #[], guard := none }) rfl (fun K hK => ?_) (by exact AllReadyH.nil)
      rw [if_pos (by rfl)]
      go_simp
      refine hK.out _ _ (by (try dsimp only); (first | assumption | exact (Below.refl _ _).drew | exact (balloc (Below.refl _ _) _).drew | exact (balloc (balloc (Below.refl _ _) _) _).drew | exact rstep (by assumption) (by assumption) | exact balloc (by assumption) _ | exact balloc (balloc (by assumption) _) _)) (fun hHeld => ?_)
      clear hK K
      simp only [List.setIfInBounds_toArray, List.set_cons_zero, List.set_cons_succ]
      refine wpAnyH_ready (rs := [3, 8]) (by as_aux_lemma => kernel_rfl) (by simp) ?_
      refine AllReadyH.cons (o := { dst := some 11, op := Op.call { callee := Callee.value (Operand.func 39), args := #[Operand.tmp 10], argTypes := #[24] }, type := 24, pos := "ref.go:53", after := #[{ on := 2, ground := Ground.data }, { on := 1, ground := Ground.chain }], guard := none }) rfl (fun K hK => ?_) ?_
      · rw [if_pos (by rfl)]
        go_simp
        (go_at_call 39; refine (HPB.out _).mono ?_; rintro e wk3 ⟨rfl, hk3⟩)
        refine hK.out _ _ (by (try dsimp only); (first | assumption | exact (Below.refl _ _).drew | exact (balloc (Below.refl _ _) _).drew | exact (balloc (balloc (Below.refl _ _) _) _).drew | exact rstep (by assumption) (by assumption) | exact balloc (by assumption) _ | exact balloc (balloc (by assumption) _) _)) (fun hHeld => ?_)
        clear hK K
        simp only [List.setIfInBounds_toArray, List.set_cons_zero, List.set_cons_succ]
        refine wpAnyH_ready (rs := [4, 8]) (by as_aux_lemma => kernel_rfl) (by simp) ?_
        refine AllReadyH.cons (o := { dst := some 12, op := Op.call { callee := Callee.value (Operand.func 8), args := #[Operand.tmp 9, Operand.tmp 11], argTypes := #[24, 24] }, type := 25, pos := "ref.go:53", after := #[{ on := 1, ground := Ground.data }, { on := 3, ground := Ground.data }, { on := 3, ground := Ground.chain }], guard := none }) rfl (fun K hK => ?_) ?_
        · rw [if_pos (by rfl)]
          go_simp
          (go_at_call 8; refine (rdivide_all x y HM.out.1 HM.out.2 _).mono ?_; rintro e wk4 ⟨rfl, hk4⟩)
          refine hK.out _ _ (by (try dsimp only); (first | assumption | exact (Below.refl _ _).drew | exact (balloc (Below.refl _ _) _).drew | exact (balloc (balloc (Below.refl _ _) _) _).drew | exact rstep (by assumption) (by assumption) | exact balloc (by assumption) _ | exact balloc (balloc (by assumption) _) _)) (fun hHeld => ?_)
          clear hK K
          simp only [List.setIfInBounds_toArray, List.set_cons_zero, List.set_cons_succ]
          refine wpAnyH_take (i := 5) (oi := { dst := some 7, op := Op.move (Operand.tmp 12), type := 25, pos := "ref.go:53", after := #[{ on := 4, ground := Ground.data }], guard := none }) (v := ?vq46) rfl (by as_aux_lemma => kernel_rfl) (by as_aux_lemma => kernel_rfl) (by as_aux_lemma => kernel_rfl) (fun _ _ _ h => h) (Or.inl ⟨by rfl, ?yq46⟩) (by assumption) ?rq46
          case yq46 => (intro w hSw; (try dsimp only at hSw); go_simp <;> with_reducible rfl)
          simp only [Act.put, List.setIfInBounds_toArray, List.set_cons_zero, List.set_cons_succ]
          refine wpAnyH_take (i := 6) (oi := { dst := some 13, op := Op.extract (Operand.tmp 7) 0, type := 24, pos := "ref.go:53", after := #[{ on := 5, ground := Ground.data }], guard := none }) (v := ?vq47) rfl (by as_aux_lemma => kernel_rfl) (by as_aux_lemma => kernel_rfl) (by as_aux_lemma => kernel_rfl) (fun _ _ _ h => h) (Or.inl ⟨by rfl, ?yq47⟩) (by assumption) ?rq47
          case yq47 => (intro w hSw; (try dsimp only at hSw); go_simp <;> with_reducible rfl)
          simp only [Act.put, List.setIfInBounds_toArray, List.set_cons_zero, List.set_cons_succ]
          refine wpAnyH_take (i := 7) (oi := { dst := some 14, op := Op.extract (Operand.tmp 7) 1, type := 24, pos := "ref.go:53", after := #[{ on := 5, ground := Ground.data }, { on := 10, ground := Ground.gcOnly Departure.lateStores }], guard := none }) (v := ?vq48) rfl (by as_aux_lemma => kernel_rfl) (by as_aux_lemma => kernel_rfl) (by as_aux_lemma => kernel_rfl) (fun _ _ _ h => h) (Or.inl ⟨by rfl, ?yq48⟩) (by assumption) ?rq48
          case yq48 => (intro w hSw; (try dsimp only at hSw); go_simp <;> with_reducible rfl)
          simp only [Act.put, List.setIfInBounds_toArray, List.set_cons_zero, List.set_cons_succ]
          refine wpAnyH_ready (rs := [8]) (by as_aux_lemma => kernel_rfl) (by simp) ?_
          refine AllReadyH.cons (o := { dst := some 5, op := Op.alloc 24, type := 0, pos := "ref.go:53", after := #[], guard := none }) rfl (fun K hK => ?_) (by exact AllReadyH.nil)
          rw [if_pos (by rfl)]
          go_simp
          refine hK.out _ _ (by (try dsimp only); (first | assumption | exact (Below.refl _ _).drew | exact (balloc (Below.refl _ _) _).drew | exact (balloc (balloc (Below.refl _ _) _) _).drew | exact rstep (by assumption) (by assumption) | exact balloc (by assumption) _ | exact balloc (balloc (by assumption) _) _)) (fun hHeld => ?_)
          clear hK K
          simp only [List.setIfInBounds_toArray, List.set_cons_zero, List.set_cons_succ]
          refine rest _ _ _ ⟨?_, ?_, ?_, ?_, ?_, hHeld⟩
          · (repeat (first | exact Blk.new _ _ _ | exact Blk.newS _ _ _ _ | with_reducible refine Blk.drewR ?_ | with_reducible refine Blk.alloc ?_ _ | refine Blk.keep ?_ hk4 | refine Blk.keep ?_ hk3 | refine Blk.keep ?_ hk1))
          · (repeat (first | exact Blk.new _ _ _ | exact Blk.newS _ _ _ _ | with_reducible refine Blk.drewR ?_ | with_reducible refine Blk.alloc ?_ _ | refine Blk.keep ?_ hk4 | refine Blk.keep ?_ hk3 | refine Blk.keep ?_ hk1))
          · (have e1 := hk1.size; have e3 := hk3.size; have e4 := hk4.size; first | (simp only [World.size_drew'] at e1 e3 e4 ⊢; omega) | (simp only [World.size_alloc, World.size_drew'] at e1 e3 e4 ⊢; omega))
          · (have e1 := hk1.size; have e3 := hk3.size; have e4 := hk4.size; first | (simp only [World.size_drew'] at e1 e3 e4 ⊢; omega) | (simp only [World.size_alloc, World.size_drew'] at e1 e3 e4 ⊢; omega))
          · (have e1 := hk1.size; have e3 := hk3.size; have e4 := hk4.size; first | (simp only [World.size_drew'] at e1 e3 e4 ⊢; omega) | (simp only [World.size_alloc, World.size_drew'] at e1 e3 e4 ⊢; omega))
        refine AllReadyH.cons (o := { dst := some 5, op := Op.alloc 24, type := 0, pos := "ref.go:53", after := #[], guard := none }) rfl (fun K hK => ?_) (by exact AllReadyH.nil)
        rw [if_pos (by rfl)]
        go_simp
        refine hK.out _ _ (by (try dsimp only); (first | assumption | exact (Below.refl _ _).drew | exact (balloc (Below.refl _ _) _).drew | exact (balloc (balloc (Below.refl _ _) _) _).drew | exact rstep (by assumption) (by assumption) | exact balloc (by assumption) _ | exact balloc (balloc (by assumption) _) _)) (fun hHeld => ?_)
        clear hK K
        simp only [List.setIfInBounds_toArray, List.set_cons_zero, List.set_cons_succ]
        refine wpAnyH_ready (rs := [4]) (by as_aux_lemma => kernel_rfl) (by simp) ?_
        refine AllReadyH.cons (o := { dst := some 12, op := Op.call { callee := Callee.value (Operand.func 8), args := #[Operand.tmp 9, Operand.tmp 11], argTypes := #[24, 24] }, type := 25, pos := "ref.go:53", after := #[{ on := 1, ground := Ground.data }, { on := 3, ground := Ground.data }, { on := 3, ground := Ground.chain }], guard := none }) rfl (fun K hK => ?_) (by exact AllReadyH.nil)
        rw [if_pos (by rfl)]
        go_simp
        (go_at_call 8; refine (rdivide_all x y HM.out.1 HM.out.2 _).mono ?_; rintro e wk4 ⟨rfl, hk4⟩)
        refine hK.out _ _ (by (try dsimp only); (first | assumption | exact (Below.refl _ _).drew | exact (balloc (Below.refl _ _) _).drew | exact (balloc (balloc (Below.refl _ _) _) _).drew | exact rstep (by assumption) (by assumption) | exact balloc (by assumption) _ | exact balloc (balloc (by assumption) _) _)) (fun hHeld => ?_)
        clear hK K
        simp only [List.setIfInBounds_toArray, List.set_cons_zero, List.set_cons_succ]
        refine wpAnyH_take (i := 5) (oi := { dst := some 7, op := Op.move (Operand.tmp 12), type := 25, pos := "ref.go:53", after := #[{ on := 4, ground := Ground.data }], guard := none }) (v := ?vq51) rfl (by as_aux_lemma => kernel_rfl) (by as_aux_lemma => kernel_rfl) (by as_aux_lemma => kernel_rfl) (fun _ _ _ h => h) (Or.inl ⟨by rfl, ?yq51⟩) (by assumption) ?rq51
        case yq51 => (intro w hSw; (try dsimp only at hSw); go_simp <;> with_reducible rfl)
        simp only [Act.put, List.setIfInBounds_toArray, List.set_cons_zero, List.set_cons_succ]
        refine wpAnyH_take (i := 6) (oi := { dst := some 13, op := Op.extract (Operand.tmp 7) 0, type := 24, pos := "ref.go:53", after := #[{ on := 5, ground := Ground.data }], guard := none }) (v := ?vq52) rfl (by as_aux_lemma => kernel_rfl) (by as_aux_lemma => kernel_rfl) (by as_aux_lemma => kernel_rfl) (fun _ _ _ h => h) (Or.inl ⟨by rfl, ?yq52⟩) (by assumption) ?rq52
        case yq52 => (intro w hSw; (try dsimp only at hSw); go_simp <;> with_reducible rfl)
        simp only [Act.put, List.setIfInBounds_toArray, List.set_cons_zero, List.set_cons_succ]
        refine wpAnyH_take (i := 7) (oi := { dst := some 14, op := Op.extract (Operand.tmp 7) 1, type := 24, pos := "ref.go:53", after := #[{ on := 5, ground := Ground.data }, { on := 10, ground := Ground.gcOnly Departure.lateStores }], guard := none }) (v := ?vq53) rfl (by as_aux_lemma => kernel_rfl) (by as_aux_lemma => kernel_rfl) (by as_aux_lemma => kernel_rfl) (fun _ _ _ h => h) (Or.inl ⟨by rfl, ?yq53⟩) (by assumption) ?rq53
        case yq53 => (intro w hSw; (try dsimp only at hSw); go_simp <;> with_reducible rfl)
        simp only [Act.put, List.setIfInBounds_toArray, List.set_cons_zero, List.set_cons_succ]
        refine rest _ _ _ ⟨?_, ?_, ?_, ?_, ?_, hHeld⟩
        · (repeat (first | exact Blk.new _ _ _ | exact Blk.newS _ _ _ _ | with_reducible refine Blk.drewR ?_ | with_reducible refine Blk.alloc ?_ _ | refine Blk.keep ?_ hk4 | refine Blk.keep ?_ hk3 | refine Blk.keep ?_ hk1))
        · (repeat (first | exact Blk.new _ _ _ | exact Blk.newS _ _ _ _ | with_reducible refine Blk.drewR ?_ | with_reducible refine Blk.alloc ?_ _ | refine Blk.keep ?_ hk4 | refine Blk.keep ?_ hk3 | refine Blk.keep ?_ hk1))
        · (have e1 := hk1.size; have e3 := hk3.size; have e4 := hk4.size; first | (simp only [World.size_drew'] at e1 e3 e4 ⊢; omega) | (simp only [World.size_alloc, World.size_drew'] at e1 e3 e4 ⊢; omega))
        · (have e1 := hk1.size; have e3 := hk3.size; have e4 := hk4.size; first | (simp only [World.size_drew'] at e1 e3 e4 ⊢; omega) | (simp only [World.size_alloc, World.size_drew'] at e1 e3 e4 ⊢; omega))
        · (have e1 := hk1.size; have e3 := hk3.size; have e4 := hk4.size; first | (simp only [World.size_drew'] at e1 e3 e4 ⊢; omega) | (simp only [World.size_alloc, World.size_drew'] at e1 e3 e4 ⊢; omega))
      refine AllReadyH.cons (o := { dst := some 5, op := Op.alloc 24, type := 0, pos := "ref.go:53", after := #[], guard := none }) rfl (fun K hK => ?_) (by exact AllReadyH.nil)
      rw [if_pos (by rfl)]
      go_simp
      refine hK.out _ _ (by (try dsimp only); (first | assumption | exact (Below.refl _ _).drew | exact (balloc (Below.refl _ _) _).drew | exact (balloc (balloc (Below.refl _ _) _) _).drew | exact rstep (by assumption) (by assumption) | exact balloc (by assumption) _ | exact balloc (balloc (by assumption) _) _)) (fun hHeld => ?_)
      clear hK K
      simp only [List.setIfInBounds_toArray, List.set_cons_zero, List.set_cons_succ]
      refine wpAnyH_ready (rs := [3]) (by as_aux_lemma => kernel_rfl) (by simp) ?_
      refine AllReadyH.cons (o := { dst := some 11, op := Op.call { callee := Callee.value (Operand.func 39), args := #[Operand.tmp 10], argTypes := #[24] }, type := 24, pos := "ref.go:53", after := #[{ on := 2, ground := Ground.data }, { on := 1, ground := Ground.chain }], guard := none }) rfl (fun K hK => ?_) (by exact AllReadyH.nil)
      rw [if_pos (by rfl)]
      go_simp
      (go_at_call 39; refine (HPB.out _).mono ?_; rintro e wk3 ⟨rfl, hk3⟩)
      refine hK.out _ _ (by (try dsimp only); (first | assumption | exact (Below.refl _ _).drew | exact (balloc (Below.refl _ _) _).drew | exact (balloc (balloc (Below.refl _ _) _) _).drew | exact rstep (by assumption) (by assumption) | exact balloc (by assumption) _ | exact balloc (balloc (by assumption) _) _)) (fun hHeld => ?_)
      clear hK K
      simp only [List.setIfInBounds_toArray, List.set_cons_zero, List.set_cons_succ]
      refine wpAnyH_ready (rs := [4]) (by as_aux_lemma => kernel_rfl) (by simp) ?_
      refine AllReadyH.cons (o := { dst := some 12, op := Op.call { callee := Callee.value (Operand.func 8), args := #[Operand.tmp 9, Operand.tmp 11], argTypes := #[24, 24] }, type := 25, pos := "ref.go:53", after := #[{ on := 1, ground := Ground.data }, { on := 3, ground := Ground.data }, { on := 3, ground := Ground.chain }], guard := none }) rfl (fun K hK => ?_) (by exact AllReadyH.nil)
      rw [if_pos (by rfl)]
      go_simp
      (go_at_call 8; refine (rdivide_all x y HM.out.1 HM.out.2 _).mono ?_; rintro e wk4 ⟨rfl, hk4⟩)
      refine hK.out _ _ (by (try dsimp only); (first | assumption | exact (Below.refl _ _).drew | exact (balloc (Below.refl _ _) _).drew | exact (balloc (balloc (Below.refl _ _) _) _).drew | exact rstep (by assumption) (by assumption) | exact balloc (by assumption) _ | exact balloc (balloc (by assumption) _) _)) (fun hHeld => ?_)
      clear hK K
      simp only [List.setIfInBounds_toArray, List.set_cons_zero, List.set_cons_succ]
      refine wpAnyH_take (i := 5) (oi := { dst := some 7, op := Op.move (Operand.tmp 12), type := 25, pos := "ref.go:53", after := #[{ on := 4, ground := Ground.data }], guard := none }) (v := ?vq56) rfl (by as_aux_lemma => kernel_rfl) (by as_aux_lemma => kernel_rfl) (by as_aux_lemma => kernel_rfl) (fun _ _ _ h => h) (Or.inl ⟨by rfl, ?yq56⟩) (by assumption) ?rq56
      case yq56 => (intro w hSw; (try dsimp only at hSw); go_simp <;> with_reducible rfl)
      simp only [Act.put, List.setIfInBounds_toArray, List.set_cons_zero, List.set_cons_succ]
      refine wpAnyH_take (i := 6) (oi := { dst := some 13, op := Op.extract (Operand.tmp 7) 0, type := 24, pos := "ref.go:53", after := #[{ on := 5, ground := Ground.data }], guard := none }) (v := ?vq57) rfl (by as_aux_lemma => kernel_rfl) (by as_aux_lemma => kernel_rfl) (by as_aux_lemma => kernel_rfl) (fun _ _ _ h => h) (Or.inl ⟨by rfl, ?yq57⟩) (by assumption) ?rq57
      case yq57 => (intro w hSw; (try dsimp only at hSw); go_simp <;> with_reducible rfl)
      simp only [Act.put, List.setIfInBounds_toArray, List.set_cons_zero, List.set_cons_succ]
      refine wpAnyH_take (i := 7) (oi := { dst := some 14, op := Op.extract (Operand.tmp 7) 1, type := 24, pos := "ref.go:53", after := #[{ on := 5, ground := Ground.data }, { on := 10, ground := Ground.gcOnly Departure.lateStores }], guard := none }) (v := ?vq58) rfl (by as_aux_lemma => kernel_rfl) (by as_aux_lemma => kernel_rfl) (by as_aux_lemma => kernel_rfl) (fun _ _ _ h => h) (Or.inl ⟨by rfl, ?yq58⟩) (by assumption) ?rq58
      case yq58 => (intro w hSw; (try dsimp only at hSw); go_simp <;> with_reducible rfl)
      simp only [Act.put, List.setIfInBounds_toArray, List.set_cons_zero, List.set_cons_succ]
      refine rest _ _ _ ⟨?_, ?_, ?_, ?_, ?_, hHeld⟩
      · (repeat (first | exact Blk.new _ _ _ | exact Blk.newS _ _ _ _ | with_reducible refine Blk.drewR ?_ | with_reducible refine Blk.alloc ?_ _ | refine Blk.keep ?_ hk4 | refine Blk.keep ?_ hk3 | refine Blk.keep ?_ hk1))
      · (repeat (first | exact Blk.new _ _ _ | exact Blk.newS _ _ _ _ | with_reducible refine Blk.drewR ?_ | with_reducible refine Blk.alloc ?_ _ | refine Blk.keep ?_ hk4 | refine Blk.keep ?_ hk3 | refine Blk.keep ?_ hk1))
      · (have e1 := hk1.size; have e3 := hk3.size; have e4 := hk4.size; first | (simp only [World.size_drew'] at e1 e3 e4 ⊢; omega) | (simp only [World.size_alloc, World.size_drew'] at e1 e3 e4 ⊢; omega))
      · (have e1 := hk1.size; have e3 := hk3.size; have e4 := hk4.size; first | (simp only [World.size_drew'] at e1 e3 e4 ⊢; omega) | (simp only [World.size_alloc, World.size_drew'] at e1 e3 e4 ⊢; omega))
      · (have e1 := hk1.size; have e3 := hk3.size; have e4 := hk4.size; first | (simp only [World.size_drew'] at e1 e3 e4 ⊢; omega) | (simp only [World.size_alloc, World.size_drew'] at e1 e3 e4 ⊢; omega))
    refine AllReadyH.cons (o := { dst := some 5, op := Op.alloc 24, type := 0, pos := "ref.go:53", after := #[], guard := none }) rfl (fun K hK => ?_) ?_
    · rw [if_pos (by rfl)]
      go_simp
      refine hK.out _ _ (by (try dsimp only); (first | assumption | exact (Below.refl _ _).drew | exact (balloc (Below.refl _ _) _).drew | exact (balloc (balloc (Below.refl _ _) _) _).drew | exact rstep (by assumption) (by assumption) | exact balloc (by assumption) _ | exact balloc (balloc (by assumption) _) _)) (fun hHeld => ?_)
      clear hK K
      simp only [List.setIfInBounds_toArray, List.set_cons_zero, List.set_cons_succ]
      refine wpAnyH_ready (rs := [1, 9]) (by as_aux_lemma => kernel_rfl) (by simp) ?_
      refine AllReadyH.cons (o := { dst := some 9, op := Op.call { callee := Callee.value (Operand.func 39), args := #[Operand.tmp 8], argTypes := #[24] }, type := 24, pos := "ref.go:53", after := #[{ on := 0, ground := Ground.data }], guard := none }) rfl (fun K hK => ?_) ?_
      · rw [if_pos (by rfl)]
        go_simp
        (go_at_call 39; refine (HPA.out _).mono ?_; rintro e wk1 ⟨rfl, hk1⟩)
        refine hK.out _ _ (by (try dsimp only); (first | assumption | exact (Below.refl _ _).drew | exact (balloc (Below.refl _ _) _).drew | exact (balloc (balloc (Below.refl _ _) _) _).drew | exact rstep (by assumption) (by assumption) | exact balloc (by assumption) _ | exact balloc (balloc (by assumption) _) _)) (fun hHeld => ?_)
        clear hK K
        simp only [List.setIfInBounds_toArray, List.set_cons_zero, List.set_cons_succ]
        refine wpAnyH_ready (rs := [3, 9]) (by as_aux_lemma => kernel_rfl) (by simp) ?_
        refine AllReadyH.cons (o := { dst := some 11, op := Op.call { callee := Callee.value (Operand.func 39), args := #[Operand.tmp 10], argTypes := #[24] }, type := 24, pos := "ref.go:53", after := #[{ on := 2, ground := Ground.data }, { on := 1, ground := Ground.chain }], guard := none }) rfl (fun K hK => ?_) ?_
        · rw [if_pos (by rfl)]
          go_simp
          (go_at_call 39; refine (HPB.out _).mono ?_; rintro e wk3 ⟨rfl, hk3⟩)
          refine hK.out _ _ (by (try dsimp only); (first | assumption | exact (Below.refl _ _).drew | exact (balloc (Below.refl _ _) _).drew | exact (balloc (balloc (Below.refl _ _) _) _).drew | exact rstep (by assumption) (by assumption) | exact balloc (by assumption) _ | exact balloc (balloc (by assumption) _) _)) (fun hHeld => ?_)
          clear hK K
          simp only [List.setIfInBounds_toArray, List.set_cons_zero, List.set_cons_succ]
          refine wpAnyH_ready (rs := [4, 9]) (by as_aux_lemma => kernel_rfl) (by simp) ?_
          refine AllReadyH.cons (o := { dst := some 12, op := Op.call { callee := Callee.value (Operand.func 8), args := #[Operand.tmp 9, Operand.tmp 11], argTypes := #[24, 24] }, type := 25, pos := "ref.go:53", after := #[{ on := 1, ground := Ground.data }, { on := 3, ground := Ground.data }, { on := 3, ground := Ground.chain }], guard := none }) rfl (fun K hK => ?_) ?_
          · rw [if_pos (by rfl)]
            go_simp
            (go_at_call 8; refine (rdivide_all x y HM.out.1 HM.out.2 _).mono ?_; rintro e wk4 ⟨rfl, hk4⟩)
            refine hK.out _ _ (by (try dsimp only); (first | assumption | exact (Below.refl _ _).drew | exact (balloc (Below.refl _ _) _).drew | exact (balloc (balloc (Below.refl _ _) _) _).drew | exact rstep (by assumption) (by assumption) | exact balloc (by assumption) _ | exact balloc (balloc (by assumption) _) _)) (fun hHeld => ?_)
            clear hK K
            simp only [List.setIfInBounds_toArray, List.set_cons_zero, List.set_cons_succ]
            refine wpAnyH_take (i := 5) (oi := { dst := some 7, op := Op.move (Operand.tmp 12), type := 25, pos := "ref.go:53", after := #[{ on := 4, ground := Ground.data }], guard := none }) (v := ?vq62) rfl (by as_aux_lemma => kernel_rfl) (by as_aux_lemma => kernel_rfl) (by as_aux_lemma => kernel_rfl) (fun _ _ _ h => h) (Or.inl ⟨by rfl, ?yq62⟩) (by assumption) ?rq62
            case yq62 => (intro w hSw; (try dsimp only at hSw); go_simp <;> with_reducible rfl)
            simp only [Act.put, List.setIfInBounds_toArray, List.set_cons_zero, List.set_cons_succ]
            refine wpAnyH_take (i := 6) (oi := { dst := some 13, op := Op.extract (Operand.tmp 7) 0, type := 24, pos := "ref.go:53", after := #[{ on := 5, ground := Ground.data }], guard := none }) (v := ?vq63) rfl (by as_aux_lemma => kernel_rfl) (by as_aux_lemma => kernel_rfl) (by as_aux_lemma => kernel_rfl) (fun _ _ _ h => h) (Or.inl ⟨by rfl, ?yq63⟩) (by assumption) ?rq63
            case yq63 => (intro w hSw; (try dsimp only at hSw); go_simp <;> with_reducible rfl)
            simp only [Act.put, List.setIfInBounds_toArray, List.set_cons_zero, List.set_cons_succ]
            refine wpAnyH_take (i := 7) (oi := { dst := some 14, op := Op.extract (Operand.tmp 7) 1, type := 24, pos := "ref.go:53", after := #[{ on := 5, ground := Ground.data }, { on := 10, ground := Ground.gcOnly Departure.lateStores }], guard := none }) (v := ?vq64) rfl (by as_aux_lemma => kernel_rfl) (by as_aux_lemma => kernel_rfl) (by as_aux_lemma => kernel_rfl) (fun _ _ _ h => h) (Or.inl ⟨by rfl, ?yq64⟩) (by assumption) ?rq64
            case yq64 => (intro w hSw; (try dsimp only at hSw); go_simp <;> with_reducible rfl)
            simp only [Act.put, List.setIfInBounds_toArray, List.set_cons_zero, List.set_cons_succ]
            refine wpAnyH_ready (rs := [9]) (by as_aux_lemma => kernel_rfl) (by simp) ?_
            refine AllReadyH.cons (o := { dst := some 6, op := Op.alloc 24, type := 0, pos := "ref.go:53", after := #[], guard := none }) rfl (fun K hK => ?_) (by exact AllReadyH.nil)
            rw [if_pos (by rfl)]
            go_simp
            refine hK.out _ _ (by (try dsimp only); (first | assumption | exact (Below.refl _ _).drew | exact (balloc (Below.refl _ _) _).drew | exact (balloc (balloc (Below.refl _ _) _) _).drew | exact rstep (by assumption) (by assumption) | exact balloc (by assumption) _ | exact balloc (balloc (by assumption) _) _)) (fun hHeld => ?_)
            clear hK K
            simp only [List.setIfInBounds_toArray, List.set_cons_zero, List.set_cons_succ]
            refine rest _ _ _ ⟨?_, ?_, ?_, ?_, ?_, hHeld⟩
            · (repeat (first | exact Blk.new _ _ _ | exact Blk.newS _ _ _ _ | with_reducible refine Blk.drewR ?_ | with_reducible refine Blk.alloc ?_ _ | refine Blk.keep ?_ hk4 | refine Blk.keep ?_ hk3 | refine Blk.keep ?_ hk1))
            · (repeat (first | exact Blk.new _ _ _ | exact Blk.newS _ _ _ _ | with_reducible refine Blk.drewR ?_ | with_reducible refine Blk.alloc ?_ _ | refine Blk.keep ?_ hk4 | refine Blk.keep ?_ hk3 | refine Blk.keep ?_ hk1))
            · (have e1 := hk1.size; have e3 := hk3.size; have e4 := hk4.size; first | (simp only [World.size_drew'] at e1 e3 e4 ⊢; omega) | (simp only [World.size_alloc, World.size_drew'] at e1 e3 e4 ⊢; omega))
            · (have e1 := hk1.size; have e3 := hk3.size; have e4 := hk4.size; first | (simp only [World.size_drew'] at e1 e3 e4 ⊢; omega) | (simp only [World.size_alloc, World.size_drew'] at e1 e3 e4 ⊢; omega))
            · (have e1 := hk1.size; have e3 := hk3.size; have e4 := hk4.size; first | (simp only [World.size_drew'] at e1 e3 e4 ⊢; omega) | (simp only [World.size_alloc, World.size_drew'] at e1 e3 e4 ⊢; omega))
          refine AllReadyH.cons (o := { dst := some 6, op := Op.alloc 24, type := 0, pos := "ref.go:53", after := #[], guard := none }) rfl (fun K hK => ?_) (by exact AllReadyH.nil)
          rw [if_pos (by rfl)]
          go_simp
          refine hK.out _ _ (by (try dsimp only); (first | assumption | exact (Below.refl _ _).drew | exact (balloc (Below.refl _ _) _).drew | exact (balloc (balloc (Below.refl _ _) _) _).drew | exact rstep (by assumption) (by assumption) | exact balloc (by assumption) _ | exact balloc (balloc (by assumption) _) _)) (fun hHeld => ?_)
          clear hK K
          simp only [List.setIfInBounds_toArray, List.set_cons_zero, List.set_cons_succ]
          refine wpAnyH_ready (rs := [4]) (by as_aux_lemma => kernel_rfl) (by simp) ?_
          refine AllReadyH.cons (o := { dst := some 12, op := Op.call { callee := Callee.value (Operand.func 8), args := #[Operand.tmp 9, Operand.tmp 11], argTypes := #[24, 24] }, type := 25, pos := "ref.go:53", after := #[{ on := 1, ground := Ground.data }, { on := 3, ground := Ground.data }, { on := 3, ground := Ground.chain }], guard := none }) rfl (fun K hK => ?_) (by exact AllReadyH.nil)
          rw [if_pos (by rfl)]
          go_simp
          (go_at_call 8; refine (rdivide_all x y HM.out.1 HM.out.2 _).mono ?_; rintro e wk4 ⟨rfl, hk4⟩)
          refine hK.out _ _ (by (try dsimp only); (first | assumption | exact (Below.refl _ _).drew | exact (balloc (Below.refl _ _) _).drew | exact (balloc (balloc (Below.refl _ _) _) _).drew | exact rstep (by assumption) (by assumption) | exact balloc (by assumption) _ | exact balloc (balloc (by assumption) _) _)) (fun hHeld => ?_)
          clear hK K
          simp only [List.setIfInBounds_toArray, List.set_cons_zero, List.set_cons_succ]
          refine wpAnyH_take (i := 5) (oi := { dst := some 7, op := Op.move (Operand.tmp 12), type := 25, pos := "ref.go:53", after := #[{ on := 4, ground := Ground.data }], guard := none }) (v := ?vq67) rfl (by as_aux_lemma => kernel_rfl) (by as_aux_lemma => kernel_rfl) (by as_aux_lemma => kernel_rfl) (fun _ _ _ h => h) (Or.inl ⟨by rfl, ?yq67⟩) (by assumption) ?rq67
          case yq67 => (intro w hSw; (try dsimp only at hSw); go_simp <;> with_reducible rfl)
          simp only [Act.put, List.setIfInBounds_toArray, List.set_cons_zero, List.set_cons_succ]
          refine wpAnyH_take (i := 6) (oi := { dst := some 13, op := Op.extract (Operand.tmp 7) 0, type := 24, pos := "ref.go:53", after := #[{ on := 5, ground := Ground.data }], guard := none }) (v := ?vq68) rfl (by as_aux_lemma => kernel_rfl) (by as_aux_lemma => kernel_rfl) (by as_aux_lemma => kernel_rfl) (fun _ _ _ h => h) (Or.inl ⟨by rfl, ?yq68⟩) (by assumption) ?rq68
          case yq68 => (intro w hSw; (try dsimp only at hSw); go_simp <;> with_reducible rfl)
          simp only [Act.put, List.setIfInBounds_toArray, List.set_cons_zero, List.set_cons_succ]
          refine wpAnyH_take (i := 7) (oi := { dst := some 14, op := Op.extract (Operand.tmp 7) 1, type := 24, pos := "ref.go:53", after := #[{ on := 5, ground := Ground.data }, { on := 10, ground := Ground.gcOnly Departure.lateStores }], guard := none }) (v := ?vq69) rfl (by as_aux_lemma => kernel_rfl) (by as_aux_lemma => kernel_rfl) (by as_aux_lemma => kernel_rfl) (fun _ _ _ h => h) (Or.inl ⟨by rfl, ?yq69⟩) (by assumption) ?rq69
          case yq69 => (intro w hSw; (try dsimp only at hSw); go_simp <;> with_reducible rfl)
          simp only [Act.put, List.setIfInBounds_toArray, List.set_cons_zero, List.set_cons_succ]
          refine rest _ _ _ ⟨?_, ?_, ?_, ?_, ?_, hHeld⟩
          · (repeat (first | exact Blk.new _ _ _ | exact Blk.newS _ _ _ _ | with_reducible refine Blk.drewR ?_ | with_reducible refine Blk.alloc ?_ _ | refine Blk.keep ?_ hk4 | refine Blk.keep ?_ hk3 | refine Blk.keep ?_ hk1))
          · (repeat (first | exact Blk.new _ _ _ | exact Blk.newS _ _ _ _ | with_reducible refine Blk.drewR ?_ | with_reducible refine Blk.alloc ?_ _ | refine Blk.keep ?_ hk4 | refine Blk.keep ?_ hk3 | refine Blk.keep ?_ hk1))
          · (have e1 := hk1.size; have e3 := hk3.size; have e4 := hk4.size; first | (simp only [World.size_drew'] at e1 e3 e4 ⊢; omega) | (simp only [World.size_alloc, World.size_drew'] at e1 e3 e4 ⊢; omega))
          · (have e1 := hk1.size; have e3 := hk3.size; have e4 := hk4.size; first | (simp only [World.size_drew'] at e1 e3 e4 ⊢; omega) | (simp only [World.size_alloc, World.size_drew'] at e1 e3 e4 ⊢; omega))
          · (have e1 := hk1.size; have e3 := hk3.size; have e4 := hk4.size; first | (simp only [World.size_drew'] at e1 e3 e4 ⊢; omega) | (simp only [World.size_alloc, World.size_drew'] at e1 e3 e4 ⊢; omega))
        refine AllReadyH.cons (o := { dst := some 6, op := Op.alloc 24, type := 0, pos := "ref.go:53", after := #[], guard := none }) rfl (fun K hK => ?_) (by exact AllReadyH.nil)
        rw [if_pos (by rfl)]
        go_simp
        refine hK.out _ _ (by (try dsimp only); (first | assumption | exact (Below.refl _ _).drew | exact (balloc (Below.refl _ _) _).drew | exact (balloc (balloc (Below.refl _ _) _) _).drew | exact rstep (by assumption) (by assumption) | exact balloc (by assumption) _ | exact balloc (balloc (by assumption) _) _)) (fun hHeld => ?_)
        clear hK K
        simp only [List.setIfInBounds_toArray, List.set_cons_zero, List.set_cons_succ]
        refine wpAnyH_ready (rs := [3]) (by as_aux_lemma => kernel_rfl) (by simp) ?_
        refine AllReadyH.cons (o := { dst := some 11, op := Op.call { callee := Callee.value (Operand.func 39), args := #[Operand.tmp 10], argTypes := #[24] }, type := 24, pos := "ref.go:53", after := #[{ on := 2, ground := Ground.data }, { on := 1, ground := Ground.chain }], guard := none }) rfl (fun K hK => ?_) (by exact AllReadyH.nil)
        rw [if_pos (by rfl)]
        go_simp
        (go_at_call 39; refine (HPB.out _).mono ?_; rintro e wk3 ⟨rfl, hk3⟩)
        refine hK.out _ _ (by (try dsimp only); (first | assumption | exact (Below.refl _ _).drew | exact (balloc (Below.refl _ _) _).drew | exact (balloc (balloc (Below.refl _ _) _) _).drew | exact rstep (by assumption) (by assumption) | exact balloc (by assumption) _ | exact balloc (balloc (by assumption) _) _)) (fun hHeld => ?_)
        clear hK K
        simp only [List.setIfInBounds_toArray, List.set_cons_zero, List.set_cons_succ]
        refine wpAnyH_ready (rs := [4]) (by as_aux_lemma => kernel_rfl) (by simp) ?_
        refine AllReadyH.cons (o := { dst := some 12, op := Op.call { callee := Callee.value (Operand.func 8), args := #[Operand.tmp 9, Operand.tmp 11], argTypes := #[24, 24] }, type := 25, pos := "ref.go:53", after := #[{ on := 1, ground := Ground.data }, { on := 3, ground := Ground.data }, { on := 3, ground := Ground.chain }], guard := none }) rfl (fun K hK => ?_) (by exact AllReadyH.nil)
        rw [if_pos (by rfl)]
        go_simp
        (go_at_call 8; refine (rdivide_all x y HM.out.1 HM.out.2 _).mono ?_; rintro e wk4 ⟨rfl, hk4⟩)
        refine hK.out _ _ (by (try dsimp only); (first | assumption | exact (Below.refl _ _).drew | exact (balloc (Below.refl _ _) _).drew | exact (balloc (balloc (Below.refl _ _) _) _).drew | exact rstep (by assumption) (by assumption) | exact balloc (by assumption) _ | exact balloc (balloc (by assumption) _) _)) (fun hHeld => ?_)
        clear hK K
        simp only [List.setIfInBounds_toArray, List.set_cons_zero, List.set_cons_succ]
        refine wpAnyH_take (i := 5) (oi := { dst := some 7, op := Op.move (Operand.tmp 12), type := 25, pos := "ref.go:53", after := #[{ on := 4, ground := Ground.data }], guard := none }) (v := ?vq72) rfl (by as_aux_lemma => kernel_rfl) (by as_aux_lemma => kernel_rfl) (by as_aux_lemma => kernel_rfl) (fun _ _ _ h => h) (Or.inl ⟨by rfl, ?yq72⟩) (by assumption) ?rq72
        case yq72 => (intro w hSw; (try dsimp only at hSw); go_simp <;> with_reducible rfl)
        simp only [Act.put, List.setIfInBounds_toArray, List.set_cons_zero, List.set_cons_succ]
        refine wpAnyH_take (i := 6) (oi := { dst := some 13, op := Op.extract (Operand.tmp 7) 0, type := 24, pos := "ref.go:53", after := #[{ on := 5, ground := Ground.data }], guard := none }) (v := ?vq73) rfl (by as_aux_lemma => kernel_rfl) (by as_aux_lemma => kernel_rfl) (by as_aux_lemma => kernel_rfl) (fun _ _ _ h => h) (Or.inl ⟨by rfl, ?yq73⟩) (by assumption) ?rq73
        case yq73 => (intro w hSw; (try dsimp only at hSw); go_simp <;> with_reducible rfl)
        simp only [Act.put, List.setIfInBounds_toArray, List.set_cons_zero, List.set_cons_succ]
        refine wpAnyH_take (i := 7) (oi := { dst := some 14, op := Op.extract (Operand.tmp 7) 1, type := 24, pos := "ref.go:53", after := #[{ on := 5, ground := Ground.data }, { on := 10, ground := Ground.gcOnly Departure.lateStores }], guard := none }) (v := ?vq74) rfl (by as_aux_lemma => kernel_rfl) (by as_aux_lemma => kernel_rfl) (by as_aux_lemma => kernel_rfl) (fun _ _ _ h => h) (Or.inl ⟨by rfl, ?yq74⟩) (by assumption) ?rq74
        case yq74 => (intro w hSw; (try dsimp only at hSw); go_simp <;> with_reducible rfl)
        simp only [Act.put, List.setIfInBounds_toArray, List.set_cons_zero, List.set_cons_succ]
        refine rest _ _ _ ⟨?_, ?_, ?_, ?_, ?_, hHeld⟩
        · (repeat (first | exact Blk.new _ _ _ | exact Blk.newS _ _ _ _ | with_reducible refine Blk.drewR ?_ | with_reducible refine Blk.alloc ?_ _ | refine Blk.keep ?_ hk4 | refine Blk.keep ?_ hk3 | refine Blk.keep ?_ hk1))
        · (repeat (first | exact Blk.new _ _ _ | exact Blk.newS _ _ _ _ | with_reducible refine Blk.drewR ?_ | with_reducible refine Blk.alloc ?_ _ | refine Blk.keep ?_ hk4 | refine Blk.keep ?_ hk3 | refine Blk.keep ?_ hk1))
        · (have e1 := hk1.size; have e3 := hk3.size; have e4 := hk4.size; first | (simp only [World.size_drew'] at e1 e3 e4 ⊢; omega) | (simp only [World.size_alloc, World.size_drew'] at e1 e3 e4 ⊢; omega))
        · (have e1 := hk1.size; have e3 := hk3.size; have e4 := hk4.size; first | (simp only [World.size_drew'] at e1 e3 e4 ⊢; omega) | (simp only [World.size_alloc, World.size_drew'] at e1 e3 e4 ⊢; omega))
        · (have e1 := hk1.size; have e3 := hk3.size; have e4 := hk4.size; first | (simp only [World.size_drew'] at e1 e3 e4 ⊢; omega) | (simp only [World.size_alloc, World.size_drew'] at e1 e3 e4 ⊢; omega))
      refine AllReadyH.cons (o := { dst := some 6, op := Op.alloc 24, type := 0, pos := "ref.go:53", after := #[], guard := none }) rfl (fun K hK => ?_) (by exact AllReadyH.nil)
      rw [if_pos (by rfl)]
      go_simp
      refine hK.out _ _ (by (try dsimp only); (first | assumption | exact (Below.refl _ _).drew | exact (balloc (Below.refl _ _) _).drew | exact (balloc (balloc (Below.refl _ _) _) _).drew | exact rstep (by assumption) (by assumption) | exact balloc (by assumption) _ | exact balloc (balloc (by assumption) _) _)) (fun hHeld => ?_)
      clear hK K
      simp only [List.setIfInBounds_toArray, List.set_cons_zero, List.set_cons_succ]
      refine wpAnyH_ready (rs := [1]) (by as_aux_lemma => kernel_rfl) (by simp) ?_
      refine AllReadyH.cons (o := { dst := some 9, op := Op.call { callee := Callee.value (Operand.func 39), args := #[Operand.tmp 8], argTypes := #[24] }, type := 24, pos := "ref.go:53", after := #[{ on := 0, ground := Ground.data }], guard := none }) rfl (fun K hK => ?_) (by exact AllReadyH.nil)
      rw [if_pos (by rfl)]
      go_simp
      (go_at_call 39; refine (HPA.out _).mono ?_; rintro e wk1 ⟨rfl, hk1⟩)
      refine hK.out _ _ (by (try dsimp only); (first | assumption | exact (Below.refl _ _).drew | exact (balloc (Below.refl _ _) _).drew | exact (balloc (balloc (Below.refl _ _) _) _).drew | exact rstep (by assumption) (by assumption) | exact balloc (by assumption) _ | exact balloc (balloc (by assumption) _) _)) (fun hHeld => ?_)
      clear hK K
      simp only [List.setIfInBounds_toArray, List.set_cons_zero, List.set_cons_succ]
      refine wpAnyH_ready (rs := [3]) (by as_aux_lemma => kernel_rfl) (by simp) ?_
      refine AllReadyH.cons (o := { dst := some 11, op := Op.call { callee := Callee.value (Operand.func 39), args := #[Operand.tmp 10], argTypes := #[24] }, type := 24, pos := "ref.go:53", after := #[{ on := 2, ground := Ground.data }, { on := 1, ground := Ground.chain }], guard := none }) rfl (fun K hK => ?_) (by exact AllReadyH.nil)
      rw [if_pos (by rfl)]
      go_simp
      (go_at_call 39; refine (HPB.out _).mono ?_; rintro e wk3 ⟨rfl, hk3⟩)
      refine hK.out _ _ (by (try dsimp only); (first | assumption | exact (Below.refl _ _).drew | exact (balloc (Below.refl _ _) _).drew | exact (balloc (balloc (Below.refl _ _) _) _).drew | exact rstep (by assumption) (by assumption) | exact balloc (by assumption) _ | exact balloc (balloc (by assumption) _) _)) (fun hHeld => ?_)
      clear hK K
      simp only [List.setIfInBounds_toArray, List.set_cons_zero, List.set_cons_succ]
      refine wpAnyH_ready (rs := [4]) (by as_aux_lemma => kernel_rfl) (by simp) ?_
      refine AllReadyH.cons (o := { dst := some 12, op := Op.call { callee := Callee.value (Operand.func 8), args := #[Operand.tmp 9, Operand.tmp 11], argTypes := #[24, 24] }, type := 25, pos := "ref.go:53", after := #[{ on := 1, ground := Ground.data }, { on := 3, ground := Ground.data }, { on := 3, ground := Ground.chain }], guard := none }) rfl (fun K hK => ?_) (by exact AllReadyH.nil)
      rw [if_pos (by rfl)]
      go_simp
      (go_at_call 8; refine (rdivide_all x y HM.out.1 HM.out.2 _).mono ?_; rintro e wk4 ⟨rfl, hk4⟩)
      refine hK.out _ _ (by (try dsimp only); (first | assumption | exact (Below.refl _ _).drew | exact (balloc (Below.refl _ _) _).drew | exact (balloc (balloc (Below.refl _ _) _) _).drew | exact rstep (by assumption) (by assumption) | exact balloc (by assumption) _ | exact balloc (balloc (by assumption) _) _)) (fun hHeld => ?_)
      clear hK K
      simp only [List.setIfInBounds_toArray, List.set_cons_zero, List.set_cons_succ]
      refine wpAnyH_take (i := 5) (oi := { dst := some 7, op := Op.move (Operand.tmp 12), type := 25, pos := "ref.go:53", after := #[{ on := 4, ground := Ground.data }], guard := none }) (v := ?vq78) rfl (by as_aux_lemma => kernel_rfl) (by as_aux_lemma => kernel_rfl) (by as_aux_lemma => kernel_rfl) (fun _ _ _ h => h) (Or.inl ⟨by rfl, ?yq78⟩) (by assumption) ?rq78
      case yq78 => (intro w hSw; (try dsimp only at hSw); go_simp <;> with_reducible rfl)
      simp only [Act.put, List.setIfInBounds_toArray, List.set_cons_zero, List.set_cons_succ]
      refine wpAnyH_take (i := 6) (oi := { dst := some 13, op := Op.extract (Operand.tmp 7) 0, type := 24, pos := "ref.go:53", after := #[{ on := 5, ground := Ground.data }], guard := none }) (v := ?vq79) rfl (by as_aux_lemma => kernel_rfl) (by as_aux_lemma => kernel_rfl) (by as_aux_lemma => kernel_rfl) (fun _ _ _ h => h) (Or.inl ⟨by rfl, ?yq79⟩) (by assumption) ?rq79
      case yq79 => (intro w hSw; (try dsimp only at hSw); go_simp <;> with_reducible rfl)
      simp only [Act.put, List.setIfInBounds_toArray, List.set_cons_zero, List.set_cons_succ]
      refine wpAnyH_take (i := 7) (oi := { dst := some 14, op := Op.extract (Operand.tmp 7) 1, type := 24, pos := "ref.go:53", after := #[{ on := 5, ground := Ground.data }, { on := 10, ground := Ground.gcOnly Departure.lateStores }], guard := none }) (v := ?vq80) rfl (by as_aux_lemma => kernel_rfl) (by as_aux_lemma => kernel_rfl) (by as_aux_lemma => kernel_rfl) (fun _ _ _ h => h) (Or.inl ⟨by rfl, ?yq80⟩) (by assumption) ?rq80
      case yq80 => (intro w hSw; (try dsimp only at hSw); go_simp <;> with_reducible rfl)
      simp only [Act.put, List.setIfInBounds_toArray, List.set_cons_zero, List.set_cons_succ]
      refine rest _ _ _ ⟨?_, ?_, ?_, ?_, ?_, hHeld⟩
      · (repeat (first | exact Blk.new _ _ _ | exact Blk.newS _ _ _ _ | with_reducible refine Blk.drewR ?_ | with_reducible refine Blk.alloc ?_ _ | refine Blk.keep ?_ hk4 | refine Blk.keep ?_ hk3 | refine Blk.keep ?_ hk1))
      · (repeat (first | exact Blk.new _ _ _ | exact Blk.newS _ _ _ _ | with_reducible refine Blk.drewR ?_ | with_reducible refine Blk.alloc ?_ _ | refine Blk.keep ?_ hk4 | refine Blk.keep ?_ hk3 | refine Blk.keep ?_ hk1))
      · (have e1 := hk1.size; have e3 := hk3.size; have e4 := hk4.size; first | (simp only [World.size_drew'] at e1 e3 e4 ⊢; omega) | (simp only [World.size_alloc, World.size_drew'] at e1 e3 e4 ⊢; omega))
      · (have e1 := hk1.size; have e3 := hk3.size; have e4 := hk4.size; first | (simp only [World.size_drew'] at e1 e3 e4 ⊢; omega) | (simp only [World.size_alloc, World.size_drew'] at e1 e3 e4 ⊢; omega))
      · (have e1 := hk1.size; have e3 := hk3.size; have e4 := hk4.size; first | (simp only [World.size_drew'] at e1 e3 e4 ⊢; omega) | (simp only [World.size_alloc, World.size_drew'] at e1 e3 e4 ⊢; omega))
    refine AllReadyH.cons (o := { dst := some 6, op := Op.alloc 24, type := 0, pos := "ref.go:53", after := #[], guard := none }) rfl (fun K hK => ?_) (by exact AllReadyH.nil)
    rw [if_pos (by rfl)]
    go_simp
    refine hK.out _ _ (by (try dsimp only); (first | assumption | exact (Below.refl _ _).drew | exact (balloc (Below.refl _ _) _).drew | exact (balloc (balloc (Below.refl _ _) _) _).drew | exact rstep (by assumption) (by assumption) | exact balloc (by assumption) _ | exact balloc (balloc (by assumption) _) _)) (fun hHeld => ?_)
    clear hK K
    simp only [List.setIfInBounds_toArray, List.set_cons_zero, List.set_cons_succ]
    refine wpAnyH_ready (rs := [1, 8]) (by as_aux_lemma => kernel_rfl) (by simp) ?_
    refine AllReadyH.cons (o := { dst := some 9, op := Op.call { callee := Callee.value (Operand.func 39), args := #[Operand.tmp 8], argTypes := #[24] }, type := 24, pos := "ref.go:53", after := #[{ on := 0, ground := Ground.data }], guard := none }) rfl (fun K hK => ?_) ?_
    · rw [if_pos (by rfl)]
      go_simp
      (go_at_call 39; refine (HPA.out _).mono ?_; rintro e wk1 ⟨rfl, hk1⟩)
      refine hK.out _ _ (by (try dsimp only); (first | assumption | exact (Below.refl _ _).drew | exact (balloc (Below.refl _ _) _).drew | exact (balloc (balloc (Below.refl _ _) _) _).drew | exact rstep (by assumption) (by assumption) | exact balloc (by assumption) _ | exact balloc (balloc (by assumption) _) _)) (fun hHeld => ?_)
      clear hK K
      simp only [List.setIfInBounds_toArray, List.set_cons_zero, List.set_cons_succ]
      refine wpAnyH_ready (rs := [3, 8]) (by as_aux_lemma => kernel_rfl) (by simp) ?_
      refine AllReadyH.cons (o := { dst := some 11, op := Op.call { callee := Callee.value (Operand.func 39), args := #[Operand.tmp 10], argTypes := #[24] }, type := 24, pos := "ref.go:53", after := #[{ on := 2, ground := Ground.data }, { on := 1, ground := Ground.chain }], guard := none }) rfl (fun K hK => ?_) ?_
      · rw [if_pos (by rfl)]
        go_simp
        (go_at_call 39; refine (HPB.out _).mono ?_; rintro e wk3 ⟨rfl, hk3⟩)
        refine hK.out _ _ (by (try dsimp only); (first | assumption | exact (Below.refl _ _).drew | exact (balloc (Below.refl _ _) _).drew | exact (balloc (balloc (Below.refl _ _) _) _).drew | exact rstep (by assumption) (by assumption) | exact balloc (by assumption) _ | exact balloc (balloc (by assumption) _) _)) (fun hHeld => ?_)
        clear hK K
        simp only [List.setIfInBounds_toArray, List.set_cons_zero, List.set_cons_succ]
        refine wpAnyH_ready (rs := [4, 8]) (by as_aux_lemma => kernel_rfl) (by simp) ?_
        refine AllReadyH.cons (o := { dst := some 12, op := Op.call { callee := Callee.value (Operand.func 8), args := #[Operand.tmp 9, Operand.tmp 11], argTypes := #[24, 24] }, type := 25, pos := "ref.go:53", after := #[{ on := 1, ground := Ground.data }, { on := 3, ground := Ground.data }, { on := 3, ground := Ground.chain }], guard := none }) rfl (fun K hK => ?_) ?_
        · rw [if_pos (by rfl)]
          go_simp
          (go_at_call 8; refine (rdivide_all x y HM.out.1 HM.out.2 _).mono ?_; rintro e wk4 ⟨rfl, hk4⟩)
          refine hK.out _ _ (by (try dsimp only); (first | assumption | exact (Below.refl _ _).drew | exact (balloc (Below.refl _ _) _).drew | exact (balloc (balloc (Below.refl _ _) _) _).drew | exact rstep (by assumption) (by assumption) | exact balloc (by assumption) _ | exact balloc (balloc (by assumption) _) _)) (fun hHeld => ?_)
          clear hK K
          simp only [List.setIfInBounds_toArray, List.set_cons_zero, List.set_cons_succ]
          refine wpAnyH_take (i := 5) (oi := { dst := some 7, op := Op.move (Operand.tmp 12), type := 25, pos := "ref.go:53", after := #[{ on := 4, ground := Ground.data }], guard := none }) (v := ?vq84) rfl (by as_aux_lemma => kernel_rfl) (by as_aux_lemma => kernel_rfl) (by as_aux_lemma => kernel_rfl) (fun _ _ _ h => h) (Or.inl ⟨by rfl, ?yq84⟩) (by assumption) ?rq84
          case yq84 => (intro w hSw; (try dsimp only at hSw); go_simp <;> with_reducible rfl)
          simp only [Act.put, List.setIfInBounds_toArray, List.set_cons_zero, List.set_cons_succ]
          refine wpAnyH_take (i := 6) (oi := { dst := some 13, op := Op.extract (Operand.tmp 7) 0, type := 24, pos := "ref.go:53", after := #[{ on := 5, ground := Ground.data }], guard := none }) (v := ?vq85) rfl (by as_aux_lemma => kernel_rfl) (by as_aux_lemma => kernel_rfl) (by as_aux_lemma => kernel_rfl) (fun _ _ _ h => h) (Or.inl ⟨by rfl, ?yq85⟩) (by assumption) ?rq85
          case yq85 => (intro w hSw; (try dsimp only at hSw); go_simp <;> with_reducible rfl)
          simp only [Act.put, List.setIfInBounds_toArray, List.set_cons_zero, List.set_cons_succ]
          refine wpAnyH_take (i := 7) (oi := { dst := some 14, op := Op.extract (Operand.tmp 7) 1, type := 24, pos := "ref.go:53", after := #[{ on := 5, ground := Ground.data }, { on := 10, ground := Ground.gcOnly Departure.lateStores }], guard := none }) (v := ?vq86) rfl (by as_aux_lemma => kernel_rfl) (by as_aux_lemma => kernel_rfl) (by as_aux_lemma => kernel_rfl) (fun _ _ _ h => h) (Or.inl ⟨by rfl, ?yq86⟩) (by assumption) ?rq86
          case yq86 => (intro w hSw; (try dsimp only at hSw); go_simp <;> with_reducible rfl)
          simp only [Act.put, List.setIfInBounds_toArray, List.set_cons_zero, List.set_cons_succ]
          refine wpAnyH_ready (rs := [8]) (by as_aux_lemma => kernel_rfl) (by simp) ?_
          refine AllReadyH.cons (o := { dst := some 5, op := Op.alloc 24, type := 0, pos := "ref.go:53", after := #[], guard := none }) rfl (fun K hK => ?_) (by exact AllReadyH.nil)
          rw [if_pos (by rfl)]
          go_simp
          refine hK.out _ _ (by (try dsimp only); (first | assumption | exact (Below.refl _ _).drew | exact (balloc (Below.refl _ _) _).drew | exact (balloc (balloc (Below.refl _ _) _) _).drew | exact rstep (by assumption) (by assumption) | exact balloc (by assumption) _ | exact balloc (balloc (by assumption) _) _)) (fun hHeld => ?_)
          clear hK K
          simp only [List.setIfInBounds_toArray, List.set_cons_zero, List.set_cons_succ]
          refine rest _ _ _ ⟨?_, ?_, ?_, ?_, ?_, hHeld⟩
          · (repeat (first | exact Blk.new _ _ _ | exact Blk.newS _ _ _ _ | with_reducible refine Blk.drewR ?_ | with_reducible refine Blk.alloc ?_ _ | refine Blk.keep ?_ hk4 | refine Blk.keep ?_ hk3 | refine Blk.keep ?_ hk1))
          · (repeat (first | exact Blk.new _ _ _ | exact Blk.newS _ _ _ _ | with_reducible refine Blk.drewR ?_ | with_reducible refine Blk.alloc ?_ _ | refine Blk.keep ?_ hk4 | refine Blk.keep ?_ hk3 | refine Blk.keep ?_ hk1))
          · (have e1 := hk1.size; have e3 := hk3.size; have e4 := hk4.size; first | (simp only [World.size_drew'] at e1 e3 e4 ⊢; omega) | (simp only [World.size_alloc, World.size_drew'] at e1 e3 e4 ⊢; omega))
          · (have e1 := hk1.size; have e3 := hk3.size; have e4 := hk4.size; first | (simp only [World.size_drew'] at e1 e3 e4 ⊢; omega) | (simp only [World.size_alloc, World.size_drew'] at e1 e3 e4 ⊢; omega))
          · (have e1 := hk1.size; have e3 := hk3.size; have e4 := hk4.size; first | (simp only [World.size_drew'] at e1 e3 e4 ⊢; omega) | (simp only [World.size_alloc, World.size_drew'] at e1 e3 e4 ⊢; omega))
        refine AllReadyH.cons (o := { dst := some 5, op := Op.alloc 24, type := 0, pos := "ref.go:53", after := #[], guard := none }) rfl (fun K hK => ?_) (by exact AllReadyH.nil)
        rw [if_pos (by rfl)]
        go_simp
        refine hK.out _ _ (by (try dsimp only); (first | assumption | exact (Below.refl _ _).drew | exact (balloc (Below.refl _ _) _).drew | exact (balloc (balloc (Below.refl _ _) _) _).drew | exact rstep (by assumption) (by assumption) | exact balloc (by assumption) _ | exact balloc (balloc (by assumption) _) _)) (fun hHeld => ?_)
        clear hK K
        simp only [List.setIfInBounds_toArray, List.set_cons_zero, List.set_cons_succ]
        refine wpAnyH_ready (rs := [4]) (by as_aux_lemma => kernel_rfl) (by simp) ?_
        refine AllReadyH.cons (o := { dst := some 12, op := Op.call { callee := Callee.value (Operand.func 8), args := #[Operand.tmp 9, Operand.tmp 11], argTypes := #[24, 24] }, type := 25, pos := "ref.go:53", after := #[{ on := 1, ground := Ground.data }, { on := 3, ground := Ground.data }, { on := 3, ground := Ground.chain }], guard := none }) rfl (fun K hK => ?_) (by exact AllReadyH.nil)
        rw [if_pos (by rfl)]
        go_simp
        (go_at_call 8; refine (rdivide_all x y HM.out.1 HM.out.2 _).mono ?_; rintro e wk4 ⟨rfl, hk4⟩)
        refine hK.out _ _ (by (try dsimp only); (first | assumption | exact (Below.refl _ _).drew | exact (balloc (Below.refl _ _) _).drew | exact (balloc (balloc (Below.refl _ _) _) _).drew | exact rstep (by assumption) (by assumption) | exact balloc (by assumption) _ | exact balloc (balloc (by assumption) _) _)) (fun hHeld => ?_)
        clear hK K
        simp only [List.setIfInBounds_toArray, List.set_cons_zero, List.set_cons_succ]
        refine wpAnyH_take (i := 5) (oi := { dst := some 7, op := Op.move (Operand.tmp 12), type := 25, pos := "ref.go:53", after := #[{ on := 4, ground := Ground.data }], guard := none }) (v := ?vq89) rfl (by as_aux_lemma => kernel_rfl) (by as_aux_lemma => kernel_rfl) (by as_aux_lemma => kernel_rfl) (fun _ _ _ h => h) (Or.inl ⟨by rfl, ?yq89⟩) (by assumption) ?rq89
        case yq89 => (intro w hSw; (try dsimp only at hSw); go_simp <;> with_reducible rfl)
        simp only [Act.put, List.setIfInBounds_toArray, List.set_cons_zero, List.set_cons_succ]
        refine wpAnyH_take (i := 6) (oi := { dst := some 13, op := Op.extract (Operand.tmp 7) 0, type := 24, pos := "ref.go:53", after := #[{ on := 5, ground := Ground.data }], guard := none }) (v := ?vq90) rfl (by as_aux_lemma => kernel_rfl) (by as_aux_lemma => kernel_rfl) (by as_aux_lemma => kernel_rfl) (fun _ _ _ h => h) (Or.inl ⟨by rfl, ?yq90⟩) (by assumption) ?rq90
        case yq90 => (intro w hSw; (try dsimp only at hSw); go_simp <;> with_reducible rfl)
        simp only [Act.put, List.setIfInBounds_toArray, List.set_cons_zero, List.set_cons_succ]
        refine wpAnyH_take (i := 7) (oi := { dst := some 14, op := Op.extract (Operand.tmp 7) 1, type := 24, pos := "ref.go:53", after := #[{ on := 5, ground := Ground.data }, { on := 10, ground := Ground.gcOnly Departure.lateStores }], guard := none }) (v := ?vq91) rfl (by as_aux_lemma => kernel_rfl) (by as_aux_lemma => kernel_rfl) (by as_aux_lemma => kernel_rfl) (fun _ _ _ h => h) (Or.inl ⟨by rfl, ?yq91⟩) (by assumption) ?rq91
        case yq91 => (intro w hSw; (try dsimp only at hSw); go_simp <;> with_reducible rfl)
        simp only [Act.put, List.setIfInBounds_toArray, List.set_cons_zero, List.set_cons_succ]
        refine rest _ _ _ ⟨?_, ?_, ?_, ?_, ?_, hHeld⟩
        · (repeat (first | exact Blk.new _ _ _ | exact Blk.newS _ _ _ _ | with_reducible refine Blk.drewR ?_ | with_reducible refine Blk.alloc ?_ _ | refine Blk.keep ?_ hk4 | refine Blk.keep ?_ hk3 | refine Blk.keep ?_ hk1))
        · (repeat (first | exact Blk.new _ _ _ | exact Blk.newS _ _ _ _ | with_reducible refine Blk.drewR ?_ | with_reducible refine Blk.alloc ?_ _ | refine Blk.keep ?_ hk4 | refine Blk.keep ?_ hk3 | refine Blk.keep ?_ hk1))
        · (have e1 := hk1.size; have e3 := hk3.size; have e4 := hk4.size; first | (simp only [World.size_drew'] at e1 e3 e4 ⊢; omega) | (simp only [World.size_alloc, World.size_drew'] at e1 e3 e4 ⊢; omega))
        · (have e1 := hk1.size; have e3 := hk3.size; have e4 := hk4.size; first | (simp only [World.size_drew'] at e1 e3 e4 ⊢; omega) | (simp only [World.size_alloc, World.size_drew'] at e1 e3 e4 ⊢; omega))
        · (have e1 := hk1.size; have e3 := hk3.size; have e4 := hk4.size; first | (simp only [World.size_drew'] at e1 e3 e4 ⊢; omega) | (simp only [World.size_alloc, World.size_drew'] at e1 e3 e4 ⊢; omega))
      refine AllReadyH.cons (o := { dst := some 5, op := Op.alloc 24, type := 0, pos := "ref.go:53", after := #[], guard := none }) rfl (fun K hK => ?_) (by exact AllReadyH.nil)
      rw [if_pos (by rfl)]
      go_simp
      refine hK.out _ _ (by (try dsimp only); (first | assumption | exact (Below.refl _ _).drew | exact (balloc (Below.refl _ _) _).drew | exact (balloc (balloc (Below.refl _ _) _) _).drew | exact rstep (by assumption) (by assumption) | exact balloc (by assumption) _ | exact balloc (balloc (by assumption) _) _)) (fun hHeld => ?_)
      clear hK K
      simp only [List.setIfInBounds_toArray, List.set_cons_zero, List.set_cons_succ]
      refine wpAnyH_ready (rs := [3]) (by as_aux_lemma => kernel_rfl) (by simp) ?_
      refine AllReadyH.cons (o := { dst := some 11, op := Op.call { callee := Callee.value (Operand.func 39), args := #[Operand.tmp 10], argTypes := #[24] }, type := 24, pos := "ref.go:53", after := #[{ on := 2, ground := Ground.data }, { on := 1, ground := Ground.chain }], guard := none }) rfl (fun K hK => ?_) (by exact AllReadyH.nil)
      rw [if_pos (by rfl)]
      go_simp
      (go_at_call 39; refine (HPB.out _).mono ?_; rintro e wk3 ⟨rfl, hk3⟩)
      refine hK.out _ _ (by (try dsimp only); (first | assumption | exact (Below.refl _ _).drew | exact (balloc (Below.refl _ _) _).drew | exact (balloc (balloc (Below.refl _ _) _) _).drew | exact rstep (by assumption) (by assumption) | exact balloc (by assumption) _ | exact balloc (balloc (by assumption) _) _)) (fun hHeld => ?_)
      clear hK K
      simp only [List.setIfInBounds_toArray, List.set_cons_zero, List.set_cons_succ]
      refine wpAnyH_ready (rs := [4]) (by as_aux_lemma => kernel_rfl) (by simp) ?_
      refine AllReadyH.cons (o := { dst := some 12, op := Op.call { callee := Callee.value (Operand.func 8), args := #[Operand.tmp 9, Operand.tmp 11], argTypes := #[24, 24] }, type := 25, pos := "ref.go:53", after := #[{ on := 1, ground := Ground.data }, { on := 3, ground := Ground.data }, { on := 3, ground := Ground.chain }], guard := none }) rfl (fun K hK => ?_) (by exact AllReadyH.nil)
      rw [if_pos (by rfl)]
      go_simp
      (go_at_call 8; refine (rdivide_all x y HM.out.1 HM.out.2 _).mono ?_; rintro e wk4 ⟨rfl, hk4⟩)
      refine hK.out _ _ (by (try dsimp only); (first | assumption | exact (Below.refl _ _).drew | exact (balloc (Below.refl _ _) _).drew | exact (balloc (balloc (Below.refl _ _) _) _).drew | exact rstep (by assumption) (by assumption) | exact balloc (by assumption) _ | exact balloc (balloc (by assumption) _) _)) (fun hHeld => ?_)
      clear hK K
      simp only [List.setIfInBounds_toArray, List.set_cons_zero, List.set_cons_succ]
      refine wpAnyH_take (i := 5) (oi := { dst := some 7, op := Op.move (Operand.tmp 12), type := 25, pos := "ref.go:53", after := #[{ on := 4, ground := Ground.data }], guard := none }) (v := ?vq94) rfl (by as_aux_lemma => kernel_rfl) (by as_aux_lemma => kernel_rfl) (by as_aux_lemma => kernel_rfl) (fun _ _ _ h => h) (Or.inl ⟨by rfl, ?yq94⟩) (by assumption) ?rq94
      case yq94 => (intro w hSw; (try dsimp only at hSw); go_simp <;> with_reducible rfl)
      simp only [Act.put, List.setIfInBounds_toArray, List.set_cons_zero, List.set_cons_succ]
      refine wpAnyH_take (i := 6) (oi := { dst := some 13, op := Op.extract (Operand.tmp 7) 0, type := 24, pos := "ref.go:53", after := #[{ on := 5, ground := Ground.data }], guard := none }) (v := ?vq95) rfl (by as_aux_lemma => kernel_rfl) (by as_aux_lemma => kernel_rfl) (by as_aux_lemma => kernel_rfl) (fun _ _ _ h => h) (Or.inl ⟨by rfl, ?yq95⟩) (by assumption) ?rq95
      case yq95 => (intro w hSw; (try dsimp only at hSw); go_simp <;> with_reducible rfl)
      simp only [Act.put, List.setIfInBounds_toArray, List.set_cons_zero, List.set_cons_succ]
      refine wpAnyH_take (i := 7) (oi := { dst := some 14, op := Op.extract (Operand.tmp 7) 1, type := 24, pos := "ref.go:53", after := #[{ on := 5, ground := Ground.data }, { on := 10, ground := Ground.gcOnly Departure.lateStores }], guard := none }) (v := ?vq96) rfl (by as_aux_lemma => kernel_rfl) (by as_aux_lemma => kernel_rfl) (by as_aux_lemma => kernel_rfl) (fun _ _ _ h => h) (Or.inl ⟨by rfl, ?yq96⟩) (by assumption) ?rq96
      case yq96 => (intro w hSw; (try dsimp only at hSw); go_simp <;> with_reducible rfl)
      simp only [Act.put, List.setIfInBounds_toArray, List.set_cons_zero, List.set_cons_succ]
      refine rest _ _ _ ⟨?_, ?_, ?_, ?_, ?_, hHeld⟩
      · (repeat (first | exact Blk.new _ _ _ | exact Blk.newS _ _ _ _ | with_reducible refine Blk.drewR ?_ | with_reducible refine Blk.alloc ?_ _ | refine Blk.keep ?_ hk4 | refine Blk.keep ?_ hk3 | refine Blk.keep ?_ hk1))
      · (repeat (first | exact Blk.new _ _ _ | exact Blk.newS _ _ _ _ | with_reducible refine Blk.drewR ?_ | with_reducible refine Blk.alloc ?_ _ | refine Blk.keep ?_ hk4 | refine Blk.keep ?_ hk3 | refine Blk.keep ?_ hk1))
      · (have e1 := hk1.size; have e3 := hk3.size; have e4 := hk4.size; first | (simp only [World.size_drew'] at e1 e3 e4 ⊢; omega) | (simp only [World.size_alloc, World.size_drew'] at e1 e3 e4 ⊢; omega))
      · (have e1 := hk1.size; have e3 := hk3.size; have e4 := hk4.size; first | (simp only [World.size_drew'] at e1 e3 e4 ⊢; omega) | (simp only [World.size_alloc, World.size_drew'] at e1 e3 e4 ⊢; omega))
      · (have e1 := hk1.size; have e3 := hk3.size; have e4 := hk4.size; first | (simp only [World.size_drew'] at e1 e3 e4 ⊢; omega) | (simp only [World.size_alloc, World.size_drew'] at e1 e3 e4 ⊢; omega))
    refine AllReadyH.cons (o := { dst := some 5, op := Op.alloc 24, type := 0, pos := "ref.go:53", after := #[], guard := none }) rfl (fun K hK => ?_) (by exact AllReadyH.nil)
    rw [if_pos (by rfl)]
    go_simp
    refine hK.out _ _ (by (try dsimp only); (first | assumption | exact (Below.refl _ _).drew | exact (balloc (Below.refl _ _) _).drew | exact (balloc (balloc (Below.refl _ _) _) _).drew | exact rstep (by assumption) (by assumption) | exact balloc (by assumption) _ | exact balloc (balloc (by assumption) _) _)) (fun hHeld => ?_)
    clear hK K
    simp only [List.setIfInBounds_toArray, List.set_cons_zero, List.set_cons_succ]
    refine wpAnyH_ready (rs := [1]) (by as_aux_lemma => kernel_rfl) (by simp) ?_
    refine AllReadyH.cons (o := { dst := some 9, op := Op.call { callee := Callee.value (Operand.func 39), args := #[Operand.tmp 8], argTypes := #[24] }, type := 24, pos := "ref.go:53", after := #[{ on := 0, ground := Ground.data }], guard := none }) rfl (fun K hK => ?_) (by exact AllReadyH.nil)
    rw [if_pos (by rfl)]
    go_simp
    (go_at_call 39; refine (HPA.out _).mono ?_; rintro e wk1 ⟨rfl, hk1⟩)
    refine hK.out _ _ (by (try dsimp only); (first | assumption | exact (Below.refl _ _).drew | exact (balloc (Below.refl _ _) _).drew | exact (balloc (balloc (Below.refl _ _) _) _).drew | exact rstep (by assumption) (by assumption) | exact balloc (by assumption) _ | exact balloc (balloc (by assumption) _) _)) (fun hHeld => ?_)
    clear hK K
    simp only [List.setIfInBounds_toArray, List.set_cons_zero, List.set_cons_succ]
    refine wpAnyH_ready (rs := [3]) (by as_aux_lemma => kernel_rfl) (by simp) ?_
    refine AllReadyH.cons (o := { dst := some 11, op := Op.call { callee := Callee.value (Operand.func 39), args := #[Operand.tmp 10], argTypes := #[24] }, type := 24, pos := "ref.go:53", after := #[{ on := 2, ground := Ground.data }, { on := 1, ground := Ground.chain }], guard := none }) rfl (fun K hK => ?_) (by exact AllReadyH.nil)
    rw [if_pos (by rfl)]
    go_simp
    (go_at_call 39; refine (HPB.out _).mono ?_; rintro e wk3 ⟨rfl, hk3⟩)
    refine hK.out _ _ (by (try dsimp only); (first | assumption | exact (Below.refl _ _).drew | exact (balloc (Below.refl _ _) _).drew | exact (balloc (balloc (Below.refl _ _) _) _).drew | exact rstep (by assumption) (by assumption) | exact balloc (by assumption) _ | exact balloc (balloc (by assumption) _) _)) (fun hHeld => ?_)
    clear hK K
    simp only [List.setIfInBounds_toArray, List.set_cons_zero, List.set_cons_succ]
    refine wpAnyH_ready (rs := [4]) (by as_aux_lemma => kernel_rfl) (by simp) ?_
    refine AllReadyH.cons (o := { dst := some 12, op := Op.call { callee := Callee.value (Operand.func 8), args := #[Operand.tmp 9, Operand.tmp 11], argTypes := #[24, 24] }, type := 25, pos := "ref.go:53", after := #[{ on := 1, ground := Ground.data }, { on := 3, ground := Ground.data }, { on := 3, ground := Ground.chain }], guard := none }) rfl (fun K hK => ?_) (by exact AllReadyH.nil)
    rw [if_pos (by rfl)]
    go_simp
    (go_at_call 8; refine (rdivide_all x y HM.out.1 HM.out.2 _).mono ?_; rintro e wk4 ⟨rfl, hk4⟩)
    refine hK.out _ _ (by (try dsimp only); (first | assumption | exact (Below.refl _ _).drew | exact (balloc (Below.refl _ _) _).drew | exact (balloc (balloc (Below.refl _ _) _) _).drew | exact rstep (by assumption) (by assumption) | exact balloc (by assumption) _ | exact balloc (balloc (by assumption) _) _)) (fun hHeld => ?_)
    clear hK K
    simp only [List.setIfInBounds_toArray, List.set_cons_zero, List.set_cons_succ]
    refine wpAnyH_take (i := 5) (oi := { dst := some 7, op := Op.move (Operand.tmp 12), type := 25, pos := "ref.go:53", after := #[{ on := 4, ground := Ground.data }], guard := none }) (v := ?vq100) rfl (by as_aux_lemma => kernel_rfl) (by as_aux_lemma => kernel_rfl) (by as_aux_lemma => kernel_rfl) (fun _ _ _ h => h) (Or.inl ⟨by rfl, ?yq100⟩) (by assumption) ?rq100
    case yq100 => (intro w hSw; (try dsimp only at hSw); go_simp <;> with_reducible rfl)
    simp only [Act.put, List.setIfInBounds_toArray, List.set_cons_zero, List.set_cons_succ]
    refine wpAnyH_take (i := 6) (oi := { dst := some 13, op := Op.extract (Operand.tmp 7) 0, type := 24, pos := "ref.go:53", after := #[{ on := 5, ground := Ground.data }], guard := none }) (v := ?vq101) rfl (by as_aux_lemma => kernel_rfl) (by as_aux_lemma => kernel_rfl) (by as_aux_lemma => kernel_rfl) (fun _ _ _ h => h) (Or.inl ⟨by rfl, ?yq101⟩) (by assumption) ?rq101
    case yq101 => (intro w hSw; (try dsimp only at hSw); go_simp <;> with_reducible rfl)
    simp only [Act.put, List.setIfInBounds_toArray, List.set_cons_zero, List.set_cons_succ]
    refine wpAnyH_take (i := 7) (oi := { dst := some 14, op := Op.extract (Operand.tmp 7) 1, type := 24, pos := "ref.go:53", after := #[{ on := 5, ground := Ground.data }, { on := 10, ground := Ground.gcOnly Departure.lateStores }], guard := none }) (v := ?vq102) rfl (by as_aux_lemma => kernel_rfl) (by as_aux_lemma => kernel_rfl) (by as_aux_lemma => kernel_rfl) (fun _ _ _ h => h) (Or.inl ⟨by rfl, ?yq102⟩) (by assumption) ?rq102
    case yq102 => (intro w hSw; (try dsimp only at hSw); go_simp <;> with_reducible rfl)
    simp only [Act.put, List.setIfInBounds_toArray, List.set_cons_zero, List.set_cons_succ]
    refine rest _ _ _ ⟨?_, ?_, ?_, ?_, ?_, hHeld⟩
    · (repeat (first | exact Blk.new _ _ _ | exact Blk.newS _ _ _ _ | with_reducible refine Blk.drewR ?_ | with_reducible refine Blk.alloc ?_ _ | refine Blk.keep ?_ hk4 | refine Blk.keep ?_ hk3 | refine Blk.keep ?_ hk1))
    · (repeat (first | exact Blk.new _ _ _ | exact Blk.newS _ _ _ _ | with_reducible refine Blk.drewR ?_ | with_reducible refine Blk.alloc ?_ _ | refine Blk.keep ?_ hk4 | refine Blk.keep ?_ hk3 | refine Blk.keep ?_ hk1))
    · (have e1 := hk1.size; have e3 := hk3.size; have e4 := hk4.size; first | (simp only [World.size_drew'] at e1 e3 e4 ⊢; omega) | (simp only [World.size_alloc, World.size_drew'] at e1 e3 e4 ⊢; omega))
    · (have e1 := hk1.size; have e3 := hk3.size; have e4 := hk4.size; first | (simp only [World.size_drew'] at e1 e3 e4 ⊢; omega) | (simp only [World.size_alloc, World.size_drew'] at e1 e3 e4 ⊢; omega))
    · (have e1 := hk1.size; have e3 := hk3.size; have e4 := hk4.size; first | (simp only [World.size_drew'] at e1 e3 e4 ⊢; omega) | (simp only [World.size_alloc, World.size_drew'] at e1 e3 e4 ⊢; omega))
  case hrest =>
    intro X Y wz ⟨z1, z2, z3, z4, z5, z6⟩
    refine wpAnyH_ready (rs := [10]) (by as_aux_lemma => kernel_rfl) (by simp) ?_
    refine AllReadyH.cons (o := { dst := none, op := Op.store 24 (Operand.tmp 5) (Operand.tmp 13), type := 0, pos := "ref.go:53", after := #[{ on := 8, ground := Ground.data }, { on := 6, ground := Ground.data }, { on := 4, ground := Ground.chain }, { on := 0, ground := Ground.phase }, { on := 1, ground := Ground.phase }, { on := 2, ground := Ground.phase }, { on := 3, ground := Ground.phase }, { on := 4, ground := Ground.phase }, { on := 5, ground := Ground.phase }, { on := 6, ground := Ground.phase }, { on := 7, ground := Ground.textOnly Departure.lateStores }, { on := 8, ground := Ground.phase }, { on := 9, ground := Ground.phase }], guard := none }) rfl (fun K hK => ?_) (by exact AllReadyH.nil)
    rw [if_pos (by rfl)]
    refine wp_store_mid 24 (.tmp 5) (.tmp 13) rfl X 0 (Wc (x / y)) rfl rfl (z1.there _ (Nat.le_refl 4)) HI.out (wc_one _) (hK.out _ _ (below_setCells' z4 _ 0 wz z6) (fun hHeld => ?_))
    have z7 := blk_setCells z1 (Wc (x / y)) rfl (wc_one _)
    have z8 := blk_setCells_far z2 X 0 (Wc (x / y)).toList z3.symm
    clear z1 z2 z6
    generalize wz.setCells X 0 (Wc (x / y)).toList = wy at z7 z8 hHeld ⊢
    clear hK K
    simp only [Act.put, List.setIfInBounds_toArray, List.set_cons_zero, List.set_cons_succ]
    refine wpAnyH_ready (rs := [11]) (by as_aux_lemma => kernel_rfl) (by simp) ?_
    refine AllReadyH.cons (o := { dst := none, op := Op.store 24 (Operand.tmp 6) (Operand.tmp 14), type := 0, pos := "ref.go:53", after := #[{ on := 9, ground := Ground.data }, { on := 7, ground := Ground.data }, { on := 10, ground := Ground.chain }, { on := 0, ground := Ground.phase }, { on := 1, ground := Ground.phase }, { on := 2, ground := Ground.phase }, { on := 3, ground := Ground.phase }, { on := 4, ground := Ground.phase }, { on := 5, ground := Ground.phase }, { on := 6, ground := Ground.phase }, { on := 7, ground := Ground.phase }, { on := 8, ground := Ground.phase }, { on := 9, ground := Ground.phase }, { on := 10, ground := Ground.phase }], guard := none }) rfl (fun K hK => ?_) (by exact AllReadyH.nil)
    rw [if_pos (by rfl)]
    refine wp_store_mid 24 (.tmp 6) (.tmp 14) rfl Y 0 (Wc (mdN x y)) rfl rfl (z8.there _ (Nat.le_refl 4)) HI.out (wc_one _) (hK.out _ _ (below_setCells' z5 _ 0 wy hHeld) (fun hHeld => ?_))
    have z9 := blk_setCells z8 (Wc (mdN x y)) rfl (wc_one _)
    have z10 := blk_setCells_far z7 Y 0 (Wc (mdN x y)).toList z3
    clear z7 z8
    generalize wy.setCells Y 0 (Wc (mdN x y)).toList = wx at z9 z10 hHeld ⊢
    clear hK K
    simp only [Act.put, List.setIfInBounds_toArray, List.set_cons_zero, List.set_cons_succ]
    refine wpAnyH_done (by as_aux_lemma => kernel_rfl) ?_ _
    refine hKc _ _ ?_
    clear hKc Kc
    replace A := A.block_below hHeld
    replace B := B.block_below hHeld
    replace R := R.block_below hHeld
    have hl := R.lt
    have hgX : w.heap.size + 1 + 1 < X := Nat.lt_of_lt_of_le hl0 z4
    have hgY : w.heap.size + 1 + 1 < Y := Nat.lt_of_lt_of_le hl0 z5
    replace hW := bstep hW hHeld
    clear HPA HPB HI hHeld hl0 z3 z4 z5
    have hs := fun w => rsub_any 0 (x / y) w
    rw [W_zero] at hs
    generalize hq : x / y = q at *
    have HQ := Lib.hid hq
    clear hq
    have HS := Lib.hid hs
    have HR := Lib.hid R
    have HB := Lib.hid hW
    have HXb := Lib.hid z10
    clear cA0 cA1 cA2 cA3 cB0 cB1 cB2 cB3 hs
    have cA0 : ∀ w', Below wx.heap.size wx w' → w'.cell? ⟨w.heap.size, 0, none⟩ = some (.int .u64 (lb (a) 0)) := fun w' h => (cell_of_row _ _ 0 _ _ _ (A.block_below h)).trans rfl
    have cA1 : ∀ w', Below wx.heap.size wx w' → w'.cell? ⟨w.heap.size, 1, none⟩ = some (.int .u64 (lb (a) 1)) := fun w' h => (cell_of_row _ _ 1 _ _ _ (A.block_below h)).trans rfl
    have cA2 : ∀ w', Below wx.heap.size wx w' → w'.cell? ⟨w.heap.size, 2, none⟩ = some (.int .u64 (lb (a) 2)) := fun w' h => (cell_of_row _ _ 2 _ _ _ (A.block_below h)).trans rfl
    have cA3 : ∀ w', Below wx.heap.size wx w' → w'.cell? ⟨w.heap.size, 3, none⟩ = some (.int .u64 (lb (a) 3)) := fun w' h => (cell_of_row _ _ 3 _ _ _ (A.block_below h)).trans rfl
    have cB0 : ∀ w', Below wx.heap.size wx w' → w'.cell? ⟨w.heap.size + 1, 0, none⟩ = some (.int .u64 (lb (b) 0)) := fun w' h => (cell_of_row _ _ 0 _ _ _ (B.block_below h)).trans rfl
    have cB1 : ∀ w', Below wx.heap.size wx w' → w'.cell? ⟨w.heap.size + 1, 1, none⟩ = some (.int .u64 (lb (b) 1)) := fun w' h => (cell_of_row _ _ 1 _ _ _ (B.block_below h)).trans rfl
    have cB2 : ∀ w', Below wx.heap.size wx w' → w'.cell? ⟨w.heap.size + 1, 2, none⟩ = some (.int .u64 (lb (b) 2)) := fun w' h => (cell_of_row _ _ 2 _ _ _ (B.block_below h)).trans rfl
    have cB3 : ∀ w', Below wx.heap.size wx w' → w'.cell? ⟨w.heap.size + 1, 3, none⟩ = some (.int .u64 (lb (b) 3)) := fun w' h => (cell_of_row _ _ 3 _ _ _ (B.block_below h)).trans rfl
    have h0 : Below wx.heap.size wx wx.drew := (Below.refl _ _).drew
    clear A B R hW z9 z10 hl hgX hgY HM
    go_upto_region 2 with fail
    go_region_held3 (fun w' => Below wx.heap.size wx w') (first | assumption | exact rstep (by assumption) (by assumption))
      (first | (go_at_call 16; refine (rneg_any _ _).mono ?_; rintro e wk ⟨rfl, hk⟩; have hH : Below wx.heap.size wx wk := rstep hk (by assumption)) | fail)
    all_goals
      have hR1 := HR.out.block_below hH
      have hX1 := HXb.out.block_below hH
      have hB := bstep HB.out hH
      clear cA0 cA1 cA2 cA3 cB0 cB1 cB2 cB3 h0 HR HXb HB hH
      have cX0 := (cell_of_row wk _ 0 _ _ _ hX1).trans (wc_get (q) 0 (by omega))
      have cX1 := (cell_of_row wk _ 1 _ _ _ hX1).trans (wc_get (q) 1 (by omega))
      have cX2 := (cell_of_row wk _ 2 _ _ _ hX1).trans (wc_get (q) 2 (by omega))
      have cX3 := (cell_of_row wk _ 3 _ _ _ hX1).trans (wc_get (q) 3 (by omega))
      have r0 := cell_of_row wk _ 0 _ _ _ hR1
      have fr0 := frozen_of_row wk _ 0 _ _ hR1
      have r1 := cell_of_row wk _ 1 _ _ _ hR1
      have fr1 := frozen_of_row wk _ 1 _ _ hR1
      have r2 := cell_of_row wk _ 2 _ _ _ hR1
      have fr2 := frozen_of_row wk _ 2 _ _ hR1
      have r3 := cell_of_row wk _ 3 _ _ _ hR1
      have fr3 := frozen_of_row wk _ 3 _ _ hR1
      have HR := Lib.hid hR1
      have HB := Lib.hid hB
      clear hR1 hX1 hB
      cases hx : ngN a <;> cases hy : ngN b
      all_goals
        go_wp2_with (first | (go_at_call 32; refine (HS.out _).mono ?_; rintro e wk2 ⟨rfl, hk2⟩; have R2 := HR.out.block_below hk2; replace HB := Lib.hid (bstep HB.out hk2); clear r0 r1 r2 r3 fr0 fr1 fr2 fr3 cX0 cX1 cX2 cX3 HR hk2; have r0 := cell_of_row wk2 _ 0 _ _ _ R2; have fr0 := frozen_of_row wk2 _ 0 _ _ R2; have r1 := cell_of_row wk2 _ 1 _ _ _ R2; have fr1 := frozen_of_row wk2 _ 1 _ _ R2; have r2 := cell_of_row wk2 _ 2 _ _ _ R2; have fr2 := frozen_of_row wk2 _ 2 _ _ R2; have r3 := cell_of_row wk2 _ 3 _ _ _ R2; have fr3 := frozen_of_row wk2 _ 3 _ _ R2; clear R2) | fail)
        first
          | exact bodyPost_ret (v := W q) (by simp [results, Try.results12, go_sem, r0, r1, r2, r3]) rfl ⟨by rw [HQ.out, hx, hy]; unfold tnN; rfl, ((((HB.out.setCell (p := ⟨w.heap.size + 1 + 1, 0, none⟩) (by simp; try omega) _).setCell (p := ⟨w.heap.size + 1 + 1, 1, none⟩) (by simp; try omega) _).setCell (p := ⟨w.heap.size + 1 + 1, 2, none⟩) (by simp; try omega) _).setCell (p := ⟨w.heap.size + 1 + 1, 3, none⟩) (by simp; try omega) _)⟩
          | exact bodyPost_ret (v := W (sb 0 q)) (by simp [results, Try.results12, go_sem, r0, r1, r2, r3]) rfl ⟨by rw [HQ.out, hx, hy]; unfold tnN; rfl, ((((HB.out.setCell (p := ⟨w.heap.size + 1 + 1, 0, none⟩) (by simp; try omega) _).setCell (p := ⟨w.heap.size + 1 + 1, 1, none⟩) (by simp; try omega) _).setCell (p := ⟨w.heap.size + 1 + 1, 2, none⟩) (by simp; try omega) _).setCell (p := ⟨w.heap.size + 1 + 1, 3, none⟩) (by simp; try omega) _)⟩

set_option maxRecDepth 100000 in
set_option maxHeartbeats 4000000 in
theorem rsmod_any (a b : Nat) (ha : a < MM) (hb : b < MM) (w : World) :
    Calls Try.prog 14 #[W a, W b] w fun e w' => e = .returned (W (smN a b)) ∧ Below w.heap.size w w' := by
  unfold smN
  have hA := tn_lt a ha
  have hB := tn_lt b hb
  have hpa := fun w => rabs_any a w
  have hpb := fun w => rabs_any b w
  generalize tnN a (ngN a) = x at hA hpa ⊢
  generalize tnN b (ngN b) = y at hB hpb ⊢
  have HM := Lib.hid (And.intro hA hB)
  have HPA := Lib.hid hpa
  have HPB := Lib.hid hpb
  have hi : (Try.prog.info? 24).map (·.size) = some (Wc 0).size := by kernel_rfl
  have HI := Lib.hid hi
  clear hpa hpb ha hb hA hB hi
  have A : Blk (((w.alloc (.cells (Wc a) 24)).alloc (.cells (Wc b) 24)).alloc (.cells #[.int .u64 0, .int .u64 0, .int .u64 0, .int .u64 0] 24)) w.heap.size 24 (Wc a) := ((Blk.new _ _ _).alloc _).alloc _
  have B : Blk (((w.alloc (.cells (Wc a) 24)).alloc (.cells (Wc b) 24)).alloc (.cells #[.int .u64 0, .int .u64 0, .int .u64 0, .int .u64 0] 24)) (w.heap.size + 1) 24 (Wc b) := (Blk.newS w _ _ _).alloc _
  have R : Blk (((w.alloc (.cells (Wc a) 24)).alloc (.cells (Wc b) 24)).alloc (.cells #[.int .u64 0, .int .u64 0, .int .u64 0, .int .u64 0] 24)) (w.heap.size + 1 + 1) 24 #[.int .u64 0, .int .u64 0, .int .u64 0, .int .u64 0] := by
    have h := Blk.newS (w.alloc (.cells (Wc a) 24)) (.cells (Wc b) 24) 24 #[.int .u64 0, .int .u64 0, .int .u64 0, .int .u64 0]
    rwa [World.size_alloc] at h
  have hW : Below w.heap.size w (((w.alloc (.cells (Wc a) 24)).alloc (.cells (Wc b) 24)).alloc (.cells #[.int .u64 0, .int .u64 0, .int .u64 0, .int .u64 0] 24)) := balloc (balloc (balloc (Below.refl _ _) _) _) _
  have HP := Lib.hid (And.intro A (And.intro B (And.intro R hW)))
  clear A B R hW
  go_enter Try.func14, Try.ntmps14
  go_upto_region 1 with fail
  obtain ⟨W0, hW0⟩ : ∃ W0, (((w.alloc (.cells (Wc a) 24)).alloc (.cells (Wc b) 24)).alloc (.cells #[.int .u64 0, .int .u64 0, .int .u64 0, .int .u64 0] 24)) = W0 := ⟨_, rfl⟩
  rw [hW0] at HP ⊢
  clear hW0
  obtain ⟨A, B, R, hW⟩ := HP.out
  clear HP
  have hl0 := R.lt
  rename_i Kc hKc
  have cA0 : ∀ w', Below W0.heap.size W0 w' → w'.cell? ⟨w.heap.size, 0, none⟩ = some (.int .u64 (lb (a) 0)) := fun w' h => (cell_of_row _ _ 0 _ _ _ (A.block_below h)).trans rfl
  have cA1 : ∀ w', Below W0.heap.size W0 w' → w'.cell? ⟨w.heap.size, 1, none⟩ = some (.int .u64 (lb (a) 1)) := fun w' h => (cell_of_row _ _ 1 _ _ _ (A.block_below h)).trans rfl
  have cA2 : ∀ w', Below W0.heap.size W0 w' → w'.cell? ⟨w.heap.size, 2, none⟩ = some (.int .u64 (lb (a) 2)) := fun w' h => (cell_of_row _ _ 2 _ _ _ (A.block_below h)).trans rfl
  have cA3 : ∀ w', Below W0.heap.size W0 w' → w'.cell? ⟨w.heap.size, 3, none⟩ = some (.int .u64 (lb (a) 3)) := fun w' h => (cell_of_row _ _ 3 _ _ _ (A.block_below h)).trans rfl
  have cB0 : ∀ w', Below W0.heap.size W0 w' → w'.cell? ⟨w.heap.size + 1, 0, none⟩ = some (.int .u64 (lb (b) 0)) := fun w' h => (cell_of_row _ _ 0 _ _ _ (B.block_below h)).trans rfl
  have cB1 : ∀ w', Below W0.heap.size W0 w' → w'.cell? ⟨w.heap.size + 1, 1, none⟩ = some (.int .u64 (lb (b) 1)) := fun w' h => (cell_of_row _ _ 1 _ _ _ (B.block_below h)).trans rfl
  have cB2 : ∀ w', Below W0.heap.size W0 w' → w'.cell? ⟨w.heap.size + 1, 2, none⟩ = some (.int .u64 (lb (b) 2)) := fun w' h => (cell_of_row _ _ 2 _ _ _ (B.block_below h)).trans rfl
  have cB3 : ∀ w', Below W0.heap.size W0 w' → w'.cell? ⟨w.heap.size + 1, 3, none⟩ = some (.int .u64 (lb (b) 3)) := fun w' h => (cell_of_row _ _ 3 _ _ _ (B.block_below h)).trans rfl
  refine join2 (C := fun X Y wz => Blk wz X 24 #[.int .u64 0, .int .u64 0, .int .u64 0, .int .u64 0] ∧ Blk wz Y 24 #[.int .u64 0, .int .u64 0, .int .u64 0, .int .u64 0] ∧ X ≠ Y ∧ W0.heap.size ≤ X ∧ W0.heap.size ≤ Y ∧ Below W0.heap.size W0 wz) ?PJ ?main ?hrest
  case main =>
    intro rest
    refine wp_region_held_drew (S := fun w' => Below W0.heap.size W0 w') (by as_aux_lemma => kernel_rfl) (Below.refl _ _).drew (fun hHeld => ?_)
    simp only [List.size_toArray, List.length_cons, List.length_nil, Nat.reduceAdd, Array.replicate_succ, Array.replicate_zero, List.push_toArray, List.nil_append, List.cons_append]
    refine wpAnyH_take (i := 0) (oi := { dst := some 8, op := Op.load 24 (Operand.tmp 2), type := 24, pos := "ref.go:62", after := #[], guard := none }) (v := ?vq0) rfl (by as_aux_lemma => kernel_rfl) (by as_aux_lemma => kernel_rfl) (by as_aux_lemma => kernel_rfl) (fun _ _ _ h => h) (Or.inl ⟨by rfl, ?yq0⟩) (by assumption) ?rq0
    case yq0 => (intro w hSw; (try dsimp only at hSw); go_simp <;> with_reducible rfl)
    simp only [Act.put, List.setIfInBounds_toArray, List.set_cons_zero, List.set_cons_succ]
    refine wpAnyH_take (i := 2) (oi := { dst := some 10, op := Op.load 24 (Operand.tmp 3), type := 24, pos := "ref.go:62", after := #[], guard := none }) (v := ?vq1) rfl (by as_aux_lemma => kernel_rfl) (by as_aux_lemma => kernel_rfl) (by as_aux_lemma => kernel_rfl) (fun _ _ _ h => h) (Or.inl ⟨by rfl, ?yq1⟩) (by assumption) ?rq1
    case yq1 => (intro w hSw; (try dsimp only at hSw); go_simp <;> with_reducible rfl)
    simp only [Act.put, List.setIfInBounds_toArray, List.set_cons_zero, List.set_cons_succ]
    refine wpAnyH_ready (rs := [1, 8, 9]) (by as_aux_lemma => kernel_rfl) (by simp) ?_
    refine AllReadyH.cons (o := { dst := some 9, op := Op.call { callee := Callee.value (Operand.func 39), args := #[Operand.tmp 8], argTypes := #[24] }, type := 24, pos := "ref.go:62", after := #[{ on := 0, ground := Ground.data }], guard := none }) rfl (fun K hK => ?_) ?_
    · rw [if_pos (by rfl)]
      go_simp
      (go_at_call 39; refine (HPA.out _).mono ?_; rintro e wk1 ⟨rfl, hk1⟩)
      refine hK.out _ _ (by (try dsimp only); (first | assumption | exact (Below.refl _ _).drew | exact (balloc (Below.refl _ _) _).drew | exact (balloc (balloc (Below.refl _ _) _) _).drew | exact rstep (by assumption) (by assumption) | exact balloc (by assumption) _ | exact balloc (balloc (by assumption) _) _)) (fun hHeld => ?_)
      clear hK K
      simp only [List.setIfInBounds_toArray, List.set_cons_zero, List.set_cons_succ]
      refine wpAnyH_ready (rs := [3, 8, 9]) (by as_aux_lemma => kernel_rfl) (by simp) ?_
      refine AllReadyH.cons (o := { dst := some 11, op := Op.call { callee := Callee.value (Operand.func 39), args := #[Operand.tmp 10], argTypes := #[24] }, type := 24, pos := "ref.go:62", after := #[{ on := 2, ground := Ground.data }, { on := 1, ground := Ground.chain }], guard := none }) rfl (fun K hK => ?_) ?_
      · rw [if_pos (by rfl)]
        go_simp
        (go_at_call 39; refine (HPB.out _).mono ?_; rintro e wk3 ⟨rfl, hk3⟩)
        refine hK.out _ _ (by (try dsimp only); (first | assumption | exact (Below.refl _ _).drew | exact (balloc (Below.refl _ _) _).drew | exact (balloc (balloc (Below.refl _ _) _) _).drew | exact rstep (by assumption) (by assumption) | exact balloc (by assumption) _ | exact balloc (balloc (by assumption) _) _)) (fun hHeld => ?_)
        clear hK K
        simp only [List.setIfInBounds_toArray, List.set_cons_zero, List.set_cons_succ]
        refine wpAnyH_ready (rs := [4, 8, 9]) (by as_aux_lemma => kernel_rfl) (by simp) ?_
        refine AllReadyH.cons (o := { dst := some 12, op := Op.call { callee := Callee.value (Operand.func 8), args := #[Operand.tmp 9, Operand.tmp 11], argTypes := #[24, 24] }, type := 25, pos := "ref.go:62", after := #[{ on := 1, ground := Ground.data }, { on := 3, ground := Ground.data }, { on := 3, ground := Ground.chain }], guard := none }) rfl (fun K hK => ?_) ?_
        · rw [if_pos (by rfl)]
          go_simp
          (go_at_call 8; refine (rdivide_all x y HM.out.1 HM.out.2 _).mono ?_; rintro e wk4 ⟨rfl, hk4⟩)
          refine hK.out _ _ (by (try dsimp only); (first | assumption | exact (Below.refl _ _).drew | exact (balloc (Below.refl _ _) _).drew | exact (balloc (balloc (Below.refl _ _) _) _).drew | exact rstep (by assumption) (by assumption) | exact balloc (by assumption) _ | exact balloc (balloc (by assumption) _) _)) (fun hHeld => ?_)
          clear hK K
          simp only [List.setIfInBounds_toArray, List.set_cons_zero, List.set_cons_succ]
          refine wpAnyH_take (i := 5) (oi := { dst := some 7, op := Op.move (Operand.tmp 12), type := 25, pos := "ref.go:62", after := #[{ on := 4, ground := Ground.data }], guard := none }) (v := ?vq5) rfl (by as_aux_lemma => kernel_rfl) (by as_aux_lemma => kernel_rfl) (by as_aux_lemma => kernel_rfl) (fun _ _ _ h => h) (Or.inl ⟨by rfl, ?yq5⟩) (by assumption) ?rq5
          case yq5 => (intro w hSw; (try dsimp only at hSw); go_simp <;> with_reducible rfl)
          simp only [Act.put, List.setIfInBounds_toArray, List.set_cons_zero, List.set_cons_succ]
          refine wpAnyH_take (i := 6) (oi := { dst := some 13, op := Op.extract (Operand.tmp 7) 0, type := 24, pos := "ref.go:62", after := #[{ on := 5, ground := Ground.data }], guard := none }) (v := ?vq6) rfl (by as_aux_lemma => kernel_rfl) (by as_aux_lemma => kernel_rfl) (by as_aux_lemma => kernel_rfl) (fun _ _ _ h => h) (Or.inl ⟨by rfl, ?yq6⟩) (by assumption) ?rq6
          case yq6 => (intro w hSw; (try dsimp only at hSw); go_simp <;> with_reducible rfl)
          simp only [Act.put, List.setIfInBounds_toArray, List.set_cons_zero, List.set_cons_succ]
          refine wpAnyH_take (i := 7) (oi := { dst := some 14, op := Op.extract (Operand.tmp 7) 1, type := 24, pos := "ref.go:62", after := #[{ on := 5, ground := Ground.data }, { on := 10, ground := Ground.gcOnly Departure.lateStores }], guard := none }) (v := ?vq7) rfl (by as_aux_lemma => kernel_rfl) (by as_aux_lemma => kernel_rfl) (by as_aux_lemma => kernel_rfl) (fun _ _ _ h => h) (Or.inl ⟨by rfl, ?yq7⟩) (by assumption) ?rq7
          case yq7 => (intro w hSw; (try dsimp only at hSw); go_simp <;> with_reducible rfl)
          simp only [Act.put, List.setIfInBounds_toArray, List.set_cons_zero, List.set_cons_succ]
          refine wpAnyH_ready (rs := [8, 9]) (by as_aux_lemma => kernel_rfl) (by simp) ?_
          refine AllReadyH.cons (o := { dst := some 5, op := Op.alloc 24, type := 0, pos := "ref.go:62", after := #[], guard := none }) rfl (fun K hK => ?_) ?_
          · rw [if_pos (by rfl)]
            go_simp
            refine hK.out _ _ (by (try dsimp only); (first | assumption | exact (Below.refl _ _).drew | exact (balloc (Below.refl _ _) _).drew | exact (balloc (balloc (Below.refl _ _) _) _).drew | exact rstep (by assumption) (by assumption) | exact balloc (by assumption) _ | exact balloc (balloc (by assumption) _) _)) (fun hHeld => ?_)
            clear hK K
            simp only [List.setIfInBounds_toArray, List.set_cons_zero, List.set_cons_succ]
            refine wpAnyH_ready (rs := [9]) (by as_aux_lemma => kernel_rfl) (by simp) ?_
            refine AllReadyH.cons (o := { dst := some 6, op := Op.alloc 24, type := 0, pos := "ref.go:62", after := #[], guard := none }) rfl (fun K hK => ?_) (by exact AllReadyH.nil)
            rw [if_pos (by rfl)]
            go_simp
            refine hK.out _ _ (by (try dsimp only); (first | assumption | exact (Below.refl _ _).drew | exact (balloc (Below.refl _ _) _).drew | exact (balloc (balloc (Below.refl _ _) _) _).drew | exact rstep (by assumption) (by assumption) | exact balloc (by assumption) _ | exact balloc (balloc (by assumption) _) _)) (fun hHeld => ?_)
            clear hK K
            simp only [List.setIfInBounds_toArray, List.set_cons_zero, List.set_cons_succ]
            have z1 : Blk ((wk4.alloc (.cells #[.int .u64 0, .int .u64 0, .int .u64 0, .int .u64 0] 24)).alloc (.cells #[.int .u64 0, .int .u64 0, .int .u64 0, .int .u64 0] 24)) wk4.heap.size 24 #[.int .u64 0, .int .u64 0, .int .u64 0, .int .u64 0] := (Blk.new _ _ _).alloc _
            have z2 : Blk ((wk4.alloc (.cells #[.int .u64 0, .int .u64 0, .int .u64 0, .int .u64 0] 24)).alloc (.cells #[.int .u64 0, .int .u64 0, .int .u64 0, .int .u64 0] 24)) (wk4.heap.size + 1) 24 #[.int .u64 0, .int .u64 0, .int .u64 0, .int .u64 0] := Blk.newS _ _ _ _
            have z3 : wk4.heap.size ≠ wk4.heap.size + 1 := by omega
            have z4 : W0.heap.size ≤ wk4.heap.size := by (have e1 := hk1.size; have e3 := hk3.size; have e4 := hk4.size; first | (simp only [World.size_drew'] at e1 e3 e4 ⊢; omega) | (simp only [World.size_alloc, World.size_drew'] at e1 e3 e4 ⊢; omega))
            have z5 : W0.heap.size ≤ wk4.heap.size + 1 := by omega
            have z6 := hHeld
            clear hHeld
            generalize ((wk4.alloc _).alloc _) = wz at z1 z2 z6 ⊢
            generalize wk4.heap.size + 1 = Y at z2 z3 z5 ⊢
            generalize wk4.heap.size = X at z1 z3 z4 ⊢
            exact rest X Y wz ⟨z1, z2, z3, z4, z5, z6⟩
          refine AllReadyH.cons (o := { dst := some 6, op := Op.alloc 24, type := 0, pos := "ref.go:62", after := #[], guard := none }) rfl (fun K hK => ?_) (by exact AllReadyH.nil)
          rw [if_pos (by rfl)]
          go_simp
          refine hK.out _ _ (by (try dsimp only); (first | assumption | exact (Below.refl _ _).drew | exact (balloc (Below.refl _ _) _).drew | exact (balloc (balloc (Below.refl _ _) _) _).drew | exact rstep (by assumption) (by assumption) | exact balloc (by assumption) _ | exact balloc (balloc (by assumption) _) _)) (fun hHeld => ?_)
          clear hK K
          simp only [List.setIfInBounds_toArray, List.set_cons_zero, List.set_cons_succ]
          refine wpAnyH_ready (rs := [8]) (by as_aux_lemma => kernel_rfl) (by simp) ?_
          refine AllReadyH.cons (o := { dst := some 5, op := Op.alloc 24, type := 0, pos := "ref.go:62", after := #[], guard := none }) rfl (fun K hK => ?_) (by exact AllReadyH.nil)
          rw [if_pos (by rfl)]
          go_simp
          refine hK.out _ _ (by (try dsimp only); (first | assumption | exact (Below.refl _ _).drew | exact (balloc (Below.refl _ _) _).drew | exact (balloc (balloc (Below.refl _ _) _) _).drew | exact rstep (by assumption) (by assumption) | exact balloc (by assumption) _ | exact balloc (balloc (by assumption) _) _)) (fun hHeld => ?_)
          clear hK K
          simp only [List.setIfInBounds_toArray, List.set_cons_zero, List.set_cons_succ]
          refine rest _ _ _ ⟨?_, ?_, ?_, ?_, ?_, hHeld⟩
          · (repeat (first | exact Blk.new _ _ _ | exact Blk.newS _ _ _ _ | with_reducible refine Blk.drewR ?_ | with_reducible refine Blk.alloc ?_ _ | refine Blk.keep ?_ hk4 | refine Blk.keep ?_ hk3 | refine Blk.keep ?_ hk1))
          · (repeat (first | exact Blk.new _ _ _ | exact Blk.newS _ _ _ _ | with_reducible refine Blk.drewR ?_ | with_reducible refine Blk.alloc ?_ _ | refine Blk.keep ?_ hk4 | refine Blk.keep ?_ hk3 | refine Blk.keep ?_ hk1))
          · (have e1 := hk1.size; have e3 := hk3.size; have e4 := hk4.size; first | (simp only [World.size_drew'] at e1 e3 e4 ⊢; omega) | (simp only [World.size_alloc, World.size_drew'] at e1 e3 e4 ⊢; omega))
          · (have e1 := hk1.size; have e3 := hk3.size; have e4 := hk4.size; first | (simp only [World.size_drew'] at e1 e3 e4 ⊢; omega) | (simp only [World.size_alloc, World.size_drew'] at e1 e3 e4 ⊢; omega))
          · (have e1 := hk1.size; have e3 := hk3.size; have e4 := hk4.size; first | (simp only [World.size_drew'] at e1 e3 e4 ⊢; omega) | (simp only [World.size_alloc, World.size_drew'] at e1 e3 e4 ⊢; omega))
        refine AllReadyH.cons (o := { dst := some 5, op := Op.alloc 24, type := 0, pos := "ref.go:62", after := #[], guard := none }) rfl (fun K hK => ?_) ?_
        · rw [if_pos (by rfl)]
          go_simp
          refine hK.out _ _ (by (try dsimp only); (first | assumption | exact (Below.refl _ _).drew | exact (balloc (Below.refl _ _) _).drew | exact (balloc (balloc (Below.refl _ _) _) _).drew | exact rstep (by assumption) (by assumption) | exact balloc (by assumption) _ | exact balloc (balloc (by assumption) _) _)) (fun hHeld => ?_)
          clear hK K
          simp only [List.setIfInBounds_toArray, List.set_cons_zero, List.set_cons_succ]
          refine wpAnyH_ready (rs := [4, 9]) (by as_aux_lemma => kernel_rfl) (by simp) ?_
          refine AllReadyH.cons (o := { dst := some 12, op := Op.call { callee := Callee.value (Operand.func 8), args := #[Operand.tmp 9, Operand.tmp 11], argTypes := #[24, 24] }, type := 25, pos := "ref.go:62", after := #[{ on := 1, ground := Ground.data }, { on := 3, ground := Ground.data }, { on := 3, ground := Ground.chain }], guard := none }) rfl (fun K hK => ?_) ?_
          · rw [if_pos (by rfl)]
            go_simp
            (go_at_call 8; refine (rdivide_all x y HM.out.1 HM.out.2 _).mono ?_; rintro e wk4 ⟨rfl, hk4⟩)
            refine hK.out _ _ (by (try dsimp only); (first | assumption | exact (Below.refl _ _).drew | exact (balloc (Below.refl _ _) _).drew | exact (balloc (balloc (Below.refl _ _) _) _).drew | exact rstep (by assumption) (by assumption) | exact balloc (by assumption) _ | exact balloc (balloc (by assumption) _) _)) (fun hHeld => ?_)
            clear hK K
            simp only [List.setIfInBounds_toArray, List.set_cons_zero, List.set_cons_succ]
            refine wpAnyH_take (i := 5) (oi := { dst := some 7, op := Op.move (Operand.tmp 12), type := 25, pos := "ref.go:62", after := #[{ on := 4, ground := Ground.data }], guard := none }) (v := ?vq12) rfl (by as_aux_lemma => kernel_rfl) (by as_aux_lemma => kernel_rfl) (by as_aux_lemma => kernel_rfl) (fun _ _ _ h => h) (Or.inl ⟨by rfl, ?yq12⟩) (by assumption) ?rq12
            case yq12 => (intro w hSw; (try dsimp only at hSw); go_simp <;> with_reducible rfl)
            simp only [Act.put, List.setIfInBounds_toArray, List.set_cons_zero, List.set_cons_succ]
            refine wpAnyH_take (i := 6) (oi := { dst := some 13, op := Op.extract (Operand.tmp 7) 0, type := 24, pos := "ref.go:62", after := #[{ on := 5, ground := Ground.data }], guard := none }) (v := ?vq13) rfl (by as_aux_lemma => kernel_rfl) (by as_aux_lemma => kernel_rfl) (by as_aux_lemma => kernel_rfl) (fun _ _ _ h => h) (Or.inl ⟨by rfl, ?yq13⟩) (by assumption) ?rq13
            case yq13 => (intro w hSw; (try dsimp only at hSw); go_simp <;> with_reducible rfl)
            simp only [Act.put, List.setIfInBounds_toArray, List.set_cons_zero, List.set_cons_succ]
            refine wpAnyH_take (i := 7) (oi := { dst := some 14, op := Op.extract (Operand.tmp 7) 1, type := 24, pos := "ref.go:62", after := #[{ on := 5, ground := Ground.data }, { on := 10, ground := Ground.gcOnly Departure.lateStores }], guard := none }) (v := ?vq14) rfl (by as_aux_lemma => kernel_rfl) (by as_aux_lemma => kernel_rfl) (by as_aux_lemma => kernel_rfl) (fun _ _ _ h => h) (Or.inl ⟨by rfl, ?yq14⟩) (by assumption) ?rq14
            case yq14 => (intro w hSw; (try dsimp only at hSw); go_simp <;> with_reducible rfl)
            simp only [Act.put, List.setIfInBounds_toArray, List.set_cons_zero, List.set_cons_succ]
            refine wpAnyH_ready (rs := [9]) (by as_aux_lemma => kernel_rfl) (by simp) ?_
            refine AllReadyH.cons (o := { dst := some 6, op := Op.alloc 24, type := 0, pos := "ref.go:62", after := #[], guard := none }) rfl (fun K hK => ?_) (by exact AllReadyH.nil)
            rw [if_pos (by rfl)]
            go_simp
            refine hK.out _ _ (by (try dsimp only); (first | assumption | exact (Below.refl _ _).drew | exact (balloc (Below.refl _ _) _).drew | exact (balloc (balloc (Below.refl _ _) _) _).drew | exact rstep (by assumption) (by assumption) | exact balloc (by assumption) _ | exact balloc (balloc (by assumption) _) _)) (fun hHeld => ?_)
            clear hK K
            simp only [List.setIfInBounds_toArray, List.set_cons_zero, List.set_cons_succ]
            refine rest _ _ _ ⟨?_, ?_, ?_, ?_, ?_, hHeld⟩
            · (repeat (first | exact Blk.new _ _ _ | exact Blk.newS _ _ _ _ | with_reducible refine Blk.drewR ?_ | with_reducible refine Blk.alloc ?_ _ | refine Blk.keep ?_ hk4 | refine Blk.keep ?_ hk3 | refine Blk.keep ?_ hk1))
            · (repeat (first | exact Blk.new _ _ _ | exact Blk.newS _ _ _ _ | with_reducible refine Blk.drewR ?_ | with_reducible refine Blk.alloc ?_ _ | refine Blk.keep ?_ hk4 | refine Blk.keep ?_ hk3 | refine Blk.keep ?_ hk1))
            · (have e1 := hk1.size; have e3 := hk3.size; have e4 := hk4.size; first | (simp only [World.size_drew'] at e1 e3 e4 ⊢; omega) | (simp only [World.size_alloc, World.size_drew'] at e1 e3 e4 ⊢; omega))
            · (have e1 := hk1.size; have e3 := hk3.size; have e4 := hk4.size; first | (simp only [World.size_drew'] at e1 e3 e4 ⊢; omega) | (simp only [World.size_alloc, World.size_drew'] at e1 e3 e4 ⊢; omega))
            · (have e1 := hk1.size; have e3 := hk3.size; have e4 := hk4.size; first | (simp only [World.size_drew'] at e1 e3 e4 ⊢; omega) | (simp only [World.size_alloc, World.size_drew'] at e1 e3 e4 ⊢; omega))
          refine AllReadyH.cons (o := { dst := some 6, op := Op.alloc 24, type := 0, pos := "ref.go:62", after := #[], guard := none }) rfl (fun K hK => ?_) (by exact AllReadyH.nil)
          rw [if_pos (by rfl)]
          go_simp
          refine hK.out _ _ (by (try dsimp only); (first | assumption | exact (Below.refl _ _).drew | exact (balloc (Below.refl _ _) _).drew | exact (balloc (balloc (Below.refl _ _) _) _).drew | exact rstep (by assumption) (by assumption) | exact balloc (by assumption) _ | exact balloc (balloc (by assumption) _) _)) (fun hHeld => ?_)
          clear hK K
          simp only [List.setIfInBounds_toArray, List.set_cons_zero, List.set_cons_succ]
          refine wpAnyH_ready (rs := [4]) (by as_aux_lemma => kernel_rfl) (by simp) ?_
          refine AllReadyH.cons (o := { dst := some 12, op := Op.call { callee := Callee.value (Operand.func 8), args := #[Operand.tmp 9, Operand.tmp 11], argTypes := #[24, 24] }, type := 25, pos := "ref.go:62", after := #[{ on := 1, ground := Ground.data }, { on := 3, ground := Ground.data }, { on := 3, ground := Ground.chain }], guard := none }) rfl (fun K hK => ?_) (by exact AllReadyH.nil)
          rw [if_pos (by rfl)]
          go_simp
          (go_at_call 8; refine (rdivide_all x y HM.out.1 HM.out.2 _).mono ?_; rintro e wk4 ⟨rfl, hk4⟩)
          refine hK.out _ _ (by (try dsimp only); (first | assumption | exact (Below.refl _ _).drew | exact (balloc (Below.refl _ _) _).drew | exact (balloc (balloc (Below.refl _ _) _) _).drew | exact rstep (by assumption) (by assumption) | exact balloc (by assumption) _ | exact balloc (balloc (by assumption) _) _)) (fun hHeld => ?_)
          clear hK K
          simp only [List.setIfInBounds_toArray, List.set_cons_zero, List.set_cons_succ]
          refine wpAnyH_take (i := 5) (oi := { dst := some 7, op := Op.move (Operand.tmp 12), type := 25, pos := "ref.go:62", after := #[{ on := 4, ground := Ground.data }], guard := none }) (v := ?vq17) rfl (by as_aux_lemma => kernel_rfl) (by as_aux_lemma => kernel_rfl) (by as_aux_lemma => kernel_rfl) (fun _ _ _ h => h) (Or.inl ⟨by rfl, ?yq17⟩) (by assumption) ?rq17
          case yq17 => (intro w hSw; (try dsimp only at hSw); go_simp <;> with_reducible rfl)
          simp only [Act.put, List.setIfInBounds_toArray, List.set_cons_zero, List.set_cons_succ]
          refine wpAnyH_take (i := 6) (oi := { dst := some 13, op := Op.extract (Operand.tmp 7) 0, type := 24, pos := "ref.go:62", after := #[{ on := 5, ground := Ground.data }], guard := none }) (v := ?vq18) rfl (by as_aux_lemma => kernel_rfl) (by as_aux_lemma => kernel_rfl) (by as_aux_lemma => kernel_rfl) (fun _ _ _ h => h) (Or.inl ⟨by rfl, ?yq18⟩) (by assumption) ?rq18
          case yq18 => (intro w hSw; (try dsimp only at hSw); go_simp <;> with_reducible rfl)
          simp only [Act.put, List.setIfInBounds_toArray, List.set_cons_zero, List.set_cons_succ]
          refine wpAnyH_take (i := 7) (oi := { dst := some 14, op := Op.extract (Operand.tmp 7) 1, type := 24, pos := "ref.go:62", after := #[{ on := 5, ground := Ground.data }, { on := 10, ground := Ground.gcOnly Departure.lateStores }], guard := none }) (v := ?vq19) rfl (by as_aux_lemma => kernel_rfl) (by as_aux_lemma => kernel_rfl) (by as_aux_lemma => kernel_rfl) (fun _ _ _ h => h) (Or.inl ⟨by rfl, ?yq19⟩) (by assumption) ?rq19
          case yq19 => (intro w hSw; (try dsimp only at hSw); go_simp <;> with_reducible rfl)
          simp only [Act.put, List.setIfInBounds_toArray, List.set_cons_zero, List.set_cons_succ]
          refine rest _ _ _ ⟨?_, ?_, ?_, ?_, ?_, hHeld⟩
          · (repeat (first | exact Blk.new _ _ _ | exact Blk.newS _ _ _ _ | with_reducible refine Blk.drewR ?_ | with_reducible refine Blk.alloc ?_ _ | refine Blk.keep ?_ hk4 | refine Blk.keep ?_ hk3 | refine Blk.keep ?_ hk1))
          · (repeat (first | exact Blk.new _ _ _ | exact Blk.newS _ _ _ _ | with_reducible refine Blk.drewR ?_ | with_reducible refine Blk.alloc ?_ _ | refine Blk.keep ?_ hk4 | refine Blk.keep ?_ hk3 | refine Blk.keep ?_ hk1))
          · (have e1 := hk1.size; have e3 := hk3.size; have e4 := hk4.size; first | (simp only [World.size_drew'] at e1 e3 e4 ⊢; omega) | (simp only [World.size_alloc, World.size_drew'] at e1 e3 e4 ⊢; omega))
          · (have e1 := hk1.size; have e3 := hk3.size; have e4 := hk4.size; first | (simp only [World.size_drew'] at e1 e3 e4 ⊢; omega) | (simp only [World.size_alloc, World.size_drew'] at e1 e3 e4 ⊢; omega))
          · (have e1 := hk1.size; have e3 := hk3.size; have e4 := hk4.size; first | (simp only [World.size_drew'] at e1 e3 e4 ⊢; omega) | (simp only [World.size_alloc, World.size_drew'] at e1 e3 e4 ⊢; omega))
        refine AllReadyH.cons (o := { dst := some 6, op := Op.alloc 24, type := 0, pos := "ref.go:62", after := #[], guard := none }) rfl (fun K hK => ?_) (by exact AllReadyH.nil)
        rw [if_pos (by rfl)]
        go_simp
        refine hK.out _ _ (by (try dsimp only); (first | assumption | exact (Below.refl _ _).drew | exact (balloc (Below.refl _ _) _).drew | exact (balloc (balloc (Below.refl _ _) _) _).drew | exact rstep (by assumption) (by assumption) | exact balloc (by assumption) _ | exact balloc (balloc (by assumption) _) _)) (fun hHeld => ?_)
        clear hK K
        simp only [List.setIfInBounds_toArray, List.set_cons_zero, List.set_cons_succ]
        refine wpAnyH_ready (rs := [4, 8]) (by as_aux_lemma => kernel_rfl) (by simp) ?_
        refine AllReadyH.cons (o := { dst := some 12, op := Op.call { callee := Callee.value (Operand.func 8), args := #[Operand.tmp 9, Operand.tmp 11], argTypes := #[24, 24] }, type := 25, pos := "ref.go:62", after := #[{ on := 1, ground := Ground.data }, { on := 3, ground := Ground.data }, { on := 3, ground := Ground.chain }], guard := none }) rfl (fun K hK => ?_) ?_
        · rw [if_pos (by rfl)]
          go_simp
          (go_at_call 8; refine (rdivide_all x y HM.out.1 HM.out.2 _).mono ?_; rintro e wk4 ⟨rfl, hk4⟩)
          refine hK.out _ _ (by (try dsimp only); (first | assumption | exact (Below.refl _ _).drew | exact (balloc (Below.refl _ _) _).drew | exact (balloc (balloc (Below.refl _ _) _) _).drew | exact rstep (by assumption) (by assumption) | exact balloc (by assumption) _ | exact balloc (balloc (by assumption) _) _)) (fun hHeld => ?_)
          clear hK K
          simp only [List.setIfInBounds_toArray, List.set_cons_zero, List.set_cons_succ]
          refine wpAnyH_take (i := 5) (oi := { dst := some 7, op := Op.move (Operand.tmp 12), type := 25, pos := "ref.go:62", after := #[{ on := 4, ground := Ground.data }], guard := none }) (v := ?vq21) rfl (by as_aux_lemma => kernel_rfl) (by as_aux_lemma => kernel_rfl) (by as_aux_lemma => kernel_rfl) (fun _ _ _ h => h) (Or.inl ⟨by rfl, ?yq21⟩) (by assumption) ?rq21
          case yq21 => (intro w hSw; (try dsimp only at hSw); go_simp <;> with_reducible rfl)
          simp only [Act.put, List.setIfInBounds_toArray, List.set_cons_zero, List.set_cons_succ]
          refine wpAnyH_take (i := 6) (oi := { dst := some 13, op := Op.extract (Operand.tmp 7) 0, type := 24, pos := "ref.go:62", after := #[{ on := 5, ground := Ground.data }], guard := none }) (v := ?vq22) rfl (by as_aux_lemma => kernel_rfl) (by as_aux_lemma => kernel_rfl) (by as_aux_lemma => kernel_rfl) (fun _ _ _ h => h) (Or.inl ⟨by rfl, ?yq22⟩) (by assumption) ?rq22
          case yq22 => (intro w hSw; (try dsimp only at hSw); go_simp <;> with_reducible rfl)
          simp only [Act.put, List.setIfInBounds_toArray, List.set_cons_zero, List.set_cons_succ]
          refine wpAnyH_take (i := 7) (oi := { dst := some 14, op := Op.extract (Operand.tmp 7) 1, type := 24, pos := "ref.go:62", after := #[{ on := 5, ground := Ground.data }, { on := 10, ground := Ground.gcOnly Departure.lateStores }], guard := none }) (v := ?vq23) rfl (by as_aux_lemma => kernel_rfl) (by as_aux_lemma => kernel_rfl) (by as_aux_lemma => kernel_rfl) (fun _ _ _ h => h) (Or.inl ⟨by rfl, ?yq23⟩) (by assumption) ?rq23
          case yq23 => (intro w hSw; (try dsimp only at hSw); go_simp <;> with_reducible rfl)
          simp only [Act.put, List.setIfInBounds_toArray, List.set_cons_zero, List.set_cons_succ]
          refine wpAnyH_ready (rs := [8]) (by as_aux_lemma => kernel_rfl) (by simp) ?_
          refine AllReadyH.cons (o := { dst := some 5, op := Op.alloc 24, type := 0, pos := "ref.go:62", after := #[], guard := none }) rfl (fun K hK => ?_) (by exact AllReadyH.nil)
          rw [if_pos (by rfl)]
          go_simp
          refine hK.out _ _ (by (try dsimp only); (first | assumption | exact (Below.refl _ _).drew | exact (balloc (Below.refl _ _) _).drew | exact (balloc (balloc (Below.refl _ _) _) _).drew | exact rstep (by assumption) (by assumption) | exact balloc (by assumption) _ | exact balloc (balloc (by assumption) _) _)) (fun hHeld => ?_)
          clear hK K
          simp only [List.setIfInBounds_toArray, List.set_cons_zero, List.set_cons_succ]
          refine rest _ _ _ ⟨?_, ?_, ?_, ?_, ?_, hHeld⟩
          · (repeat (first | exact Blk.new _ _ _ | exact Blk.newS _ _ _ _ | with_reducible refine Blk.drewR ?_ | with_reducible refine Blk.alloc ?_ _ | refine Blk.keep ?_ hk4 | refine Blk.keep ?_ hk3 | refine Blk.keep ?_ hk1))
          · (repeat (first | exact Blk.new _ _ _ | exact Blk.newS _ _ _ _ | with_reducible refine Blk.drewR ?_ | with_reducible refine Blk.alloc ?_ _ | refine Blk.keep ?_ hk4 | refine Blk.keep ?_ hk3 | refine Blk.keep ?_ hk1))
          · (have e1 := hk1.size; have e3 := hk3.size; have e4 := hk4.size; first | (simp only [World.size_drew'] at e1 e3 e4 ⊢; omega) | (simp only [World.size_alloc, World.size_drew'] at e1 e3 e4 ⊢; omega))
          · (have e1 := hk1.size; have e3 := hk3.size; have e4 := hk4.size; first | (simp only [World.size_drew'] at e1 e3 e4 ⊢; omega) | (simp only [World.size_alloc, World.size_drew'] at e1 e3 e4 ⊢; omega))
          · (have e1 := hk1.size; have e3 := hk3.size; have e4 := hk4.size; first | (simp only [World.size_drew'] at e1 e3 e4 ⊢; omega) | (simp only [World.size_alloc, World.size_drew'] at e1 e3 e4 ⊢; omega))
        refine AllReadyH.cons (o := { dst := some 5, op := Op.alloc 24, type := 0, pos := "ref.go:62", after := #[], guard := none }) rfl (fun K hK => ?_) (by exact AllReadyH.nil)
        rw [if_pos (by rfl)]
        go_simp
        refine hK.out _ _ (by (try dsimp only); (first | assumption | exact (Below.refl _ _).drew | exact (balloc (Below.refl _ _) _).drew | exact (balloc (balloc (Below.refl _ _) _) _).drew | exact rstep (by assumption) (by assumption) | exact balloc (by assumption) _ | exact balloc (balloc (by assumption) _) _)) (fun hHeld => ?_)
        clear hK K
        simp only [List.setIfInBounds_toArray, List.set_cons_zero, List.set_cons_succ]
        refine wpAnyH_ready (rs := [4]) (by as_aux_lemma => kernel_rfl) (by simp) ?_
        refine AllReadyH.cons (o := { dst := some 12, op := Op.call { callee := Callee.value (Operand.func 8), args := #[Operand.tmp 9, Operand.tmp 11], argTypes := #[24, 24] }, type := 25, pos := "ref.go:62", after := #[{ on := 1, ground := Ground.data }, { on := 3, ground := Ground.data }, { on := 3, ground := Ground.chain }], guard := none }) rfl (fun K hK => ?_) (by exact AllReadyH.nil)
        rw [if_pos (by rfl)]
        go_simp
        (go_at_call 8; refine (rdivide_all x y HM.out.1 HM.out.2 _).mono ?_; rintro e wk4 ⟨rfl, hk4⟩)
        refine hK.out _ _ (by (try dsimp only); (first | assumption | exact (Below.refl _ _).drew | exact (balloc (Below.refl _ _) _).drew | exact (balloc (balloc (Below.refl _ _) _) _).drew | exact rstep (by assumption) (by assumption) | exact balloc (by assumption) _ | exact balloc (balloc (by assumption) _) _)) (fun hHeld => ?_)
        clear hK K
        simp only [List.setIfInBounds_toArray, List.set_cons_zero, List.set_cons_succ]
        refine wpAnyH_take (i := 5) (oi := { dst := some 7, op := Op.move (Operand.tmp 12), type := 25, pos := "ref.go:62", after := #[{ on := 4, ground := Ground.data }], guard := none }) (v := ?vq26) rfl (by as_aux_lemma => kernel_rfl) (by as_aux_lemma => kernel_rfl) (by as_aux_lemma => kernel_rfl) (fun _ _ _ h => h) (Or.inl ⟨by rfl, ?yq26⟩) (by assumption) ?rq26
        case yq26 => (intro w hSw; (try dsimp only at hSw); go_simp <;> with_reducible rfl)
        simp only [Act.put, List.setIfInBounds_toArray, List.set_cons_zero, List.set_cons_succ]
        refine wpAnyH_take (i := 6) (oi := { dst := some 13, op := Op.extract (Operand.tmp 7) 0, type := 24, pos := "ref.go:62", after := #[{ on := 5, ground := Ground.data }], guard := none }) (v := ?vq27) rfl (by as_aux_lemma => kernel_rfl) (by as_aux_lemma => kernel_rfl) (by as_aux_lemma => kernel_rfl) (fun _ _ _ h => h) (Or.inl ⟨by rfl, ?yq27⟩) (by assumption) ?rq27
        case yq27 => (intro w hSw; (try dsimp only at hSw); go_simp <;> with_reducible rfl)
        simp only [Act.put, List.setIfInBounds_toArray, List.set_cons_zero, List.set_cons_succ]
        refine wpAnyH_take (i := 7) (oi := { dst := some 14, op := Op.extract (Operand.tmp 7) 1, type := 24, pos := "ref.go:62", after := #[{ on := 5, ground := Ground.data }, { on := 10, ground := Ground.gcOnly Departure.lateStores }], guard := none }) (v := ?vq28) rfl (by as_aux_lemma => kernel_rfl) (by as_aux_lemma => kernel_rfl) (by as_aux_lemma => kernel_rfl) (fun _ _ _ h => h) (Or.inl ⟨by rfl, ?yq28⟩) (by assumption) ?rq28
        case yq28 => (intro w hSw; (try dsimp only at hSw); go_simp <;> with_reducible rfl)
        simp only [Act.put, List.setIfInBounds_toArray, List.set_cons_zero, List.set_cons_succ]
        refine rest _ _ _ ⟨?_, ?_, ?_, ?_, ?_, hHeld⟩
        · (repeat (first | exact Blk.new _ _ _ | exact Blk.newS _ _ _ _ | with_reducible refine Blk.drewR ?_ | with_reducible refine Blk.alloc ?_ _ | refine Blk.keep ?_ hk4 | refine Blk.keep ?_ hk3 | refine Blk.keep ?_ hk1))
        · (repeat (first | exact Blk.new _ _ _ | exact Blk.newS _ _ _ _ | with_reducible refine Blk.drewR ?_ | with_reducible refine Blk.alloc ?_ _ | refine Blk.keep ?_ hk4 | refine Blk.keep ?_ hk3 | refine Blk.keep ?_ hk1))
        · (have e1 := hk1.size; have e3 := hk3.size; have e4 := hk4.size; first | (simp only [World.size_drew'] at e1 e3 e4 ⊢; omega) | (simp only [World.size_alloc, World.size_drew'] at e1 e3 e4 ⊢; omega))
        · (have e1 := hk1.size; have e3 := hk3.size; have e4 := hk4.size; first | (simp only [World.size_drew'] at e1 e3 e4 ⊢; omega) | (simp only [World.size_alloc, World.size_drew'] at e1 e3 e4 ⊢; omega))
        · (have e1 := hk1.size; have e3 := hk3.size; have e4 := hk4.size; first | (simp only [World.size_drew'] at e1 e3 e4 ⊢; omega) | (simp only [World.size_alloc, World.size_drew'] at e1 e3 e4 ⊢; omega))
      refine AllReadyH.cons (o := { dst := some 5, op := Op.alloc 24, type := 0, pos := "ref.go:62", after := #[], guard := none }) rfl (fun K hK => ?_) ?_
      · rw [if_pos (by rfl)]
        go_simp
        refine hK.out _ _ (by (try dsimp only); (first | assumption | exact (Below.refl _ _).drew | exact (balloc (Below.refl _ _) _).drew | exact (balloc (balloc (Below.refl _ _) _) _).drew | exact rstep (by assumption) (by assumption) | exact balloc (by assumption) _ | exact balloc (balloc (by assumption) _) _)) (fun hHeld => ?_)
        clear hK K
        simp only [List.setIfInBounds_toArray, List.set_cons_zero, List.set_cons_succ]
        refine wpAnyH_ready (rs := [3, 9]) (by as_aux_lemma => kernel_rfl) (by simp) ?_
        refine AllReadyH.cons (o := { dst := some 11, op := Op.call { callee := Callee.value (Operand.func 39), args := #[Operand.tmp 10], argTypes := #[24] }, type := 24, pos := "ref.go:62", after := #[{ on := 2, ground := Ground.data }, { on := 1, ground := Ground.chain }], guard := none }) rfl (fun K hK => ?_) ?_
        · rw [if_pos (by rfl)]
          go_simp
          (go_at_call 39; refine (HPB.out _).mono ?_; rintro e wk3 ⟨rfl, hk3⟩)
          refine hK.out _ _ (by (try dsimp only); (first | assumption | exact (Below.refl _ _).drew | exact (balloc (Below.refl _ _) _).drew | exact (balloc (balloc (Below.refl _ _) _) _).drew | exact rstep (by assumption) (by assumption) | exact balloc (by assumption) _ | exact balloc (balloc (by assumption) _) _)) (fun hHeld => ?_)
          clear hK K
          simp only [List.setIfInBounds_toArray, List.set_cons_zero, List.set_cons_succ]
          refine wpAnyH_ready (rs := [4, 9]) (by as_aux_lemma => kernel_rfl) (by simp) ?_
          refine AllReadyH.cons (o := { dst := some 12, op := Op.call { callee := Callee.value (Operand.func 8), args := #[Operand.tmp 9, Operand.tmp 11], argTypes := #[24, 24] }, type := 25, pos := "ref.go:62", after := #[{ on := 1, ground := Ground.data }, { on := 3, ground := Ground.data }, { on := 3, ground := Ground.chain }], guard := none }) rfl (fun K hK => ?_) ?_
          · rw [if_pos (by rfl)]
            go_simp
            (go_at_call 8; refine (rdivide_all x y HM.out.1 HM.out.2 _).mono ?_; rintro e wk4 ⟨rfl, hk4⟩)
            refine hK.out _ _ (by (try dsimp only); (first | assumption | exact (Below.refl _ _).drew | exact (balloc (Below.refl _ _) _).drew | exact (balloc (balloc (Below.refl _ _) _) _).drew | exact rstep (by assumption) (by assumption) | exact balloc (by assumption) _ | exact balloc (balloc (by assumption) _) _)) (fun hHeld => ?_)
            clear hK K
            simp only [List.setIfInBounds_toArray, List.set_cons_zero, List.set_cons_succ]
            refine wpAnyH_take (i := 5) (oi := { dst := some 7, op := Op.move (Operand.tmp 12), type := 25, pos := "ref.go:62", after := #[{ on := 4, ground := Ground.data }], guard := none }) (v := ?vq31) rfl (by as_aux_lemma => kernel_rfl) (by as_aux_lemma => kernel_rfl) (by as_aux_lemma => kernel_rfl) (fun _ _ _ h => h) (Or.inl ⟨by rfl, ?yq31⟩) (by assumption) ?rq31
            case yq31 => (intro w hSw; (try dsimp only at hSw); go_simp <;> with_reducible rfl)
            simp only [Act.put, List.setIfInBounds_toArray, List.set_cons_zero, List.set_cons_succ]
            refine wpAnyH_take (i := 6) (oi := { dst := some 13, op := Op.extract (Operand.tmp 7) 0, type := 24, pos := "ref.go:62", after := #[{ on := 5, ground := Ground.data }], guard := none }) (v := ?vq32) rfl (by as_aux_lemma => kernel_rfl) (by as_aux_lemma => kernel_rfl) (by as_aux_lemma => kernel_rfl) (fun _ _ _ h => h) (Or.inl ⟨by rfl, ?yq32⟩) (by assumption) ?rq32
            case yq32 => (intro w hSw; (try dsimp only at hSw); go_simp <;> with_reducible rfl)
            simp only [Act.put, List.setIfInBounds_toArray, List.set_cons_zero, List.set_cons_succ]
            refine wpAnyH_take (i := 7) (oi := { dst := some 14, op := Op.extract (Operand.tmp 7) 1, type := 24, pos := "ref.go:62", after := #[{ on := 5, ground := Ground.data }, { on := 10, ground := Ground.gcOnly Departure.lateStores }], guard := none }) (v := ?vq33) rfl (by as_aux_lemma => kernel_rfl) (by as_aux_lemma => kernel_rfl) (by as_aux_lemma => kernel_rfl) (fun _ _ _ h => h) (Or.inl ⟨by rfl, ?yq33⟩) (by assumption) ?rq33
            case yq33 => (intro w hSw; (try dsimp only at hSw); go_simp <;> with_reducible rfl)
            simp only [Act.put, List.setIfInBounds_toArray, List.set_cons_zero, List.set_cons_succ]
            refine wpAnyH_ready (rs := [9]) (by as_aux_lemma => kernel_rfl) (by simp) ?_
            refine AllReadyH.cons (o := { dst := some 6, op := Op.alloc 24, type := 0, pos := "ref.go:62", after := #[], guard := none }) rfl (fun K hK => ?_) (by exact AllReadyH.nil)
            rw [if_pos (by rfl)]
            go_simp
            refine hK.out _ _ (by (try dsimp only); (first | assumption | exact (Below.refl _ _).drew | exact (balloc (Below.refl _ _) _).drew | exact (balloc (balloc (Below.refl _ _) _) _).drew | exact rstep (by assumption) (by assumption) | exact balloc (by assumption) _ | exact balloc (balloc (by assumption) _) _)) (fun hHeld => ?_)
            clear hK K
            simp only [List.setIfInBounds_toArray, List.set_cons_zero, List.set_cons_succ]
            refine rest _ _ _ ⟨?_, ?_, ?_, ?_, ?_, hHeld⟩
            · (repeat (first | exact Blk.new _ _ _ | exact Blk.newS _ _ _ _ | with_reducible refine Blk.drewR ?_ | with_reducible refine Blk.alloc ?_ _ | refine Blk.keep ?_ hk4 | refine Blk.keep ?_ hk3 | refine Blk.keep ?_ hk1))
            · (repeat (first | exact Blk.new _ _ _ | exact Blk.newS _ _ _ _ | with_reducible refine Blk.drewR ?_ | with_reducible refine Blk.alloc ?_ _ | refine Blk.keep ?_ hk4 | refine Blk.keep ?_ hk3 | refine Blk.keep ?_ hk1))
            · (have e1 := hk1.size; have e3 := hk3.size; have e4 := hk4.size; first | (simp only [World.size_drew'] at e1 e3 e4 ⊢; omega) | (simp only [World.size_alloc, World.size_drew'] at e1 e3 e4 ⊢; omega))
            · (have e1 := hk1.size; have e3 := hk3.size; have e4 := hk4.size; first | (simp only [World.size_drew'] at e1 e3 e4 ⊢; omega) | (simp only [World.size_alloc, World.size_drew'] at e1 e3 e4 ⊢; omega))
            · (have e1 := hk1.size; have e3 := hk3.size; have e4 := hk4.size; first | (simp only [World.size_drew'] at e1 e3 e4 ⊢; omega) | (simp only [World.size_alloc, World.size_drew'] at e1 e3 e4 ⊢; omega))
          refine AllReadyH.cons (o := { dst := some 6, op := Op.alloc 24, type := 0, pos := "ref.go:62", after := #[], guard := none }) rfl (fun K hK => ?_) (by exact AllReadyH.nil)
          rw [if_pos (by rfl)]
          go_simp
          refine hK.out _ _ (by (try dsimp only); (first | assumption | exact (Below.refl _ _).drew | exact (balloc (Below.refl _ _) _).drew | exact (balloc (balloc (Below.refl _ _) _) _).drew | exact rstep (by assumption) (by assumption) | exact balloc (by assumption) _ | exact balloc (balloc (by assumption) _) _)) (fun hHeld => ?_)
          clear hK K
          simp only [List.setIfInBounds_toArray, List.set_cons_zero, List.set_cons_succ]
          refine wpAnyH_ready (rs := [4]) (by as_aux_lemma => kernel_rfl) (by simp) ?_
          refine AllReadyH.cons (o := { dst := some 12, op := Op.call { callee := Callee.value (Operand.func 8), args := #[Operand.tmp 9, Operand.tmp 11], argTypes := #[24, 24] }, type := 25, pos := "ref.go:62", after := #[{ on := 1, ground := Ground.data }, { on := 3, ground := Ground.data }, { on := 3, ground := Ground.chain }], guard := none }) rfl (fun K hK => ?_) (by exact AllReadyH.nil)
          rw [if_pos (by rfl)]
          go_simp
          (go_at_call 8; refine (rdivide_all x y HM.out.1 HM.out.2 _).mono ?_; rintro e wk4 ⟨rfl, hk4⟩)
          refine hK.out _ _ (by (try dsimp only); (first | assumption | exact (Below.refl _ _).drew | exact (balloc (Below.refl _ _) _).drew | exact (balloc (balloc (Below.refl _ _) _) _).drew | exact rstep (by assumption) (by assumption) | exact balloc (by assumption) _ | exact balloc (balloc (by assumption) _) _)) (fun hHeld => ?_)
          clear hK K
          simp only [List.setIfInBounds_toArray, List.set_cons_zero, List.set_cons_succ]
          refine wpAnyH_take (i := 5) (oi := { dst := some 7, op := Op.move (Operand.tmp 12), type := 25, pos := "ref.go:62", after := #[{ on := 4, ground := Ground.data }], guard := none }) (v := ?vq36) rfl (by as_aux_lemma => kernel_rfl) (by as_aux_lemma => kernel_rfl) (by as_aux_lemma => kernel_rfl) (fun _ _ _ h => h) (Or.inl ⟨by rfl, ?yq36⟩) (by assumption) ?rq36
          case yq36 => (intro w hSw; (try dsimp only at hSw); go_simp <;> with_reducible rfl)
          simp only [Act.put, List.setIfInBounds_toArray, List.set_cons_zero, List.set_cons_succ]
          refine wpAnyH_take (i := 6) (oi := { dst := some 13, op := Op.extract (Operand.tmp 7) 0, type := 24, pos := "ref.go:62", after := #[{ on := 5, ground := Ground.data }], guard := none }) (v := ?vq37) rfl (by as_aux_lemma => kernel_rfl) (by as_aux_lemma => kernel_rfl) (by as_aux_lemma => kernel_rfl) (fun _ _ _ h => h) (Or.inl ⟨by rfl, ?yq37⟩) (by assumption) ?rq37
          case yq37 => (intro w hSw; (try dsimp only at hSw); go_simp <;> with_reducible rfl)
          simp only [Act.put, List.setIfInBounds_toArray, List.set_cons_zero, List.set_cons_succ]
          refine wpAnyH_take (i := 7) (oi := { dst := some 14, op := Op.extract (Operand.tmp 7) 1, type := 24, pos := "ref.go:62", after := #[{ on := 5, ground := Ground.data }, { on := 10, ground := Ground.gcOnly Departure.lateStores }], guard := none }) (v := ?vq38) rfl (by as_aux_lemma => kernel_rfl) (by as_aux_lemma => kernel_rfl) (by as_aux_lemma => kernel_rfl) (fun _ _ _ h => h) (Or.inl ⟨by rfl, ?yq38⟩) (by assumption) ?rq38
          case yq38 => (intro w hSw; (try dsimp only at hSw); go_simp <;> with_reducible rfl)
          simp only [Act.put, List.setIfInBounds_toArray, List.set_cons_zero, List.set_cons_succ]
          refine rest _ _ _ ⟨?_, ?_, ?_, ?_, ?_, hHeld⟩
          · (repeat (first | exact Blk.new _ _ _ | exact Blk.newS _ _ _ _ | with_reducible refine Blk.drewR ?_ | with_reducible refine Blk.alloc ?_ _ | refine Blk.keep ?_ hk4 | refine Blk.keep ?_ hk3 | refine Blk.keep ?_ hk1))
          · (repeat (first | exact Blk.new _ _ _ | exact Blk.newS _ _ _ _ | with_reducible refine Blk.drewR ?_ | with_reducible refine Blk.alloc ?_ _ | refine Blk.keep ?_ hk4 | refine Blk.keep ?_ hk3 | refine Blk.keep ?_ hk1))
          · (have e1 := hk1.size; have e3 := hk3.size; have e4 := hk4.size; first | (simp only [World.size_drew'] at e1 e3 e4 ⊢; omega) | (simp only [World.size_alloc, World.size_drew'] at e1 e3 e4 ⊢; omega))
          · (have e1 := hk1.size; have e3 := hk3.size; have e4 := hk4.size; first | (simp only [World.size_drew'] at e1 e3 e4 ⊢; omega) | (simp only [World.size_alloc, World.size_drew'] at e1 e3 e4 ⊢; omega))
          · (have e1 := hk1.size; have e3 := hk3.size; have e4 := hk4.size; first | (simp only [World.size_drew'] at e1 e3 e4 ⊢; omega) | (simp only [World.size_alloc, World.size_drew'] at e1 e3 e4 ⊢; omega))
        refine AllReadyH.cons (o := { dst := some 6, op := Op.alloc 24, type := 0, pos := "ref.go:62", after := #[], guard := none }) rfl (fun K hK => ?_) (by exact AllReadyH.nil)
        rw [if_pos (by rfl)]
        go_simp
        refine hK.out _ _ (by (try dsimp only); (first | assumption | exact (Below.refl _ _).drew | exact (balloc (Below.refl _ _) _).drew | exact (balloc (balloc (Below.refl _ _) _) _).drew | exact rstep (by assumption) (by assumption) | exact balloc (by assumption) _ | exact balloc (balloc (by assumption) _) _)) (fun hHeld => ?_)
        clear hK K
        simp only [List.setIfInBounds_toArray, List.set_cons_zero, List.set_cons_succ]
        refine wpAnyH_ready (rs := [3]) (by as_aux_lemma => kernel_rfl) (by simp) ?_
        refine AllReadyH.cons (o := { dst := some 11, op := Op.call { callee := Callee.value (Operand.func 39), args := #[Operand.tmp 10], argTypes := #[24] }, type := 24, pos := "ref.go:62", after := #[{ on := 2, ground := Ground.data }, { on := 1, ground := Ground.chain }], guard := none }) rfl (fun K hK => ?_) (by exact AllReadyH.nil)
        rw [if_pos (by rfl)]
        go_simp
        (go_at_call 39; refine (HPB.out _).mono ?_; rintro e wk3 ⟨rfl, hk3⟩)
        refine hK.out _ _ (by (try dsimp only); (first | assumption | exact (Below.refl _ _).drew | exact (balloc (Below.refl _ _) _).drew | exact (balloc (balloc (Below.refl _ _) _) _).drew | exact rstep (by assumption) (by assumption) | exact balloc (by assumption) _ | exact balloc (balloc (by assumption) _) _)) (fun hHeld => ?_)
        clear hK K
        simp only [List.setIfInBounds_toArray, List.set_cons_zero, List.set_cons_succ]
        refine wpAnyH_ready (rs := [4]) (by as_aux_lemma => kernel_rfl) (by simp) ?_
        refine AllReadyH.cons (o := { dst := some 12, op := Op.call { callee := Callee.value (Operand.func 8), args := #[Operand.tmp 9, Operand.tmp 11], argTypes := #[24, 24] }, type := 25, pos := "ref.go:62", after := #[{ on := 1, ground := Ground.data }, { on := 3, ground := Ground.data }, { on := 3, ground := Ground.chain }], guard := none }) rfl (fun K hK => ?_) (by exact AllReadyH.nil)
        rw [if_pos (by rfl)]
        go_simp
        (go_at_call 8; refine (rdivide_all x y HM.out.1 HM.out.2 _).mono ?_; rintro e wk4 ⟨rfl, hk4⟩)
        refine hK.out _ _ (by (try dsimp only); (first | assumption | exact (Below.refl _ _).drew | exact (balloc (Below.refl _ _) _).drew | exact (balloc (balloc (Below.refl _ _) _) _).drew | exact rstep (by assumption) (by assumption) | exact balloc (by assumption) _ | exact balloc (balloc (by assumption) _) _)) (fun hHeld => ?_)
        clear hK K
        simp only [List.setIfInBounds_toArray, List.set_cons_zero, List.set_cons_succ]
        refine wpAnyH_take (i := 5) (oi := { dst := some 7, op := Op.move (Operand.tmp 12), type := 25, pos := "ref.go:62", after := #[{ on := 4, ground := Ground.data }], guard := none }) (v := ?vq41) rfl (by as_aux_lemma => kernel_rfl) (by as_aux_lemma => kernel_rfl) (by as_aux_lemma => kernel_rfl) (fun _ _ _ h => h) (Or.inl ⟨by rfl, ?yq41⟩) (by assumption) ?rq41
        case yq41 => (intro w hSw; (try dsimp only at hSw); go_simp <;> with_reducible rfl)
        simp only [Act.put, List.setIfInBounds_toArray, List.set_cons_zero, List.set_cons_succ]
        refine wpAnyH_take (i := 6) (oi := { dst := some 13, op := Op.extract (Operand.tmp 7) 0, type := 24, pos := "ref.go:62", after := #[{ on := 5, ground := Ground.data }], guard := none }) (v := ?vq42) rfl (by as_aux_lemma => kernel_rfl) (by as_aux_lemma => kernel_rfl) (by as_aux_lemma => kernel_rfl) (fun _ _ _ h => h) (Or.inl ⟨by rfl, ?yq42⟩) (by assumption) ?rq42
        case yq42 => (intro w hSw; (try dsimp only at hSw); go_simp <;> with_reducible rfl)
        simp only [Act.put, List.setIfInBounds_toArray, List.set_cons_zero, List.set_cons_succ]
        refine wpAnyH_take (i := 7) (oi := { dst := some 14, op := Op.extract (Operand.tmp 7) 1, type := 24, pos := "ref.go:62", after := #[{ on := 5, ground := Ground.data }, { on := 10, ground := Ground.gcOnly Departure.lateStores }], guard := none }) (v := ?vq43) rfl (by as_aux_lemma => kernel_rfl) (by as_aux_lemma => kernel_rfl) (by as_aux_lemma => kernel_rfl) (fun _ _ _ h => h) (Or.inl ⟨by rfl, ?yq43⟩) (by assumption) ?rq43
        case yq43 => (intro w hSw; (try dsimp only at hSw); go_simp <;> with_reducible rfl)
        simp only [Act.put, List.setIfInBounds_toArray, List.set_cons_zero, List.set_cons_succ]
        refine rest _ _ _ ⟨?_, ?_, ?_, ?_, ?_, hHeld⟩
        · (repeat (first | exact Blk.new _ _ _ | exact Blk.newS _ _ _ _ | with_reducible refine Blk.drewR ?_ | with_reducible refine Blk.alloc ?_ _ | refine Blk.keep ?_ hk4 | refine Blk.keep ?_ hk3 | refine Blk.keep ?_ hk1))
        · (repeat (first | exact Blk.new _ _ _ | exact Blk.newS _ _ _ _ | with_reducible refine Blk.drewR ?_ | with_reducible refine Blk.alloc ?_ _ | refine Blk.keep ?_ hk4 | refine Blk.keep ?_ hk3 | refine Blk.keep ?_ hk1))
        · (have e1 := hk1.size; have e3 := hk3.size; have e4 := hk4.size; first | (simp only [World.size_drew'] at e1 e3 e4 ⊢; omega) | (simp only [World.size_alloc, World.size_drew'] at e1 e3 e4 ⊢; omega))
        · (have e1 := hk1.size; have e3 := hk3.size; have e4 := hk4.size; first | (simp only [World.size_drew'] at e1 e3 e4 ⊢; omega) | (simp only [World.size_alloc, World.size_drew'] at e1 e3 e4 ⊢; omega))
        · (have e1 := hk1.size; have e3 := hk3.size; have e4 := hk4.size; first | (simp only [World.size_drew'] at e1 e3 e4 ⊢; omega) | (simp only [World.size_alloc, World.size_drew'] at e1 e3 e4 ⊢; omega))
      refine AllReadyH.cons (o := { dst := some 6, op := Op.alloc 24, type := 0, pos := "ref.go:62", after := #[], guard := none }) rfl (fun K hK => ?_) (by exact AllReadyH.nil)
      rw [if_pos (by rfl)]
      go_simp
      refine hK.out _ _ (by (try dsimp only); (first | assumption | exact (Below.refl _ _).drew | exact (balloc (Below.refl _ _) _).drew | exact (balloc (balloc (Below.refl _ _) _) _).drew | exact rstep (by assumption) (by assumption) | exact balloc (by assumption) _ | exact balloc (balloc (by assumption) _) _)) (fun hHeld => ?_)
      clear hK K
      simp only [List.setIfInBounds_toArray, List.set_cons_zero, List.set_cons_succ]
      refine wpAnyH_ready (rs := [3, 8]) (by as_aux_lemma => kernel_rfl) (by simp) ?_
      refine AllReadyH.cons (o := { dst := some 11, op := Op.call { callee := Callee.value (Operand.func 39), args := #[Operand.tmp 10], argTypes := #[24] }, type := 24, pos := "ref.go:62", after := #[{ on := 2, ground := Ground.data }, { on := 1, ground := Ground.chain }], guard := none }) rfl (fun K hK => ?_) ?_
      · rw [if_pos (by rfl)]
        go_simp
        (go_at_call 39; refine (HPB.out _).mono ?_; rintro e wk3 ⟨rfl, hk3⟩)
        refine hK.out _ _ (by (try dsimp only); (first | assumption | exact (Below.refl _ _).drew | exact (balloc (Below.refl _ _) _).drew | exact (balloc (balloc (Below.refl _ _) _) _).drew | exact rstep (by assumption) (by assumption) | exact balloc (by assumption) _ | exact balloc (balloc (by assumption) _) _)) (fun hHeld => ?_)
        clear hK K
        simp only [List.setIfInBounds_toArray, List.set_cons_zero, List.set_cons_succ]
        refine wpAnyH_ready (rs := [4, 8]) (by as_aux_lemma => kernel_rfl) (by simp) ?_
        refine AllReadyH.cons (o := { dst := some 12, op := Op.call { callee := Callee.value (Operand.func 8), args := #[Operand.tmp 9, Operand.tmp 11], argTypes := #[24, 24] }, type := 25, pos := "ref.go:62", after := #[{ on := 1, ground := Ground.data }, { on := 3, ground := Ground.data }, { on := 3, ground := Ground.chain }], guard := none }) rfl (fun K hK => ?_) ?_
        · rw [if_pos (by rfl)]
          go_simp
          (go_at_call 8; refine (rdivide_all x y HM.out.1 HM.out.2 _).mono ?_; rintro e wk4 ⟨rfl, hk4⟩)
          refine hK.out _ _ (by (try dsimp only); (first | assumption | exact (Below.refl _ _).drew | exact (balloc (Below.refl _ _) _).drew | exact (balloc (balloc (Below.refl _ _) _) _).drew | exact rstep (by assumption) (by assumption) | exact balloc (by assumption) _ | exact balloc (balloc (by assumption) _) _)) (fun hHeld => ?_)
          clear hK K
          simp only [List.setIfInBounds_toArray, List.set_cons_zero, List.set_cons_succ]
          refine wpAnyH_take (i := 5) (oi := { dst := some 7, op := Op.move (Operand.tmp 12), type := 25, pos := "ref.go:62", after := #[{ on := 4, ground := Ground.data }], guard := none }) (v := ?vq46) rfl (by as_aux_lemma => kernel_rfl) (by as_aux_lemma => kernel_rfl) (by as_aux_lemma => kernel_rfl) (fun _ _ _ h => h) (Or.inl ⟨by rfl, ?yq46⟩) (by assumption) ?rq46
          case yq46 => (intro w hSw; (try dsimp only at hSw); go_simp <;> with_reducible rfl)
          simp only [Act.put, List.setIfInBounds_toArray, List.set_cons_zero, List.set_cons_succ]
          refine wpAnyH_take (i := 6) (oi := { dst := some 13, op := Op.extract (Operand.tmp 7) 0, type := 24, pos := "ref.go:62", after := #[{ on := 5, ground := Ground.data }], guard := none }) (v := ?vq47) rfl (by as_aux_lemma => kernel_rfl) (by as_aux_lemma => kernel_rfl) (by as_aux_lemma => kernel_rfl) (fun _ _ _ h => h) (Or.inl ⟨by rfl, ?yq47⟩) (by assumption) ?rq47
          case yq47 => (intro w hSw; (try dsimp only at hSw); go_simp <;> with_reducible rfl)
          simp only [Act.put, List.setIfInBounds_toArray, List.set_cons_zero, List.set_cons_succ]
          refine wpAnyH_take (i := 7) (oi := { dst := some 14, op := Op.extract (Operand.tmp 7) 1, type := 24, pos := "ref.go:62", after := #[{ on := 5, ground := Ground.data }, { on := 10, ground := Ground.gcOnly Departure.lateStores }], guard := none }) (v := ?vq48) rfl (by as_aux_lemma => kernel_rfl) (by as_aux_lemma => kernel_rfl) (by as_aux_lemma => kernel_rfl) (fun _ _ _ h => h) (Or.inl ⟨by rfl, ?yq48⟩) (by assumption) ?rq48
          case yq48 => (intro w hSw; (try dsimp only at hSw); go_simp <;> with_reducible rfl)
          simp only [Act.put, List.setIfInBounds_toArray, List.set_cons_zero, List.set_cons_succ]
          refine wpAnyH_ready (rs := [8]) (by as_aux_lemma => kernel_rfl) (by simp) ?_
          refine AllReadyH.cons (o := { dst := some 5, op := Op.alloc 24, type := 0, pos := "ref.go:62", after := #[], guard := none }) rfl (fun K hK => ?_) (by exact AllReadyH.nil)
          rw [if_pos (by rfl)]
          go_simp
          refine hK.out _ _ (by (try dsimp only); (first | assumption | exact (Below.refl _ _).drew | exact (balloc (Below.refl _ _) _).drew | exact (balloc (balloc (Below.refl _ _) _) _).drew | exact rstep (by assumption) (by assumption) | exact balloc (by assumption) _ | exact balloc (balloc (by assumption) _) _)) (fun hHeld => ?_)
          clear hK K
          simp only [List.setIfInBounds_toArray, List.set_cons_zero, List.set_cons_succ]
          refine rest _ _ _ ⟨?_, ?_, ?_, ?_, ?_, hHeld⟩
          · (repeat (first | exact Blk.new _ _ _ | exact Blk.newS _ _ _ _ | with_reducible refine Blk.drewR ?_ | with_reducible refine Blk.alloc ?_ _ | refine Blk.keep ?_ hk4 | refine Blk.keep ?_ hk3 | refine Blk.keep ?_ hk1))
          · (repeat (first | exact Blk.new _ _ _ | exact Blk.newS _ _ _ _ | with_reducible refine Blk.drewR ?_ | with_reducible refine Blk.alloc ?_ _ | refine Blk.keep ?_ hk4 | refine Blk.keep ?_ hk3 | refine Blk.keep ?_ hk1))
          · (have e1 := hk1.size; have e3 := hk3.size; have e4 := hk4.size; first | (simp only [World.size_drew'] at e1 e3 e4 ⊢; omega) | (simp only [World.size_alloc, World.size_drew'] at e1 e3 e4 ⊢; omega))
          · (have e1 := hk1.size; have e3 := hk3.size; have e4 := hk4.size; first | (simp only [World.size_drew'] at e1 e3 e4 ⊢; omega) | (simp only [World.size_alloc, World.size_drew'] at e1 e3 e4 ⊢; omega))
          · (have e1 := hk1.size; have e3 := hk3.size; have e4 := hk4.size; first | (simp only [World.size_drew'] at e1 e3 e4 ⊢; omega) | (simp only [World.size_alloc, World.size_drew'] at e1 e3 e4 ⊢; omega))
        refine AllReadyH.cons (o := { dst := some 5, op := Op.alloc 24, type := 0, pos := "ref.go:62", after := #[], guard := none }) rfl (fun K hK => ?_) (by exact AllReadyH.nil)
        rw [if_pos (by rfl)]
        go_simp
        refine hK.out _ _ (by (try dsimp only); (first | assumption | exact (Below.refl _ _).drew | exact (balloc (Below.refl _ _) _).drew | exact (balloc (balloc (Below.refl _ _) _) _).drew | exact rstep (by assumption) (by assumption) | exact balloc (by assumption) _ | exact balloc (balloc (by assumption) _) _)) (fun hHeld => ?_)
        clear hK K
        simp only [List.setIfInBounds_toArray, List.set_cons_zero, List.set_cons_succ]
        refine wpAnyH_ready (rs := [4]) (by as_aux_lemma => kernel_rfl) (by simp) ?_
        refine AllReadyH.cons (o := { dst := some 12, op := Op.call { callee := Callee.value (Operand.func 8), args := #[Operand.tmp 9, Operand.tmp 11], argTypes := #[24, 24] }, type := 25, pos := "ref.go:62", after := #[{ on := 1, ground := Ground.data }, { on := 3, ground := Ground.data }, { on := 3, ground := Ground.chain }], guard := none }) rfl (fun K hK => ?_) (by exact AllReadyH.nil)
        rw [if_pos (by rfl)]
        go_simp
        (go_at_call 8; refine (rdivide_all x y HM.out.1 HM.out.2 _).mono ?_; rintro e wk4 ⟨rfl, hk4⟩)
        refine hK.out _ _ (by (try dsimp only); (first | assumption | exact (Below.refl _ _).drew | exact (balloc (Below.refl _ _) _).drew | exact (balloc (balloc (Below.refl _ _) _) _).drew | exact rstep (by assumption) (by assumption) | exact balloc (by assumption) _ | exact balloc (balloc (by assumption) _) _)) (fun hHeld => ?_)
        clear hK K
        simp only [List.setIfInBounds_toArray, List.set_cons_zero, List.set_cons_succ]
        refine wpAnyH_take (i := 5) (oi := { dst := some 7, op := Op.move (Operand.tmp 12), type := 25, pos := "ref.go:62", after := #[{ on := 4, ground := Ground.data }], guard := none }) (v := ?vq51) rfl (by as_aux_lemma => kernel_rfl) (by as_aux_lemma => kernel_rfl) (by as_aux_lemma => kernel_rfl) (fun _ _ _ h => h) (Or.inl ⟨by rfl, ?yq51⟩) (by assumption) ?rq51
        case yq51 => (intro w hSw; (try dsimp only at hSw); go_simp <;> with_reducible rfl)
        simp only [Act.put, List.setIfInBounds_toArray, List.set_cons_zero, List.set_cons_succ]
        refine wpAnyH_take (i := 6) (oi := { dst := some 13, op := Op.extract (Operand.tmp 7) 0, type := 24, pos := "ref.go:62", after := #[{ on := 5, ground := Ground.data }], guard := none }) (v := ?vq52) rfl (by as_aux_lemma => kernel_rfl) (by as_aux_lemma => kernel_rfl) (by as_aux_lemma => kernel_rfl) (fun _ _ _ h => h) (Or.inl ⟨by rfl, ?yq52⟩) (by assumption) ?rq52
        case yq52 => (intro w hSw; (try dsimp only at hSw); go_simp <;> with_reducible rfl)
        simp only [Act.put, List.setIfInBounds_toArray, List.set_cons_zero, List.set_cons_succ]
        refine wpAnyH_take (i := 7) (oi := { dst := some 14, op := Op.extract (Operand.tmp 7) 1, type := 24, pos := "ref.go:62", after := #[{ on := 5, ground := Ground.data }, { on := 10, ground := Ground.gcOnly Departure.lateStores }], guard := none }) (v := ?vq53) rfl (by as_aux_lemma => kernel_rfl) (by as_aux_lemma => kernel_rfl) (by as_aux_lemma => kernel_rfl) (fun _ _ _ h => h) (Or.inl ⟨by rfl, ?yq53⟩) (by assumption) ?rq53
        case yq53 => (intro w hSw; (try dsimp only at hSw); go_simp <;> with_reducible rfl)
        simp only [Act.put, List.setIfInBounds_toArray, List.set_cons_zero, List.set_cons_succ]
        refine rest _ _ _ ⟨?_, ?_, ?_, ?_, ?_, hHeld⟩
        · (repeat (first | exact Blk.new _ _ _ | exact Blk.newS _ _ _ _ | with_reducible refine Blk.drewR ?_ | with_reducible refine Blk.alloc ?_ _ | refine Blk.keep ?_ hk4 | refine Blk.keep ?_ hk3 | refine Blk.keep ?_ hk1))
        · (repeat (first | exact Blk.new _ _ _ | exact Blk.newS _ _ _ _ | with_reducible refine Blk.drewR ?_ | with_reducible refine Blk.alloc ?_ _ | refine Blk.keep ?_ hk4 | refine Blk.keep ?_ hk3 | refine Blk.keep ?_ hk1))
        · (have e1 := hk1.size; have e3 := hk3.size; have e4 := hk4.size; first | (simp only [World.size_drew'] at e1 e3 e4 ⊢; omega) | (simp only [World.size_alloc, World.size_drew'] at e1 e3 e4 ⊢; omega))
        · (have e1 := hk1.size; have e3 := hk3.size; have e4 := hk4.size; first | (simp only [World.size_drew'] at e1 e3 e4 ⊢; omega) | (simp only [World.size_alloc, World.size_drew'] at e1 e3 e4 ⊢; omega))
        · (have e1 := hk1.size; have e3 := hk3.size; have e4 := hk4.size; first | (simp only [World.size_drew'] at e1 e3 e4 ⊢; omega) | (simp only [World.size_alloc, World.size_drew'] at e1 e3 e4 ⊢; omega))
      refine AllReadyH.cons (o := { dst := some 5, op := Op.alloc 24, type := 0, pos := "ref.go:62", after := #[], guard := none }) rfl (fun K hK => ?_) (by exact AllReadyH.nil)
      rw [if_pos (by rfl)]
      go_simp
      refine hK.out _ _ (by (try dsimp only); (first | assumption | exact (Below.refl _ _).drew | exact (balloc (Below.refl _ _) _).drew | exact (balloc (balloc (Below.refl _ _) _) _).drew | exact rstep (by assumption) (by assumption) | exact balloc (by assumption) _ | exact balloc (balloc (by assumption) _) _)) (fun hHeld => ?_)
      clear hK K
      simp only [List.setIfInBounds_toArray, List.set_cons_zero, List.set_cons_succ]
      refine wpAnyH_ready (rs := [3]) (by as_aux_lemma => kernel_rfl) (by simp) ?_
      refine AllReadyH.cons (o := { dst := some 11, op := Op.call { callee := Callee.value (Operand.func 39), args := #[Operand.tmp 10], argTypes := #[24] }, type := 24, pos := "ref.go:62", after := #[{ on := 2, ground := Ground.data }, { on := 1, ground := Ground.chain }], guard := none }) rfl (fun K hK => ?_) (by exact AllReadyH.nil)
      rw [if_pos (by rfl)]
      go_simp
      (go_at_call 39; refine (HPB.out _).mono ?_; rintro e wk3 ⟨rfl, hk3⟩)
      refine hK.out _ _ (by (try dsimp only); (first | assumption | exact (Below.refl _ _).drew | exact (balloc (Below.refl _ _) _).drew | exact (balloc (balloc (Below.refl _ _) _) _).drew | exact rstep (by assumption) (by assumption) | exact balloc (by assumption) _ | exact balloc (balloc (by assumption) _) _)) (fun hHeld => ?_)
      clear hK K
      simp only [List.setIfInBounds_toArray, List.set_cons_zero, List.set_cons_succ]
      refine wpAnyH_ready (rs := [4]) (by as_aux_lemma => kernel_rfl) (by simp) ?_
      refine AllReadyH.cons (o := { dst := some 12, op := Op.call { callee := Callee.value (Operand.func 8), args := #[Operand.tmp 9, Operand.tmp 11], argTypes := #[24, 24] }, type := 25, pos := "ref.go:62", after := #[{ on := 1, ground := Ground.data }, { on := 3, ground := Ground.data }, { on := 3, ground := Ground.chain }], guard := none }) rfl (fun K hK => ?_) (by exact AllReadyH.nil)
      rw [if_pos (by rfl)]
      go_simp
      (go_at_call 8; refine (rdivide_all x y HM.out.1 HM.out.2 _).mono ?_; rintro e wk4 ⟨rfl, hk4⟩)
      refine hK.out _ _ (by (try dsimp only); (first | assumption | exact (Below.refl _ _).drew | exact (balloc (Below.refl _ _) _).drew | exact (balloc (balloc (Below.refl _ _) _) _).drew | exact rstep (by assumption) (by assumption) | exact balloc (by assumption) _ | exact balloc (balloc (by assumption) _) _)) (fun hHeld => ?_)
      clear hK K
      simp only [List.setIfInBounds_toArray, List.set_cons_zero, List.set_cons_succ]
      refine wpAnyH_take (i := 5) (oi := { dst := some 7, op := Op.move (Operand.tmp 12), type := 25, pos := "ref.go:62", after := #[{ on := 4, ground := Ground.data }], guard := none }) (v := ?vq56) rfl (by as_aux_lemma => kernel_rfl) (by as_aux_lemma => kernel_rfl) (by as_aux_lemma => kernel_rfl) (fun _ _ _ h => h) (Or.inl ⟨by rfl, ?yq56⟩) (by assumption) ?rq56
      case yq56 => (intro w hSw; (try dsimp only at hSw); go_simp <;> with_reducible rfl)
      simp only [Act.put, List.setIfInBounds_toArray, List.set_cons_zero, List.set_cons_succ]
      refine wpAnyH_take (i := 6) (oi := { dst := some 13, op := Op.extract (Operand.tmp 7) 0, type := 24, pos := "ref.go:62", after := #[{ on := 5, ground := Ground.data }], guard := none }) (v := ?vq57) rfl (by as_aux_lemma => kernel_rfl) (by as_aux_lemma => kernel_rfl) (by as_aux_lemma => kernel_rfl) (fun _ _ _ h => h) (Or.inl ⟨by rfl, ?yq57⟩) (by assumption) ?rq57
      case yq57 => (intro w hSw; (try dsimp only at hSw); go_simp <;> with_reducible rfl)
      simp only [Act.put, List.setIfInBounds_toArray, List.set_cons_zero, List.set_cons_succ]
      refine wpAnyH_take (i := 7) (oi := { dst := some 14, op := Op.extract (Operand.tmp 7) 1, type := 24, pos := "ref.go:62", after := #[{ on := 5, ground := Ground.data }, { on := 10, ground := Ground.gcOnly Departure.lateStores }], guard := none }) (v := ?vq58) rfl (by as_aux_lemma => kernel_rfl) (by as_aux_lemma => kernel_rfl) (by as_aux_lemma => kernel_rfl) (fun _ _ _ h => h) (Or.inl ⟨by rfl, ?yq58⟩) (by assumption) ?rq58
      case yq58 => (intro w hSw; (try dsimp only at hSw); go_simp <;> with_reducible rfl)
      simp only [Act.put, List.setIfInBounds_toArray, List.set_cons_zero, List.set_cons_succ]
      refine rest _ _ _ ⟨?_, ?_, ?_, ?_, ?_, hHeld⟩
      · (repeat (first | exact Blk.new _ _ _ | exact Blk.newS _ _ _ _ | with_reducible refine Blk.drewR ?_ | with_reducible refine Blk.alloc ?_ _ | refine Blk.keep ?_ hk4 | refine Blk.keep ?_ hk3 | refine Blk.keep ?_ hk1))
      · (repeat (first | exact Blk.new _ _ _ | exact Blk.newS _ _ _ _ | with_reducible refine Blk.drewR ?_ | with_reducible refine Blk.alloc ?_ _ | refine Blk.keep ?_ hk4 | refine Blk.keep ?_ hk3 | refine Blk.keep ?_ hk1))
      · (have e1 := hk1.size; have e3 := hk3.size; have e4 := hk4.size; first | (simp only [World.size_drew'] at e1 e3 e4 ⊢; omega) | (simp only [World.size_alloc, World.size_drew'] at e1 e3 e4 ⊢; omega))
      · (have e1 := hk1.size; have e3 := hk3.size; have e4 := hk4.size; first | (simp only [World.size_drew'] at e1 e3 e4 ⊢; omega) | (simp only [World.size_alloc, World.size_drew'] at e1 e3 e4 ⊢; omega))
      · (have e1 := hk1.size; have e3 := hk3.size; have e4 := hk4.size; first | (simp only [World.size_drew'] at e1 e3 e4 ⊢; omega) | (simp only [World.size_alloc, World.size_drew'] at e1 e3 e4 ⊢; omega))
    refine AllReadyH.cons (o := { dst := some 5, op := Op.alloc 24, type := 0, pos := "ref.go:62", after := #[], guard := none }) rfl (fun K hK => ?_) ?_
    · rw [if_pos (by rfl)]
      go_simp
      refine hK.out _ _ (by (try dsimp only); (first | assumption | exact (Below.refl _ _).drew | exact (balloc (Below.refl _ _) _).drew | exact (balloc (balloc (Below.refl _ _) _) _).drew | exact rstep (by assumption) (by assumption) | exact balloc (by assumption) _ | exact balloc (balloc (by assumption) _) _)) (fun hHeld => ?_)
      clear hK K
      simp only [List.setIfInBounds_toArray, List.set_cons_zero, List.set_cons_succ]
      refine wpAnyH_ready (rs := [1, 9]) (by as_aux_lemma => kernel_rfl) (by simp) ?_
      refine AllReadyH.cons (o := { dst := some 9, op := Op.call { callee := Callee.value (Operand.func 39), args := #[Operand.tmp 8], argTypes := #[24] }, type := 24, pos := "ref.go:62", after := #[{ on := 0, ground := Ground.data }], guard := none }) rfl (fun K hK => ?_) ?_
      · rw [if_pos (by rfl)]
        go_simp
        (go_at_call 39; refine (HPA.out _).mono ?_; rintro e wk1 ⟨rfl, hk1⟩)
        refine hK.out _ _ (by (try dsimp only); (first | assumption | exact (Below.refl _ _).drew | exact (balloc (Below.refl _ _) _).drew | exact (balloc (balloc (Below.refl _ _) _) _).drew | exact rstep (by assumption) (by assumption) | exact balloc (by assumption) _ | exact balloc (balloc (by assumption) _) _)) (fun hHeld => ?_)
        clear hK K
        simp only [List.setIfInBounds_toArray, List.set_cons_zero, List.set_cons_succ]
        refine wpAnyH_ready (rs := [3, 9]) (by as_aux_lemma => kernel_rfl) (by simp) ?_
        refine AllReadyH.cons (o := { dst := some 11, op := Op.call { callee := Callee.value (Operand.func 39), args := #[Operand.tmp 10], argTypes := #[24] }, type := 24, pos := "ref.go:62", after := #[{ on := 2, ground := Ground.data }, { on := 1, ground := Ground.chain }], guard := none }) rfl (fun K hK => ?_) ?_
        · rw [if_pos (by rfl)]
          go_simp
          (go_at_call 39; refine (HPB.out _).mono ?_; rintro e wk3 ⟨rfl, hk3⟩)
          refine hK.out _ _ (by (try dsimp only); (first | assumption | exact (Below.refl _ _).drew | exact (balloc (Below.refl _ _) _).drew | exact (balloc (balloc (Below.refl _ _) _) _).drew | exact rstep (by assumption) (by assumption) | exact balloc (by assumption) _ | exact balloc (balloc (by assumption) _) _)) (fun hHeld => ?_)
          clear hK K
          simp only [List.setIfInBounds_toArray, List.set_cons_zero, List.set_cons_succ]
          refine wpAnyH_ready (rs := [4, 9]) (by as_aux_lemma => kernel_rfl) (by simp) ?_
          refine AllReadyH.cons (o := { dst := some 12, op := Op.call { callee := Callee.value (Operand.func 8), args := #[Operand.tmp 9, Operand.tmp 11], argTypes := #[24, 24] }, type := 25, pos := "ref.go:62", after := #[{ on := 1, ground := Ground.data }, { on := 3, ground := Ground.data }, { on := 3, ground := Ground.chain }], guard := none }) rfl (fun K hK => ?_) ?_
          · rw [if_pos (by rfl)]
            go_simp
            (go_at_call 8; refine (rdivide_all x y HM.out.1 HM.out.2 _).mono ?_; rintro e wk4 ⟨rfl, hk4⟩)
            refine hK.out _ _ (by (try dsimp only); (first | assumption | exact (Below.refl _ _).drew | exact (balloc (Below.refl _ _) _).drew | exact (balloc (balloc (Below.refl _ _) _) _).drew | exact rstep (by assumption) (by assumption) | exact balloc (by assumption) _ | exact balloc (balloc (by assumption) _) _)) (fun hHeld => ?_)
            clear hK K
            simp only [List.setIfInBounds_toArray, List.set_cons_zero, List.set_cons_succ]
            refine wpAnyH_take (i := 5) (oi := { dst := some 7, op := Op.move (Operand.tmp 12), type := 25, pos := "ref.go:62", after := #[{ on := 4, ground := Ground.data }], guard := none }) (v := ?vq62) rfl (by as_aux_lemma => kernel_rfl) (by as_aux_lemma => kernel_rfl) (by as_aux_lemma => kernel_rfl) (fun _ _ _ h => h) (Or.inl ⟨by rfl, ?yq62⟩) (by assumption) ?rq62
            case yq62 => (intro w hSw; (try dsimp only at hSw); go_simp <;> with_reducible rfl)
            simp only [Act.put, List.setIfInBounds_toArray, List.set_cons_zero, List.set_cons_succ]
            refine wpAnyH_take (i := 6) (oi := { dst := some 13, op := Op.extract (Operand.tmp 7) 0, type := 24, pos := "ref.go:62", after := #[{ on := 5, ground := Ground.data }], guard := none }) (v := ?vq63) rfl (by as_aux_lemma => kernel_rfl) (by as_aux_lemma => kernel_rfl) (by as_aux_lemma => kernel_rfl) (fun _ _ _ h => h) (Or.inl ⟨by rfl, ?yq63⟩) (by assumption) ?rq63
            case yq63 => (intro w hSw; (try dsimp only at hSw); go_simp <;> with_reducible rfl)
            simp only [Act.put, List.setIfInBounds_toArray, List.set_cons_zero, List.set_cons_succ]
            refine wpAnyH_take (i := 7) (oi := { dst := some 14, op := Op.extract (Operand.tmp 7) 1, type := 24, pos := "ref.go:62", after := #[{ on := 5, ground := Ground.data }, { on := 10, ground := Ground.gcOnly Departure.lateStores }], guard := none }) (v := ?vq64) rfl (by as_aux_lemma => kernel_rfl) (by as_aux_lemma => kernel_rfl) (by as_aux_lemma => kernel_rfl) (fun _ _ _ h => h) (Or.inl ⟨by rfl, ?yq64⟩) (by assumption) ?rq64
            case yq64 => (intro w hSw; (try dsimp only at hSw); go_simp <;> with_reducible rfl)
            simp only [Act.put, List.setIfInBounds_toArray, List.set_cons_zero, List.set_cons_succ]
            refine wpAnyH_ready (rs := [9]) (by as_aux_lemma => kernel_rfl) (by simp) ?_
            refine AllReadyH.cons (o := { dst := some 6, op := Op.alloc 24, type := 0, pos := "ref.go:62", after := #[], guard := none }) rfl (fun K hK => ?_) (by exact AllReadyH.nil)
            rw [if_pos (by rfl)]
            go_simp
            refine hK.out _ _ (by (try dsimp only); (first | assumption | exact (Below.refl _ _).drew | exact (balloc (Below.refl _ _) _).drew | exact (balloc (balloc (Below.refl _ _) _) _).drew | exact rstep (by assumption) (by assumption) | exact balloc (by assumption) _ | exact balloc (balloc (by assumption) _) _)) (fun hHeld => ?_)
            clear hK K
            simp only [List.setIfInBounds_toArray, List.set_cons_zero, List.set_cons_succ]
            refine rest _ _ _ ⟨?_, ?_, ?_, ?_, ?_, hHeld⟩
            · (repeat (first | exact Blk.new _ _ _ | exact Blk.newS _ _ _ _ | with_reducible refine Blk.drewR ?_ | with_reducible refine Blk.alloc ?_ _ | refine Blk.keep ?_ hk4 | refine Blk.keep ?_ hk3 | refine Blk.keep ?_ hk1))
            · (repeat (first | exact Blk.new _ _ _ | exact Blk.newS _ _ _ _ | with_reducible refine Blk.drewR ?_ | with_reducible refine Blk.alloc ?_ _ | refine Blk.keep ?_ hk4 | refine Blk.keep ?_ hk3 | refine Blk.keep ?_ hk1))
            · (have e1 := hk1.size; have e3 := hk3.size; have e4 := hk4.size; first | (simp only [World.size_drew'] at e1 e3 e4 ⊢; omega) | (simp only [World.size_alloc, World.size_drew'] at e1 e3 e4 ⊢; omega))
            · (have e1 := hk1.size; have e3 := hk3.size; have e4 := hk4.size; first | (simp only [World.size_drew'] at e1 e3 e4 ⊢; omega) | (simp only [World.size_alloc, World.size_drew'] at e1 e3 e4 ⊢; omega))
            · (have e1 := hk1.size; have e3 := hk3.size; have e4 := hk4.size; first | (simp only [World.size_drew'] at e1 e3 e4 ⊢; omega) | (simp only [World.size_alloc, World.size_drew'] at e1 e3 e4 ⊢; omega))
          refine AllReadyH.cons (o := { dst := some 6, op := Op.alloc 24, type := 0, pos := "ref.go:62", after := #[], guard := none }) rfl (fun K hK => ?_) (by exact AllReadyH.nil)
          rw [if_pos (by rfl)]
          go_simp
          refine hK.out _ _ (by (try dsimp only); (first | assumption | exact (Below.refl _ _).drew | exact (balloc (Below.refl _ _) _).drew | exact (balloc (balloc (Below.refl _ _) _) _).drew | exact rstep (by assumption) (by assumption) | exact balloc (by assumption) _ | exact balloc (balloc (by assumption) _) _)) (fun hHeld => ?_)
          clear hK K
          simp only [List.setIfInBounds_toArray, List.set_cons_zero, List.set_cons_succ]
          refine wpAnyH_ready (rs := [4]) (by as_aux_lemma => kernel_rfl) (by simp) ?_
          refine AllReadyH.cons (o := { dst := some 12, op := Op.call { callee := Callee.value (Operand.func 8), args := #[Operand.tmp 9, Operand.tmp 11], argTypes := #[24, 24] }, type := 25, pos := "ref.go:62", after := #[{ on := 1, ground := Ground.data }, { on := 3, ground := Ground.data }, { on := 3, ground := Ground.chain }], guard := none }) rfl (fun K hK => ?_) (by exact AllReadyH.nil)
          rw [if_pos (by rfl)]
          go_simp
          (go_at_call 8; refine (rdivide_all x y HM.out.1 HM.out.2 _).mono ?_; rintro e wk4 ⟨rfl, hk4⟩)
          refine hK.out _ _ (by (try dsimp only); (first | assumption | exact (Below.refl _ _).drew | exact (balloc (Below.refl _ _) _).drew | exact (balloc (balloc (Below.refl _ _) _) _).drew | exact rstep (by assumption) (by assumption) | exact balloc (by assumption) _ | exact balloc (balloc (by assumption) _) _)) (fun hHeld => ?_)
          clear hK K
          simp only [List.setIfInBounds_toArray, List.set_cons_zero, List.set_cons_succ]
          refine wpAnyH_take (i := 5) (oi := { dst := some 7, op := Op.move (Operand.tmp 12), type := 25, pos := "ref.go:62", after := #[{ on := 4, ground := Ground.data }], guard := none }) (v := ?vq67) rfl (by as_aux_lemma => kernel_rfl) (by as_aux_lemma => kernel_rfl) (by as_aux_lemma => kernel_rfl) (fun _ _ _ h => h) (Or.inl ⟨by rfl, ?yq67⟩) (by assumption) ?rq67
          case yq67 => (intro w hSw; (try dsimp only at hSw); go_simp <;> with_reducible rfl)
          simp only [Act.put, List.setIfInBounds_toArray, List.set_cons_zero, List.set_cons_succ]
          refine wpAnyH_take (i := 6) (oi := { dst := some 13, op := Op.extract (Operand.tmp 7) 0, type := 24, pos := "ref.go:62", after := #[{ on := 5, ground := Ground.data }], guard := none }) (v := ?vq68) rfl (by as_aux_lemma => kernel_rfl) (by as_aux_lemma => kernel_rfl) (by as_aux_lemma => kernel_rfl) (fun _ _ _ h => h) (Or.inl ⟨by rfl, ?yq68⟩) (by assumption) ?rq68
          case yq68 => (intro w hSw; (try dsimp only at hSw); go_simp <;> with_reducible rfl)
          simp only [Act.put, List.setIfInBounds_toArray, List.set_cons_zero, List.set_cons_succ]
          refine wpAnyH_take (i := 7) (oi := { dst := some 14, op := Op.extract (Operand.tmp 7) 1, type := 24, pos := "ref.go:62", after := #[{ on := 5, ground := Ground.data }, { on := 10, ground := Ground.gcOnly Departure.lateStores }], guard := none }) (v := ?vq69) rfl (by as_aux_lemma => kernel_rfl) (by as_aux_lemma => kernel_rfl) (by as_aux_lemma => kernel_rfl) (fun _ _ _ h => h) (Or.inl ⟨by rfl, ?yq69⟩) (by assumption) ?rq69
          case yq69 => (intro w hSw; (try dsimp only at hSw); go_simp <;> with_reducible rfl)
          simp only [Act.put, List.setIfInBounds_toArray, List.set_cons_zero, List.set_cons_succ]
          refine rest _ _ _ ⟨?_, ?_, ?_, ?_, ?_, hHeld⟩
          · (repeat (first | exact Blk.new _ _ _ | exact Blk.newS _ _ _ _ | with_reducible refine Blk.drewR ?_ | with_reducible refine Blk.alloc ?_ _ | refine Blk.keep ?_ hk4 | refine Blk.keep ?_ hk3 | refine Blk.keep ?_ hk1))
          · (repeat (first | exact Blk.new _ _ _ | exact Blk.newS _ _ _ _ | with_reducible refine Blk.drewR ?_ | with_reducible refine Blk.alloc ?_ _ | refine Blk.keep ?_ hk4 | refine Blk.keep ?_ hk3 | refine Blk.keep ?_ hk1))
          · (have e1 := hk1.size; have e3 := hk3.size; have e4 := hk4.size; first | (simp only [World.size_drew'] at e1 e3 e4 ⊢; omega) | (simp only [World.size_alloc, World.size_drew'] at e1 e3 e4 ⊢; omega))
          · (have e1 := hk1.size; have e3 := hk3.size; have e4 := hk4.size; first | (simp only [World.size_drew'] at e1 e3 e4 ⊢; omega) | (simp only [World.size_alloc, World.size_drew'] at e1 e3 e4 ⊢; omega))
          · (have e1 := hk1.size; have e3 := hk3.size; have e4 := hk4.size; first | (simp only [World.size_drew'] at e1 e3 e4 ⊢; omega) | (simp only [World.size_alloc, World.size_drew'] at e1 e3 e4 ⊢; omega))
        refine AllReadyH.cons (o := { dst := some 6, op := Op.alloc 24, type := 0, pos := "ref.go:62", after := #[], guard := none }) rfl (fun K hK => ?_) (by exact AllReadyH.nil)
        rw [if_pos (by rfl)]
        go_simp
        refine hK.out _ _ (by (try dsimp only); (first | assumption | exact (Below.refl _ _).drew | exact (balloc (Below.refl _ _) _).drew | exact (balloc (balloc (Below.refl _ _) _) _).drew | exact rstep (by assumption) (by assumption) | exact balloc (by assumption) _ | exact balloc (balloc (by assumption) _) _)) (fun hHeld => ?_)
        clear hK K
        simp only [List.setIfInBounds_toArray, List.set_cons_zero, List.set_cons_succ]
        refine wpAnyH_ready (rs := [3]) (by as_aux_lemma => kernel_rfl) (by simp) ?_
        refine AllReadyH.cons (o := { dst := some 11, op := Op.call { callee := Callee.value (Operand.func 39), args := #[Operand.tmp 10], argTypes := #[24] }, type := 24, pos := "ref.go:62", after := #[{ on := 2, ground := Ground.data }, { on := 1, ground := Ground.chain }], guard := none }) rfl (fun K hK => ?_) (by exact AllReadyH.nil)
        rw [if_pos (by rfl)]
        go_simp
        (go_at_call 39; refine (HPB.out _).mono ?_; rintro e wk3 ⟨rfl, hk3⟩)
        refine hK.out _ _ (by (try dsimp only); (first | assumption | exact (Below.refl _ _).drew | exact (balloc (Below.refl _ _) _).drew | exact (balloc (balloc (Below.refl _ _) _) _).drew | exact rstep (by assumption) (by assumption) | exact balloc (by assumption) _ | exact balloc (balloc (by assumption) _) _)) (fun hHeld => ?_)
        clear hK K
        simp only [List.setIfInBounds_toArray, List.set_cons_zero, List.set_cons_succ]
        refine wpAnyH_ready (rs := [4]) (by as_aux_lemma => kernel_rfl) (by simp) ?_
        refine AllReadyH.cons (o := { dst := some 12, op := Op.call { callee := Callee.value (Operand.func 8), args := #[Operand.tmp 9, Operand.tmp 11], argTypes := #[24, 24] }, type := 25, pos := "ref.go:62", after := #[{ on := 1, ground := Ground.data }, { on := 3, ground := Ground.data }, { on := 3, ground := Ground.chain }], guard := none }) rfl (fun K hK => ?_) (by exact AllReadyH.nil)
        rw [if_pos (by rfl)]
        go_simp
        (go_at_call 8; refine (rdivide_all x y HM.out.1 HM.out.2 _).mono ?_; rintro e wk4 ⟨rfl, hk4⟩)
        refine hK.out _ _ (by (try dsimp only); (first | assumption | exact (Below.refl _ _).drew | exact (balloc (Below.refl _ _) _).drew | exact (balloc (balloc (Below.refl _ _) _) _).drew | exact rstep (by assumption) (by assumption) | exact balloc (by assumption) _ | exact balloc (balloc (by assumption) _) _)) (fun hHeld => ?_)
        clear hK K
        simp only [List.setIfInBounds_toArray, List.set_cons_zero, List.set_cons_succ]
        refine wpAnyH_take (i := 5) (oi := { dst := some 7, op := Op.move (Operand.tmp 12), type := 25, pos := "ref.go:62", after := #[{ on := 4, ground := Ground.data }], guard := none }) (v := ?vq72) rfl (by as_aux_lemma => kernel_rfl) (by as_aux_lemma => kernel_rfl) (by as_aux_lemma => kernel_rfl) (fun _ _ _ h => h) (Or.inl ⟨by rfl, ?yq72⟩) (by assumption) ?rq72
        case yq72 => (intro w hSw; (try dsimp only at hSw); go_simp <;> with_reducible rfl)
        simp only [Act.put, List.setIfInBounds_toArray, List.set_cons_zero, List.set_cons_succ]
        refine wpAnyH_take (i := 6) (oi := { dst := some 13, op := Op.extract (Operand.tmp 7) 0, type := 24, pos := "ref.go:62", after := #[{ on := 5, ground := Ground.data }], guard := none }) (v := ?vq73) rfl (by as_aux_lemma => kernel_rfl) (by as_aux_lemma => kernel_rfl) (by as_aux_lemma => kernel_rfl) (fun _ _ _ h => h) (Or.inl ⟨by rfl, ?yq73⟩) (by assumption) ?rq73
        case yq73 => (intro w hSw; (try dsimp only at hSw); go_simp <;> with_reducible rfl)
        simp only [Act.put, List.setIfInBounds_toArray, List.set_cons_zero, List.set_cons_succ]
        refine wpAnyH_take (i := 7) (oi := { dst := some 14, op := Op.extract (Operand.tmp 7) 1, type := 24, pos := "ref.go:62", after := #[{ on := 5, ground := Ground.data }, { on := 10, ground := Ground.gcOnly Departure.lateStores }], guard := none }) (v := ?vq74) rfl (by as_aux_lemma => kernel_rfl) (by as_aux_lemma => kernel_rfl) (by as_aux_lemma => kernel_rfl) (fun _ _ _ h => h) (Or.inl ⟨by rfl, ?yq74⟩) (by assumption) ?rq74
        case yq74 => (intro w hSw; (try dsimp only at hSw); go_simp <;> with_reducible rfl)
        simp only [Act.put, List.setIfInBounds_toArray, List.set_cons_zero, List.set_cons_succ]
        refine rest _ _ _ ⟨?_, ?_, ?_, ?_, ?_, hHeld⟩
        · (repeat (first | exact Blk.new _ _ _ | exact Blk.newS _ _ _ _ | with_reducible refine Blk.drewR ?_ | with_reducible refine Blk.alloc ?_ _ | refine Blk.keep ?_ hk4 | refine Blk.keep ?_ hk3 | refine Blk.keep ?_ hk1))
        · (repeat (first | exact Blk.new _ _ _ | exact Blk.newS _ _ _ _ | with_reducible refine Blk.drewR ?_ | with_reducible refine Blk.alloc ?_ _ | refine Blk.keep ?_ hk4 | refine Blk.keep ?_ hk3 | refine Blk.keep ?_ hk1))
        · (have e1 := hk1.size; have e3 := hk3.size; have e4 := hk4.size; first | (simp only [World.size_drew'] at e1 e3 e4 ⊢; omega) | (simp only [World.size_alloc, World.size_drew'] at e1 e3 e4 ⊢; omega))
        · (have e1 := hk1.size; have e3 := hk3.size; have e4 := hk4.size; first | (simp only [World.size_drew'] at e1 e3 e4 ⊢; omega) | (simp only [World.size_alloc, World.size_drew'] at e1 e3 e4 ⊢; omega))
        · (have e1 := hk1.size; have e3 := hk3.size; have e4 := hk4.size; first | (simp only [World.size_drew'] at e1 e3 e4 ⊢; omega) | (simp only [World.size_alloc, World.size_drew'] at e1 e3 e4 ⊢; omega))
      refine AllReadyH.cons (o := { dst := some 6, op := Op.alloc 24, type := 0, pos := "ref.go:62", after := #[], guard := none }) rfl (fun K hK => ?_) (by exact AllReadyH.nil)
      rw [if_pos (by rfl)]
      go_simp
      refine hK.out _ _ (by (try dsimp only); (first | assumption | exact (Below.refl _ _).drew | exact (balloc (Below.refl _ _) _).drew | exact (balloc (balloc (Below.refl _ _) _) _).drew | exact rstep (by assumption) (by assumption) | exact balloc (by assumption) _ | exact balloc (balloc (by assumption) _) _)) (fun hHeld => ?_)
      clear hK K
      simp only [List.setIfInBounds_toArray, List.set_cons_zero, List.set_cons_succ]
      refine wpAnyH_ready (rs := [1]) (by as_aux_lemma => kernel_rfl) (by simp) ?_
      refine AllReadyH.cons (o := { dst := some 9, op := Op.call { callee := Callee.value (Operand.func 39), args := #[Operand.tmp 8], argTypes := #[24] }, type := 24, pos := "ref.go:62", after := #[{ on := 0, ground := Ground.data }], guard := none }) rfl (fun K hK => ?_) (by exact AllReadyH.nil)
      rw [if_pos (by rfl)]
      go_simp
      (go_at_call 39; refine (HPA.out _).mono ?_; rintro e wk1 ⟨rfl, hk1⟩)
      refine hK.out _ _ (by (try dsimp only); (first | assumption | exact (Below.refl _ _).drew | exact (balloc (Below.refl _ _) _).drew | exact (balloc (balloc (Below.refl _ _) _) _).drew | exact rstep (by assumption) (by assumption) | exact balloc (by assumption) _ | exact balloc (balloc (by assumption) _) _)) (fun hHeld => ?_)
      clear hK K
      simp only [List.setIfInBounds_toArray, List.set_cons_zero, List.set_cons_succ]
      refine wpAnyH_ready (rs := [3]) (by as_aux_lemma => kernel_rfl) (by simp) ?_
      refine AllReadyH.cons (o := { dst := some 11, op := Op.call { callee := Callee.value (Operand.func 39), args := #[Operand.tmp 10], argTypes := #[24] }, type := 24, pos := "ref.go:62", after := #[{ on := 2, ground := Ground.data }, { on := 1, ground := Ground.chain }], guard := none }) rfl (fun K hK => ?_) (by exact AllReadyH.nil)
      rw [if_pos (by rfl)]
      go_simp
      (go_at_call 39; refine (HPB.out _).mono ?_; rintro e wk3 ⟨rfl, hk3⟩)
      refine hK.out _ _ (by (try dsimp only); (first | assumption | exact (Below.refl _ _).drew | exact (balloc (Below.refl _ _) _).drew | exact (balloc (balloc (Below.refl _ _) _) _).drew | exact rstep (by assumption) (by assumption) | exact balloc (by assumption) _ | exact balloc (balloc (by assumption) _) _)) (fun hHeld => ?_)
      clear hK K
      simp only [List.setIfInBounds_toArray, List.set_cons_zero, List.set_cons_succ]
      refine wpAnyH_ready (rs := [4]) (by as_aux_lemma => kernel_rfl) (by simp) ?_
      refine AllReadyH.cons (o := { dst := some 12, op := Op.call { callee := Callee.value (Operand.func 8), args := #[Operand.tmp 9, Operand.tmp 11], argTypes := #[24, 24] }, type := 25, pos := "ref.go:62", after := #[{ on := 1, ground := Ground.data }, { on := 3, ground := Ground.data }, { on := 3, ground := Ground.chain }], guard := none }) rfl (fun K hK => ?_) (by exact AllReadyH.nil)
      rw [if_pos (by rfl)]
      go_simp
      (go_at_call 8; refine (rdivide_all x y HM.out.1 HM.out.2 _).mono ?_; rintro e wk4 ⟨rfl, hk4⟩)
      refine hK.out _ _ (by (try dsimp only); (first | assumption | exact (Below.refl _ _).drew | exact (balloc (Below.refl _ _) _).drew | exact (balloc (balloc (Below.refl _ _) _) _).drew | exact rstep (by assumption) (by assumption) | exact balloc (by assumption) _ | exact balloc (balloc (by assumption) _) _)) (fun hHeld => ?_)
      clear hK K
      simp only [List.setIfInBounds_toArray, List.set_cons_zero, List.set_cons_succ]
      refine wpAnyH_take (i := 5) (oi := { dst := some 7, op := Op.move (Operand.tmp 12), type := 25, pos := "ref.go:62", after := #[{ on := 4, ground := Ground.data }], guard := none }) (v := ?vq78) rfl (by as_aux_lemma => kernel_rfl) (by as_aux_lemma => kernel_rfl) (by as_aux_lemma => kernel_rfl) (fun _ _ _ h => h) (Or.inl ⟨by rfl, ?yq78⟩) (by assumption) ?rq78
      case yq78 => (intro w hSw; (try dsimp only at hSw); go_simp <;> with_reducible rfl)
      simp only [Act.put, List.setIfInBounds_toArray, List.set_cons_zero, List.set_cons_succ]
      refine wpAnyH_take (i := 6) (oi := { dst := some 13, op := Op.extract (Operand.tmp 7) 0, type := 24, pos := "ref.go:62", after := #[{ on := 5, ground := Ground.data }], guard := none }) (v := ?vq79) rfl (by as_aux_lemma => kernel_rfl) (by as_aux_lemma => kernel_rfl) (by as_aux_lemma => kernel_rfl) (fun _ _ _ h => h) (Or.inl ⟨by rfl, ?yq79⟩) (by assumption) ?rq79
      case yq79 => (intro w hSw; (try dsimp only at hSw); go_simp <;> with_reducible rfl)
      simp only [Act.put, List.setIfInBounds_toArray, List.set_cons_zero, List.set_cons_succ]
      refine wpAnyH_take (i := 7) (oi := { dst := some 14, op := Op.extract (Operand.tmp 7) 1, type := 24, pos := "ref.go:62", after := #[{ on := 5, ground := Ground.data }, { on := 10, ground := Ground.gcOnly Departure.lateStores }], guard := none }) (v := ?vq80) rfl (by as_aux_lemma => kernel_rfl) (by as_aux_lemma => kernel_rfl) (by as_aux_lemma => kernel_rfl) (fun _ _ _ h => h) (Or.inl ⟨by rfl, ?yq80⟩) (by assumption) ?rq80
      case yq80 => (intro w hSw; (try dsimp only at hSw); go_simp <;> with_reducible rfl)
      simp only [Act.put, List.setIfInBounds_toArray, List.set_cons_zero, List.set_cons_succ]
      refine rest _ _ _ ⟨?_, ?_, ?_, ?_, ?_, hHeld⟩
      · (repeat (first | exact Blk.new _ _ _ | exact Blk.newS _ _ _ _ | with_reducible refine Blk.drewR ?_ | with_reducible refine Blk.alloc ?_ _ | refine Blk.keep ?_ hk4 | refine Blk.keep ?_ hk3 | refine Blk.keep ?_ hk1))
      · (repeat (first | exact Blk.new _ _ _ | exact Blk.newS _ _ _ _ | with_reducible refine Blk.drewR ?_ | with_reducible refine Blk.alloc ?_ _ | refine Blk.keep ?_ hk4 | refine Blk.keep ?_ hk3 | refine Blk.keep ?_ hk1))
      · (have e1 := hk1.size; have e3 := hk3.size; have e4 := hk4.size; first | (simp only [World.size_drew'] at e1 e3 e4 ⊢; omega) | (simp only [World.size_alloc, World.size_drew'] at e1 e3 e4 ⊢; omega))
      · (have e1 := hk1.size; have e3 := hk3.size; have e4 := hk4.size; first | (simp only [World.size_drew'] at e1 e3 e4 ⊢; omega) | (simp only [World.size_alloc, World.size_drew'] at e1 e3 e4 ⊢; omega))
      · (have e1 := hk1.size; have e3 := hk3.size; have e4 := hk4.size; first | (simp only [World.size_drew'] at e1 e3 e4 ⊢; omega) | (simp only [World.size_alloc, World.size_drew'] at e1 e3 e4 ⊢; omega))
    refine AllReadyH.cons (o := { dst := some 6, op := Op.alloc 24, type := 0, pos := "ref.go:62", after := #[], guard := none }) rfl (fun K hK => ?_) (by exact AllReadyH.nil)
    rw [if_pos (by rfl)]
    go_simp
    refine hK.out _ _ (by (try dsimp only); (first | assumption | exact (Below.refl _ _).drew | exact (balloc (Below.refl _ _) _).drew | exact (balloc (balloc (Below.refl _ _) _) _).drew | exact rstep (by assumption) (by assumption) | exact balloc (by assumption) _ | exact balloc (balloc (by assumption) _) _)) (fun hHeld => ?_)
    clear hK K
    simp only [List.setIfInBounds_toArray, List.set_cons_zero, List.set_cons_succ]
    refine wpAnyH_ready (rs := [1, 8]) (by as_aux_lemma => kernel_rfl) (by simp) ?_
    refine AllReadyH.cons (o := { dst := some 9, op := Op.call { callee := Callee.value (Operand.func 39), args := #[Operand.tmp 8], argTypes := #[24] }, type := 24, pos := "ref.go:62", after := #[{ on := 0, ground := Ground.data }], guard := none }) rfl (fun K hK => ?_) ?_
    · rw [if_pos (by rfl)]
      go_simp
      (go_at_call 39; refine (HPA.out _).mono ?_; rintro e wk1 ⟨rfl, hk1⟩)
      refine hK.out _ _ (by (try dsimp only); (first | assumption | exact (Below.refl _ _).drew | exact (balloc (Below.refl _ _) _).drew | exact (balloc (balloc (Below.refl _ _) _) _).drew | exact rstep (by assumption) (by assumption) | exact balloc (by assumption) _ | exact balloc (balloc (by assumption) _) _)) (fun hHeld => ?_)
      clear hK K
      simp only [List.setIfInBounds_toArray, List.set_cons_zero, List.set_cons_succ]
      refine wpAnyH_ready (rs := [3, 8]) (by as_aux_lemma => kernel_rfl) (by simp) ?_
      refine AllReadyH.cons (o := { dst := some 11, op := Op.call { callee := Callee.value (Operand.func 39), args := #[Operand.tmp 10], argTypes := #[24] }, type := 24, pos := "ref.go:62", after := #[{ on := 2, ground := Ground.data }, { on := 1, ground := Ground.chain }], guard := none }) rfl (fun K hK => ?_) ?_
      · rw [if_pos (by rfl)]
        go_simp
        (go_at_call 39; refine (HPB.out _).mono ?_; rintro e wk3 ⟨rfl, hk3⟩)
        refine hK.out _ _ (by (try dsimp only); (first | assumption | exact (Below.refl _ _).drew | exact (balloc (Below.refl _ _) _).drew | exact (balloc (balloc (Below.refl _ _) _) _).drew | exact rstep (by assumption) (by assumption) | exact balloc (by assumption) _ | exact balloc (balloc (by assumption) _) _)) (fun hHeld => ?_)
        clear hK K
        simp only [List.setIfInBounds_toArray, List.set_cons_zero, List.set_cons_succ]
        refine wpAnyH_ready (rs := [4, 8]) (by as_aux_lemma => kernel_rfl) (by simp) ?_
        refine AllReadyH.cons (o := { dst := some 12, op := Op.call { callee := Callee.value (Operand.func 8), args := #[Operand.tmp 9, Operand.tmp 11], argTypes := #[24, 24] }, type := 25, pos := "ref.go:62", after := #[{ on := 1, ground := Ground.data }, { on := 3, ground := Ground.data }, { on := 3, ground := Ground.chain }], guard := none }) rfl (fun K hK => ?_) ?_
        · rw [if_pos (by rfl)]
          go_simp
          (go_at_call 8; refine (rdivide_all x y HM.out.1 HM.out.2 _).mono ?_; rintro e wk4 ⟨rfl, hk4⟩)
          refine hK.out _ _ (by (try dsimp only); (first | assumption | exact (Below.refl _ _).drew | exact (balloc (Below.refl _ _) _).drew | exact (balloc (balloc (Below.refl _ _) _) _).drew | exact rstep (by assumption) (by assumption) | exact balloc (by assumption) _ | exact balloc (balloc (by assumption) _) _)) (fun hHeld => ?_)
          clear hK K
          simp only [List.setIfInBounds_toArray, List.set_cons_zero, List.set_cons_succ]
          refine wpAnyH_take (i := 5) (oi := { dst := some 7, op := Op.move (Operand.tmp 12), type := 25, pos := "ref.go:62", after := #[{ on := 4, ground := Ground.data }], guard := none }) (v := ?vq84) rfl (by as_aux_lemma => kernel_rfl) (by as_aux_lemma => kernel_rfl) (by as_aux_lemma => kernel_rfl) (fun _ _ _ h => h) (Or.inl ⟨by rfl, ?yq84⟩) (by assumption) ?rq84
          case yq84 => (intro w hSw; (try dsimp only at hSw); go_simp <;> with_reducible rfl)
          simp only [Act.put, List.setIfInBounds_toArray, List.set_cons_zero, List.set_cons_succ]
          refine wpAnyH_take (i := 6) (oi := { dst := some 13, op := Op.extract (Operand.tmp 7) 0, type := 24, pos := "ref.go:62", after := #[{ on := 5, ground := Ground.data }], guard := none }) (v := ?vq85) rfl (by as_aux_lemma => kernel_rfl) (by as_aux_lemma => kernel_rfl) (by as_aux_lemma => kernel_rfl) (fun _ _ _ h => h) (Or.inl ⟨by rfl, ?yq85⟩) (by assumption) ?rq85
          case yq85 => (intro w hSw; (try dsimp only at hSw); go_simp <;> with_reducible rfl)
          simp only [Act.put, List.setIfInBounds_toArray, List.set_cons_zero, List.set_cons_succ]
          refine wpAnyH_take (i := 7) (oi := { dst := some 14, op := Op.extract (Operand.tmp 7) 1, type := 24, pos := "ref.go:62", after := #[{ on := 5, ground := Ground.data }, { on := 10, ground := Ground.gcOnly Departure.lateStores }], guard := none }) (v := ?vq86) rfl (by as_aux_lemma => kernel_rfl) (by as_aux_lemma => kernel_rfl) (by as_aux_lemma => kernel_rfl) (fun _ _ _ h => h) (Or.inl ⟨by rfl, ?yq86⟩) (by assumption) ?rq86
          case yq86 => (intro w hSw; (try dsimp only at hSw); go_simp <;> with_reducible rfl)
          simp only [Act.put, List.setIfInBounds_toArray, List.set_cons_zero, List.set_cons_succ]
          refine wpAnyH_ready (rs := [8]) (by as_aux_lemma => kernel_rfl) (by simp) ?_
          refine AllReadyH.cons (o := { dst := some 5, op := Op.alloc 24, type := 0, pos := "ref.go:62", after := #[], guard := none }) rfl (fun K hK => ?_) (by exact AllReadyH.nil)
          rw [if_pos (by rfl)]
          go_simp
          refine hK.out _ _ (by (try dsimp only); (first | assumption | exact (Below.refl _ _).drew | exact (balloc (Below.refl _ _) _).drew | exact (balloc (balloc (Below.refl _ _) _) _).drew | exact rstep (by assumption) (by assumption) | exact balloc (by assumption) _ | exact balloc (balloc (by assumption) _) _)) (fun hHeld => ?_)
          clear hK K
          simp only [List.setIfInBounds_toArray, List.set_cons_zero, List.set_cons_succ]
          refine rest _ _ _ ⟨?_, ?_, ?_, ?_, ?_, hHeld⟩
          · (repeat (first | exact Blk.new _ _ _ | exact Blk.newS _ _ _ _ | with_reducible refine Blk.drewR ?_ | with_reducible refine Blk.alloc ?_ _ | refine Blk.keep ?_ hk4 | refine Blk.keep ?_ hk3 | refine Blk.keep ?_ hk1))
          · (repeat (first | exact Blk.new _ _ _ | exact Blk.newS _ _ _ _ | with_reducible refine Blk.drewR ?_ | with_reducible refine Blk.alloc ?_ _ | refine Blk.keep ?_ hk4 | refine Blk.keep ?_ hk3 | refine Blk.keep ?_ hk1))
          · (have e1 := hk1.size; have e3 := hk3.size; have e4 := hk4.size; first | (simp only [World.size_drew'] at e1 e3 e4 ⊢; omega) | (simp only [World.size_alloc, World.size_drew'] at e1 e3 e4 ⊢; omega))
          · (have e1 := hk1.size; have e3 := hk3.size; have e4 := hk4.size; first | (simp only [World.size_drew'] at e1 e3 e4 ⊢; omega) | (simp only [World.size_alloc, World.size_drew'] at e1 e3 e4 ⊢; omega))
          · (have e1 := hk1.size; have e3 := hk3.size; have e4 := hk4.size; first | (simp only [World.size_drew'] at e1 e3 e4 ⊢; omega) | (simp only [World.size_alloc, World.size_drew'] at e1 e3 e4 ⊢; omega))
        refine AllReadyH.cons (o := { dst := some 5, op := Op.alloc 24, type := 0, pos := "ref.go:62", after := #[], guard := none }) rfl (fun K hK => ?_) (by exact AllReadyH.nil)
        rw [if_pos (by rfl)]
        go_simp
        refine hK.out _ _ (by (try dsimp only); (first | assumption | exact (Below.refl _ _).drew | exact (balloc (Below.refl _ _) _).drew | exact (balloc (balloc (Below.refl _ _) _) _).drew | exact rstep (by assumption) (by assumption) | exact balloc (by assumption) _ | exact balloc (balloc (by assumption) _) _)) (fun hHeld => ?_)
        clear hK K
        simp only [List.setIfInBounds_toArray, List.set_cons_zero, List.set_cons_succ]
        refine wpAnyH_ready (rs := [4]) (by as_aux_lemma => kernel_rfl) (by simp) ?_
        refine AllReadyH.cons (o := { dst := some 12, op := Op.call { callee := Callee.value (Operand.func 8), args := #[Operand.tmp 9, Operand.tmp 11], argTypes := #[24, 24] }, type := 25, pos := "ref.go:62", after := #[{ on := 1, ground := Ground.data }, { on := 3, ground := Ground.data }, { on := 3, ground := Ground.chain }], guard := none }) rfl (fun K hK => ?_) (by exact AllReadyH.nil)
        rw [if_pos (by rfl)]
        go_simp
        (go_at_call 8; refine (rdivide_all x y HM.out.1 HM.out.2 _).mono ?_; rintro e wk4 ⟨rfl, hk4⟩)
        refine hK.out _ _ (by (try dsimp only); (first | assumption | exact (Below.refl _ _).drew | exact (balloc (Below.refl _ _) _).drew | exact (balloc (balloc (Below.refl _ _) _) _).drew | exact rstep (by assumption) (by assumption) | exact balloc (by assumption) _ | exact balloc (balloc (by assumption) _) _)) (fun hHeld => ?_)
        clear hK K
        simp only [List.setIfInBounds_toArray, List.set_cons_zero, List.set_cons_succ]
        refine wpAnyH_take (i := 5) (oi := { dst := some 7, op := Op.move (Operand.tmp 12), type := 25, pos := "ref.go:62", after := #[{ on := 4, ground := Ground.data }], guard := none }) (v := ?vq89) rfl (by as_aux_lemma => kernel_rfl) (by as_aux_lemma => kernel_rfl) (by as_aux_lemma => kernel_rfl) (fun _ _ _ h => h) (Or.inl ⟨by rfl, ?yq89⟩) (by assumption) ?rq89
        case yq89 => (intro w hSw; (try dsimp only at hSw); go_simp <;> with_reducible rfl)
        simp only [Act.put, List.setIfInBounds_toArray, List.set_cons_zero, List.set_cons_succ]
        refine wpAnyH_take (i := 6) (oi := { dst := some 13, op := Op.extract (Operand.tmp 7) 0, type := 24, pos := "ref.go:62", after := #[{ on := 5, ground := Ground.data }], guard := none }) (v := ?vq90) rfl (by as_aux_lemma => kernel_rfl) (by as_aux_lemma => kernel_rfl) (by as_aux_lemma => kernel_rfl) (fun _ _ _ h => h) (Or.inl ⟨by rfl, ?yq90⟩) (by assumption) ?rq90
        case yq90 => (intro w hSw; (try dsimp only at hSw); go_simp <;> with_reducible rfl)
        simp only [Act.put, List.setIfInBounds_toArray, List.set_cons_zero, List.set_cons_succ]
        refine wpAnyH_take (i := 7) (oi := { dst := some 14, op := Op.extract (Operand.tmp 7) 1, type := 24, pos := "ref.go:62", after := #[{ on := 5, ground := Ground.data }, { on := 10, ground := Ground.gcOnly Departure.lateStores }], guard := none }) (v := ?vq91) rfl (by as_aux_lemma => kernel_rfl) (by as_aux_lemma => kernel_rfl) (by as_aux_lemma => kernel_rfl) (fun _ _ _ h => h) (Or.inl ⟨by rfl, ?yq91⟩) (by assumption) ?rq91
        case yq91 => (intro w hSw; (try dsimp only at hSw); go_simp <;> with_reducible rfl)
        simp only [Act.put, List.setIfInBounds_toArray, List.set_cons_zero, List.set_cons_succ]
        refine rest _ _ _ ⟨?_, ?_, ?_, ?_, ?_, hHeld⟩
        · (repeat (first | exact Blk.new _ _ _ | exact Blk.newS _ _ _ _ | with_reducible refine Blk.drewR ?_ | with_reducible refine Blk.alloc ?_ _ | refine Blk.keep ?_ hk4 | refine Blk.keep ?_ hk3 | refine Blk.keep ?_ hk1))
        · (repeat (first | exact Blk.new _ _ _ | exact Blk.newS _ _ _ _ | with_reducible refine Blk.drewR ?_ | with_reducible refine Blk.alloc ?_ _ | refine Blk.keep ?_ hk4 | refine Blk.keep ?_ hk3 | refine Blk.keep ?_ hk1))
        · (have e1 := hk1.size; have e3 := hk3.size; have e4 := hk4.size; first | (simp only [World.size_drew'] at e1 e3 e4 ⊢; omega) | (simp only [World.size_alloc, World.size_drew'] at e1 e3 e4 ⊢; omega))
        · (have e1 := hk1.size; have e3 := hk3.size; have e4 := hk4.size; first | (simp only [World.size_drew'] at e1 e3 e4 ⊢; omega) | (simp only [World.size_alloc, World.size_drew'] at e1 e3 e4 ⊢; omega))
        · (have e1 := hk1.size; have e3 := hk3.size; have e4 := hk4.size; first | (simp only [World.size_drew'] at e1 e3 e4 ⊢; omega) | (simp only [World.size_alloc, World.size_drew'] at e1 e3 e4 ⊢; omega))
      refine AllReadyH.cons (o := { dst := some 5, op := Op.alloc 24, type := 0, pos := "ref.go:62", after := #[], guard := none }) rfl (fun K hK => ?_) (by exact AllReadyH.nil)
      rw [if_pos (by rfl)]
      go_simp
      refine hK.out _ _ (by (try dsimp only); (first | assumption | exact (Below.refl _ _).drew | exact (balloc (Below.refl _ _) _).drew | exact (balloc (balloc (Below.refl _ _) _) _).drew | exact rstep (by assumption) (by assumption) | exact balloc (by assumption) _ | exact balloc (balloc (by assumption) _) _)) (fun hHeld => ?_)
      clear hK K
      simp only [List.setIfInBounds_toArray, List.set_cons_zero, List.set_cons_succ]
      refine wpAnyH_ready (rs := [3]) (by as_aux_lemma => kernel_rfl) (by simp) ?_
      refine AllReadyH.cons (o := { dst := some 11, op := Op.call { callee := Callee.value (Operand.func 39), args := #[Operand.tmp 10], argTypes := #[24] }, type := 24, pos := "ref.go:62", after := #[{ on := 2, ground := Ground.data }, { on := 1, ground := Ground.chain }], guard := none }) rfl (fun K hK => ?_) (by exact AllReadyH.nil)
      rw [if_pos (by rfl)]
      go_simp
      (go_at_call 39; refine (HPB.out _).mono ?_; rintro e wk3 ⟨rfl, hk3⟩)
      refine hK.out _ _ (by (try dsimp only); (first | assumption | exact (Below.refl _ _).drew | exact (balloc (Below.refl _ _) _).drew | exact (balloc (balloc (Below.refl _ _) _) _).drew | exact rstep (by assumption) (by assumption) | exact balloc (by assumption) _ | exact balloc (balloc (by assumption) _) _)) (fun hHeld => ?_)
      clear hK K
      simp only [List.setIfInBounds_toArray, List.set_cons_zero, List.set_cons_succ]
      refine wpAnyH_ready (rs := [4]) (by as_aux_lemma => kernel_rfl) (by simp) ?_
      refine AllReadyH.cons (o := { dst := some 12, op := Op.call { callee := Callee.value (Operand.func 8), args := #[Operand.tmp 9, Operand.tmp 11], argTypes := #[24, 24] }, type := 25, pos := "ref.go:62", after := #[{ on := 1, ground := Ground.data }, { on := 3, ground := Ground.data }, { on := 3, ground := Ground.chain }], guard := none }) rfl (fun K hK => ?_) (by exact AllReadyH.nil)
      rw [if_pos (by rfl)]
      go_simp
      (go_at_call 8; refine (rdivide_all x y HM.out.1 HM.out.2 _).mono ?_; rintro e wk4 ⟨rfl, hk4⟩)
      refine hK.out _ _ (by (try dsimp only); (first | assumption | exact (Below.refl _ _).drew | exact (balloc (Below.refl _ _) _).drew | exact (balloc (balloc (Below.refl _ _) _) _).drew | exact rstep (by assumption) (by assumption) | exact balloc (by assumption) _ | exact balloc (balloc (by assumption) _) _)) (fun hHeld => ?_)
      clear hK K
      simp only [List.setIfInBounds_toArray, List.set_cons_zero, List.set_cons_succ]
      refine wpAnyH_take (i := 5) (oi := { dst := some 7, op := Op.move (Operand.tmp 12), type := 25, pos := "ref.go:62", after := #[{ on := 4, ground := Ground.data }], guard := none }) (v := ?vq94) rfl (by as_aux_lemma => kernel_rfl) (by as_aux_lemma => kernel_rfl) (by as_aux_lemma => kernel_rfl) (fun _ _ _ h => h) (Or.inl ⟨by rfl, ?yq94⟩) (by assumption) ?rq94
      case yq94 => (intro w hSw; (try dsimp only at hSw); go_simp <;> with_reducible rfl)
      simp only [Act.put, List.setIfInBounds_toArray, List.set_cons_zero, List.set_cons_succ]
      refine wpAnyH_take (i := 6) (oi := { dst := some 13, op := Op.extract (Operand.tmp 7) 0, type := 24, pos := "ref.go:62", after := #[{ on := 5, ground := Ground.data }], guard := none }) (v := ?vq95) rfl (by as_aux_lemma => kernel_rfl) (by as_aux_lemma => kernel_rfl) (by as_aux_lemma => kernel_rfl) (fun _ _ _ h => h) (Or.inl ⟨by rfl, ?yq95⟩) (by assumption) ?rq95
      case yq95 => (intro w hSw; (try dsimp only at hSw); go_simp <;> with_reducible rfl)
      simp only [Act.put, List.setIfInBounds_toArray, List.set_cons_zero, List.set_cons_succ]
      refine wpAnyH_take (i := 7) (oi := { dst := some 14, op := Op.extract (Operand.tmp 7) 1, type := 24, pos := "ref.go:62", after := #[{ on := 5, ground := Ground.data }, { on := 10, ground := Ground.gcOnly Departure.lateStores }], guard := none }) (v := ?vq96) rfl (by as_aux_lemma => kernel_rfl) (by as_aux_lemma => kernel_rfl) (by as_aux_lemma => kernel_rfl) (fun _ _ _ h => h) (Or.inl ⟨by rfl, ?yq96⟩) (by assumption) ?rq96
      case yq96 => (intro w hSw; (try dsimp only at hSw); go_simp <;> with_reducible rfl)
      simp only [Act.put, List.setIfInBounds_toArray, List.set_cons_zero, List.set_cons_succ]
      refine rest _ _ _ ⟨?_, ?_, ?_, ?_, ?_, hHeld⟩
      · (repeat (first | exact Blk.new _ _ _ | exact Blk.newS _ _ _ _ | with_reducible refine Blk.drewR ?_ | with_reducible refine Blk.alloc ?_ _ | refine Blk.keep ?_ hk4 | refine Blk.keep ?_ hk3 | refine Blk.keep ?_ hk1))
      · (repeat (first | exact Blk.new _ _ _ | exact Blk.newS _ _ _ _ | with_reducible refine Blk.drewR ?_ | with_reducible refine Blk.alloc ?_ _ | refine Blk.keep ?_ hk4 | refine Blk.keep ?_ hk3 | refine Blk.keep ?_ hk1))
      · (have e1 := hk1.size; have e3 := hk3.size; have e4 := hk4.size; first | (simp only [World.size_drew'] at e1 e3 e4 ⊢; omega) | (simp only [World.size_alloc, World.size_drew'] at e1 e3 e4 ⊢; omega))
      · (have e1 := hk1.size; have e3 := hk3.size; have e4 := hk4.size; first | (simp only [World.size_drew'] at e1 e3 e4 ⊢; omega) | (simp only [World.size_alloc, World.size_drew'] at e1 e3 e4 ⊢; omega))
      · (have e1 := hk1.size; have e3 := hk3.size; have e4 := hk4.size; first | (simp only [World.size_drew'] at e1 e3 e4 ⊢; omega) | (simp only [World.size_alloc, World.size_drew'] at e1 e3 e4 ⊢; omega))
    refine AllReadyH.cons (o := { dst := some 5, op := Op.alloc 24, type := 0, pos := "ref.go:62", after := #[], guard := none }) rfl (fun K hK => ?_) (by exact AllReadyH.nil)
    rw [if_pos (by rfl)]
    go_simp
    refine hK.out _ _ (by (try dsimp only); (first | assumption | exact (Below.refl _ _).drew | exact (balloc (Below.refl _ _) _).drew | exact (balloc (balloc (Below.refl _ _) _) _).drew | exact rstep (by assumption) (by assumption) | exact balloc (by assumption) _ | exact balloc (balloc (by assumption) _) _)) (fun hHeld => ?_)
    clear hK K
    simp only [List.setIfInBounds_toArray, List.set_cons_zero, List.set_cons_succ]
    refine wpAnyH_ready (rs := [1]) (by as_aux_lemma => kernel_rfl) (by simp) ?_
    refine AllReadyH.cons (o := { dst := some 9, op := Op.call { callee := Callee.value (Operand.func 39), args := #[Operand.tmp 8], argTypes := #[24] }, type := 24, pos := "ref.go:62", after := #[{ on := 0, ground := Ground.data }], guard := none }) rfl (fun K hK => ?_) (by exact AllReadyH.nil)
    rw [if_pos (by rfl)]
    go_simp
    (go_at_call 39; refine (HPA.out _).mono ?_; rintro e wk1 ⟨rfl, hk1⟩)
    refine hK.out _ _ (by (try dsimp only); (first | assumption | exact (Below.refl _ _).drew | exact (balloc (Below.refl _ _) _).drew | exact (balloc (balloc (Below.refl _ _) _) _).drew | exact rstep (by assumption) (by assumption) | exact balloc (by assumption) _ | exact balloc (balloc (by assumption) _) _)) (fun hHeld => ?_)
    clear hK K
    simp only [List.setIfInBounds_toArray, List.set_cons_zero, List.set_cons_succ]
    refine wpAnyH_ready (rs := [3]) (by as_aux_lemma => kernel_rfl) (by simp) ?_
    refine AllReadyH.cons (o := { dst := some 11, op := Op.call { callee := Callee.value (Operand.func 39), args := #[Operand.tmp 10], argTypes := #[24] }, type := 24, pos := "ref.go:62", after := #[{ on := 2, ground := Ground.data }, { on := 1, ground := Ground.chain }], guard := none }) rfl (fun K hK => ?_) (by exact AllReadyH.nil)
    rw [if_pos (by rfl)]
    go_simp
    (go_at_call 39; refine (HPB.out _).mono ?_; rintro e wk3 ⟨rfl, hk3⟩)
    refine hK.out _ _ (by (try dsimp only); (first | assumption | exact (Below.refl _ _).drew | exact (balloc (Below.refl _ _) _).drew | exact (balloc (balloc (Below.refl _ _) _) _).drew | exact rstep (by assumption) (by assumption) | exact balloc (by assumption) _ | exact balloc (balloc (by assumption) _) _)) (fun hHeld => ?_)
    clear hK K
    simp only [List.setIfInBounds_toArray, List.set_cons_zero, List.set_cons_succ]
    refine wpAnyH_ready (rs := [4]) (by as_aux_lemma => kernel_rfl) (by simp) ?_
    refine AllReadyH.cons (o := { dst := some 12, op := Op.call { callee := Callee.value (Operand.func 8), args := #[Operand.tmp 9, Operand.tmp 11], argTypes := #[24, 24] }, type := 25, pos := "ref.go:62", after := #[{ on := 1, ground := Ground.data }, { on := 3, ground := Ground.data }, { on := 3, ground := Ground.chain }], guard := none }) rfl (fun K hK => ?_) (by exact AllReadyH.nil)
    rw [if_pos (by rfl)]
    go_simp
    (go_at_call 8; refine (rdivide_all x y HM.out.1 HM.out.2 _).mono ?_; rintro e wk4 ⟨rfl, hk4⟩)
    refine hK.out _ _ (by (try dsimp only); (first | assumption | exact (Below.refl _ _).drew | exact (balloc (Below.refl _ _) _).drew | exact (balloc (balloc (Below.refl _ _) _) _).drew | exact rstep (by assumption) (by assumption) | exact balloc (by assumption) _ | exact balloc (balloc (by assumption) _) _)) (fun hHeld => ?_)
    clear hK K
    simp only [List.setIfInBounds_toArray, List.set_cons_zero, List.set_cons_succ]
    refine wpAnyH_take (i := 5) (oi := { dst := some 7, op := Op.move (Operand.tmp 12), type := 25, pos := "ref.go:62", after := #[{ on := 4, ground := Ground.data }], guard := none }) (v := ?vq100) rfl (by as_aux_lemma => kernel_rfl) (by as_aux_lemma => kernel_rfl) (by as_aux_lemma => kernel_rfl) (fun _ _ _ h => h) (Or.inl ⟨by rfl, ?yq100⟩) (by assumption) ?rq100
    case yq100 => (intro w hSw; (try dsimp only at hSw); go_simp <;> with_reducible rfl)
    simp only [Act.put, List.setIfInBounds_toArray, List.set_cons_zero, List.set_cons_succ]
    refine wpAnyH_take (i := 6) (oi := { dst := some 13, op := Op.extract (Operand.tmp 7) 0, type := 24, pos := "ref.go:62", after := #[{ on := 5, ground := Ground.data }], guard := none }) (v := ?vq101) rfl (by as_aux_lemma => kernel_rfl) (by as_aux_lemma => kernel_rfl) (by as_aux_lemma => kernel_rfl) (fun _ _ _ h => h) (Or.inl ⟨by rfl, ?yq101⟩) (by assumption) ?rq101
    case yq101 => (intro w hSw; (try dsimp only at hSw); go_simp <;> with_reducible rfl)
    simp only [Act.put, List.setIfInBounds_toArray, List.set_cons_zero, List.set_cons_succ]
    refine wpAnyH_take (i := 7) (oi := { dst := some 14, op := Op.extract (Operand.tmp 7) 1, type := 24, pos := "ref.go:62", after := #[{ on := 5, ground := Ground.data }, { on := 10, ground := Ground.gcOnly Departure.lateStores }], guard := none }) (v := ?vq102) rfl (by as_aux_lemma => kernel_rfl) (by as_aux_lemma => kernel_rfl) (by as_aux_lemma => kernel_rfl) (fun _ _ _ h => h) (Or.inl ⟨by rfl, ?yq102⟩) (by assumption) ?rq102
    case yq102 => (intro w hSw; (try dsimp only at hSw); go_simp <;> with_reducible rfl)
    simp only [Act.put, List.setIfInBounds_toArray, List.set_cons_zero, List.set_cons_succ]
    refine rest _ _ _ ⟨?_, ?_, ?_, ?_, ?_, hHeld⟩
    · (repeat (first | exact Blk.new _ _ _ | exact Blk.newS _ _ _ _ | with_reducible refine Blk.drewR ?_ | with_reducible refine Blk.alloc ?_ _ | refine Blk.keep ?_ hk4 | refine Blk.keep ?_ hk3 | refine Blk.keep ?_ hk1))
    · (repeat (first | exact Blk.new _ _ _ | exact Blk.newS _ _ _ _ | with_reducible refine Blk.drewR ?_ | with_reducible refine Blk.alloc ?_ _ | refine Blk.keep ?_ hk4 | refine Blk.keep ?_ hk3 | refine Blk.keep ?_ hk1))
    · (have e1 := hk1.size; have e3 := hk3.size; have e4 := hk4.size; first | (simp only [World.size_drew'] at e1 e3 e4 ⊢; omega) | (simp only [World.size_alloc, World.size_drew'] at e1 e3 e4 ⊢; omega))
    · (have e1 := hk1.size; have e3 := hk3.size; have e4 := hk4.size; first | (simp only [World.size_drew'] at e1 e3 e4 ⊢; omega) | (simp only [World.size_alloc, World.size_drew'] at e1 e3 e4 ⊢; omega))
    · (have e1 := hk1.size; have e3 := hk3.size; have e4 := hk4.size; first | (simp only [World.size_drew'] at e1 e3 e4 ⊢; omega) | (simp only [World.size_alloc, World.size_drew'] at e1 e3 e4 ⊢; omega))
  case hrest =>
    intro X Y wz ⟨z1, z2, z3, z4, z5, z6⟩
    refine wpAnyH_ready (rs := [10]) (by as_aux_lemma => kernel_rfl) (by simp) ?_
    refine AllReadyH.cons (o := { dst := none, op := Op.store 24 (Operand.tmp 5) (Operand.tmp 13), type := 0, pos := "ref.go:62", after := #[{ on := 8, ground := Ground.data }, { on := 6, ground := Ground.data }, { on := 4, ground := Ground.chain }, { on := 0, ground := Ground.phase }, { on := 1, ground := Ground.phase }, { on := 2, ground := Ground.phase }, { on := 3, ground := Ground.phase }, { on := 4, ground := Ground.phase }, { on := 5, ground := Ground.phase }, { on := 6, ground := Ground.phase }, { on := 7, ground := Ground.textOnly Departure.lateStores }, { on := 8, ground := Ground.phase }, { on := 9, ground := Ground.phase }], guard := none }) rfl (fun K hK => ?_) (by exact AllReadyH.nil)
    rw [if_pos (by rfl)]
    refine wp_store_mid 24 (.tmp 5) (.tmp 13) rfl X 0 (Wc (x / y)) rfl rfl (z1.there _ (Nat.le_refl 4)) HI.out (wc_one _) (hK.out _ _ (below_setCells' z4 _ 0 wz z6) (fun hHeld => ?_))
    have z7 := blk_setCells z1 (Wc (x / y)) rfl (wc_one _)
    have z8 := blk_setCells_far z2 X 0 (Wc (x / y)).toList z3.symm
    clear z1 z2 z6
    generalize wz.setCells X 0 (Wc (x / y)).toList = wy at z7 z8 hHeld ⊢
    clear hK K
    simp only [Act.put, List.setIfInBounds_toArray, List.set_cons_zero, List.set_cons_succ]
    refine wpAnyH_ready (rs := [11]) (by as_aux_lemma => kernel_rfl) (by simp) ?_
    refine AllReadyH.cons (o := { dst := none, op := Op.store 24 (Operand.tmp 6) (Operand.tmp 14), type := 0, pos := "ref.go:62", after := #[{ on := 9, ground := Ground.data }, { on := 7, ground := Ground.data }, { on := 10, ground := Ground.chain }, { on := 0, ground := Ground.phase }, { on := 1, ground := Ground.phase }, { on := 2, ground := Ground.phase }, { on := 3, ground := Ground.phase }, { on := 4, ground := Ground.phase }, { on := 5, ground := Ground.phase }, { on := 6, ground := Ground.phase }, { on := 7, ground := Ground.phase }, { on := 8, ground := Ground.phase }, { on := 9, ground := Ground.phase }, { on := 10, ground := Ground.phase }], guard := none }) rfl (fun K hK => ?_) (by exact AllReadyH.nil)
    rw [if_pos (by rfl)]
    refine wp_store_mid 24 (.tmp 6) (.tmp 14) rfl Y 0 (Wc (mdN x y)) rfl rfl (z8.there _ (Nat.le_refl 4)) HI.out (wc_one _) (hK.out _ _ (below_setCells' z5 _ 0 wy hHeld) (fun hHeld => ?_))
    have z9 := blk_setCells z8 (Wc (mdN x y)) rfl (wc_one _)
    have z10 := blk_setCells_far z7 Y 0 (Wc (mdN x y)).toList z3
    clear z7 z8
    generalize wy.setCells Y 0 (Wc (mdN x y)).toList = wx at z9 z10 hHeld ⊢
    clear hK K
    simp only [Act.put, List.setIfInBounds_toArray, List.set_cons_zero, List.set_cons_succ]
    refine wpAnyH_done (by as_aux_lemma => kernel_rfl) ?_ _
    refine hKc _ _ ?_
    clear hKc Kc
    replace A := A.block_below hHeld
    replace B := B.block_below hHeld
    replace R := R.block_below hHeld
    have hl := R.lt
    have hgX : w.heap.size + 1 + 1 < X := Nat.lt_of_lt_of_le hl0 z4
    have hgY : w.heap.size + 1 + 1 < Y := Nat.lt_of_lt_of_le hl0 z5
    replace hW := bstep hW hHeld
    clear HPA HPB HI hHeld hl0 z3 z4 z5
    have hs := fun w => rsub_any 0 (mdN x y) w
    rw [W_zero] at hs
    generalize hq : mdN x y = q at *
    have HQ := Lib.hid hq
    clear hq
    have HS := Lib.hid hs
    have HR := Lib.hid R
    have HB := Lib.hid hW
    have HXb := Lib.hid z9
    clear cA0 cA1 cA2 cA3 cB0 cB1 cB2 cB3 hs
    have cA0 := (cell_of_row wx _ 0 _ _ _ A).trans (wc_get (a) 0 (by omega))
    have cA1 := (cell_of_row wx _ 1 _ _ _ A).trans (wc_get (a) 1 (by omega))
    have cA2 := (cell_of_row wx _ 2 _ _ _ A).trans (wc_get (a) 2 (by omega))
    have cA3 := (cell_of_row wx _ 3 _ _ _ A).trans (wc_get (a) 3 (by omega))
    clear A B R hW z9 z10 hl hgX hgY HM
    go_wp2_with fail
    refine (rneg_any a _).mono ?_
    rintro e wk ⟨rfl, hH⟩
    have hR1 := HR.out.block_below hH
    have hX1 := HXb.out.block_below hH
    have hB := bstep HB.out hH
    clear cA0 cA1 cA2 cA3 HR HXb HB hH
    have cX0 := (cell_of_row wk _ 0 _ _ _ hX1).trans (wc_get (q) 0 (by omega))
    have cX1 := (cell_of_row wk _ 1 _ _ _ hX1).trans (wc_get (q) 1 (by omega))
    have cX2 := (cell_of_row wk _ 2 _ _ _ hX1).trans (wc_get (q) 2 (by omega))
    have cX3 := (cell_of_row wk _ 3 _ _ _ hX1).trans (wc_get (q) 3 (by omega))
    have r0 := cell_of_row wk _ 0 _ _ _ hR1
    have fr0 := frozen_of_row wk _ 0 _ _ hR1
    have r1 := cell_of_row wk _ 1 _ _ _ hR1
    have fr1 := frozen_of_row wk _ 1 _ _ hR1
    have r2 := cell_of_row wk _ 2 _ _ _ hR1
    have fr2 := frozen_of_row wk _ 2 _ _ hR1
    have r3 := cell_of_row wk _ 3 _ _ _ hR1
    have fr3 := frozen_of_row wk _ 3 _ _ hR1
    have HR := Lib.hid hR1
    have HB := Lib.hid hB
    clear hR1 hX1 hB
    cases hx : ngN a
    all_goals
      go_wp2_with (first | (go_at_call 32; refine (HS.out _).mono ?_; rintro e wk2 ⟨rfl, hk2⟩; have R2 := HR.out.block_below hk2; replace HB := Lib.hid (bstep HB.out hk2); clear r0 r1 r2 r3 fr0 fr1 fr2 fr3 cX0 cX1 cX2 cX3 HR hk2; have r0 := cell_of_row wk2 _ 0 _ _ _ R2; have fr0 := frozen_of_row wk2 _ 0 _ _ R2; have r1 := cell_of_row wk2 _ 1 _ _ _ R2; have fr1 := frozen_of_row wk2 _ 1 _ _ R2; have r2 := cell_of_row wk2 _ 2 _ _ _ R2; have fr2 := frozen_of_row wk2 _ 2 _ _ R2; have r3 := cell_of_row wk2 _ 3 _ _ _ R2; have fr3 := frozen_of_row wk2 _ 3 _ _ R2; clear R2) | fail)
      first
        | exact bodyPost_ret (v := W q) (by simp [results, Try.results14, go_sem, r0, r1, r2, r3]) rfl ⟨by rw [HQ.out, hx]; unfold tnN; rfl, ((((HB.out.setCell (p := ⟨w.heap.size + 1 + 1, 0, none⟩) (by simp; try omega) _).setCell (p := ⟨w.heap.size + 1 + 1, 1, none⟩) (by simp; try omega) _).setCell (p := ⟨w.heap.size + 1 + 1, 2, none⟩) (by simp; try omega) _).setCell (p := ⟨w.heap.size + 1 + 1, 3, none⟩) (by simp; try omega) _)⟩
        | exact bodyPost_ret (v := W (sb 0 q)) (by simp [results, Try.results14, go_sem, r0, r1, r2, r3]) rfl ⟨by rw [HQ.out, hx]; unfold tnN; rfl, ((((HB.out.setCell (p := ⟨w.heap.size + 1 + 1, 0, none⟩) (by simp; try omega) _).setCell (p := ⟨w.heap.size + 1 + 1, 1, none⟩) (by simp; try omega) _).setCell (p := ⟨w.heap.size + 1 + 1, 2, none⟩) (by simp; try omega) _).setCell (p := ⟨w.heap.size + 1 + 1, 3, none⟩) (by simp; try omega) _)⟩

end Go.Proofs.Ytopnkkdbimmlhaa
