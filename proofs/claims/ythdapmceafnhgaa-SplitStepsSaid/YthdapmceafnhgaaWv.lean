/- The reference of layer word: Add, by a contract. -/
import Derived.Test.YthdapmceafnhgaaWu
import Derived.Deep.RegionHeld
namespace Go.Proofs.Ythdapmceafnhgaa
open Go.RowKit
attribute [local go_sem] ix0 ix1 ix2 ix3
theorem Blk.keep {X Y : World} {g : Nat} {t : TypeId} {cs : Array Value} (h : Blk X g t cs) (k : Below X.heap.size X Y) : Blk Y g t cs := (k.block g h.lt).trans h
theorem rstep {w W w1 : World} (k : Below W.heap.size W w1) (h : Below w.heap.size w W) : Below w.heap.size w w1 := bstep h k
theorem Blk.drewR {X : World} {g : Nat} {t : TypeId} {cs : Array Value} (h : Blk X g t cs) : Blk X.drew g t cs := h
theorem Blk.newS (X : World) (o : Obj) (t : TypeId) (cs : Array Value) : Blk ((X.alloc o).alloc (.cells cs t)) (X.heap.size + 1) t cs := by
  have h := Blk.new (X.alloc o) t cs
  rwa [World.size_alloc] at h
theorem join2 {C : Nat → Nat → World → Prop} {G : Prop} (P : Nat → Nat → World → Prop) (main : (∀ X Y wz, C X Y wz → P X Y wz) → G) (hrest : ∀ X Y wz, C X Y wz → P X Y wz) : G := main hrest
theorem World.size_drew' (w : World) : w.drew.heap.size = w.heap.size := rfl
theorem blk_setCells_any (b : Nat) (t : TypeId) : ∀ (vs : List Value) (o : Nat) (w : World) (cs : Array Value), Blk w b t cs → ∃ cs', cs'.size = cs.size ∧ Blk (w.setCells b o vs) b t cs'
  | [], _, _, cs, h => ⟨cs, rfl, h⟩
  | v :: vs, o, w, cs, h => by
    obtain ⟨cs', h1, h2⟩ := blk_setCells_any b t vs (o + 1) (w.setCell ⟨b, o, none⟩ v) (cs.setIfInBounds o v) (heap_setCell_same w b o _ _ v h)
    exact ⟨cs', by rw [h1, Array.size_setIfInBounds], h2⟩
/-- A whole block is laid anew. -/
theorem blk_setCells {w : World} {b : Nat} {t : TypeId} {cs : Array Value} (h : Blk w b t cs) (vs : Array Value) (hs : vs.size = cs.size) (_h1 : vs.all (·.oneCell') = true) : Blk (w.setCells b 0 vs.toList) b t vs := by
  obtain ⟨cs', h1, h2⟩ := blk_setCells_any b t vs.toList 0 w cs h
  have h3 := World.rangeAt_setCells_same w b 0 vs.toList (h.there _ (by rw [Array.length_toList, hs]; exact Nat.le_refl _))
  have e : cs' = vs := by
    apply Array.ext_getElem?
    intro j
    by_cases hj : j < vs.size
    · have h4 := h3 j vs[j] (by simp [hj])
      rw [Nat.zero_add] at h4
      rw [← cell_of_row _ b j _ _ _ h2, h4, Array.getElem?_eq_getElem hj]
    · rw [Array.getElem?_eq_none (by omega), Array.getElem?_eq_none (by omega)]
  rw [← e]; rw [e] at h2 ⊢; exact h2
theorem blk_setCells_far {g : Nat} {t : TypeId} {cs : Array Value} {w : World} (h : Blk w g t cs) (b : Nat) : ∀ (o : Nat) (vs : List Value), g ≠ b → Blk (w.setCells b o vs) g t cs := by
  intro o vs hne
  induction vs generalizing o w with
  | nil => exact h
  | cons v vs ih => exact ih ((Below.heap_setCell w ⟨b, o, none⟩ v g hne).trans h) (o + 1)

set_option maxRecDepth 100000 in
set_option maxHeartbeats 4000000 in
theorem radd_any (a b : Nat) (w : World) :
    Calls Try.prog 31 #[W a, W b] w fun e w' => e = .returned (W (a + b)) ∧ Below w.heap.size w w' := by
  have hi : ∀ c : Nat, (Try.prog.info? 74).map (·.size) = some (byC c 32).size := fun c => by rw [byC_size]; kernel_rfl
  have HI := fun c => Lib.hid (hi c)
  clear hi
  go_enter Try.func31, Try.ntmps31
  go_wp2_with fail
  have A : Blk (((w.alloc (.cells (Wc a) 24)).alloc (.cells (Wc b) 24)).alloc (.cells (Wc 0) 24)) w.heap.size 24 (Wc a) := ((Blk.new _ _ _).alloc _).alloc _
  have B : Blk (((w.alloc (.cells (Wc a) 24)).alloc (.cells (Wc b) 24)).alloc (.cells (Wc 0) 24)) (w.heap.size + 1) 24 (Wc b) := (Blk.newS w _ _ _).alloc _
  have R : Blk (((w.alloc (.cells (Wc a) 24)).alloc (.cells (Wc b) 24)).alloc (.cells (Wc 0) 24)) (w.heap.size + 1 + 1) 24 (Wc 0) := by
    have h := Blk.newS (w.alloc (.cells (Wc a) 24)) (.cells (Wc b) 24) 24 (Wc 0)
    rwa [World.size_alloc] at h
  have hW : Below w.heap.size w (((w.alloc (.cells (Wc a) 24)).alloc (.cells (Wc b) 24)).alloc (.cells (Wc 0) 24)) := balloc (balloc (balloc (Below.refl _ _) _) _) _
  have e0 : Wc 0 = #[.int .u64 0, .int .u64 0, .int .u64 0, .int .u64 0] := by unfold Wc; simp only [lb_zero]
  obtain ⟨W0, hW0⟩ : ∃ W0, ((w.alloc (.cells (Wc a) 24)).alloc (.cells (Wc b) 24)).alloc (.cells (Wc 0) 24) = W0 := ⟨_, rfl⟩
  rw [hW0] at A B R hW
  rw [e0] at hW0
  rw [hW0]
  clear hW0 e0
  have cA0 : ∀ w', Below W0.heap.size W0 w' → w'.cell? ⟨w.heap.size, 0, none⟩ = some (.int .u64 (lb a 0)) := fun w' h => (h.cell (p := ⟨w.heap.size, 0, none⟩) A.lt).trans (cell_of_row _ _ 0 _ _ _ A)
  have cA1 : ∀ w', Below W0.heap.size W0 w' → w'.cell? ⟨w.heap.size, 1, none⟩ = some (.int .u64 (lb a 1)) := fun w' h => (h.cell (p := ⟨w.heap.size, 1, none⟩) A.lt).trans (cell_of_row _ _ 1 _ _ _ A)
  have cA2 : ∀ w', Below W0.heap.size W0 w' → w'.cell? ⟨w.heap.size, 2, none⟩ = some (.int .u64 (lb a 2)) := fun w' h => (h.cell (p := ⟨w.heap.size, 2, none⟩) A.lt).trans (cell_of_row _ _ 2 _ _ _ A)
  have cA3 : ∀ w', Below W0.heap.size W0 w' → w'.cell? ⟨w.heap.size, 3, none⟩ = some (.int .u64 (lb a 3)) := fun w' h => (h.cell (p := ⟨w.heap.size, 3, none⟩) A.lt).trans (cell_of_row _ _ 3 _ _ _ A)
  have cB0 : ∀ w', Below W0.heap.size W0 w' → w'.cell? ⟨w.heap.size + 1, 0, none⟩ = some (.int .u64 (lb b 0)) := fun w' h => (h.cell (p := ⟨w.heap.size + 1, 0, none⟩) B.lt).trans (cell_of_row _ _ 0 _ _ _ B)
  have cB1 : ∀ w', Below W0.heap.size W0 w' → w'.cell? ⟨w.heap.size + 1, 1, none⟩ = some (.int .u64 (lb b 1)) := fun w' h => (h.cell (p := ⟨w.heap.size + 1, 1, none⟩) B.lt).trans (cell_of_row _ _ 1 _ _ _ B)
  have cB2 : ∀ w', Below W0.heap.size W0 w' → w'.cell? ⟨w.heap.size + 1, 2, none⟩ = some (.int .u64 (lb b 2)) := fun w' h => (h.cell (p := ⟨w.heap.size + 1, 2, none⟩) B.lt).trans (cell_of_row _ _ 2 _ _ _ B)
  have cB3 : ∀ w', Below W0.heap.size W0 w' → w'.cell? ⟨w.heap.size + 1, 3, none⟩ = some (.int .u64 (lb b 3)) := fun w' h => (h.cell (p := ⟨w.heap.size + 1, 3, none⟩) B.lt).trans (cell_of_row _ _ 3 _ _ _ B)
  have HR := Lib.hid R
  have HW := Lib.hid hW
  have hRl := R.lt
  clear A B R hW
  refine join2 (C := fun X Y wz => Blk wz X 74 (byC 0 0) ∧ Blk wz Y 74 (byC 0 0) ∧ X ≠ Y ∧ W0.heap.size ≤ X ∧ W0.heap.size ≤ Y ∧ Below W0.heap.size W0 wz) ?PJ ?main ?hrest
  case main =>
    intro rest
    refine wp_region_held_drew (S := fun w' => Below W0.heap.size W0 w') (by as_aux_lemma => kernel_rfl) (Below.refl _ _).drew (fun hHeld => ?_)
    simp only [List.size_toArray, List.length_cons, List.length_nil, Nat.reduceAdd, Array.replicate_succ, Array.replicate_zero, List.push_toArray, List.nil_append, List.cons_append]
    refine wpAnyH_take (i := 0) (oi := { dst := some 9, op := Op.load 24 (Operand.tmp 2), type := 24, pos := "ref.go:38", after := #[], guard := none }) (v := ?vq0) rfl (by as_aux_lemma => kernel_rfl) (by as_aux_lemma => kernel_rfl) (by as_aux_lemma => kernel_rfl) (fun _ _ _ h => h) (Or.inl ⟨by rfl, ?yq0⟩) (by assumption) ?rq0
    case yq0 => (intro w hSw; (try dsimp only at hSw); go_simp <;> with_reducible rfl)
    simp only [Act.put, List.setIfInBounds_toArray, List.set_cons_zero, List.set_cons_succ]
    refine wpAnyH_take (i := 2) (oi := { dst := some 11, op := Op.load 24 (Operand.tmp 3), type := 24, pos := "ref.go:38", after := #[], guard := none }) (v := ?vq1) rfl (by as_aux_lemma => kernel_rfl) (by as_aux_lemma => kernel_rfl) (by as_aux_lemma => kernel_rfl) (fun _ _ _ h => h) (Or.inl ⟨by rfl, ?yq1⟩) (by assumption) ?rq1
    case yq1 => (intro w hSw; (try dsimp only at hSw); go_simp <;> with_reducible rfl)
    simp only [Act.put, List.setIfInBounds_toArray, List.set_cons_zero, List.set_cons_succ]
    refine wpAnyH_ready (rs := [1, 4, 5]) (by as_aux_lemma => kernel_rfl) (by simp) ?_
    refine AllReadyH.cons (o := { dst := some 10, op := Op.call { callee := Callee.value (Operand.func 40), args := #[Operand.tmp 9], argTypes := #[24] }, type := 74, pos := "ref.go:38", after := #[{ on := 0, ground := Ground.data }], guard := none }) rfl (fun K hK => ?_) ?_
    · go_simp
      (go_at_call 40; refine (rbytes_any _ _).mono ?_; rintro e wk1 ⟨rfl, hk1⟩)
      refine hK.out _ _ (by (try dsimp only); (first | assumption | exact (Below.refl _ _).drew | exact (balloc (Below.refl _ _) _).drew | exact rstep (by assumption) (by assumption) | exact balloc (by assumption) _ | exact balloc (balloc (by assumption) _) _)) (fun hHeld => ?_)
      clear hK K
      simp only [List.setIfInBounds_toArray, List.set_cons_zero, List.set_cons_succ]
      refine wpAnyH_ready (rs := [3, 4, 5]) (by as_aux_lemma => kernel_rfl) (by simp) ?_
      refine AllReadyH.cons (o := { dst := some 12, op := Op.call { callee := Callee.value (Operand.func 40), args := #[Operand.tmp 11], argTypes := #[24] }, type := 74, pos := "ref.go:38", after := #[{ on := 2, ground := Ground.data }, { on := 1, ground := Ground.chain }], guard := none }) rfl (fun K hK => ?_) ?_
      · go_simp
        (go_at_call 40; refine (rbytes_any _ _).mono ?_; rintro e wk3 ⟨rfl, hk3⟩)
        refine hK.out _ _ (by (try dsimp only); (first | assumption | exact (Below.refl _ _).drew | exact (balloc (Below.refl _ _) _).drew | exact rstep (by assumption) (by assumption) | exact balloc (by assumption) _ | exact balloc (balloc (by assumption) _) _)) (fun hHeld => ?_)
        clear hK K
        simp only [List.setIfInBounds_toArray, List.set_cons_zero, List.set_cons_succ]
        refine wpAnyH_ready (rs := [4, 5]) (by as_aux_lemma => kernel_rfl) (by simp) ?_
        refine AllReadyH.cons (o := { dst := some 5, op := Op.alloc 74, type := 0, pos := "ref.go:38", after := #[], guard := none }) rfl (fun K hK => ?_) ?_
        · go_simp
          refine hK.out _ _ (by (try dsimp only); (first | assumption | exact (Below.refl _ _).drew | exact (balloc (Below.refl _ _) _).drew | exact rstep (by assumption) (by assumption) | exact balloc (by assumption) _ | exact balloc (balloc (by assumption) _) _)) (fun hHeld => ?_)
          clear hK K
          simp only [List.setIfInBounds_toArray, List.set_cons_zero, List.set_cons_succ]
          refine wpAnyH_ready (rs := [5]) (by as_aux_lemma => kernel_rfl) (by simp) ?_
          refine AllReadyH.cons (o := { dst := some 6, op := Op.alloc 74, type := 0, pos := "ref.go:38", after := #[], guard := none }) rfl (fun K hK => ?_) (by exact AllReadyH.nil)
          go_simp
          refine hK.out _ _ (by (try dsimp only); (first | assumption | exact (Below.refl _ _).drew | exact (balloc (Below.refl _ _) _).drew | exact rstep (by assumption) (by assumption) | exact balloc (by assumption) _ | exact balloc (balloc (by assumption) _) _)) (fun hHeld => ?_)
          clear hK K
          simp only [List.setIfInBounds_toArray, List.set_cons_zero, List.set_cons_succ]
          have z1 : Blk ((wk3.alloc (.cells (byC 0 0) 74)).alloc (.cells (byC 0 0) 74)) wk3.heap.size 74 (byC 0 0) := (Blk.new _ _ _).alloc _
          have z2 : Blk ((wk3.alloc (.cells (byC 0 0) 74)).alloc (.cells (byC 0 0) 74)) (wk3.heap.size + 1) 74 (byC 0 0) := Blk.newS _ _ _ _
          have z3 : wk3.heap.size ≠ wk3.heap.size + 1 := by omega
          have z4 : W0.heap.size ≤ wk3.heap.size := by (have e1 := hk1.size; have e3 := hk3.size; first | (simp only [World.size_drew'] at e1 e3 ⊢; omega) | (simp only [World.size_alloc, World.size_drew'] at e1 e3 ⊢; omega))
          have z5 : W0.heap.size ≤ wk3.heap.size + 1 := by omega
          rw [byC_zero 0] at z1 z2
          have z6 := hHeld
          clear hHeld
          generalize ((wk3.alloc _).alloc _) = wz at z1 z2 z6 ⊢
          generalize wk3.heap.size + 1 = Y at z2 z3 z5 ⊢
          generalize wk3.heap.size = X at z1 z3 z4 ⊢
          rw [← byC_zero 0] at z1 z2
          exact rest X Y wz ⟨z1, z2, z3, z4, z5, z6⟩
        refine AllReadyH.cons (o := { dst := some 6, op := Op.alloc 74, type := 0, pos := "ref.go:38", after := #[], guard := none }) rfl (fun K hK => ?_) (by exact AllReadyH.nil)
        go_simp
        refine hK.out _ _ (by (try dsimp only); (first | assumption | exact (Below.refl _ _).drew | exact (balloc (Below.refl _ _) _).drew | exact rstep (by assumption) (by assumption) | exact balloc (by assumption) _ | exact balloc (balloc (by assumption) _) _)) (fun hHeld => ?_)
        clear hK K
        simp only [List.setIfInBounds_toArray, List.set_cons_zero, List.set_cons_succ]
        refine wpAnyH_ready (rs := [4]) (by as_aux_lemma => kernel_rfl) (by simp) ?_
        refine AllReadyH.cons (o := { dst := some 5, op := Op.alloc 74, type := 0, pos := "ref.go:38", after := #[], guard := none }) rfl (fun K hK => ?_) (by exact AllReadyH.nil)
        go_simp
        refine hK.out _ _ (by (try dsimp only); (first | assumption | exact (Below.refl _ _).drew | exact (balloc (Below.refl _ _) _).drew | exact rstep (by assumption) (by assumption) | exact balloc (by assumption) _ | exact balloc (balloc (by assumption) _) _)) (fun hHeld => ?_)
        clear hK K
        simp only [List.setIfInBounds_toArray, List.set_cons_zero, List.set_cons_succ]
        refine rest _ _ _ ⟨?_, ?_, ?_, ?_, ?_, hHeld⟩
        · (rw [byC_zero]; repeat (first | exact Blk.new _ _ _ | exact Blk.newS _ _ _ _ | with_reducible refine Blk.drewR ?_ | with_reducible refine Blk.alloc ?_ _ | refine Blk.keep ?_ hk3 | refine Blk.keep ?_ hk1))
        · (rw [byC_zero]; repeat (first | exact Blk.new _ _ _ | exact Blk.newS _ _ _ _ | with_reducible refine Blk.drewR ?_ | with_reducible refine Blk.alloc ?_ _ | refine Blk.keep ?_ hk3 | refine Blk.keep ?_ hk1))
        · (have e1 := hk1.size; have e3 := hk3.size; first | (simp only [World.size_drew'] at e1 e3 ⊢; omega) | (simp only [World.size_alloc, World.size_drew'] at e1 e3 ⊢; omega))
        · (have e1 := hk1.size; have e3 := hk3.size; first | (simp only [World.size_drew'] at e1 e3 ⊢; omega) | (simp only [World.size_alloc, World.size_drew'] at e1 e3 ⊢; omega))
        · (have e1 := hk1.size; have e3 := hk3.size; first | (simp only [World.size_drew'] at e1 e3 ⊢; omega) | (simp only [World.size_alloc, World.size_drew'] at e1 e3 ⊢; omega))
      refine AllReadyH.cons (o := { dst := some 5, op := Op.alloc 74, type := 0, pos := "ref.go:38", after := #[], guard := none }) rfl (fun K hK => ?_) ?_
      · go_simp
        refine hK.out _ _ (by (try dsimp only); (first | assumption | exact (Below.refl _ _).drew | exact (balloc (Below.refl _ _) _).drew | exact rstep (by assumption) (by assumption) | exact balloc (by assumption) _ | exact balloc (balloc (by assumption) _) _)) (fun hHeld => ?_)
        clear hK K
        simp only [List.setIfInBounds_toArray, List.set_cons_zero, List.set_cons_succ]
        refine wpAnyH_ready (rs := [3, 5]) (by as_aux_lemma => kernel_rfl) (by simp) ?_
        refine AllReadyH.cons (o := { dst := some 12, op := Op.call { callee := Callee.value (Operand.func 40), args := #[Operand.tmp 11], argTypes := #[24] }, type := 74, pos := "ref.go:38", after := #[{ on := 2, ground := Ground.data }, { on := 1, ground := Ground.chain }], guard := none }) rfl (fun K hK => ?_) ?_
        · go_simp
          (go_at_call 40; refine (rbytes_any _ _).mono ?_; rintro e wk3 ⟨rfl, hk3⟩)
          refine hK.out _ _ (by (try dsimp only); (first | assumption | exact (Below.refl _ _).drew | exact (balloc (Below.refl _ _) _).drew | exact rstep (by assumption) (by assumption) | exact balloc (by assumption) _ | exact balloc (balloc (by assumption) _) _)) (fun hHeld => ?_)
          clear hK K
          simp only [List.setIfInBounds_toArray, List.set_cons_zero, List.set_cons_succ]
          refine wpAnyH_ready (rs := [5]) (by as_aux_lemma => kernel_rfl) (by simp) ?_
          refine AllReadyH.cons (o := { dst := some 6, op := Op.alloc 74, type := 0, pos := "ref.go:38", after := #[], guard := none }) rfl (fun K hK => ?_) (by exact AllReadyH.nil)
          go_simp
          refine hK.out _ _ (by (try dsimp only); (first | assumption | exact (Below.refl _ _).drew | exact (balloc (Below.refl _ _) _).drew | exact rstep (by assumption) (by assumption) | exact balloc (by assumption) _ | exact balloc (balloc (by assumption) _) _)) (fun hHeld => ?_)
          clear hK K
          simp only [List.setIfInBounds_toArray, List.set_cons_zero, List.set_cons_succ]
          refine rest _ _ _ ⟨?_, ?_, ?_, ?_, ?_, hHeld⟩
          · (rw [byC_zero]; repeat (first | exact Blk.new _ _ _ | exact Blk.newS _ _ _ _ | with_reducible refine Blk.drewR ?_ | with_reducible refine Blk.alloc ?_ _ | refine Blk.keep ?_ hk3 | refine Blk.keep ?_ hk1))
          · (rw [byC_zero]; repeat (first | exact Blk.new _ _ _ | exact Blk.newS _ _ _ _ | with_reducible refine Blk.drewR ?_ | with_reducible refine Blk.alloc ?_ _ | refine Blk.keep ?_ hk3 | refine Blk.keep ?_ hk1))
          · (have e1 := hk1.size; have e3 := hk3.size; first | (simp only [World.size_drew'] at e1 e3 ⊢; omega) | (simp only [World.size_alloc, World.size_drew'] at e1 e3 ⊢; omega))
          · (have e1 := hk1.size; have e3 := hk3.size; first | (simp only [World.size_drew'] at e1 e3 ⊢; omega) | (simp only [World.size_alloc, World.size_drew'] at e1 e3 ⊢; omega))
          · (have e1 := hk1.size; have e3 := hk3.size; first | (simp only [World.size_drew'] at e1 e3 ⊢; omega) | (simp only [World.size_alloc, World.size_drew'] at e1 e3 ⊢; omega))
        refine AllReadyH.cons (o := { dst := some 6, op := Op.alloc 74, type := 0, pos := "ref.go:38", after := #[], guard := none }) rfl (fun K hK => ?_) (by exact AllReadyH.nil)
        go_simp
        refine hK.out _ _ (by (try dsimp only); (first | assumption | exact (Below.refl _ _).drew | exact (balloc (Below.refl _ _) _).drew | exact rstep (by assumption) (by assumption) | exact balloc (by assumption) _ | exact balloc (balloc (by assumption) _) _)) (fun hHeld => ?_)
        clear hK K
        simp only [List.setIfInBounds_toArray, List.set_cons_zero, List.set_cons_succ]
        refine wpAnyH_ready (rs := [3]) (by as_aux_lemma => kernel_rfl) (by simp) ?_
        refine AllReadyH.cons (o := { dst := some 12, op := Op.call { callee := Callee.value (Operand.func 40), args := #[Operand.tmp 11], argTypes := #[24] }, type := 74, pos := "ref.go:38", after := #[{ on := 2, ground := Ground.data }, { on := 1, ground := Ground.chain }], guard := none }) rfl (fun K hK => ?_) (by exact AllReadyH.nil)
        go_simp
        (go_at_call 40; refine (rbytes_any _ _).mono ?_; rintro e wk3 ⟨rfl, hk3⟩)
        refine hK.out _ _ (by (try dsimp only); (first | assumption | exact (Below.refl _ _).drew | exact (balloc (Below.refl _ _) _).drew | exact rstep (by assumption) (by assumption) | exact balloc (by assumption) _ | exact balloc (balloc (by assumption) _) _)) (fun hHeld => ?_)
        clear hK K
        simp only [List.setIfInBounds_toArray, List.set_cons_zero, List.set_cons_succ]
        refine rest _ _ _ ⟨?_, ?_, ?_, ?_, ?_, hHeld⟩
        · (rw [byC_zero]; repeat (first | exact Blk.new _ _ _ | exact Blk.newS _ _ _ _ | with_reducible refine Blk.drewR ?_ | with_reducible refine Blk.alloc ?_ _ | refine Blk.keep ?_ hk3 | refine Blk.keep ?_ hk1))
        · (rw [byC_zero]; repeat (first | exact Blk.new _ _ _ | exact Blk.newS _ _ _ _ | with_reducible refine Blk.drewR ?_ | with_reducible refine Blk.alloc ?_ _ | refine Blk.keep ?_ hk3 | refine Blk.keep ?_ hk1))
        · (have e1 := hk1.size; have e3 := hk3.size; first | (simp only [World.size_drew'] at e1 e3 ⊢; omega) | (simp only [World.size_alloc, World.size_drew'] at e1 e3 ⊢; omega))
        · (have e1 := hk1.size; have e3 := hk3.size; first | (simp only [World.size_drew'] at e1 e3 ⊢; omega) | (simp only [World.size_alloc, World.size_drew'] at e1 e3 ⊢; omega))
        · (have e1 := hk1.size; have e3 := hk3.size; first | (simp only [World.size_drew'] at e1 e3 ⊢; omega) | (simp only [World.size_alloc, World.size_drew'] at e1 e3 ⊢; omega))
      refine AllReadyH.cons (o := { dst := some 6, op := Op.alloc 74, type := 0, pos := "ref.go:38", after := #[], guard := none }) rfl (fun K hK => ?_) (by exact AllReadyH.nil)
      go_simp
      refine hK.out _ _ (by (try dsimp only); (first | assumption | exact (Below.refl _ _).drew | exact (balloc (Below.refl _ _) _).drew | exact rstep (by assumption) (by assumption) | exact balloc (by assumption) _ | exact balloc (balloc (by assumption) _) _)) (fun hHeld => ?_)
      clear hK K
      simp only [List.setIfInBounds_toArray, List.set_cons_zero, List.set_cons_succ]
      refine wpAnyH_ready (rs := [3, 4]) (by as_aux_lemma => kernel_rfl) (by simp) ?_
      refine AllReadyH.cons (o := { dst := some 12, op := Op.call { callee := Callee.value (Operand.func 40), args := #[Operand.tmp 11], argTypes := #[24] }, type := 74, pos := "ref.go:38", after := #[{ on := 2, ground := Ground.data }, { on := 1, ground := Ground.chain }], guard := none }) rfl (fun K hK => ?_) ?_
      · go_simp
        (go_at_call 40; refine (rbytes_any _ _).mono ?_; rintro e wk3 ⟨rfl, hk3⟩)
        refine hK.out _ _ (by (try dsimp only); (first | assumption | exact (Below.refl _ _).drew | exact (balloc (Below.refl _ _) _).drew | exact rstep (by assumption) (by assumption) | exact balloc (by assumption) _ | exact balloc (balloc (by assumption) _) _)) (fun hHeld => ?_)
        clear hK K
        simp only [List.setIfInBounds_toArray, List.set_cons_zero, List.set_cons_succ]
        refine wpAnyH_ready (rs := [4]) (by as_aux_lemma => kernel_rfl) (by simp) ?_
        refine AllReadyH.cons (o := { dst := some 5, op := Op.alloc 74, type := 0, pos := "ref.go:38", after := #[], guard := none }) rfl (fun K hK => ?_) (by exact AllReadyH.nil)
        go_simp
        refine hK.out _ _ (by (try dsimp only); (first | assumption | exact (Below.refl _ _).drew | exact (balloc (Below.refl _ _) _).drew | exact rstep (by assumption) (by assumption) | exact balloc (by assumption) _ | exact balloc (balloc (by assumption) _) _)) (fun hHeld => ?_)
        clear hK K
        simp only [List.setIfInBounds_toArray, List.set_cons_zero, List.set_cons_succ]
        refine rest _ _ _ ⟨?_, ?_, ?_, ?_, ?_, hHeld⟩
        · (rw [byC_zero]; repeat (first | exact Blk.new _ _ _ | exact Blk.newS _ _ _ _ | with_reducible refine Blk.drewR ?_ | with_reducible refine Blk.alloc ?_ _ | refine Blk.keep ?_ hk3 | refine Blk.keep ?_ hk1))
        · (rw [byC_zero]; repeat (first | exact Blk.new _ _ _ | exact Blk.newS _ _ _ _ | with_reducible refine Blk.drewR ?_ | with_reducible refine Blk.alloc ?_ _ | refine Blk.keep ?_ hk3 | refine Blk.keep ?_ hk1))
        · (have e1 := hk1.size; have e3 := hk3.size; first | (simp only [World.size_drew'] at e1 e3 ⊢; omega) | (simp only [World.size_alloc, World.size_drew'] at e1 e3 ⊢; omega))
        · (have e1 := hk1.size; have e3 := hk3.size; first | (simp only [World.size_drew'] at e1 e3 ⊢; omega) | (simp only [World.size_alloc, World.size_drew'] at e1 e3 ⊢; omega))
        · (have e1 := hk1.size; have e3 := hk3.size; first | (simp only [World.size_drew'] at e1 e3 ⊢; omega) | (simp only [World.size_alloc, World.size_drew'] at e1 e3 ⊢; omega))
      refine AllReadyH.cons (o := { dst := some 5, op := Op.alloc 74, type := 0, pos := "ref.go:38", after := #[], guard := none }) rfl (fun K hK => ?_) (by exact AllReadyH.nil)
      go_simp
      refine hK.out _ _ (by (try dsimp only); (first | assumption | exact (Below.refl _ _).drew | exact (balloc (Below.refl _ _) _).drew | exact rstep (by assumption) (by assumption) | exact balloc (by assumption) _ | exact balloc (balloc (by assumption) _) _)) (fun hHeld => ?_)
      clear hK K
      simp only [List.setIfInBounds_toArray, List.set_cons_zero, List.set_cons_succ]
      refine wpAnyH_ready (rs := [3]) (by as_aux_lemma => kernel_rfl) (by simp) ?_
      refine AllReadyH.cons (o := { dst := some 12, op := Op.call { callee := Callee.value (Operand.func 40), args := #[Operand.tmp 11], argTypes := #[24] }, type := 74, pos := "ref.go:38", after := #[{ on := 2, ground := Ground.data }, { on := 1, ground := Ground.chain }], guard := none }) rfl (fun K hK => ?_) (by exact AllReadyH.nil)
      go_simp
      (go_at_call 40; refine (rbytes_any _ _).mono ?_; rintro e wk3 ⟨rfl, hk3⟩)
      refine hK.out _ _ (by (try dsimp only); (first | assumption | exact (Below.refl _ _).drew | exact (balloc (Below.refl _ _) _).drew | exact rstep (by assumption) (by assumption) | exact balloc (by assumption) _ | exact balloc (balloc (by assumption) _) _)) (fun hHeld => ?_)
      clear hK K
      simp only [List.setIfInBounds_toArray, List.set_cons_zero, List.set_cons_succ]
      refine rest _ _ _ ⟨?_, ?_, ?_, ?_, ?_, hHeld⟩
      · (rw [byC_zero]; repeat (first | exact Blk.new _ _ _ | exact Blk.newS _ _ _ _ | with_reducible refine Blk.drewR ?_ | with_reducible refine Blk.alloc ?_ _ | refine Blk.keep ?_ hk3 | refine Blk.keep ?_ hk1))
      · (rw [byC_zero]; repeat (first | exact Blk.new _ _ _ | exact Blk.newS _ _ _ _ | with_reducible refine Blk.drewR ?_ | with_reducible refine Blk.alloc ?_ _ | refine Blk.keep ?_ hk3 | refine Blk.keep ?_ hk1))
      · (have e1 := hk1.size; have e3 := hk3.size; first | (simp only [World.size_drew'] at e1 e3 ⊢; omega) | (simp only [World.size_alloc, World.size_drew'] at e1 e3 ⊢; omega))
      · (have e1 := hk1.size; have e3 := hk3.size; first | (simp only [World.size_drew'] at e1 e3 ⊢; omega) | (simp only [World.size_alloc, World.size_drew'] at e1 e3 ⊢; omega))
      · (have e1 := hk1.size; have e3 := hk3.size; first | (simp only [World.size_drew'] at e1 e3 ⊢; omega) | (simp only [World.size_alloc, World.size_drew'] at e1 e3 ⊢; omega))
    refine AllReadyH.cons (o := { dst := some 5, op := Op.alloc 74, type := 0, pos := "ref.go:38", after := #[], guard := none }) rfl (fun K hK => ?_) ?_
    · go_simp
      refine hK.out _ _ (by (try dsimp only); (first | assumption | exact (Below.refl _ _).drew | exact (balloc (Below.refl _ _) _).drew | exact rstep (by assumption) (by assumption) | exact balloc (by assumption) _ | exact balloc (balloc (by assumption) _) _)) (fun hHeld => ?_)
      clear hK K
      simp only [List.setIfInBounds_toArray, List.set_cons_zero, List.set_cons_succ]
      refine wpAnyH_ready (rs := [1, 5]) (by as_aux_lemma => kernel_rfl) (by simp) ?_
      refine AllReadyH.cons (o := { dst := some 10, op := Op.call { callee := Callee.value (Operand.func 40), args := #[Operand.tmp 9], argTypes := #[24] }, type := 74, pos := "ref.go:38", after := #[{ on := 0, ground := Ground.data }], guard := none }) rfl (fun K hK => ?_) ?_
      · go_simp
        (go_at_call 40; refine (rbytes_any _ _).mono ?_; rintro e wk1 ⟨rfl, hk1⟩)
        refine hK.out _ _ (by (try dsimp only); (first | assumption | exact (Below.refl _ _).drew | exact (balloc (Below.refl _ _) _).drew | exact rstep (by assumption) (by assumption) | exact balloc (by assumption) _ | exact balloc (balloc (by assumption) _) _)) (fun hHeld => ?_)
        clear hK K
        simp only [List.setIfInBounds_toArray, List.set_cons_zero, List.set_cons_succ]
        refine wpAnyH_ready (rs := [3, 5]) (by as_aux_lemma => kernel_rfl) (by simp) ?_
        refine AllReadyH.cons (o := { dst := some 12, op := Op.call { callee := Callee.value (Operand.func 40), args := #[Operand.tmp 11], argTypes := #[24] }, type := 74, pos := "ref.go:38", after := #[{ on := 2, ground := Ground.data }, { on := 1, ground := Ground.chain }], guard := none }) rfl (fun K hK => ?_) ?_
        · go_simp
          (go_at_call 40; refine (rbytes_any _ _).mono ?_; rintro e wk3 ⟨rfl, hk3⟩)
          refine hK.out _ _ (by (try dsimp only); (first | assumption | exact (Below.refl _ _).drew | exact (balloc (Below.refl _ _) _).drew | exact rstep (by assumption) (by assumption) | exact balloc (by assumption) _ | exact balloc (balloc (by assumption) _) _)) (fun hHeld => ?_)
          clear hK K
          simp only [List.setIfInBounds_toArray, List.set_cons_zero, List.set_cons_succ]
          refine wpAnyH_ready (rs := [5]) (by as_aux_lemma => kernel_rfl) (by simp) ?_
          refine AllReadyH.cons (o := { dst := some 6, op := Op.alloc 74, type := 0, pos := "ref.go:38", after := #[], guard := none }) rfl (fun K hK => ?_) (by exact AllReadyH.nil)
          go_simp
          refine hK.out _ _ (by (try dsimp only); (first | assumption | exact (Below.refl _ _).drew | exact (balloc (Below.refl _ _) _).drew | exact rstep (by assumption) (by assumption) | exact balloc (by assumption) _ | exact balloc (balloc (by assumption) _) _)) (fun hHeld => ?_)
          clear hK K
          simp only [List.setIfInBounds_toArray, List.set_cons_zero, List.set_cons_succ]
          refine rest _ _ _ ⟨?_, ?_, ?_, ?_, ?_, hHeld⟩
          · (rw [byC_zero]; repeat (first | exact Blk.new _ _ _ | exact Blk.newS _ _ _ _ | with_reducible refine Blk.drewR ?_ | with_reducible refine Blk.alloc ?_ _ | refine Blk.keep ?_ hk3 | refine Blk.keep ?_ hk1))
          · (rw [byC_zero]; repeat (first | exact Blk.new _ _ _ | exact Blk.newS _ _ _ _ | with_reducible refine Blk.drewR ?_ | with_reducible refine Blk.alloc ?_ _ | refine Blk.keep ?_ hk3 | refine Blk.keep ?_ hk1))
          · (have e1 := hk1.size; have e3 := hk3.size; first | (simp only [World.size_drew'] at e1 e3 ⊢; omega) | (simp only [World.size_alloc, World.size_drew'] at e1 e3 ⊢; omega))
          · (have e1 := hk1.size; have e3 := hk3.size; first | (simp only [World.size_drew'] at e1 e3 ⊢; omega) | (simp only [World.size_alloc, World.size_drew'] at e1 e3 ⊢; omega))
          · (have e1 := hk1.size; have e3 := hk3.size; first | (simp only [World.size_drew'] at e1 e3 ⊢; omega) | (simp only [World.size_alloc, World.size_drew'] at e1 e3 ⊢; omega))
        refine AllReadyH.cons (o := { dst := some 6, op := Op.alloc 74, type := 0, pos := "ref.go:38", after := #[], guard := none }) rfl (fun K hK => ?_) (by exact AllReadyH.nil)
        go_simp
        refine hK.out _ _ (by (try dsimp only); (first | assumption | exact (Below.refl _ _).drew | exact (balloc (Below.refl _ _) _).drew | exact rstep (by assumption) (by assumption) | exact balloc (by assumption) _ | exact balloc (balloc (by assumption) _) _)) (fun hHeld => ?_)
        clear hK K
        simp only [List.setIfInBounds_toArray, List.set_cons_zero, List.set_cons_succ]
        refine wpAnyH_ready (rs := [3]) (by as_aux_lemma => kernel_rfl) (by simp) ?_
        refine AllReadyH.cons (o := { dst := some 12, op := Op.call { callee := Callee.value (Operand.func 40), args := #[Operand.tmp 11], argTypes := #[24] }, type := 74, pos := "ref.go:38", after := #[{ on := 2, ground := Ground.data }, { on := 1, ground := Ground.chain }], guard := none }) rfl (fun K hK => ?_) (by exact AllReadyH.nil)
        go_simp
        (go_at_call 40; refine (rbytes_any _ _).mono ?_; rintro e wk3 ⟨rfl, hk3⟩)
        refine hK.out _ _ (by (try dsimp only); (first | assumption | exact (Below.refl _ _).drew | exact (balloc (Below.refl _ _) _).drew | exact rstep (by assumption) (by assumption) | exact balloc (by assumption) _ | exact balloc (balloc (by assumption) _) _)) (fun hHeld => ?_)
        clear hK K
        simp only [List.setIfInBounds_toArray, List.set_cons_zero, List.set_cons_succ]
        refine rest _ _ _ ⟨?_, ?_, ?_, ?_, ?_, hHeld⟩
        · (rw [byC_zero]; repeat (first | exact Blk.new _ _ _ | exact Blk.newS _ _ _ _ | with_reducible refine Blk.drewR ?_ | with_reducible refine Blk.alloc ?_ _ | refine Blk.keep ?_ hk3 | refine Blk.keep ?_ hk1))
        · (rw [byC_zero]; repeat (first | exact Blk.new _ _ _ | exact Blk.newS _ _ _ _ | with_reducible refine Blk.drewR ?_ | with_reducible refine Blk.alloc ?_ _ | refine Blk.keep ?_ hk3 | refine Blk.keep ?_ hk1))
        · (have e1 := hk1.size; have e3 := hk3.size; first | (simp only [World.size_drew'] at e1 e3 ⊢; omega) | (simp only [World.size_alloc, World.size_drew'] at e1 e3 ⊢; omega))
        · (have e1 := hk1.size; have e3 := hk3.size; first | (simp only [World.size_drew'] at e1 e3 ⊢; omega) | (simp only [World.size_alloc, World.size_drew'] at e1 e3 ⊢; omega))
        · (have e1 := hk1.size; have e3 := hk3.size; first | (simp only [World.size_drew'] at e1 e3 ⊢; omega) | (simp only [World.size_alloc, World.size_drew'] at e1 e3 ⊢; omega))
      refine AllReadyH.cons (o := { dst := some 6, op := Op.alloc 74, type := 0, pos := "ref.go:38", after := #[], guard := none }) rfl (fun K hK => ?_) (by exact AllReadyH.nil)
      go_simp
      refine hK.out _ _ (by (try dsimp only); (first | assumption | exact (Below.refl _ _).drew | exact (balloc (Below.refl _ _) _).drew | exact rstep (by assumption) (by assumption) | exact balloc (by assumption) _ | exact balloc (balloc (by assumption) _) _)) (fun hHeld => ?_)
      clear hK K
      simp only [List.setIfInBounds_toArray, List.set_cons_zero, List.set_cons_succ]
      refine wpAnyH_ready (rs := [1]) (by as_aux_lemma => kernel_rfl) (by simp) ?_
      refine AllReadyH.cons (o := { dst := some 10, op := Op.call { callee := Callee.value (Operand.func 40), args := #[Operand.tmp 9], argTypes := #[24] }, type := 74, pos := "ref.go:38", after := #[{ on := 0, ground := Ground.data }], guard := none }) rfl (fun K hK => ?_) (by exact AllReadyH.nil)
      go_simp
      (go_at_call 40; refine (rbytes_any _ _).mono ?_; rintro e wk1 ⟨rfl, hk1⟩)
      refine hK.out _ _ (by (try dsimp only); (first | assumption | exact (Below.refl _ _).drew | exact (balloc (Below.refl _ _) _).drew | exact rstep (by assumption) (by assumption) | exact balloc (by assumption) _ | exact balloc (balloc (by assumption) _) _)) (fun hHeld => ?_)
      clear hK K
      simp only [List.setIfInBounds_toArray, List.set_cons_zero, List.set_cons_succ]
      refine wpAnyH_ready (rs := [3]) (by as_aux_lemma => kernel_rfl) (by simp) ?_
      refine AllReadyH.cons (o := { dst := some 12, op := Op.call { callee := Callee.value (Operand.func 40), args := #[Operand.tmp 11], argTypes := #[24] }, type := 74, pos := "ref.go:38", after := #[{ on := 2, ground := Ground.data }, { on := 1, ground := Ground.chain }], guard := none }) rfl (fun K hK => ?_) (by exact AllReadyH.nil)
      go_simp
      (go_at_call 40; refine (rbytes_any _ _).mono ?_; rintro e wk3 ⟨rfl, hk3⟩)
      refine hK.out _ _ (by (try dsimp only); (first | assumption | exact (Below.refl _ _).drew | exact (balloc (Below.refl _ _) _).drew | exact rstep (by assumption) (by assumption) | exact balloc (by assumption) _ | exact balloc (balloc (by assumption) _) _)) (fun hHeld => ?_)
      clear hK K
      simp only [List.setIfInBounds_toArray, List.set_cons_zero, List.set_cons_succ]
      refine rest _ _ _ ⟨?_, ?_, ?_, ?_, ?_, hHeld⟩
      · (rw [byC_zero]; repeat (first | exact Blk.new _ _ _ | exact Blk.newS _ _ _ _ | with_reducible refine Blk.drewR ?_ | with_reducible refine Blk.alloc ?_ _ | refine Blk.keep ?_ hk3 | refine Blk.keep ?_ hk1))
      · (rw [byC_zero]; repeat (first | exact Blk.new _ _ _ | exact Blk.newS _ _ _ _ | with_reducible refine Blk.drewR ?_ | with_reducible refine Blk.alloc ?_ _ | refine Blk.keep ?_ hk3 | refine Blk.keep ?_ hk1))
      · (have e1 := hk1.size; have e3 := hk3.size; first | (simp only [World.size_drew'] at e1 e3 ⊢; omega) | (simp only [World.size_alloc, World.size_drew'] at e1 e3 ⊢; omega))
      · (have e1 := hk1.size; have e3 := hk3.size; first | (simp only [World.size_drew'] at e1 e3 ⊢; omega) | (simp only [World.size_alloc, World.size_drew'] at e1 e3 ⊢; omega))
      · (have e1 := hk1.size; have e3 := hk3.size; first | (simp only [World.size_drew'] at e1 e3 ⊢; omega) | (simp only [World.size_alloc, World.size_drew'] at e1 e3 ⊢; omega))
    refine AllReadyH.cons (o := { dst := some 6, op := Op.alloc 74, type := 0, pos := "ref.go:38", after := #[], guard := none }) rfl (fun K hK => ?_) (by exact AllReadyH.nil)
    go_simp
    refine hK.out _ _ (by (try dsimp only); (first | assumption | exact (Below.refl _ _).drew | exact (balloc (Below.refl _ _) _).drew | exact rstep (by assumption) (by assumption) | exact balloc (by assumption) _ | exact balloc (balloc (by assumption) _) _)) (fun hHeld => ?_)
    clear hK K
    simp only [List.setIfInBounds_toArray, List.set_cons_zero, List.set_cons_succ]
    refine wpAnyH_ready (rs := [1, 4]) (by as_aux_lemma => kernel_rfl) (by simp) ?_
    refine AllReadyH.cons (o := { dst := some 10, op := Op.call { callee := Callee.value (Operand.func 40), args := #[Operand.tmp 9], argTypes := #[24] }, type := 74, pos := "ref.go:38", after := #[{ on := 0, ground := Ground.data }], guard := none }) rfl (fun K hK => ?_) ?_
    · go_simp
      (go_at_call 40; refine (rbytes_any _ _).mono ?_; rintro e wk1 ⟨rfl, hk1⟩)
      refine hK.out _ _ (by (try dsimp only); (first | assumption | exact (Below.refl _ _).drew | exact (balloc (Below.refl _ _) _).drew | exact rstep (by assumption) (by assumption) | exact balloc (by assumption) _ | exact balloc (balloc (by assumption) _) _)) (fun hHeld => ?_)
      clear hK K
      simp only [List.setIfInBounds_toArray, List.set_cons_zero, List.set_cons_succ]
      refine wpAnyH_ready (rs := [3, 4]) (by as_aux_lemma => kernel_rfl) (by simp) ?_
      refine AllReadyH.cons (o := { dst := some 12, op := Op.call { callee := Callee.value (Operand.func 40), args := #[Operand.tmp 11], argTypes := #[24] }, type := 74, pos := "ref.go:38", after := #[{ on := 2, ground := Ground.data }, { on := 1, ground := Ground.chain }], guard := none }) rfl (fun K hK => ?_) ?_
      · go_simp
        (go_at_call 40; refine (rbytes_any _ _).mono ?_; rintro e wk3 ⟨rfl, hk3⟩)
        refine hK.out _ _ (by (try dsimp only); (first | assumption | exact (Below.refl _ _).drew | exact (balloc (Below.refl _ _) _).drew | exact rstep (by assumption) (by assumption) | exact balloc (by assumption) _ | exact balloc (balloc (by assumption) _) _)) (fun hHeld => ?_)
        clear hK K
        simp only [List.setIfInBounds_toArray, List.set_cons_zero, List.set_cons_succ]
        refine wpAnyH_ready (rs := [4]) (by as_aux_lemma => kernel_rfl) (by simp) ?_
        refine AllReadyH.cons (o := { dst := some 5, op := Op.alloc 74, type := 0, pos := "ref.go:38", after := #[], guard := none }) rfl (fun K hK => ?_) (by exact AllReadyH.nil)
        go_simp
        refine hK.out _ _ (by (try dsimp only); (first | assumption | exact (Below.refl _ _).drew | exact (balloc (Below.refl _ _) _).drew | exact rstep (by assumption) (by assumption) | exact balloc (by assumption) _ | exact balloc (balloc (by assumption) _) _)) (fun hHeld => ?_)
        clear hK K
        simp only [List.setIfInBounds_toArray, List.set_cons_zero, List.set_cons_succ]
        refine rest _ _ _ ⟨?_, ?_, ?_, ?_, ?_, hHeld⟩
        · (rw [byC_zero]; repeat (first | exact Blk.new _ _ _ | exact Blk.newS _ _ _ _ | with_reducible refine Blk.drewR ?_ | with_reducible refine Blk.alloc ?_ _ | refine Blk.keep ?_ hk3 | refine Blk.keep ?_ hk1))
        · (rw [byC_zero]; repeat (first | exact Blk.new _ _ _ | exact Blk.newS _ _ _ _ | with_reducible refine Blk.drewR ?_ | with_reducible refine Blk.alloc ?_ _ | refine Blk.keep ?_ hk3 | refine Blk.keep ?_ hk1))
        · (have e1 := hk1.size; have e3 := hk3.size; first | (simp only [World.size_drew'] at e1 e3 ⊢; omega) | (simp only [World.size_alloc, World.size_drew'] at e1 e3 ⊢; omega))
        · (have e1 := hk1.size; have e3 := hk3.size; first | (simp only [World.size_drew'] at e1 e3 ⊢; omega) | (simp only [World.size_alloc, World.size_drew'] at e1 e3 ⊢; omega))
        · (have e1 := hk1.size; have e3 := hk3.size; first | (simp only [World.size_drew'] at e1 e3 ⊢; omega) | (simp only [World.size_alloc, World.size_drew'] at e1 e3 ⊢; omega))
      refine AllReadyH.cons (o := { dst := some 5, op := Op.alloc 74, type := 0, pos := "ref.go:38", after := #[], guard := none }) rfl (fun K hK => ?_) (by exact AllReadyH.nil)
      go_simp
      refine hK.out _ _ (by (try dsimp only); (first | assumption | exact (Below.refl _ _).drew | exact (balloc (Below.refl _ _) _).drew | exact rstep (by assumption) (by assumption) | exact balloc (by assumption) _ | exact balloc (balloc (by assumption) _) _)) (fun hHeld => ?_)
      clear hK K
      simp only [List.setIfInBounds_toArray, List.set_cons_zero, List.set_cons_succ]
      refine wpAnyH_ready (rs := [3]) (by as_aux_lemma => kernel_rfl) (by simp) ?_
      refine AllReadyH.cons (o := { dst := some 12, op := Op.call { callee := Callee.value (Operand.func 40), args := #[Operand.tmp 11], argTypes := #[24] }, type := 74, pos := "ref.go:38", after := #[{ on := 2, ground := Ground.data }, { on := 1, ground := Ground.chain }], guard := none }) rfl (fun K hK => ?_) (by exact AllReadyH.nil)
      go_simp
      (go_at_call 40; refine (rbytes_any _ _).mono ?_; rintro e wk3 ⟨rfl, hk3⟩)
      refine hK.out _ _ (by (try dsimp only); (first | assumption | exact (Below.refl _ _).drew | exact (balloc (Below.refl _ _) _).drew | exact rstep (by assumption) (by assumption) | exact balloc (by assumption) _ | exact balloc (balloc (by assumption) _) _)) (fun hHeld => ?_)
      clear hK K
      simp only [List.setIfInBounds_toArray, List.set_cons_zero, List.set_cons_succ]
      refine rest _ _ _ ⟨?_, ?_, ?_, ?_, ?_, hHeld⟩
      · (rw [byC_zero]; repeat (first | exact Blk.new _ _ _ | exact Blk.newS _ _ _ _ | with_reducible refine Blk.drewR ?_ | with_reducible refine Blk.alloc ?_ _ | refine Blk.keep ?_ hk3 | refine Blk.keep ?_ hk1))
      · (rw [byC_zero]; repeat (first | exact Blk.new _ _ _ | exact Blk.newS _ _ _ _ | with_reducible refine Blk.drewR ?_ | with_reducible refine Blk.alloc ?_ _ | refine Blk.keep ?_ hk3 | refine Blk.keep ?_ hk1))
      · (have e1 := hk1.size; have e3 := hk3.size; first | (simp only [World.size_drew'] at e1 e3 ⊢; omega) | (simp only [World.size_alloc, World.size_drew'] at e1 e3 ⊢; omega))
      · (have e1 := hk1.size; have e3 := hk3.size; first | (simp only [World.size_drew'] at e1 e3 ⊢; omega) | (simp only [World.size_alloc, World.size_drew'] at e1 e3 ⊢; omega))
      · (have e1 := hk1.size; have e3 := hk3.size; first | (simp only [World.size_drew'] at e1 e3 ⊢; omega) | (simp only [World.size_alloc, World.size_drew'] at e1 e3 ⊢; omega))
    refine AllReadyH.cons (o := { dst := some 5, op := Op.alloc 74, type := 0, pos := "ref.go:38", after := #[], guard := none }) rfl (fun K hK => ?_) (by exact AllReadyH.nil)
    go_simp
    refine hK.out _ _ (by (try dsimp only); (first | assumption | exact (Below.refl _ _).drew | exact (balloc (Below.refl _ _) _).drew | exact rstep (by assumption) (by assumption) | exact balloc (by assumption) _ | exact balloc (balloc (by assumption) _) _)) (fun hHeld => ?_)
    clear hK K
    simp only [List.setIfInBounds_toArray, List.set_cons_zero, List.set_cons_succ]
    refine wpAnyH_ready (rs := [1]) (by as_aux_lemma => kernel_rfl) (by simp) ?_
    refine AllReadyH.cons (o := { dst := some 10, op := Op.call { callee := Callee.value (Operand.func 40), args := #[Operand.tmp 9], argTypes := #[24] }, type := 74, pos := "ref.go:38", after := #[{ on := 0, ground := Ground.data }], guard := none }) rfl (fun K hK => ?_) (by exact AllReadyH.nil)
    go_simp
    (go_at_call 40; refine (rbytes_any _ _).mono ?_; rintro e wk1 ⟨rfl, hk1⟩)
    refine hK.out _ _ (by (try dsimp only); (first | assumption | exact (Below.refl _ _).drew | exact (balloc (Below.refl _ _) _).drew | exact rstep (by assumption) (by assumption) | exact balloc (by assumption) _ | exact balloc (balloc (by assumption) _) _)) (fun hHeld => ?_)
    clear hK K
    simp only [List.setIfInBounds_toArray, List.set_cons_zero, List.set_cons_succ]
    refine wpAnyH_ready (rs := [3]) (by as_aux_lemma => kernel_rfl) (by simp) ?_
    refine AllReadyH.cons (o := { dst := some 12, op := Op.call { callee := Callee.value (Operand.func 40), args := #[Operand.tmp 11], argTypes := #[24] }, type := 74, pos := "ref.go:38", after := #[{ on := 2, ground := Ground.data }, { on := 1, ground := Ground.chain }], guard := none }) rfl (fun K hK => ?_) (by exact AllReadyH.nil)
    go_simp
    (go_at_call 40; refine (rbytes_any _ _).mono ?_; rintro e wk3 ⟨rfl, hk3⟩)
    refine hK.out _ _ (by (try dsimp only); (first | assumption | exact (Below.refl _ _).drew | exact (balloc (Below.refl _ _) _).drew | exact rstep (by assumption) (by assumption) | exact balloc (by assumption) _ | exact balloc (balloc (by assumption) _) _)) (fun hHeld => ?_)
    clear hK K
    simp only [List.setIfInBounds_toArray, List.set_cons_zero, List.set_cons_succ]
    refine rest _ _ _ ⟨?_, ?_, ?_, ?_, ?_, hHeld⟩
    · (rw [byC_zero]; repeat (first | exact Blk.new _ _ _ | exact Blk.newS _ _ _ _ | with_reducible refine Blk.drewR ?_ | with_reducible refine Blk.alloc ?_ _ | refine Blk.keep ?_ hk3 | refine Blk.keep ?_ hk1))
    · (rw [byC_zero]; repeat (first | exact Blk.new _ _ _ | exact Blk.newS _ _ _ _ | with_reducible refine Blk.drewR ?_ | with_reducible refine Blk.alloc ?_ _ | refine Blk.keep ?_ hk3 | refine Blk.keep ?_ hk1))
    · (have e1 := hk1.size; have e3 := hk3.size; first | (simp only [World.size_drew'] at e1 e3 ⊢; omega) | (simp only [World.size_alloc, World.size_drew'] at e1 e3 ⊢; omega))
    · (have e1 := hk1.size; have e3 := hk3.size; first | (simp only [World.size_drew'] at e1 e3 ⊢; omega) | (simp only [World.size_alloc, World.size_drew'] at e1 e3 ⊢; omega))
    · (have e1 := hk1.size; have e3 := hk3.size; first | (simp only [World.size_drew'] at e1 e3 ⊢; omega) | (simp only [World.size_alloc, World.size_drew'] at e1 e3 ⊢; omega))
  case hrest =>
    intro X Y wz ⟨z1, z2, z3, z4, z5, z6⟩
    refine wpAnyH_ready (rs := [6]) (by as_aux_lemma => kernel_rfl) (by simp) ?_
    refine AllReadyH.cons (o := { dst := none, op := Op.store 74 (Operand.tmp 5) (Operand.tmp 10), type := 0, pos := "ref.go:38", after := #[{ on := 4, ground := Ground.data }, { on := 1, ground := Ground.data }, { on := 3, ground := Ground.chain }, { on := 0, ground := Ground.phase }, { on := 1, ground := Ground.phase }, { on := 2, ground := Ground.textOnly Departure.lateStores }, { on := 3, ground := Ground.textOnly Departure.lateStoresUnsure }, { on := 4, ground := Ground.phase }, { on := 5, ground := Ground.phase }], guard := none }) rfl (fun K hK => ?_) (by exact AllReadyH.nil)
    rw [if_pos (by rfl)]
    refine wp_store_mid 74 (.tmp 5) (.tmp 10) rfl X 0 (byC a 32) rfl rfl (z1.there _ (by rw [byC_size, byC_size]; exact Nat.le_refl _)) (HI _).out (byC_one a 32) (hK.out _ _ (below_setCells' z4 _ 0 wz z6) (fun hHeld => ?_))
    have z7 := blk_setCells z1 (byC a 32) (by rw [byC_size, byC_size]) (byC_one a 32)
    have z8 := blk_setCells_far z2 X 0 (byC a 32).toList z3.symm
    clear z1 z2 z6
    generalize wz.setCells X 0 (byC a 32).toList = wy at z7 z8 hHeld ⊢
    clear hK K
    simp only [Act.put, List.setIfInBounds_toArray, List.set_cons_zero, List.set_cons_succ]
    refine wpAnyH_ready (rs := [7]) (by as_aux_lemma => kernel_rfl) (by simp) ?_
    refine AllReadyH.cons (o := { dst := none, op := Op.store 74 (Operand.tmp 6) (Operand.tmp 12), type := 0, pos := "ref.go:38", after := #[{ on := 5, ground := Ground.data }, { on := 3, ground := Ground.data }, { on := 6, ground := Ground.chain }, { on := 0, ground := Ground.phase }, { on := 1, ground := Ground.phase }, { on := 2, ground := Ground.phase }, { on := 3, ground := Ground.phase }, { on := 4, ground := Ground.phase }, { on := 5, ground := Ground.phase }, { on := 6, ground := Ground.phase }], guard := none }) rfl (fun K hK => ?_) (by exact AllReadyH.nil)
    rw [if_pos (by rfl)]
    refine wp_store_mid 74 (.tmp 6) (.tmp 12) rfl Y 0 (byC b 32) rfl rfl (z8.there _ (by rw [byC_size, byC_size]; exact Nat.le_refl _)) (HI _).out (byC_one b 32) (hK.out _ _ (below_setCells' z5 _ 0 wy hHeld) (fun hHeld => ?_))
    have z9 := blk_setCells z8 (byC b 32) (by rw [byC_size, byC_size]) (byC_one b 32)
    have z10 := blk_setCells_far z7 Y 0 (byC b 32).toList z3
    clear z7 z8
    generalize wy.setCells Y 0 (byC b 32).toList = wx at z9 z10 hHeld ⊢
    clear hK K
    simp only [Act.put, List.setIfInBounds_toArray, List.set_cons_zero, List.set_cons_succ]
    refine wpAnyH_done (by as_aux_lemma => kernel_rfl) ?_ _
    have hR := HR.out.keep hHeld
    have hB := bstep HW.out hHeld
    have X1 : w.heap.size + 1 + 1 ≠ X := by omega
    have Y1 : w.heap.size + 1 + 1 ≠ Y := by omega
    have hX : w.heap.size ≤ X := by omega
    clear hHeld cA0 cA1 cA2 cA3 cB0 cB1 cB2 cB3 z4 z5 hRl HR HW
    go_wp2
    go_loopw [7, 8] (fun c i wr => ∃ k : Nat, k ≤ 32 ∧ c = .int .i64 (cyB a b k) ∧ i = .int .i64 (31 - (k : Int)) ∧ Blk wr X 74 (adC a b k) ∧ Blk wr Y 74 (byC b 32) ∧ Blk wr (w.heap.size + 1 + 1) 24 (Wc 0) ∧ Below w.heap.size w wr) (fun _ i _ => (intOf i + 1).toNat)
    case atStart => exact ⟨0, by omega, by rw [cyB_zero]; rfl, rfl, by rw [adC_zero]; exact z10, z9, hR, hB⟩
    case round =>
      obtain ⟨k, hk, rfl, rfl, hx, hy, hr, hB⟩ := hrel
      by_cases hlt : k < 32
      · have hd : wr.cell? ⟨X, 31 - k, none⟩ = some (.int .u8 ((byA a k : Nat) : Int)) := (cell_of_row wr _ _ _ _ _ hx).trans (by rw [adC_get _ _ _ _ (by omega), if_neg (by omega), show 31 - (31 - k) = k by omega])
        have he : wr.cell? ⟨Y, 31 - k, none⟩ = some (.int .u8 ((byA b k : Nat) : Int)) := (cell_of_row wr _ _ _ _ _ hy).trans (by rw [byC_get _ _ _ (by omega), if_pos (by omega), show 31 - (31 - k) = k by omega])
        have hf := frozen_of_row wr _ (31 - k) _ _ hx
        have HX := Lib.hid hx
        have HY := Lib.hid hy
        have HR := Lib.hid hr
        clear hx hy hr z9 z10
        have b1 := byA_lt a k
        have b2 := byA_lt b k
        have b3 := cyB_le a b k
        have g1 : (0 : Int) ≤ 31 - (k : Int) := by omega
        have g2 : 31 - (k : Int) < 32 := by omega
        have g3 : (31 - (k : Int)).toNat = 31 - k := by omega
        have g4 : (k : Int) ≤ 31 := by omega
        have g5 : IntKind.i64.wrap ((byA a k : Nat) : Int) = ((byA a k : Nat) : Int) := IntWalk.i64_in _ (by omega)
        have g6 : IntKind.i64.wrap ((byA b k : Nat) : Int) = ((byA b k : Nat) : Int) := IntWalk.i64_in _ (by omega)
        have g7 : IntKind.i64.wrap ((cyB a b k : Nat) + (byA a k : Nat) : Int) = ((cyB a b k : Nat) + (byA a k : Nat) : Int) := IntWalk.i64_in _ (by omega)
        have g8 : IntKind.i64.wrap ((cyB a b k : Nat) + (byA a k : Nat) + (byA b k : Nat) : Int) = ((cyB a b k : Nat) + (byA a k : Nat) + (byA b k : Nat) : Int) := IntWalk.i64_in _ (by omega)
        go_wp2_with fail
        go_region_law (fail)
        all_goals go_wp2
        all_goals
          have hv : ((cyB a b k : Nat) + (byA a k : Nat) + (byA b k : Nat) : Int) % 256 = ((byA (a + b) k : Nat) : Int) := by rw [← byA_add]; omega
          have hq : ((cyB a b k : Nat) + (byA a k : Nat) + (byA b k : Nat) : Int) / 256 = ((cyB a b (k + 1) : Nat) : Int) := by rw [← cyB_succ]; omega
          rw [hv, hq]
          have G := grown_set' (grown_refl wr X) (31 - k) (.int .u8 ((byA (a + b) k : Nat) : Int))
          have h := heap_setCell_same wr X (31 - k) _ _ (.int .u8 ((byA (a + b) k : Nat) : Int)) HX.out
          rw [adC_set a b k hlt] at h
          have hY2 := HY.out.kept G (by simp; omega)
          have hR2 := HR.out.kept G (by simp; omega)
          exact ⟨⟨k + 1, by omega, rfl, by congr 1; omega, h, hY2, hR2, (hB.setCell (p := ⟨X, 31 - k, none⟩) (by simp; omega) _).drew⟩, by simp [intOf]; omega⟩
      · obtain rfl : k = 32 := by omega
        rw [adC_all] at hx
        have HX := Lib.hid hx
        have HR := Lib.hid hr
        clear hx hy hr z9 z10
        have hu : Try.prog.underlying 74 = some (.array 32 5) := by kernel_rfl
        have HU := Lib.hid hu
        clear hu
        go_upto_region 9 with (fail)
        refine wp_region_lit (wpList_load_mid rfl 74 (.tmp 5) rfl X 0 rfl (byC (a + b) 32).toList _ HX.out.rangeAt HU.out rfl (HI _).out ?_)
        go_wp2_with (go_at_call 41; refine (rfrom_any (a + b) _).mono ?_; rintro e wk ⟨rfl, hk⟩; have hr2 := HR.out.keep hk; have hB2 := bstep hB hk; have r0 := (cell_of_row wk _ 0 _ _ _ hr2).trans (wc_get 0 0 (by omega)); have r1 := (cell_of_row wk _ 1 _ _ _ hr2).trans (wc_get 0 1 (by omega)); have r2 := (cell_of_row wk _ 2 _ _ _ hr2).trans (wc_get 0 2 (by omega)); have r3 := (cell_of_row wk _ 3 _ _ _ hr2).trans (wc_get 0 3 (by omega)); have f0 := frozen_of_row wk _ 0 _ _ hr2; have f1 := frozen_of_row wk _ 1 _ _ hr2; have f2 := frozen_of_row wk _ 2 _ _ hr2; have f3 := frozen_of_row wk _ 3 _ _ hr2; clear hr2)
        exact bodyPost_ret (v := W (a + b)) (by simp [results, Try.results31, go_sem, r0, r1, r2, r3]) rfl ⟨rfl, (((hB2.setCell (p := ⟨w.heap.size + 1 + 1, 0, none⟩) (by simp; omega) _).setCell (p := ⟨w.heap.size + 1 + 1, 1, none⟩) (by simp; omega) _).setCell (p := ⟨w.heap.size + 1 + 1, 2, none⟩) (by simp; omega) _).setCell (p := ⟨w.heap.size + 1 + 1, 3, none⟩) (by simp; omega) _⟩

end Go.Proofs.Ythdapmceafnhgaa
