/- slot: Put. -/
import Derived.Test.YtcplhalgjjhmdaaStf
import Derived.ScopeJumps
namespace Go.Proofs.Ytcplhalgjjhmdaa
open Go.RowKit Go.Shelf Go.ChangeMaps Go.MapKept

theorem lk2_ok {X : World} {g bv bw many : Nat} {fv fw : Nat → Option (Nat × Nat)} (h : SlB X g bv bw fv fw many) (n : Nat) : okP (lk2 fv fw n) := by
  unfold lk2
  cases hf : fv n with
  | none => exact h.2.2.1.okL n
  | some v => exact (h.2.1.ok hf).2
theorem cntV_le (v : Nat × Nat) : cntV v ≤ 1 := by unfold cntV; split <;> omega
/-- How many keys have a value behind a Put. -/
def manyP (many : Nat) (v u : Nat × Nat) : Nat := many + cntV v - cntV u
set_option maxRecDepth 100000 in
set_option maxHeartbeats 4000000 in
theorem sput_any (g bv bw many : Nat) (fv fw : Nat → Option (Nat × Nat)) (n : Nat) (hn : n < MM) (v : Nat × Nat) (hv : okP v) (hmany : many ≤ 1000000) (hpos : cntV (lk2 fv fw n) ≤ many) (w : World) (h : SlB w g bv bw fv fw many) :
    Calls Try.prog 19 #[.pointer (some ⟨g, 0, none⟩), W n, vP v] w fun e w' => e = .returned (.int .i64 0) ∧ SlB w' g bv bw (upd fv n (putO v (lk fw n))) fw (manyP many v (lk2 fv fw n)) ∧ Chg (fun k => k = g ∨ k = bv) w w' := by
  obtain ⟨W1, hW⟩ : ∃ W1, (w.alloc (.cells (Wc n) 33)).alloc (.cells (vA v.1 v.2) 36) = W1 := ⟨_, rfl⟩
  have hal : Below w.heap.size w W1 := by rw [← hW]; exact balloc (balloc (Below.refl w.heap.size w) _) _
  have hN : Blk W1 (w.heap.size + 1) 36 (vA v.1 v.2) := by rw [← hW]; exact Blk.newS w _ _ _
  have hK : Blk W1 w.heap.size 33 (Wc n) := by rw [← hW]; exact (Blk.new w _ _).alloc _
  have h1 := h.keep hal
  have hglt := h.1.lt
  have hwlt := h.2.2.1.lt
  have hvlt := h.2.1.lt
  have hgv := blk_ne_map h.1 h.2.1
  have hgw := blk_ne_map h.1 h.2.2.1
  have hu := lk2_ok h n
  have huw := h.2.2.1.okL n
  have hNone := Lib.hid (none_not g bv _ _ W1 h1.1)
  obtain ⟨u, hu0⟩ : ∃ u, lk2 fv fw n = u := ⟨_, rfl⟩
  have HU := Lib.hid hu0
  rw [hu0] at hu hpos ⊢
  obtain ⟨cv, hcv⟩ : ∃ c, cntV v = c := ⟨_, rfl⟩
  obtain ⟨cu, hcu⟩ : ∃ c, cntV u = c := ⟨_, rfl⟩
  have hcv1 := cntV_le v
  have hcu1 := cntV_le u
  rw [hcv] at hcv1
  rw [hcu] at hcu1 hpos
  obtain ⟨M2, hM2⟩ : ∃ M2, manyP many v u = M2 := ⟨_, rfl⟩
  have hM3 : M2 = many + cv - cu := by rw [← hM2, ← hcv, ← hcu]; rfl
  rw [hM2]
  have a1 : IntKind.i64.wrap ((cv : Int) - (cu : Int)) = (cv : Int) - (cu : Int) := IntWalk.i64_in _ (by omega)
  have a2 : IntKind.i64.wrap ((many : Int) + ((cv : Int) - (cu : Int))) = (M2 : Int) := by rw [IntWalk.i64_in _ (by omega)]; omega
  have HW := Lib.hid (And.intro hW (And.intro hal (And.intro hN (And.intro hK (And.intro hn (And.intro h1 (And.intro hv (And.intro hu huw))))))))
  have HN := Lib.hid (And.intro hglt (And.intro hwlt (And.intro hvlt (And.intro hgv hgw))))
  have HC1 := Lib.hid (fun X => (by have := count_any v hv X; rwa [hcv] at this : Calls Try.prog 37 #[vP v] X fun e w' => e = .returned (.int .i64 (cv : Nat)) ∧ Below X.heap.size X w'))
  have HC2 := Lib.hid (fun X => (by have := count_any u hu X; rwa [hcu] at this : Calls Try.prog 37 #[vP u] X fun e w' => e = .returned (.int .i64 (cu : Nat)) ∧ Below X.heap.size X w'))
  have HG := Lib.hid (fun X (hX : Below W1.heap.size W1 X) => (by have := get_any g bv bw many fv fw n hn X (h1.keep hX); rwa [hu0] at this : Calls Try.prog 21 #[.pointer (some ⟨g, 0, none⟩), W n] X fun e w' => e = .returned (vP u) ∧ Below X.heap.size X w'))
  have HB := Lib.hid (Below.refl W1.heap.size W1)
  have cg := cell_of_row _ _ 2 _ _ _ h1.1
  have fg := frozen_of_row _ _ 2 _ _ h1.1
  have HCC := Lib.hid (fun z (hz : Below W1.heap.size W1 z) => And.intro (cell_of_row _ _ 2 _ _ _ (h1.1.keep hz)) (frozen_of_row _ _ 2 _ _ (h1.1.keep hz)))
  have l20 : ∀ w', Chg (fun k => k = g) W1 w' → w'.cell? ⟨w.heap.size, 0, none⟩ = some (.int .u64 (lb n 0)) := fun w' k => cell_of_row _ _ 0 _ _ _ (hK.chg k (by omega))
  have l21 : ∀ w', Chg (fun k => k = g) W1 w' → w'.cell? ⟨w.heap.size, 1, none⟩ = some (.int .u64 (lb n 1)) := fun w' k => cell_of_row _ _ 1 _ _ _ (hK.chg k (by omega))
  have l22 : ∀ w', Chg (fun k => k = g) W1 w' → w'.cell? ⟨w.heap.size, 2, none⟩ = some (.int .u64 (lb n 2)) := fun w' k => cell_of_row _ _ 2 _ _ _ (hK.chg k (by omega))
  have l23 : ∀ w', Chg (fun k => k = g) W1 w' → w'.cell? ⟨w.heap.size, 3, none⟩ = some (.int .u64 (lb n 3)) := fun w' k => cell_of_row _ _ 3 _ _ _ (hK.chg k (by omega))
  have l30 : ∀ w', Chg (fun k => k = g) W1 w' → w'.cell? ⟨w.heap.size + 1, 0, none⟩ = some (.int .u64 (lb v.1 0)) := fun w' k => cell_of_row _ _ 0 _ _ _ (hN.chg k (by omega))
  have l31 : ∀ w', Chg (fun k => k = g) W1 w' → w'.cell? ⟨w.heap.size + 1, 1, none⟩ = some (.int .u64 (lb v.1 1)) := fun w' k => cell_of_row _ _ 1 _ _ _ (hN.chg k (by omega))
  have l32 : ∀ w', Chg (fun k => k = g) W1 w' → w'.cell? ⟨w.heap.size + 1, 2, none⟩ = some (.int .u64 (lb v.1 2)) := fun w' k => cell_of_row _ _ 2 _ _ _ (hN.chg k (by omega))
  have l33 : ∀ w', Chg (fun k => k = g) W1 w' → w'.cell? ⟨w.heap.size + 1, 3, none⟩ = some (.int .u64 (lb v.1 3)) := fun w' k => cell_of_row _ _ 3 _ _ _ (hN.chg k (by omega))
  have l34 : ∀ w', Chg (fun k => k = g) W1 w' → w'.cell? ⟨w.heap.size + 1, 4, none⟩ = some (.int .u64 ((v.2 : Nat))) := fun w' k => cell_of_row _ _ 4 _ _ _ (hN.chg k (by omega))
  have h0 : Chg (fun k => k = g) W1 W1.drew := (Chg.refl _ W1).drew
  clear h h1 hglt hwlt hvlt hW hal hN hK hn hv hu huw hgv hgw hu0 hcv hcu hcv1 hcu1 hpos hmany hM2 hM3
  go_enter Try.func19, Try.ntmps19
  go_wp2_with fail
  rw [HW.out.1]
  refine wp_scope_jumps 0 (fun _ _ => False) (fun _ _ => 0) rfl ?first ?pass
  case pass => intro a w h; exact h.elim
  case first =>
    go_upto_region 2 with (first | (go_at_call 36; refine (hNone.out).mono ?_; rintro e w1 ⟨rfl, rfl⟩) | fail)
    go_cut [4] from 9 to 22 (fun p wx => p = .pointer (some ⟨w.heap.size, 0, none⟩) ∧ Blk wx g 87 #[.map (some bv), .map (some bw), .int .i64 (M2 : Nat)] ∧ Chg (fun k => k = g) W1 wx)
    case first =>
      have HC := Lib.hid (show Below W1.heap.size W1 W1.drew from below_drew' (Below.refl _ _))
      obtain ⟨cz, fz⟩ := HCC.out _ HC.out
      refine wp_region_held_drew (S := fun w' => Chg (fun k => k = g) W1 w') (by as_aux_lemma => kernel_rfl) h0 (fun hHeld => ?_)
      simp only [List.size_toArray, List.length_cons, List.length_nil, Nat.reduceAdd, Array.replicate_succ, Array.replicate_zero, List.push_toArray, List.nil_append, List.cons_append]
      refine wpAnyH_take (i := 0) (oi := { dst := some 9, op := Op.move (Operand.tmp 0), type := 59, pos := "slot.go:47", after := #[], guard := none }) (v := ?vq0) rfl (by as_aux_lemma => kernel_rfl) (by as_aux_lemma => kernel_rfl) (by as_aux_lemma => kernel_rfl) (fun _ _ _ h => h) (Or.inl ⟨by rfl, ?yq0⟩) (by assumption) ?rq0
      case yq0 => (intro w hSw; (try dsimp only at hSw); go_simp <;> with_reducible rfl)
      simp only [Act.put, List.setIfInBounds_toArray, List.set_cons_zero, List.set_cons_succ]
      refine wpAnyH_take (i := 1) (oi := { dst := some 10, op := Op.nilCheck (Operand.tmp 9), type := 0, pos := "slot.go:47", after := #[{ on := 0, ground := Ground.data }], guard := none }) (v := ?vq1) rfl (by as_aux_lemma => kernel_rfl) (by as_aux_lemma => kernel_rfl) (by as_aux_lemma => kernel_rfl) (fun _ _ _ h => h) (Or.inl ⟨by rfl, ?yq1⟩) (by assumption) ?rq1
      case yq1 => (intro w hSw; (try dsimp only at hSw); go_simp <;> with_reducible rfl)
      simp only [Act.put, List.setIfInBounds_toArray, List.set_cons_zero, List.set_cons_succ]
      refine wpAnyH_take (i := 2) (oi := { dst := some 11, op := Op.fieldAddr 87 (Operand.tmp 10) 2, type := 0, pos := "slot.go:47", after := #[{ on := 1, ground := Ground.data }], guard := none }) (v := ?vq2) rfl (by as_aux_lemma => kernel_rfl) (by as_aux_lemma => kernel_rfl) (by as_aux_lemma => kernel_rfl) (fun _ _ _ h => h) (Or.inl ⟨by rfl, ?yq2⟩) (by assumption) ?rq2
      case yq2 => (intro w hSw; (try dsimp only at hSw); go_simp <;> with_reducible rfl)
      simp only [Act.put, List.setIfInBounds_toArray, List.set_cons_zero, List.set_cons_succ]
      refine wpAnyH_take (i := 4) (oi := { dst := some 13, op := Op.load 36 (Operand.tmp 5), type := 36, pos := "slot.go:47", after := #[], guard := none }) (v := ?vq3) rfl (by as_aux_lemma => kernel_rfl) (by as_aux_lemma => kernel_rfl) (by as_aux_lemma => kernel_rfl) (fun _ _ _ h => h) (Or.inl ⟨by rfl, ?yq3⟩) (by assumption) ?rq3
      case yq3 => (intro w hSw; (try dsimp only at hSw); go_simp <;> with_reducible rfl)
      simp only [Act.put, List.setIfInBounds_toArray, List.set_cons_zero, List.set_cons_succ]
      refine wpAnyH_take (i := 6) (oi := { dst := some 15, op := Op.move (Operand.tmp 0), type := 59, pos := "slot.go:47", after := #[], guard := none }) (v := ?vq4) rfl (by as_aux_lemma => kernel_rfl) (by as_aux_lemma => kernel_rfl) (by as_aux_lemma => kernel_rfl) (fun _ _ _ h => h) (Or.inl ⟨by rfl, ?yq4⟩) (by assumption) ?rq4
      case yq4 => (intro w hSw; (try dsimp only at hSw); go_simp <;> with_reducible rfl)
      simp only [Act.put, List.setIfInBounds_toArray, List.set_cons_zero, List.set_cons_succ]
      refine wpAnyH_take (i := 7) (oi := { dst := some 16, op := Op.load 33 (Operand.tmp 4), type := 33, pos := "slot.go:47", after := #[], guard := none }) (v := ?vq5) rfl (by as_aux_lemma => kernel_rfl) (by as_aux_lemma => kernel_rfl) (by as_aux_lemma => kernel_rfl) (fun _ _ _ h => h) (Or.inl ⟨by rfl, ?yq5⟩) (by assumption) ?rq5
      case yq5 => (intro w hSw; (try dsimp only at hSw); go_simp <;> with_reducible rfl)
      simp only [Act.put, List.setIfInBounds_toArray, List.set_cons_zero, List.set_cons_succ]
      refine wpAnyH_ready (rs := [3, 5]) (by as_aux_lemma => kernel_rfl) (by simp) ?_
      refine AllReadyH.cons (o := { dst := some 12, op := Op.load 3 (Operand.tmp 11), type := 3, pos := "slot.go:47", after := #[{ on := 2, ground := Ground.data }], guard := none }) rfl (fun K hK => ?_) ?_
      · rw [if_pos (by rfl)]
        go_simp
        refine hK.out _ _ (by (try dsimp only); (first | exact Chg.new HC.out | exact (Chg.new HC.out).set g 2 _ (fun _ => rfl))) (fun hHeld => ?_)
        clear hK K
        simp only [List.setIfInBounds_toArray, List.set_cons_zero, List.set_cons_succ]
        refine wpAnyH_ready (rs := [5]) (by as_aux_lemma => kernel_rfl) (by simp) ?_
        refine AllReadyH.cons (o := { dst := some 14, op := Op.call { callee := Callee.value (Operand.func 37), args := #[Operand.tmp 13], argTypes := #[36] }, type := 3, pos := "slot.go:47", after := #[{ on := 4, ground := Ground.data }], guard := none }) rfl (fun K hK => ?_) (by exact AllReadyH.nil)
        rw [if_pos (by rfl)]
        go_simp
        (go_at_call 37; refine (HC1.out _).mono ?_; rintro e z ⟨rfl, hz⟩)
        replace HC := Lib.hid (HC.out.trans (hz.mono HC.out.size))
        obtain ⟨cz, fz⟩ := HCC.out z HC.out
        clear hz
        refine hK.out _ _ (by (try dsimp only); (first | exact Chg.new HC.out | exact (Chg.new HC.out).set g 2 _ (fun _ => rfl))) (fun hHeld => ?_)
        clear hK K
        simp only [List.setIfInBounds_toArray, List.set_cons_zero, List.set_cons_succ]
        refine wpAnyH_ready (rs := [8]) (by as_aux_lemma => kernel_rfl) (by simp) ?_
        refine AllReadyH.cons (o := { dst := some 17, op := Op.call { callee := Callee.value (Operand.func 21), args := #[Operand.tmp 15, Operand.tmp 16], argTypes := #[59, 33] }, type := 36, pos := "slot.go:47", after := #[{ on := 6, ground := Ground.data }, { on := 7, ground := Ground.data }, { on := 5, ground := Ground.chain }], guard := none }) rfl (fun K hK => ?_) (by exact AllReadyH.nil)
        rw [if_pos (by rfl)]
        go_simp
        (go_at_call 21; refine (HG.out _ HC.out).mono ?_; rintro e z ⟨rfl, hz⟩)
        replace HC := Lib.hid (HC.out.trans (hz.mono HC.out.size))
        obtain ⟨cz, fz⟩ := HCC.out z HC.out
        clear hz
        refine hK.out _ _ (by (try dsimp only); (first | exact Chg.new HC.out | exact (Chg.new HC.out).set g 2 _ (fun _ => rfl))) (fun hHeld => ?_)
        clear hK K
        simp only [List.setIfInBounds_toArray, List.set_cons_zero, List.set_cons_succ]
        refine wpAnyH_ready (rs := [9]) (by as_aux_lemma => kernel_rfl) (by simp) ?_
        refine AllReadyH.cons (o := { dst := some 18, op := Op.call { callee := Callee.value (Operand.func 37), args := #[Operand.tmp 17], argTypes := #[36] }, type := 3, pos := "slot.go:47", after := #[{ on := 8, ground := Ground.data }, { on := 8, ground := Ground.chain }], guard := none }) rfl (fun K hK => ?_) (by exact AllReadyH.nil)
        rw [if_pos (by rfl)]
        go_simp
        (go_at_call 37; refine (HC2.out _).mono ?_; rintro e z ⟨rfl, hz⟩)
        replace HC := Lib.hid (HC.out.trans (hz.mono HC.out.size))
        obtain ⟨cz, fz⟩ := HCC.out z HC.out
        clear hz
        refine hK.out _ _ (by (try dsimp only); (first | exact Chg.new HC.out | exact (Chg.new HC.out).set g 2 _ (fun _ => rfl))) (fun hHeld => ?_)
        clear hK K
        simp only [List.setIfInBounds_toArray, List.set_cons_zero, List.set_cons_succ]
        refine wpAnyH_take (i := 10) (oi := { dst := some 19, op := Op.binOp BinOp.sub 3 (Operand.tmp 14) (Operand.tmp 18) 3, type := 3, pos := "slot.go:47", after := #[{ on := 5, ground := Ground.data }, { on := 9, ground := Ground.data }], guard := none }) (v := ?vq10) rfl (by as_aux_lemma => kernel_rfl) (by as_aux_lemma => kernel_rfl) (by as_aux_lemma => kernel_rfl) (fun _ _ _ h => h) (Or.inl ⟨by rfl, ?yq10⟩) (by assumption) ?rq10
        case yq10 => (intro w hSw; (try dsimp only at hSw); go_simp <;> with_reducible rfl)
        simp only [Act.put, List.setIfInBounds_toArray, List.set_cons_zero, List.set_cons_succ]
        refine wpAnyH_take (i := 11) (oi := { dst := some 20, op := Op.binOp BinOp.add 3 (Operand.tmp 12) (Operand.tmp 19) 3, type := 3, pos := "slot.go:47", after := #[{ on := 3, ground := Ground.data }, { on := 10, ground := Ground.data }], guard := none }) (v := ?vq11) rfl (by as_aux_lemma => kernel_rfl) (by as_aux_lemma => kernel_rfl) (by as_aux_lemma => kernel_rfl) (fun _ _ _ h => h) (Or.inl ⟨by rfl, ?yq11⟩) (by assumption) ?rq11
        case yq11 => (intro w hSw; (try dsimp only at hSw); go_simp <;> with_reducible rfl)
        simp only [Act.put, List.setIfInBounds_toArray, List.set_cons_zero, List.set_cons_succ]
        refine wpAnyH_take (i := 12) (oi := { dst := some 21, op := Op.nilCheck (Operand.tmp 9), type := 0, pos := "slot.go:47", after := #[{ on := 0, ground := Ground.data }, { on := 0, ground := Ground.phase }, { on := 1, ground := Ground.phase }, { on := 2, ground := Ground.phase }, { on := 3, ground := Ground.phase }, { on := 4, ground := Ground.phase }, { on := 5, ground := Ground.phase }, { on := 6, ground := Ground.phase }, { on := 7, ground := Ground.phase }, { on := 8, ground := Ground.phase }, { on := 9, ground := Ground.phase }, { on := 10, ground := Ground.phase }, { on := 11, ground := Ground.phase }], guard := none }) (v := ?vq12) rfl (by as_aux_lemma => kernel_rfl) (by as_aux_lemma => kernel_rfl) (by as_aux_lemma => kernel_rfl) (fun _ _ _ h => h) (Or.inl ⟨by rfl, ?yq12⟩) (by assumption) ?rq12
        case yq12 => (intro w hSw; (try dsimp only at hSw); go_simp <;> with_reducible rfl)
        simp only [Act.put, List.setIfInBounds_toArray, List.set_cons_zero, List.set_cons_succ]
        refine wpAnyH_take (i := 13) (oi := { dst := some 22, op := Op.fieldAddr 87 (Operand.tmp 21) 2, type := 0, pos := "slot.go:47", after := #[{ on := 12, ground := Ground.data }, { on := 0, ground := Ground.phase }, { on := 1, ground := Ground.phase }, { on := 2, ground := Ground.phase }, { on := 3, ground := Ground.phase }, { on := 4, ground := Ground.phase }, { on := 5, ground := Ground.phase }, { on := 6, ground := Ground.phase }, { on := 7, ground := Ground.phase }, { on := 8, ground := Ground.phase }, { on := 9, ground := Ground.phase }, { on := 10, ground := Ground.phase }, { on := 11, ground := Ground.phase }], guard := none }) (v := ?vq13) rfl (by as_aux_lemma => kernel_rfl) (by as_aux_lemma => kernel_rfl) (by as_aux_lemma => kernel_rfl) (fun _ _ _ h => h) (Or.inl ⟨by rfl, ?yq13⟩) (by assumption) ?rq13
        case yq13 => (intro w hSw; (try dsimp only at hSw); go_simp <;> with_reducible rfl)
        simp only [Act.put, List.setIfInBounds_toArray, List.set_cons_zero, List.set_cons_succ]
        refine wpAnyH_ready (rs := [14]) (by as_aux_lemma => kernel_rfl) (by simp) ?_
        refine AllReadyH.cons (o := { dst := none, op := Op.store 3 (Operand.tmp 22) (Operand.tmp 20), type := 0, pos := "slot.go:47", after := #[{ on := 13, ground := Ground.data }, { on := 11, ground := Ground.data }, { on := 9, ground := Ground.chain }, { on := 0, ground := Ground.phase }, { on := 1, ground := Ground.phase }, { on := 2, ground := Ground.phase }, { on := 3, ground := Ground.phase }, { on := 4, ground := Ground.phase }, { on := 5, ground := Ground.phase }, { on := 6, ground := Ground.phase }, { on := 7, ground := Ground.phase }, { on := 8, ground := Ground.phase }, { on := 9, ground := Ground.phase }, { on := 10, ground := Ground.phase }, { on := 11, ground := Ground.phase }], guard := none }) rfl (fun K hK => ?_) (by exact AllReadyH.nil)
        rw [if_pos (by rfl)]
        go_simp
        refine hK.out _ _ (by (try dsimp only); (first | exact Chg.new HC.out | exact (Chg.new HC.out).set g 2 _ (fun _ => rfl))) (fun hHeld => ?_)
        clear hK K
        simp only [List.setIfInBounds_toArray, List.set_cons_zero, List.set_cons_succ]
        refine wpAnyH_done (by as_aux_lemma => kernel_rfl) ?_ _
        clear hHeld
        go_wp2_with fail
        go_meet
        exact ⟨rfl, heap_setCell_same _ g 2 _ _ _ (HW.out.2.2.2.2.2.1.1.keep HC.out), (Chg.new HC.out).set g 2 _ (fun _ => rfl)⟩
      refine AllReadyH.cons (o := { dst := some 14, op := Op.call { callee := Callee.value (Operand.func 37), args := #[Operand.tmp 13], argTypes := #[36] }, type := 3, pos := "slot.go:47", after := #[{ on := 4, ground := Ground.data }], guard := none }) rfl (fun K hK => ?_) (by exact AllReadyH.nil)
      rw [if_pos (by rfl)]
      go_simp
      (go_at_call 37; refine (HC1.out _).mono ?_; rintro e z ⟨rfl, hz⟩)
      replace HC := Lib.hid (HC.out.trans (hz.mono HC.out.size))
      obtain ⟨cz, fz⟩ := HCC.out z HC.out
      clear hz
      refine hK.out _ _ (by (try dsimp only); (first | exact Chg.new HC.out | exact (Chg.new HC.out).set g 2 _ (fun _ => rfl))) (fun hHeld => ?_)
      clear hK K
      simp only [List.setIfInBounds_toArray, List.set_cons_zero, List.set_cons_succ]
      refine wpAnyH_ready (rs := [3, 8]) (by as_aux_lemma => kernel_rfl) (by simp) ?_
      refine AllReadyH.cons (o := { dst := some 12, op := Op.load 3 (Operand.tmp 11), type := 3, pos := "slot.go:47", after := #[{ on := 2, ground := Ground.data }], guard := none }) rfl (fun K hK => ?_) ?_
      · rw [if_pos (by rfl)]
        go_simp
        refine hK.out _ _ (by (try dsimp only); (first | exact Chg.new HC.out | exact (Chg.new HC.out).set g 2 _ (fun _ => rfl))) (fun hHeld => ?_)
        clear hK K
        simp only [List.setIfInBounds_toArray, List.set_cons_zero, List.set_cons_succ]
        refine wpAnyH_ready (rs := [8]) (by as_aux_lemma => kernel_rfl) (by simp) ?_
        refine AllReadyH.cons (o := { dst := some 17, op := Op.call { callee := Callee.value (Operand.func 21), args := #[Operand.tmp 15, Operand.tmp 16], argTypes := #[59, 33] }, type := 36, pos := "slot.go:47", after := #[{ on := 6, ground := Ground.data }, { on := 7, ground := Ground.data }, { on := 5, ground := Ground.chain }], guard := none }) rfl (fun K hK => ?_) (by exact AllReadyH.nil)
        rw [if_pos (by rfl)]
        go_simp
        (go_at_call 21; refine (HG.out _ HC.out).mono ?_; rintro e z ⟨rfl, hz⟩)
        replace HC := Lib.hid (HC.out.trans (hz.mono HC.out.size))
        obtain ⟨cz, fz⟩ := HCC.out z HC.out
        clear hz
        refine hK.out _ _ (by (try dsimp only); (first | exact Chg.new HC.out | exact (Chg.new HC.out).set g 2 _ (fun _ => rfl))) (fun hHeld => ?_)
        clear hK K
        simp only [List.setIfInBounds_toArray, List.set_cons_zero, List.set_cons_succ]
        refine wpAnyH_ready (rs := [9]) (by as_aux_lemma => kernel_rfl) (by simp) ?_
        refine AllReadyH.cons (o := { dst := some 18, op := Op.call { callee := Callee.value (Operand.func 37), args := #[Operand.tmp 17], argTypes := #[36] }, type := 3, pos := "slot.go:47", after := #[{ on := 8, ground := Ground.data }, { on := 8, ground := Ground.chain }], guard := none }) rfl (fun K hK => ?_) (by exact AllReadyH.nil)
        rw [if_pos (by rfl)]
        go_simp
        (go_at_call 37; refine (HC2.out _).mono ?_; rintro e z ⟨rfl, hz⟩)
        replace HC := Lib.hid (HC.out.trans (hz.mono HC.out.size))
        obtain ⟨cz, fz⟩ := HCC.out z HC.out
        clear hz
        refine hK.out _ _ (by (try dsimp only); (first | exact Chg.new HC.out | exact (Chg.new HC.out).set g 2 _ (fun _ => rfl))) (fun hHeld => ?_)
        clear hK K
        simp only [List.setIfInBounds_toArray, List.set_cons_zero, List.set_cons_succ]
        refine wpAnyH_take (i := 10) (oi := { dst := some 19, op := Op.binOp BinOp.sub 3 (Operand.tmp 14) (Operand.tmp 18) 3, type := 3, pos := "slot.go:47", after := #[{ on := 5, ground := Ground.data }, { on := 9, ground := Ground.data }], guard := none }) (v := ?vq19) rfl (by as_aux_lemma => kernel_rfl) (by as_aux_lemma => kernel_rfl) (by as_aux_lemma => kernel_rfl) (fun _ _ _ h => h) (Or.inl ⟨by rfl, ?yq19⟩) (by assumption) ?rq19
        case yq19 => (intro w hSw; (try dsimp only at hSw); go_simp <;> with_reducible rfl)
        simp only [Act.put, List.setIfInBounds_toArray, List.set_cons_zero, List.set_cons_succ]
        refine wpAnyH_take (i := 11) (oi := { dst := some 20, op := Op.binOp BinOp.add 3 (Operand.tmp 12) (Operand.tmp 19) 3, type := 3, pos := "slot.go:47", after := #[{ on := 3, ground := Ground.data }, { on := 10, ground := Ground.data }], guard := none }) (v := ?vq20) rfl (by as_aux_lemma => kernel_rfl) (by as_aux_lemma => kernel_rfl) (by as_aux_lemma => kernel_rfl) (fun _ _ _ h => h) (Or.inl ⟨by rfl, ?yq20⟩) (by assumption) ?rq20
        case yq20 => (intro w hSw; (try dsimp only at hSw); go_simp <;> with_reducible rfl)
        simp only [Act.put, List.setIfInBounds_toArray, List.set_cons_zero, List.set_cons_succ]
        refine wpAnyH_take (i := 12) (oi := { dst := some 21, op := Op.nilCheck (Operand.tmp 9), type := 0, pos := "slot.go:47", after := #[{ on := 0, ground := Ground.data }, { on := 0, ground := Ground.phase }, { on := 1, ground := Ground.phase }, { on := 2, ground := Ground.phase }, { on := 3, ground := Ground.phase }, { on := 4, ground := Ground.phase }, { on := 5, ground := Ground.phase }, { on := 6, ground := Ground.phase }, { on := 7, ground := Ground.phase }, { on := 8, ground := Ground.phase }, { on := 9, ground := Ground.phase }, { on := 10, ground := Ground.phase }, { on := 11, ground := Ground.phase }], guard := none }) (v := ?vq21) rfl (by as_aux_lemma => kernel_rfl) (by as_aux_lemma => kernel_rfl) (by as_aux_lemma => kernel_rfl) (fun _ _ _ h => h) (Or.inl ⟨by rfl, ?yq21⟩) (by assumption) ?rq21
        case yq21 => (intro w hSw; (try dsimp only at hSw); go_simp <;> with_reducible rfl)
        simp only [Act.put, List.setIfInBounds_toArray, List.set_cons_zero, List.set_cons_succ]
        refine wpAnyH_take (i := 13) (oi := { dst := some 22, op := Op.fieldAddr 87 (Operand.tmp 21) 2, type := 0, pos := "slot.go:47", after := #[{ on := 12, ground := Ground.data }, { on := 0, ground := Ground.phase }, { on := 1, ground := Ground.phase }, { on := 2, ground := Ground.phase }, { on := 3, ground := Ground.phase }, { on := 4, ground := Ground.phase }, { on := 5, ground := Ground.phase }, { on := 6, ground := Ground.phase }, { on := 7, ground := Ground.phase }, { on := 8, ground := Ground.phase }, { on := 9, ground := Ground.phase }, { on := 10, ground := Ground.phase }, { on := 11, ground := Ground.phase }], guard := none }) (v := ?vq22) rfl (by as_aux_lemma => kernel_rfl) (by as_aux_lemma => kernel_rfl) (by as_aux_lemma => kernel_rfl) (fun _ _ _ h => h) (Or.inl ⟨by rfl, ?yq22⟩) (by assumption) ?rq22
        case yq22 => (intro w hSw; (try dsimp only at hSw); go_simp <;> with_reducible rfl)
        simp only [Act.put, List.setIfInBounds_toArray, List.set_cons_zero, List.set_cons_succ]
        refine wpAnyH_ready (rs := [14]) (by as_aux_lemma => kernel_rfl) (by simp) ?_
        refine AllReadyH.cons (o := { dst := none, op := Op.store 3 (Operand.tmp 22) (Operand.tmp 20), type := 0, pos := "slot.go:47", after := #[{ on := 13, ground := Ground.data }, { on := 11, ground := Ground.data }, { on := 9, ground := Ground.chain }, { on := 0, ground := Ground.phase }, { on := 1, ground := Ground.phase }, { on := 2, ground := Ground.phase }, { on := 3, ground := Ground.phase }, { on := 4, ground := Ground.phase }, { on := 5, ground := Ground.phase }, { on := 6, ground := Ground.phase }, { on := 7, ground := Ground.phase }, { on := 8, ground := Ground.phase }, { on := 9, ground := Ground.phase }, { on := 10, ground := Ground.phase }, { on := 11, ground := Ground.phase }], guard := none }) rfl (fun K hK => ?_) (by exact AllReadyH.nil)
        rw [if_pos (by rfl)]
        go_simp
        refine hK.out _ _ (by (try dsimp only); (first | exact Chg.new HC.out | exact (Chg.new HC.out).set g 2 _ (fun _ => rfl))) (fun hHeld => ?_)
        clear hK K
        simp only [List.setIfInBounds_toArray, List.set_cons_zero, List.set_cons_succ]
        refine wpAnyH_done (by as_aux_lemma => kernel_rfl) ?_ _
        clear hHeld
        go_wp2_with fail
        go_meet
        exact ⟨rfl, heap_setCell_same _ g 2 _ _ _ (HW.out.2.2.2.2.2.1.1.keep HC.out), (Chg.new HC.out).set g 2 _ (fun _ => rfl)⟩
      refine AllReadyH.cons (o := { dst := some 17, op := Op.call { callee := Callee.value (Operand.func 21), args := #[Operand.tmp 15, Operand.tmp 16], argTypes := #[59, 33] }, type := 36, pos := "slot.go:47", after := #[{ on := 6, ground := Ground.data }, { on := 7, ground := Ground.data }, { on := 5, ground := Ground.chain }], guard := none }) rfl (fun K hK => ?_) (by exact AllReadyH.nil)
      rw [if_pos (by rfl)]
      go_simp
      (go_at_call 21; refine (HG.out _ HC.out).mono ?_; rintro e z ⟨rfl, hz⟩)
      replace HC := Lib.hid (HC.out.trans (hz.mono HC.out.size))
      obtain ⟨cz, fz⟩ := HCC.out z HC.out
      clear hz
      refine hK.out _ _ (by (try dsimp only); (first | exact Chg.new HC.out | exact (Chg.new HC.out).set g 2 _ (fun _ => rfl))) (fun hHeld => ?_)
      clear hK K
      simp only [List.setIfInBounds_toArray, List.set_cons_zero, List.set_cons_succ]
      refine wpAnyH_ready (rs := [3, 9]) (by as_aux_lemma => kernel_rfl) (by simp) ?_
      refine AllReadyH.cons (o := { dst := some 12, op := Op.load 3 (Operand.tmp 11), type := 3, pos := "slot.go:47", after := #[{ on := 2, ground := Ground.data }], guard := none }) rfl (fun K hK => ?_) ?_
      · rw [if_pos (by rfl)]
        go_simp
        refine hK.out _ _ (by (try dsimp only); (first | exact Chg.new HC.out | exact (Chg.new HC.out).set g 2 _ (fun _ => rfl))) (fun hHeld => ?_)
        clear hK K
        simp only [List.setIfInBounds_toArray, List.set_cons_zero, List.set_cons_succ]
        refine wpAnyH_ready (rs := [9]) (by as_aux_lemma => kernel_rfl) (by simp) ?_
        refine AllReadyH.cons (o := { dst := some 18, op := Op.call { callee := Callee.value (Operand.func 37), args := #[Operand.tmp 17], argTypes := #[36] }, type := 3, pos := "slot.go:47", after := #[{ on := 8, ground := Ground.data }, { on := 8, ground := Ground.chain }], guard := none }) rfl (fun K hK => ?_) (by exact AllReadyH.nil)
        rw [if_pos (by rfl)]
        go_simp
        (go_at_call 37; refine (HC2.out _).mono ?_; rintro e z ⟨rfl, hz⟩)
        replace HC := Lib.hid (HC.out.trans (hz.mono HC.out.size))
        obtain ⟨cz, fz⟩ := HCC.out z HC.out
        clear hz
        refine hK.out _ _ (by (try dsimp only); (first | exact Chg.new HC.out | exact (Chg.new HC.out).set g 2 _ (fun _ => rfl))) (fun hHeld => ?_)
        clear hK K
        simp only [List.setIfInBounds_toArray, List.set_cons_zero, List.set_cons_succ]
        refine wpAnyH_take (i := 10) (oi := { dst := some 19, op := Op.binOp BinOp.sub 3 (Operand.tmp 14) (Operand.tmp 18) 3, type := 3, pos := "slot.go:47", after := #[{ on := 5, ground := Ground.data }, { on := 9, ground := Ground.data }], guard := none }) (v := ?vq27) rfl (by as_aux_lemma => kernel_rfl) (by as_aux_lemma => kernel_rfl) (by as_aux_lemma => kernel_rfl) (fun _ _ _ h => h) (Or.inl ⟨by rfl, ?yq27⟩) (by assumption) ?rq27
        case yq27 => (intro w hSw; (try dsimp only at hSw); go_simp <;> with_reducible rfl)
        simp only [Act.put, List.setIfInBounds_toArray, List.set_cons_zero, List.set_cons_succ]
        refine wpAnyH_take (i := 11) (oi := { dst := some 20, op := Op.binOp BinOp.add 3 (Operand.tmp 12) (Operand.tmp 19) 3, type := 3, pos := "slot.go:47", after := #[{ on := 3, ground := Ground.data }, { on := 10, ground := Ground.data }], guard := none }) (v := ?vq28) rfl (by as_aux_lemma => kernel_rfl) (by as_aux_lemma => kernel_rfl) (by as_aux_lemma => kernel_rfl) (fun _ _ _ h => h) (Or.inl ⟨by rfl, ?yq28⟩) (by assumption) ?rq28
        case yq28 => (intro w hSw; (try dsimp only at hSw); go_simp <;> with_reducible rfl)
        simp only [Act.put, List.setIfInBounds_toArray, List.set_cons_zero, List.set_cons_succ]
        refine wpAnyH_take (i := 12) (oi := { dst := some 21, op := Op.nilCheck (Operand.tmp 9), type := 0, pos := "slot.go:47", after := #[{ on := 0, ground := Ground.data }, { on := 0, ground := Ground.phase }, { on := 1, ground := Ground.phase }, { on := 2, ground := Ground.phase }, { on := 3, ground := Ground.phase }, { on := 4, ground := Ground.phase }, { on := 5, ground := Ground.phase }, { on := 6, ground := Ground.phase }, { on := 7, ground := Ground.phase }, { on := 8, ground := Ground.phase }, { on := 9, ground := Ground.phase }, { on := 10, ground := Ground.phase }, { on := 11, ground := Ground.phase }], guard := none }) (v := ?vq29) rfl (by as_aux_lemma => kernel_rfl) (by as_aux_lemma => kernel_rfl) (by as_aux_lemma => kernel_rfl) (fun _ _ _ h => h) (Or.inl ⟨by rfl, ?yq29⟩) (by assumption) ?rq29
        case yq29 => (intro w hSw; (try dsimp only at hSw); go_simp <;> with_reducible rfl)
        simp only [Act.put, List.setIfInBounds_toArray, List.set_cons_zero, List.set_cons_succ]
        refine wpAnyH_take (i := 13) (oi := { dst := some 22, op := Op.fieldAddr 87 (Operand.tmp 21) 2, type := 0, pos := "slot.go:47", after := #[{ on := 12, ground := Ground.data }, { on := 0, ground := Ground.phase }, { on := 1, ground := Ground.phase }, { on := 2, ground := Ground.phase }, { on := 3, ground := Ground.phase }, { on := 4, ground := Ground.phase }, { on := 5, ground := Ground.phase }, { on := 6, ground := Ground.phase }, { on := 7, ground := Ground.phase }, { on := 8, ground := Ground.phase }, { on := 9, ground := Ground.phase }, { on := 10, ground := Ground.phase }, { on := 11, ground := Ground.phase }], guard := none }) (v := ?vq30) rfl (by as_aux_lemma => kernel_rfl) (by as_aux_lemma => kernel_rfl) (by as_aux_lemma => kernel_rfl) (fun _ _ _ h => h) (Or.inl ⟨by rfl, ?yq30⟩) (by assumption) ?rq30
        case yq30 => (intro w hSw; (try dsimp only at hSw); go_simp <;> with_reducible rfl)
        simp only [Act.put, List.setIfInBounds_toArray, List.set_cons_zero, List.set_cons_succ]
        refine wpAnyH_ready (rs := [14]) (by as_aux_lemma => kernel_rfl) (by simp) ?_
        refine AllReadyH.cons (o := { dst := none, op := Op.store 3 (Operand.tmp 22) (Operand.tmp 20), type := 0, pos := "slot.go:47", after := #[{ on := 13, ground := Ground.data }, { on := 11, ground := Ground.data }, { on := 9, ground := Ground.chain }, { on := 0, ground := Ground.phase }, { on := 1, ground := Ground.phase }, { on := 2, ground := Ground.phase }, { on := 3, ground := Ground.phase }, { on := 4, ground := Ground.phase }, { on := 5, ground := Ground.phase }, { on := 6, ground := Ground.phase }, { on := 7, ground := Ground.phase }, { on := 8, ground := Ground.phase }, { on := 9, ground := Ground.phase }, { on := 10, ground := Ground.phase }, { on := 11, ground := Ground.phase }], guard := none }) rfl (fun K hK => ?_) (by exact AllReadyH.nil)
        rw [if_pos (by rfl)]
        go_simp
        refine hK.out _ _ (by (try dsimp only); (first | exact Chg.new HC.out | exact (Chg.new HC.out).set g 2 _ (fun _ => rfl))) (fun hHeld => ?_)
        clear hK K
        simp only [List.setIfInBounds_toArray, List.set_cons_zero, List.set_cons_succ]
        refine wpAnyH_done (by as_aux_lemma => kernel_rfl) ?_ _
        clear hHeld
        go_wp2_with fail
        go_meet
        exact ⟨rfl, heap_setCell_same _ g 2 _ _ _ (HW.out.2.2.2.2.2.1.1.keep HC.out), (Chg.new HC.out).set g 2 _ (fun _ => rfl)⟩
      refine AllReadyH.cons (o := { dst := some 18, op := Op.call { callee := Callee.value (Operand.func 37), args := #[Operand.tmp 17], argTypes := #[36] }, type := 3, pos := "slot.go:47", after := #[{ on := 8, ground := Ground.data }, { on := 8, ground := Ground.chain }], guard := none }) rfl (fun K hK => ?_) (by exact AllReadyH.nil)
      rw [if_pos (by rfl)]
      go_simp
      (go_at_call 37; refine (HC2.out _).mono ?_; rintro e z ⟨rfl, hz⟩)
      replace HC := Lib.hid (HC.out.trans (hz.mono HC.out.size))
      obtain ⟨cz, fz⟩ := HCC.out z HC.out
      clear hz
      refine hK.out _ _ (by (try dsimp only); (first | exact Chg.new HC.out | exact (Chg.new HC.out).set g 2 _ (fun _ => rfl))) (fun hHeld => ?_)
      clear hK K
      simp only [List.setIfInBounds_toArray, List.set_cons_zero, List.set_cons_succ]
      refine wpAnyH_take (i := 10) (oi := { dst := some 19, op := Op.binOp BinOp.sub 3 (Operand.tmp 14) (Operand.tmp 18) 3, type := 3, pos := "slot.go:47", after := #[{ on := 5, ground := Ground.data }, { on := 9, ground := Ground.data }], guard := none }) (v := ?vq33) rfl (by as_aux_lemma => kernel_rfl) (by as_aux_lemma => kernel_rfl) (by as_aux_lemma => kernel_rfl) (fun _ _ _ h => h) (Or.inl ⟨by rfl, ?yq33⟩) (by assumption) ?rq33
      case yq33 => (intro w hSw; (try dsimp only at hSw); go_simp <;> with_reducible rfl)
      simp only [Act.put, List.setIfInBounds_toArray, List.set_cons_zero, List.set_cons_succ]
      refine wpAnyH_ready (rs := [3]) (by as_aux_lemma => kernel_rfl) (by simp) ?_
      refine AllReadyH.cons (o := { dst := some 12, op := Op.load 3 (Operand.tmp 11), type := 3, pos := "slot.go:47", after := #[{ on := 2, ground := Ground.data }], guard := none }) rfl (fun K hK => ?_) (by exact AllReadyH.nil)
      rw [if_pos (by rfl)]
      go_simp
      refine hK.out _ _ (by (try dsimp only); (first | exact Chg.new HC.out | exact (Chg.new HC.out).set g 2 _ (fun _ => rfl))) (fun hHeld => ?_)
      clear hK K
      simp only [List.setIfInBounds_toArray, List.set_cons_zero, List.set_cons_succ]
      refine wpAnyH_take (i := 11) (oi := { dst := some 20, op := Op.binOp BinOp.add 3 (Operand.tmp 12) (Operand.tmp 19) 3, type := 3, pos := "slot.go:47", after := #[{ on := 3, ground := Ground.data }, { on := 10, ground := Ground.data }], guard := none }) (v := ?vq35) rfl (by as_aux_lemma => kernel_rfl) (by as_aux_lemma => kernel_rfl) (by as_aux_lemma => kernel_rfl) (fun _ _ _ h => h) (Or.inl ⟨by rfl, ?yq35⟩) (by assumption) ?rq35
      case yq35 => (intro w hSw; (try dsimp only at hSw); go_simp <;> with_reducible rfl)
      simp only [Act.put, List.setIfInBounds_toArray, List.set_cons_zero, List.set_cons_succ]
      refine wpAnyH_take (i := 12) (oi := { dst := some 21, op := Op.nilCheck (Operand.tmp 9), type := 0, pos := "slot.go:47", after := #[{ on := 0, ground := Ground.data }, { on := 0, ground := Ground.phase }, { on := 1, ground := Ground.phase }, { on := 2, ground := Ground.phase }, { on := 3, ground := Ground.phase }, { on := 4, ground := Ground.phase }, { on := 5, ground := Ground.phase }, { on := 6, ground := Ground.phase }, { on := 7, ground := Ground.phase }, { on := 8, ground := Ground.phase }, { on := 9, ground := Ground.phase }, { on := 10, ground := Ground.phase }, { on := 11, ground := Ground.phase }], guard := none }) (v := ?vq36) rfl (by as_aux_lemma => kernel_rfl) (by as_aux_lemma => kernel_rfl) (by as_aux_lemma => kernel_rfl) (fun _ _ _ h => h) (Or.inl ⟨by rfl, ?yq36⟩) (by assumption) ?rq36
      case yq36 => (intro w hSw; (try dsimp only at hSw); go_simp <;> with_reducible rfl)
      simp only [Act.put, List.setIfInBounds_toArray, List.set_cons_zero, List.set_cons_succ]
      refine wpAnyH_take (i := 13) (oi := { dst := some 22, op := Op.fieldAddr 87 (Operand.tmp 21) 2, type := 0, pos := "slot.go:47", after := #[{ on := 12, ground := Ground.data }, { on := 0, ground := Ground.phase }, { on := 1, ground := Ground.phase }, { on := 2, ground := Ground.phase }, { on := 3, ground := Ground.phase }, { on := 4, ground := Ground.phase }, { on := 5, ground := Ground.phase }, { on := 6, ground := Ground.phase }, { on := 7, ground := Ground.phase }, { on := 8, ground := Ground.phase }, { on := 9, ground := Ground.phase }, { on := 10, ground := Ground.phase }, { on := 11, ground := Ground.phase }], guard := none }) (v := ?vq37) rfl (by as_aux_lemma => kernel_rfl) (by as_aux_lemma => kernel_rfl) (by as_aux_lemma => kernel_rfl) (fun _ _ _ h => h) (Or.inl ⟨by rfl, ?yq37⟩) (by assumption) ?rq37
      case yq37 => (intro w hSw; (try dsimp only at hSw); go_simp <;> with_reducible rfl)
      simp only [Act.put, List.setIfInBounds_toArray, List.set_cons_zero, List.set_cons_succ]
      refine wpAnyH_ready (rs := [14]) (by as_aux_lemma => kernel_rfl) (by simp) ?_
      refine AllReadyH.cons (o := { dst := none, op := Op.store 3 (Operand.tmp 22) (Operand.tmp 20), type := 0, pos := "slot.go:47", after := #[{ on := 13, ground := Ground.data }, { on := 11, ground := Ground.data }, { on := 9, ground := Ground.chain }, { on := 0, ground := Ground.phase }, { on := 1, ground := Ground.phase }, { on := 2, ground := Ground.phase }, { on := 3, ground := Ground.phase }, { on := 4, ground := Ground.phase }, { on := 5, ground := Ground.phase }, { on := 6, ground := Ground.phase }, { on := 7, ground := Ground.phase }, { on := 8, ground := Ground.phase }, { on := 9, ground := Ground.phase }, { on := 10, ground := Ground.phase }, { on := 11, ground := Ground.phase }], guard := none }) rfl (fun K hK => ?_) (by exact AllReadyH.nil)
      rw [if_pos (by rfl)]
      go_simp
      refine hK.out _ _ (by (try dsimp only); (first | exact Chg.new HC.out | exact (Chg.new HC.out).set g 2 _ (fun _ => rfl))) (fun hHeld => ?_)
      clear hK K
      simp only [List.setIfInBounds_toArray, List.set_cons_zero, List.set_cons_succ]
      refine wpAnyH_done (by as_aux_lemma => kernel_rfl) ?_ _
      clear hHeld
      go_wp2_with fail
      go_meet
      exact ⟨rfl, heap_setCell_same _ g 2 _ _ _ (HW.out.2.2.2.2.2.1.1.keep HC.out), (Chg.new HC.out).set g 2 _ (fun _ => rfl)⟩
    case rest =>
      obtain ⟨rfl, hB, hC⟩ := hcut
      have hsl : SlB wc g bv bw fv fw M2 := ⟨hB, HW.out.2.2.2.2.2.1.2.1.chg hC (Ne.symm HN.out.2.2.2.1), HW.out.2.2.2.2.2.1.2.2.1.chg hC (Ne.symm HN.out.2.2.2.2), HW.out.2.2.2.2.2.1.2.2.2⟩
      have hK := HW.out.2.2.2.1.chg hC (by have := HN.out.1; omega)
      have hN := HW.out.2.2.1.chg hC (by have := HN.out.1; omega)
      have n1 : w.heap.size ≠ bv := by have := HN.out.2.2.1; omega
      have n2 : w.heap.size + 1 ≠ bv := by have := HN.out.2.2.1; omega
      have n3 : g ≠ bv := HN.out.2.2.2.1
      have l5 : ∀ w', Chg (fun k => k = bv) wc w' → w'.cell? ⟨g, 0, none⟩ = some (.map (some bv)) := fun w' k => cell_of_row _ _ 0 _ _ _ (hB.chg k n3)
      have l20 : ∀ w', Chg (fun k => k = bv) wc w' → w'.cell? ⟨w.heap.size, 0, none⟩ = some (.int .u64 (lb n 0)) := fun w' k => cell_of_row _ _ 0 _ _ _ (hK.chg k n1)
      have l21 : ∀ w', Chg (fun k => k = bv) wc w' → w'.cell? ⟨w.heap.size, 1, none⟩ = some (.int .u64 (lb n 1)) := fun w' k => cell_of_row _ _ 1 _ _ _ (hK.chg k n1)
      have l22 : ∀ w', Chg (fun k => k = bv) wc w' → w'.cell? ⟨w.heap.size, 2, none⟩ = some (.int .u64 (lb n 2)) := fun w' k => cell_of_row _ _ 2 _ _ _ (hK.chg k n1)
      have l23 : ∀ w', Chg (fun k => k = bv) wc w' → w'.cell? ⟨w.heap.size, 3, none⟩ = some (.int .u64 (lb n 3)) := fun w' k => cell_of_row _ _ 3 _ _ _ (hK.chg k n1)
      have l30 : ∀ w', Chg (fun k => k = bv) wc w' → w'.cell? ⟨w.heap.size + 1, 0, none⟩ = some (.int .u64 (lb v.1 0)) := fun w' k => cell_of_row _ _ 0 _ _ _ (hN.chg k n2)
      have l31 : ∀ w', Chg (fun k => k = bv) wc w' → w'.cell? ⟨w.heap.size + 1, 1, none⟩ = some (.int .u64 (lb v.1 1)) := fun w' k => cell_of_row _ _ 1 _ _ _ (hN.chg k n2)
      have l32 : ∀ w', Chg (fun k => k = bv) wc w' → w'.cell? ⟨w.heap.size + 1, 2, none⟩ = some (.int .u64 (lb v.1 2)) := fun w' k => cell_of_row _ _ 2 _ _ _ (hN.chg k n2)
      have l33 : ∀ w', Chg (fun k => k = bv) wc w' → w'.cell? ⟨w.heap.size + 1, 3, none⟩ = some (.int .u64 (lb v.1 3)) := fun w' k => cell_of_row _ _ 3 _ _ _ (hN.chg k n2)
      have l34 : ∀ w', Chg (fun k => k = bv) wc w' → w'.cell? ⟨w.heap.size + 1, 4, none⟩ = some (.int .u64 ((v.2 : Nat))) := fun w' k => cell_of_row _ _ 4 _ _ _ (hN.chg k n2)
      have HB := Lib.hid (show Below wc.heap.size wc wc.drew from below_drew' (Below.refl _ _))
      have h0 : Chg (fun k => k = bv) wc wc.drew := (Chg.refl _ wc).drew
      have HWas := Lib.hid (fun X (hX : Below wc.heap.size wc X) => was_any g bv bw M2 fv fw n HW.out.2.2.2.2.1 X (hsl.keep hX))
      have HP := Lib.hid (fun X (hX : Below wc.heap.size wc X) => put_any bv fv n HW.out.2.2.2.2.1 v (lk fw n) HW.out.2.2.2.2.2.2.1 HW.out.2.2.2.2.2.2.2.2 X (hsl.2.1.keep hX))
      have HE := Lib.hid (And.intro hsl (And.intro hC n3))
      clear hsl hK hN n1 n2 n3 hB hC
      go_upto_region 3 with fail
      go_region_held3 (fun w' => Chg (fun k => k = bv) wc w')
        (first | with_reducible assumption | with_reducible exact Chg.drew (by assumption))
        (first
          | (go_at_call 39; refine (HWas.out _ HB.out).mono ?_; rintro e z ⟨rfl, hz⟩; replace HB := Lib.hid (HB.out.trans (hz.mono HB.out.size)); have hH : Chg (fun k => k = bv) wc z := Chg.new HB.out; clear hz)
          | (go_at_call 38; refine (HP.out _ HB.out).mono ?_; rintro e z ⟨⟨r, rfl⟩, hm, hc⟩; have hH : Chg (fun k => k = bv) wc z := (Chg.new HB.out).trans hc (fun _ _ h => h); have HF := Lib.hid (And.intro hm hH); clear hm hc)
          | fail)
      all_goals
        go_wp2_with fail
        simp only [Exit.jump]
        go_ret
        exact ⟨rfl, ⟨HE.out.1.1.chg HF.out.2 HE.out.2.2, HF.out.1, HE.out.1.2.2.1.chg HF.out.2 (Ne.symm HE.out.1.2.2.2), HE.out.1.2.2.2⟩, (Chg.new HW.out.2.1).trans ((HE.out.2.1.mono (N := fun k => k = g ∨ k = bv) (fun k _ h => .inl h)).trans HF.out.2 (fun k _ h => .inr h)) (fun _ _ h => h)⟩

end Go.Proofs.Ytcplhalgjjhmdaa
