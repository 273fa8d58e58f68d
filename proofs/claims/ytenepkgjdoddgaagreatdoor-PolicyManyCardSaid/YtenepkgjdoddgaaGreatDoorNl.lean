/- policy's laws: PolicyMany: the walk. -/
import Derived.Test.YtenepkgjdoddgaaGreatDoorNi
import Derived.Test.YtenepkgjdoddgaaGreatDoorPm
namespace Go.Proofs.YtenepkgjdoddgaaGreatDoor
open Go.RowKit Go.Shelf

set_option maxRecDepth 100000 in
set_option maxHeartbeats 8000000 in
theorem many_walk (a b : Int) (m0 m1 : Nat) (w : World) (hm0 : 64 + a = (m0 : Int)) (hm1 : 64 + b = (m1 : Int)) (h0 : 63 ≤ m0 ∧ m0 ≤ 65) (h1 : 63 ≤ m1 ∧ m1 ≤ 65) (hT : TZ w) (h10 : T10 w) (hWk : ∀ Y, Below w.heap.size w Y → Calls Tryz.prog 10 #[] Y fun e w' => e = .returned (.bool true) ∧ Below Y.heap.size Y w') :
    Calls Tryz.prog 7 #[.agg #[.int .i64 a, .int .i64 b]] w fun r w' => r = .returned (.bool true) ∧ Below w.heap.size w w' := by
  obtain ⟨X, hX⟩ : ∃ X, w.alloc (.cells #[.int .i64 a, .int .i64 b] 69) = X := ⟨_, rfl⟩
  have b1 : Blk X w.heap.size 69 #[.int .i64 a, .int .i64 b] := by rw [← hX]; exact Blk.new w _ _
  have hW : Below w.heap.size w X := by rw [← hX]; exact balloc (Below.refl _ _) _
  have HX := Lib.hid hX
  have HWk := Lib.hid (fun (Y : World) (hY : Below X.heap.size X Y) => hWk Y (hW.trans (hY.mono hW.size)))
  have HT := Lib.hid (And.intro hT h10)
  have H0 := Lib.hid (And.intro hW (And.intro b1 (And.intro h0 (And.intro h1 (And.intro hm0 hm1)))))
  have k0 := cell_of_row _ _ 0 _ _ _ b1
  have k1 := cell_of_row _ _ 1 _ _ _ b1
  have a1 : ¬ a < -1 := by omega
  have a2 : ¬ 1 < a := by omega
  have a3 : ¬ b < -1 := by omega
  have a4 : ¬ 1 < b := by omega
  have a5 : IntKind.i64.wrap (64 + a) = (m0 : Int) := by rw [hm0]; exact IntWalk.i64_in _ (by omega)
  have a6 : IntKind.i64.wrap (64 + b) = (m1 : Int) := by rw [hm1]; exact IntWalk.i64_in _ (by omega)
  clear hX b1 hW hWk hT h10 h0 h1 hm0 hm1
  go_enter Tryz.func7, Tryz.ntmps7
  go_wp2_with fail
  rw [HX.out]
  go_upto_region 4 with fail
  clear a1 a2 a3 a4 k0 k1
  obtain ⟨W2, hW2⟩ : ∃ W2, X.alloc (.cells #[.int .u64 0, .slice none 0 0, .slice none 0 0] 27) = W2 := ⟨_, rfl⟩
  have hQ2 : Blk W2 X.heap.size 27 #[.int .u64 0, .slice none 0 0, .slice none 0 0] := by rw [← hW2]; exact Blk.new _ _ _
  have hsz : W2.heap.size = X.heap.size + 1 := by rw [← hW2]; simp
  have h2 : Below X.heap.size X W2 := by rw [← hW2]; exact balloc (Below.refl _ _) _
  rw [hW2]
  obtain ⟨Q, hQ⟩ : ∃ Q, X.heap.size = Q := ⟨_, rfl⟩
  have hQw : w.heap.size + 1 = Q := by rw [← hQ, ← HX.out, World.size_alloc]
  rw [hQ] at hQ2 hsz h2 HWk
  rw [hQw]
  have hb1 : w.heap.size < Q := by rw [← hQ]; exact H0.out.2.1.lt
  have HA := Lib.hid (fun (Y : World) (hY : Below Q W2 Y) => (by
    have q := (hY.block _ hb1).trans ((h2.block _ hb1).trans H0.out.2.1)
    exact ⟨cell_of_row _ _ 0 _ _ _ q, cell_of_row _ _ 1 _ _ _ q⟩ : Y.cell? ⟨w.heap.size, 0, none⟩ = some (.int .i64 a) ∧ Y.cell? ⟨w.heap.size, 1, none⟩ = some (.int .i64 b)))
  have H2 := Lib.hid (And.intro hQ2 (And.intro hsz (And.intro h2 (And.intro hQ hb1))))
  clear hW2 hQ2 hsz h2 hQ hb1 HX hQw
  go_wp2_with fail
  go_loopw [4] (fun t wr => ∃ k : Nat, k ≤ m0 ∧ t = .int .i64 k ∧ ∃ vc, Blk wr Q 27 #[.int .u64 0, vc, .slice none 0 0] ∧ OwC wr (Q + 1) vc (csK k) ∧ Below Q W2 wr) (fun t _ => m0 - (intOf t).toNat)
  case atStart => exact ⟨0, Nat.zero_le _, rfl, _, H2.out.1, ⟨World.ownsRow_nil _ _ _ _, fun c hc => by simp [csK] at hc⟩, Below.refl _ _⟩
  case round =>
    obtain ⟨k, hk, rfl, vc, hQr, hOw, hBw⟩ := hrel
    obtain ⟨k0, k1⟩ := HA.out wr hBw
    by_cases hlt : k < m0
    · have g0 : (k : Int) < (m0 : Int) := by omega
      have g2 : IntKind.i64.wrap ((k : Int) + 1) = ((k + 1 : Nat) : Int) := IntWalk.i64_in _ (by have := H0.out.2.2.1; omega)
      have g3 : IntKind.u8.wrap (k : Int) = (k : Int) := IntWalk.u8_in _ (by have := H0.out.2.2.1; omega)
      have HB := Lib.hid (And.intro hQr (And.intro hOw hBw))
      clear hQr hOw hBw
      go_upto_region 7 with fail
      have HN := Lib.hid (show k < 256 ∧ Ad (ofL k) from ⟨by have := H0.out.2.2.1; omega, ofL_ad (by have := H0.out.2.2.1; omega)⟩)
      have hbld := fun X => build_clear0 HN.out.2 X
      have HQW := Lib.hid (show Q ≤ wr.heap.size from Nat.le_trans (by have := H2.out.2.1; omega) HB.out.2.2.size)
      have HZ := Lib.hid (fun (z : World) (hz : Below wr.heap.size wr z) => (⟨HB.out.1.keep hz, ⟨HB.out.2.1.1.kept (grown_new hz) (by cases vc.ownBlock <;> simp), HB.out.2.1.2⟩, ⟨Nat.le_trans (by have := HB.out.2.2.size; have := H2.out.2.1; omega) hz.size, by rw [csK_len]; have := HN.out.1; omega⟩, cell_of_row _ _ 1 _ _ _ (HB.out.1.keep hz)⟩ : Blk z Q 27 #[.int .u64 0, vc, .slice none 0 0] ∧ OwC z (Q + 1) vc (csK k) ∧ (Q + 1 ≤ z.heap.size ∧ (csK k).length ≤ 100000) ∧ z.cell? ⟨Q, 1, none⟩ = some vc))
      have c0 : wr.cell? ⟨Q, 1, none⟩ = some vc := cell_of_row _ _ 1 _ _ _ HB.out.1
      refine wp_region_held_drew (S := fun _ => True) (by as_aux_lemma => kernel_rfl) trivial (fun hHeld => ?_)
      simp only [List.size_toArray, List.length_cons, List.length_nil, Nat.reduceAdd, Array.replicate_succ, Array.replicate_zero, List.push_toArray, List.nil_append, List.cons_append]
      refine wpAnyH_take (i := 0) (oi := { dst := some 35, op := Op.fieldAddr 27 (Operand.tmp 3) 1, type := 0, pos := "law.go:117", after := #[], guard := none }) (v := ?vq0) rfl (by as_aux_lemma => kernel_rfl) (by as_aux_lemma => kernel_rfl) (by as_aux_lemma => kernel_rfl) (fun _ _ _ h => h) (Or.inl ⟨by rfl, ?yq0⟩) (by assumption) ?rq0
      case yq0 => (intro w hSw; (try dsimp only at hSw); go_simp <;> with_reducible rfl)
      simp only [Act.put, List.setIfInBounds_toArray, List.set_cons_zero, List.set_cons_succ]
      refine wpAnyH_take (i := 2) (oi := { dst := some 37, op := Op.move (Operand.tmp 4), type := 3, pos := "law.go:117", after := #[], guard := none }) (v := ?vq1) rfl (by as_aux_lemma => kernel_rfl) (by as_aux_lemma => kernel_rfl) (by as_aux_lemma => kernel_rfl) (fun _ _ _ h => h) (Or.inl ⟨by rfl, ?yq1⟩) (by assumption) ?rq1
      case yq1 => (intro w hSw; (try dsimp only at hSw); go_simp <;> with_reducible rfl)
      simp only [Act.put, List.setIfInBounds_toArray, List.set_cons_zero, List.set_cons_succ]
      refine wpAnyH_take (i := 3) (oi := { dst := some 38, op := Op.convert 3 5 (Operand.tmp 37), type := 5, pos := "law.go:117", after := #[{ on := 2, ground := Ground.data }], guard := none }) (v := ?vq2) rfl (by as_aux_lemma => kernel_rfl) (by as_aux_lemma => kernel_rfl) (by as_aux_lemma => kernel_rfl) (fun _ _ _ h => h) (Or.inl ⟨by rfl, ?yq2⟩) (by assumption) ?rq2
      case yq2 => (intro w hSw; (try dsimp only at hSw); go_simp <;> with_reducible rfl)
      simp only [Act.put, List.setIfInBounds_toArray, List.set_cons_zero, List.set_cons_succ]
      refine wpAnyH_ready (rs := [1, 4]) (by as_aux_lemma => kernel_rfl) (by simp) ?_
      refine AllReadyH.cons (o := { dst := some 36, op := Op.load 24 (Operand.tmp 35), type := 24, pos := "law.go:117", after := #[{ on := 0, ground := Ground.data }], guard := none }) rfl (fun K hK => ?_) ?_
      · rw [if_pos (by rfl)]
        go_simp
        refine hK.out _ _ (by (try dsimp only); (try trivial)) (fun hHeld => ?_)
        clear hK K
        simp only [List.setIfInBounds_toArray, List.set_cons_zero, List.set_cons_succ]
        refine wpAnyH_ready (rs := [4]) (by as_aux_lemma => kernel_rfl) (by simp) ?_
        refine AllReadyH.cons (o := { dst := some 39, op := Op.call { callee := Callee.value (Operand.func 37), args := #[Operand.tmp 38], argTypes := #[5] }, type := 29, pos := "law.go:117", after := #[{ on := 3, ground := Ground.data }], guard := none }) rfl (fun K hK => ?_) (by exact AllReadyH.nil)
        rw [if_pos (by rfl)]
        go_simp
        (go_at_call 37; refine (pof_any k HN.out.1 _).mono ?_; rintro e z ⟨rfl, hz⟩)
        replace hz : Below wr.heap.size wr z := (show Below wr.heap.size wr wr.drew from ⟨rfl, rfl, rfl, Nat.le_refl _, fun _ _ => rfl⟩).trans hz
        obtain ⟨hQz, hOz, hnz, cz⟩ := HZ.out z hz
        have hbs := slice_clear HN.out.2 0 z
        obtain ⟨gn, cn, w5, hap, hQ5, hO5, hB5, hgn, hgr⟩ := app_clear Q (Q + 1) _ _ (ofL k, 0) ⟨HN.out.2, (by show (0 : Nat) < _; decide)⟩ vc (csK k) z hQz (by decide) hOz hnz
        obtain ⟨NL, hNL⟩ : ∃ NL, (csK k).length + 1 = NL := ⟨_, rfl⟩
        rw [hNL] at hap hO5
        have c5 : w5.cell? ⟨Q, 1, none⟩ = some vc := cell_of_row _ _ 1 _ _ _ hQ5
        have f5 : w5.frozen? ⟨Q, 1, none⟩ = false := frozen_of_row _ _ 1 _ _ hQ5
        have cza : (z.alloc (.cells (clC (ofL k, 0)) 72)).cell? ⟨Q, 1, none⟩ = some vc := cell_of_row _ _ 1 _ _ _ (hQz.alloc _)
        have H5 := Lib.hid (And.intro hQ5 (And.intro hO5 (And.intro hB5 (And.intro hgn (And.intro hgr hz)))))
        clear hQz hOz hnz hQ5 hO5 hB5 hgn hgr hNL hz
        refine hK.out _ _ (by (try dsimp only); (try trivial)) (fun hHeld => ?_)
        clear hK K
        simp only [List.setIfInBounds_toArray, List.set_cons_zero, List.set_cons_succ]
        refine wpAnyH_take (i := 5) (oi := { dst := some 40, op := Op.build 72 #[(0, Operand.tmp 39)], type := 72, pos := "law.go:117", after := #[{ on := 4, ground := Ground.data }], guard := none }) (v := .agg (clC (ofL k, 0))) rfl (by as_aux_lemma => kernel_rfl) (by as_aux_lemma => kernel_rfl) (by as_aux_lemma => kernel_rfl) (fun _ _ _ h => h) (yieldsIf_build (by rfl) 72 _ rfl #[(0, .agg (adC (ofL k)))] (by simp only [List.map_toArray, List.map_cons, List.map_nil]; rfl) _ hbld) (by assumption) ?_
        simp only [Act.put, List.setIfInBounds_toArray, List.set_cons_zero, List.set_cons_succ]
        refine wpAnyH_ready (rs := [6]) (by as_aux_lemma => kernel_rfl) (by simp) ?_
        refine AllReadyH.cons (o := { dst := some 41, op := Op.buildSlice 24 1 #[(0, Operand.tmp 40)], type := 24, pos := "law.go:117", after := #[{ on := 5, ground := Ground.data }], guard := none }) rfl (fun K hK => ?_) (by exact AllReadyH.nil)
        rw [if_pos (by rfl)]
        refine wp_bslice_run 24 1 _ rfl #[(0, .agg (clC (ofL k, 0)))] (by simp only [List.map_toArray, List.map_cons, List.map_nil]; rfl) hbs ?_
        refine hK.out _ _ (by (try dsimp only); (try trivial)) (fun hHeld => ?_)
        clear hK K
        simp only [List.setIfInBounds_toArray, List.set_cons_zero, List.set_cons_succ]
        refine wpAnyH_ready (rs := [7]) (by as_aux_lemma => kernel_rfl) (by simp) ?_
        refine AllReadyH.cons (o := { dst := some 42, op := Op.call { callee := Callee.builtin Builtin.append, args := #[Operand.tmp 36, Operand.tmp 41], argTypes := #[24, 24] }, type := 24, pos := "law.go:117", after := #[{ on := 1, ground := Ground.data }, { on := 6, ground := Ground.data }, { on := 4, ground := Ground.chain }], guard := none }) rfl (fun K hK => ?_) (by exact AllReadyH.nil)
        rw [if_pos (by rfl)]
        refine wp_app_run (.tmp 36) (.tmp 41) 24 rfl rfl rfl hap ?_
        refine hK.out _ _ (by (try dsimp only); (try trivial)) (fun hHeld => ?_)
        clear hK K
        simp only [List.setIfInBounds_toArray, List.set_cons_zero, List.set_cons_succ]
        refine wpAnyH_take (i := 8) (oi := { dst := some 43, op := Op.fieldAddr 27 (Operand.tmp 3) 1, type := 0, pos := "law.go:117", after := #[{ on := 0, ground := Ground.phase }, { on := 1, ground := Ground.phase }, { on := 2, ground := Ground.phase }, { on := 3, ground := Ground.phase }, { on := 4, ground := Ground.phase }, { on := 5, ground := Ground.phase }, { on := 6, ground := Ground.phase }, { on := 7, ground := Ground.phase }], guard := none }) (v := ?vq8) rfl (by as_aux_lemma => kernel_rfl) (by as_aux_lemma => kernel_rfl) (by as_aux_lemma => kernel_rfl) (fun _ _ _ h => h) (Or.inl ⟨by rfl, ?yq8⟩) (by assumption) ?rq8
        case yq8 => (intro w hSw; (try dsimp only at hSw); go_simp <;> with_reducible rfl)
        simp only [Act.put, List.setIfInBounds_toArray, List.set_cons_zero, List.set_cons_succ]
        refine wpAnyH_ready (rs := [9]) (by as_aux_lemma => kernel_rfl) (by simp) ?_
        refine AllReadyH.cons (o := { dst := none, op := Op.store 24 (Operand.tmp 43) (Operand.tmp 42), type := 0, pos := "law.go:117", after := #[{ on := 8, ground := Ground.data }, { on := 7, ground := Ground.data }, { on := 7, ground := Ground.chain }, { on := 0, ground := Ground.phase }, { on := 1, ground := Ground.phase }, { on := 2, ground := Ground.phase }, { on := 3, ground := Ground.phase }, { on := 4, ground := Ground.phase }, { on := 5, ground := Ground.phase }, { on := 6, ground := Ground.phase }, { on := 7, ground := Ground.phase }], guard := none }) rfl (fun K hK => ?_) (by exact AllReadyH.nil)
        rw [if_pos (by rfl)]
        go_simp
        refine hK.out _ _ (by (try dsimp only); (try trivial)) (fun hHeld => ?_)
        clear hK K
        simp only [List.setIfInBounds_toArray, List.set_cons_zero, List.set_cons_succ]
        refine wpAnyH_done (by as_aux_lemma => kernel_rfl) ?_ _
        clear hHeld c5 f5 cza cz hap hbs
        go_wp2_with fail
        obtain ⟨hQ5, hO5, hB5, hgn, hgr, hz⟩ := H5.out
        exact ⟨⟨k + 1, by omega, congrArg (Value.int .i64) (by omega), _, heap_setCell_same w5 Q 1 _ _ _ hQ5, ⟨by rw [← csK_step]; exact hO5.1.kept (grown_set' (grown_refl w5 Q) 1 _) (.inr (fun e => hgn (Option.some.inj e))), by rw [← csK_step]; exact hO5.2⟩, (HB.out.2.2.trans ((show Below wr.heap.size wr z from hz).mono HQW.out |>.trans (hB5.mono (Nat.le_succ _)))).setCell (p := ⟨Q, 1, none⟩) (Nat.le_refl _) _⟩, by simp [intOf]; omega⟩
      refine AllReadyH.cons (o := { dst := some 39, op := Op.call { callee := Callee.value (Operand.func 37), args := #[Operand.tmp 38], argTypes := #[5] }, type := 29, pos := "law.go:117", after := #[{ on := 3, ground := Ground.data }], guard := none }) rfl (fun K hK => ?_) (by exact AllReadyH.nil)
      rw [if_pos (by rfl)]
      go_simp
      (go_at_call 37; refine (pof_any k HN.out.1 _).mono ?_; rintro e z ⟨rfl, hz⟩)
      replace hz : Below wr.heap.size wr z := (show Below wr.heap.size wr wr.drew from ⟨rfl, rfl, rfl, Nat.le_refl _, fun _ _ => rfl⟩).trans hz
      obtain ⟨hQz, hOz, hnz, cz⟩ := HZ.out z hz
      have hbs := slice_clear HN.out.2 0 z
      obtain ⟨gn, cn, w5, hap, hQ5, hO5, hB5, hgn, hgr⟩ := app_clear Q (Q + 1) _ _ (ofL k, 0) ⟨HN.out.2, (by show (0 : Nat) < _; decide)⟩ vc (csK k) z hQz (by decide) hOz hnz
      obtain ⟨NL, hNL⟩ : ∃ NL, (csK k).length + 1 = NL := ⟨_, rfl⟩
      rw [hNL] at hap hO5
      have c5 : w5.cell? ⟨Q, 1, none⟩ = some vc := cell_of_row _ _ 1 _ _ _ hQ5
      have f5 : w5.frozen? ⟨Q, 1, none⟩ = false := frozen_of_row _ _ 1 _ _ hQ5
      have cza : (z.alloc (.cells (clC (ofL k, 0)) 72)).cell? ⟨Q, 1, none⟩ = some vc := cell_of_row _ _ 1 _ _ _ (hQz.alloc _)
      have H5 := Lib.hid (And.intro hQ5 (And.intro hO5 (And.intro hB5 (And.intro hgn (And.intro hgr hz)))))
      clear hQz hOz hnz hQ5 hO5 hB5 hgn hgr hNL hz
      refine hK.out _ _ (by (try dsimp only); (try trivial)) (fun hHeld => ?_)
      clear hK K
      simp only [List.setIfInBounds_toArray, List.set_cons_zero, List.set_cons_succ]
      refine wpAnyH_take (i := 5) (oi := { dst := some 40, op := Op.build 72 #[(0, Operand.tmp 39)], type := 72, pos := "law.go:117", after := #[{ on := 4, ground := Ground.data }], guard := none }) (v := .agg (clC (ofL k, 0))) rfl (by as_aux_lemma => kernel_rfl) (by as_aux_lemma => kernel_rfl) (by as_aux_lemma => kernel_rfl) (fun _ _ _ h => h) (yieldsIf_build (by rfl) 72 _ rfl #[(0, .agg (adC (ofL k)))] (by simp only [List.map_toArray, List.map_cons, List.map_nil]; rfl) _ hbld) (by assumption) ?_
      simp only [Act.put, List.setIfInBounds_toArray, List.set_cons_zero, List.set_cons_succ]
      refine wpAnyH_ready (rs := [1, 6]) (by as_aux_lemma => kernel_rfl) (by simp) ?_
      refine AllReadyH.cons (o := { dst := some 36, op := Op.load 24 (Operand.tmp 35), type := 24, pos := "law.go:117", after := #[{ on := 0, ground := Ground.data }], guard := none }) rfl (fun K hK => ?_) ?_
      · rw [if_pos (by rfl)]
        go_simp
        refine hK.out _ _ (by (try dsimp only); (try trivial)) (fun hHeld => ?_)
        clear hK K
        simp only [List.setIfInBounds_toArray, List.set_cons_zero, List.set_cons_succ]
        refine wpAnyH_ready (rs := [6]) (by as_aux_lemma => kernel_rfl) (by simp) ?_
        refine AllReadyH.cons (o := { dst := some 41, op := Op.buildSlice 24 1 #[(0, Operand.tmp 40)], type := 24, pos := "law.go:117", after := #[{ on := 5, ground := Ground.data }], guard := none }) rfl (fun K hK => ?_) (by exact AllReadyH.nil)
        rw [if_pos (by rfl)]
        refine wp_bslice_run 24 1 _ rfl #[(0, .agg (clC (ofL k, 0)))] (by simp only [List.map_toArray, List.map_cons, List.map_nil]; rfl) hbs ?_
        refine hK.out _ _ (by (try dsimp only); (try trivial)) (fun hHeld => ?_)
        clear hK K
        simp only [List.setIfInBounds_toArray, List.set_cons_zero, List.set_cons_succ]
        refine wpAnyH_ready (rs := [7]) (by as_aux_lemma => kernel_rfl) (by simp) ?_
        refine AllReadyH.cons (o := { dst := some 42, op := Op.call { callee := Callee.builtin Builtin.append, args := #[Operand.tmp 36, Operand.tmp 41], argTypes := #[24, 24] }, type := 24, pos := "law.go:117", after := #[{ on := 1, ground := Ground.data }, { on := 6, ground := Ground.data }, { on := 4, ground := Ground.chain }], guard := none }) rfl (fun K hK => ?_) (by exact AllReadyH.nil)
        rw [if_pos (by rfl)]
        refine wp_app_run (.tmp 36) (.tmp 41) 24 rfl rfl rfl hap ?_
        refine hK.out _ _ (by (try dsimp only); (try trivial)) (fun hHeld => ?_)
        clear hK K
        simp only [List.setIfInBounds_toArray, List.set_cons_zero, List.set_cons_succ]
        refine wpAnyH_take (i := 8) (oi := { dst := some 43, op := Op.fieldAddr 27 (Operand.tmp 3) 1, type := 0, pos := "law.go:117", after := #[{ on := 0, ground := Ground.phase }, { on := 1, ground := Ground.phase }, { on := 2, ground := Ground.phase }, { on := 3, ground := Ground.phase }, { on := 4, ground := Ground.phase }, { on := 5, ground := Ground.phase }, { on := 6, ground := Ground.phase }, { on := 7, ground := Ground.phase }], guard := none }) (v := ?vq15) rfl (by as_aux_lemma => kernel_rfl) (by as_aux_lemma => kernel_rfl) (by as_aux_lemma => kernel_rfl) (fun _ _ _ h => h) (Or.inl ⟨by rfl, ?yq15⟩) (by assumption) ?rq15
        case yq15 => (intro w hSw; (try dsimp only at hSw); go_simp <;> with_reducible rfl)
        simp only [Act.put, List.setIfInBounds_toArray, List.set_cons_zero, List.set_cons_succ]
        refine wpAnyH_ready (rs := [9]) (by as_aux_lemma => kernel_rfl) (by simp) ?_
        refine AllReadyH.cons (o := { dst := none, op := Op.store 24 (Operand.tmp 43) (Operand.tmp 42), type := 0, pos := "law.go:117", after := #[{ on := 8, ground := Ground.data }, { on := 7, ground := Ground.data }, { on := 7, ground := Ground.chain }, { on := 0, ground := Ground.phase }, { on := 1, ground := Ground.phase }, { on := 2, ground := Ground.phase }, { on := 3, ground := Ground.phase }, { on := 4, ground := Ground.phase }, { on := 5, ground := Ground.phase }, { on := 6, ground := Ground.phase }, { on := 7, ground := Ground.phase }], guard := none }) rfl (fun K hK => ?_) (by exact AllReadyH.nil)
        rw [if_pos (by rfl)]
        go_simp
        refine hK.out _ _ (by (try dsimp only); (try trivial)) (fun hHeld => ?_)
        clear hK K
        simp only [List.setIfInBounds_toArray, List.set_cons_zero, List.set_cons_succ]
        refine wpAnyH_done (by as_aux_lemma => kernel_rfl) ?_ _
        clear hHeld c5 f5 cza cz hap hbs
        go_wp2_with fail
        obtain ⟨hQ5, hO5, hB5, hgn, hgr, hz⟩ := H5.out
        exact ⟨⟨k + 1, by omega, congrArg (Value.int .i64) (by omega), _, heap_setCell_same w5 Q 1 _ _ _ hQ5, ⟨by rw [← csK_step]; exact hO5.1.kept (grown_set' (grown_refl w5 Q) 1 _) (.inr (fun e => hgn (Option.some.inj e))), by rw [← csK_step]; exact hO5.2⟩, (HB.out.2.2.trans ((show Below wr.heap.size wr z from hz).mono HQW.out |>.trans (hB5.mono (Nat.le_succ _)))).setCell (p := ⟨Q, 1, none⟩) (Nat.le_refl _) _⟩, by simp [intOf]; omega⟩
      refine AllReadyH.cons (o := { dst := some 41, op := Op.buildSlice 24 1 #[(0, Operand.tmp 40)], type := 24, pos := "law.go:117", after := #[{ on := 5, ground := Ground.data }], guard := none }) rfl (fun K hK => ?_) (by exact AllReadyH.nil)
      rw [if_pos (by rfl)]
      refine wp_bslice_run 24 1 _ rfl #[(0, .agg (clC (ofL k, 0)))] (by simp only [List.map_toArray, List.map_cons, List.map_nil]; rfl) hbs ?_
      refine hK.out _ _ (by (try dsimp only); (try trivial)) (fun hHeld => ?_)
      clear hK K
      simp only [List.setIfInBounds_toArray, List.set_cons_zero, List.set_cons_succ]
      refine wpAnyH_ready (rs := [1]) (by as_aux_lemma => kernel_rfl) (by simp) ?_
      refine AllReadyH.cons (o := { dst := some 36, op := Op.load 24 (Operand.tmp 35), type := 24, pos := "law.go:117", after := #[{ on := 0, ground := Ground.data }], guard := none }) rfl (fun K hK => ?_) (by exact AllReadyH.nil)
      rw [if_pos (by rfl)]
      go_simp
      refine hK.out _ _ (by (try dsimp only); (try trivial)) (fun hHeld => ?_)
      clear hK K
      simp only [List.setIfInBounds_toArray, List.set_cons_zero, List.set_cons_succ]
      refine wpAnyH_ready (rs := [7]) (by as_aux_lemma => kernel_rfl) (by simp) ?_
      refine AllReadyH.cons (o := { dst := some 42, op := Op.call { callee := Callee.builtin Builtin.append, args := #[Operand.tmp 36, Operand.tmp 41], argTypes := #[24, 24] }, type := 24, pos := "law.go:117", after := #[{ on := 1, ground := Ground.data }, { on := 6, ground := Ground.data }, { on := 4, ground := Ground.chain }], guard := none }) rfl (fun K hK => ?_) (by exact AllReadyH.nil)
      rw [if_pos (by rfl)]
      refine wp_app_run (.tmp 36) (.tmp 41) 24 rfl rfl rfl hap ?_
      refine hK.out _ _ (by (try dsimp only); (try trivial)) (fun hHeld => ?_)
      clear hK K
      simp only [List.setIfInBounds_toArray, List.set_cons_zero, List.set_cons_succ]
      refine wpAnyH_take (i := 8) (oi := { dst := some 43, op := Op.fieldAddr 27 (Operand.tmp 3) 1, type := 0, pos := "law.go:117", after := #[{ on := 0, ground := Ground.phase }, { on := 1, ground := Ground.phase }, { on := 2, ground := Ground.phase }, { on := 3, ground := Ground.phase }, { on := 4, ground := Ground.phase }, { on := 5, ground := Ground.phase }, { on := 6, ground := Ground.phase }, { on := 7, ground := Ground.phase }], guard := none }) (v := ?vq20) rfl (by as_aux_lemma => kernel_rfl) (by as_aux_lemma => kernel_rfl) (by as_aux_lemma => kernel_rfl) (fun _ _ _ h => h) (Or.inl ⟨by rfl, ?yq20⟩) (by assumption) ?rq20
      case yq20 => (intro w hSw; (try dsimp only at hSw); go_simp <;> with_reducible rfl)
      simp only [Act.put, List.setIfInBounds_toArray, List.set_cons_zero, List.set_cons_succ]
      refine wpAnyH_ready (rs := [9]) (by as_aux_lemma => kernel_rfl) (by simp) ?_
      refine AllReadyH.cons (o := { dst := none, op := Op.store 24 (Operand.tmp 43) (Operand.tmp 42), type := 0, pos := "law.go:117", after := #[{ on := 8, ground := Ground.data }, { on := 7, ground := Ground.data }, { on := 7, ground := Ground.chain }, { on := 0, ground := Ground.phase }, { on := 1, ground := Ground.phase }, { on := 2, ground := Ground.phase }, { on := 3, ground := Ground.phase }, { on := 4, ground := Ground.phase }, { on := 5, ground := Ground.phase }, { on := 6, ground := Ground.phase }, { on := 7, ground := Ground.phase }], guard := none }) rfl (fun K hK => ?_) (by exact AllReadyH.nil)
      rw [if_pos (by rfl)]
      go_simp
      refine hK.out _ _ (by (try dsimp only); (try trivial)) (fun hHeld => ?_)
      clear hK K
      simp only [List.setIfInBounds_toArray, List.set_cons_zero, List.set_cons_succ]
      refine wpAnyH_done (by as_aux_lemma => kernel_rfl) ?_ _
      clear hHeld c5 f5 cza cz hap hbs
      go_wp2_with fail
      obtain ⟨hQ5, hO5, hB5, hgn, hgr, hz⟩ := H5.out
      exact ⟨⟨k + 1, by omega, congrArg (Value.int .i64) (by omega), _, heap_setCell_same w5 Q 1 _ _ _ hQ5, ⟨by rw [← csK_step]; exact hO5.1.kept (grown_set' (grown_refl w5 Q) 1 _) (.inr (fun e => hgn (Option.some.inj e))), by rw [← csK_step]; exact hO5.2⟩, (HB.out.2.2.trans ((show Below wr.heap.size wr z from hz).mono HQW.out |>.trans (hB5.mono (Nat.le_succ _)))).setCell (p := ⟨Q, 1, none⟩) (Nat.le_refl _) _⟩, by simp [intOf]; omega⟩
    · obtain rfl : m0 = k := by omega
      obtain ⟨R0, hR0⟩ : ∃ R, wr.heap.size = R := ⟨_, rfl⟩
      have hv : ∀ g, vc.ownBlock = some g → Q + 1 ≤ g ∧ g < R0 := fun g e => by rw [← hR0]; exact hOw.1.lt g e
      have hQR : Q + 1 ≤ R0 := by have := hBw.size; have := H2.out.2.1; omega
      have HB1 := Lib.hid (And.intro hQr (And.intro hOw (And.intro hBw hR0)))
      have HV := Lib.hid (And.intro hv hQR)
      clear hQr hOw hBw hv hQR hR0
      go_wp2_with fail
      clear k0 k1 a5
      go_loopw [5] (fun t wr => ∃ j : Nat, j ≤ m1 ∧ t = .int .i64 j ∧ ∃ vr, Blk wr Q 27 #[.int .u64 0, vc, vr] ∧ OwC wr (Q + 1) vc (csK m0) ∧ OwR wr R0 vr (rsK j) ∧ Below Q W2 wr ∧ R0 ≤ wr.heap.size) (fun t _ => m1 - (intOf t).toNat)
      case atStart => exact ⟨0, Nat.zero_le _, rfl, _, HB1.out.1, HB1.out.2.1, ⟨World.ownsRow_nil _ _ _ _, fun c hc => by simp [rsK] at hc⟩, HB1.out.2.2.1, by rw [HB1.out.2.2.2]; exact Nat.le_refl _⟩
      clear HB1
      case round =>
        obtain ⟨j, hk, rfl, vr, hQr, hOw, hOr, hBw, hRw⟩ := hrel
        obtain ⟨k0, k1⟩ := HA.out wr hBw
        by_cases hlt : j < m1
        · have g0 : (j : Int) < (m1 : Int) := by omega
          have g2 : IntKind.i64.wrap ((j : Int) + 1) = ((j + 1 : Nat) : Int) := IntWalk.i64_in _ (by have := H0.out.2.2.2.1; omega)
          have g3 : IntKind.u8.wrap (j : Int) = (j : Int) := IntWalk.u8_in _ (by have := H0.out.2.2.2.1; omega)
          have HB := Lib.hid (And.intro hQr (And.intro hOw (And.intro hOr hBw)))
          have HRW := Lib.hid hRw
          clear hQr hOw hOr hBw hRw
          go_upto_region 11 with fail
          have HN := Lib.hid (show j < 256 ∧ Ad (ofL j) from ⟨by have := H0.out.2.2.2.1; omega, ofL_ad (by have := H0.out.2.2.2.1; omega)⟩)
          have hbld := fun X => build_release0 HN.out.2 X
          have HQW := Lib.hid (show Q ≤ wr.heap.size from Nat.le_trans (by have := HV.out.2; omega) HRW.out)
          have HZ := Lib.hid (fun (z : World) (hz : Below wr.heap.size wr z) => (⟨HB.out.1.keep hz, ⟨HB.out.2.2.1.1.kept (grown_new hz) (by cases vr.ownBlock <;> simp), HB.out.2.2.1.2⟩, ⟨Nat.le_trans HRW.out hz.size, by rw [rsK_len]; have := HN.out.1; omega⟩, cell_of_row _ _ 2 _ _ _ (HB.out.1.keep hz)⟩ : Blk z Q 27 #[.int .u64 0, vc, vr] ∧ OwR z R0 vr (rsK j) ∧ (R0 ≤ z.heap.size ∧ (rsK j).length ≤ 100000) ∧ z.cell? ⟨Q, 2, none⟩ = some vr))
          have c0 : wr.cell? ⟨Q, 2, none⟩ = some vr := cell_of_row _ _ 2 _ _ _ HB.out.1
          have HVQ := Lib.hid (show vc.ownBlock ≠ some Q from fun e => by have := (HV.out.1 Q e).1; omega)
          have HQR := Lib.hid (show Q ≤ R0 from by have := HV.out.2; omega)
          have HVC := Lib.hid (fun (z w5 : World) (hz : Below wr.heap.size wr z) (hgr : z.grownBy w5 vr.ownBlock) => (show OwC w5 (Q + 1) vc (csK m0) from ⟨(HB.out.2.1.1.kept (grown_new hz) (by cases vc.ownBlock <;> simp)).kept hgr (by
            cases hv : vc.ownBlock with
            | none => exact .inl rfl
            | some g => exact .inr (fun e => by
                have h1 := (HV.out.1 g hv).2
                have h2 := (HB.out.2.2.1.1.lt g e.symm).1
                omega)), HB.out.2.1.2⟩))
          refine wp_region_held_drew (S := fun _ => True) (by as_aux_lemma => kernel_rfl) trivial (fun hHeld => ?_)
          simp only [List.size_toArray, List.length_cons, List.length_nil, Nat.reduceAdd, Array.replicate_succ, Array.replicate_zero, List.push_toArray, List.nil_append, List.cons_append]
          refine wpAnyH_take (i := 0) (oi := { dst := some 51, op := Op.fieldAddr 27 (Operand.tmp 3) 2, type := 0, pos := "law.go:120", after := #[], guard := none }) (v := ?vq0R) rfl (by as_aux_lemma => kernel_rfl) (by as_aux_lemma => kernel_rfl) (by as_aux_lemma => kernel_rfl) (fun _ _ _ h => h) (Or.inl ⟨by rfl, ?yq0R⟩) (by assumption) ?rq0R
          case yq0R => (intro w hSw; (try dsimp only at hSw); go_simp <;> with_reducible rfl)
          simp only [Act.put, List.setIfInBounds_toArray, List.set_cons_zero, List.set_cons_succ]
          refine wpAnyH_take (i := 2) (oi := { dst := some 53, op := Op.move (Operand.tmp 5), type := 3, pos := "law.go:120", after := #[], guard := none }) (v := ?vq1R) rfl (by as_aux_lemma => kernel_rfl) (by as_aux_lemma => kernel_rfl) (by as_aux_lemma => kernel_rfl) (fun _ _ _ h => h) (Or.inl ⟨by rfl, ?yq1R⟩) (by assumption) ?rq1R
          case yq1R => (intro w hSw; (try dsimp only at hSw); go_simp <;> with_reducible rfl)
          simp only [Act.put, List.setIfInBounds_toArray, List.set_cons_zero, List.set_cons_succ]
          refine wpAnyH_take (i := 3) (oi := { dst := some 54, op := Op.convert 3 5 (Operand.tmp 53), type := 5, pos := "law.go:120", after := #[{ on := 2, ground := Ground.data }], guard := none }) (v := ?vq2R) rfl (by as_aux_lemma => kernel_rfl) (by as_aux_lemma => kernel_rfl) (by as_aux_lemma => kernel_rfl) (fun _ _ _ h => h) (Or.inl ⟨by rfl, ?yq2R⟩) (by assumption) ?rq2R
          case yq2R => (intro w hSw; (try dsimp only at hSw); go_simp <;> with_reducible rfl)
          simp only [Act.put, List.setIfInBounds_toArray, List.set_cons_zero, List.set_cons_succ]
          refine wpAnyH_ready (rs := [1, 4]) (by as_aux_lemma => kernel_rfl) (by simp) ?_
          refine AllReadyH.cons (o := { dst := some 52, op := Op.load 25 (Operand.tmp 51), type := 25, pos := "law.go:120", after := #[{ on := 0, ground := Ground.data }], guard := none }) rfl (fun K hK => ?_) ?_
          · rw [if_pos (by rfl)]
            go_simp
            refine hK.out _ _ (by (try dsimp only); (try trivial)) (fun hHeld => ?_)
            clear hK K
            simp only [List.setIfInBounds_toArray, List.set_cons_zero, List.set_cons_succ]
            refine wpAnyH_ready (rs := [4]) (by as_aux_lemma => kernel_rfl) (by simp) ?_
            refine AllReadyH.cons (o := { dst := some 55, op := Op.call { callee := Callee.value (Operand.func 37), args := #[Operand.tmp 54], argTypes := #[5] }, type := 29, pos := "law.go:120", after := #[{ on := 3, ground := Ground.data }], guard := none }) rfl (fun K hK => ?_) (by exact AllReadyH.nil)
            rw [if_pos (by rfl)]
            go_simp
            (go_at_call 37; refine (pof_any j HN.out.1 _).mono ?_; rintro e z ⟨rfl, hz⟩)
            replace hz : Below wr.heap.size wr z := (show Below wr.heap.size wr wr.drew from ⟨rfl, rfl, rfl, Nat.le_refl _, fun _ _ => rfl⟩).trans hz
            obtain ⟨hQz, hOz, hnz, cz⟩ := HZ.out z hz
            have hbs := slice_release HN.out.2 0 0 z
            obtain ⟨gn, cn, w5, hap, hQ5, hO5, hB5, hgn, hgr⟩ := app_release Q R0 _ _ (ofL j, 0, 0) ⟨HN.out.2, (by show (0 : Nat) < _; decide), (by show (0 : Nat) < _; decide)⟩ vr (rsK j) z hQz (by decide) hOz hnz
            obtain ⟨NL, hNL⟩ : ∃ NL, (rsK j).length + 1 = NL := ⟨_, rfl⟩
            rw [hNL] at hap hO5
            have c5 : w5.cell? ⟨Q, 2, none⟩ = some vr := cell_of_row _ _ 2 _ _ _ hQ5
            have f5 : w5.frozen? ⟨Q, 2, none⟩ = false := frozen_of_row _ _ 2 _ _ hQ5
            have cza : (z.alloc (.cells (rlC (ofL j, 0, 0)) 74)).cell? ⟨Q, 2, none⟩ = some vr := cell_of_row _ _ 2 _ _ _ (hQz.alloc _)
            have H5 := Lib.hid (And.intro hQ5 (And.intro hO5 (And.intro hB5 (And.intro hgn (And.intro hgr hz)))))
            clear hQz hOz hnz hQ5 hO5 hB5 hgn hgr hNL hz
            refine hK.out _ _ (by (try dsimp only); (try trivial)) (fun hHeld => ?_)
            clear hK K
            simp only [List.setIfInBounds_toArray, List.set_cons_zero, List.set_cons_succ]
            refine wpAnyH_take (i := 5) (oi := { dst := some 56, op := Op.build 74 #[(0, Operand.tmp 55)], type := 74, pos := "law.go:120", after := #[{ on := 4, ground := Ground.data }], guard := none }) (v := .agg (rlC (ofL j, 0, 0))) rfl (by as_aux_lemma => kernel_rfl) (by as_aux_lemma => kernel_rfl) (by as_aux_lemma => kernel_rfl) (fun _ _ _ h => h) (yieldsIf_build (by rfl) 74 _ rfl #[(0, .agg (adC (ofL j)))] (by simp only [List.map_toArray, List.map_cons, List.map_nil]; rfl) _ hbld) (by assumption) ?_
            simp only [Act.put, List.setIfInBounds_toArray, List.set_cons_zero, List.set_cons_succ]
            refine wpAnyH_ready (rs := [6]) (by as_aux_lemma => kernel_rfl) (by simp) ?_
            refine AllReadyH.cons (o := { dst := some 57, op := Op.buildSlice 25 1 #[(0, Operand.tmp 56)], type := 25, pos := "law.go:120", after := #[{ on := 5, ground := Ground.data }], guard := none }) rfl (fun K hK => ?_) (by exact AllReadyH.nil)
            rw [if_pos (by rfl)]
            refine wp_bslice_run 25 1 _ rfl #[(0, .agg (rlC (ofL j, 0, 0)))] (by simp only [List.map_toArray, List.map_cons, List.map_nil]; rfl) hbs ?_
            refine hK.out _ _ (by (try dsimp only); (try trivial)) (fun hHeld => ?_)
            clear hK K
            simp only [List.setIfInBounds_toArray, List.set_cons_zero, List.set_cons_succ]
            refine wpAnyH_ready (rs := [7]) (by as_aux_lemma => kernel_rfl) (by simp) ?_
            refine AllReadyH.cons (o := { dst := some 58, op := Op.call { callee := Callee.builtin Builtin.append, args := #[Operand.tmp 52, Operand.tmp 57], argTypes := #[25, 25] }, type := 25, pos := "law.go:120", after := #[{ on := 1, ground := Ground.data }, { on := 6, ground := Ground.data }, { on := 4, ground := Ground.chain }], guard := none }) rfl (fun K hK => ?_) (by exact AllReadyH.nil)
            rw [if_pos (by rfl)]
            refine wp_app_run (.tmp 52) (.tmp 57) 25 rfl rfl rfl hap ?_
            refine hK.out _ _ (by (try dsimp only); (try trivial)) (fun hHeld => ?_)
            clear hK K
            simp only [List.setIfInBounds_toArray, List.set_cons_zero, List.set_cons_succ]
            refine wpAnyH_take (i := 8) (oi := { dst := some 59, op := Op.fieldAddr 27 (Operand.tmp 3) 2, type := 0, pos := "law.go:120", after := #[{ on := 0, ground := Ground.phase }, { on := 1, ground := Ground.phase }, { on := 2, ground := Ground.phase }, { on := 3, ground := Ground.phase }, { on := 4, ground := Ground.phase }, { on := 5, ground := Ground.phase }, { on := 6, ground := Ground.phase }, { on := 7, ground := Ground.phase }], guard := none }) (v := ?vq8R) rfl (by as_aux_lemma => kernel_rfl) (by as_aux_lemma => kernel_rfl) (by as_aux_lemma => kernel_rfl) (fun _ _ _ h => h) (Or.inl ⟨by rfl, ?yq8R⟩) (by assumption) ?rq8R
            case yq8R => (intro w hSw; (try dsimp only at hSw); go_simp <;> with_reducible rfl)
            simp only [Act.put, List.setIfInBounds_toArray, List.set_cons_zero, List.set_cons_succ]
            refine wpAnyH_ready (rs := [9]) (by as_aux_lemma => kernel_rfl) (by simp) ?_
            refine AllReadyH.cons (o := { dst := none, op := Op.store 25 (Operand.tmp 59) (Operand.tmp 58), type := 0, pos := "law.go:120", after := #[{ on := 8, ground := Ground.data }, { on := 7, ground := Ground.data }, { on := 7, ground := Ground.chain }, { on := 0, ground := Ground.phase }, { on := 1, ground := Ground.phase }, { on := 2, ground := Ground.phase }, { on := 3, ground := Ground.phase }, { on := 4, ground := Ground.phase }, { on := 5, ground := Ground.phase }, { on := 6, ground := Ground.phase }, { on := 7, ground := Ground.phase }], guard := none }) rfl (fun K hK => ?_) (by exact AllReadyH.nil)
            rw [if_pos (by rfl)]
            go_simp
            refine hK.out _ _ (by (try dsimp only); (try trivial)) (fun hHeld => ?_)
            clear hK K
            simp only [List.setIfInBounds_toArray, List.set_cons_zero, List.set_cons_succ]
            refine wpAnyH_done (by as_aux_lemma => kernel_rfl) ?_ _
            clear hHeld c5 f5 cza cz hap hbs
            go_wp2_with fail
            obtain ⟨hQ5, hO5, hB5, hgn, hgr, hz⟩ := H5.out
            exact ⟨⟨j + 1, by omega, congrArg (Value.int .i64) (by omega), _, heap_setCell_same w5 Q 2 _ _ _ hQ5, ⟨(HVC.out z w5 hz hgr).1.kept (grown_set' (grown_refl w5 Q) 2 _) (.inr HVQ.out), HB.out.2.1.2⟩, ⟨by rw [← rsK_step]; exact hO5.1.kept (grown_set' (grown_refl w5 Q) 2 _) (.inr (fun e => hgn (Option.some.inj e))), by rw [← rsK_step]; exact hO5.2⟩, (HB.out.2.2.2.trans ((show Below wr.heap.size wr z from hz).mono HQW.out |>.trans (hB5.mono HQR.out))).setCell (p := ⟨Q, 2, none⟩) (Nat.le_refl _) _, Nat.le_trans HRW.out (Nat.le_trans hz.size (Nat.le_trans hgr.size (grown_set' (grown_refl w5 Q) 2 _).size))⟩, by simp [intOf]; omega⟩
          refine AllReadyH.cons (o := { dst := some 55, op := Op.call { callee := Callee.value (Operand.func 37), args := #[Operand.tmp 54], argTypes := #[5] }, type := 29, pos := "law.go:120", after := #[{ on := 3, ground := Ground.data }], guard := none }) rfl (fun K hK => ?_) (by exact AllReadyH.nil)
          rw [if_pos (by rfl)]
          go_simp
          (go_at_call 37; refine (pof_any j HN.out.1 _).mono ?_; rintro e z ⟨rfl, hz⟩)
          replace hz : Below wr.heap.size wr z := (show Below wr.heap.size wr wr.drew from ⟨rfl, rfl, rfl, Nat.le_refl _, fun _ _ => rfl⟩).trans hz
          obtain ⟨hQz, hOz, hnz, cz⟩ := HZ.out z hz
          have hbs := slice_release HN.out.2 0 0 z
          obtain ⟨gn, cn, w5, hap, hQ5, hO5, hB5, hgn, hgr⟩ := app_release Q R0 _ _ (ofL j, 0, 0) ⟨HN.out.2, (by show (0 : Nat) < _; decide), (by show (0 : Nat) < _; decide)⟩ vr (rsK j) z hQz (by decide) hOz hnz
          obtain ⟨NL, hNL⟩ : ∃ NL, (rsK j).length + 1 = NL := ⟨_, rfl⟩
          rw [hNL] at hap hO5
          have c5 : w5.cell? ⟨Q, 2, none⟩ = some vr := cell_of_row _ _ 2 _ _ _ hQ5
          have f5 : w5.frozen? ⟨Q, 2, none⟩ = false := frozen_of_row _ _ 2 _ _ hQ5
          have cza : (z.alloc (.cells (rlC (ofL j, 0, 0)) 74)).cell? ⟨Q, 2, none⟩ = some vr := cell_of_row _ _ 2 _ _ _ (hQz.alloc _)
          have H5 := Lib.hid (And.intro hQ5 (And.intro hO5 (And.intro hB5 (And.intro hgn (And.intro hgr hz)))))
          clear hQz hOz hnz hQ5 hO5 hB5 hgn hgr hNL hz
          refine hK.out _ _ (by (try dsimp only); (try trivial)) (fun hHeld => ?_)
          clear hK K
          simp only [List.setIfInBounds_toArray, List.set_cons_zero, List.set_cons_succ]
          refine wpAnyH_take (i := 5) (oi := { dst := some 56, op := Op.build 74 #[(0, Operand.tmp 55)], type := 74, pos := "law.go:120", after := #[{ on := 4, ground := Ground.data }], guard := none }) (v := .agg (rlC (ofL j, 0, 0))) rfl (by as_aux_lemma => kernel_rfl) (by as_aux_lemma => kernel_rfl) (by as_aux_lemma => kernel_rfl) (fun _ _ _ h => h) (yieldsIf_build (by rfl) 74 _ rfl #[(0, .agg (adC (ofL j)))] (by simp only [List.map_toArray, List.map_cons, List.map_nil]; rfl) _ hbld) (by assumption) ?_
          simp only [Act.put, List.setIfInBounds_toArray, List.set_cons_zero, List.set_cons_succ]
          refine wpAnyH_ready (rs := [1, 6]) (by as_aux_lemma => kernel_rfl) (by simp) ?_
          refine AllReadyH.cons (o := { dst := some 52, op := Op.load 25 (Operand.tmp 51), type := 25, pos := "law.go:120", after := #[{ on := 0, ground := Ground.data }], guard := none }) rfl (fun K hK => ?_) ?_
          · rw [if_pos (by rfl)]
            go_simp
            refine hK.out _ _ (by (try dsimp only); (try trivial)) (fun hHeld => ?_)
            clear hK K
            simp only [List.setIfInBounds_toArray, List.set_cons_zero, List.set_cons_succ]
            refine wpAnyH_ready (rs := [6]) (by as_aux_lemma => kernel_rfl) (by simp) ?_
            refine AllReadyH.cons (o := { dst := some 57, op := Op.buildSlice 25 1 #[(0, Operand.tmp 56)], type := 25, pos := "law.go:120", after := #[{ on := 5, ground := Ground.data }], guard := none }) rfl (fun K hK => ?_) (by exact AllReadyH.nil)
            rw [if_pos (by rfl)]
            refine wp_bslice_run 25 1 _ rfl #[(0, .agg (rlC (ofL j, 0, 0)))] (by simp only [List.map_toArray, List.map_cons, List.map_nil]; rfl) hbs ?_
            refine hK.out _ _ (by (try dsimp only); (try trivial)) (fun hHeld => ?_)
            clear hK K
            simp only [List.setIfInBounds_toArray, List.set_cons_zero, List.set_cons_succ]
            refine wpAnyH_ready (rs := [7]) (by as_aux_lemma => kernel_rfl) (by simp) ?_
            refine AllReadyH.cons (o := { dst := some 58, op := Op.call { callee := Callee.builtin Builtin.append, args := #[Operand.tmp 52, Operand.tmp 57], argTypes := #[25, 25] }, type := 25, pos := "law.go:120", after := #[{ on := 1, ground := Ground.data }, { on := 6, ground := Ground.data }, { on := 4, ground := Ground.chain }], guard := none }) rfl (fun K hK => ?_) (by exact AllReadyH.nil)
            rw [if_pos (by rfl)]
            refine wp_app_run (.tmp 52) (.tmp 57) 25 rfl rfl rfl hap ?_
            refine hK.out _ _ (by (try dsimp only); (try trivial)) (fun hHeld => ?_)
            clear hK K
            simp only [List.setIfInBounds_toArray, List.set_cons_zero, List.set_cons_succ]
            refine wpAnyH_take (i := 8) (oi := { dst := some 59, op := Op.fieldAddr 27 (Operand.tmp 3) 2, type := 0, pos := "law.go:120", after := #[{ on := 0, ground := Ground.phase }, { on := 1, ground := Ground.phase }, { on := 2, ground := Ground.phase }, { on := 3, ground := Ground.phase }, { on := 4, ground := Ground.phase }, { on := 5, ground := Ground.phase }, { on := 6, ground := Ground.phase }, { on := 7, ground := Ground.phase }], guard := none }) (v := ?vq15R) rfl (by as_aux_lemma => kernel_rfl) (by as_aux_lemma => kernel_rfl) (by as_aux_lemma => kernel_rfl) (fun _ _ _ h => h) (Or.inl ⟨by rfl, ?yq15R⟩) (by assumption) ?rq15R
            case yq15R => (intro w hSw; (try dsimp only at hSw); go_simp <;> with_reducible rfl)
            simp only [Act.put, List.setIfInBounds_toArray, List.set_cons_zero, List.set_cons_succ]
            refine wpAnyH_ready (rs := [9]) (by as_aux_lemma => kernel_rfl) (by simp) ?_
            refine AllReadyH.cons (o := { dst := none, op := Op.store 25 (Operand.tmp 59) (Operand.tmp 58), type := 0, pos := "law.go:120", after := #[{ on := 8, ground := Ground.data }, { on := 7, ground := Ground.data }, { on := 7, ground := Ground.chain }, { on := 0, ground := Ground.phase }, { on := 1, ground := Ground.phase }, { on := 2, ground := Ground.phase }, { on := 3, ground := Ground.phase }, { on := 4, ground := Ground.phase }, { on := 5, ground := Ground.phase }, { on := 6, ground := Ground.phase }, { on := 7, ground := Ground.phase }], guard := none }) rfl (fun K hK => ?_) (by exact AllReadyH.nil)
            rw [if_pos (by rfl)]
            go_simp
            refine hK.out _ _ (by (try dsimp only); (try trivial)) (fun hHeld => ?_)
            clear hK K
            simp only [List.setIfInBounds_toArray, List.set_cons_zero, List.set_cons_succ]
            refine wpAnyH_done (by as_aux_lemma => kernel_rfl) ?_ _
            clear hHeld c5 f5 cza cz hap hbs
            go_wp2_with fail
            obtain ⟨hQ5, hO5, hB5, hgn, hgr, hz⟩ := H5.out
            exact ⟨⟨j + 1, by omega, congrArg (Value.int .i64) (by omega), _, heap_setCell_same w5 Q 2 _ _ _ hQ5, ⟨(HVC.out z w5 hz hgr).1.kept (grown_set' (grown_refl w5 Q) 2 _) (.inr HVQ.out), HB.out.2.1.2⟩, ⟨by rw [← rsK_step]; exact hO5.1.kept (grown_set' (grown_refl w5 Q) 2 _) (.inr (fun e => hgn (Option.some.inj e))), by rw [← rsK_step]; exact hO5.2⟩, (HB.out.2.2.2.trans ((show Below wr.heap.size wr z from hz).mono HQW.out |>.trans (hB5.mono HQR.out))).setCell (p := ⟨Q, 2, none⟩) (Nat.le_refl _) _, Nat.le_trans HRW.out (Nat.le_trans hz.size (Nat.le_trans hgr.size (grown_set' (grown_refl w5 Q) 2 _).size))⟩, by simp [intOf]; omega⟩
          refine AllReadyH.cons (o := { dst := some 57, op := Op.buildSlice 25 1 #[(0, Operand.tmp 56)], type := 25, pos := "law.go:120", after := #[{ on := 5, ground := Ground.data }], guard := none }) rfl (fun K hK => ?_) (by exact AllReadyH.nil)
          rw [if_pos (by rfl)]
          refine wp_bslice_run 25 1 _ rfl #[(0, .agg (rlC (ofL j, 0, 0)))] (by simp only [List.map_toArray, List.map_cons, List.map_nil]; rfl) hbs ?_
          refine hK.out _ _ (by (try dsimp only); (try trivial)) (fun hHeld => ?_)
          clear hK K
          simp only [List.setIfInBounds_toArray, List.set_cons_zero, List.set_cons_succ]
          refine wpAnyH_ready (rs := [1]) (by as_aux_lemma => kernel_rfl) (by simp) ?_
          refine AllReadyH.cons (o := { dst := some 52, op := Op.load 25 (Operand.tmp 51), type := 25, pos := "law.go:120", after := #[{ on := 0, ground := Ground.data }], guard := none }) rfl (fun K hK => ?_) (by exact AllReadyH.nil)
          rw [if_pos (by rfl)]
          go_simp
          refine hK.out _ _ (by (try dsimp only); (try trivial)) (fun hHeld => ?_)
          clear hK K
          simp only [List.setIfInBounds_toArray, List.set_cons_zero, List.set_cons_succ]
          refine wpAnyH_ready (rs := [7]) (by as_aux_lemma => kernel_rfl) (by simp) ?_
          refine AllReadyH.cons (o := { dst := some 58, op := Op.call { callee := Callee.builtin Builtin.append, args := #[Operand.tmp 52, Operand.tmp 57], argTypes := #[25, 25] }, type := 25, pos := "law.go:120", after := #[{ on := 1, ground := Ground.data }, { on := 6, ground := Ground.data }, { on := 4, ground := Ground.chain }], guard := none }) rfl (fun K hK => ?_) (by exact AllReadyH.nil)
          rw [if_pos (by rfl)]
          refine wp_app_run (.tmp 52) (.tmp 57) 25 rfl rfl rfl hap ?_
          refine hK.out _ _ (by (try dsimp only); (try trivial)) (fun hHeld => ?_)
          clear hK K
          simp only [List.setIfInBounds_toArray, List.set_cons_zero, List.set_cons_succ]
          refine wpAnyH_take (i := 8) (oi := { dst := some 59, op := Op.fieldAddr 27 (Operand.tmp 3) 2, type := 0, pos := "law.go:120", after := #[{ on := 0, ground := Ground.phase }, { on := 1, ground := Ground.phase }, { on := 2, ground := Ground.phase }, { on := 3, ground := Ground.phase }, { on := 4, ground := Ground.phase }, { on := 5, ground := Ground.phase }, { on := 6, ground := Ground.phase }, { on := 7, ground := Ground.phase }], guard := none }) (v := ?vq20R) rfl (by as_aux_lemma => kernel_rfl) (by as_aux_lemma => kernel_rfl) (by as_aux_lemma => kernel_rfl) (fun _ _ _ h => h) (Or.inl ⟨by rfl, ?yq20R⟩) (by assumption) ?rq20R
          case yq20R => (intro w hSw; (try dsimp only at hSw); go_simp <;> with_reducible rfl)
          simp only [Act.put, List.setIfInBounds_toArray, List.set_cons_zero, List.set_cons_succ]
          refine wpAnyH_ready (rs := [9]) (by as_aux_lemma => kernel_rfl) (by simp) ?_
          refine AllReadyH.cons (o := { dst := none, op := Op.store 25 (Operand.tmp 59) (Operand.tmp 58), type := 0, pos := "law.go:120", after := #[{ on := 8, ground := Ground.data }, { on := 7, ground := Ground.data }, { on := 7, ground := Ground.chain }, { on := 0, ground := Ground.phase }, { on := 1, ground := Ground.phase }, { on := 2, ground := Ground.phase }, { on := 3, ground := Ground.phase }, { on := 4, ground := Ground.phase }, { on := 5, ground := Ground.phase }, { on := 6, ground := Ground.phase }, { on := 7, ground := Ground.phase }], guard := none }) rfl (fun K hK => ?_) (by exact AllReadyH.nil)
          rw [if_pos (by rfl)]
          go_simp
          refine hK.out _ _ (by (try dsimp only); (try trivial)) (fun hHeld => ?_)
          clear hK K
          simp only [List.setIfInBounds_toArray, List.set_cons_zero, List.set_cons_succ]
          refine wpAnyH_done (by as_aux_lemma => kernel_rfl) ?_ _
          clear hHeld c5 f5 cza cz hap hbs
          go_wp2_with fail
          obtain ⟨hQ5, hO5, hB5, hgn, hgr, hz⟩ := H5.out
          exact ⟨⟨j + 1, by omega, congrArg (Value.int .i64) (by omega), _, heap_setCell_same w5 Q 2 _ _ _ hQ5, ⟨(HVC.out z w5 hz hgr).1.kept (grown_set' (grown_refl w5 Q) 2 _) (.inr HVQ.out), HB.out.2.1.2⟩, ⟨by rw [← rsK_step]; exact hO5.1.kept (grown_set' (grown_refl w5 Q) 2 _) (.inr (fun e => hgn (Option.some.inj e))), by rw [← rsK_step]; exact hO5.2⟩, (HB.out.2.2.2.trans ((show Below wr.heap.size wr z from hz).mono HQW.out |>.trans (hB5.mono HQR.out))).setCell (p := ⟨Q, 2, none⟩) (Nat.le_refl _) _, Nat.le_trans HRW.out (Nat.le_trans hz.size (Nat.le_trans hgr.size (grown_set' (grown_refl w5 Q) 2 _).size))⟩, by simp [intOf]; omega⟩
        · obtain rfl : m1 = j := by omega
          have hXr : Below Q X wr := H2.out.2.2.1.trans hBw
          have hww : Below w.heap.size w wr := H0.out.1.trans (hXr.mono (by have := H2.out.2.2.2.2; omega))
          have HWW := Lib.hid hww
          have HTX := Lib.hid (fun (Y : World) (hY : Below wr.heap.size wr Y) => (show Calls Tryz.prog 18 #[.agg #[.int .u64 0, vc, vr]] Y fun e w' => e = .returned (.tuple #[.string ⟨(txE 0 (csK m0) (rsK m1)).toArray⟩, .int .i64 (chk 0 (csK m0) (rsK m1) : Nat)]) ∧ Below Y.heap.size Y w' from ptext_any 0 vc vr (csK m0) (rsK m1) Y (by decide) (hOw.cla.new hY) (hOr.rla.new hY) (HT.out.1.keep (hww.trans (hY.mono hww.size))) (HT.out.2.keep (hww.trans (hY.mono hww.size)))))
          have HCK := Lib.hid (fun (Y : World) (hY : Below wr.heap.size wr Y) => (show Calls Tryz.prog 14 #[.agg #[.int .u64 0, vc, vr]] Y fun e w' => e = .returned (.int .i64 (chk 0 (csK m0) (rsK m1) : Nat)) ∧ Below Y.heap.size Y w' from check_any 0 vc vr (csK m0) (rsK m1) Y (by decide) (hOw.cla.new hY) (hOr.rla.new hY)))
          have HPC := Lib.hid (fun (Y : World) (hY : Below wr.heap.size wr Y) => (⟨cell_of_row _ _ 0 _ _ _ (hQr.keep hY), cell_of_row _ _ 1 _ _ _ (hQr.keep hY), cell_of_row _ _ 2 _ _ _ (hQr.keep hY), HA.out Y (hBw.trans (hY.mono (by have := HV.out.2; omega)))⟩ : Y.cell? ⟨Q, 0, none⟩ = some (.int .u64 0) ∧ Y.cell? ⟨Q, 1, none⟩ = some vc ∧ Y.cell? ⟨Q, 2, none⟩ = some vr ∧ Y.cell? ⟨w.heap.size, 0, none⟩ = some (.int .i64 a) ∧ Y.cell? ⟨w.heap.size, 1, none⟩ = some (.int .i64 b)))
          have HWY := Lib.hid (fun (Y : World) (hY : Below wr.heap.size wr Y) => HWk.out Y (hXr.trans (hY.mono (by have := HV.out.2; omega))))
          obtain ⟨p0, p1, p2, _, _⟩ := HPC.out wr (Below.refl _ _)
          have hck := H0.out.2.2
          clear hXr hww hQr hOw hOr hBw hRw
          obtain ⟨S, hS⟩ : ∃ S, (⟨(txE 0 (csK m0) (rsK m1)).toArray⟩ : ByteArray) = S := ⟨_, rfl⟩
          rw [hS] at HTX
          have hSl : S.toList = txE 0 (csK m0) (rsK m1) := by rw [← hS, ByteArray.toList_eq]
          by_cases ha : 0 < a
          · have hc : chk 0 (csK m0) (rsK m1) = 3 := chk_many (.inl (by omega))
            have hse : (S.toList == []) = true := by rw [hSl]; unfold txE; rw [if_neg (by rw [hc]; decide)]; rfl
            rw [hc] at HTX HCK
            clear hS hSl hc hck
            go_wp2_with (first | (go_at_call 18; refine (HTX.out _ (Below.refl _ _)).mono ?_; rintro r w6 ⟨rfl, h6⟩; have H6 := Lib.hid h6; obtain ⟨q0, q1, q2, q3, q4⟩ := HPC.out w6 h6; clear h6) | (go_at_call 14; refine (HCK.out _ (by first | exact H6.out | exact H6.out.drew)).mono ?_; rintro r w7 ⟨rfl, h7⟩; have H7 := Lib.hid (H6.out.trans (h7.mono H6.out.size)); clear h7) | (go_at_call 13; refine (num_any9 _ _).mono ?_; rintro r w8 ⟨rfl, rfl⟩) | (go_at_call 10; refine (HWY.out _ H7.out).mono ?_; rintro r w9 ⟨rfl, h9⟩; have H9 := Lib.hid (H7.out.trans (h9.mono H7.out.size)); clear h9) | fail)
            go_ret
            exact ⟨rfl, HWW.out.trans (H9.out.mono HWW.out.size)⟩
          · by_cases hb : 0 < b
            · have hc : chk 0 (csK m0) (rsK m1) = 3 := chk_many (.inr (by omega))
              have hse : (S.toList == []) = true := by rw [hSl]; unfold txE; rw [if_neg (by rw [hc]; decide)]; rfl
              rw [hc] at HTX HCK
              clear hS hSl hc hck
              go_wp2_with (first | (go_at_call 18; refine (HTX.out _ (Below.refl _ _)).mono ?_; rintro r w6 ⟨rfl, h6⟩; have H6 := Lib.hid h6; obtain ⟨q0, q1, q2, q3, q4⟩ := HPC.out w6 h6; clear h6) | (go_at_call 14; refine (HCK.out _ (by first | exact H6.out | exact H6.out.drew)).mono ?_; rintro r w7 ⟨rfl, h7⟩; have H7 := Lib.hid (H6.out.trans (h7.mono H6.out.size)); clear h7) | (go_at_call 13; refine (num_any9 _ _).mono ?_; rintro r w8 ⟨rfl, rfl⟩) | (go_at_call 10; refine (HWY.out _ H7.out).mono ?_; rintro r w9 ⟨rfl, h9⟩; have H9 := Lib.hid (H7.out.trans (h9.mono H7.out.size)); clear h9) | fail)
              go_ret
              exact ⟨rfl, HWW.out.trans (H9.out.mono HWW.out.size)⟩
            · have hc : chk 0 (csK m0) (rsK m1) = 0 := chk_few (by omega) (by omega)
              have hse : (S.toList == []) = false := by rw [hSl]; unfold txE; rw [if_pos hc]; rfl
              rw [hc] at HTX HCK
              clear hS hSl hc hck
              go_wp2_with (first | (go_at_call 18; refine (HTX.out _ (Below.refl _ _)).mono ?_; rintro r w6 ⟨rfl, h6⟩; have H6 := Lib.hid h6; obtain ⟨q0, q1, q2, q3, q4⟩ := HPC.out w6 h6; clear h6) | (go_at_call 14; refine (HCK.out _ (by first | exact H6.out | exact H6.out.drew)).mono ?_; rintro r w7 ⟨rfl, h7⟩; have H7 := Lib.hid (H6.out.trans (h7.mono H6.out.size)); clear h7) | (go_at_call 13; refine (num_any9 _ _).mono ?_; rintro r w8 ⟨rfl, rfl⟩) | (go_at_call 10; refine (HWY.out _ H7.out).mono ?_; rintro r w9 ⟨rfl, h9⟩; have H9 := Lib.hid (H7.out.trans (h9.mono H7.out.size)); clear h9) | fail)
              go_ret
              exact ⟨rfl, HWW.out.trans (H9.out.mono HWW.out.size)⟩

end Go.Proofs.YtenepkgjdoddgaaGreatDoor
