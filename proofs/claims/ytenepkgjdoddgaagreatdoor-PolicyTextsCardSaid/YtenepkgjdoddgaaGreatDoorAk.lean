/- policy's laws: works. -/
import Derived.Test.YtenepkgjdoddgaaGreatDoorPr
namespace Go.Proofs.YtenepkgjdoddgaaGreatDoor
open Go.RowKit Go.Shelf
set_option linter.unusedSimpArgs false

abbrev cP1 : ByteArray := ⟨#[100, 101, 102, 97, 117, 108, 116, 32, 45, 10, 99, 108, 101, 97, 114, 32]⟩
abbrev cP2 : ByteArray := ⟨#[32, 48, 44, 49, 10, 114, 101, 108, 101, 97, 115, 101, 32]⟩
abbrev cP3 : ByteArray := ⟨#[32, 55, 32, 49, 10]⟩
theorem text_w (NM : ByteArray) (h : (⟨(48 :: 120 :: wT).toArray⟩ : ByteArray) = NM) : NM.size = 42 ∧ ∃ S1 S2 S3 S4, cP1 ++ NM = S1 ∧ S1 ++ cP2 = S2 ∧ S2 ++ NM = S3 ∧ S3 ++ cP3 = S4 ∧ S1.size = 58 ∧ S2.size = 71 ∧ S3.size = 113 ∧ S4.size = 118 ∧ S4 = ⟨wS.toArray⟩ := by
  subst h
  exact ⟨by decide, _, _, _, _, rfl, rfl, rfl, rfl, by decide +kernel, by decide +kernel, by decide +kernel, by decide +kernel, by decide +kernel⟩
theorem of_one (X : World) : Calls Tryz.prog 37 #[.int .u8 1] X fun e w' => e = .returned (.agg (adC (ofL 1))) ∧ Below X.heap.size X w' := pof_any 1 (by decide) X
theorem of_two (X : World) : Calls Tryz.prog 37 #[.int .u8 2] X fun e w' => e = .returned (.agg (adC (ofL 2))) ∧ Below X.heap.size X w' := pof_any 2 (by decide) X
theorem of_five (X : World) : Calls Tryz.prog 37 #[.int .u8 5] X fun e w' => e = .returned (.agg (adC (ofL 5))) ∧ Below X.heap.size X w' := pof_any 5 (by decide) X
theorem trg_7 : trg (ofL 1) 7 [(ofL 1, 7, 2)] = some 2 := by decide +kernel
theorem trg_8 : trg (ofL 1) 8 [(ofL 1, 7, 2)] = none := by decide +kernel
theorem clr_1 : clr 0 (ofL 1) [(ofL 1, 3)] = 3 := by decide +kernel
theorem clr_2 : clr 0 (ofL 2) [(ofL 1, 3)] = 0 := by decide +kernel
theorem chk_2 : chk 0 [] [(ofL 2, 0, 2)] = 2 := by decide +kernel
theorem tgt7 (cv rv : Value) (w : World) (h : RlA w rv [(ofL 1, 7, 2)]) : Calls Tryz.prog 11 #[.agg #[.int .u64 0, cv, rv], .agg (adC (ofL 1)), .int .u32 7] w fun e w' => e = .returned (.tuple #[.int .u64 2, .bool true]) ∧ Below w.heap.size w w' := by
  have := target_any 0 7 cv rv _ (ofL 1) w h (ofL_ad (by decide))
  rw [trg_7] at this
  exact this
theorem tgt8 (cv rv : Value) (w : World) (h : RlA w rv [(ofL 1, 7, 2)]) : Calls Tryz.prog 11 #[.agg #[.int .u64 0, cv, rv], .agg (adC (ofL 1)), .int .u32 8] w fun e w' => e = .returned (.tuple #[.int .u64 0, .bool false]) ∧ Below w.heap.size w w' := by
  have := target_any 0 8 cv rv _ (ofL 1) w h (ofL_ad (by decide))
  rw [trg_8] at this
  exact this
theorem clear1 (cv rv : Value) (w : World) (h : ClA w cv [(ofL 1, 3)]) : Calls Tryz.prog 16 #[.agg #[.int .u64 0, cv, rv], .agg (adC (ofL 1))] w fun e w' => e = .returned (.int .u64 3) ∧ Below w.heap.size w w' := by
  have := clearance_any 0 cv rv _ (ofL 1) w h (ofL_ad (by decide))
  rw [clr_1] at this
  exact this
theorem clear2 (cv rv : Value) (w : World) (h : ClA w cv [(ofL 1, 3)]) : Calls Tryz.prog 16 #[.agg #[.int .u64 0, cv, rv], .agg (adC (ofL 2))] w fun e w' => e = .returned (.int .u64 0) ∧ Below w.heap.size w w' := by
  have := clearance_any 0 cv rv _ (ofL 2) w h (ofL_ad (by decide))
  rw [clr_2] at this
  exact this
theorem check2 (cv rv : Value) (w : World) (h : ClA w cv []) (h2 : RlA w rv [(ofL 2, 0, 2)]) : Calls Tryz.prog 14 #[.agg #[.int .u64 0, cv, rv]] w fun e w' => e = .returned (.int .i64 2) ∧ Below w.heap.size w w' := by
  have := check_any 0 cv rv _ _ w (by decide) h h2
  rw [chk_2] at this
  exact this
theorem bld_two (w : World) : (Instr.build 74 #[(0, .agg (adC (ofL 2))), (2, .int .u64 2)]).run Tryz.prog w = .ok (.agg (rlC (ofL 2, 0, 2))) w := by
  rw [ofL_lit]
  unfold rlC bvs ofL
  exact run_build w _ _ _ (by kernel_rfl)
theorem low_five : lowA (5 + 4294967296 * 18446744073709551616 ^ 2) = ofL 5 := by decide +kernel
theorem lb_five : lb (5 + 4294967296 * 18446744073709551616 ^ 2) 0 = 5 ∧ lb (5 + 4294967296 * 18446744073709551616 ^ 2) 1 = 0 ∧ lb (5 + 4294967296 * 18446744073709551616 ^ 2) 2 = 4294967296 ∧ lb (5 + 4294967296 * 18446744073709551616 ^ 2) 3 = 0 := by decide +kernel
theorem of_word (X : World) : Calls Tryz.prog 34 #[.agg #[.int .u64 5, .int .u64 0, .int .u64 4294967296, .int .u64 0]] X fun e w' => e = .returned (.agg (adC (ofL 5))) ∧ Below X.heap.size X w' := by
  have h := ofW_any (5 + 4294967296 * 18446744073709551616 ^ 2) X
  unfold W at h
  rw [low_five, lb_five.1, lb_five.2.1, lb_five.2.2.1, lb_five.2.2.2] at h
  exact h
theorem wp_build_run {P : Program} {w : World} {o : Oper} {a : Act} {K : Act → World → Prop} {Q : Exit → Act → World → Prop} (t : TypeId) (parts : Array (Nat × Operand)) (ho : o.op = .build t parts) (vs : Array (Nat × Value)) (hv : (parts.map fun (i, x) => (i, a.eval x)) = vs)
    {v : Value} (hr : (Instr.build t vs).run P w = .ok v w) (hK : K (a.put o.dst v) w) : Oper.wp P o a w K Q := by
  unfold Oper.wp execOp
  simp only [ho, hv, Sem.run_bind, hr, Result.andThen_ok]
  exact hK
set_option maxRecDepth 100000 in
set_option maxHeartbeats 8000000 in
set_option pp.deepTerms true in
set_option pp.maxSteps 10000000 in
theorem pworks_any (w : World) (hT : TZ w) :
    Calls Tryz.prog 10 #[] w fun e w' => e = .returned (.bool true) ∧ Below w.heap.size w w' := by
  obtain ⟨NM, hNM⟩ : ∃ NM, (⟨(48 :: 120 :: wT).toArray⟩ : ByteArray) = NM := ⟨_, rfl⟩
  obtain ⟨hnm, S1, S2, S3, S4, a1, a2, a3, a4, z1, z2, z3, z4, hS4⟩ := text_w NM hNM
  have HO1 := Lib.hid of_one
  have HO2 := Lib.hid of_two
  have HO5 := Lib.hid of_five
  have HN := Lib.hid (fun X => rname_any (ofL 1) (ofL_ad (by decide)) X)
  rw [nm_one, hNM] at HN
  have HP := Lib.hid (fun X (h : TZ X) => wparse_any X h)
  rw [← hS4] at HP
  have HT := Lib.hid hT
  clear hNM hS4 hT
  go_enter Tryz.func10, Tryz.ntmps10
  go_upto_region 2 with (first
    | (go_at_call 37; refine (HO1.out _).mono ?_; rintro e X ⟨rfl, h⟩; have H := Lib.hid h; clear h)
    | (go_at_call 31; refine (HN.out _).mono ?_; rintro e X ⟨rfl, h⟩; have H := Lib.hid h; clear h)
    | fail)
  rename_i Xa Ha Xb Hb Xc Hc K hK
  have hB0 : Below w.heap.size w X := bstep (bstep (bstep Ha.out Hb.out) Hc.out) H.out
  refine (HP.out X (HT.out.keep hB0)).mono ?_
  rintro e X1 ⟨vc, vr, rfl, hcl, hrl, h1⟩
  have hB1 := bstep hB0 h1
  obtain ⟨xc, nc, cc, rfl⟩ : ∃ x n c, vc = .slice x n c := by
    obtain ⟨_, x, c, e, _⟩ := hcl
    exact ⟨_, _, _, e⟩
  obtain ⟨xr, nr, cr, rfl⟩ : ∃ x n c, vr = .slice x n c := by
    obtain ⟨_, x, c, e, _⟩ := hrl
    exact ⟨_, _, _, e⟩
  have hal := balloc (Below.refl X1.heap.size X1) (.cells #[.int .u64 0, .slice xc nc cc, .slice xr nr cr] 27)
  have kP := Blk.new X1 27 #[.int .u64 0, .slice xc nc cc, .slice xr nr cr]
  have hcl2 := hcl.new hal
  have hrl2 := hrl.new hal
  have hB2 := bstep hB1 hal
  refine hK _ _ ?_
  clear hK K Ha Hb Hc H HP hB0 hB1 hcl hrl h1 a1 a2 a3 a4 z1 z2 z3 z4 hnm HN
  go_upto_region 2 with fail
  obtain ⟨W2, hW2⟩ : ∃ W2, X1.alloc (.cells #[.int .u64 0, .slice xc nc cc, .slice xr nr cr] 27) = W2 := ⟨_, rfl⟩
  rw [hW2] at hal kP hcl2 hrl2 hB2 ⊢
  clear hal hW2
  generalize X1.heap.size = b at kP ⊢
  have k0 : W2.cell? ⟨b, 0, none⟩ = some (.int .u64 0) := cell_of_row _ _ 0 _ _ _ kP
  have k1 : W2.cell? ⟨b, 1, none⟩ = some (.slice xc nc cc) := cell_of_row _ _ 1 _ _ _ kP
  have k2 : W2.cell? ⟨b, 2, none⟩ = some (.slice xr nr cr) := cell_of_row _ _ 2 _ _ _ kP
  have hbl := kP.lt
  have HH := Lib.hid (show _ ∧ _ ∧ _ from ⟨hcl2, hrl2, hB2⟩)
  clear hcl2 hrl2 kP hB2
  refine wp_region_held_drew (S := fun w' => Below W2.heap.size W2 w') (by as_aux_lemma => kernel_rfl) ⟨rfl, rfl, rfl, Nat.le_refl _, fun _ _ => rfl⟩ (fun hHeld => ?_)
  simp only [List.size_toArray, List.length_cons, List.length_nil, Nat.reduceAdd, Array.replicate_succ, Array.replicate_zero, List.push_toArray, List.nil_append, List.cons_append]
  refine wpAnyH_take (i := 0) (oi := { dst := some 23, op := Op.load 27 (Operand.tmp 1), type := 27, pos := "law.go:24", after := #[], guard := none }) (v := ?vq0r2) rfl (by as_aux_lemma => kernel_rfl) (by as_aux_lemma => kernel_rfl) (by as_aux_lemma => kernel_rfl) (fun _ _ _ h => h) (Or.inl ⟨by rfl, ?yq0r2⟩) (by assumption) ?rq0r2
  case yq0r2 => (intro wS hSw; (try dsimp only at hSw); have kq0 := (Below.cell (p := ⟨b, 0, none⟩) hSw hbl).trans k0; have kq1 := (Below.cell (p := ⟨b, 1, none⟩) hSw hbl).trans k1; have kq2 := (Below.cell (p := ⟨b, 2, none⟩) hSw hbl).trans k2; go_simp <;> with_reducible rfl)
  simp only [Act.put, List.setIfInBounds_toArray, List.set_cons_zero, List.set_cons_succ]
  refine wpAnyH_ready (rs := [1]) (by as_aux_lemma => kernel_rfl) (by simp) ?_
  refine AllReadyH.cons (o := { dst := some 24, op := Op.call { callee := Callee.value (Operand.func 37), args := #[Operand.const (Value.int IntKind.u8 1)], argTypes := #[5] }, type := 29, pos := "law.go:24", after := #[], guard := none }) rfl (fun K hK => ?_) (by exact AllReadyH.nil)
  rw [if_pos (by rfl)]
  go_simp
  refine (HO1.out _).mono ?_
  rintro e Y1 ⟨rfl, hy1⟩
  have hb1 : Below W2.heap.size W2 Y1 := Below.trans hHeld (Below.mono hy1 (Below.size hHeld))
  refine hK.out _ _ (by (try dsimp only); (first | exact hb9 | exact hb8 | exact hb7 | exact hb6 | exact hb5 | exact hb4 | exact hb3 | exact hb2 | exact hb1)) (fun hHeld => ?_)
  clear hK K
  simp only [List.setIfInBounds_toArray, List.set_cons_zero, List.set_cons_succ]
  refine wpAnyH_ready (rs := [2]) (by as_aux_lemma => kernel_rfl) (by simp) ?_
  refine AllReadyH.cons (o := { dst := some 25, op := Op.call { callee := Callee.value (Operand.func 11), args := #[Operand.tmp 23, Operand.tmp 24, Operand.const (Value.int IntKind.u32 7)], argTypes := #[27, 29, 30] }, type := 33, pos := "law.go:24", after := #[{ on := 0, ground := Ground.data }, { on := 1, ground := Ground.data }, { on := 1, ground := Ground.chain }], guard := none }) rfl (fun K hK => ?_) (by exact AllReadyH.nil)
  rw [if_pos (by rfl)]
  go_simp
  refine (tgt7 _ _ Y1 (HH.out.2.1.new hb1)).mono ?_
  rintro e Y2 ⟨rfl, hy2⟩
  have hb2 : Below W2.heap.size W2 Y2 := Below.trans hb1 (Below.mono hy2 (Below.size hb1))
  refine hK.out _ _ (by (try dsimp only); (first | exact hb9 | exact hb8 | exact hb7 | exact hb6 | exact hb5 | exact hb4 | exact hb3 | exact hb2 | exact hb1)) (fun hHeld => ?_)
  clear hK K
  simp only [List.setIfInBounds_toArray, List.set_cons_zero, List.set_cons_succ]
  refine wpAnyH_take (i := 3) (oi := { dst := some 22, op := Op.move (Operand.tmp 25), type := 33, pos := "law.go:24", after := #[{ on := 2, ground := Ground.data }], guard := none }) (v := ?vq3r2) rfl (by as_aux_lemma => kernel_rfl) (by as_aux_lemma => kernel_rfl) (by as_aux_lemma => kernel_rfl) (fun _ _ _ h => h) (Or.inl ⟨by rfl, ?yq3r2⟩) (by assumption) ?rq3r2
  case yq3r2 => (intro wS hSw; (try dsimp only at hSw); have kq0 := (Below.cell (p := ⟨b, 0, none⟩) hSw hbl).trans k0; have kq1 := (Below.cell (p := ⟨b, 1, none⟩) hSw hbl).trans k1; have kq2 := (Below.cell (p := ⟨b, 2, none⟩) hSw hbl).trans k2; go_simp <;> with_reducible rfl)
  simp only [Act.put, List.setIfInBounds_toArray, List.set_cons_zero, List.set_cons_succ]
  refine wpAnyH_take (i := 4) (oi := { dst := some 26, op := Op.extract (Operand.tmp 22) 0, type := 23, pos := "law.go:24", after := #[{ on := 3, ground := Ground.data }], guard := none }) (v := ?vq4r2) rfl (by as_aux_lemma => kernel_rfl) (by as_aux_lemma => kernel_rfl) (by as_aux_lemma => kernel_rfl) (fun _ _ _ h => h) (Or.inl ⟨by rfl, ?yq4r2⟩) (by assumption) ?rq4r2
  case yq4r2 => (intro wS hSw; (try dsimp only at hSw); have kq0 := (Below.cell (p := ⟨b, 0, none⟩) hSw hbl).trans k0; have kq1 := (Below.cell (p := ⟨b, 1, none⟩) hSw hbl).trans k1; have kq2 := (Below.cell (p := ⟨b, 2, none⟩) hSw hbl).trans k2; go_simp <;> with_reducible rfl)
  simp only [Act.put, List.setIfInBounds_toArray, List.set_cons_zero, List.set_cons_succ]
  refine wpAnyH_take (i := 5) (oi := { dst := some 27, op := Op.extract (Operand.tmp 22) 1, type := 4, pos := "law.go:24", after := #[{ on := 3, ground := Ground.data }, { on := 6, ground := Ground.gcOnly Departure.lateStores }], guard := none }) (v := ?vq5r2) rfl (by as_aux_lemma => kernel_rfl) (by as_aux_lemma => kernel_rfl) (by as_aux_lemma => kernel_rfl) (fun _ _ _ h => h) (Or.inl ⟨by rfl, ?yq5r2⟩) (by assumption) ?rq5r2
  case yq5r2 => (intro wS hSw; (try dsimp only at hSw); have kq0 := (Below.cell (p := ⟨b, 0, none⟩) hSw hbl).trans k0; have kq1 := (Below.cell (p := ⟨b, 1, none⟩) hSw hbl).trans k1; have kq2 := (Below.cell (p := ⟨b, 2, none⟩) hSw hbl).trans k2; go_simp <;> with_reducible rfl)
  simp only [Act.put, List.setIfInBounds_toArray, List.set_cons_zero, List.set_cons_succ]
  refine wpAnyH_take (i := 6) (oi := { dst := some 3, op := Op.assign (Operand.tmp 26), type := 23, pos := "law.go:24", after := #[{ on := 4, ground := Ground.data }, { on := 2, ground := Ground.chain }, { on := 0, ground := Ground.phase }, { on := 1, ground := Ground.phase }, { on := 2, ground := Ground.phase }, { on := 3, ground := Ground.phase }, { on := 4, ground := Ground.phase }, { on := 5, ground := Ground.textOnly Departure.lateStores }], guard := none }) (v := ?vq6r2) rfl (by as_aux_lemma => kernel_rfl) (by as_aux_lemma => kernel_rfl) (by as_aux_lemma => kernel_rfl) (fun _ _ _ h => h) (Or.inl ⟨by rfl, ?yq6r2⟩) (by assumption) ?rq6r2
  case yq6r2 => (intro wS hSw; (try dsimp only at hSw); have kq0 := (Below.cell (p := ⟨b, 0, none⟩) hSw hbl).trans k0; have kq1 := (Below.cell (p := ⟨b, 1, none⟩) hSw hbl).trans k1; have kq2 := (Below.cell (p := ⟨b, 2, none⟩) hSw hbl).trans k2; go_simp <;> with_reducible rfl)
  simp only [Act.put, List.setIfInBounds_toArray, List.set_cons_zero, List.set_cons_succ]
  refine wpAnyH_take (i := 7) (oi := { dst := some 4, op := Op.assign (Operand.tmp 27), type := 4, pos := "law.go:24", after := #[{ on := 5, ground := Ground.data }, { on := 6, ground := Ground.chain }, { on := 0, ground := Ground.phase }, { on := 1, ground := Ground.phase }, { on := 2, ground := Ground.phase }, { on := 3, ground := Ground.phase }, { on := 4, ground := Ground.phase }, { on := 5, ground := Ground.phase }, { on := 6, ground := Ground.phase }], guard := none }) (v := ?vq7r2) rfl (by as_aux_lemma => kernel_rfl) (by as_aux_lemma => kernel_rfl) (by as_aux_lemma => kernel_rfl) (fun _ _ _ h => h) (Or.inl ⟨by rfl, ?yq7r2⟩) (by assumption) ?rq7r2
  case yq7r2 => (intro wS hSw; (try dsimp only at hSw); have kq0 := (Below.cell (p := ⟨b, 0, none⟩) hSw hbl).trans k0; have kq1 := (Below.cell (p := ⟨b, 1, none⟩) hSw hbl).trans k1; have kq2 := (Below.cell (p := ⟨b, 2, none⟩) hSw hbl).trans k2; go_simp <;> with_reducible rfl)
  simp only [Act.put, List.setIfInBounds_toArray, List.set_cons_zero, List.set_cons_succ]
  refine wpAnyH_done (by as_aux_lemma => kernel_rfl) ?_ _
  clear hHeld
  have k0n : Y2.cell? ⟨b, 0, none⟩ = some (.int .u64 0) := (Below.cell (p := ⟨b, 0, none⟩) hb2 hbl).trans k0
  have k1n : Y2.cell? ⟨b, 1, none⟩ = some (.slice xc nc cc) := (Below.cell (p := ⟨b, 1, none⟩) hb2 hbl).trans k1
  have k2n : Y2.cell? ⟨b, 2, none⟩ = some (.slice xr nr cr) := (Below.cell (p := ⟨b, 2, none⟩) hb2 hbl).trans k2
  have hbln : b < Y2.heap.size := Nat.lt_of_lt_of_le hbl (Below.size hb2)
  have HHn := Lib.hid (show ClA Y2 (.slice xc nc cc) [(ofL 1, 3)] ∧ RlA Y2 (.slice xr nr cr) [(ofL 1, 7, 2)] ∧ Below w.heap.size w Y2 from ⟨HH.out.1.new hb2, HH.out.2.1.new hb2, HH.out.2.2.trans (Below.mono hb2 HH.out.2.2.size)⟩)
  clear k0 k1 k2 hbl HH hy1 hb1 hy2 hb2
  generalize Y2 = W3 at k0n k1n k2n hbln HHn ⊢
  have k0 := k0n
  have k1 := k1n
  have k2 := k2n
  have hbl := hbln
  have HH := HHn
  clear k0n k1n k2n hbln HHn
  go_upto_region 3 with fail
  refine wp_region_held_drew (S := fun w' => Below W3.heap.size W3 w') (by as_aux_lemma => kernel_rfl) ⟨rfl, rfl, rfl, Nat.le_refl _, fun _ _ => rfl⟩ (fun hHeld => ?_)
  simp only [List.size_toArray, List.length_cons, List.length_nil, Nat.reduceAdd, Array.replicate_succ, Array.replicate_zero, List.push_toArray, List.nil_append, List.cons_append]
  refine wpAnyH_take (i := 0) (oi := { dst := some 29, op := Op.load 27 (Operand.tmp 1), type := 27, pos := "law.go:25", after := #[], guard := none }) (v := ?vq0r3) rfl (by as_aux_lemma => kernel_rfl) (by as_aux_lemma => kernel_rfl) (by as_aux_lemma => kernel_rfl) (fun _ _ _ h => h) (Or.inl ⟨by rfl, ?yq0r3⟩) (by assumption) ?rq0r3
  case yq0r3 => (intro wS hSw; (try dsimp only at hSw); have kq0 := (Below.cell (p := ⟨b, 0, none⟩) hSw hbl).trans k0; have kq1 := (Below.cell (p := ⟨b, 1, none⟩) hSw hbl).trans k1; have kq2 := (Below.cell (p := ⟨b, 2, none⟩) hSw hbl).trans k2; go_simp <;> with_reducible rfl)
  simp only [Act.put, List.setIfInBounds_toArray, List.set_cons_zero, List.set_cons_succ]
  refine wpAnyH_ready (rs := [1]) (by as_aux_lemma => kernel_rfl) (by simp) ?_
  refine AllReadyH.cons (o := { dst := some 30, op := Op.call { callee := Callee.value (Operand.func 37), args := #[Operand.const (Value.int IntKind.u8 1)], argTypes := #[5] }, type := 29, pos := "law.go:25", after := #[], guard := none }) rfl (fun K hK => ?_) (by exact AllReadyH.nil)
  rw [if_pos (by rfl)]
  go_simp
  refine (HO1.out _).mono ?_
  rintro e Y1 ⟨rfl, hy1⟩
  have hb1 : Below W3.heap.size W3 Y1 := Below.trans hHeld (Below.mono hy1 (Below.size hHeld))
  refine hK.out _ _ (by (try dsimp only); (first | exact hb9 | exact hb8 | exact hb7 | exact hb6 | exact hb5 | exact hb4 | exact hb3 | exact hb2 | exact hb1)) (fun hHeld => ?_)
  clear hK K
  simp only [List.setIfInBounds_toArray, List.set_cons_zero, List.set_cons_succ]
  refine wpAnyH_ready (rs := [2]) (by as_aux_lemma => kernel_rfl) (by simp) ?_
  refine AllReadyH.cons (o := { dst := some 31, op := Op.call { callee := Callee.value (Operand.func 11), args := #[Operand.tmp 29, Operand.tmp 30, Operand.const (Value.int IntKind.u32 8)], argTypes := #[27, 29, 30] }, type := 33, pos := "law.go:25", after := #[{ on := 0, ground := Ground.data }, { on := 1, ground := Ground.data }, { on := 1, ground := Ground.chain }], guard := none }) rfl (fun K hK => ?_) (by exact AllReadyH.nil)
  rw [if_pos (by rfl)]
  go_simp
  refine (tgt8 _ _ Y1 (HH.out.2.1.new hb1)).mono ?_
  rintro e Y2 ⟨rfl, hy2⟩
  have hb2 : Below W3.heap.size W3 Y2 := Below.trans hb1 (Below.mono hy2 (Below.size hb1))
  refine hK.out _ _ (by (try dsimp only); (first | exact hb9 | exact hb8 | exact hb7 | exact hb6 | exact hb5 | exact hb4 | exact hb3 | exact hb2 | exact hb1)) (fun hHeld => ?_)
  clear hK K
  simp only [List.setIfInBounds_toArray, List.set_cons_zero, List.set_cons_succ]
  refine wpAnyH_take (i := 3) (oi := { dst := some 28, op := Op.move (Operand.tmp 31), type := 33, pos := "law.go:25", after := #[{ on := 2, ground := Ground.data }], guard := none }) (v := ?vq3r3) rfl (by as_aux_lemma => kernel_rfl) (by as_aux_lemma => kernel_rfl) (by as_aux_lemma => kernel_rfl) (fun _ _ _ h => h) (Or.inl ⟨by rfl, ?yq3r3⟩) (by assumption) ?rq3r3
  case yq3r3 => (intro wS hSw; (try dsimp only at hSw); have kq0 := (Below.cell (p := ⟨b, 0, none⟩) hSw hbl).trans k0; have kq1 := (Below.cell (p := ⟨b, 1, none⟩) hSw hbl).trans k1; have kq2 := (Below.cell (p := ⟨b, 2, none⟩) hSw hbl).trans k2; go_simp <;> with_reducible rfl)
  simp only [Act.put, List.setIfInBounds_toArray, List.set_cons_zero, List.set_cons_succ]
  refine wpAnyH_take (i := 4) (oi := { dst := some 32, op := Op.extract (Operand.tmp 28) 0, type := 23, pos := "law.go:25", after := #[{ on := 3, ground := Ground.data }], guard := none }) (v := ?vq4r3) rfl (by as_aux_lemma => kernel_rfl) (by as_aux_lemma => kernel_rfl) (by as_aux_lemma => kernel_rfl) (fun _ _ _ h => h) (Or.inl ⟨by rfl, ?yq4r3⟩) (by assumption) ?rq4r3
  case yq4r3 => (intro wS hSw; (try dsimp only at hSw); have kq0 := (Below.cell (p := ⟨b, 0, none⟩) hSw hbl).trans k0; have kq1 := (Below.cell (p := ⟨b, 1, none⟩) hSw hbl).trans k1; have kq2 := (Below.cell (p := ⟨b, 2, none⟩) hSw hbl).trans k2; go_simp <;> with_reducible rfl)
  simp only [Act.put, List.setIfInBounds_toArray, List.set_cons_zero, List.set_cons_succ]
  refine wpAnyH_take (i := 5) (oi := { dst := some 33, op := Op.extract (Operand.tmp 28) 1, type := 4, pos := "law.go:25", after := #[{ on := 3, ground := Ground.data }, { on := 6, ground := Ground.gcOnly Departure.lateStores }], guard := none }) (v := ?vq5r3) rfl (by as_aux_lemma => kernel_rfl) (by as_aux_lemma => kernel_rfl) (by as_aux_lemma => kernel_rfl) (fun _ _ _ h => h) (Or.inl ⟨by rfl, ?yq5r3⟩) (by assumption) ?rq5r3
  case yq5r3 => (intro wS hSw; (try dsimp only at hSw); have kq0 := (Below.cell (p := ⟨b, 0, none⟩) hSw hbl).trans k0; have kq1 := (Below.cell (p := ⟨b, 1, none⟩) hSw hbl).trans k1; have kq2 := (Below.cell (p := ⟨b, 2, none⟩) hSw hbl).trans k2; go_simp <;> with_reducible rfl)
  simp only [Act.put, List.setIfInBounds_toArray, List.set_cons_zero, List.set_cons_succ]
  refine wpAnyH_take (i := 6) (oi := { dst := some 5, op := Op.assign (Operand.tmp 32), type := 23, pos := "law.go:25", after := #[{ on := 4, ground := Ground.data }, { on := 2, ground := Ground.chain }, { on := 0, ground := Ground.phase }, { on := 1, ground := Ground.phase }, { on := 2, ground := Ground.phase }, { on := 3, ground := Ground.phase }, { on := 4, ground := Ground.phase }, { on := 5, ground := Ground.textOnly Departure.lateStores }], guard := none }) (v := ?vq6r3) rfl (by as_aux_lemma => kernel_rfl) (by as_aux_lemma => kernel_rfl) (by as_aux_lemma => kernel_rfl) (fun _ _ _ h => h) (Or.inl ⟨by rfl, ?yq6r3⟩) (by assumption) ?rq6r3
  case yq6r3 => (intro wS hSw; (try dsimp only at hSw); have kq0 := (Below.cell (p := ⟨b, 0, none⟩) hSw hbl).trans k0; have kq1 := (Below.cell (p := ⟨b, 1, none⟩) hSw hbl).trans k1; have kq2 := (Below.cell (p := ⟨b, 2, none⟩) hSw hbl).trans k2; go_simp <;> with_reducible rfl)
  simp only [Act.put, List.setIfInBounds_toArray, List.set_cons_zero, List.set_cons_succ]
  refine wpAnyH_take (i := 7) (oi := { dst := some 6, op := Op.assign (Operand.tmp 33), type := 4, pos := "law.go:25", after := #[{ on := 5, ground := Ground.data }, { on := 6, ground := Ground.chain }, { on := 0, ground := Ground.phase }, { on := 1, ground := Ground.phase }, { on := 2, ground := Ground.phase }, { on := 3, ground := Ground.phase }, { on := 4, ground := Ground.phase }, { on := 5, ground := Ground.phase }, { on := 6, ground := Ground.phase }], guard := none }) (v := ?vq7r3) rfl (by as_aux_lemma => kernel_rfl) (by as_aux_lemma => kernel_rfl) (by as_aux_lemma => kernel_rfl) (fun _ _ _ h => h) (Or.inl ⟨by rfl, ?yq7r3⟩) (by assumption) ?rq7r3
  case yq7r3 => (intro wS hSw; (try dsimp only at hSw); have kq0 := (Below.cell (p := ⟨b, 0, none⟩) hSw hbl).trans k0; have kq1 := (Below.cell (p := ⟨b, 1, none⟩) hSw hbl).trans k1; have kq2 := (Below.cell (p := ⟨b, 2, none⟩) hSw hbl).trans k2; go_simp <;> with_reducible rfl)
  simp only [Act.put, List.setIfInBounds_toArray, List.set_cons_zero, List.set_cons_succ]
  refine wpAnyH_done (by as_aux_lemma => kernel_rfl) ?_ _
  clear hHeld
  have k0n : Y2.cell? ⟨b, 0, none⟩ = some (.int .u64 0) := (Below.cell (p := ⟨b, 0, none⟩) hb2 hbl).trans k0
  have k1n : Y2.cell? ⟨b, 1, none⟩ = some (.slice xc nc cc) := (Below.cell (p := ⟨b, 1, none⟩) hb2 hbl).trans k1
  have k2n : Y2.cell? ⟨b, 2, none⟩ = some (.slice xr nr cr) := (Below.cell (p := ⟨b, 2, none⟩) hb2 hbl).trans k2
  have hbln : b < Y2.heap.size := Nat.lt_of_lt_of_le hbl (Below.size hb2)
  have HHn := Lib.hid (show ClA Y2 (.slice xc nc cc) [(ofL 1, 3)] ∧ RlA Y2 (.slice xr nr cr) [(ofL 1, 7, 2)] ∧ Below w.heap.size w Y2 from ⟨HH.out.1.new hb2, HH.out.2.1.new hb2, HH.out.2.2.trans (Below.mono hb2 HH.out.2.2.size)⟩)
  clear k0 k1 k2 hbl HH hy1 hb1 hy2 hb2
  generalize Y2 = W4 at k0n k1n k2n hbln HHn ⊢
  have k0 := k0n
  have k1 := k1n
  have k2 := k2n
  have hbl := hbln
  have HH := HHn
  clear k0n k1n k2n hbln HHn
  go_upto_region 4 with fail
  refine wp_region_lit ?_
  refine wpList_plain rfl fun K hK => ?_
  go_simp
  refine (HO2.out _).mono ?_
  rintro e Y1 ⟨rfl, hy1⟩
  refine hK _ _ ?_
  clear hK K
  refine wpList_plain rfl fun K hK => ?_
  refine wp_build_run 74 _ rfl #[(0, .agg (adC (ofL 2))), (2, .int .u64 2)] (by simp only [List.map_toArray, List.map_cons, List.map_nil]; rfl) (bld_two Y1) ?_
  refine hK _ _ ?_
  clear hK K
  refine wpList_plain rfl fun K hK => ?_
  refine wp_bslice_run 25 1 _ rfl #[(0, .agg (rlC (ofL 2, 0, 2)))] (by simp only [List.map_toArray, List.map_cons, List.map_nil]; rfl) (slice_release (ofL_ad (by decide)) 0 2 Y1) ?_
  refine hK _ _ ?_
  clear hK K
  have hal := balloc (Below.refl Y1.heap.size Y1) (.cells (rlC (ofL 2, 0, 2)) 74)
  have kR := Blk.new Y1 74 (rlC (ofL 2, 0, 2))
  have hb2 : Below W4.heap.size W4 (Y1.alloc (.cells (rlC (ofL 2, 0, 2)) 74)) := Below.trans hy1 (hal.mono hy1.size)
  obtain ⟨Y2, hY2⟩ : ∃ Y2, Y1.alloc (.cells (rlC (ofL 2, 0, 2)) 74) = Y2 := ⟨_, rfl⟩
  rw [hY2] at kR hb2 ⊢
  clear hY2 hal
  have hr2 : RlA Y2 (.slice (some ⟨Y1.heap.size, 0, none⟩) 1 1) [(ofL 2, 0, 2)] := ⟨fun r hr => (by simp at hr; subst hr; exact ⟨ofL_ad (by decide), by decide, by decide⟩), _, 1, rfl, by decide, fun _ => ⟨Y1.heap.size, 0, rfl, kR.lt, fun k r hk => by
    match k, hk with
    | 0, hk => simp only [List.getElem?_cons_zero, Option.some.injEq] at hk; subst hk; simpa using kR.range
    | k + 1, hk => simp at hk⟩⟩
  have hc2 : ClA Y2 (.slice none 0 0) [] := ⟨fun c hc => (by cases hc), none, 0, rfl, by decide, fun h => (h rfl).elim⟩
  have HC := Lib.hid (check2 _ _ Y2 hc2 hr2)
  clear hr2 hc2 kR hy1
  generalize Y1.heap.size = g1 at HC ⊢
  refine wpList_plain rfl fun K hK => ?_
  go_simp
  refine hK _ _ ?_
  clear hK K
  refine wpList_plain rfl fun K hK => ?_
  go_simp
  refine (HC.out).mono ?_
  rintro e Y3 ⟨rfl, hy3⟩
  have hb3 : Below W4.heap.size W4 Y3 := hb2.trans (hy3.mono hb2.size)
  refine hK _ _ ?_
  clear hK K
  refine wpList_plain rfl fun K hK => ?_
  go_simp
  refine hK _ _ ?_
  clear hK K
  refine wpList_nil ?_
  clear hb2 hy3 HC
  have k0n : Y3.cell? ⟨b, 0, none⟩ = some (.int .u64 0) := (Below.cell (p := ⟨b, 0, none⟩) hb3 hbl).trans k0
  have k1n : Y3.cell? ⟨b, 1, none⟩ = some (.slice xc nc cc) := (Below.cell (p := ⟨b, 1, none⟩) hb3 hbl).trans k1
  have k2n : Y3.cell? ⟨b, 2, none⟩ = some (.slice xr nr cr) := (Below.cell (p := ⟨b, 2, none⟩) hb3 hbl).trans k2
  have hbln : b < Y3.heap.size := Nat.lt_of_lt_of_le hbl (Below.size hb3)
  have HHn := Lib.hid (show ClA Y3 (.slice xc nc cc) [(ofL 1, 3)] ∧ RlA Y3 (.slice xr nr cr) [(ofL 1, 7, 2)] ∧ Below w.heap.size w Y3 from ⟨HH.out.1.new hb3, HH.out.2.1.new hb3, HH.out.2.2.trans (Below.mono hb3 HH.out.2.2.size)⟩)
  clear k0 k1 k2 hbl HH hb3
  generalize Y3 = W5 at k0n k1n k2n hbln HHn ⊢
  have k0 := k0n
  have k1 := k1n
  have k2 := k2n
  have hbl := hbln
  have HH := HHn
  clear k0n k1n k2n hbln HHn
  go_upto_region 5 with fail
  refine wp_region_lit ?_
  refine wpList_plain rfl fun K hK => ?_
  go_simp
  refine (address_01 W5).mono ?_
  rintro e Y1 ⟨rfl, hy1⟩
  refine hK _ _ ?_
  clear hK K
  refine wpList_plain rfl fun K hK => ?_
  go_simp
  refine hK _ _ ?_
  clear hK K
  refine wpList_plain rfl fun K hK => ?_
  go_simp
  refine hK _ _ ?_
  clear hK K
  refine wpList_plain rfl fun K hK => ?_
  go_simp
  refine hK _ _ ?_
  clear hK K
  refine wpList_plain rfl fun K hK => ?_
  go_simp
  refine hK _ _ ?_
  clear hK K
  rw [← zaC_lit]
  refine wpList_store_row rfl 29 (.tmp 8) (.tmp 41) rfl Y1.heap.size zaC rfl rfl 29 zaC (Blk.new Y1 _ _) (by rw [info_addr, zaC_size]) rfl zaC_one ?_
  rw [World.setRow_alloc_new]
  have hb2 : Below W5.heap.size W5 (Y1.alloc (.cells zaC 29)) := balloc hy1 _
  obtain ⟨Y2, hY2⟩ : ∃ Y2, Y1.alloc (.cells zaC 29) = Y2 := ⟨_, rfl⟩
  rw [hY2] at hb2 ⊢
  clear hY2
  refine wpList_plain rfl fun K hK => ?_
  go_simp
  refine hK _ _ ?_
  clear hK K
  refine wpList_nil ?_
  have k0n : Y2.cell? ⟨b, 0, none⟩ = some (.int .u64 0) := (Below.cell (p := ⟨b, 0, none⟩) hb2 hbl).trans k0
  have k1n : Y2.cell? ⟨b, 1, none⟩ = some (.slice xc nc cc) := (Below.cell (p := ⟨b, 1, none⟩) hb2 hbl).trans k1
  have k2n : Y2.cell? ⟨b, 2, none⟩ = some (.slice xr nr cr) := (Below.cell (p := ⟨b, 2, none⟩) hb2 hbl).trans k2
  have hbln : b < Y2.heap.size := Nat.lt_of_lt_of_le hbl (Below.size hb2)
  have HHn := Lib.hid (show ClA Y2 (.slice xc nc cc) [(ofL 1, 3)] ∧ RlA Y2 (.slice xr nr cr) [(ofL 1, 7, 2)] ∧ Below w.heap.size w Y2 from ⟨HH.out.1.new hb2, HH.out.2.1.new hb2, HH.out.2.2.trans (Below.mono hb2 HH.out.2.2.size)⟩)
  clear k0 k1 k2 hbl HH hb2 hy1
  generalize Y2 = W6 at k0n k1n k2n hbln HHn ⊢
  have k0 := k0n
  have k1 := k1n
  have k2 := k2n
  have hbl := hbln
  have HH := HHn
  clear k0n k1n k2n hbln HHn
  go_upto_region 6 with fail
  have heq := fun X => eq_addr (ofL_ad (n := 5) (by decide)) (ofL_ad (n := 5) (by decide)) X
  rw [decide_eq_true rfl] at heq
  refine wp_region_held_drew (S := fun w' => Below W6.heap.size W6 w') (by as_aux_lemma => kernel_rfl) ⟨rfl, rfl, rfl, Nat.le_refl _, fun _ _ => rfl⟩ (fun hHeld => ?_)
  simp only [List.size_toArray, List.length_cons, List.length_nil, Nat.reduceAdd, Array.replicate_succ, Array.replicate_zero, List.push_toArray, List.nil_append, List.cons_append]
  refine wpAnyH_take (i := 0) (oi := { dst := some 43, op := Op.move (Operand.tmp 2), type := 36, pos := "law.go:28", after := #[], guard := none }) (v := ?vq0r6) rfl (by as_aux_lemma => kernel_rfl) (by as_aux_lemma => kernel_rfl) (by as_aux_lemma => kernel_rfl) (fun _ _ _ h => h) (Or.inl ⟨by rfl, ?yq0r6⟩) (by assumption) ?rq0r6
  case yq0r6 => (intro wS hSw; (try dsimp only at hSw); have kq0 := (Below.cell (p := ⟨b, 0, none⟩) hSw hbl).trans k0; have kq1 := (Below.cell (p := ⟨b, 1, none⟩) hSw hbl).trans k1; have kq2 := (Below.cell (p := ⟨b, 2, none⟩) hSw hbl).trans k2; go_simp <;> with_reducible rfl)
  simp only [Act.put, List.setIfInBounds_toArray, List.set_cons_zero, List.set_cons_succ]
  refine wpAnyH_ready (rs := [1]) (by as_aux_lemma => kernel_rfl) (by simp) ?_
  refine AllReadyH.cons (o := { dst := some 44, op := Op.call { callee := Callee.value (Operand.func 13), args := #[Operand.tmp 43], argTypes := #[36] }, type := 3, pos := "law.go:28", after := #[{ on := 0, ground := Ground.data }], guard := none }) rfl (fun K hK => ?_) (by exact AllReadyH.nil)
  rw [if_pos (by rfl)]
  go_simp
  refine (num_any9 _ _).mono ?_
  rintro e Yz ⟨rfl, rfl⟩
  refine hK.out _ _ (by (try dsimp only); (first | exact hb6 | exact hb5 | exact hb4 | exact hb3 | exact hb2 | exact hb1 | exact hHeld)) (fun hHeld => ?_)
  clear hK K
  simp only [List.setIfInBounds_toArray, List.set_cons_zero, List.set_cons_succ]
  refine wpAnyH_take (i := 2) (oi := { dst := some 45, op := Op.binOp BinOp.eql 3 (Operand.tmp 44) (Operand.const (Value.int IntKind.i64 0)) 3, type := 4, pos := "law.go:28", after := #[{ on := 1, ground := Ground.data }], guard := none }) (v := ?vq2r6) rfl (by as_aux_lemma => kernel_rfl) (by as_aux_lemma => kernel_rfl) (by as_aux_lemma => kernel_rfl) (fun _ _ _ h => h) (Or.inl ⟨by rfl, ?yq2r6⟩) (by assumption) ?rq2r6
  case yq2r6 => (intro wS hSw; (try dsimp only at hSw); have kq0 := (Below.cell (p := ⟨b, 0, none⟩) hSw hbl).trans k0; have kq1 := (Below.cell (p := ⟨b, 1, none⟩) hSw hbl).trans k1; have kq2 := (Below.cell (p := ⟨b, 2, none⟩) hSw hbl).trans k2; go_simp <;> with_reducible rfl)
  simp only [Act.put, List.setIfInBounds_toArray, List.set_cons_zero, List.set_cons_succ]
  refine wpAnyH_take (i := 3) (oi := { dst := some 46, op := Op.move (Operand.tmp 45), type := 4, pos := "law.go:28", after := #[{ on := 2, ground := Ground.data }, { on := 1, ground := Ground.chain }], guard := none }) (v := ?vq3r6) rfl (by as_aux_lemma => kernel_rfl) (by as_aux_lemma => kernel_rfl) (by as_aux_lemma => kernel_rfl) (fun _ _ _ h => h) (Or.inl ⟨by rfl, ?yq3r6⟩) (by assumption) ?rq3r6
  case yq3r6 => (intro wS hSw; (try dsimp only at hSw); have kq0 := (Below.cell (p := ⟨b, 0, none⟩) hSw hbl).trans k0; have kq1 := (Below.cell (p := ⟨b, 1, none⟩) hSw hbl).trans k1; have kq2 := (Below.cell (p := ⟨b, 2, none⟩) hSw hbl).trans k2; go_simp <;> with_reducible rfl)
  simp only [Act.put, List.setIfInBounds_toArray, List.set_cons_zero, List.set_cons_succ]
  refine wpAnyH_take (i := 4) (oi := { dst := some 47, op := Op.load 27 (Operand.tmp 1), type := 27, pos := "law.go:28", after := #[{ on := 3, ground := Ground.guard }], guard := some (3, true) }) (v := ?vq4r6) rfl (by as_aux_lemma => kernel_rfl) (by as_aux_lemma => kernel_rfl) (by as_aux_lemma => kernel_rfl) (fun _ _ _ h => h) (Or.inl ⟨by rfl, ?yq4r6⟩) (by assumption) ?rq4r6
  case yq4r6 => (intro wS hSw; (try dsimp only at hSw); have kq0 := (Below.cell (p := ⟨b, 0, none⟩) hSw hbl).trans k0; have kq1 := (Below.cell (p := ⟨b, 1, none⟩) hSw hbl).trans k1; have kq2 := (Below.cell (p := ⟨b, 2, none⟩) hSw hbl).trans k2; go_simp <;> with_reducible rfl)
  simp only [Act.put, List.setIfInBounds_toArray, List.set_cons_zero, List.set_cons_succ]
  refine wpAnyH_ready (rs := [5]) (by as_aux_lemma => kernel_rfl) (by simp) ?_
  refine AllReadyH.cons (o := { dst := some 48, op := Op.call { callee := Callee.value (Operand.func 37), args := #[Operand.const (Value.int IntKind.u8 1)], argTypes := #[5] }, type := 29, pos := "law.go:28", after := #[{ on := 3, ground := Ground.chain }, { on := 3, ground := Ground.guard }], guard := some (3, true) }) rfl (fun K hK => ?_) (by exact AllReadyH.nil)
  rw [if_pos (by rfl)]
  go_simp
  refine (HO1.out _).mono ?_
  rintro e Y1 ⟨rfl, hy1⟩
  have hb1 : Below W6.heap.size W6 Y1 := Below.trans hHeld (Below.mono hy1 (Below.size hHeld))
  refine hK.out _ _ (by (try dsimp only); (first | exact hb6 | exact hb5 | exact hb4 | exact hb3 | exact hb2 | exact hb1 | exact hHeld)) (fun hHeld => ?_)
  clear hK K
  simp only [List.setIfInBounds_toArray, List.set_cons_zero, List.set_cons_succ]
  refine wpAnyH_ready (rs := [6]) (by as_aux_lemma => kernel_rfl) (by simp) ?_
  refine AllReadyH.cons (o := { dst := some 49, op := Op.call { callee := Callee.value (Operand.func 16), args := #[Operand.tmp 47, Operand.tmp 48], argTypes := #[27, 29] }, type := 23, pos := "law.go:28", after := #[{ on := 4, ground := Ground.data }, { on := 5, ground := Ground.data }, { on := 5, ground := Ground.chain }, { on := 3, ground := Ground.guard }], guard := some (3, true) }) rfl (fun K hK => ?_) (by exact AllReadyH.nil)
  rw [if_pos (by rfl)]
  go_simp
  refine (clear1 _ _ Y1 (HH.out.1.new hb1)).mono ?_
  rintro e Y2 ⟨rfl, hy2⟩
  have hb2 : Below W6.heap.size W6 Y2 := Below.trans hb1 (Below.mono hy2 (Below.size hb1))
  refine hK.out _ _ (by (try dsimp only); (first | exact hb6 | exact hb5 | exact hb4 | exact hb3 | exact hb2 | exact hb1 | exact hHeld)) (fun hHeld => ?_)
  clear hK K
  simp only [List.setIfInBounds_toArray, List.set_cons_zero, List.set_cons_succ]
  refine wpAnyH_take (i := 7) (oi := { dst := some 50, op := Op.binOp BinOp.eql 23 (Operand.tmp 49) (Operand.const (Value.int IntKind.u64 3)) 23, type := 4, pos := "law.go:28", after := #[{ on := 6, ground := Ground.data }, { on := 3, ground := Ground.guard }], guard := some (3, true) }) (v := ?vq7r6) rfl (by as_aux_lemma => kernel_rfl) (by as_aux_lemma => kernel_rfl) (by as_aux_lemma => kernel_rfl) (fun _ _ _ h => h) (Or.inl ⟨by rfl, ?yq7r6⟩) (by assumption) ?rq7r6
  case yq7r6 => (intro wS hSw; (try dsimp only at hSw); have kq0 := (Below.cell (p := ⟨b, 0, none⟩) hSw hbl).trans k0; have kq1 := (Below.cell (p := ⟨b, 1, none⟩) hSw hbl).trans k1; have kq2 := (Below.cell (p := ⟨b, 2, none⟩) hSw hbl).trans k2; go_simp <;> with_reducible rfl)
  simp only [Act.put, List.setIfInBounds_toArray, List.set_cons_zero, List.set_cons_succ]
  refine wpAnyH_take (i := 8) (oi := { dst := some 51, op := Op.pick (Operand.tmp 46) (Operand.tmp 50) (Operand.const (Value.bool false)), type := 4, pos := "law.go:28", after := #[{ on := 3, ground := Ground.data }, { on := 7, ground := Ground.data }], guard := none }) (v := ?vq8r6) rfl (by as_aux_lemma => kernel_rfl) (by as_aux_lemma => kernel_rfl) (by as_aux_lemma => kernel_rfl) (fun _ _ _ h => h) (Or.inl ⟨by rfl, ?yq8r6⟩) (by assumption) ?rq8r6
  case yq8r6 => (intro wS hSw; (try dsimp only at hSw); have kq0 := (Below.cell (p := ⟨b, 0, none⟩) hSw hbl).trans k0; have kq1 := (Below.cell (p := ⟨b, 1, none⟩) hSw hbl).trans k1; have kq2 := (Below.cell (p := ⟨b, 2, none⟩) hSw hbl).trans k2; go_simp <;> with_reducible rfl)
  simp only [Act.put, List.setIfInBounds_toArray, List.set_cons_zero, List.set_cons_succ]
  refine wpAnyH_take (i := 9) (oi := { dst := some 52, op := Op.move (Operand.tmp 51), type := 4, pos := "law.go:28", after := #[{ on := 8, ground := Ground.data }, { on := 6, ground := Ground.chain }], guard := none }) (v := ?vq9r6) rfl (by as_aux_lemma => kernel_rfl) (by as_aux_lemma => kernel_rfl) (by as_aux_lemma => kernel_rfl) (fun _ _ _ h => h) (Or.inl ⟨by rfl, ?yq9r6⟩) (by assumption) ?rq9r6
  case yq9r6 => (intro wS hSw; (try dsimp only at hSw); have kq0 := (Below.cell (p := ⟨b, 0, none⟩) hSw hbl).trans k0; have kq1 := (Below.cell (p := ⟨b, 1, none⟩) hSw hbl).trans k1; have kq2 := (Below.cell (p := ⟨b, 2, none⟩) hSw hbl).trans k2; go_simp <;> with_reducible rfl)
  simp only [Act.put, List.setIfInBounds_toArray, List.set_cons_zero, List.set_cons_succ]
  refine wpAnyH_take (i := 10) (oi := { dst := some 53, op := Op.load 27 (Operand.tmp 1), type := 27, pos := "law.go:28", after := #[{ on := 9, ground := Ground.guard }], guard := some (9, true) }) (v := ?vq10r6) rfl (by as_aux_lemma => kernel_rfl) (by as_aux_lemma => kernel_rfl) (by as_aux_lemma => kernel_rfl) (fun _ _ _ h => h) (Or.inl ⟨by rfl, ?yq10r6⟩) (by assumption) ?rq10r6
  case yq10r6 => (intro wS hSw; (try dsimp only at hSw); have kq0 := (Below.cell (p := ⟨b, 0, none⟩) hSw hbl).trans k0; have kq1 := (Below.cell (p := ⟨b, 1, none⟩) hSw hbl).trans k1; have kq2 := (Below.cell (p := ⟨b, 2, none⟩) hSw hbl).trans k2; go_simp <;> with_reducible rfl)
  simp only [Act.put, List.setIfInBounds_toArray, List.set_cons_zero, List.set_cons_succ]
  refine wpAnyH_ready (rs := [11]) (by as_aux_lemma => kernel_rfl) (by simp) ?_
  refine AllReadyH.cons (o := { dst := some 54, op := Op.call { callee := Callee.value (Operand.func 37), args := #[Operand.const (Value.int IntKind.u8 2)], argTypes := #[5] }, type := 29, pos := "law.go:28", after := #[{ on := 9, ground := Ground.chain }, { on := 9, ground := Ground.guard }], guard := some (9, true) }) rfl (fun K hK => ?_) (by exact AllReadyH.nil)
  rw [if_pos (by rfl)]
  go_simp
  refine (HO2.out _).mono ?_
  rintro e Y3 ⟨rfl, hy3⟩
  have hb3 : Below W6.heap.size W6 Y3 := Below.trans hb2 (Below.mono hy3 (Below.size hb2))
  refine hK.out _ _ (by (try dsimp only); (first | exact hb6 | exact hb5 | exact hb4 | exact hb3 | exact hb2 | exact hb1 | exact hHeld)) (fun hHeld => ?_)
  clear hK K
  simp only [List.setIfInBounds_toArray, List.set_cons_zero, List.set_cons_succ]
  refine wpAnyH_ready (rs := [12]) (by as_aux_lemma => kernel_rfl) (by simp) ?_
  refine AllReadyH.cons (o := { dst := some 55, op := Op.call { callee := Callee.value (Operand.func 16), args := #[Operand.tmp 53, Operand.tmp 54], argTypes := #[27, 29] }, type := 23, pos := "law.go:28", after := #[{ on := 10, ground := Ground.data }, { on := 11, ground := Ground.data }, { on := 11, ground := Ground.chain }, { on := 9, ground := Ground.guard }], guard := some (9, true) }) rfl (fun K hK => ?_) (by exact AllReadyH.nil)
  rw [if_pos (by rfl)]
  go_simp
  refine (clear2 _ _ Y3 (HH.out.1.new hb3)).mono ?_
  rintro e Y4 ⟨rfl, hy4⟩
  have hb4 : Below W6.heap.size W6 Y4 := Below.trans hb3 (Below.mono hy4 (Below.size hb3))
  refine hK.out _ _ (by (try dsimp only); (first | exact hb6 | exact hb5 | exact hb4 | exact hb3 | exact hb2 | exact hb1 | exact hHeld)) (fun hHeld => ?_)
  clear hK K
  simp only [List.setIfInBounds_toArray, List.set_cons_zero, List.set_cons_succ]
  refine wpAnyH_take (i := 13) (oi := { dst := some 56, op := Op.binOp BinOp.eql 23 (Operand.tmp 55) (Operand.const (Value.int IntKind.u64 0)) 23, type := 4, pos := "law.go:28", after := #[{ on := 12, ground := Ground.data }, { on := 9, ground := Ground.guard }], guard := some (9, true) }) (v := ?vq13r6) rfl (by as_aux_lemma => kernel_rfl) (by as_aux_lemma => kernel_rfl) (by as_aux_lemma => kernel_rfl) (fun _ _ _ h => h) (Or.inl ⟨by rfl, ?yq13r6⟩) (by assumption) ?rq13r6
  case yq13r6 => (intro wS hSw; (try dsimp only at hSw); have kq0 := (Below.cell (p := ⟨b, 0, none⟩) hSw hbl).trans k0; have kq1 := (Below.cell (p := ⟨b, 1, none⟩) hSw hbl).trans k1; have kq2 := (Below.cell (p := ⟨b, 2, none⟩) hSw hbl).trans k2; go_simp <;> with_reducible rfl)
  simp only [Act.put, List.setIfInBounds_toArray, List.set_cons_zero, List.set_cons_succ]
  refine wpAnyH_take (i := 14) (oi := { dst := some 57, op := Op.pick (Operand.tmp 52) (Operand.tmp 56) (Operand.const (Value.bool false)), type := 4, pos := "law.go:28", after := #[{ on := 9, ground := Ground.data }, { on := 13, ground := Ground.data }], guard := none }) (v := ?vq14r6) rfl (by as_aux_lemma => kernel_rfl) (by as_aux_lemma => kernel_rfl) (by as_aux_lemma => kernel_rfl) (fun _ _ _ h => h) (Or.inl ⟨by rfl, ?yq14r6⟩) (by assumption) ?rq14r6
  case yq14r6 => (intro wS hSw; (try dsimp only at hSw); have kq0 := (Below.cell (p := ⟨b, 0, none⟩) hSw hbl).trans k0; have kq1 := (Below.cell (p := ⟨b, 1, none⟩) hSw hbl).trans k1; have kq2 := (Below.cell (p := ⟨b, 2, none⟩) hSw hbl).trans k2; go_simp <;> with_reducible rfl)
  simp only [Act.put, List.setIfInBounds_toArray, List.set_cons_zero, List.set_cons_succ]
  refine wpAnyH_take (i := 15) (oi := { dst := some 58, op := Op.move (Operand.tmp 57), type := 4, pos := "law.go:28", after := #[{ on := 14, ground := Ground.data }, { on := 12, ground := Ground.chain }], guard := none }) (v := ?vq15r6) rfl (by as_aux_lemma => kernel_rfl) (by as_aux_lemma => kernel_rfl) (by as_aux_lemma => kernel_rfl) (fun _ _ _ h => h) (Or.inl ⟨by rfl, ?yq15r6⟩) (by assumption) ?rq15r6
  case yq15r6 => (intro wS hSw; (try dsimp only at hSw); have kq0 := (Below.cell (p := ⟨b, 0, none⟩) hSw hbl).trans k0; have kq1 := (Below.cell (p := ⟨b, 1, none⟩) hSw hbl).trans k1; have kq2 := (Below.cell (p := ⟨b, 2, none⟩) hSw hbl).trans k2; go_simp <;> with_reducible rfl)
  simp only [Act.put, List.setIfInBounds_toArray, List.set_cons_zero, List.set_cons_succ]
  refine wpAnyH_take (i := 16) (oi := { dst := some 59, op := Op.move (Operand.tmp 3), type := 23, pos := "law.go:28", after := #[{ on := 15, ground := Ground.guard }], guard := some (15, true) }) (v := ?vq16r6) rfl (by as_aux_lemma => kernel_rfl) (by as_aux_lemma => kernel_rfl) (by as_aux_lemma => kernel_rfl) (fun _ _ _ h => h) (Or.inl ⟨by rfl, ?yq16r6⟩) (by assumption) ?rq16r6
  case yq16r6 => (intro wS hSw; (try dsimp only at hSw); have kq0 := (Below.cell (p := ⟨b, 0, none⟩) hSw hbl).trans k0; have kq1 := (Below.cell (p := ⟨b, 1, none⟩) hSw hbl).trans k1; have kq2 := (Below.cell (p := ⟨b, 2, none⟩) hSw hbl).trans k2; go_simp <;> with_reducible rfl)
  simp only [Act.put, List.setIfInBounds_toArray, List.set_cons_zero, List.set_cons_succ]
  refine wpAnyH_take (i := 17) (oi := { dst := some 60, op := Op.binOp BinOp.eql 23 (Operand.tmp 59) (Operand.const (Value.int IntKind.u64 2)) 23, type := 4, pos := "law.go:28", after := #[{ on := 16, ground := Ground.data }, { on := 15, ground := Ground.guard }], guard := some (15, true) }) (v := ?vq17r6) rfl (by as_aux_lemma => kernel_rfl) (by as_aux_lemma => kernel_rfl) (by as_aux_lemma => kernel_rfl) (fun _ _ _ h => h) (Or.inl ⟨by rfl, ?yq17r6⟩) (by assumption) ?rq17r6
  case yq17r6 => (intro wS hSw; (try dsimp only at hSw); have kq0 := (Below.cell (p := ⟨b, 0, none⟩) hSw hbl).trans k0; have kq1 := (Below.cell (p := ⟨b, 1, none⟩) hSw hbl).trans k1; have kq2 := (Below.cell (p := ⟨b, 2, none⟩) hSw hbl).trans k2; go_simp <;> with_reducible rfl)
  simp only [Act.put, List.setIfInBounds_toArray, List.set_cons_zero, List.set_cons_succ]
  refine wpAnyH_take (i := 18) (oi := { dst := some 61, op := Op.pick (Operand.tmp 58) (Operand.tmp 60) (Operand.const (Value.bool false)), type := 4, pos := "law.go:28", after := #[{ on := 15, ground := Ground.data }, { on := 17, ground := Ground.data }], guard := none }) (v := ?vq18r6) rfl (by as_aux_lemma => kernel_rfl) (by as_aux_lemma => kernel_rfl) (by as_aux_lemma => kernel_rfl) (fun _ _ _ h => h) (Or.inl ⟨by rfl, ?yq18r6⟩) (by assumption) ?rq18r6
  case yq18r6 => (intro wS hSw; (try dsimp only at hSw); have kq0 := (Below.cell (p := ⟨b, 0, none⟩) hSw hbl).trans k0; have kq1 := (Below.cell (p := ⟨b, 1, none⟩) hSw hbl).trans k1; have kq2 := (Below.cell (p := ⟨b, 2, none⟩) hSw hbl).trans k2; go_simp <;> with_reducible rfl)
  simp only [Act.put, List.setIfInBounds_toArray, List.set_cons_zero, List.set_cons_succ]
  refine wpAnyH_take (i := 19) (oi := { dst := some 62, op := Op.move (Operand.tmp 61), type := 4, pos := "law.go:28", after := #[{ on := 18, ground := Ground.data }, { on := 15, ground := Ground.chain }], guard := none }) (v := ?vq19r6) rfl (by as_aux_lemma => kernel_rfl) (by as_aux_lemma => kernel_rfl) (by as_aux_lemma => kernel_rfl) (fun _ _ _ h => h) (Or.inl ⟨by rfl, ?yq19r6⟩) (by assumption) ?rq19r6
  case yq19r6 => (intro wS hSw; (try dsimp only at hSw); have kq0 := (Below.cell (p := ⟨b, 0, none⟩) hSw hbl).trans k0; have kq1 := (Below.cell (p := ⟨b, 1, none⟩) hSw hbl).trans k1; have kq2 := (Below.cell (p := ⟨b, 2, none⟩) hSw hbl).trans k2; go_simp <;> with_reducible rfl)
  simp only [Act.put, List.setIfInBounds_toArray, List.set_cons_zero, List.set_cons_succ]
  refine wpAnyH_take (i := 20) (oi := { dst := some 63, op := Op.move (Operand.tmp 4), type := 4, pos := "law.go:28", after := #[{ on := 19, ground := Ground.guard }], guard := some (19, true) }) (v := ?vq20r6) rfl (by as_aux_lemma => kernel_rfl) (by as_aux_lemma => kernel_rfl) (by as_aux_lemma => kernel_rfl) (fun _ _ _ h => h) (Or.inl ⟨by rfl, ?yq20r6⟩) (by assumption) ?rq20r6
  case yq20r6 => (intro wS hSw; (try dsimp only at hSw); have kq0 := (Below.cell (p := ⟨b, 0, none⟩) hSw hbl).trans k0; have kq1 := (Below.cell (p := ⟨b, 1, none⟩) hSw hbl).trans k1; have kq2 := (Below.cell (p := ⟨b, 2, none⟩) hSw hbl).trans k2; go_simp <;> with_reducible rfl)
  simp only [Act.put, List.setIfInBounds_toArray, List.set_cons_zero, List.set_cons_succ]
  refine wpAnyH_take (i := 21) (oi := { dst := some 64, op := Op.pick (Operand.tmp 62) (Operand.tmp 63) (Operand.const (Value.bool false)), type := 4, pos := "law.go:28", after := #[{ on := 19, ground := Ground.data }, { on := 20, ground := Ground.data }], guard := none }) (v := ?vq21r6) rfl (by as_aux_lemma => kernel_rfl) (by as_aux_lemma => kernel_rfl) (by as_aux_lemma => kernel_rfl) (fun _ _ _ h => h) (Or.inl ⟨by rfl, ?yq21r6⟩) (by assumption) ?rq21r6
  case yq21r6 => (intro wS hSw; (try dsimp only at hSw); have kq0 := (Below.cell (p := ⟨b, 0, none⟩) hSw hbl).trans k0; have kq1 := (Below.cell (p := ⟨b, 1, none⟩) hSw hbl).trans k1; have kq2 := (Below.cell (p := ⟨b, 2, none⟩) hSw hbl).trans k2; go_simp <;> with_reducible rfl)
  simp only [Act.put, List.setIfInBounds_toArray, List.set_cons_zero, List.set_cons_succ]
  refine wpAnyH_take (i := 22) (oi := { dst := some 65, op := Op.move (Operand.tmp 64), type := 4, pos := "law.go:28", after := #[{ on := 21, ground := Ground.data }, { on := 19, ground := Ground.chain }], guard := none }) (v := ?vq22r6) rfl (by as_aux_lemma => kernel_rfl) (by as_aux_lemma => kernel_rfl) (by as_aux_lemma => kernel_rfl) (fun _ _ _ h => h) (Or.inl ⟨by rfl, ?yq22r6⟩) (by assumption) ?rq22r6
  case yq22r6 => (intro wS hSw; (try dsimp only at hSw); have kq0 := (Below.cell (p := ⟨b, 0, none⟩) hSw hbl).trans k0; have kq1 := (Below.cell (p := ⟨b, 1, none⟩) hSw hbl).trans k1; have kq2 := (Below.cell (p := ⟨b, 2, none⟩) hSw hbl).trans k2; go_simp <;> with_reducible rfl)
  simp only [Act.put, List.setIfInBounds_toArray, List.set_cons_zero, List.set_cons_succ]
  refine wpAnyH_take (i := 23) (oi := { dst := some 66, op := Op.move (Operand.tmp 5), type := 23, pos := "law.go:28", after := #[{ on := 22, ground := Ground.guard }], guard := some (22, true) }) (v := ?vq23r6) rfl (by as_aux_lemma => kernel_rfl) (by as_aux_lemma => kernel_rfl) (by as_aux_lemma => kernel_rfl) (fun _ _ _ h => h) (Or.inl ⟨by rfl, ?yq23r6⟩) (by assumption) ?rq23r6
  case yq23r6 => (intro wS hSw; (try dsimp only at hSw); have kq0 := (Below.cell (p := ⟨b, 0, none⟩) hSw hbl).trans k0; have kq1 := (Below.cell (p := ⟨b, 1, none⟩) hSw hbl).trans k1; have kq2 := (Below.cell (p := ⟨b, 2, none⟩) hSw hbl).trans k2; go_simp <;> with_reducible rfl)
  simp only [Act.put, List.setIfInBounds_toArray, List.set_cons_zero, List.set_cons_succ]
  refine wpAnyH_take (i := 24) (oi := { dst := some 67, op := Op.binOp BinOp.eql 23 (Operand.tmp 66) (Operand.const (Value.int IntKind.u64 0)) 23, type := 4, pos := "law.go:28", after := #[{ on := 23, ground := Ground.data }, { on := 22, ground := Ground.guard }], guard := some (22, true) }) (v := ?vq24r6) rfl (by as_aux_lemma => kernel_rfl) (by as_aux_lemma => kernel_rfl) (by as_aux_lemma => kernel_rfl) (fun _ _ _ h => h) (Or.inl ⟨by rfl, ?yq24r6⟩) (by assumption) ?rq24r6
  case yq24r6 => (intro wS hSw; (try dsimp only at hSw); have kq0 := (Below.cell (p := ⟨b, 0, none⟩) hSw hbl).trans k0; have kq1 := (Below.cell (p := ⟨b, 1, none⟩) hSw hbl).trans k1; have kq2 := (Below.cell (p := ⟨b, 2, none⟩) hSw hbl).trans k2; go_simp <;> with_reducible rfl)
  simp only [Act.put, List.setIfInBounds_toArray, List.set_cons_zero, List.set_cons_succ]
  refine wpAnyH_take (i := 25) (oi := { dst := some 68, op := Op.pick (Operand.tmp 65) (Operand.tmp 67) (Operand.const (Value.bool false)), type := 4, pos := "law.go:28", after := #[{ on := 22, ground := Ground.data }, { on := 24, ground := Ground.data }], guard := none }) (v := ?vq25r6) rfl (by as_aux_lemma => kernel_rfl) (by as_aux_lemma => kernel_rfl) (by as_aux_lemma => kernel_rfl) (fun _ _ _ h => h) (Or.inl ⟨by rfl, ?yq25r6⟩) (by assumption) ?rq25r6
  case yq25r6 => (intro wS hSw; (try dsimp only at hSw); have kq0 := (Below.cell (p := ⟨b, 0, none⟩) hSw hbl).trans k0; have kq1 := (Below.cell (p := ⟨b, 1, none⟩) hSw hbl).trans k1; have kq2 := (Below.cell (p := ⟨b, 2, none⟩) hSw hbl).trans k2; go_simp <;> with_reducible rfl)
  simp only [Act.put, List.setIfInBounds_toArray, List.set_cons_zero, List.set_cons_succ]
  refine wpAnyH_take (i := 26) (oi := { dst := some 69, op := Op.move (Operand.tmp 68), type := 4, pos := "law.go:28", after := #[{ on := 25, ground := Ground.data }, { on := 22, ground := Ground.chain }], guard := none }) (v := ?vq26r6) rfl (by as_aux_lemma => kernel_rfl) (by as_aux_lemma => kernel_rfl) (by as_aux_lemma => kernel_rfl) (fun _ _ _ h => h) (Or.inl ⟨by rfl, ?yq26r6⟩) (by assumption) ?rq26r6
  case yq26r6 => (intro wS hSw; (try dsimp only at hSw); have kq0 := (Below.cell (p := ⟨b, 0, none⟩) hSw hbl).trans k0; have kq1 := (Below.cell (p := ⟨b, 1, none⟩) hSw hbl).trans k1; have kq2 := (Below.cell (p := ⟨b, 2, none⟩) hSw hbl).trans k2; go_simp <;> with_reducible rfl)
  simp only [Act.put, List.setIfInBounds_toArray, List.set_cons_zero, List.set_cons_succ]
  refine wpAnyH_take (i := 27) (oi := { dst := some 70, op := Op.move (Operand.tmp 6), type := 4, pos := "law.go:28", after := #[{ on := 26, ground := Ground.guard }], guard := some (26, true) }) (v := ?vq27r6) rfl (by as_aux_lemma => kernel_rfl) (by as_aux_lemma => kernel_rfl) (by as_aux_lemma => kernel_rfl) (fun _ _ _ h => h) (Or.inl ⟨by rfl, ?yq27r6⟩) (by assumption) ?rq27r6
  case yq27r6 => (intro wS hSw; (try dsimp only at hSw); have kq0 := (Below.cell (p := ⟨b, 0, none⟩) hSw hbl).trans k0; have kq1 := (Below.cell (p := ⟨b, 1, none⟩) hSw hbl).trans k1; have kq2 := (Below.cell (p := ⟨b, 2, none⟩) hSw hbl).trans k2; go_simp <;> with_reducible rfl)
  simp only [Act.put, List.setIfInBounds_toArray, List.set_cons_zero, List.set_cons_succ]
  refine wpAnyH_take (i := 28) (oi := { dst := some 71, op := Op.unOp UnOp.not 4 (Operand.tmp 70), type := 4, pos := "law.go:28", after := #[{ on := 27, ground := Ground.data }, { on := 26, ground := Ground.guard }], guard := some (26, true) }) (v := ?vq28r6) rfl (by as_aux_lemma => kernel_rfl) (by as_aux_lemma => kernel_rfl) (by as_aux_lemma => kernel_rfl) (fun _ _ _ h => h) (Or.inl ⟨by rfl, ?yq28r6⟩) (by assumption) ?rq28r6
  case yq28r6 => (intro wS hSw; (try dsimp only at hSw); have kq0 := (Below.cell (p := ⟨b, 0, none⟩) hSw hbl).trans k0; have kq1 := (Below.cell (p := ⟨b, 1, none⟩) hSw hbl).trans k1; have kq2 := (Below.cell (p := ⟨b, 2, none⟩) hSw hbl).trans k2; go_simp <;> with_reducible rfl)
  simp only [Act.put, List.setIfInBounds_toArray, List.set_cons_zero, List.set_cons_succ]
  refine wpAnyH_take (i := 29) (oi := { dst := some 72, op := Op.pick (Operand.tmp 69) (Operand.tmp 71) (Operand.const (Value.bool false)), type := 4, pos := "law.go:28", after := #[{ on := 26, ground := Ground.data }, { on := 28, ground := Ground.data }], guard := none }) (v := ?vq29r6) rfl (by as_aux_lemma => kernel_rfl) (by as_aux_lemma => kernel_rfl) (by as_aux_lemma => kernel_rfl) (fun _ _ _ h => h) (Or.inl ⟨by rfl, ?yq29r6⟩) (by assumption) ?rq29r6
  case yq29r6 => (intro wS hSw; (try dsimp only at hSw); have kq0 := (Below.cell (p := ⟨b, 0, none⟩) hSw hbl).trans k0; have kq1 := (Below.cell (p := ⟨b, 1, none⟩) hSw hbl).trans k1; have kq2 := (Below.cell (p := ⟨b, 2, none⟩) hSw hbl).trans k2; go_simp <;> with_reducible rfl)
  simp only [Act.put, List.setIfInBounds_toArray, List.set_cons_zero, List.set_cons_succ]
  refine wpAnyH_take (i := 30) (oi := { dst := some 73, op := Op.move (Operand.tmp 72), type := 4, pos := "law.go:28", after := #[{ on := 29, ground := Ground.data }, { on := 26, ground := Ground.chain }], guard := none }) (v := ?vq30r6) rfl (by as_aux_lemma => kernel_rfl) (by as_aux_lemma => kernel_rfl) (by as_aux_lemma => kernel_rfl) (fun _ _ _ h => h) (Or.inl ⟨by rfl, ?yq30r6⟩) (by assumption) ?rq30r6
  case yq30r6 => (intro wS hSw; (try dsimp only at hSw); have kq0 := (Below.cell (p := ⟨b, 0, none⟩) hSw hbl).trans k0; have kq1 := (Below.cell (p := ⟨b, 1, none⟩) hSw hbl).trans k1; have kq2 := (Below.cell (p := ⟨b, 2, none⟩) hSw hbl).trans k2; go_simp <;> with_reducible rfl)
  simp only [Act.put, List.setIfInBounds_toArray, List.set_cons_zero, List.set_cons_succ]
  refine wpAnyH_take (i := 31) (oi := { dst := some 74, op := Op.move (Operand.tmp 7), type := 36, pos := "law.go:28", after := #[{ on := 30, ground := Ground.guard }], guard := some (30, true) }) (v := ?vq31r6) rfl (by as_aux_lemma => kernel_rfl) (by as_aux_lemma => kernel_rfl) (by as_aux_lemma => kernel_rfl) (fun _ _ _ h => h) (Or.inl ⟨by rfl, ?yq31r6⟩) (by assumption) ?rq31r6
  case yq31r6 => (intro wS hSw; (try dsimp only at hSw); have kq0 := (Below.cell (p := ⟨b, 0, none⟩) hSw hbl).trans k0; have kq1 := (Below.cell (p := ⟨b, 1, none⟩) hSw hbl).trans k1; have kq2 := (Below.cell (p := ⟨b, 2, none⟩) hSw hbl).trans k2; go_simp <;> with_reducible rfl)
  simp only [Act.put, List.setIfInBounds_toArray, List.set_cons_zero, List.set_cons_succ]
  refine wpAnyH_ready (rs := [32]) (by as_aux_lemma => kernel_rfl) (by simp) ?_
  refine AllReadyH.cons (o := { dst := some 75, op := Op.call { callee := Callee.value (Operand.func 13), args := #[Operand.tmp 74], argTypes := #[36] }, type := 3, pos := "law.go:28", after := #[{ on := 31, ground := Ground.data }, { on := 30, ground := Ground.chain }, { on := 30, ground := Ground.guard }], guard := some (30, true) }) rfl (fun K hK => ?_) (by exact AllReadyH.nil)
  rw [if_pos (by rfl)]
  go_simp
  refine (num_any9 _ _).mono ?_
  rintro e Yz ⟨rfl, rfl⟩
  refine hK.out _ _ (by (try dsimp only); (first | exact hb6 | exact hb5 | exact hb4 | exact hb3 | exact hb2 | exact hb1 | exact hHeld)) (fun hHeld => ?_)
  clear hK K
  simp only [List.setIfInBounds_toArray, List.set_cons_zero, List.set_cons_succ]
  refine wpAnyH_take (i := 33) (oi := { dst := some 76, op := Op.binOp BinOp.eql 3 (Operand.tmp 75) (Operand.const (Value.int IntKind.i64 2)) 3, type := 4, pos := "law.go:28", after := #[{ on := 32, ground := Ground.data }, { on := 30, ground := Ground.guard }], guard := some (30, true) }) (v := ?vq33r6) rfl (by as_aux_lemma => kernel_rfl) (by as_aux_lemma => kernel_rfl) (by as_aux_lemma => kernel_rfl) (fun _ _ _ h => h) (Or.inl ⟨by rfl, ?yq33r6⟩) (by assumption) ?rq33r6
  case yq33r6 => (intro wS hSw; (try dsimp only at hSw); have kq0 := (Below.cell (p := ⟨b, 0, none⟩) hSw hbl).trans k0; have kq1 := (Below.cell (p := ⟨b, 1, none⟩) hSw hbl).trans k1; have kq2 := (Below.cell (p := ⟨b, 2, none⟩) hSw hbl).trans k2; go_simp <;> with_reducible rfl)
  simp only [Act.put, List.setIfInBounds_toArray, List.set_cons_zero, List.set_cons_succ]
  refine wpAnyH_take (i := 34) (oi := { dst := some 77, op := Op.pick (Operand.tmp 73) (Operand.tmp 76) (Operand.const (Value.bool false)), type := 4, pos := "law.go:28", after := #[{ on := 30, ground := Ground.data }, { on := 33, ground := Ground.data }], guard := none }) (v := ?vq34r6) rfl (by as_aux_lemma => kernel_rfl) (by as_aux_lemma => kernel_rfl) (by as_aux_lemma => kernel_rfl) (fun _ _ _ h => h) (Or.inl ⟨by rfl, ?yq34r6⟩) (by assumption) ?rq34r6
  case yq34r6 => (intro wS hSw; (try dsimp only at hSw); have kq0 := (Below.cell (p := ⟨b, 0, none⟩) hSw hbl).trans k0; have kq1 := (Below.cell (p := ⟨b, 1, none⟩) hSw hbl).trans k1; have kq2 := (Below.cell (p := ⟨b, 2, none⟩) hSw hbl).trans k2; go_simp <;> with_reducible rfl)
  simp only [Act.put, List.setIfInBounds_toArray, List.set_cons_zero, List.set_cons_succ]
  refine wpAnyH_take (i := 35) (oi := { dst := some 78, op := Op.move (Operand.tmp 77), type := 4, pos := "law.go:28", after := #[{ on := 34, ground := Ground.data }, { on := 32, ground := Ground.chain }], guard := none }) (v := ?vq35r6) rfl (by as_aux_lemma => kernel_rfl) (by as_aux_lemma => kernel_rfl) (by as_aux_lemma => kernel_rfl) (fun _ _ _ h => h) (Or.inl ⟨by rfl, ?yq35r6⟩) (by assumption) ?rq35r6
  case yq35r6 => (intro wS hSw; (try dsimp only at hSw); have kq0 := (Below.cell (p := ⟨b, 0, none⟩) hSw hbl).trans k0; have kq1 := (Below.cell (p := ⟨b, 1, none⟩) hSw hbl).trans k1; have kq2 := (Below.cell (p := ⟨b, 2, none⟩) hSw hbl).trans k2; go_simp <;> with_reducible rfl)
  simp only [Act.put, List.setIfInBounds_toArray, List.set_cons_zero, List.set_cons_succ]
  refine wpAnyH_take (i := 36) (oi := { dst := some 79, op := Op.move (Operand.tmp 9), type := 36, pos := "law.go:28", after := #[{ on := 35, ground := Ground.guard }], guard := some (35, true) }) (v := ?vq36r6) rfl (by as_aux_lemma => kernel_rfl) (by as_aux_lemma => kernel_rfl) (by as_aux_lemma => kernel_rfl) (fun _ _ _ h => h) (Or.inl ⟨by rfl, ?yq36r6⟩) (by assumption) ?rq36r6
  case yq36r6 => (intro wS hSw; (try dsimp only at hSw); have kq0 := (Below.cell (p := ⟨b, 0, none⟩) hSw hbl).trans k0; have kq1 := (Below.cell (p := ⟨b, 1, none⟩) hSw hbl).trans k1; have kq2 := (Below.cell (p := ⟨b, 2, none⟩) hSw hbl).trans k2; go_simp <;> with_reducible rfl)
  simp only [Act.put, List.setIfInBounds_toArray, List.set_cons_zero, List.set_cons_succ]
  refine wpAnyH_ready (rs := [37]) (by as_aux_lemma => kernel_rfl) (by simp) ?_
  refine AllReadyH.cons (o := { dst := some 80, op := Op.call { callee := Callee.value (Operand.func 13), args := #[Operand.tmp 79], argTypes := #[36] }, type := 3, pos := "law.go:28", after := #[{ on := 36, ground := Ground.data }, { on := 35, ground := Ground.chain }, { on := 35, ground := Ground.guard }], guard := some (35, true) }) rfl (fun K hK => ?_) (by exact AllReadyH.nil)
  rw [if_pos (by rfl)]
  go_simp
  refine (num_any9 _ _).mono ?_
  rintro e Yz ⟨rfl, rfl⟩
  refine hK.out _ _ (by (try dsimp only); (first | exact hb6 | exact hb5 | exact hb4 | exact hb3 | exact hb2 | exact hb1 | exact hHeld)) (fun hHeld => ?_)
  clear hK K
  simp only [List.setIfInBounds_toArray, List.set_cons_zero, List.set_cons_succ]
  refine wpAnyH_take (i := 38) (oi := { dst := some 81, op := Op.binOp BinOp.eql 3 (Operand.tmp 80) (Operand.const (Value.int IntKind.i64 190)) 3, type := 4, pos := "law.go:28", after := #[{ on := 37, ground := Ground.data }, { on := 35, ground := Ground.guard }], guard := some (35, true) }) (v := ?vq38r6) rfl (by as_aux_lemma => kernel_rfl) (by as_aux_lemma => kernel_rfl) (by as_aux_lemma => kernel_rfl) (fun _ _ _ h => h) (Or.inl ⟨by rfl, ?yq38r6⟩) (by assumption) ?rq38r6
  case yq38r6 => (intro wS hSw; (try dsimp only at hSw); have kq0 := (Below.cell (p := ⟨b, 0, none⟩) hSw hbl).trans k0; have kq1 := (Below.cell (p := ⟨b, 1, none⟩) hSw hbl).trans k1; have kq2 := (Below.cell (p := ⟨b, 2, none⟩) hSw hbl).trans k2; go_simp <;> with_reducible rfl)
  simp only [Act.put, List.setIfInBounds_toArray, List.set_cons_zero, List.set_cons_succ]
  refine wpAnyH_take (i := 39) (oi := { dst := some 82, op := Op.pick (Operand.tmp 78) (Operand.tmp 81) (Operand.const (Value.bool false)), type := 4, pos := "law.go:28", after := #[{ on := 35, ground := Ground.data }, { on := 38, ground := Ground.data }], guard := none }) (v := ?vq39r6) rfl (by as_aux_lemma => kernel_rfl) (by as_aux_lemma => kernel_rfl) (by as_aux_lemma => kernel_rfl) (fun _ _ _ h => h) (Or.inl ⟨by rfl, ?yq39r6⟩) (by assumption) ?rq39r6
  case yq39r6 => (intro wS hSw; (try dsimp only at hSw); have kq0 := (Below.cell (p := ⟨b, 0, none⟩) hSw hbl).trans k0; have kq1 := (Below.cell (p := ⟨b, 1, none⟩) hSw hbl).trans k1; have kq2 := (Below.cell (p := ⟨b, 2, none⟩) hSw hbl).trans k2; go_simp <;> with_reducible rfl)
  simp only [Act.put, List.setIfInBounds_toArray, List.set_cons_zero, List.set_cons_succ]
  refine wpAnyH_take (i := 40) (oi := { dst := some 83, op := Op.move (Operand.tmp 82), type := 4, pos := "law.go:28", after := #[{ on := 39, ground := Ground.data }, { on := 37, ground := Ground.chain }], guard := none }) (v := ?vq40r6) rfl (by as_aux_lemma => kernel_rfl) (by as_aux_lemma => kernel_rfl) (by as_aux_lemma => kernel_rfl) (fun _ _ _ h => h) (Or.inl ⟨by rfl, ?yq40r6⟩) (by assumption) ?rq40r6
  case yq40r6 => (intro wS hSw; (try dsimp only at hSw); have kq0 := (Below.cell (p := ⟨b, 0, none⟩) hSw hbl).trans k0; have kq1 := (Below.cell (p := ⟨b, 1, none⟩) hSw hbl).trans k1; have kq2 := (Below.cell (p := ⟨b, 2, none⟩) hSw hbl).trans k2; go_simp <;> with_reducible rfl)
  simp only [Act.put, List.setIfInBounds_toArray, List.set_cons_zero, List.set_cons_succ]
  refine wpAnyH_take (i := 41) (oi := { dst := some 84, op := Op.build 58 #[(0, Operand.const (Value.int IntKind.u64 5)), (1, Operand.const (Value.int IntKind.u64 0)), (2, Operand.const (Value.int IntKind.u64 4294967296)), (3, Operand.const (Value.int IntKind.u64 0))], type := 58, pos := "law.go:28", after := #[{ on := 40, ground := Ground.guard }], guard := some (40, true) }) (v := ?vq41r6) rfl (by as_aux_lemma => kernel_rfl) (by as_aux_lemma => kernel_rfl) (by as_aux_lemma => kernel_rfl) (fun _ _ _ h => h) (Or.inl ⟨by rfl, ?yq41r6⟩) (by assumption) ?rq41r6
  case yq41r6 => (intro wS hSw; (try dsimp only at hSw); have kq0 := (Below.cell (p := ⟨b, 0, none⟩) hSw hbl).trans k0; have kq1 := (Below.cell (p := ⟨b, 1, none⟩) hSw hbl).trans k1; have kq2 := (Below.cell (p := ⟨b, 2, none⟩) hSw hbl).trans k2; go_simp <;> with_reducible rfl)
  simp only [Act.put, List.setIfInBounds_toArray, List.set_cons_zero, List.set_cons_succ]
  refine wpAnyH_ready (rs := [42]) (by as_aux_lemma => kernel_rfl) (by simp) ?_
  refine AllReadyH.cons (o := { dst := some 85, op := Op.call { callee := Callee.value (Operand.func 34), args := #[Operand.tmp 84], argTypes := #[58] }, type := 29, pos := "law.go:28", after := #[{ on := 41, ground := Ground.data }, { on := 40, ground := Ground.chain }, { on := 40, ground := Ground.guard }], guard := some (40, true) }) rfl (fun K hK => ?_) (by exact AllReadyH.nil)
  rw [if_pos (by rfl)]
  go_simp
  refine (of_word Y4).mono ?_
  rintro e Y5 ⟨rfl, hy5⟩
  have hb5 : Below W6.heap.size W6 Y5 := Below.trans hb4 (Below.mono hy5 (Below.size hb4))
  refine hK.out _ _ (by (try dsimp only); (first | exact hb6 | exact hb5 | exact hb4 | exact hb3 | exact hb2 | exact hb1 | exact hHeld)) (fun hHeld => ?_)
  clear hK K
  simp only [List.setIfInBounds_toArray, List.set_cons_zero, List.set_cons_succ]
  refine wpAnyH_ready (rs := [43]) (by as_aux_lemma => kernel_rfl) (by simp) ?_
  refine AllReadyH.cons (o := { dst := some 86, op := Op.call { callee := Callee.value (Operand.func 37), args := #[Operand.const (Value.int IntKind.u8 5)], argTypes := #[5] }, type := 29, pos := "law.go:28", after := #[{ on := 42, ground := Ground.chain }, { on := 40, ground := Ground.guard }], guard := some (40, true) }) rfl (fun K hK => ?_) (by exact AllReadyH.nil)
  rw [if_pos (by rfl)]
  go_simp
  refine (HO5.out _).mono ?_
  rintro e Y6 ⟨rfl, hy6⟩
  have hb6 : Below W6.heap.size W6 Y6 := Below.trans hb5 (Below.mono hy6 (Below.size hb5))
  refine hK.out _ _ (by (try dsimp only); (first | exact hb6 | exact hb5 | exact hb4 | exact hb3 | exact hb2 | exact hb1 | exact hHeld)) (fun hHeld => ?_)
  clear hK K
  simp only [List.setIfInBounds_toArray, List.set_cons_zero, List.set_cons_succ]
  refine wpAnyH_take (i := 44) (oi := { dst := some 87, op := Op.binOp BinOp.eql 29 (Operand.tmp 85) (Operand.tmp 86) 29, type := 4, pos := "law.go:28", after := #[{ on := 42, ground := Ground.data }, { on := 43, ground := Ground.data }, { on := 40, ground := Ground.guard }], guard := some (40, true) }) (v := ?vq44r6) rfl (by as_aux_lemma => kernel_rfl) (by as_aux_lemma => kernel_rfl) (by as_aux_lemma => kernel_rfl) (fun _ _ _ h => h) (Or.inl ⟨by rfl, ?yq44r6⟩) (by assumption) ?rq44r6
  case yq44r6 => (intro wS hSw; (try dsimp only at hSw); have kq0 := (Below.cell (p := ⟨b, 0, none⟩) hSw hbl).trans k0; have kq1 := (Below.cell (p := ⟨b, 1, none⟩) hSw hbl).trans k1; have kq2 := (Below.cell (p := ⟨b, 2, none⟩) hSw hbl).trans k2; go_simp <;> with_reducible rfl)
  simp only [Act.put, List.setIfInBounds_toArray, List.set_cons_zero, List.set_cons_succ]
  refine wpAnyH_take (i := 45) (oi := { dst := some 88, op := Op.pick (Operand.tmp 83) (Operand.tmp 87) (Operand.const (Value.bool false)), type := 4, pos := "law.go:28", after := #[{ on := 40, ground := Ground.data }, { on := 44, ground := Ground.data }], guard := none }) (v := ?vq45r6) rfl (by as_aux_lemma => kernel_rfl) (by as_aux_lemma => kernel_rfl) (by as_aux_lemma => kernel_rfl) (fun _ _ _ h => h) (Or.inl ⟨by rfl, ?yq45r6⟩) (by assumption) ?rq45r6
  case yq45r6 => (intro wS hSw; (try dsimp only at hSw); have kq0 := (Below.cell (p := ⟨b, 0, none⟩) hSw hbl).trans k0; have kq1 := (Below.cell (p := ⟨b, 1, none⟩) hSw hbl).trans k1; have kq2 := (Below.cell (p := ⟨b, 2, none⟩) hSw hbl).trans k2; go_simp <;> with_reducible rfl)
  simp only [Act.put, List.setIfInBounds_toArray, List.set_cons_zero, List.set_cons_succ]
  refine wpAnyH_take (i := 46) (oi := { dst := some 0, op := Op.assign (Operand.tmp 88), type := 4, pos := "law.go:28", after := #[{ on := 45, ground := Ground.data }, { on := 43, ground := Ground.chain }, { on := 0, ground := Ground.phase }, { on := 1, ground := Ground.phase }, { on := 2, ground := Ground.phase }, { on := 3, ground := Ground.phase }, { on := 4, ground := Ground.phase }, { on := 5, ground := Ground.phase }, { on := 6, ground := Ground.phase }, { on := 7, ground := Ground.phase }, { on := 8, ground := Ground.phase }, { on := 9, ground := Ground.phase }, { on := 10, ground := Ground.phase }, { on := 11, ground := Ground.phase }, { on := 12, ground := Ground.phase }, { on := 13, ground := Ground.phase }, { on := 14, ground := Ground.phase }, { on := 15, ground := Ground.phase }, { on := 16, ground := Ground.phase }, { on := 17, ground := Ground.phase }, { on := 18, ground := Ground.phase }, { on := 19, ground := Ground.phase }, { on := 20, ground := Ground.phase }, { on := 21, ground := Ground.phase }, { on := 22, ground := Ground.phase }, { on := 23, ground := Ground.phase }, { on := 24, ground := Ground.phase }, { on := 25, ground := Ground.phase }, { on := 26, ground := Ground.phase }, { on := 27, ground := Ground.phase }, { on := 28, ground := Ground.phase }, { on := 29, ground := Ground.phase }, { on := 30, ground := Ground.phase }, { on := 31, ground := Ground.phase }, { on := 32, ground := Ground.phase }, { on := 33, ground := Ground.phase }, { on := 34, ground := Ground.phase }, { on := 35, ground := Ground.phase }, { on := 36, ground := Ground.phase }, { on := 37, ground := Ground.phase }, { on := 38, ground := Ground.phase }, { on := 39, ground := Ground.phase }, { on := 40, ground := Ground.phase }, { on := 41, ground := Ground.phase }, { on := 42, ground := Ground.phase }, { on := 43, ground := Ground.phase }, { on := 44, ground := Ground.phase }, { on := 45, ground := Ground.phase }], guard := none }) (v := ?vq46r6) rfl (by as_aux_lemma => kernel_rfl) (by as_aux_lemma => kernel_rfl) (by as_aux_lemma => kernel_rfl) (fun _ _ _ h => h) (Or.inl ⟨by rfl, ?yq46r6⟩) (by assumption) ?rq46r6
  case yq46r6 => (intro wS hSw; (try dsimp only at hSw); have kq0 := (Below.cell (p := ⟨b, 0, none⟩) hSw hbl).trans k0; have kq1 := (Below.cell (p := ⟨b, 1, none⟩) hSw hbl).trans k1; have kq2 := (Below.cell (p := ⟨b, 2, none⟩) hSw hbl).trans k2; go_simp <;> with_reducible rfl)
  simp only [Act.put, List.setIfInBounds_toArray, List.set_cons_zero, List.set_cons_succ]
  refine wpAnyH_done (by as_aux_lemma => kernel_rfl) ?_ _
  clear hHeld
  have HE := Lib.hid (show Below w.heap.size w Y6 from HH.out.2.2.trans (Below.mono hb6 HH.out.2.2.size))
  clear hb1 hb2 hb3 hb4 hb5 hb6 hy1 hy2 hy3 hy4 hy5 hy6
  go_wp2_with fail
  go_ret
  exact ⟨rfl, HE.out⟩
end Go.Proofs.YtenepkgjdoddgaaGreatDoor
