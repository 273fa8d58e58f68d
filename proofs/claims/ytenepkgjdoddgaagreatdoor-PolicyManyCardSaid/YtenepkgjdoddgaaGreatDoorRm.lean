/- policy's laws: PolicyChecks: the walk (works is a premise). -/
import Derived.Test.YtenepkgjdoddgaaGreatDoorRl
namespace Go.Proofs.YtenepkgjdoddgaaGreatDoor
open Go.RowKit Go.Shelf

set_option maxRecDepth 100000 in
theorem num_any9 (k : Int) (w : World) : Calls Tryz.prog 13 #[.int .i64 k] w fun e w' => e = .returned (.int .i64 k) ∧ w = w' := by
  go_enter Tryz.func13, Tryz.ntmps13
  go_wp2_with fail
  go_ret
  exact ⟨rfl, rfl⟩
set_option maxRecDepth 100000 in
set_option maxHeartbeats 2000000 in
theorem few_any (d : Int) (x1 x2 : Option Addr) (n1 c1 n2 c2 : Nat) (w : World) :
    Calls Tryz.prog 9 #[.agg #[.int .u64 d, .slice x1 n1 c1, .slice x2 n2 c2], .int .i64 20] w fun e w' => e = .returned (.bool (decide (n1 ≤ 20 ∧ n2 ≤ 20))) ∧ Below w.heap.size w w' := by
  have HB := Lib.hid (balloc (Below.refl w.heap.size w) (.cells #[.int .u64 d, .slice x1 n1 c1, .slice x2 n2 c2] 27))
  by_cases h1 : n1 ≤ 20
  · have g1 : (n1 : Int) ≤ 20 := by omega
    by_cases h2 : n2 ≤ 20
    · have g2 : (n2 : Int) ≤ 20 := by omega
      rw [decide_eq_true (show n1 ≤ 20 ∧ n2 ≤ 20 from ⟨h1, h2⟩)]
      clear h1 h2
      go_enter Tryz.func9, Tryz.ntmps9
      go_wp2_with fail
      go_ret
      exact ⟨rfl, HB.out⟩
    · have g2 : ¬ (n2 : Int) ≤ 20 := by omega
      rw [decide_eq_false (show ¬ (n1 ≤ 20 ∧ n2 ≤ 20) from fun h => h2 h.2)]
      clear h1 h2
      go_enter Tryz.func9, Tryz.ntmps9
      go_wp2_with fail
      go_ret
      exact ⟨rfl, HB.out⟩
  · have g1 : ¬ (n1 : Int) ≤ 20 := by omega
    rw [decide_eq_false (show ¬ (n1 ≤ 20 ∧ n2 ≤ 20) from fun h => h1 h.1)]
    clear h1
    go_enter Tryz.func9, Tryz.ntmps9
    go_wp2_with fail
    go_ret
    exact ⟨rfl, HB.out⟩

set_option maxRecDepth 100000 in
set_option maxHeartbeats 4000000 in
theorem checks_long (d e : Nat) (x1 x2 : Option Addr) (n1 c1 n2 c2 : Nat) (a : List Nat) (w : World) (ha : Ad a) (h : ¬ (n1 ≤ 20 ∧ n2 ≤ 20)) (hWk : ∀ Y, Below w.heap.size w Y → Calls Tryz.prog 10 #[] Y fun e w' => e = .returned (.bool true) ∧ Below Y.heap.size Y w') :
    Calls Tryz.prog 3 #[.agg #[.int .u64 d, .slice x1 n1 c1, .slice x2 n2 c2], .agg (adC a), .int .u32 e] w fun e w' => e = .returned (.bool true) ∧ Below w.heap.size w w' := by
  obtain ⟨X, hX⟩ : ∃ X, (w.alloc (.cells #[.int .u64 d, .slice x1 n1 c1, .slice x2 n2 c2] 27)).alloc (.cells (adC a) 29) = X := ⟨_, rfl⟩
  have b1 : Blk X w.heap.size 27 #[.int .u64 d, .slice x1 n1 c1, .slice x2 n2 c2] := by rw [← hX]; exact (Blk.new w _ _).alloc _
  have b2 : Blk X (w.heap.size + 1) 29 (adC a) := by rw [← hX]; exact Blk.newS w _ _ _
  have hW : Below w.heap.size w X := by rw [← hX]; exact balloc (balloc (Below.refl _ _) _) _
  have HX := Lib.hid hX
  have HP := Lib.hid (fun (Y : World) (hY : Below X.heap.size X Y) => (by
    have q := b1.keep hY
    exact ⟨cell_of_row _ _ 0 _ _ _ q, cell_of_row _ _ 1 _ _ _ q, cell_of_row _ _ 2 _ _ _ q⟩ : Y.cell? ⟨w.heap.size, 0, none⟩ = some (.int .u64 d) ∧ Y.cell? ⟨w.heap.size, 1, none⟩ = some (.slice x1 n1 c1) ∧ Y.cell? ⟨w.heap.size, 2, none⟩ = some (.slice x2 n2 c2)))
  have HAD := Lib.hid (fun (Y : World) (hY : Below X.heap.size X Y) => b2.keep hY)
  have HWk := Lib.hid (fun (Y : World) (hY : Below X.heap.size X Y) => hWk Y (hW.trans (hY.mono hW.size)))
  have HAa := Lib.hid ha
  have H0 := Lib.hid hW
  obtain ⟨k1, k2, k3⟩ := HP.out X (Below.refl _ _)
  have HF := Lib.hid (fun (Y : World) => few_any d x1 x2 n1 c1 n2 c2 Y)
  rw [decide_eq_false h] at HF
  clear hX b1 b2 hW hWk ha h
  go_enter Tryz.func3, Tryz.ntmps3
  go_wp2_with fail
  rw [HX.out]
  go_wp2_with (first | (go_at_call 9; refine (HF.out _).mono ?_; rintro e w1 ⟨rfl, h1⟩; have H1 := Lib.hid h1; clear h1) | (go_at_call 10; refine (HWk.out _ H1.out).mono ?_; rintro e w9 ⟨rfl, h9⟩; have H9 := Lib.hid (H1.out.trans (h9.mono H1.out.size)); clear h9) | fail)
  go_ret
  exact ⟨rfl, H0.out.trans (H9.out.mono H0.out.size)⟩

set_option maxRecDepth 100000 in
set_option maxHeartbeats 4000000 in
theorem checks_walk (d e : Nat) (cs : List (List Nat × Nat)) (rs : List (List Nat × Nat × Nat)) (x1 x2 : Option Addr) (n1 c1 n2 c2 : Nat) (a : List Nat) (w : World) (hd : d < 18446744073709551616) (hcs : ClA w (.slice x1 n1 c1) cs) (hrs : RlA w (.slice x2 n2 c2) rs) (ha : Ad a) (h : n1 ≤ 20 ∧ n2 ≤ 20) (hWk : ∀ Y, Below w.heap.size w Y → Calls Tryz.prog 10 #[] Y fun e w' => e = .returned (.bool true) ∧ Below Y.heap.size Y w') :
    Calls Tryz.prog 3 #[.agg #[.int .u64 d, .slice x1 n1 c1, .slice x2 n2 c2], .agg (adC a), .int .u32 e] w fun e w' => e = .returned (.bool true) ∧ Below w.heap.size w w' := by
  obtain ⟨X, hX⟩ : ∃ X, (w.alloc (.cells #[.int .u64 d, .slice x1 n1 c1, .slice x2 n2 c2] 27)).alloc (.cells (adC a) 29) = X := ⟨_, rfl⟩
  have b1 : Blk X w.heap.size 27 #[.int .u64 d, .slice x1 n1 c1, .slice x2 n2 c2] := by rw [← hX]; exact (Blk.new w _ _).alloc _
  have b2 : Blk X (w.heap.size + 1) 29 (adC a) := by rw [← hX]; exact Blk.newS w _ _ _
  have hW : Below w.heap.size w X := by rw [← hX]; exact balloc (balloc (Below.refl _ _) _) _
  have HX := Lib.hid hX
  have HP := Lib.hid (fun (Y : World) (hY : Below X.heap.size X Y) => (by
    have q := b1.keep hY
    exact ⟨cell_of_row _ _ 0 _ _ _ q, cell_of_row _ _ 1 _ _ _ q, cell_of_row _ _ 2 _ _ _ q⟩ : Y.cell? ⟨w.heap.size, 0, none⟩ = some (.int .u64 d) ∧ Y.cell? ⟨w.heap.size, 1, none⟩ = some (.slice x1 n1 c1) ∧ Y.cell? ⟨w.heap.size, 2, none⟩ = some (.slice x2 n2 c2)))
  have HAD := Lib.hid (fun (Y : World) (hY : Below X.heap.size X Y) => b2.keep hY)
  have HWk := Lib.hid (fun (Y : World) (hY : Below X.heap.size X Y) => hWk Y (hW.trans (hY.mono hW.size)))
  have HAa := Lib.hid ha
  have H0 := Lib.hid hW
  obtain ⟨k1, k2, k3⟩ := HP.out X (Below.refl _ _)
  have HF := Lib.hid (fun (Y : World) => few_any d x1 x2 n1 c1 n2 c2 Y)
  rw [decide_eq_true h] at HF
  have HT1 := Lib.hid (fun (Y : World) (hY : Below X.heap.size X Y) => target_any d e (.slice x1 n1 c1) (.slice x2 n2 c2) rs a Y (hrs.new (hW.trans (hY.mono hW.size))) ha)
  have HT2 := Lib.hid (fun (Y : World) (hY : Below X.heap.size X Y) => rtarget_any d e (.slice x1 n1 c1) (.slice x2 n2 c2) rs a Y (hrs.new (hW.trans (hY.mono hW.size))) ha)
  have HC1 := Lib.hid (fun (Y : World) (hY : Below X.heap.size X Y) => check_any d (.slice x1 n1 c1) (.slice x2 n2 c2) cs rs Y hd (hcs.new (hW.trans (hY.mono hW.size))) (hrs.new (hW.trans (hY.mono hW.size))))
  have HC2 := Lib.hid (fun (Y : World) (hY : Below X.heap.size X Y) => rcheck_any d (.slice x1 n1 c1) (.slice x2 n2 c2) cs rs Y hd (hcs.new (hW.trans (hY.mono hW.size))) (hrs.new (hW.trans (hY.mono hW.size))))
  have HL1 := Lib.hid (fun (Y : World) (hY : Below X.heap.size X Y) => clearance_any d (.slice x1 n1 c1) (.slice x2 n2 c2) cs a Y (hcs.new (hW.trans (hY.mono hW.size))) ha)
  have HL2 := Lib.hid (fun (Y : World) (hY : Below X.heap.size X Y) => rclearance_any d (.slice x1 n1 c1) (.slice x2 n2 c2) cs a Y (hcs.new (hW.trans (hY.mono hW.size))) ha)
  obtain ⟨t1, ht1⟩ : ∃ t, (trg a e rs).getD 0 = t := ⟨_, rfl⟩
  obtain ⟨t2, ht2⟩ : ∃ t, (trg a e rs).isSome = t := ⟨_, rfl⟩
  obtain ⟨ck, hck⟩ : ∃ t, chk d cs rs = t := ⟨_, rfl⟩
  obtain ⟨cl, hcl⟩ : ∃ t, clr d a cs = t := ⟨_, rfl⟩
  rw [ht1, ht2] at HT1 HT2
  rw [hck] at HC1 HC2
  rw [hcl] at HL1 HL2
  have q1 : ((ck : Int) == (ck : Int)) = true := by simp
  have q2 : ((cl : Int) == (cl : Int)) = true := by simp
  have q3 : ((t1 : Int) == (t1 : Int)) = true := by simp
  have q4 : (t2 == t2) = true := by simp
  clear hX b1 b2 hW hWk ha h hcs hrs hd ht1 ht2 hck hcl
  go_enter Tryz.func3, Tryz.ntmps3
  go_wp2_with fail
  rw [HX.out]
  go_upto_region 3 with (first | (go_at_call 9; refine (HF.out _).mono ?_; rintro e w1 ⟨rfl, h1⟩; have H1 := Lib.hid h1; clear h1) | fail)
  obtain ⟨k1, k2, k3⟩ := HP.out w1 H1.out
  refine wp_region_lit ?_
  refine wpList_plain rfl fun K hK => ?_
  go_simp
  refine hK _ _ ?_
  clear hK K
  refine wpList_load_midA rfl 29 (.tmp 4) rfl (w.heap.size + 1) 0 rfl (adC a) _ (HAD.out _ H1.out).range und_addr rfl (by rw [info_addr, adC_size HAa.out]) ?_
  go_upto_region 4 with (first | (go_at_call 11; refine (HT1.out _ H1.out).mono ?_; rintro e w2 ⟨rfl, h2⟩; have H2 := Lib.hid (H1.out.trans (h2.mono H1.out.size)); clear h2) | fail)
  obtain ⟨k1, k2, k3⟩ := HP.out w2 H2.out
  refine wp_region_lit ?_
  refine wpList_plain rfl fun K hK => ?_
  go_simp
  refine hK _ _ ?_
  clear hK K
  refine wpList_load_midA rfl 29 (.tmp 4) rfl (w.heap.size + 1) 0 rfl (adC a) _ (HAD.out _ H2.out).range und_addr rfl (by rw [info_addr, adC_size HAa.out]) ?_
  go_upto_region 5 with (first | (go_at_call 12; refine (HT2.out _ H2.out).mono ?_; rintro e w3 ⟨rfl, h3⟩; have H3 := Lib.hid (H2.out.trans (h3.mono H2.out.size)); clear h3) | fail)
  have hS0 : Below w3.heap.size w3 w3.drew := ⟨rfl, rfl, rfl, Nat.le_refl _, fun _ _ => rfl⟩
  refine wp_region_held_drew (S := fun w' => Below w3.heap.size w3 w') (by as_aux_lemma => kernel_rfl) hS0 (fun hHeld => ?_)
  simp only [List.size_toArray, List.length_cons, List.length_nil, Nat.reduceAdd, Array.replicate_succ, Array.replicate_zero, List.push_toArray, List.nil_append, List.cons_append]
  refine wpAnyH_take (i := 0) (oi := { dst := some 29, op := Op.load 27 (Operand.tmp 3), type := 27, pos := "law.go:41", after := #[], guard := none }) (v := ?vq0) rfl (by as_aux_lemma => kernel_rfl) (by as_aux_lemma => kernel_rfl) (by as_aux_lemma => kernel_rfl) (fun _ _ _ h => h) (Or.inl ⟨by rfl, ?yq0⟩) (by assumption) ?rq0
  case yq0 => (intro wS hSw; (try dsimp only at hSw); obtain ⟨kq1, kq2, kq3⟩ := HP.out wS (H3.out.trans (hSw.mono H3.out.size)); go_simp <;> with_reducible rfl)
  simp only [Act.put, List.setIfInBounds_toArray, List.set_cons_zero, List.set_cons_succ]
  refine wpAnyH_take (i := 3) (oi := { dst := some 32, op := Op.load 27 (Operand.tmp 3), type := 27, pos := "law.go:41", after := #[], guard := none }) (v := ?vq1) rfl (by as_aux_lemma => kernel_rfl) (by as_aux_lemma => kernel_rfl) (by as_aux_lemma => kernel_rfl) (fun _ _ _ h => h) (Or.inl ⟨by rfl, ?yq1⟩) (by assumption) ?rq1
  case yq1 => (intro wS hSw; (try dsimp only at hSw); obtain ⟨kq1, kq2, kq3⟩ := HP.out wS (H3.out.trans (hSw.mono H3.out.size)); go_simp <;> with_reducible rfl)
  simp only [Act.put, List.setIfInBounds_toArray, List.set_cons_zero, List.set_cons_succ]
  refine wpAnyH_ready (rs := [1]) (by as_aux_lemma => kernel_rfl) (by simp) ?_
  refine AllReadyH.cons (o := { dst := some 30, op := Op.call { callee := Callee.value (Operand.func 14), args := #[Operand.tmp 29], argTypes := #[27] }, type := 36, pos := "law.go:41", after := #[{ on := 0, ground := Ground.data }], guard := none }) rfl (fun K hK => ?_) (by exact AllReadyH.nil)
  rw [if_pos (by rfl)]
  go_simp
  (go_at_call 14; refine (HC1.out _ (H3.out.trans (hS0.mono H3.out.size))).mono ?_; rintro e w4 ⟨rfl, h4⟩)
  have HS4 := Lib.hid (show Below w3.heap.size w3 w4 from hS0.trans h4)
  clear h4
  refine hK.out _ _ (by (try dsimp only); (first | exact hS0 | exact HS4.out | exact HS5.out | exact HS6.out | exact HS7.out | exact HS9.out)) (fun hHeld => ?_)
  clear hK K
  simp only [List.setIfInBounds_toArray, List.set_cons_zero, List.set_cons_succ]
  refine wpAnyH_ready (rs := [2]) (by as_aux_lemma => kernel_rfl) (by simp) ?_
  refine AllReadyH.cons (o := { dst := some 31, op := Op.call { callee := Callee.value (Operand.func 13), args := #[Operand.tmp 30], argTypes := #[36] }, type := 3, pos := "law.go:41", after := #[{ on := 1, ground := Ground.data }, { on := 1, ground := Ground.chain }], guard := none }) rfl (fun K hK => ?_) (by exact AllReadyH.nil)
  rw [if_pos (by rfl)]
  go_simp
  (go_at_call 13; refine (num_any9 _ _).mono ?_; rintro e w8 ⟨rfl, rfl⟩)
  refine hK.out _ _ (by (try dsimp only); (first | exact hS0 | exact HS4.out | exact HS5.out | exact HS6.out | exact HS7.out | exact HS9.out)) (fun hHeld => ?_)
  clear hK K
  simp only [List.setIfInBounds_toArray, List.set_cons_zero, List.set_cons_succ]
  refine wpAnyH_ready (rs := [4]) (by as_aux_lemma => kernel_rfl) (by simp) ?_
  refine AllReadyH.cons (o := { dst := some 33, op := Op.call { callee := Callee.value (Operand.func 15), args := #[Operand.tmp 32], argTypes := #[27] }, type := 3, pos := "law.go:41", after := #[{ on := 3, ground := Ground.data }, { on := 2, ground := Ground.chain }], guard := none }) rfl (fun K hK => ?_) (by exact AllReadyH.nil)
  rw [if_pos (by rfl)]
  go_simp
  (go_at_call 15; refine (HC2.out _ (H3.out.trans (HS4.out.mono H3.out.size))).mono ?_; rintro e w5 ⟨rfl, h5⟩)
  have HS5 := Lib.hid (show Below w3.heap.size w3 w5 from HS4.out.trans (h5.mono HS4.out.size))
  clear h5
  refine hK.out _ _ (by (try dsimp only); (first | exact hS0 | exact HS4.out | exact HS5.out | exact HS6.out | exact HS7.out | exact HS9.out)) (fun hHeld => ?_)
  clear hK K
  simp only [List.setIfInBounds_toArray, List.set_cons_zero, List.set_cons_succ]
  refine wpAnyH_take (i := 5) (oi := { dst := some 34, op := Op.binOp BinOp.eql 3 (Operand.tmp 31) (Operand.tmp 33) 3, type := 4, pos := "law.go:41", after := #[{ on := 2, ground := Ground.data }, { on := 4, ground := Ground.data }], guard := none }) (v := ?vq5) rfl (by as_aux_lemma => kernel_rfl) (by as_aux_lemma => kernel_rfl) (by as_aux_lemma => kernel_rfl) (fun _ _ _ h => h) (Or.inl ⟨by rfl, ?yq5⟩) (by assumption) ?rq5
  case yq5 => (intro wS hSw; (try dsimp only at hSw); obtain ⟨kq1, kq2, kq3⟩ := HP.out wS (H3.out.trans (hSw.mono H3.out.size)); go_simp <;> with_reducible rfl)
  simp only [Act.put, List.setIfInBounds_toArray, List.set_cons_zero, List.set_cons_succ]
  refine wpAnyH_take (i := 6) (oi := { dst := some 35, op := Op.move (Operand.tmp 34), type := 4, pos := "law.go:41", after := #[{ on := 5, ground := Ground.data }, { on := 4, ground := Ground.chain }], guard := none }) (v := ?vq6) rfl (by as_aux_lemma => kernel_rfl) (by as_aux_lemma => kernel_rfl) (by as_aux_lemma => kernel_rfl) (fun _ _ _ h => h) (Or.inl ⟨by rfl, ?yq6⟩) (by assumption) ?rq6
  case yq6 => (intro wS hSw; (try dsimp only at hSw); obtain ⟨kq1, kq2, kq3⟩ := HP.out wS (H3.out.trans (hSw.mono H3.out.size)); go_simp <;> with_reducible rfl)
  simp only [Act.put, List.setIfInBounds_toArray, List.set_cons_zero, List.set_cons_succ]
  refine wpAnyH_take (i := 7) (oi := { dst := some 36, op := Op.load 27 (Operand.tmp 3), type := 27, pos := "law.go:41", after := #[{ on := 6, ground := Ground.guard }], guard := some (6, true) }) (v := ?vq7) rfl (by as_aux_lemma => kernel_rfl) (by as_aux_lemma => kernel_rfl) (by as_aux_lemma => kernel_rfl) (fun _ _ _ h => h) (Or.inl ⟨by rfl, ?yq7⟩) (by assumption) ?rq7
  case yq7 => (intro wS hSw; (try dsimp only at hSw); obtain ⟨kq1, kq2, kq3⟩ := HP.out wS (H3.out.trans (hSw.mono H3.out.size)); go_simp <;> with_reducible rfl)
  simp only [Act.put, List.setIfInBounds_toArray, List.set_cons_zero, List.set_cons_succ]
  refine wpAnyH_take (i := 8) (oi := { dst := some 37, op := Op.load 29 (Operand.tmp 4), type := 29, pos := "law.go:41", after := #[{ on := 6, ground := Ground.guard }], guard := some (6, true) }) (v := .agg (adC a)) rfl (by as_aux_lemma => kernel_rfl) (by as_aux_lemma => kernel_rfl) (by as_aux_lemma => kernel_rfl) (fun _ _ _ h => h) (yieldsIf_load_A (by rfl) 29 (.tmp 4) rfl (w.heap.size + 1) (0) rfl (adC a) _ (fun w hw => (HAD.out _ (H3.out.trans (hw.mono H3.out.size))).range) und_addr rfl (by rw [info_addr, adC_size HAa.out])) (by assumption) ?_
  simp only [Act.put, List.setIfInBounds_toArray, List.set_cons_zero, List.set_cons_succ]
  refine wpAnyH_take (i := 10) (oi := { dst := some 39, op := Op.load 27 (Operand.tmp 3), type := 27, pos := "law.go:41", after := #[{ on := 6, ground := Ground.guard }], guard := some (6, true) }) (v := ?vq9) rfl (by as_aux_lemma => kernel_rfl) (by as_aux_lemma => kernel_rfl) (by as_aux_lemma => kernel_rfl) (fun _ _ _ h => h) (Or.inl ⟨by rfl, ?yq9⟩) (by assumption) ?rq9
  case yq9 => (intro wS hSw; (try dsimp only at hSw); obtain ⟨kq1, kq2, kq3⟩ := HP.out wS (H3.out.trans (hSw.mono H3.out.size)); go_simp <;> with_reducible rfl)
  simp only [Act.put, List.setIfInBounds_toArray, List.set_cons_zero, List.set_cons_succ]
  refine wpAnyH_take (i := 11) (oi := { dst := some 40, op := Op.load 29 (Operand.tmp 4), type := 29, pos := "law.go:41", after := #[{ on := 6, ground := Ground.guard }], guard := some (6, true) }) (v := .agg (adC a)) rfl (by as_aux_lemma => kernel_rfl) (by as_aux_lemma => kernel_rfl) (by as_aux_lemma => kernel_rfl) (fun _ _ _ h => h) (yieldsIf_load_A (by rfl) 29 (.tmp 4) rfl (w.heap.size + 1) (0) rfl (adC a) _ (fun w hw => (HAD.out _ (H3.out.trans (hw.mono H3.out.size))).range) und_addr rfl (by rw [info_addr, adC_size HAa.out])) (by assumption) ?_
  simp only [Act.put, List.setIfInBounds_toArray, List.set_cons_zero, List.set_cons_succ]
  refine wpAnyH_ready (rs := [9]) (by as_aux_lemma => kernel_rfl) (by simp) ?_
  refine AllReadyH.cons (o := { dst := some 38, op := Op.call { callee := Callee.value (Operand.func 16), args := #[Operand.tmp 36, Operand.tmp 37], argTypes := #[27, 29] }, type := 23, pos := "law.go:41", after := #[{ on := 7, ground := Ground.data }, { on := 8, ground := Ground.data }, { on := 6, ground := Ground.chain }, { on := 6, ground := Ground.guard }], guard := some (6, true) }) rfl (fun K hK => ?_) (by exact AllReadyH.nil)
  rw [if_pos (by rfl)]
  go_simp
  (go_at_call 16; refine (HL1.out _ (H3.out.trans (HS5.out.mono H3.out.size))).mono ?_; rintro e w6 ⟨rfl, h6⟩)
  have HS6 := Lib.hid (show Below w3.heap.size w3 w6 from HS5.out.trans (h6.mono HS5.out.size))
  clear h6
  refine hK.out _ _ (by (try dsimp only); (first | exact hS0 | exact HS4.out | exact HS5.out | exact HS6.out | exact HS7.out | exact HS9.out)) (fun hHeld => ?_)
  clear hK K
  simp only [List.setIfInBounds_toArray, List.set_cons_zero, List.set_cons_succ]
  refine wpAnyH_ready (rs := [12]) (by as_aux_lemma => kernel_rfl) (by simp) ?_
  refine AllReadyH.cons (o := { dst := some 41, op := Op.call { callee := Callee.value (Operand.func 17), args := #[Operand.tmp 39, Operand.tmp 40], argTypes := #[27, 29] }, type := 23, pos := "law.go:41", after := #[{ on := 10, ground := Ground.data }, { on := 11, ground := Ground.data }, { on := 9, ground := Ground.chain }, { on := 6, ground := Ground.guard }], guard := some (6, true) }) rfl (fun K hK => ?_) (by exact AllReadyH.nil)
  rw [if_pos (by rfl)]
  go_simp
  (go_at_call 17; refine (HL2.out _ (H3.out.trans (HS6.out.mono H3.out.size))).mono ?_; rintro e w7 ⟨rfl, h7⟩)
  have HS7 := Lib.hid (show Below w3.heap.size w3 w7 from HS6.out.trans (h7.mono HS6.out.size))
  clear h7
  refine hK.out _ _ (by (try dsimp only); (first | exact hS0 | exact HS4.out | exact HS5.out | exact HS6.out | exact HS7.out | exact HS9.out)) (fun hHeld => ?_)
  clear hK K
  simp only [List.setIfInBounds_toArray, List.set_cons_zero, List.set_cons_succ]
  refine wpAnyH_take (i := 13) (oi := { dst := some 42, op := Op.binOp BinOp.eql 23 (Operand.tmp 38) (Operand.tmp 41) 23, type := 4, pos := "law.go:41", after := #[{ on := 9, ground := Ground.data }, { on := 12, ground := Ground.data }, { on := 6, ground := Ground.guard }], guard := some (6, true) }) (v := ?vq13) rfl (by as_aux_lemma => kernel_rfl) (by as_aux_lemma => kernel_rfl) (by as_aux_lemma => kernel_rfl) (fun _ _ _ h => h) (Or.inl ⟨by rfl, ?yq13⟩) (by assumption) ?rq13
  case yq13 => (intro wS hSw; (try dsimp only at hSw); obtain ⟨kq1, kq2, kq3⟩ := HP.out wS (H3.out.trans (hSw.mono H3.out.size)); go_simp <;> with_reducible rfl)
  simp only [Act.put, List.setIfInBounds_toArray, List.set_cons_zero, List.set_cons_succ]
  refine wpAnyH_take (i := 14) (oi := { dst := some 43, op := Op.pick (Operand.tmp 35) (Operand.tmp 42) (Operand.const (Value.bool false)), type := 4, pos := "law.go:41", after := #[{ on := 6, ground := Ground.data }, { on := 13, ground := Ground.data }], guard := none }) (v := ?vq14) rfl (by as_aux_lemma => kernel_rfl) (by as_aux_lemma => kernel_rfl) (by as_aux_lemma => kernel_rfl) (fun _ _ _ h => h) (Or.inl ⟨by rfl, ?yq14⟩) (by assumption) ?rq14
  case yq14 => (intro wS hSw; (try dsimp only at hSw); obtain ⟨kq1, kq2, kq3⟩ := HP.out wS (H3.out.trans (hSw.mono H3.out.size)); go_simp <;> with_reducible rfl)
  simp only [Act.put, List.setIfInBounds_toArray, List.set_cons_zero, List.set_cons_succ]
  refine wpAnyH_take (i := 15) (oi := { dst := some 44, op := Op.move (Operand.tmp 43), type := 4, pos := "law.go:41", after := #[{ on := 14, ground := Ground.data }, { on := 12, ground := Ground.chain }], guard := none }) (v := ?vq15) rfl (by as_aux_lemma => kernel_rfl) (by as_aux_lemma => kernel_rfl) (by as_aux_lemma => kernel_rfl) (fun _ _ _ h => h) (Or.inl ⟨by rfl, ?yq15⟩) (by assumption) ?rq15
  case yq15 => (intro wS hSw; (try dsimp only at hSw); obtain ⟨kq1, kq2, kq3⟩ := HP.out wS (H3.out.trans (hSw.mono H3.out.size)); go_simp <;> with_reducible rfl)
  simp only [Act.put, List.setIfInBounds_toArray, List.set_cons_zero, List.set_cons_succ]
  refine wpAnyH_take (i := 16) (oi := { dst := some 45, op := Op.move (Operand.tmp 7), type := 23, pos := "law.go:41", after := #[{ on := 15, ground := Ground.guard }], guard := some (15, true) }) (v := ?vq16) rfl (by as_aux_lemma => kernel_rfl) (by as_aux_lemma => kernel_rfl) (by as_aux_lemma => kernel_rfl) (fun _ _ _ h => h) (Or.inl ⟨by rfl, ?yq16⟩) (by assumption) ?rq16
  case yq16 => (intro wS hSw; (try dsimp only at hSw); obtain ⟨kq1, kq2, kq3⟩ := HP.out wS (H3.out.trans (hSw.mono H3.out.size)); go_simp <;> with_reducible rfl)
  simp only [Act.put, List.setIfInBounds_toArray, List.set_cons_zero, List.set_cons_succ]
  refine wpAnyH_take (i := 17) (oi := { dst := some 46, op := Op.move (Operand.tmp 9), type := 23, pos := "law.go:41", after := #[{ on := 15, ground := Ground.guard }], guard := some (15, true) }) (v := ?vq17) rfl (by as_aux_lemma => kernel_rfl) (by as_aux_lemma => kernel_rfl) (by as_aux_lemma => kernel_rfl) (fun _ _ _ h => h) (Or.inl ⟨by rfl, ?yq17⟩) (by assumption) ?rq17
  case yq17 => (intro wS hSw; (try dsimp only at hSw); obtain ⟨kq1, kq2, kq3⟩ := HP.out wS (H3.out.trans (hSw.mono H3.out.size)); go_simp <;> with_reducible rfl)
  simp only [Act.put, List.setIfInBounds_toArray, List.set_cons_zero, List.set_cons_succ]
  refine wpAnyH_take (i := 18) (oi := { dst := some 47, op := Op.binOp BinOp.eql 23 (Operand.tmp 45) (Operand.tmp 46) 23, type := 4, pos := "law.go:41", after := #[{ on := 16, ground := Ground.data }, { on := 17, ground := Ground.data }, { on := 15, ground := Ground.guard }], guard := some (15, true) }) (v := ?vq18) rfl (by as_aux_lemma => kernel_rfl) (by as_aux_lemma => kernel_rfl) (by as_aux_lemma => kernel_rfl) (fun _ _ _ h => h) (Or.inl ⟨by rfl, ?yq18⟩) (by assumption) ?rq18
  case yq18 => (intro wS hSw; (try dsimp only at hSw); obtain ⟨kq1, kq2, kq3⟩ := HP.out wS (H3.out.trans (hSw.mono H3.out.size)); go_simp <;> with_reducible rfl)
  simp only [Act.put, List.setIfInBounds_toArray, List.set_cons_zero, List.set_cons_succ]
  refine wpAnyH_take (i := 19) (oi := { dst := some 48, op := Op.pick (Operand.tmp 44) (Operand.tmp 47) (Operand.const (Value.bool false)), type := 4, pos := "law.go:41", after := #[{ on := 15, ground := Ground.data }, { on := 18, ground := Ground.data }], guard := none }) (v := ?vq19) rfl (by as_aux_lemma => kernel_rfl) (by as_aux_lemma => kernel_rfl) (by as_aux_lemma => kernel_rfl) (fun _ _ _ h => h) (Or.inl ⟨by rfl, ?yq19⟩) (by assumption) ?rq19
  case yq19 => (intro wS hSw; (try dsimp only at hSw); obtain ⟨kq1, kq2, kq3⟩ := HP.out wS (H3.out.trans (hSw.mono H3.out.size)); go_simp <;> with_reducible rfl)
  simp only [Act.put, List.setIfInBounds_toArray, List.set_cons_zero, List.set_cons_succ]
  refine wpAnyH_take (i := 20) (oi := { dst := some 49, op := Op.move (Operand.tmp 48), type := 4, pos := "law.go:41", after := #[{ on := 19, ground := Ground.data }, { on := 15, ground := Ground.chain }], guard := none }) (v := ?vq20) rfl (by as_aux_lemma => kernel_rfl) (by as_aux_lemma => kernel_rfl) (by as_aux_lemma => kernel_rfl) (fun _ _ _ h => h) (Or.inl ⟨by rfl, ?yq20⟩) (by assumption) ?rq20
  case yq20 => (intro wS hSw; (try dsimp only at hSw); obtain ⟨kq1, kq2, kq3⟩ := HP.out wS (H3.out.trans (hSw.mono H3.out.size)); go_simp <;> with_reducible rfl)
  simp only [Act.put, List.setIfInBounds_toArray, List.set_cons_zero, List.set_cons_succ]
  refine wpAnyH_take (i := 21) (oi := { dst := some 50, op := Op.move (Operand.tmp 8), type := 4, pos := "law.go:41", after := #[{ on := 20, ground := Ground.guard }], guard := some (20, true) }) (v := ?vq21) rfl (by as_aux_lemma => kernel_rfl) (by as_aux_lemma => kernel_rfl) (by as_aux_lemma => kernel_rfl) (fun _ _ _ h => h) (Or.inl ⟨by rfl, ?yq21⟩) (by assumption) ?rq21
  case yq21 => (intro wS hSw; (try dsimp only at hSw); obtain ⟨kq1, kq2, kq3⟩ := HP.out wS (H3.out.trans (hSw.mono H3.out.size)); go_simp <;> with_reducible rfl)
  simp only [Act.put, List.setIfInBounds_toArray, List.set_cons_zero, List.set_cons_succ]
  refine wpAnyH_take (i := 22) (oi := { dst := some 51, op := Op.move (Operand.tmp 10), type := 4, pos := "law.go:41", after := #[{ on := 20, ground := Ground.guard }], guard := some (20, true) }) (v := ?vq22) rfl (by as_aux_lemma => kernel_rfl) (by as_aux_lemma => kernel_rfl) (by as_aux_lemma => kernel_rfl) (fun _ _ _ h => h) (Or.inl ⟨by rfl, ?yq22⟩) (by assumption) ?rq22
  case yq22 => (intro wS hSw; (try dsimp only at hSw); obtain ⟨kq1, kq2, kq3⟩ := HP.out wS (H3.out.trans (hSw.mono H3.out.size)); go_simp <;> with_reducible rfl)
  simp only [Act.put, List.setIfInBounds_toArray, List.set_cons_zero, List.set_cons_succ]
  refine wpAnyH_take (i := 23) (oi := { dst := some 52, op := Op.binOp BinOp.eql 4 (Operand.tmp 50) (Operand.tmp 51) 4, type := 4, pos := "law.go:41", after := #[{ on := 21, ground := Ground.data }, { on := 22, ground := Ground.data }, { on := 20, ground := Ground.guard }], guard := some (20, true) }) (v := ?vq23) rfl (by as_aux_lemma => kernel_rfl) (by as_aux_lemma => kernel_rfl) (by as_aux_lemma => kernel_rfl) (fun _ _ _ h => h) (Or.inl ⟨by rfl, ?yq23⟩) (by assumption) ?rq23
  case yq23 => (intro wS hSw; (try dsimp only at hSw); obtain ⟨kq1, kq2, kq3⟩ := HP.out wS (H3.out.trans (hSw.mono H3.out.size)); go_simp <;> with_reducible rfl)
  simp only [Act.put, List.setIfInBounds_toArray, List.set_cons_zero, List.set_cons_succ]
  refine wpAnyH_take (i := 24) (oi := { dst := some 53, op := Op.pick (Operand.tmp 49) (Operand.tmp 52) (Operand.const (Value.bool false)), type := 4, pos := "law.go:41", after := #[{ on := 20, ground := Ground.data }, { on := 23, ground := Ground.data }], guard := none }) (v := ?vq24) rfl (by as_aux_lemma => kernel_rfl) (by as_aux_lemma => kernel_rfl) (by as_aux_lemma => kernel_rfl) (fun _ _ _ h => h) (Or.inl ⟨by rfl, ?yq24⟩) (by assumption) ?rq24
  case yq24 => (intro wS hSw; (try dsimp only at hSw); obtain ⟨kq1, kq2, kq3⟩ := HP.out wS (H3.out.trans (hSw.mono H3.out.size)); go_simp <;> with_reducible rfl)
  simp only [Act.put, List.setIfInBounds_toArray, List.set_cons_zero, List.set_cons_succ]
  refine wpAnyH_take (i := 25) (oi := { dst := some 54, op := Op.move (Operand.tmp 53), type := 4, pos := "law.go:41", after := #[{ on := 24, ground := Ground.data }, { on := 20, ground := Ground.chain }], guard := none }) (v := ?vq25) rfl (by as_aux_lemma => kernel_rfl) (by as_aux_lemma => kernel_rfl) (by as_aux_lemma => kernel_rfl) (fun _ _ _ h => h) (Or.inl ⟨by rfl, ?yq25⟩) (by assumption) ?rq25
  case yq25 => (intro wS hSw; (try dsimp only at hSw); obtain ⟨kq1, kq2, kq3⟩ := HP.out wS (H3.out.trans (hSw.mono H3.out.size)); go_simp <;> with_reducible rfl)
  simp only [Act.put, List.setIfInBounds_toArray, List.set_cons_zero, List.set_cons_succ]
  refine wpAnyH_ready (rs := [26]) (by as_aux_lemma => kernel_rfl) (by simp) ?_
  refine AllReadyH.cons (o := { dst := some 55, op := Op.call { callee := Callee.value (Operand.func 10), args := #[], argTypes := #[] }, type := 4, pos := "law.go:41", after := #[{ on := 25, ground := Ground.chain }, { on := 25, ground := Ground.guard }], guard := some (25, true) }) rfl (fun K hK => ?_) (by exact AllReadyH.nil)
  rw [if_pos (by rfl)]
  go_simp
  (go_at_call 10; refine (HWk.out _ (H3.out.trans (HS7.out.mono H3.out.size))).mono ?_; rintro e w9 ⟨rfl, h9⟩)
  have HS9 := Lib.hid (show Below w3.heap.size w3 w9 from HS7.out.trans (h9.mono HS7.out.size))
  clear h9
  refine hK.out _ _ (by (try dsimp only); (first | exact hS0 | exact HS4.out | exact HS5.out | exact HS6.out | exact HS7.out | exact HS9.out)) (fun hHeld => ?_)
  clear hK K
  simp only [List.setIfInBounds_toArray, List.set_cons_zero, List.set_cons_succ]
  refine wpAnyH_take (i := 27) (oi := { dst := some 56, op := Op.pick (Operand.tmp 54) (Operand.tmp 55) (Operand.const (Value.bool false)), type := 4, pos := "law.go:41", after := #[{ on := 25, ground := Ground.data }, { on := 26, ground := Ground.data }], guard := none }) (v := ?vq27) rfl (by as_aux_lemma => kernel_rfl) (by as_aux_lemma => kernel_rfl) (by as_aux_lemma => kernel_rfl) (fun _ _ _ h => h) (Or.inl ⟨by rfl, ?yq27⟩) (by assumption) ?rq27
  case yq27 => (intro wS hSw; (try dsimp only at hSw); obtain ⟨kq1, kq2, kq3⟩ := HP.out wS (H3.out.trans (hSw.mono H3.out.size)); go_simp <;> with_reducible rfl)
  simp only [Act.put, List.setIfInBounds_toArray, List.set_cons_zero, List.set_cons_succ]
  refine wpAnyH_take (i := 28) (oi := { dst := some 6, op := Op.assign (Operand.tmp 56), type := 4, pos := "law.go:41", after := #[{ on := 27, ground := Ground.data }, { on := 26, ground := Ground.chain }, { on := 0, ground := Ground.phase }, { on := 1, ground := Ground.phase }, { on := 2, ground := Ground.phase }, { on := 3, ground := Ground.phase }, { on := 4, ground := Ground.phase }, { on := 5, ground := Ground.phase }, { on := 6, ground := Ground.phase }, { on := 7, ground := Ground.phase }, { on := 8, ground := Ground.phase }, { on := 9, ground := Ground.phase }, { on := 10, ground := Ground.phase }, { on := 11, ground := Ground.phase }, { on := 12, ground := Ground.phase }, { on := 13, ground := Ground.phase }, { on := 14, ground := Ground.phase }, { on := 15, ground := Ground.phase }, { on := 16, ground := Ground.phase }, { on := 17, ground := Ground.phase }, { on := 18, ground := Ground.phase }, { on := 19, ground := Ground.phase }, { on := 20, ground := Ground.phase }, { on := 21, ground := Ground.phase }, { on := 22, ground := Ground.phase }, { on := 23, ground := Ground.phase }, { on := 24, ground := Ground.phase }, { on := 25, ground := Ground.phase }, { on := 26, ground := Ground.phase }, { on := 27, ground := Ground.phase }], guard := none }) (v := ?vq28) rfl (by as_aux_lemma => kernel_rfl) (by as_aux_lemma => kernel_rfl) (by as_aux_lemma => kernel_rfl) (fun _ _ _ h => h) (Or.inl ⟨by rfl, ?yq28⟩) (by assumption) ?rq28
  case yq28 => (intro wS hSw; (try dsimp only at hSw); obtain ⟨kq1, kq2, kq3⟩ := HP.out wS (H3.out.trans (hSw.mono H3.out.size)); go_simp <;> with_reducible rfl)
  simp only [Act.put, List.setIfInBounds_toArray, List.set_cons_zero, List.set_cons_succ]
  refine wpAnyH_done (by as_aux_lemma => kernel_rfl) ?_ _
  clear hHeld hS0
  go_wp2_with fail
  go_ret
  have hx := H3.out.trans (HS9.out.mono H3.out.size)
  exact ⟨rfl, H0.out.trans (hx.mono H0.out.size)⟩
end Go.Proofs.YtenepkgjdoddgaaGreatDoor
