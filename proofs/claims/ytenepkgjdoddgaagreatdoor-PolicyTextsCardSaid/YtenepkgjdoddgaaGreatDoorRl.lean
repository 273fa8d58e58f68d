/- policy: the reference's Check. -/
import Derived.Test.YtenepkgjdoddgaaGreatDoorPg
namespace Go.Proofs.YtenepkgjdoddgaaGreatDoor
open Go.RowKit Go.Shelf

set_option maxRecDepth 100000 in
set_option maxHeartbeats 8000000 in
theorem rcheck_any (d : Nat) (cv rv : Value) (cs : List (List Nat × Nat)) (rs : List (List Nat × Nat × Nat)) (w : World) (hd : d < 18446744073709551616) (hcs : ClA w cv cs) (hrs : RlA w rv rs) :
    Calls Tryz.prog 15 #[.agg #[.int .u64 d, cv, rv]] w fun e w' => e = .returned (.int .i64 (chk d cs rs : Nat)) ∧ Below w.heap.size w w' := by
  obtain ⟨X, hX⟩ : ∃ X, w.alloc (.cells #[.int .u64 d, cv, rv] 27) = X := ⟨_, rfl⟩
  have b1 : Blk X w.heap.size 27 #[.int .u64 d, cv, rv] := by rw [← hX]; exact Blk.new w _ _
  have hW : Below w.heap.size w X := by rw [← hX]; exact balloc (Below.refl _ _) _
  have HX := Lib.hid hX
  have HCl := Lib.hid (fun (Y : World) (hY : Below X.heap.size X Y) (a : List Nat) (ha : Ad a) => rclearance_any d cv rv cs a Y (hcs.new (hW.trans (hY.mono hW.size))) ha)
  have HB := Lib.hid (fun (Y : World) (t : Nat) (a : List Nat) (ht : t < 18446744073709551616) => rbelow_any t (clr d a cs) (by omega) (clr_lt d a cs hd (fun c hc => (hcs.1 c hc).2)) Y)
  have HK0 := Lib.hid (fun (Y : World) (hY : Below X.heap.size X Y) => (by
    have q := b1.keep hY
    exact ⟨cell_of_row _ _ 0 _ _ _ q, cell_of_row _ _ 1 _ _ _ q, cell_of_row _ _ 2 _ _ _ q⟩ : Y.cell? ⟨w.heap.size, 0, none⟩ = some (.int .u64 d) ∧ Y.cell? ⟨w.heap.size, 1, none⟩ = some cv ∧ Y.cell? ⟨w.heap.size, 2, none⟩ = some rv))
  have HA := Lib.hid (And.intro hcs hrs)
  obtain ⟨_, x1, c1, rfl, hl1, _⟩ := hcs
  obtain ⟨_, x2, c2, rfl, hl2, _⟩ := hrs
  have H0 := Lib.hid hW
  obtain ⟨n1, hn1⟩ : ∃ n, cs.length = n := ⟨_, rfl⟩
  obtain ⟨n2, hn2⟩ : ∃ n, rs.length = n := ⟨_, rfl⟩
  have HN := Lib.hid (And.intro hn1 hn2)
  have hk : chk d cs rs = if 64 < n1 ∨ 64 < n2 then 3 else if rsg ordC cs && rsg ordR rs && !wrg d cs rs then 0 else 2 := by unfold chk; rw [hn1, hn2]
  rw [hk]
  rw [hn1, hn2] at HX HCl HK0
  rw [hn1] at hl1 ⊢
  rw [hn2] at hl2 ⊢
  clear hX b1 hW hk hn1 hn2 hd
  obtain ⟨_, k1, k2⟩ := HK0.out X (Below.refl _ _)
  by_cases h1 : 64 < n1
  · have g1 : (64 : Int) < (n1 : Int) := by omega
    rw [if_pos (.inl h1)]
    clear h1
    go_enter Tryz.func15, Tryz.ntmps15
    go_wp2_with fail
    go_ret
    rw [HX.out]
    exact ⟨rfl, H0.out⟩
  · by_cases h2 : 64 < n2
    · have g1 : ¬ (64 : Int) < (n1 : Int) := by omega
      have g2 : (64 : Int) < (n2 : Int) := by omega
      rw [if_pos (.inr h2)]
      clear h1 h2
      go_enter Tryz.func15, Tryz.ntmps15
      go_wp2_with fail
      go_ret
      rw [HX.out]
      exact ⟨rfl, H0.out⟩
    · have g1 : ¬ (64 : Int) < (n1 : Int) := by omega
      have g2 : ¬ (64 : Int) < (n2 : Int) := by omega
      rw [if_neg (by omega)]
      have hn64 : n1 ≤ 64 ∧ n2 ≤ 64 := by omega
      clear h1 h2
      obtain ⟨R, hR⟩ : ∃ R : Nat, (if rsg ordC cs && rsg ordR rs && !wrg d cs rs then 0 else 2) = R := ⟨_, rfl⟩
      rw [hR]
      have HR := Lib.hid hR
      clear hR
      go_enter Tryz.func15, Tryz.ntmps15
      go_wp2_with fail
      rw [HX.out]
      clear k1 k2
      go_loopw [3] (fun t wr => ∃ j : Nat, j ≤ n1 ∧ t = .int .i64 ((j : Int) + 1) ∧ Below X.heap.size X wr ∧ rsg ordC cs = rsg ordC (cs.drop j)) (fun t _ => (n1 + 1) - (intOf t).toNat)
      case atStart => exact ⟨0, Nat.zero_le _, rfl, Below.refl _ _, rfl⟩
      case round =>
        obtain ⟨j, hj, rfl, hXw, hcl⟩ := hrel
        obtain ⟨_, k1, k2⟩ := HK0.out _ hXw
        by_cases hlt : j + 1 < n1
        · obtain ⟨hcs, hrs⟩ := HA.out
          obtain ⟨c, hc⟩ : ∃ c, cs[j]? = some c := ⟨_, List.getElem?_eq_getElem (by have := HN.out.1; omega)⟩
          obtain ⟨c', hc'⟩ : ∃ c, cs[j + 1]? = some c := ⟨_, List.getElem?_eq_getElem (by have := HN.out.1; omega)⟩
          have hca := (hcs.1 c (List.mem_of_getElem? hc)).1
          have hcb := (hcs.1 c' (List.mem_of_getElem? hc')).1
          obtain ⟨_, x', cap', he, _, hcells⟩ := hcs.new (H0.out.trans (hXw.mono H0.out.size))
          obtain ⟨b, o, hx', hbl, hrng⟩ := hcells (fun e => by rw [e] at hc; cases hc)
          injection he with e1 e2 e3
          rw [← e1] at hx'
          subst hx'
          have hr := hrng j c hc
          have hr2 := hrng (j + 1) c' hc'
          have hst := rsg_step ordC cs j c c' hc hc'
          obtain ⟨j2, hj2⟩ : ∃ q, j + 1 = q := ⟨_, rfl⟩
          rw [hj2] at hr2 hlt hst
          have q0 : (j : Int) + 1 = (j2 : Int) := by omega
          have q1 : (j2 : Int) < (n1 : Int) := by omega
          have q2 : IntKind.i64.wrap ((j2 : Int) - 1) = (j : Int) := by rw [IntWalk.i64_in _ (by omega)]; omega
          have q3 : (0 : Int) ≤ (j : Int) := by omega
          have q4 : (j : Int) < (n1 : Int) := by omega
          have q5 : (0 : Int) ≤ (j2 : Int) := by omega
          have q6 : IntKind.i64.wrap ((j2 : Int) + 1) = (j2 : Int) + 1 := IntWalk.i64_in _ (by omega)
          rw [q0]
          have HC := Lib.hid (fun (Y : World) => rorder_any c.1 c'.1 hca hcb Y)
          have hfe : ordN (bv c.1) (bv c'.1) = ordC c c' := rfl
          rw [hfe] at HC
          have HS := Lib.hid (And.intro hst (And.intro hcl (And.intro hXw (And.intro hr (And.intro hr2 (And.intro hca (And.intro hcb hj2)))))))
          clear hst hcl hXw hr hr2 hrng hcells e1 e2 e3 hc hc' hca hcb hj2 hfe hcs hrs q0
          obtain ⟨i, hi⟩ : ∃ i, ordC c c' = i := ⟨_, rfl⟩
          rw [hi] at HC
          have HI := Lib.hid hi
          clear hi
          go_upto_region 6 with fail
          have hS0 : Below wr.heap.size wr wr.drew := ⟨rfl, rfl, rfl, Nat.le_refl _, fun _ _ => rfl⟩
          by_cases hi0 : i < 0
          · have q7 : ¬ (0 : Int) ≤ i := by omega
            refine wp_region_held_drew (S := fun w' => Below wr.heap.size wr w') (by as_aux_lemma => kernel_rfl) hS0 (fun hHeld => ?_)
            simp only [List.size_toArray, List.length_cons, List.length_nil, Nat.reduceAdd, Array.replicate_succ, Array.replicate_zero, List.push_toArray, List.nil_append, List.cons_append]
            refine wpAnyH_take (i := 0) (oi := { dst := some 25, op := Op.fieldAddr 27 (Operand.tmp 1) 1, type := 0, pos := "ref.go:57", after := #[], guard := none }) (v := ?vq0a) rfl (by as_aux_lemma => kernel_rfl) (by as_aux_lemma => kernel_rfl) (by as_aux_lemma => kernel_rfl) (fun _ _ _ h => h) (Or.inl ⟨by rfl, ?yq0a⟩) (by assumption) ?rq0a
            case yq0a => (intro wS hSw; (try dsimp only at hSw); have kq := (HK0.out wS (HS.out.2.2.1.trans (hSw.mono HS.out.2.2.1.size))).2.1; go_simp <;> with_reducible rfl)
            simp only [Act.put, List.setIfInBounds_toArray, List.set_cons_zero, List.set_cons_succ]
            refine wpAnyH_take (i := 1) (oi := { dst := some 26, op := Op.load 24 (Operand.tmp 25), type := 24, pos := "ref.go:57", after := #[{ on := 0, ground := Ground.data }], guard := none }) (v := ?vq1a) rfl (by as_aux_lemma => kernel_rfl) (by as_aux_lemma => kernel_rfl) (by as_aux_lemma => kernel_rfl) (fun _ _ _ h => h) (Or.inl ⟨by rfl, ?yq1a⟩) (by assumption) ?rq1a
            case yq1a => (intro wS hSw; (try dsimp only at hSw); have kq := (HK0.out wS (HS.out.2.2.1.trans (hSw.mono HS.out.2.2.1.size))).2.1; go_simp <;> with_reducible rfl)
            simp only [Act.put, List.setIfInBounds_toArray, List.set_cons_zero, List.set_cons_succ]
            refine wpAnyH_take (i := 2) (oi := { dst := some 27, op := Op.move (Operand.tmp 3), type := 3, pos := "ref.go:57", after := #[], guard := none }) (v := ?vq2a) rfl (by as_aux_lemma => kernel_rfl) (by as_aux_lemma => kernel_rfl) (by as_aux_lemma => kernel_rfl) (fun _ _ _ h => h) (Or.inl ⟨by rfl, ?yq2a⟩) (by assumption) ?rq2a
            case yq2a => (intro wS hSw; (try dsimp only at hSw); have kq := (HK0.out wS (HS.out.2.2.1.trans (hSw.mono HS.out.2.2.1.size))).2.1; go_simp <;> with_reducible rfl)
            simp only [Act.put, List.setIfInBounds_toArray, List.set_cons_zero, List.set_cons_succ]
            refine wpAnyH_take (i := 3) (oi := { dst := some 28, op := Op.binOp BinOp.sub 3 (Operand.tmp 27) (Operand.const (Value.int IntKind.i64 1)) 3, type := 3, pos := "ref.go:57", after := #[{ on := 2, ground := Ground.data }], guard := none }) (v := ?vq3a) rfl (by as_aux_lemma => kernel_rfl) (by as_aux_lemma => kernel_rfl) (by as_aux_lemma => kernel_rfl) (fun _ _ _ h => h) (Or.inl ⟨by rfl, ?yq3a⟩) (by assumption) ?rq3a
            case yq3a => (intro wS hSw; (try dsimp only at hSw); have kq := (HK0.out wS (HS.out.2.2.1.trans (hSw.mono HS.out.2.2.1.size))).2.1; go_simp <;> with_reducible rfl)
            simp only [Act.put, List.setIfInBounds_toArray, List.set_cons_zero, List.set_cons_succ]
            refine wpAnyH_take (i := 4) (oi := { dst := some 29, op := Op.indexAddr 24 (Operand.tmp 26) (Operand.tmp 28), type := 0, pos := "ref.go:57", after := #[{ on := 1, ground := Ground.data }, { on := 3, ground := Ground.data }], guard := none }) (v := ?vq4a) rfl (by as_aux_lemma => kernel_rfl) (by as_aux_lemma => kernel_rfl) (by as_aux_lemma => kernel_rfl) (fun _ _ _ h => h) (Or.inl ⟨by rfl, ?yq4a⟩) (by assumption) ?rq4a
            case yq4a => (intro wS hSw; (try dsimp only at hSw); have kq := (HK0.out wS (HS.out.2.2.1.trans (hSw.mono HS.out.2.2.1.size))).2.1; go_simp <;> with_reducible rfl)
            simp only [Act.put, List.setIfInBounds_toArray, List.set_cons_zero, List.set_cons_succ]
            refine wpAnyH_take (i := 5) (oi := { dst := some 30, op := Op.fieldAddr 72 (Operand.tmp 29) 0, type := 0, pos := "ref.go:57", after := #[{ on := 4, ground := Ground.data }], guard := none }) (v := ?vq5a) rfl (by as_aux_lemma => kernel_rfl) (by as_aux_lemma => kernel_rfl) (by as_aux_lemma => kernel_rfl) (fun _ _ _ h => h) (Or.inl ⟨by rfl, ?yq5a⟩) (by assumption) ?rq5a
            case yq5a => (intro wS hSw; (try dsimp only at hSw); have kq := (HK0.out wS (HS.out.2.2.1.trans (hSw.mono HS.out.2.2.1.size))).2.1; go_simp <;> with_reducible rfl)
            simp only [Act.put, List.setIfInBounds_toArray, List.set_cons_zero, List.set_cons_succ]
            refine wpAnyH_take (i := 6) (oi := { dst := some 31, op := Op.load 29 (Operand.tmp 30), type := 29, pos := "ref.go:57", after := #[{ on := 5, ground := Ground.data }], guard := none }) (v := .agg (adC c.1)) rfl (by as_aux_lemma => kernel_rfl) (by as_aux_lemma => kernel_rfl) (by as_aux_lemma => kernel_rfl) (fun _ _ _ h => h) (yieldsIf_load_A (by rfl) 29 (.tmp 30) rfl (b) (o + j * 21) rfl (adC c.1) _ (fun w hw => by rw [adC_list]; exact cl_addr (range_new HS.out.2.2.2.1 hbl hw)) und_addr rfl (by rw [info_addr, adC_size HS.out.2.2.2.2.2.1])) (by assumption) ?_
            simp only [Act.put, List.setIfInBounds_toArray, List.set_cons_zero, List.set_cons_succ]
            refine wpAnyH_take (i := 7) (oi := { dst := some 32, op := Op.fieldAddr 27 (Operand.tmp 1) 1, type := 0, pos := "ref.go:57", after := #[], guard := none }) (v := ?vq7a) rfl (by as_aux_lemma => kernel_rfl) (by as_aux_lemma => kernel_rfl) (by as_aux_lemma => kernel_rfl) (fun _ _ _ h => h) (Or.inl ⟨by rfl, ?yq7a⟩) (by assumption) ?rq7a
            case yq7a => (intro wS hSw; (try dsimp only at hSw); have kq := (HK0.out wS (HS.out.2.2.1.trans (hSw.mono HS.out.2.2.1.size))).2.1; go_simp <;> with_reducible rfl)
            simp only [Act.put, List.setIfInBounds_toArray, List.set_cons_zero, List.set_cons_succ]
            refine wpAnyH_take (i := 8) (oi := { dst := some 33, op := Op.load 24 (Operand.tmp 32), type := 24, pos := "ref.go:57", after := #[{ on := 7, ground := Ground.data }], guard := none }) (v := ?vq8a) rfl (by as_aux_lemma => kernel_rfl) (by as_aux_lemma => kernel_rfl) (by as_aux_lemma => kernel_rfl) (fun _ _ _ h => h) (Or.inl ⟨by rfl, ?yq8a⟩) (by assumption) ?rq8a
            case yq8a => (intro wS hSw; (try dsimp only at hSw); have kq := (HK0.out wS (HS.out.2.2.1.trans (hSw.mono HS.out.2.2.1.size))).2.1; go_simp <;> with_reducible rfl)
            simp only [Act.put, List.setIfInBounds_toArray, List.set_cons_zero, List.set_cons_succ]
            refine wpAnyH_take (i := 9) (oi := { dst := some 34, op := Op.move (Operand.tmp 3), type := 3, pos := "ref.go:57", after := #[], guard := none }) (v := ?vq9a) rfl (by as_aux_lemma => kernel_rfl) (by as_aux_lemma => kernel_rfl) (by as_aux_lemma => kernel_rfl) (fun _ _ _ h => h) (Or.inl ⟨by rfl, ?yq9a⟩) (by assumption) ?rq9a
            case yq9a => (intro wS hSw; (try dsimp only at hSw); have kq := (HK0.out wS (HS.out.2.2.1.trans (hSw.mono HS.out.2.2.1.size))).2.1; go_simp <;> with_reducible rfl)
            simp only [Act.put, List.setIfInBounds_toArray, List.set_cons_zero, List.set_cons_succ]
            refine wpAnyH_take (i := 10) (oi := { dst := some 35, op := Op.indexAddr 24 (Operand.tmp 33) (Operand.tmp 34), type := 0, pos := "ref.go:57", after := #[{ on := 8, ground := Ground.data }, { on := 9, ground := Ground.data }], guard := none }) (v := ?vq10a) rfl (by as_aux_lemma => kernel_rfl) (by as_aux_lemma => kernel_rfl) (by as_aux_lemma => kernel_rfl) (fun _ _ _ h => h) (Or.inl ⟨by rfl, ?yq10a⟩) (by assumption) ?rq10a
            case yq10a => (intro wS hSw; (try dsimp only at hSw); have kq := (HK0.out wS (HS.out.2.2.1.trans (hSw.mono HS.out.2.2.1.size))).2.1; go_simp <;> with_reducible rfl)
            simp only [Act.put, List.setIfInBounds_toArray, List.set_cons_zero, List.set_cons_succ]
            refine wpAnyH_take (i := 11) (oi := { dst := some 36, op := Op.fieldAddr 72 (Operand.tmp 35) 0, type := 0, pos := "ref.go:57", after := #[{ on := 10, ground := Ground.data }], guard := none }) (v := ?vq11a) rfl (by as_aux_lemma => kernel_rfl) (by as_aux_lemma => kernel_rfl) (by as_aux_lemma => kernel_rfl) (fun _ _ _ h => h) (Or.inl ⟨by rfl, ?yq11a⟩) (by assumption) ?rq11a
            case yq11a => (intro wS hSw; (try dsimp only at hSw); have kq := (HK0.out wS (HS.out.2.2.1.trans (hSw.mono HS.out.2.2.1.size))).2.1; go_simp <;> with_reducible rfl)
            simp only [Act.put, List.setIfInBounds_toArray, List.set_cons_zero, List.set_cons_succ]
            refine wpAnyH_take (i := 12) (oi := { dst := some 37, op := Op.load 29 (Operand.tmp 36), type := 29, pos := "ref.go:57", after := #[{ on := 11, ground := Ground.data }], guard := none }) (v := .agg (adC c'.1)) rfl (by as_aux_lemma => kernel_rfl) (by as_aux_lemma => kernel_rfl) (by as_aux_lemma => kernel_rfl) (fun _ _ _ h => h) (yieldsIf_load_A (by rfl) 29 (.tmp 36) rfl (b) (o + j2 * 21) rfl (adC c'.1) _ (fun w hw => by rw [adC_list]; exact cl_addr (range_new HS.out.2.2.2.2.1 hbl hw)) und_addr rfl (by rw [info_addr, adC_size HS.out.2.2.2.2.2.2.1])) (by assumption) ?_
            simp only [Act.put, List.setIfInBounds_toArray, List.set_cons_zero, List.set_cons_succ]
            refine wpAnyH_ready (rs := [13]) (by as_aux_lemma => kernel_rfl) (by simp) ?_
            refine AllReadyH.cons (o := { dst := some 38, op := Op.call { callee := Callee.value (Operand.func 30), args := #[Operand.tmp 31, Operand.tmp 37], argTypes := #[29, 29] }, type := 3, pos := "ref.go:57", after := #[{ on := 6, ground := Ground.data }, { on := 12, ground := Ground.data }], guard := none }) rfl (fun K hK => ?_) (by exact AllReadyH.nil)
            rw [if_pos (by rfl)]
            go_simp
            (go_at_call 30; refine (HC.out _).mono ?_; rintro e w4 ⟨rfl, hb4⟩)
            have hS4 : Below wr.heap.size wr w4 := hS0.trans hb4
            clear hb4
            refine hK.out _ _ (by (try dsimp only); (first | exact hS0 | assumption)) (fun hHeld => ?_)
            clear hK K
            simp only [List.setIfInBounds_toArray, List.set_cons_zero, List.set_cons_succ]
            refine wpAnyH_take (i := 14) (oi := { dst := some 39, op := Op.binOp BinOp.geq 3 (Operand.tmp 38) (Operand.const (Value.int IntKind.i64 0)) 3, type := 4, pos := "ref.go:57", after := #[{ on := 13, ground := Ground.data }], guard := none }) (v := ?vq14a) rfl (by as_aux_lemma => kernel_rfl) (by as_aux_lemma => kernel_rfl) (by as_aux_lemma => kernel_rfl) (fun _ _ _ h => h) (Or.inl ⟨by rfl, ?yq14a⟩) (by assumption) ?rq14a
            case yq14a => (intro wS hSw; (try dsimp only at hSw); have kq := (HK0.out wS (HS.out.2.2.1.trans (hSw.mono HS.out.2.2.1.size))).2.1; go_simp <;> with_reducible rfl)
            simp only [Act.put, List.setIfInBounds_toArray, List.set_cons_zero, List.set_cons_succ]
            refine wpAnyH_done (by as_aux_lemma => kernel_rfl) ?_ _
            clear hHeld hS0
            have HB4 := Lib.hid hS4
            clear hS4
            go_wp2_with fail
            obtain ⟨s1, s2, s3, s4, s5, s6, s7, s8⟩ := HS.out
            rw [HI.out, decide_eq_true hi0, Bool.true_and] at s1
            exact ⟨⟨j2, by omega, rfl, s3.trans (HB4.out.mono s3.size), s2.trans s1⟩, by simp [intOf]; omega⟩
          · have q7 : (0 : Int) ≤ i := by omega
            refine wp_region_held_drew (S := fun w' => Below wr.heap.size wr w') (by as_aux_lemma => kernel_rfl) hS0 (fun hHeld => ?_)
            simp only [List.size_toArray, List.length_cons, List.length_nil, Nat.reduceAdd, Array.replicate_succ, Array.replicate_zero, List.push_toArray, List.nil_append, List.cons_append]
            refine wpAnyH_take (i := 0) (oi := { dst := some 25, op := Op.fieldAddr 27 (Operand.tmp 1) 1, type := 0, pos := "ref.go:57", after := #[], guard := none }) (v := ?vq0b) rfl (by as_aux_lemma => kernel_rfl) (by as_aux_lemma => kernel_rfl) (by as_aux_lemma => kernel_rfl) (fun _ _ _ h => h) (Or.inl ⟨by rfl, ?yq0b⟩) (by assumption) ?rq0b
            case yq0b => (intro wS hSw; (try dsimp only at hSw); have kq := (HK0.out wS (HS.out.2.2.1.trans (hSw.mono HS.out.2.2.1.size))).2.1; go_simp <;> with_reducible rfl)
            simp only [Act.put, List.setIfInBounds_toArray, List.set_cons_zero, List.set_cons_succ]
            refine wpAnyH_take (i := 1) (oi := { dst := some 26, op := Op.load 24 (Operand.tmp 25), type := 24, pos := "ref.go:57", after := #[{ on := 0, ground := Ground.data }], guard := none }) (v := ?vq1b) rfl (by as_aux_lemma => kernel_rfl) (by as_aux_lemma => kernel_rfl) (by as_aux_lemma => kernel_rfl) (fun _ _ _ h => h) (Or.inl ⟨by rfl, ?yq1b⟩) (by assumption) ?rq1b
            case yq1b => (intro wS hSw; (try dsimp only at hSw); have kq := (HK0.out wS (HS.out.2.2.1.trans (hSw.mono HS.out.2.2.1.size))).2.1; go_simp <;> with_reducible rfl)
            simp only [Act.put, List.setIfInBounds_toArray, List.set_cons_zero, List.set_cons_succ]
            refine wpAnyH_take (i := 2) (oi := { dst := some 27, op := Op.move (Operand.tmp 3), type := 3, pos := "ref.go:57", after := #[], guard := none }) (v := ?vq2b) rfl (by as_aux_lemma => kernel_rfl) (by as_aux_lemma => kernel_rfl) (by as_aux_lemma => kernel_rfl) (fun _ _ _ h => h) (Or.inl ⟨by rfl, ?yq2b⟩) (by assumption) ?rq2b
            case yq2b => (intro wS hSw; (try dsimp only at hSw); have kq := (HK0.out wS (HS.out.2.2.1.trans (hSw.mono HS.out.2.2.1.size))).2.1; go_simp <;> with_reducible rfl)
            simp only [Act.put, List.setIfInBounds_toArray, List.set_cons_zero, List.set_cons_succ]
            refine wpAnyH_take (i := 3) (oi := { dst := some 28, op := Op.binOp BinOp.sub 3 (Operand.tmp 27) (Operand.const (Value.int IntKind.i64 1)) 3, type := 3, pos := "ref.go:57", after := #[{ on := 2, ground := Ground.data }], guard := none }) (v := ?vq3b) rfl (by as_aux_lemma => kernel_rfl) (by as_aux_lemma => kernel_rfl) (by as_aux_lemma => kernel_rfl) (fun _ _ _ h => h) (Or.inl ⟨by rfl, ?yq3b⟩) (by assumption) ?rq3b
            case yq3b => (intro wS hSw; (try dsimp only at hSw); have kq := (HK0.out wS (HS.out.2.2.1.trans (hSw.mono HS.out.2.2.1.size))).2.1; go_simp <;> with_reducible rfl)
            simp only [Act.put, List.setIfInBounds_toArray, List.set_cons_zero, List.set_cons_succ]
            refine wpAnyH_take (i := 4) (oi := { dst := some 29, op := Op.indexAddr 24 (Operand.tmp 26) (Operand.tmp 28), type := 0, pos := "ref.go:57", after := #[{ on := 1, ground := Ground.data }, { on := 3, ground := Ground.data }], guard := none }) (v := ?vq4b) rfl (by as_aux_lemma => kernel_rfl) (by as_aux_lemma => kernel_rfl) (by as_aux_lemma => kernel_rfl) (fun _ _ _ h => h) (Or.inl ⟨by rfl, ?yq4b⟩) (by assumption) ?rq4b
            case yq4b => (intro wS hSw; (try dsimp only at hSw); have kq := (HK0.out wS (HS.out.2.2.1.trans (hSw.mono HS.out.2.2.1.size))).2.1; go_simp <;> with_reducible rfl)
            simp only [Act.put, List.setIfInBounds_toArray, List.set_cons_zero, List.set_cons_succ]
            refine wpAnyH_take (i := 5) (oi := { dst := some 30, op := Op.fieldAddr 72 (Operand.tmp 29) 0, type := 0, pos := "ref.go:57", after := #[{ on := 4, ground := Ground.data }], guard := none }) (v := ?vq5b) rfl (by as_aux_lemma => kernel_rfl) (by as_aux_lemma => kernel_rfl) (by as_aux_lemma => kernel_rfl) (fun _ _ _ h => h) (Or.inl ⟨by rfl, ?yq5b⟩) (by assumption) ?rq5b
            case yq5b => (intro wS hSw; (try dsimp only at hSw); have kq := (HK0.out wS (HS.out.2.2.1.trans (hSw.mono HS.out.2.2.1.size))).2.1; go_simp <;> with_reducible rfl)
            simp only [Act.put, List.setIfInBounds_toArray, List.set_cons_zero, List.set_cons_succ]
            refine wpAnyH_take (i := 6) (oi := { dst := some 31, op := Op.load 29 (Operand.tmp 30), type := 29, pos := "ref.go:57", after := #[{ on := 5, ground := Ground.data }], guard := none }) (v := .agg (adC c.1)) rfl (by as_aux_lemma => kernel_rfl) (by as_aux_lemma => kernel_rfl) (by as_aux_lemma => kernel_rfl) (fun _ _ _ h => h) (yieldsIf_load_A (by rfl) 29 (.tmp 30) rfl (b) (o + j * 21) rfl (adC c.1) _ (fun w hw => by rw [adC_list]; exact cl_addr (range_new HS.out.2.2.2.1 hbl hw)) und_addr rfl (by rw [info_addr, adC_size HS.out.2.2.2.2.2.1])) (by assumption) ?_
            simp only [Act.put, List.setIfInBounds_toArray, List.set_cons_zero, List.set_cons_succ]
            refine wpAnyH_take (i := 7) (oi := { dst := some 32, op := Op.fieldAddr 27 (Operand.tmp 1) 1, type := 0, pos := "ref.go:57", after := #[], guard := none }) (v := ?vq7b) rfl (by as_aux_lemma => kernel_rfl) (by as_aux_lemma => kernel_rfl) (by as_aux_lemma => kernel_rfl) (fun _ _ _ h => h) (Or.inl ⟨by rfl, ?yq7b⟩) (by assumption) ?rq7b
            case yq7b => (intro wS hSw; (try dsimp only at hSw); have kq := (HK0.out wS (HS.out.2.2.1.trans (hSw.mono HS.out.2.2.1.size))).2.1; go_simp <;> with_reducible rfl)
            simp only [Act.put, List.setIfInBounds_toArray, List.set_cons_zero, List.set_cons_succ]
            refine wpAnyH_take (i := 8) (oi := { dst := some 33, op := Op.load 24 (Operand.tmp 32), type := 24, pos := "ref.go:57", after := #[{ on := 7, ground := Ground.data }], guard := none }) (v := ?vq8b) rfl (by as_aux_lemma => kernel_rfl) (by as_aux_lemma => kernel_rfl) (by as_aux_lemma => kernel_rfl) (fun _ _ _ h => h) (Or.inl ⟨by rfl, ?yq8b⟩) (by assumption) ?rq8b
            case yq8b => (intro wS hSw; (try dsimp only at hSw); have kq := (HK0.out wS (HS.out.2.2.1.trans (hSw.mono HS.out.2.2.1.size))).2.1; go_simp <;> with_reducible rfl)
            simp only [Act.put, List.setIfInBounds_toArray, List.set_cons_zero, List.set_cons_succ]
            refine wpAnyH_take (i := 9) (oi := { dst := some 34, op := Op.move (Operand.tmp 3), type := 3, pos := "ref.go:57", after := #[], guard := none }) (v := ?vq9b) rfl (by as_aux_lemma => kernel_rfl) (by as_aux_lemma => kernel_rfl) (by as_aux_lemma => kernel_rfl) (fun _ _ _ h => h) (Or.inl ⟨by rfl, ?yq9b⟩) (by assumption) ?rq9b
            case yq9b => (intro wS hSw; (try dsimp only at hSw); have kq := (HK0.out wS (HS.out.2.2.1.trans (hSw.mono HS.out.2.2.1.size))).2.1; go_simp <;> with_reducible rfl)
            simp only [Act.put, List.setIfInBounds_toArray, List.set_cons_zero, List.set_cons_succ]
            refine wpAnyH_take (i := 10) (oi := { dst := some 35, op := Op.indexAddr 24 (Operand.tmp 33) (Operand.tmp 34), type := 0, pos := "ref.go:57", after := #[{ on := 8, ground := Ground.data }, { on := 9, ground := Ground.data }], guard := none }) (v := ?vq10b) rfl (by as_aux_lemma => kernel_rfl) (by as_aux_lemma => kernel_rfl) (by as_aux_lemma => kernel_rfl) (fun _ _ _ h => h) (Or.inl ⟨by rfl, ?yq10b⟩) (by assumption) ?rq10b
            case yq10b => (intro wS hSw; (try dsimp only at hSw); have kq := (HK0.out wS (HS.out.2.2.1.trans (hSw.mono HS.out.2.2.1.size))).2.1; go_simp <;> with_reducible rfl)
            simp only [Act.put, List.setIfInBounds_toArray, List.set_cons_zero, List.set_cons_succ]
            refine wpAnyH_take (i := 11) (oi := { dst := some 36, op := Op.fieldAddr 72 (Operand.tmp 35) 0, type := 0, pos := "ref.go:57", after := #[{ on := 10, ground := Ground.data }], guard := none }) (v := ?vq11b) rfl (by as_aux_lemma => kernel_rfl) (by as_aux_lemma => kernel_rfl) (by as_aux_lemma => kernel_rfl) (fun _ _ _ h => h) (Or.inl ⟨by rfl, ?yq11b⟩) (by assumption) ?rq11b
            case yq11b => (intro wS hSw; (try dsimp only at hSw); have kq := (HK0.out wS (HS.out.2.2.1.trans (hSw.mono HS.out.2.2.1.size))).2.1; go_simp <;> with_reducible rfl)
            simp only [Act.put, List.setIfInBounds_toArray, List.set_cons_zero, List.set_cons_succ]
            refine wpAnyH_take (i := 12) (oi := { dst := some 37, op := Op.load 29 (Operand.tmp 36), type := 29, pos := "ref.go:57", after := #[{ on := 11, ground := Ground.data }], guard := none }) (v := .agg (adC c'.1)) rfl (by as_aux_lemma => kernel_rfl) (by as_aux_lemma => kernel_rfl) (by as_aux_lemma => kernel_rfl) (fun _ _ _ h => h) (yieldsIf_load_A (by rfl) 29 (.tmp 36) rfl (b) (o + j2 * 21) rfl (adC c'.1) _ (fun w hw => by rw [adC_list]; exact cl_addr (range_new HS.out.2.2.2.2.1 hbl hw)) und_addr rfl (by rw [info_addr, adC_size HS.out.2.2.2.2.2.2.1])) (by assumption) ?_
            simp only [Act.put, List.setIfInBounds_toArray, List.set_cons_zero, List.set_cons_succ]
            refine wpAnyH_ready (rs := [13]) (by as_aux_lemma => kernel_rfl) (by simp) ?_
            refine AllReadyH.cons (o := { dst := some 38, op := Op.call { callee := Callee.value (Operand.func 30), args := #[Operand.tmp 31, Operand.tmp 37], argTypes := #[29, 29] }, type := 3, pos := "ref.go:57", after := #[{ on := 6, ground := Ground.data }, { on := 12, ground := Ground.data }], guard := none }) rfl (fun K hK => ?_) (by exact AllReadyH.nil)
            rw [if_pos (by rfl)]
            go_simp
            (go_at_call 30; refine (HC.out _).mono ?_; rintro e w4 ⟨rfl, hb4⟩)
            have hS4 : Below wr.heap.size wr w4 := hS0.trans hb4
            clear hb4
            refine hK.out _ _ (by (try dsimp only); (first | exact hS0 | assumption)) (fun hHeld => ?_)
            clear hK K
            simp only [List.setIfInBounds_toArray, List.set_cons_zero, List.set_cons_succ]
            refine wpAnyH_take (i := 14) (oi := { dst := some 39, op := Op.binOp BinOp.geq 3 (Operand.tmp 38) (Operand.const (Value.int IntKind.i64 0)) 3, type := 4, pos := "ref.go:57", after := #[{ on := 13, ground := Ground.data }], guard := none }) (v := ?vq14b) rfl (by as_aux_lemma => kernel_rfl) (by as_aux_lemma => kernel_rfl) (by as_aux_lemma => kernel_rfl) (fun _ _ _ h => h) (Or.inl ⟨by rfl, ?yq14b⟩) (by assumption) ?rq14b
            case yq14b => (intro wS hSw; (try dsimp only at hSw); have kq := (HK0.out wS (HS.out.2.2.1.trans (hSw.mono HS.out.2.2.1.size))).2.1; go_simp <;> with_reducible rfl)
            simp only [Act.put, List.setIfInBounds_toArray, List.set_cons_zero, List.set_cons_succ]
            refine wpAnyH_done (by as_aux_lemma => kernel_rfl) ?_ _
            clear hHeld hS0
            have HB4 := Lib.hid hS4
            clear hS4
            go_wp2_with fail
            go_ret
            obtain ⟨s1, s2, s3, s4, s5, s6, s7, s8⟩ := HS.out
            have hR2 : R = 2 := by rw [← HR.out, s2, s1, HI.out, decide_eq_false (show ¬ i < 0 by omega)]; rfl
            rw [hR2]
            exact ⟨rfl, H0.out.trans ((s3.trans (HB4.out.mono s3.size)).mono H0.out.size)⟩
        · have hc1 : rsg ordC cs = true := by rw [hcl, rsg_end ordC cs j (by rw [HN.out.1]; omega)]
          have q1 : ¬ (j : Int) + 1 < (n1 : Int) := by omega
          have HC1 := Lib.hid hc1
          clear hcl hc1
          go_wp2_with fail
          have HX1 := Lib.hid hXw
          clear hXw k1 k2 q1
          go_loopw [4] (fun t wx => ∃ k : Nat, k ≤ n2 ∧ t = .int .i64 k ∧ Below X.heap.size X wx ∧ rsg ordR rs = rsg ordR (rs.drop (k - 1)) ∧ wrg d cs rs = wrg d cs (rs.drop k)) (fun t _ => n2 - (intOf t).toNat)
          case atStart => exact ⟨0, Nat.zero_le _, rfl, HX1.out, rfl, rfl⟩
          case round =>
            obtain ⟨k, hk, rfl, hXx, hcl, hwl⟩ := hrel
            obtain ⟨_, k1, k2⟩ := HK0.out _ hXx
            by_cases hlt2 : k < n2
            · obtain ⟨hcs, hrs⟩ := HA.out
              obtain ⟨r, hc⟩ : ∃ c, rs[k]? = some c := ⟨_, List.getElem?_eq_getElem (by have := HN.out.2; omega)⟩
              obtain ⟨hca, hce, hct⟩ := hrs.1 r (List.mem_of_getElem? hc)
              obtain ⟨_, x', cap', he, _, hcells⟩ := hrs.new (H0.out.trans (hXx.mono H0.out.size))
              obtain ⟨b, o, hx', hbl, hrng⟩ := hcells (fun e => by rw [e] at hc; cases hc)
              injection he with e1 e2 e3
              rw [← e1] at hx'
              subst hx'
              have hr := hrng k r hc
              obtain ⟨dd, hd1, hd2⟩ := und_release
              have hzs : zrC.size = 22 := by rw [zrC_lit]; rfl
              have g3 : (k : Int) < (n2 : Int) := by omega
              have g4 : (0 : Int) ≤ (k : Int) := by omega
              have g5 : IntKind.i64.wrap ((k : Int) + 1) = ((k + 1 : Nat) : Int) := IntWalk.i64_in _ (by omega)
              have hst := wrg_step d cs rs k r hc
              have HS := Lib.hid (And.intro hst (And.intro hcl (And.intro hXx (And.intro hr (And.intro hca (And.intro hct (And.intro hwl (And.intro hrng (And.intro hd1 (And.intro hd2 (And.intro hzs hc)))))))))))
              clear hst hcl hXx hr hrng hcells e1 e2 e3 hc hca hct hwl hcs hrs hd1 hd2 hzs hce
              go_upto_region 11 with fail
              refine wp_region_lit ?_
              refine wpList_plain rfl fun K hK => ?_
              go_simp
              refine hK _ _ ?_
              clear hK K
              refine wpList_plain rfl fun K hK => ?_
              go_simp
              refine hK _ _ ?_
              clear hK K
              refine wpList_plain rfl fun K hK => ?_
              go_simp
              refine hK _ _ ?_
              clear hK K
              refine wpList_plain rfl fun K hK => ?_
              go_simp
              refine hK _ _ ?_
              clear hK K
              refine wpList_load_midA rfl 74 (.tmp 50) rfl b (o + k * 22) rfl (rlC r) dd HS.out.2.2.2.1 HS.out.2.2.2.2.2.2.2.2.1 HS.out.2.2.2.2.2.2.2.2.2.1 (by rw [info_release, rlC_size HS.out.2.2.2.2.1]) ?_
              refine wpList_plain rfl fun K hK => ?_
              go_simp
              refine hK _ _ ?_
              clear hK K
              rw [← zrC_lit]
              refine wpList_store_row rfl 74 (.tmp 5) (.tmp 51) rfl wr.heap.size (rlC r) rfl rfl 74 zrC (Blk.new wr _ _) (by rw [info_release, rlC_size HS.out.2.2.2.2.1]) (by rw [rlC_size HS.out.2.2.2.2.1, HS.out.2.2.2.2.2.2.2.2.2.2.1]) (rlC_one r) (wpList_nil ?_)
              rw [World.setRow_alloc_new]
              obtain ⟨w2, hw2⟩ : ∃ w2, wr.alloc (.cells (rlC r) 74) = w2 := ⟨_, rfl⟩
              have hN : Blk w2 wr.heap.size 74 (rlC r) := by rw [← hw2]; exact Blk.new wr _ _
              have hb : Below wr.heap.size wr w2 := by rw [← hw2]; exact balloc (Below.refl _ wr) _
              rw [hw2]
              have H2 := Lib.hid (And.intro hN hb)
              clear hw2 hN hb k1 k2
              go_upto_region 12 with fail
              have hta := HS.out.2.2.2.2.1
              have hct := HS.out.2.2.2.2.2.1
              have HT := Lib.hid (fun (Y : World) (hY : Below w2.heap.size w2 Y) => (by
                have q := rl_target hta (H2.out.1.keep hY).range
                have q' := rl_entry hta (H2.out.1.keep hY).range
                rw [Nat.zero_add] at q q'
                exact ⟨q, q'⟩ : Y.cell? ⟨wr.heap.size, 21, none⟩ = some (.int .u64 (r.2.2 : Nat)) ∧ Y.cell? ⟨wr.heap.size, 20, none⟩ = some (.int .u32 (r.2.1 : Nat))))
              have hS0 : Below w2.heap.size w2 w2.drew := ⟨rfl, rfl, rfl, Nat.le_refl _, fun _ _ => rfl⟩
              have hX2 := HS.out.2.2.1.trans (H2.out.2.mono HS.out.2.2.1.size)
              have HX2 := Lib.hid hX2
              have HC := Lib.hid (fun (Y : World) (hY : Below w2.heap.size w2 Y) => HCl.out Y (hX2.trans (hY.mono hX2.size)) r.1 hta)
              have HB2 := Lib.hid (fun (Y : World) => HB.out Y r.2.2 r.1 hct)
              obtain ⟨cl, hcl⟩ : ∃ cl, clr d r.1 cs = cl := ⟨_, rfl⟩
              obtain ⟨y, hy⟩ : ∃ y, sub r.2.2 cl = y := ⟨_, rfl⟩
              rw [hcl] at HC HB2
              rw [hy] at HB2
              have hst := HS.out.1
              rw [hcl, hy] at hst
              have HST := Lib.hid (And.intro hst hta)
              clear hst hta hct hX2 hcl hy
              cases y
              · --A
                refine wp_region_held_drew (S := fun w' => Below w2.heap.size w2 w') (by as_aux_lemma => kernel_rfl) hS0 (fun hHeld => ?_)
                simp only [List.size_toArray, List.length_cons, List.length_nil, Nat.reduceAdd, Array.replicate_succ, Array.replicate_zero, List.push_toArray, List.nil_append, List.cons_append]
                refine wpAnyH_take (i := 0) (oi := { dst := some 52, op := Op.fieldAddr 74 (Operand.tmp 5) 2, type := 0, pos := "ref.go:63", after := #[], guard := none }) (v := ?vq0c) rfl (by as_aux_lemma => kernel_rfl) (by as_aux_lemma => kernel_rfl) (by as_aux_lemma => kernel_rfl) (fun _ _ _ h => h) (Or.inl ⟨by rfl, ?yq0c⟩) (by assumption) ?rq0c
                case yq0c => (intro wS hSw; (try dsimp only at hSw); have kq := HK0.out wS (HX2.out.trans (hSw.mono HX2.out.size)); obtain ⟨kq1, kq2, kq3⟩ := kq; have kt := (HT.out wS hSw).1; go_simp <;> with_reducible rfl)
                simp only [Act.put, List.setIfInBounds_toArray, List.set_cons_zero, List.set_cons_succ]
                refine wpAnyH_take (i := 1) (oi := { dst := some 53, op := Op.load 23 (Operand.tmp 52), type := 23, pos := "ref.go:63", after := #[{ on := 0, ground := Ground.data }], guard := none }) (v := ?vq1c) rfl (by as_aux_lemma => kernel_rfl) (by as_aux_lemma => kernel_rfl) (by as_aux_lemma => kernel_rfl) (fun _ _ _ h => h) (Or.inl ⟨by rfl, ?yq1c⟩) (by assumption) ?rq1c
                case yq1c => (intro wS hSw; (try dsimp only at hSw); have kq := HK0.out wS (HX2.out.trans (hSw.mono HX2.out.size)); obtain ⟨kq1, kq2, kq3⟩ := kq; have kt := (HT.out wS hSw).1; go_simp <;> with_reducible rfl)
                simp only [Act.put, List.setIfInBounds_toArray, List.set_cons_zero, List.set_cons_succ]
                refine wpAnyH_take (i := 2) (oi := { dst := some 54, op := Op.load 27 (Operand.tmp 1), type := 27, pos := "ref.go:63", after := #[], guard := none }) (v := ?vq2c) rfl (by as_aux_lemma => kernel_rfl) (by as_aux_lemma => kernel_rfl) (by as_aux_lemma => kernel_rfl) (fun _ _ _ h => h) (Or.inl ⟨by rfl, ?yq2c⟩) (by assumption) ?rq2c
                case yq2c => (intro wS hSw; (try dsimp only at hSw); have kq := HK0.out wS (HX2.out.trans (hSw.mono HX2.out.size)); obtain ⟨kq1, kq2, kq3⟩ := kq; have kt := (HT.out wS hSw).1; go_simp <;> with_reducible rfl)
                simp only [Act.put, List.setIfInBounds_toArray, List.set_cons_zero, List.set_cons_succ]
                refine wpAnyH_take (i := 3) (oi := { dst := some 55, op := Op.fieldAddr 74 (Operand.tmp 5) 0, type := 0, pos := "ref.go:63", after := #[], guard := none }) (v := ?vq3c) rfl (by as_aux_lemma => kernel_rfl) (by as_aux_lemma => kernel_rfl) (by as_aux_lemma => kernel_rfl) (fun _ _ _ h => h) (Or.inl ⟨by rfl, ?yq3c⟩) (by assumption) ?rq3c
                case yq3c => (intro wS hSw; (try dsimp only at hSw); have kq := HK0.out wS (HX2.out.trans (hSw.mono HX2.out.size)); obtain ⟨kq1, kq2, kq3⟩ := kq; have kt := (HT.out wS hSw).1; go_simp <;> with_reducible rfl)
                simp only [Act.put, List.setIfInBounds_toArray, List.set_cons_zero, List.set_cons_succ]
                refine wpAnyH_take (i := 4) (oi := { dst := some 56, op := Op.load 29 (Operand.tmp 55), type := 29, pos := "ref.go:63", after := #[{ on := 3, ground := Ground.data }], guard := none }) (v := .agg (adC r.1)) rfl (by as_aux_lemma => kernel_rfl) (by as_aux_lemma => kernel_rfl) (by as_aux_lemma => kernel_rfl) (fun _ _ _ h => h) (yieldsIf_load_A (by rfl) 29 (.tmp 55) rfl (wr.heap.size) (0) rfl (adC r.1) _ (fun w hw => by rw [adC_list]; exact rl_addr (H2.out.1.keep hw).range) und_addr rfl (by rw [info_addr, adC_size HST.out.2])) (by assumption) ?_
                simp only [Act.put, List.setIfInBounds_toArray, List.set_cons_zero, List.set_cons_succ]
                refine wpAnyH_ready (rs := [5]) (by as_aux_lemma => kernel_rfl) (by simp) ?_
                refine AllReadyH.cons (o := { dst := some 57, op := Op.call { callee := Callee.value (Operand.func 17), args := #[Operand.tmp 54, Operand.tmp 56], argTypes := #[27, 29] }, type := 23, pos := "ref.go:63", after := #[{ on := 2, ground := Ground.data }, { on := 4, ground := Ground.data }], guard := none }) rfl (fun K hK => ?_) (by exact AllReadyH.nil)
                rw [if_pos (by rfl)]
                go_simp
                (go_at_call 17; refine (HC.out _ hS0).mono ?_; rintro e w4 ⟨rfl, hb4⟩)
                have hS4 : Below w2.heap.size w2 w4 := hS0.trans hb4
                clear hb4
                refine hK.out _ _ (by (try dsimp only); (first | exact hS0 | assumption)) (fun hHeld => ?_)
                clear hK K
                simp only [List.setIfInBounds_toArray, List.set_cons_zero, List.set_cons_succ]
                refine wpAnyH_ready (rs := [6]) (by as_aux_lemma => kernel_rfl) (by simp) ?_
                refine AllReadyH.cons (o := { dst := some 58, op := Op.call { callee := Callee.value (Operand.func 47), args := #[Operand.tmp 53, Operand.tmp 57], argTypes := #[23, 23] }, type := 4, pos := "ref.go:63", after := #[{ on := 1, ground := Ground.data }, { on := 5, ground := Ground.data }, { on := 5, ground := Ground.chain }], guard := none }) rfl (fun K hK => ?_) (by exact AllReadyH.nil)
                rw [if_pos (by rfl)]
                go_simp
                (go_at_call 47; refine (HB2.out _).mono ?_; rintro e w5 ⟨rfl, rfl⟩)
                refine hK.out _ _ (by (try dsimp only); (first | exact hS0 | assumption)) (fun hHeld => ?_)
                clear hK K
                simp only [List.setIfInBounds_toArray, List.set_cons_zero, List.set_cons_succ]
                refine wpAnyH_take (i := 7) (oi := { dst := some 59, op := Op.unOp UnOp.not 4 (Operand.tmp 58), type := 4, pos := "ref.go:63", after := #[{ on := 6, ground := Ground.data }], guard := none }) (v := ?vq7c) rfl (by as_aux_lemma => kernel_rfl) (by as_aux_lemma => kernel_rfl) (by as_aux_lemma => kernel_rfl) (fun _ _ _ h => h) (Or.inl ⟨by rfl, ?yq7c⟩) (by assumption) ?rq7c
                case yq7c => (intro wS hSw; (try dsimp only at hSw); have kq := HK0.out wS (HX2.out.trans (hSw.mono HX2.out.size)); obtain ⟨kq1, kq2, kq3⟩ := kq; have kt := (HT.out wS hSw).1; go_simp <;> with_reducible rfl)
                simp only [Act.put, List.setIfInBounds_toArray, List.set_cons_zero, List.set_cons_succ]
                refine wpAnyH_done (by as_aux_lemma => kernel_rfl) ?_ _
                clear hHeld hS0
                have HB4 := Lib.hid hS4
                clear hS4
                go_wp2_with fail
                go_ret
                have hR2 : R = 2 := by rw [← HR.out, HS.out.2.2.2.2.2.2.1, HST.out.1]; simp
                rw [hR2]
                exact ⟨rfl, H0.out.trans ((HX2.out.trans (HB4.out.mono HX2.out.size)).mono H0.out.size)⟩
              · --B
                refine wp_region_held_drew (S := fun w' => Below w2.heap.size w2 w') (by as_aux_lemma => kernel_rfl) hS0 (fun hHeld => ?_)
                simp only [List.size_toArray, List.length_cons, List.length_nil, Nat.reduceAdd, Array.replicate_succ, Array.replicate_zero, List.push_toArray, List.nil_append, List.cons_append]
                refine wpAnyH_take (i := 0) (oi := { dst := some 52, op := Op.fieldAddr 74 (Operand.tmp 5) 2, type := 0, pos := "ref.go:63", after := #[], guard := none }) (v := ?vq0d) rfl (by as_aux_lemma => kernel_rfl) (by as_aux_lemma => kernel_rfl) (by as_aux_lemma => kernel_rfl) (fun _ _ _ h => h) (Or.inl ⟨by rfl, ?yq0d⟩) (by assumption) ?rq0d
                case yq0d => (intro wS hSw; (try dsimp only at hSw); have kq := HK0.out wS (HX2.out.trans (hSw.mono HX2.out.size)); obtain ⟨kq1, kq2, kq3⟩ := kq; have kt := (HT.out wS hSw).1; go_simp <;> with_reducible rfl)
                simp only [Act.put, List.setIfInBounds_toArray, List.set_cons_zero, List.set_cons_succ]
                refine wpAnyH_take (i := 1) (oi := { dst := some 53, op := Op.load 23 (Operand.tmp 52), type := 23, pos := "ref.go:63", after := #[{ on := 0, ground := Ground.data }], guard := none }) (v := ?vq1d) rfl (by as_aux_lemma => kernel_rfl) (by as_aux_lemma => kernel_rfl) (by as_aux_lemma => kernel_rfl) (fun _ _ _ h => h) (Or.inl ⟨by rfl, ?yq1d⟩) (by assumption) ?rq1d
                case yq1d => (intro wS hSw; (try dsimp only at hSw); have kq := HK0.out wS (HX2.out.trans (hSw.mono HX2.out.size)); obtain ⟨kq1, kq2, kq3⟩ := kq; have kt := (HT.out wS hSw).1; go_simp <;> with_reducible rfl)
                simp only [Act.put, List.setIfInBounds_toArray, List.set_cons_zero, List.set_cons_succ]
                refine wpAnyH_take (i := 2) (oi := { dst := some 54, op := Op.load 27 (Operand.tmp 1), type := 27, pos := "ref.go:63", after := #[], guard := none }) (v := ?vq2d) rfl (by as_aux_lemma => kernel_rfl) (by as_aux_lemma => kernel_rfl) (by as_aux_lemma => kernel_rfl) (fun _ _ _ h => h) (Or.inl ⟨by rfl, ?yq2d⟩) (by assumption) ?rq2d
                case yq2d => (intro wS hSw; (try dsimp only at hSw); have kq := HK0.out wS (HX2.out.trans (hSw.mono HX2.out.size)); obtain ⟨kq1, kq2, kq3⟩ := kq; have kt := (HT.out wS hSw).1; go_simp <;> with_reducible rfl)
                simp only [Act.put, List.setIfInBounds_toArray, List.set_cons_zero, List.set_cons_succ]
                refine wpAnyH_take (i := 3) (oi := { dst := some 55, op := Op.fieldAddr 74 (Operand.tmp 5) 0, type := 0, pos := "ref.go:63", after := #[], guard := none }) (v := ?vq3d) rfl (by as_aux_lemma => kernel_rfl) (by as_aux_lemma => kernel_rfl) (by as_aux_lemma => kernel_rfl) (fun _ _ _ h => h) (Or.inl ⟨by rfl, ?yq3d⟩) (by assumption) ?rq3d
                case yq3d => (intro wS hSw; (try dsimp only at hSw); have kq := HK0.out wS (HX2.out.trans (hSw.mono HX2.out.size)); obtain ⟨kq1, kq2, kq3⟩ := kq; have kt := (HT.out wS hSw).1; go_simp <;> with_reducible rfl)
                simp only [Act.put, List.setIfInBounds_toArray, List.set_cons_zero, List.set_cons_succ]
                refine wpAnyH_take (i := 4) (oi := { dst := some 56, op := Op.load 29 (Operand.tmp 55), type := 29, pos := "ref.go:63", after := #[{ on := 3, ground := Ground.data }], guard := none }) (v := .agg (adC r.1)) rfl (by as_aux_lemma => kernel_rfl) (by as_aux_lemma => kernel_rfl) (by as_aux_lemma => kernel_rfl) (fun _ _ _ h => h) (yieldsIf_load_A (by rfl) 29 (.tmp 55) rfl (wr.heap.size) (0) rfl (adC r.1) _ (fun w hw => by rw [adC_list]; exact rl_addr (H2.out.1.keep hw).range) und_addr rfl (by rw [info_addr, adC_size HST.out.2])) (by assumption) ?_
                simp only [Act.put, List.setIfInBounds_toArray, List.set_cons_zero, List.set_cons_succ]
                refine wpAnyH_ready (rs := [5]) (by as_aux_lemma => kernel_rfl) (by simp) ?_
                refine AllReadyH.cons (o := { dst := some 57, op := Op.call { callee := Callee.value (Operand.func 17), args := #[Operand.tmp 54, Operand.tmp 56], argTypes := #[27, 29] }, type := 23, pos := "ref.go:63", after := #[{ on := 2, ground := Ground.data }, { on := 4, ground := Ground.data }], guard := none }) rfl (fun K hK => ?_) (by exact AllReadyH.nil)
                rw [if_pos (by rfl)]
                go_simp
                (go_at_call 17; refine (HC.out _ hS0).mono ?_; rintro e w4 ⟨rfl, hb4⟩)
                have hS4 : Below w2.heap.size w2 w4 := hS0.trans hb4
                clear hb4
                refine hK.out _ _ (by (try dsimp only); (first | exact hS0 | assumption)) (fun hHeld => ?_)
                clear hK K
                simp only [List.setIfInBounds_toArray, List.set_cons_zero, List.set_cons_succ]
                refine wpAnyH_ready (rs := [6]) (by as_aux_lemma => kernel_rfl) (by simp) ?_
                refine AllReadyH.cons (o := { dst := some 58, op := Op.call { callee := Callee.value (Operand.func 47), args := #[Operand.tmp 53, Operand.tmp 57], argTypes := #[23, 23] }, type := 4, pos := "ref.go:63", after := #[{ on := 1, ground := Ground.data }, { on := 5, ground := Ground.data }, { on := 5, ground := Ground.chain }], guard := none }) rfl (fun K hK => ?_) (by exact AllReadyH.nil)
                rw [if_pos (by rfl)]
                go_simp
                (go_at_call 47; refine (HB2.out _).mono ?_; rintro e w5 ⟨rfl, rfl⟩)
                refine hK.out _ _ (by (try dsimp only); (first | exact hS0 | assumption)) (fun hHeld => ?_)
                clear hK K
                simp only [List.setIfInBounds_toArray, List.set_cons_zero, List.set_cons_succ]
                refine wpAnyH_take (i := 7) (oi := { dst := some 59, op := Op.unOp UnOp.not 4 (Operand.tmp 58), type := 4, pos := "ref.go:63", after := #[{ on := 6, ground := Ground.data }], guard := none }) (v := ?vq7d) rfl (by as_aux_lemma => kernel_rfl) (by as_aux_lemma => kernel_rfl) (by as_aux_lemma => kernel_rfl) (fun _ _ _ h => h) (Or.inl ⟨by rfl, ?yq7d⟩) (by assumption) ?rq7d
                case yq7d => (intro wS hSw; (try dsimp only at hSw); have kq := HK0.out wS (HX2.out.trans (hSw.mono HX2.out.size)); obtain ⟨kq1, kq2, kq3⟩ := kq; have kt := (HT.out wS hSw).1; go_simp <;> with_reducible rfl)
                simp only [Act.put, List.setIfInBounds_toArray, List.set_cons_zero, List.set_cons_succ]
                refine wpAnyH_done (by as_aux_lemma => kernel_rfl) ?_ _
                clear hHeld hS0
                have HB4 := Lib.hid hS4
                clear hS4
                have hw1 : wrg d cs rs = wrg d cs (rs.drop (k + 1)) := by rw [HS.out.2.2.2.2.2.2.1, HST.out.1]; rfl
                have HW1 := Lib.hid hw1
                clear hw1
                by_cases hk0 : k = 0
                · subst hk0
                  go_wp2_with fail
                  exact ⟨⟨1, by omega, rfl, HX2.out.trans (HB4.out.mono HX2.out.size), rfl, HW1.out⟩, by simp [intOf]; omega⟩
                · have g6 : (0 : Int) < (k : Int) := by omega
                  obtain ⟨kp, hkp⟩ : ∃ q, k - 1 = q := ⟨_, rfl⟩
                  have g7 : IntKind.i64.wrap ((k : Int) - 1) = (kp : Int) := by rw [IntWalk.i64_in _ (by omega)]; omega
                  have g8 : (0 : Int) ≤ (kp : Int) := by omega
                  have g9 : (kp : Int) < (n2 : Int) := by omega
                  have hX4 := HX2.out.trans (HB4.out.mono HX2.out.size)
                  obtain ⟨_, k1, k2⟩ := HK0.out _ hX4
                  obtain ⟨y, hyc⟩ : ∃ c, rs[kp]? = some c := ⟨_, List.getElem?_eq_getElem (by have := HN.out.2; omega)⟩
                  have hya := (HA.out.2.1 y (List.mem_of_getElem? hyc)).1
                  have hs24 := H2.out.2.trans (HB4.out.mono H2.out.2.size)
                  have hry := range_new (HS.out.2.2.2.2.2.2.2.1 kp y hyc) hbl hs24
                  have hrs := rsg_step ordR rs kp y r hyc (by rw [show kp + 1 = k by omega]; exact HS.out.2.2.2.2.2.2.2.2.2.2.2)
                  rw [show kp + 1 = k by omega] at hrs
                  have hrr : rsg ordR rs = rsg ordR (rs.drop kp) := by rw [← hkp]; exact HS.out.2.1
                  have HY := Lib.hid (And.intro hX4 (And.intro hya (And.intro hry (And.intro hrs (And.intro hrr (And.intro (H2.out.1.keep HB4.out) hkp))))))
                  clear hX4 hyc hya hs24 hry hrs hrr hkp hk0
                  go_upto_region 15 with fail
                  refine wp_region_lit ?_
                  refine wpList_plain rfl fun K hK => ?_
                  go_simp
                  refine hK _ _ ?_
                  clear hK K
                  refine wpList_plain rfl fun K hK => ?_
                  go_simp
                  refine hK _ _ ?_
                  clear hK K
                  refine wpList_plain rfl fun K hK => ?_
                  go_simp
                  refine hK _ _ ?_
                  clear hK K
                  refine wpList_plain rfl fun K hK => ?_
                  go_simp
                  refine hK _ _ ?_
                  clear hK K
                  refine wpList_plain rfl fun K hK => ?_
                  go_simp
                  refine hK _ _ ?_
                  clear hK K
                  refine wpList_load_midA rfl 74 (.tmp 66) rfl b (o + kp * 22) rfl (rlC y) dd HY.out.2.2.1 HS.out.2.2.2.2.2.2.2.2.1 HS.out.2.2.2.2.2.2.2.2.2.1 (by rw [info_release, rlC_size HY.out.2.1]) ?_
                  refine wpList_plain rfl fun K hK => ?_
                  go_simp
                  refine hK _ _ ?_
                  clear hK K
                  rw [← zrC_lit]
                  refine wpList_store_row rfl 74 (.tmp 6) (.tmp 67) rfl w4.heap.size (rlC y) rfl rfl 74 zrC (Blk.new w4 _ _) (by rw [info_release, rlC_size HY.out.2.1]) (by rw [rlC_size HY.out.2.1, HS.out.2.2.2.2.2.2.2.2.2.2.1]) (rlC_one y) (wpList_nil ?_)
                  rw [World.setRow_alloc_new]
                  obtain ⟨w6, hw6⟩ : ∃ w6, w4.alloc (.cells (rlC y) 74) = w6 := ⟨_, rfl⟩
                  have hN6 : Blk w6 w4.heap.size 74 (rlC y) := by rw [← hw6]; exact Blk.new w4 _ _
                  have hb6 : Below w4.heap.size w4 w6 := by rw [← hw6]; exact balloc (Below.refl _ w4) _
                  rw [hw6]
                  have H6 := Lib.hid (And.intro hN6 (And.intro hb6 (HY.out.2.2.2.2.2.1.keep hb6)))
                  clear hw6 hN6 hb6 k1 k2
                  have HO6 := Lib.hid (fun (Y : World) => rorder_any y.1 r.1 HY.out.2.1 HST.out.2 Y)
                  obtain ⟨mm, hmm⟩ : ∃ m, ordN (bv y.1) (bv r.1) = m := ⟨_, rfl⟩
                  rw [hmm] at HO6
                  have hor : ordR y r = if mm = 0 then ordN y.2.1 r.2.1 else mm := by unfold ordR; rw [hmm]
                  have HOR := Lib.hid hor
                  clear hmm hor
                  go_upto_region 16 with fail
                  refine wp_region_lit ?_
                  refine wpList_plain rfl fun K hK => ?_
                  go_simp
                  refine hK _ _ ?_
                  clear hK K
                  refine wpList_load_midA rfl 29 (.tmp 68) rfl w4.heap.size 0 rfl (adC y.1) _ (by rw [adC_list]; exact rl_addr H6.out.1.range) und_addr rfl (by rw [info_addr, adC_size HY.out.2.1]) ?_
                  refine wpList_plain rfl fun K hK => ?_
                  go_simp
                  refine hK _ _ ?_
                  clear hK K
                  refine wpList_load_midA rfl 29 (.tmp 70) rfl wr.heap.size 0 rfl (adC r.1) _ (by rw [adC_list]; exact rl_addr H6.out.2.2.range) und_addr rfl (by rw [info_addr, adC_size HST.out.2]) ?_
                  go_upto_region 17 with (first | (go_at_call 30; refine (HO6.out _).mono ?_; rintro e w7 ⟨rfl, hb7⟩; have HB7 := Lib.hid hb7; clear hb7) | fail)
                  have ky := rl_entry HY.out.2.1 (H6.out.1.keep HB7.out).range
                  have kr := rl_entry HST.out.2 (H6.out.2.2.keep HB7.out).range
                  rw [Nat.zero_add] at ky kr
                  have h47 := H6.out.2.1.trans (HB7.out.mono H6.out.2.1.size)
                  have HX7 := Lib.hid (HY.out.1.trans (h47.mono HY.out.1.size))
                  clear h47
                  rcases Int.lt_trichotomy mm 0 with hm | hm | hm
                  · have p1 : ¬ (0 : Int) < mm := by omega
                    have p2 : (mm == 0) = false := by simp; omega
                    have p3 : ¬ mm = 0 := by omega
                    have HORN := Lib.hid (show ordR y r < 0 by rw [HOR.out, if_neg p3]; exact hm)
                    clear hm
                    go_wp2_with fail
                    have hrn : rsg ordR rs = rsg ordR (rs.drop (k + 1 - 1)) := by rw [HY.out.2.2.2.2.1, HY.out.2.2.2.1, decide_eq_true HORN.out]; rfl
                    exact ⟨⟨k + 1, by omega, congrArg (Value.int .i64) (by omega), HX7.out, hrn, HW1.out⟩, by simp [intOf]; omega⟩
                  · subst hm
                    by_cases hle : r.2.1 ≤ y.2.1
                    · have p1 : (r.2.1 : Int) ≤ (y.2.1 : Int) := by omega
                      have HORN := Lib.hid (show ¬ ordR y r < 0 by rw [HOR.out, if_pos rfl]; unfold ordN; rw [if_neg (by omega)]; split <;> omega)
                      clear hle
                      go_wp2_with fail
                      go_ret
                      have hR2 : R = 2 := by rw [← HR.out, HY.out.2.2.2.2.1, HY.out.2.2.2.1, decide_eq_false (show ¬ ordR y r < 0 by have := HORN.out; omega)]; simp
                      rw [hR2]
                      exact ⟨rfl, H0.out.trans (HX7.out.mono H0.out.size)⟩
                    · have p1 : ¬ (r.2.1 : Int) ≤ (y.2.1 : Int) := by omega
                      have HORN := Lib.hid (show ordR y r < 0 by rw [HOR.out, if_pos rfl]; unfold ordN; rw [if_pos (by omega)]; omega)
                      clear hle
                      go_wp2_with fail
                      have hrn : rsg ordR rs = rsg ordR (rs.drop (k + 1 - 1)) := by rw [HY.out.2.2.2.2.1, HY.out.2.2.2.1, decide_eq_true HORN.out]; rfl
                      exact ⟨⟨k + 1, by omega, congrArg (Value.int .i64) (by omega), HX7.out, hrn, HW1.out⟩, by simp [intOf]; omega⟩
                  · have p1 : (0 : Int) < mm := hm
                    have HORN := Lib.hid (show ¬ ordR y r < 0 by rw [HOR.out, if_neg (by omega)]; omega)
                    clear hm
                    go_wp2_with fail
                    go_ret
                    have hR2 : R = 2 := by rw [← HR.out, HY.out.2.2.2.2.1, HY.out.2.2.2.1, decide_eq_false (show ¬ ordR y r < 0 by have := HORN.out; omega)]; simp
                    rw [hR2]
                    exact ⟨rfl, H0.out.trans (HX7.out.mono H0.out.size)⟩
            · obtain rfl : n2 = k := by omega
              have hR2 : R = 0 := by rw [← HR.out, HC1.out, hcl, hwl, rsg_end ordR rs (n2 - 1) (by rw [HN.out.2]; omega), List.drop_of_length_le (by rw [HN.out.2]; exact Nat.le_refl _)]; rfl
              have HE := Lib.hid (And.intro hR2 hXx)
              clear hR2 hXx hcl hwl
              go_wp2_with fail
              go_ret
              rw [HE.out.1]
              exact ⟨rfl, H0.out.trans (HE.out.2.mono H0.out.size)⟩
end Go.Proofs.YtenepkgjdoddgaaGreatDoor
