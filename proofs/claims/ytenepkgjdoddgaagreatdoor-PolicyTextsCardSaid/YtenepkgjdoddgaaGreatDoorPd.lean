/- Texts laid into one: Pd. -/
import Derived.Test.YtenepkgjdoddgaaGreatDoorRf
import Derived.Test.YtenepkgjdoddgaaGreatDoorGe
/- policy: what Check compares by. -/
namespace Go.Proofs.YtenepkgjdoddgaaGreatDoor
open Go.RowKit Go.Shelf

set_option maxRecDepth 100000 in
theorem uisnan_any (a : Int) (w : World) : Calls Tryz.prog 75 #[.int .u32 a] w fun e w' => e = .returned (.bool false) ∧ w = w' := by
  go_enter Tryz.func75, Tryz.ntmps75
  go_wp2_with fail
  go_ret
  exact ⟨by simp, rfl⟩
set_option maxRecDepth 100000 in
set_option maxHeartbeats 2000000 in
theorem ucompare_any (a b : Nat) (w : World) : Calls Tryz.prog 41 #[.int .u32 a, .int .u32 b] w fun e w' => e = .returned (.int .i64 (ordN a b)) ∧ w = w' := by
  have h1 := Lib.hid (uisnan_any a w)
  have h2 := Lib.hid (uisnan_any b w)
  by_cases g1 : a < b
  · have k1 : (a : Int) < (b : Int) := by omega
    have e : ordN a b = -1 := by unfold ordN; rw [if_pos g1]
    rw [e]
    clear e g1
    go_enter Tryz.func41, Tryz.ntmps41
    go_wp2_with (first | (go_at_call 75; first | (refine h1.out.mono ?_; rintro e w1 ⟨rfl, rfl⟩) | (refine h2.out.mono ?_; rintro e w1 ⟨rfl, rfl⟩)) | fail)
    go_ret
    exact ⟨rfl, rfl⟩
  · have k1 : ¬ (a : Int) < (b : Int) := by omega
    by_cases g2 : b < a
    · have k2 : (b : Int) < (a : Int) := by omega
      have e : ordN a b = 1 := by unfold ordN; rw [if_neg g1, if_pos g2]
      rw [e]
      clear e g1 g2
      go_enter Tryz.func41, Tryz.ntmps41
      go_wp2_with (first | (go_at_call 75; first | (refine h1.out.mono ?_; rintro e w1 ⟨rfl, rfl⟩) | (refine h2.out.mono ?_; rintro e w1 ⟨rfl, rfl⟩)) | fail)
      go_ret
      exact ⟨rfl, rfl⟩
    · have k2 : ¬ (b : Int) < (a : Int) := by omega
      have e : ordN a b = 0 := by unfold ordN; rw [if_neg g1, if_neg g2]
      rw [e]
      clear e g1 g2
      go_enter Tryz.func41, Tryz.ntmps41
      go_wp2_with (first | (go_at_call 75; first | (refine h1.out.mono ?_; rintro e w1 ⟨rfl, rfl⟩) | (refine h2.out.mono ?_; rintro e w1 ⟨rfl, rfl⟩)) | fail)
      go_ret
      exact ⟨rfl, rfl⟩

set_option maxRecDepth 100000 in
set_option maxHeartbeats 4000000 in
theorem clears1_any (c c2 : List Nat × Nat) (h1 : Ad c.1) (h2 : Ad c2.1) (w : World) :
    Calls Tryz.prog 38 #[.agg (clC c), .agg (clC c2)] w fun e w' => e = .returned (.int .i64 (ordN (bv c.1) (bv c2.1))) ∧ Below w.heap.size w w' := by
  obtain ⟨X, hX⟩ : ∃ X, (w.alloc (.cells (clC c) 72)).alloc (.cells (clC c2) 72) = X := ⟨_, rfl⟩
  have b1 : Blk X w.heap.size 72 (clC c) := by rw [← hX]; exact (Blk.new w _ _).alloc _
  have b2 : Blk X (w.heap.size + 1) 72 (clC c2) := by rw [← hX]; exact Blk.newS w _ _ _
  have hW : Below w.heap.size w X := by rw [← hX]; exact balloc (balloc (Below.refl _ _) _) _
  have HX := Lib.hid hX
  have HO := Lib.hid (porder_any c.1 c2.1 h1 h2 X)
  have H0 := Lib.hid (And.intro b1 (And.intro b2 (And.intro hW (And.intro h1 h2))))
  clear hX b1 b2 hW h1 h2
  go_enter Tryz.func38, Tryz.ntmps38
  go_upto_region 1 with fail
  rw [HX.out]
  refine wp_region_lit ?_
  refine wpList_plain rfl fun K hK => ?_
  go_simp
  refine hK _ _ ?_
  clear hK K
  refine wpList_load_midA rfl 29 (.tmp 5) rfl w.heap.size 0 rfl (adC c.1) _ (by rw [adC_list]; exact cl_addr H0.out.1.range) und_addr rfl (by rw [info_addr, adC_size H0.out.2.2.2.1]) ?_
  refine wpList_plain rfl fun K hK => ?_
  go_simp
  refine hK _ _ ?_
  clear hK K
  refine wpList_load_midA rfl 29 (.tmp 7) rfl (w.heap.size + 1) 0 rfl (adC c2.1) _ (by rw [adC_list]; exact cl_addr H0.out.2.1.range) und_addr rfl (by rw [info_addr, adC_size H0.out.2.2.2.2]) ?_
  go_wp2_with (first | (go_at_call 29; refine HO.out.mono ?_; rintro e w1 ⟨rfl, h1⟩; have H1 := Lib.hid h1; clear h1) | fail)
  go_ret
  exact ⟨rfl, H0.out.2.2.1.trans (H1.out.mono H0.out.2.2.1.size)⟩
end Go.Proofs.YtenepkgjdoddgaaGreatDoor

/- policy: Check's second and third closure. -/
namespace Go.Proofs.YtenepkgjdoddgaaGreatDoor
open Go.RowKit Go.Shelf

/-- The order of releases. -/
def ordR (r s : List Nat × Nat × Nat) : Int := if ordN (bv r.1) (bv s.1) = 0 then ordN r.2.1 s.2.1 else ordN (bv r.1) (bv s.1)
set_option maxRecDepth 100000 in
set_option maxHeartbeats 4000000 in
theorem releases1_any (c c2 : List Nat × Nat × Nat) (h1 : Ad c.1) (h2 : Ad c2.1) (w : World) :
    Calls Tryz.prog 39 #[.agg (rlC c), .agg (rlC c2)] w fun e w' => e = .returned (.int .i64 (ordR c c2)) ∧ Below w.heap.size w w' := by
  obtain ⟨X, hX⟩ : ∃ X, (w.alloc (.cells (rlC c) 74)).alloc (.cells (rlC c2) 74) = X := ⟨_, rfl⟩
  have b1 : Blk X w.heap.size 74 (rlC c) := by rw [← hX]; exact (Blk.new w _ _).alloc _
  have b2 : Blk X (w.heap.size + 1) 74 (rlC c2) := by rw [← hX]; exact Blk.newS w _ _ _
  have hW : Below w.heap.size w X := by rw [← hX]; exact balloc (balloc (Below.refl _ _) _) _
  have HX := Lib.hid hX
  have H0 := Lib.hid (And.intro b1 (And.intro b2 (And.intro hW (And.intro h1 h2))))
  have HK := Lib.hid (fun (Y : World) (hY : Below X.heap.size X Y) => (by
    have q1 := rl_entry h1 (b1.keep hY).range
    have q2 := rl_entry h2 (b2.keep hY).range
    rw [Nat.zero_add] at q1 q2
    exact ⟨q1, q2⟩ : Y.cell? ⟨w.heap.size, 20, none⟩ = some (.int .u32 (c.2.1 : Nat)) ∧ Y.cell? ⟨w.heap.size + 1, 20, none⟩ = some (.int .u32 (c2.2.1 : Nat))))
  clear hX b1 b2 hW h1 h2
  go_enter Tryz.func39, Tryz.ntmps39
  go_upto_region 1 with fail
  rw [HX.out]
  have hS0 : Below X.heap.size X X.drew := ⟨rfl, rfl, rfl, Nat.le_refl _, fun _ _ => rfl⟩
  refine wp_region_held_drew (S := fun w' => Below X.heap.size X w') (by as_aux_lemma => kernel_rfl) hS0 (fun hHeld => ?_)
  simp only [List.size_toArray, List.length_cons, List.length_nil, Nat.reduceAdd, Array.replicate_succ, Array.replicate_zero, List.push_toArray, List.nil_append, List.cons_append]
  refine wpAnyH_take (i := 0) (oi := { dst := some 5, op := Op.fieldAddr 74 (Operand.tmp 2) 0, type := 0, pos := "policy.go:29", after := #[], guard := none }) (v := ?vq0a) rfl (by as_aux_lemma => kernel_rfl) (by as_aux_lemma => kernel_rfl) (by as_aux_lemma => kernel_rfl) (fun _ _ _ h => h) (Or.inl ⟨by rfl, ?yq0a⟩) (by assumption) ?rq0a
  case yq0a => (intro wS hSw; (try dsimp only at hSw); have kq := HK.out wS hSw; obtain ⟨kq1, kq2⟩ := kq; go_simp <;> with_reducible rfl)
  simp only [Act.put, List.setIfInBounds_toArray, List.set_cons_zero, List.set_cons_succ]
  refine wpAnyH_take (i := 1) (oi := { dst := some 6, op := Op.load 29 (Operand.tmp 5), type := 29, pos := "policy.go:29", after := #[{ on := 0, ground := Ground.data }], guard := none }) (v := .agg (adC c.1)) rfl (by as_aux_lemma => kernel_rfl) (by as_aux_lemma => kernel_rfl) (by as_aux_lemma => kernel_rfl) (fun _ _ _ h => h) (yieldsIf_load_A (by rfl) 29 (.tmp 5) rfl (w.heap.size) (0) rfl (adC c.1) _ (fun w hw => by rw [adC_list]; exact rl_addr (H0.out.1.keep hw).range) und_addr rfl (by rw [info_addr, adC_size H0.out.2.2.2.1])) (by assumption) ?_
  simp only [Act.put, List.setIfInBounds_toArray, List.set_cons_zero, List.set_cons_succ]
  refine wpAnyH_take (i := 2) (oi := { dst := some 7, op := Op.fieldAddr 74 (Operand.tmp 3) 0, type := 0, pos := "policy.go:29", after := #[], guard := none }) (v := ?vq2a) rfl (by as_aux_lemma => kernel_rfl) (by as_aux_lemma => kernel_rfl) (by as_aux_lemma => kernel_rfl) (fun _ _ _ h => h) (Or.inl ⟨by rfl, ?yq2a⟩) (by assumption) ?rq2a
  case yq2a => (intro wS hSw; (try dsimp only at hSw); have kq := HK.out wS hSw; obtain ⟨kq1, kq2⟩ := kq; go_simp <;> with_reducible rfl)
  simp only [Act.put, List.setIfInBounds_toArray, List.set_cons_zero, List.set_cons_succ]
  refine wpAnyH_take (i := 3) (oi := { dst := some 8, op := Op.load 29 (Operand.tmp 7), type := 29, pos := "policy.go:29", after := #[{ on := 2, ground := Ground.data }], guard := none }) (v := .agg (adC c2.1)) rfl (by as_aux_lemma => kernel_rfl) (by as_aux_lemma => kernel_rfl) (by as_aux_lemma => kernel_rfl) (fun _ _ _ h => h) (yieldsIf_load_A (by rfl) 29 (.tmp 7) rfl (w.heap.size + 1) (0) rfl (adC c2.1) _ (fun w hw => by rw [adC_list]; exact rl_addr (H0.out.2.1.keep hw).range) und_addr rfl (by rw [info_addr, adC_size H0.out.2.2.2.2])) (by assumption) ?_
  simp only [Act.put, List.setIfInBounds_toArray, List.set_cons_zero, List.set_cons_succ]
  refine wpAnyH_take (i := 5) (oi := { dst := some 10, op := Op.fieldAddr 74 (Operand.tmp 2) 1, type := 0, pos := "policy.go:29", after := #[], guard := none }) (v := ?vq4a) rfl (by as_aux_lemma => kernel_rfl) (by as_aux_lemma => kernel_rfl) (by as_aux_lemma => kernel_rfl) (fun _ _ _ h => h) (Or.inl ⟨by rfl, ?yq4a⟩) (by assumption) ?rq4a
  case yq4a => (intro wS hSw; (try dsimp only at hSw); have kq := HK.out wS hSw; obtain ⟨kq1, kq2⟩ := kq; go_simp <;> with_reducible rfl)
  simp only [Act.put, List.setIfInBounds_toArray, List.set_cons_zero, List.set_cons_succ]
  refine wpAnyH_take (i := 6) (oi := { dst := some 11, op := Op.load 30 (Operand.tmp 10), type := 30, pos := "policy.go:29", after := #[{ on := 5, ground := Ground.data }], guard := none }) (v := ?vq5a) rfl (by as_aux_lemma => kernel_rfl) (by as_aux_lemma => kernel_rfl) (by as_aux_lemma => kernel_rfl) (fun _ _ _ h => h) (Or.inl ⟨by rfl, ?yq5a⟩) (by assumption) ?rq5a
  case yq5a => (intro wS hSw; (try dsimp only at hSw); have kq := HK.out wS hSw; obtain ⟨kq1, kq2⟩ := kq; go_simp <;> with_reducible rfl)
  simp only [Act.put, List.setIfInBounds_toArray, List.set_cons_zero, List.set_cons_succ]
  refine wpAnyH_take (i := 7) (oi := { dst := some 12, op := Op.fieldAddr 74 (Operand.tmp 3) 1, type := 0, pos := "policy.go:29", after := #[], guard := none }) (v := ?vq6a) rfl (by as_aux_lemma => kernel_rfl) (by as_aux_lemma => kernel_rfl) (by as_aux_lemma => kernel_rfl) (fun _ _ _ h => h) (Or.inl ⟨by rfl, ?yq6a⟩) (by assumption) ?rq6a
  case yq6a => (intro wS hSw; (try dsimp only at hSw); have kq := HK.out wS hSw; obtain ⟨kq1, kq2⟩ := kq; go_simp <;> with_reducible rfl)
  simp only [Act.put, List.setIfInBounds_toArray, List.set_cons_zero, List.set_cons_succ]
  refine wpAnyH_take (i := 8) (oi := { dst := some 13, op := Op.load 30 (Operand.tmp 12), type := 30, pos := "policy.go:29", after := #[{ on := 7, ground := Ground.data }], guard := none }) (v := ?vq7a) rfl (by as_aux_lemma => kernel_rfl) (by as_aux_lemma => kernel_rfl) (by as_aux_lemma => kernel_rfl) (fun _ _ _ h => h) (Or.inl ⟨by rfl, ?yq7a⟩) (by assumption) ?rq7a
  case yq7a => (intro wS hSw; (try dsimp only at hSw); have kq := HK.out wS hSw; obtain ⟨kq1, kq2⟩ := kq; go_simp <;> with_reducible rfl)
  simp only [Act.put, List.setIfInBounds_toArray, List.set_cons_zero, List.set_cons_succ]
  refine wpAnyH_ready (rs := [4]) (by as_aux_lemma => kernel_rfl) (by simp) ?_
  refine AllReadyH.cons (o := { dst := some 9, op := Op.call { callee := Callee.value (Operand.func 29), args := #[Operand.tmp 6, Operand.tmp 8], argTypes := #[29, 29] }, type := 3, pos := "policy.go:29", after := #[{ on := 1, ground := Ground.data }, { on := 3, ground := Ground.data }], guard := none }) rfl (fun K hK => ?_) (by exact AllReadyH.nil)
  rw [if_pos (by rfl)]
  go_simp
  (go_at_call 29; refine (porder_any c.1 c2.1 H0.out.2.2.2.1 H0.out.2.2.2.2 _).mono ?_; rintro e w4 ⟨rfl, hb4⟩)
  have hS4 : Below X.heap.size X w4 := hS0.trans hb4
  clear hb4
  refine hK.out _ _ (by (try dsimp only); (first | exact hS0 | assumption | exact balloc (by assumption) _)) (fun hHeld => ?_)
  clear hK K
  simp only [List.setIfInBounds_toArray, List.set_cons_zero, List.set_cons_succ]
  refine wpAnyH_ready (rs := [9]) (by as_aux_lemma => kernel_rfl) (by simp) ?_
  refine AllReadyH.cons (o := { dst := some 14, op := Op.call { callee := Callee.value (Operand.func 41), args := #[Operand.tmp 11, Operand.tmp 13], argTypes := #[30, 30] }, type := 3, pos := "policy.go:29", after := #[{ on := 6, ground := Ground.data }, { on := 8, ground := Ground.data }, { on := 4, ground := Ground.chain }], guard := none }) rfl (fun K hK => ?_) (by exact AllReadyH.nil)
  rw [if_pos (by rfl)]
  go_simp
  (go_at_call 41; refine (ucompare_any c.2.1 c2.2.1 _).mono ?_; rintro e w5 ⟨rfl, rfl⟩)
  refine hK.out _ _ (by (try dsimp only); (first | exact hS0 | assumption | exact balloc (by assumption) _)) (fun hHeld => ?_)
  clear hK K
  simp only [List.setIfInBounds_toArray, List.set_cons_zero, List.set_cons_succ]
  refine wpAnyH_ready (rs := [10]) (by as_aux_lemma => kernel_rfl) (by simp) ?_
  refine AllReadyH.cons (o := { dst := some 15, op := Op.buildSlice 120 2 #[(0, Operand.tmp 9), (1, Operand.tmp 14)], type := 120, pos := "policy.go:29", after := #[{ on := 4, ground := Ground.data }, { on := 9, ground := Ground.data }], guard := none }) rfl (fun K hK => ?_) (by exact AllReadyH.nil)
  rw [if_pos (by rfl)]
  go_simp
  refine hK.out _ _ (by (try dsimp only); (first | exact hS0 | assumption | exact balloc (by assumption) _)) (fun hHeld => ?_)
  clear hK K
  simp only [List.setIfInBounds_toArray, List.set_cons_zero, List.set_cons_succ]
  refine wpAnyH_ready (rs := [11]) (by as_aux_lemma => kernel_rfl) (by simp) ?_
  refine AllReadyH.cons (o := { dst := some 16, op := Op.call { callee := Callee.value (Operand.func 40), args := #[Operand.tmp 15], argTypes := #[120] }, type := 3, pos := "policy.go:29", after := #[{ on := 10, ground := Ground.data }, { on := 9, ground := Ground.chain }], guard := none }) rfl (fun K hK => ?_) (by exact AllReadyH.nil)
  rw [if_pos (by rfl)]
  go_simp
  have hor : Calls Tryz.prog 40 #[.slice (some ⟨w4.heap.size, 0, none⟩) 2 2] (w4.alloc (.cells #[.int .i64 (ordN (bv c.1) (bv c2.1)), .int .i64 (ordN c.2.1 c2.2.1)] 3)) (fun e w' => e = .returned (.int .i64 (ordR c c2)) ∧ w4.alloc (.cells #[.int .i64 (ordN (bv c.1) (bv c2.1)), .int .i64 (ordN c.2.1 c2.2.1)] 3) = w') := or_any _ _ _ _ _ (Blk.new w4 3 _)
  (go_at_call 40; refine hor.mono ?_; rintro e w6 ⟨rfl, rfl⟩)
  refine hK.out _ _ (by (try dsimp only); (first | exact hS0 | assumption | exact balloc (by assumption) _)) (fun hHeld => ?_)
  clear hK K
  simp only [List.setIfInBounds_toArray, List.set_cons_zero, List.set_cons_succ]
  refine wpAnyH_take (i := 12) (oi := { dst := some 4, op := Op.assign (Operand.tmp 16), type := 3, pos := "policy.go:29", after := #[{ on := 11, ground := Ground.data }, { on := 11, ground := Ground.chain }, { on := 0, ground := Ground.phase }, { on := 1, ground := Ground.phase }, { on := 2, ground := Ground.phase }, { on := 3, ground := Ground.phase }, { on := 4, ground := Ground.phase }, { on := 5, ground := Ground.phase }, { on := 6, ground := Ground.phase }, { on := 7, ground := Ground.phase }, { on := 8, ground := Ground.phase }, { on := 9, ground := Ground.phase }, { on := 10, ground := Ground.phase }, { on := 11, ground := Ground.phase }], guard := none }) (v := ?vq12a) rfl (by as_aux_lemma => kernel_rfl) (by as_aux_lemma => kernel_rfl) (by as_aux_lemma => kernel_rfl) (fun _ _ _ h => h) (Or.inl ⟨by rfl, ?yq12a⟩) (by assumption) ?rq12a
  case yq12a => (intro wS hSw; (try dsimp only at hSw); have kq := HK.out wS hSw; obtain ⟨kq1, kq2⟩ := kq; go_simp <;> with_reducible rfl)
  simp only [Act.put, List.setIfInBounds_toArray, List.set_cons_zero, List.set_cons_succ]
  refine wpAnyH_done (by as_aux_lemma => kernel_rfl) ?_ _
  clear hHeld hS0
  have HS4 := Lib.hid (balloc hS4 (.cells #[.int .i64 (ordN (bv c.1) (bv c2.1)), .int .i64 (ordN c.2.1 c2.2.1)] 3))
  clear hS4
  go_wp2_with fail
  go_ret
  exact ⟨rfl, H0.out.2.2.1.trans (HS4.out.mono H0.out.2.2.1.size)⟩

theorem clr_lt (d : Nat) (a : List Nat) (cs : List (List Nat × Nat)) (hd : d < 18446744073709551616) (h : ∀ c ∈ cs, c.2 < 18446744073709551616) : clr d a cs < 2 ^ 64 := by
  induction cs with
  | nil => exact hd
  | cons c cs ih =>
    unfold clr
    split
    · exact h c (by simp)
    · exact ih fun x hx => h x (by simp [hx])

set_option maxRecDepth 100000 in
set_option maxHeartbeats 4000000 in
theorem wrong_any (d : Nat) (cv rv : Value) (cs : List (List Nat × Nat)) (r : List Nat × Nat × Nat) (gp : Nat) (w : World) (hd : d < 18446744073709551616) (hp : Blk w gp 27 #[.int .u64 d, cv, rv]) (hcs : ClA w cv cs) (hr : Ad r.1) (ht : r.2.2 < 18446744073709551616) :
    Calls Tryz.prog 42 #[.agg (rlC r), .pointer (some ⟨gp, 0, none⟩)] w fun e w' => e = .returned (.bool (!sub r.2.2 (clr d r.1 cs))) ∧ Below w.heap.size w w' := by
  obtain ⟨X, hX⟩ : ∃ X, w.alloc (.cells (rlC r) 74) = X := ⟨_, rfl⟩
  have b1 : Blk X w.heap.size 74 (rlC r) := by rw [← hX]; exact Blk.new w _ _
  have hW : Below w.heap.size w X := by rw [← hX]; exact balloc (Below.refl _ _) _
  have HX := Lib.hid hX
  have hcl : clr d r.1 cs < 2 ^ 64 := clr_lt d r.1 cs hd (fun c hc => (hcs.1 c hc).2)
  have HC := Lib.hid (fun (Y : World) (hY : Below X.heap.size X Y) => clearance_any d cv rv cs r.1 Y (hcs.new (hW.trans (hY.mono hW.size))) hr)
  have HB := Lib.hid (fun (Y : World) => below_any r.2.2 (clr d r.1 cs) (by omega) hcl Y)
  have H0 := Lib.hid (And.intro b1 (And.intro hW hr))
  have HK := Lib.hid (fun (Y : World) (hY : Below X.heap.size X Y) => (by
    have q1 := rl_target hr (b1.keep hY).range
    rw [Nat.zero_add] at q1
    have q2 := (hp.keep hW).keep hY
    exact ⟨q1, cell_of_row _ _ 0 _ _ _ q2, cell_of_row _ _ 1 _ _ _ q2, cell_of_row _ _ 2 _ _ _ q2⟩ : Y.cell? ⟨w.heap.size, 21, none⟩ = some (.int .u64 (r.2.2 : Nat)) ∧ Y.cell? ⟨gp, 0, none⟩ = some (.int .u64 d) ∧ Y.cell? ⟨gp, 1, none⟩ = some cv ∧ Y.cell? ⟨gp, 2, none⟩ = some rv))
  clear hX b1 hW hp hcs hr ht hcl hd
  go_enter Tryz.func42, Tryz.ntmps42
  go_upto_region 1 with fail
  rw [HX.out]
  have hS0 : Below X.heap.size X X.drew := ⟨rfl, rfl, rfl, Nat.le_refl _, fun _ _ => rfl⟩
  refine wp_region_held_drew (S := fun w' => Below X.heap.size X w') (by as_aux_lemma => kernel_rfl) hS0 (fun hHeld => ?_)
  simp only [List.size_toArray, List.length_cons, List.length_nil, Nat.reduceAdd, Array.replicate_succ, Array.replicate_zero, List.push_toArray, List.nil_append, List.cons_append]
  refine wpAnyH_take (i := 0) (oi := { dst := some 4, op := Op.fieldAddr 74 (Operand.tmp 2) 2, type := 0, pos := "policy.go:31", after := #[], guard := none }) (v := ?vq0b) rfl (by as_aux_lemma => kernel_rfl) (by as_aux_lemma => kernel_rfl) (by as_aux_lemma => kernel_rfl) (fun _ _ _ h => h) (Or.inl ⟨by rfl, ?yq0b⟩) (by assumption) ?rq0b
  case yq0b => (intro wS hSw; (try dsimp only at hSw); have kq := HK.out wS hSw; obtain ⟨kq1, kq2, kq3, kq4⟩ := kq; go_simp <;> with_reducible rfl)
  simp only [Act.put, List.setIfInBounds_toArray, List.set_cons_zero, List.set_cons_succ]
  refine wpAnyH_take (i := 1) (oi := { dst := some 5, op := Op.load 23 (Operand.tmp 4), type := 23, pos := "policy.go:31", after := #[{ on := 0, ground := Ground.data }], guard := none }) (v := ?vq1b) rfl (by as_aux_lemma => kernel_rfl) (by as_aux_lemma => kernel_rfl) (by as_aux_lemma => kernel_rfl) (fun _ _ _ h => h) (Or.inl ⟨by rfl, ?yq1b⟩) (by assumption) ?rq1b
  case yq1b => (intro wS hSw; (try dsimp only at hSw); have kq := HK.out wS hSw; obtain ⟨kq1, kq2, kq3, kq4⟩ := kq; go_simp <;> with_reducible rfl)
  simp only [Act.put, List.setIfInBounds_toArray, List.set_cons_zero, List.set_cons_succ]
  refine wpAnyH_take (i := 2) (oi := { dst := some 6, op := Op.load 27 (Operand.tmp 1), type := 27, pos := "policy.go:31", after := #[], guard := none }) (v := ?vq2b) rfl (by as_aux_lemma => kernel_rfl) (by as_aux_lemma => kernel_rfl) (by as_aux_lemma => kernel_rfl) (fun _ _ _ h => h) (Or.inl ⟨by rfl, ?yq2b⟩) (by assumption) ?rq2b
  case yq2b => (intro wS hSw; (try dsimp only at hSw); have kq := HK.out wS hSw; obtain ⟨kq1, kq2, kq3, kq4⟩ := kq; go_simp <;> with_reducible rfl)
  simp only [Act.put, List.setIfInBounds_toArray, List.set_cons_zero, List.set_cons_succ]
  refine wpAnyH_take (i := 3) (oi := { dst := some 7, op := Op.fieldAddr 74 (Operand.tmp 2) 0, type := 0, pos := "policy.go:31", after := #[], guard := none }) (v := ?vq3b) rfl (by as_aux_lemma => kernel_rfl) (by as_aux_lemma => kernel_rfl) (by as_aux_lemma => kernel_rfl) (fun _ _ _ h => h) (Or.inl ⟨by rfl, ?yq3b⟩) (by assumption) ?rq3b
  case yq3b => (intro wS hSw; (try dsimp only at hSw); have kq := HK.out wS hSw; obtain ⟨kq1, kq2, kq3, kq4⟩ := kq; go_simp <;> with_reducible rfl)
  simp only [Act.put, List.setIfInBounds_toArray, List.set_cons_zero, List.set_cons_succ]
  refine wpAnyH_take (i := 4) (oi := { dst := some 8, op := Op.load 29 (Operand.tmp 7), type := 29, pos := "policy.go:31", after := #[{ on := 3, ground := Ground.data }], guard := none }) (v := .agg (adC r.1)) rfl (by as_aux_lemma => kernel_rfl) (by as_aux_lemma => kernel_rfl) (by as_aux_lemma => kernel_rfl) (fun _ _ _ h => h) (yieldsIf_load_A (by rfl) 29 (.tmp 7) rfl (w.heap.size) (0) rfl (adC r.1) _ (fun w hw => by rw [adC_list]; exact rl_addr (H0.out.1.keep hw).range) und_addr rfl (by rw [info_addr, adC_size H0.out.2.2])) (by assumption) ?_
  simp only [Act.put, List.setIfInBounds_toArray, List.set_cons_zero, List.set_cons_succ]
  refine wpAnyH_ready (rs := [5]) (by as_aux_lemma => kernel_rfl) (by simp) ?_
  refine AllReadyH.cons (o := { dst := some 9, op := Op.call { callee := Callee.value (Operand.func 16), args := #[Operand.tmp 6, Operand.tmp 8], argTypes := #[27, 29] }, type := 23, pos := "policy.go:31", after := #[{ on := 2, ground := Ground.data }, { on := 4, ground := Ground.data }], guard := none }) rfl (fun K hK => ?_) (by exact AllReadyH.nil)
  rw [if_pos (by rfl)]
  go_simp
  (go_at_call 16; refine (HC.out _ hS0).mono ?_; rintro e w4 ⟨rfl, hb4⟩)
  have hS4 : Below X.heap.size X w4 := hS0.trans hb4
  clear hb4
  refine hK.out _ _ (by (try dsimp only); (first | exact hS0 | assumption)) (fun hHeld => ?_)
  clear hK K
  simp only [List.setIfInBounds_toArray, List.set_cons_zero, List.set_cons_succ]
  refine wpAnyH_ready (rs := [6]) (by as_aux_lemma => kernel_rfl) (by simp) ?_
  refine AllReadyH.cons (o := { dst := some 10, op := Op.call { callee := Callee.value (Operand.func 43), args := #[Operand.tmp 5, Operand.tmp 9], argTypes := #[23, 23] }, type := 4, pos := "policy.go:31", after := #[{ on := 1, ground := Ground.data }, { on := 5, ground := Ground.data }, { on := 5, ground := Ground.chain }], guard := none }) rfl (fun K hK => ?_) (by exact AllReadyH.nil)
  rw [if_pos (by rfl)]
  go_simp
  (go_at_call 43; refine (HB.out _).mono ?_; rintro e w5 ⟨rfl, hb5⟩)
  have hS5 : Below X.heap.size X w5 := hS4.trans (hb5.mono hS4.size)
  clear hb5
  refine hK.out _ _ (by (try dsimp only); (first | exact hS0 | assumption)) (fun hHeld => ?_)
  clear hK K
  simp only [List.setIfInBounds_toArray, List.set_cons_zero, List.set_cons_succ]
  refine wpAnyH_take (i := 7) (oi := { dst := some 11, op := Op.unOp UnOp.not 4 (Operand.tmp 10), type := 4, pos := "policy.go:31", after := #[{ on := 6, ground := Ground.data }], guard := none }) (v := ?vq7b) rfl (by as_aux_lemma => kernel_rfl) (by as_aux_lemma => kernel_rfl) (by as_aux_lemma => kernel_rfl) (fun _ _ _ h => h) (Or.inl ⟨by rfl, ?yq7b⟩) (by assumption) ?rq7b
  case yq7b => (intro wS hSw; (try dsimp only at hSw); have kq := HK.out wS hSw; obtain ⟨kq1, kq2, kq3, kq4⟩ := kq; go_simp <;> with_reducible rfl)
  simp only [Act.put, List.setIfInBounds_toArray, List.set_cons_zero, List.set_cons_succ]
  refine wpAnyH_take (i := 8) (oi := { dst := some 3, op := Op.assign (Operand.tmp 11), type := 4, pos := "policy.go:31", after := #[{ on := 7, ground := Ground.data }, { on := 6, ground := Ground.chain }, { on := 0, ground := Ground.phase }, { on := 1, ground := Ground.phase }, { on := 2, ground := Ground.phase }, { on := 3, ground := Ground.phase }, { on := 4, ground := Ground.phase }, { on := 5, ground := Ground.phase }, { on := 6, ground := Ground.phase }, { on := 7, ground := Ground.phase }], guard := none }) (v := ?vq8b) rfl (by as_aux_lemma => kernel_rfl) (by as_aux_lemma => kernel_rfl) (by as_aux_lemma => kernel_rfl) (fun _ _ _ h => h) (Or.inl ⟨by rfl, ?yq8b⟩) (by assumption) ?rq8b
  case yq8b => (intro wS hSw; (try dsimp only at hSw); have kq := HK.out wS hSw; obtain ⟨kq1, kq2, kq3, kq4⟩ := kq; go_simp <;> with_reducible rfl)
  simp only [Act.put, List.setIfInBounds_toArray, List.set_cons_zero, List.set_cons_succ]
  refine wpAnyH_done (by as_aux_lemma => kernel_rfl) ?_ _
  clear hHeld hS0
  have HS5 := Lib.hid hS5
  clear hS4 hS5
  go_wp2_with fail
  go_ret
  exact ⟨rfl, H0.out.2.1.trans (HS5.out.mono H0.out.2.1.size)⟩
end Go.Proofs.YtenepkgjdoddgaaGreatDoor

