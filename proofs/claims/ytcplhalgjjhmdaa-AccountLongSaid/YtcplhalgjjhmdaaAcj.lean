/- account: Dead, Drop; an address's storage. -/
import Derived.Test.YtcplhalgjjhmdaaAci
namespace Go.Proofs.Ytcplhalgjjhmdaa
open Go.RowKit Go.Shelf Go.ChangeMaps Go.MapKept

set_option maxRecDepth 100000 in
set_option maxHeartbeats 4000000 in
theorem adead_any (p b : Nat) (m : List Nat → Option En) (a : List Nat) (ha : Ad a) (w : World) (h : AcM w p b m) :
    Calls Try.prog 17 #[.pointer (some ⟨p, 0, none⟩), .agg (adC a)] w fun r w' => r = .returned (.tuple #[.bool (baB (glk zE m a) && (glk zE m a).1.1 == 0), .bool (baB (glk zE m a) && !((glk zE m a).1.2 == 0))]) ∧ Below w.heap.size w w' := by
  obtain ⟨X, hX⟩ : ∃ X, w.alloc (.cells (adC a) 28) = X := ⟨_, rfl⟩
  have b1 : Blk X w.heap.size 28 (adC a) := by rw [← hX]; exact Blk.new w _ _
  have hW : Below w.heap.size w X := by rw [← hX]; exact balloc (Below.refl _ _) _
  have hX0 := h.keep hW
  have hpl := h.1.lt
  have HX := Lib.hid (And.intro hX (And.intro b1 hW))
  have HA := Lib.hid ha
  have HN := Lib.hid (anone_not p b X hX0.1)
  have hok := glk_ok h.2 a
  have HT := Lib.hid (fun Z (hZ : Below X.heap.size X Z) => at_any16 b m a ha Z (hX0.2.keep hZ))
  have hfl := fun Z => fld0 (glk zE m a) Z
  generalize glk zE m a = e0 at *
  have HB := Lib.hid (fun Z => dead_any e0 hok.1 Z)
  generalize (baB e0 && e0.1.1 == 0) = t1 at *
  generalize (baB e0 && !(e0.1.2 == 0)) = t2 at *
  have q0 : ∀ w', Below X.heap.size X w' → w'.cell? ⟨p, 0, none⟩ = some (.map (some b)) := fun w' k => cell_of_row _ _ 0 _ _ _ (hX0.1.keep k)
  have hS0 : Below X.heap.size X X.drew := below_drew' (Below.refl _ _)
  clear hX b1 hW hX0 ha h hok hpl
  go_enter Try.func17, Try.ntmps17
  go_upto_region 1 with fail
  rw [HX.out.1]
  go_upto_region 3 with (first | (go_at_call 22; refine (HN.out).mono ?_; rintro e w1 ⟨rfl, rfl⟩) | fail)
  have hHd : (fun w' => Below X.heap.size X w') X.drew := hS0
  refine wp_noPanicG ?_
  refine wp_region_held_drew (S := fun w' => Below X.heap.size X w') (by as_aux_lemma => kernel_rfl) hHd (fun hHeld => ?_)
  simp only [List.size_toArray, List.length_cons, List.length_nil, Nat.reduceAdd, Array.replicate_succ, Array.replicate_zero, List.push_toArray, List.nil_append, List.cons_append]
  obtain ⟨wd, hwd⟩ : ∃ Z, X.drew = Z := ⟨_, rfl⟩
  rw [hwd] at hS0 hHeld ⊢
  clear hHd hwd
  refine wpAnyH_take (i := 0) (oi := { dst := some 8, op := Op.move (Operand.tmp 0), type := 23, pos := "account.go:69", after := #[], guard := none }) (v := ?vq0d) rfl (by as_aux_lemma => kernel_rfl) (by as_aux_lemma => kernel_rfl) (by as_aux_lemma => kernel_rfl) (fun _ _ _ h => h) (Or.inl ⟨by rfl, ?yq0d⟩) (by assumption) ?rq0d
  case yq0d => (intro w hSw; (try dsimp only at hSw); go_simp <;> with_reducible rfl)
  simp only [Act.put, List.setIfInBounds_toArray, List.set_cons_zero, List.set_cons_succ]
  refine wpAnyH_take (i := 1) (oi := { dst := some 9, op := Op.nilCheck (Operand.tmp 8), type := 0, pos := "account.go:69", after := #[{ on := 0, ground := Ground.data }], guard := none }) (v := ?vq1d) rfl (by as_aux_lemma => kernel_rfl) (by as_aux_lemma => kernel_rfl) (by as_aux_lemma => kernel_rfl) (fun _ _ _ h => h) (Or.inl ⟨by rfl, ?yq1d⟩) (by assumption) ?rq1d
  case yq1d => (intro w hSw; (try dsimp only at hSw); go_simp <;> with_reducible rfl)
  simp only [Act.put, List.setIfInBounds_toArray, List.set_cons_zero, List.set_cons_succ]
  refine wpAnyH_take (i := 2) (oi := { dst := some 10, op := Op.fieldAddr 67 (Operand.tmp 9) 0, type := 0, pos := "account.go:69", after := #[{ on := 1, ground := Ground.data }], guard := none }) (v := ?vq2d) rfl (by as_aux_lemma => kernel_rfl) (by as_aux_lemma => kernel_rfl) (by as_aux_lemma => kernel_rfl) (fun _ _ _ h => h) (Or.inl ⟨by rfl, ?yq2d⟩) (by assumption) ?rq2d
  case yq2d => (intro w hSw; (try dsimp only at hSw); go_simp <;> with_reducible rfl)
  simp only [Act.put, List.setIfInBounds_toArray, List.set_cons_zero, List.set_cons_succ]
  refine wpAnyH_take (i := 3) (oi := { dst := some 11, op := Op.load 65 (Operand.tmp 10), type := 65, pos := "account.go:69", after := #[{ on := 2, ground := Ground.data }], guard := none }) (v := ?vq3d) rfl (by as_aux_lemma => kernel_rfl) (by as_aux_lemma => kernel_rfl) (by as_aux_lemma => kernel_rfl) (fun _ _ _ h => h) (Or.inl ⟨by rfl, ?yq3d⟩) (by assumption) ?rq3d
  case yq3d => (intro w hSw; (try dsimp only at hSw); go_simp <;> with_reducible rfl)
  simp only [Act.put, List.setIfInBounds_toArray, List.set_cons_zero, List.set_cons_succ]
  refine wpAnyH_take (i := 4) (oi := { dst := some 12, op := Op.load 28 (Operand.tmp 3), type := 28, pos := "account.go:69", after := #[], guard := none }) (v := .agg (adC a)) rfl (by as_aux_lemma => kernel_rfl) (by as_aux_lemma => kernel_rfl) (by as_aux_lemma => kernel_rfl) (fun _ _ _ h => h) (yieldsIf_load_A (by rfl) 28 (.tmp 3) rfl (w.heap.size) (0) rfl (adC a) _ (fun w hw => by exact (HX.out.2.1.keep hw).range) und_addr rfl (by rw [info_addr, adC_size HA.out])) (by assumption) ?_
  simp only [Act.put, List.setIfInBounds_toArray, List.set_cons_zero, List.set_cons_succ]
  refine wpAnyH_ready (rs := [5]) (by as_aux_lemma => kernel_rfl) (by simp) ?_
  refine AllReadyH.cons (o := { dst := some 13, op := Op.call { callee := Callee.value (Operand.func 25), args := #[Operand.tmp 11, Operand.tmp 12], argTypes := #[65, 28] }, type := 73, pos := "account.go:69", after := #[{ on := 3, ground := Ground.data }, { on := 4, ground := Ground.data }], guard := none }) rfl (fun K hK => ?_) (by exact AllReadyH.nil)
  rw [if_pos (by rfl)]
  go_simp
  (go_at_call 25; refine (HT.out _ hS0).mono ?_; rintro e z5 ⟨rfl, hz5⟩)
  have hSz5 : Below X.heap.size X z5 := rstep hz5 hS0
  refine hK.out _ _ (by (try dsimp only); exact hSz5) (fun hHeld => ?_)
  clear hK K
  simp only [List.setIfInBounds_toArray, List.set_cons_zero, List.set_cons_succ]
  refine wpAnyH_take (i := 6) (oi := { dst := some 14, op := Op.field 73 (Operand.tmp 13) 0, type := 70, pos := "account.go:69", after := #[{ on := 5, ground := Ground.data }], guard := none }) (v := ?vq6d) rfl (by as_aux_lemma => kernel_rfl) (by as_aux_lemma => kernel_rfl) (by as_aux_lemma => kernel_rfl) (fun _ _ _ h => h) (Or.inl ⟨by rfl, ?yq6d⟩) (by assumption) ?rq6d
  case yq6d => (intro w hSw; (try dsimp only at hSw); go_simp <;> with_reducible rfl)
  simp only [Act.put, List.setIfInBounds_toArray, List.set_cons_zero, List.set_cons_succ]
  refine wpAnyH_ready (rs := [7]) (by as_aux_lemma => kernel_rfl) (by simp) ?_
  refine AllReadyH.cons (o := { dst := some 15, op := Op.call { callee := Callee.value (Operand.func 34), args := #[Operand.tmp 14], argTypes := #[70] }, type := 57, pos := "account.go:69", after := #[{ on := 6, ground := Ground.data }, { on := 5, ground := Ground.chain }], guard := none }) rfl (fun K hK => ?_) (by exact AllReadyH.nil)
  rw [if_pos (by rfl)]
  go_simp
  (go_at_call 34; refine (HB.out _).mono ?_; rintro e z7 ⟨rfl, hz7⟩)
  have hSz7 : Below X.heap.size X z7 := rstep hz7 hSz5
  refine hK.out _ _ (by (try dsimp only); exact hSz7) (fun hHeld => ?_)
  clear hK K
  simp only [List.setIfInBounds_toArray, List.set_cons_zero, List.set_cons_succ]
  refine wpAnyH_take (i := 8) (oi := { dst := some 16, op := Op.extract (Operand.tmp 15) 0, type := 4, pos := "account.go:69", after := #[{ on := 7, ground := Ground.data }], guard := none }) (v := ?vq8d) rfl (by as_aux_lemma => kernel_rfl) (by as_aux_lemma => kernel_rfl) (by as_aux_lemma => kernel_rfl) (fun _ _ _ h => h) (Or.inl ⟨by rfl, ?yq8d⟩) (by assumption) ?rq8d
  case yq8d => (intro w hSw; (try dsimp only at hSw); go_simp <;> with_reducible rfl)
  simp only [Act.put, List.setIfInBounds_toArray, List.set_cons_zero, List.set_cons_succ]
  refine wpAnyH_take (i := 9) (oi := { dst := some 17, op := Op.extract (Operand.tmp 15) 1, type := 4, pos := "account.go:69", after := #[{ on := 7, ground := Ground.data }], guard := none }) (v := ?vq9d) rfl (by as_aux_lemma => kernel_rfl) (by as_aux_lemma => kernel_rfl) (by as_aux_lemma => kernel_rfl) (fun _ _ _ h => h) (Or.inl ⟨by rfl, ?yq9d⟩) (by assumption) ?rq9d
  case yq9d => (intro w hSw; (try dsimp only at hSw); go_simp <;> with_reducible rfl)
  simp only [Act.put, List.setIfInBounds_toArray, List.set_cons_zero, List.set_cons_succ]
  refine wpAnyH_take (i := 10) (oi := { dst := some 4, op := Op.assign (Operand.tmp 16), type := 4, pos := "account.go:69", after := #[{ on := 8, ground := Ground.data }, { on := 7, ground := Ground.chain }, { on := 0, ground := Ground.phase }, { on := 1, ground := Ground.phase }, { on := 2, ground := Ground.phase }, { on := 3, ground := Ground.phase }, { on := 4, ground := Ground.phase }, { on := 5, ground := Ground.phase }, { on := 6, ground := Ground.phase }, { on := 7, ground := Ground.phase }, { on := 8, ground := Ground.phase }, { on := 9, ground := Ground.phase }], guard := none }) (v := ?vq10d) rfl (by as_aux_lemma => kernel_rfl) (by as_aux_lemma => kernel_rfl) (by as_aux_lemma => kernel_rfl) (fun _ _ _ h => h) (Or.inl ⟨by rfl, ?yq10d⟩) (by assumption) ?rq10d
  case yq10d => (intro w hSw; (try dsimp only at hSw); go_simp <;> with_reducible rfl)
  simp only [Act.put, List.setIfInBounds_toArray, List.set_cons_zero, List.set_cons_succ]
  refine wpAnyH_take (i := 11) (oi := { dst := some 5, op := Op.assign (Operand.tmp 17), type := 4, pos := "account.go:69", after := #[{ on := 9, ground := Ground.data }, { on := 10, ground := Ground.chain }, { on := 0, ground := Ground.phase }, { on := 1, ground := Ground.phase }, { on := 2, ground := Ground.phase }, { on := 3, ground := Ground.phase }, { on := 4, ground := Ground.phase }, { on := 5, ground := Ground.phase }, { on := 6, ground := Ground.phase }, { on := 7, ground := Ground.phase }, { on := 8, ground := Ground.phase }, { on := 9, ground := Ground.phase }, { on := 10, ground := Ground.phase }], guard := none }) (v := ?vq11d) rfl (by as_aux_lemma => kernel_rfl) (by as_aux_lemma => kernel_rfl) (by as_aux_lemma => kernel_rfl) (fun _ _ _ h => h) (Or.inl ⟨by rfl, ?yq11d⟩) (by assumption) ?rq11d
  case yq11d => (intro w hSw; (try dsimp only at hSw); go_simp <;> with_reducible rfl)
  simp only [Act.put, List.setIfInBounds_toArray, List.set_cons_zero, List.set_cons_succ]
  refine wpAnyH_done (by as_aux_lemma => kernel_rfl) ?_ _
  clear hHeld
  simp only [noPanicG]
  go_wp2_with fail
  go_ret2
  exact ⟨rfl, bstep HX.out.2.2 hSz7⟩
set_option maxRecDepth 100000 in
set_option maxHeartbeats 4000000 in
theorem adrop_any (p b : Nat) (m : List Nat → Option En) (a : List Nat) (ha : Ad a) (w : World) (h : AcM w p b m) :
    Calls Try.prog 20 #[.pointer (some ⟨p, 0, none⟩), .agg (adC a)] w fun r w' => r = .returned (.int .i64 0) ∧ AcM w' p b (gupd m a none) ∧ Chg (fun k => k = b) w w' := by
  obtain ⟨X, hX⟩ : ∃ X, w.alloc (.cells (adC a) 28) = X := ⟨_, rfl⟩
  have b1 : Blk X w.heap.size 28 (adC a) := by rw [← hX]; exact Blk.new w _ _
  have hW : Below w.heap.size w X := by rw [← hX]; exact balloc (Below.refl _ _) _
  have hX0 := h.keep hW
  have hpl := h.1.lt
  have HX := Lib.hid (And.intro hX (And.intro b1 hW))
  have HA := Lib.hid ha
  have HN := Lib.hid (anone_not p b X hX0.1)
  have HNE := Lib.hid (show w.heap.size ≠ b ∧ p ≠ b from by have := h.2.lt; exact ⟨by omega, h.ne⟩)
  have HP := Lib.hid (fun Z (hZ : Below X.heap.size X Z) => (by have h := eput_any b m a ha zE okE0 Z (hX0.2.keep hZ); rw [← zlA_eq] at h; unfold zlA gput at h; rw [if_pos rfl] at h; exact h : Calls Try.prog 23 #[.map (some b), .agg (adC a), .agg #[.int .u64 0, .int .u64 0, .int .u64 0, .int .u64 0, .int .u64 0, .int .u64 0, .string ⟨#[]⟩, .pointer none]] Z fun r w' => (∃ x, r = .returned x) ∧ GMp enD w' b (gupd m a none) ∧ Chg (fun k => k = b) Z w'))
  have HM := Lib.hid hX0
  have q0 : ∀ w', Chg (fun k => k = b) X w' → w'.cell? ⟨p, 0, none⟩ = some (.map (some b)) := fun w' k => cell_of_row _ _ 0 _ _ _ (hX0.1.chg k HNE.out.2)
  have hS0 : Below X.heap.size X X.drew := below_drew' (Below.refl _ _)
  clear hX b1 hW hX0 ha h hpl
  go_enter Try.func20, Try.ntmps20
  go_wp2_with fail
  rw [HX.out.1]
  refine wp_scope_jumps 0 (fun _ _ => False) (fun _ _ => 0) rfl ?first ?pass
  case pass => intro a w h; exact h.elim
  case first =>
    go_upto_region 2 with (first | (go_at_call 22; refine (HN.out).mono ?_; rintro e w1 ⟨rfl, rfl⟩) | fail)
    have hHd : (fun w' => Chg (fun k => k = b) X w') X.drew := Chg.new hS0
    refine wp_noPanicG ?_
    refine wp_region_held_drew (S := fun w' => Chg (fun k => k = b) X w') (by as_aux_lemma => kernel_rfl) hHd (fun hHeld => ?_)
    simp only [List.size_toArray, List.length_cons, List.length_nil, Nat.reduceAdd, Array.replicate_succ, Array.replicate_zero, List.push_toArray, List.nil_append, List.cons_append]
    obtain ⟨wd, hwd⟩ : ∃ Z, X.drew = Z := ⟨_, rfl⟩
    rw [hwd] at hS0 hHeld ⊢
    clear hHd hwd
    refine wpAnyH_take (i := 0) (oi := { dst := some 7, op := Op.move (Operand.tmp 0), type := 23, pos := "account.go:58", after := #[], guard := none }) (v := ?vq0d) rfl (by as_aux_lemma => kernel_rfl) (by as_aux_lemma => kernel_rfl) (by as_aux_lemma => kernel_rfl) (fun _ _ _ h => h) (Or.inl ⟨by rfl, ?yq0d⟩) (by assumption) ?rq0d
    case yq0d => (intro w hSw; (try dsimp only at hSw); go_simp <;> with_reducible rfl)
    simp only [Act.put, List.setIfInBounds_toArray, List.set_cons_zero, List.set_cons_succ]
    refine wpAnyH_take (i := 1) (oi := { dst := some 8, op := Op.nilCheck (Operand.tmp 7), type := 0, pos := "account.go:58", after := #[{ on := 0, ground := Ground.data }], guard := none }) (v := ?vq1d) rfl (by as_aux_lemma => kernel_rfl) (by as_aux_lemma => kernel_rfl) (by as_aux_lemma => kernel_rfl) (fun _ _ _ h => h) (Or.inl ⟨by rfl, ?yq1d⟩) (by assumption) ?rq1d
    case yq1d => (intro w hSw; (try dsimp only at hSw); go_simp <;> with_reducible rfl)
    simp only [Act.put, List.setIfInBounds_toArray, List.set_cons_zero, List.set_cons_succ]
    refine wpAnyH_take (i := 2) (oi := { dst := some 9, op := Op.fieldAddr 67 (Operand.tmp 8) 0, type := 0, pos := "account.go:58", after := #[{ on := 1, ground := Ground.data }], guard := none }) (v := ?vq2d) rfl (by as_aux_lemma => kernel_rfl) (by as_aux_lemma => kernel_rfl) (by as_aux_lemma => kernel_rfl) (fun _ _ _ h => h) (Or.inl ⟨by rfl, ?yq2d⟩) (by assumption) ?rq2d
    case yq2d => (intro w hSw; (try dsimp only at hSw); go_simp <;> with_reducible rfl)
    simp only [Act.put, List.setIfInBounds_toArray, List.set_cons_zero, List.set_cons_succ]
    refine wpAnyH_take (i := 3) (oi := { dst := some 10, op := Op.load 65 (Operand.tmp 9), type := 65, pos := "account.go:58", after := #[{ on := 2, ground := Ground.data }], guard := none }) (v := ?vq3d) rfl (by as_aux_lemma => kernel_rfl) (by as_aux_lemma => kernel_rfl) (by as_aux_lemma => kernel_rfl) (fun _ _ _ h => h) (Or.inl ⟨by rfl, ?yq3d⟩) (by assumption) ?rq3d
    case yq3d => (intro w hSw; (try dsimp only at hSw); go_simp <;> with_reducible rfl)
    simp only [Act.put, List.setIfInBounds_toArray, List.set_cons_zero, List.set_cons_succ]
    refine wpAnyH_take (i := 4) (oi := { dst := some 11, op := Op.load 28 (Operand.tmp 3), type := 28, pos := "account.go:58", after := #[], guard := none }) (v := .agg (adC a)) rfl (by as_aux_lemma => kernel_rfl) (by as_aux_lemma => kernel_rfl) (by as_aux_lemma => kernel_rfl) (fun _ _ _ h => h) (yieldsIf_load_A (by rfl) 28 (.tmp 3) rfl (w.heap.size) (0) rfl (adC a) _ (fun w hw => by exact (HX.out.2.1.chg hw HNE.out.1).range) und_addr rfl (by rw [info_addr, adC_size HA.out])) (by assumption) ?_
    simp only [Act.put, List.setIfInBounds_toArray, List.set_cons_zero, List.set_cons_succ]
    refine wpAnyH_take (i := 5) (oi := { dst := some 12, op := Op.build 73 #[], type := 73, pos := "account.go:58", after := #[], guard := none }) (v := ?vq5d) rfl (by as_aux_lemma => kernel_rfl) (by as_aux_lemma => kernel_rfl) (by as_aux_lemma => kernel_rfl) (fun _ _ _ h => h) (Or.inl ⟨by rfl, ?yq5d⟩) (by assumption) ?rq5d
    case yq5d => (intro w hSw; (try dsimp only at hSw); go_simp <;> with_reducible rfl)
    simp only [Act.put, List.setIfInBounds_toArray, List.set_cons_zero, List.set_cons_succ]
    refine wpAnyH_ready (rs := [6]) (by as_aux_lemma => kernel_rfl) (by simp) ?_
    refine AllReadyH.cons (o := { dst := some 13, op := Op.call { callee := Callee.value (Operand.func 23), args := #[Operand.tmp 10, Operand.tmp 11, Operand.tmp 12], argTypes := #[65, 28, 73] }, type := 0, pos := "account.go:58", after := #[{ on := 3, ground := Ground.data }, { on := 4, ground := Ground.data }, { on := 5, ground := Ground.data }], guard := none }) rfl (fun K hK => ?_) (by exact AllReadyH.nil)
    rw [if_pos (by rfl)]
    go_simp
    (go_at_call 23; refine (HP.out _ hS0).mono ?_; rintro e z6 ⟨⟨vv, rfl⟩, hmz6, hcz6⟩)
    have hCz6 := (Chg.new (M := fun k => k = b) hS0).trans hcz6 (fun _ _ h => h)
    refine hK.out _ _ (by (try dsimp only); exact hCz6) (fun hHeld => ?_)
    clear hK K
    simp only [List.setIfInBounds_toArray, List.set_cons_zero, List.set_cons_succ]
    refine wpAnyH_done (by as_aux_lemma => kernel_rfl) ?_ _
    clear hHeld
    simp only [noPanicG]
    have HF := Lib.hid (And.intro hmz6 hCz6)
    clear hmz6 hCz6 hcz6
    go_wp2_with fail
    (try simp only [Exit.jump])
    go_ret
    exact ⟨rfl, HM.out.chg HF.out.2 HF.out.1, (Chg.new HX.out.2.2).trans HF.out.2 (fun _ _ h => h)⟩
set_option maxRecDepth 100000 in
set_option maxHeartbeats 4000000 in
theorem aopen_new (b : Nat) (m : List Nat → Option En) (a : List Nat) (ha : Ad a) (w : World) (h : GMp enD w b m) (hno : (glk zE m a).2.2.2 = none) :
    Calls Try.prog 35 #[.map (some b), .agg (adC a)] w fun r w' => ∃ g bv bw, r = .returned (.pointer (some ⟨g, 0, none⟩)) ∧ SlB w' g bv bw (fun _ => none) (fun _ => none) 0 ∧ w.heap.size ≤ g ∧ w.heap.size ≤ bv ∧ w.heap.size ≤ bw ∧ GMp enD w' b (gput m a ((glk zE m a).1, (glk zE m a).2.1, (glk zE m a).2.2.1, some g)) ∧ Chg (fun k => k = b) w w' := by
  obtain ⟨X, hX⟩ : ∃ X, w.alloc (.cells (adC a) 28) = X := ⟨_, rfl⟩
  have b1 : Blk X w.heap.size 28 (adC a) := by rw [← hX]; exact Blk.new w _ _
  have hW : Below w.heap.size w X := by rw [← hX]; exact balloc (Below.refl _ _) _
  have hX0 := h.keep hW
  have hok := glk_ok h a
  have HX := Lib.hid (And.intro hX (And.intro b1 hW))
  have HA := Lib.hid ha
  have HT := Lib.hid (at_any16 b m a ha X hX0)
  have HM := Lib.hid hX0
  have HNE := Lib.hid (show w.heap.size ≠ b from by have := h.lt; omega)
  have hbl := h.lt
  clear h
  obtain ⟨⟨v, n, l, o⟩, he0⟩ : ∃ e, glk zE m a = e := ⟨_, rfl⟩
  rw [he0] at hok HT hno ⊢
  replace hno : o = none := hno
  subst hno
  have HOK := Lib.hid hok
  obtain ⟨S, hS⟩ : ∃ S, coS l = S := ⟨_, rfl⟩
  have HS := Lib.hid hS
  show Calls _ _ _ w fun r w' => ∃ g bv bw, r = .returned (.pointer (some ⟨g, 0, none⟩)) ∧ SlB w' g bv bw (fun _ => none) (fun _ => none) 0 ∧ w.heap.size ≤ g ∧ w.heap.size ≤ bv ∧ w.heap.size ≤ bw ∧ GMp enD w' b (gput m a (v, n, l, some g)) ∧ Chg (fun k => k = b) w w'
  have he : enC (v, n, l, none) = #[.int .u64 (lb v.1 0), .int .u64 (lb v.1 1), .int .u64 (lb v.1 2), .int .u64 (lb v.1 3), .int .u64 (v.2 : Nat), .int .u64 (n : Nat), .string S, .pointer none] := by rw [← hS]; rfl
  rw [he] at HT
  have HBL := Lib.hid hbl
  clear hX b1 hW hX0 ha hok he0 hS he hbl
  go_enter Try.func35, Try.ntmps35
  go_upto_region 1 with fail
  rw [HX.out.1]
  refine wp_region_lit ?_
  refine wpList_plain rfl fun K hK => ?_; go_simp; refine hK _ _ ?_; clear hK K
  refine wpList_load_midA rfl 28 (.tmp 3) rfl w.heap.size 0 rfl (adC a) _ HX.out.2.1.range und_addr rfl (by rw [info_addr, adC_size HA.out]) ?_
  refine wpList_plain rfl fun K hK => ?_; go_simp; (go_at_call 25; refine (HT.out).mono ?_; rintro e z1 ⟨rfl, hz1⟩); refine hK _ _ ?_; clear hK K
  refine wpList_plain rfl fun K hK => ?_; go_simp; refine hK _ _ ?_; clear hK K
  obtain ⟨Y, hY⟩ : ∃ Y, z1.alloc (.cells #[.int .u64 0, .int .u64 0, .int .u64 0, .int .u64 0, .int .u64 0, .int .u64 0, .string ⟨#[]⟩, .pointer none] 73) = Y := ⟨_, rfl⟩
  have k2 : Blk Y z1.heap.size 73 #[.int .u64 0, .int .u64 0, .int .u64 0, .int .u64 0, .int .u64 0, .int .u64 0, .string ⟨#[]⟩, .pointer none] := by rw [← hY]; exact Blk.new _ _ _
  have hb2 : Below X.heap.size X Y := by rw [← hY]; exact balloc hz1 _
  rw [hY]
  refine wpList_store_row rfl 73 (.tmp 5) (.tmp 8) rfl z1.heap.size #[.int .u64 (lb v.1 0), .int .u64 (lb v.1 1), .int .u64 (lb v.1 2), .int .u64 (lb v.1 3), .int .u64 (v.2 : Nat), .int .u64 (n : Nat), .string S, .pointer none] rfl rfl 73 #[.int .u64 0, .int .u64 0, .int .u64 0, .int .u64 0, .int .u64 0, .int .u64 0, .string ⟨#[]⟩, .pointer none] k2 (by rw [info_en]; rfl) rfl (by simp [Value.oneCell']) (wpList_nil ?_)
  have kR : Blk (Y.setRow z1.heap.size #[.int .u64 (lb v.1 0), .int .u64 (lb v.1 1), .int .u64 (lb v.1 2), .int .u64 (lb v.1 3), .int .u64 (v.2 : Nat), .int .u64 (n : Nat), .string S, .pointer none]) z1.heap.size 73 #[.int .u64 (lb v.1 0), .int .u64 (lb v.1 1), .int .u64 (lb v.1 2), .int .u64 (lb v.1 3), .int .u64 (v.2 : Nat), .int .u64 (n : Nat), .string S, .pointer none] := setRow_heap Y z1.heap.size _ #[.int .u64 (lb v.1 0), .int .u64 (lb v.1 1), .int .u64 (lb v.1 2), .int .u64 (lb v.1 3), .int .u64 (v.2 : Nat), .int .u64 (n : Nat), .string S, .pointer none] _ _ k2
  have hb3 : Below X.heap.size X (Y.setRow z1.heap.size #[.int .u64 (lb v.1 0), .int .u64 (lb v.1 1), .int .u64 (lb v.1 2), .int .u64 (lb v.1 3), .int .u64 (v.2 : Nat), .int .u64 (n : Nat), .string S, .pointer none]) := below_setRow hb2 hz1.size _
  obtain ⟨Y2, hY2⟩ : ∃ Y2, Y.setRow z1.heap.size #[.int .u64 (lb v.1 0), .int .u64 (lb v.1 1), .int .u64 (lb v.1 2), .int .u64 (lb v.1 3), .int .u64 (v.2 : Nat), .int .u64 (n : Nat), .string S, .pointer none] = Y2 := ⟨_, rfl⟩
  rw [hY2] at kR hb3 ⊢
  have c7 : Y2.cell? ⟨z1.heap.size, 7, none⟩ = some (.pointer none) := cell_of_row _ _ 7 _ _ _ kR
  have HY := Lib.hid (And.intro kR (And.intro hb3 hz1.size))
  clear kR hb3 hY2 hY k2 hb2 hz1
  go_upto_region 3 with fail
  go_upto_region 4 with (first
    | (go_at_call 51; refine (new_any _).mono ?_; rintro e z2 ⟨g, bv, bw, rfl, hs, hg, h1, h2, hz2⟩; have kN := HY.out.1.keep hz2; have f7 := frozen_of_row _ _ 7 _ _ kN; have d7 : z2.cell? ⟨z1.heap.size, 7, none⟩ = some (.pointer none) := cell_of_row _ _ 7 _ _ _ kN; have HZ := Lib.hid (And.intro hs (And.intro hg (And.intro h1 (And.intro h2 (And.intro hz2 kN))))); clear hs hg h1 h2 hz2 kN)
    | fail)
  obtain ⟨Z3, hZ3⟩ : ∃ Z, z2.setCell ⟨z1.heap.size, 7, none⟩ (.pointer (some ⟨g, 0, none⟩)) = Z := ⟨_, rfl⟩
  have hgr : z2.grownBy Z3 (some z1.heap.size) := by rw [← hZ3]; exact grown_set' (grown_refl _ _) _ _
  have k3 : Blk Z3 z1.heap.size 73 #[.int .u64 (lb v.1 0), .int .u64 (lb v.1 1), .int .u64 (lb v.1 2), .int .u64 (lb v.1 3), .int .u64 (v.2 : Nat), .int .u64 (n : Nat), .string S, .pointer (some ⟨g, 0, none⟩)] := by
    have h' := heap_setCell_same _ _ 7 _ _ (.pointer (some ⟨g, 0, none⟩)) HZ.out.2.2.2.2.2
    rw [hZ3] at h'
    unfold Blk
    simpa only [List.setIfInBounds_toArray, List.set_cons_zero, List.set_cons_succ] using h'
  have hXz : Below X.heap.size X z2 := HY.out.2.1.trans (HZ.out.2.2.2.2.1.mono HY.out.2.1.size)
  have hX3 : Below X.heap.size X Z3 := hXz.grown hgr hXz.size (fun r e => by cases e; exact HY.out.2.2)
  have hzy := HY.out.1.lt
  have hs3 : SlB Z3 g bv bw (fun _ => none) (fun _ => none) 0 := HZ.out.1.chg (Chg.of hgr) (fun e => by have := Option.some.inj e; have := HZ.out.2.1; omega) (fun e => by have := Option.some.inj e; have := HZ.out.2.2.1; omega) (fun e => by have := Option.some.inj e; have := HZ.out.2.2.2.1; omega)
  have he2 : enC (v, n, l, some g) = #[.int .u64 (lb v.1 0), .int .u64 (lb v.1 1), .int .u64 (lb v.1 2), .int .u64 (lb v.1 3), .int .u64 (v.2 : Nat), .int .u64 (n : Nat), .string S, .pointer (some ⟨g, 0, none⟩)] := by rw [← HS.out]; rfl
  have HP := Lib.hid (by have h := eput_any b m a HA.out (v, n, l, some g) HOK.out Z3 (HM.out.keep hX3); rw [he2] at h; exact h : Calls Try.prog 23 #[.map (some b), .agg (adC a), .agg #[.int .u64 (lb v.1 0), .int .u64 (lb v.1 1), .int .u64 (lb v.1 2), .int .u64 (lb v.1 3), .int .u64 (v.2 : Nat), .int .u64 (n : Nat), .string S, .pointer (some ⟨g, 0, none⟩)]] Z3 fun r w' => (∃ x, r = .returned x) ∧ GMp enD w' b (gput m a (v, n, l, some g)) ∧ Chg (fun k => k = b) Z3 w')
  have HW := Lib.hid (And.intro k3 (And.intro hX3 hs3))
  rw [hZ3]
  have hzx := HY.out.2.2
  have HSZ := Lib.hid (show w.heap.size ≤ z1.heap.size ∧ z1.heap.size < Y2.heap.size from ⟨Nat.le_trans HX.out.2.2.size hzx, hzy⟩)
  clear hZ3 hgr k3 hXz hX3 hzy hs3 he2 f7 d7 c7 hzx
  refine wp_region_lit ?_
  refine wpList_plain rfl fun K hK => ?_; go_simp; refine hK _ _ ?_; clear hK K
  refine wpList_load_midA rfl 28 (.tmp 3) rfl w.heap.size 0 rfl (adC a) _ (HX.out.2.1.keep HW.out.2.1).range und_addr rfl (by rw [info_addr, adC_size HA.out]) ?_
  refine wpList_load_midA rfl 73 (.tmp 5) rfl z1.heap.size 0 rfl #[.int .u64 (lb v.1 0), .int .u64 (lb v.1 1), .int .u64 (lb v.1 2), .int .u64 (lb v.1 3), .int .u64 (v.2 : Nat), .int .u64 (n : Nat), .string S, .pointer (some ⟨g, 0, none⟩)] _ HW.out.1.range unden rfl (by rw [info_en]; rfl) ?_
  refine wpList_plain rfl fun K hK => ?_; go_simp; (go_at_call 23; refine (HP.out).mono ?_; rintro e z4 ⟨⟨vv, rfl⟩, hm4, hc4⟩); refine hK _ _ ?_; clear hK K
  refine wpList_nil ?_
  have k4 := HW.out.1.chg hc4 (by have := HSZ.out; have := HBL.out; omega)
  have c74 : z4.cell? ⟨z1.heap.size, 7, none⟩ = some (.pointer (some ⟨g, 0, none⟩)) := cell_of_row _ _ 7 _ _ _ k4
  have HF := Lib.hid (And.intro hm4 hc4)
  clear hm4 hc4 k4
  go_wp2_with fail
  go_ret
  have hlow := HZ.out
  have hsz := HSZ.out
  have hbl := HBL.out
  exact ⟨g, rfl, bv, bw, HW.out.2.2.chg HF.out.2 (by omega) (by omega) (by omega), by omega, by omega, by omega, HF.out.1, (Chg.new HX.out.2.2).trans ((Chg.new (M := fun k => k = b) HW.out.2.1).trans HF.out.2 (fun _ _ h => h)) (fun _ _ h => h)⟩
/-- A storage that was just made. -/
def SlN (w w' : World) (g : Nat) : Prop := ∃ bv bw, SlB w' g bv bw (fun _ => none) (fun _ => none) 0 ∧ w.heap.size ≤ g ∧ w.heap.size ≤ bv ∧ w.heap.size ≤ bw
set_option maxRecDepth 100000 in
set_option maxHeartbeats 4000000 in
theorem aslots_new (p b : Nat) (m : List Nat → Option En) (a : List Nat) (ha : Ad a) (w : World) (h : AcM w p b m) (hno : (glk zE m a).2.2.2 = none) :
    Calls Try.prog 18 #[.pointer (some ⟨p, 0, none⟩), .agg (adC a)] w fun r w' => ∃ g, r = .returned (.pointer (some ⟨g, 0, none⟩)) ∧ SlN w w' g ∧ AcM w' p b (gput m a ((glk zE m a).1, (glk zE m a).2.1, (glk zE m a).2.2.1, some g)) ∧ Chg (fun k => k = b) w w' := by
  obtain ⟨X, hX⟩ : ∃ X, w.alloc (.cells (adC a) 28) = X := ⟨_, rfl⟩
  have b1 : Blk X w.heap.size 28 (adC a) := by rw [← hX]; exact Blk.new w _ _
  have hW : Below w.heap.size w X := by rw [← hX]; exact balloc (Below.refl _ _) _
  have hX0 := h.keep hW
  have hpl := h.1.lt
  have HX := Lib.hid (And.intro hX (And.intro b1 hW))
  have HA := Lib.hid ha
  have HN := Lib.hid (anone_not p b X hX0.1)
  have HNE := Lib.hid (show w.heap.size ≠ b ∧ p ≠ b from by have := h.2.lt; exact ⟨by omega, h.ne⟩)
  have HP := Lib.hid (fun Z (hZ : Below X.heap.size X Z) => aopen_new b m a ha Z (hX0.2.keep hZ) hno)
  have HM := Lib.hid hX0
  have q0 : ∀ w', Chg (fun k => k = b) X w' → w'.cell? ⟨p, 0, none⟩ = some (.map (some b)) := fun w' k => cell_of_row _ _ 0 _ _ _ (hX0.1.chg k HNE.out.2)
  have hS0 : Below X.heap.size X X.drew := below_drew' (Below.refl _ _)
  clear hX b1 hW hX0 ha h hpl hno
  generalize glk zE m a = e0 at *
  go_enter Try.func18, Try.ntmps18
  go_wp2_with fail
  rw [HX.out.1]
  refine wp_scope_jumps 0 (fun _ _ => False) (fun _ _ => 0) rfl ?first ?pass
  case pass => intro a w h; exact h.elim
  case first =>
    go_upto_region 2 with (first | (go_at_call 22; refine (HN.out).mono ?_; rintro e w1 ⟨rfl, rfl⟩) | fail)
    have hHd : (fun w' => Chg (fun k => k = b) X w') X.drew := Chg.new hS0
    refine wp_noPanicG ?_
    refine wp_region_held_drew (S := fun w' => Chg (fun k => k = b) X w') (by as_aux_lemma => kernel_rfl) hHd (fun hHeld => ?_)
    simp only [List.size_toArray, List.length_cons, List.length_nil, Nat.reduceAdd, Array.replicate_succ, Array.replicate_zero, List.push_toArray, List.nil_append, List.cons_append]
    obtain ⟨wd, hwd⟩ : ∃ Z, X.drew = Z := ⟨_, rfl⟩
    rw [hwd] at hS0 hHeld ⊢
    clear hHd hwd
    refine wpAnyH_take (i := 0) (oi := { dst := some 7, op := Op.move (Operand.tmp 0), type := 23, pos := "account.go:48", after := #[], guard := none }) (v := ?vq0s) rfl (by as_aux_lemma => kernel_rfl) (by as_aux_lemma => kernel_rfl) (by as_aux_lemma => kernel_rfl) (fun _ _ _ h => h) (Or.inl ⟨by rfl, ?yq0s⟩) (by assumption) ?rq0s
    case yq0s => (intro w hSw; (try dsimp only at hSw); go_simp <;> with_reducible rfl)
    simp only [Act.put, List.setIfInBounds_toArray, List.set_cons_zero, List.set_cons_succ]
    refine wpAnyH_take (i := 1) (oi := { dst := some 8, op := Op.nilCheck (Operand.tmp 7), type := 0, pos := "account.go:48", after := #[{ on := 0, ground := Ground.data }], guard := none }) (v := ?vq1s) rfl (by as_aux_lemma => kernel_rfl) (by as_aux_lemma => kernel_rfl) (by as_aux_lemma => kernel_rfl) (fun _ _ _ h => h) (Or.inl ⟨by rfl, ?yq1s⟩) (by assumption) ?rq1s
    case yq1s => (intro w hSw; (try dsimp only at hSw); go_simp <;> with_reducible rfl)
    simp only [Act.put, List.setIfInBounds_toArray, List.set_cons_zero, List.set_cons_succ]
    refine wpAnyH_take (i := 2) (oi := { dst := some 9, op := Op.fieldAddr 67 (Operand.tmp 8) 0, type := 0, pos := "account.go:48", after := #[{ on := 1, ground := Ground.data }], guard := none }) (v := ?vq2s) rfl (by as_aux_lemma => kernel_rfl) (by as_aux_lemma => kernel_rfl) (by as_aux_lemma => kernel_rfl) (fun _ _ _ h => h) (Or.inl ⟨by rfl, ?yq2s⟩) (by assumption) ?rq2s
    case yq2s => (intro w hSw; (try dsimp only at hSw); go_simp <;> with_reducible rfl)
    simp only [Act.put, List.setIfInBounds_toArray, List.set_cons_zero, List.set_cons_succ]
    refine wpAnyH_take (i := 3) (oi := { dst := some 10, op := Op.load 65 (Operand.tmp 9), type := 65, pos := "account.go:48", after := #[{ on := 2, ground := Ground.data }], guard := none }) (v := ?vq3s) rfl (by as_aux_lemma => kernel_rfl) (by as_aux_lemma => kernel_rfl) (by as_aux_lemma => kernel_rfl) (fun _ _ _ h => h) (Or.inl ⟨by rfl, ?yq3s⟩) (by assumption) ?rq3s
    case yq3s => (intro w hSw; (try dsimp only at hSw); go_simp <;> with_reducible rfl)
    simp only [Act.put, List.setIfInBounds_toArray, List.set_cons_zero, List.set_cons_succ]
    refine wpAnyH_take (i := 4) (oi := { dst := some 11, op := Op.load 28 (Operand.tmp 3), type := 28, pos := "account.go:48", after := #[], guard := none }) (v := .agg (adC a)) rfl (by as_aux_lemma => kernel_rfl) (by as_aux_lemma => kernel_rfl) (by as_aux_lemma => kernel_rfl) (fun _ _ _ h => h) (yieldsIf_load_A (by rfl) 28 (.tmp 3) rfl (w.heap.size) (0) rfl (adC a) _ (fun w hw => by exact (HX.out.2.1.chg hw HNE.out.1).range) und_addr rfl (by rw [info_addr, adC_size HA.out])) (by assumption) ?_
    simp only [Act.put, List.setIfInBounds_toArray, List.set_cons_zero, List.set_cons_succ]
    refine wpAnyH_ready (rs := [5]) (by as_aux_lemma => kernel_rfl) (by simp) ?_
    refine AllReadyH.cons (o := { dst := some 12, op := Op.call { callee := Callee.value (Operand.func 35), args := #[Operand.tmp 10, Operand.tmp 11], argTypes := #[65, 28] }, type := 59, pos := "account.go:48", after := #[{ on := 3, ground := Ground.data }, { on := 4, ground := Ground.data }], guard := none }) rfl (fun K hK => ?_) (by exact AllReadyH.nil)
    rw [if_pos (by rfl)]
    go_simp
    (go_at_call 35; refine (HP.out _ hS0).mono ?_; rintro e z5 ⟨g, bv, bw, rfl, hsz5, hg1, hg2, hg3, hmz5, hcz5⟩)
    have hCz5 := (Chg.new (M := fun k => k = b) hS0).trans hcz5 (fun _ _ h => h)
    refine hK.out _ _ (by (try dsimp only); exact hCz5) (fun hHeld => ?_)
    clear hK K
    simp only [List.setIfInBounds_toArray, List.set_cons_zero, List.set_cons_succ]
    refine wpAnyH_take (i := 6) (oi := { dst := some 4, op := Op.assign (Operand.tmp 12), type := 59, pos := "account.go:48", after := #[{ on := 5, ground := Ground.data }, { on := 5, ground := Ground.chain }, { on := 0, ground := Ground.phase }, { on := 1, ground := Ground.phase }, { on := 2, ground := Ground.phase }, { on := 3, ground := Ground.phase }, { on := 4, ground := Ground.phase }, { on := 5, ground := Ground.phase }], guard := none }) (v := ?vq6s) rfl (by as_aux_lemma => kernel_rfl) (by as_aux_lemma => kernel_rfl) (by as_aux_lemma => kernel_rfl) (fun _ _ _ h => h) (Or.inl ⟨by rfl, ?yq6s⟩) (by assumption) ?rq6s
    case yq6s => (intro w hSw; (try dsimp only at hSw); go_simp <;> with_reducible rfl)
    simp only [Act.put, List.setIfInBounds_toArray, List.set_cons_zero, List.set_cons_succ]
    refine wpAnyH_done (by as_aux_lemma => kernel_rfl) ?_ _
    clear hHeld
    simp only [noPanicG]
    have hwX := Nat.le_trans HX.out.2.2.size hS0.size
    have HF := Lib.hid (And.intro hmz5 (And.intro hCz5 (show SlN w z5 g from ⟨bv, bw, hsz5, Nat.le_trans hwX hg1, Nat.le_trans hwX hg2, Nat.le_trans hwX hg3⟩)))
    clear hmz5 hCz5 hcz5 hsz5 hg1 hg2 hg3
    go_wp2_with fail
    (try simp only [Exit.jump])
    go_ret
    exact ⟨g, rfl, HF.out.2.2, HM.out.chg HF.out.2.1 HF.out.1, (Chg.new HX.out.2.2).trans HF.out.2.1 (fun _ _ h => h)⟩
end Go.Proofs.Ytcplhalgjjhmdaa
