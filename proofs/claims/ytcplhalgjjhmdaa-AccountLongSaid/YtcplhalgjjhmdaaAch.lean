/- account: Get, Dead, Drop. -/
import Derived.Test.YtcplhalgjjhmdaaAcg
namespace Go.Proofs.Ytcplhalgjjhmdaa
open Go.RowKit Go.Shelf Go.ChangeMaps Go.MapKept

theorem chg_setRow (Z : World) (g : Nat) (cs : Array Value) : Chg (fun k => k = g) Z (Z.setRow g cs) := ⟨rfl, rfl, rfl, by simp [World.setRow], fun k _ hm => setRow_other _ _ _ _ hm⟩
theorem glk_ok {X : World} {b : Nat} {m : List Nat → Option En} (h : GMp enD X b m) (a : List Nat) : okE (glk zE m a) := by
  unfold glk
  cases hm : m a with
  | none => exact okE0
  | some e => exact (h.ok enK hm).2
set_option maxRecDepth 100000 in
set_option maxHeartbeats 4000000 in
theorem aget_any (p b : Nat) (m : List Nat → Option En) (a : List Nat) (ha : Ad a) (w : World) (h : AcM w p b m) :
    Calls Try.prog 10 #[.pointer (some ⟨p, 0, none⟩), .agg (adC a)] w fun r w' => ∃ c, r = .returned (.agg (acC (glk zE m a).1 (glk zE m a).2.1 c)) ∧ Bto w'.heap.size w' c (glk zE m a).2.2.1 ∧ FrS w.heap.size c ∧ Below w.heap.size w w' := by
  obtain ⟨zz, hzz⟩ : ∃ z : Array Value, #[.int .u64 0, .int .u64 0, .int .u64 0, .int .u64 0, .int .u64 0, .int .u64 0, .slice none 0 0] = z := ⟨_, rfl⟩
  obtain ⟨X, hX⟩ : ∃ X, (w.alloc (.cells (adC a) 28)).alloc (.cells zz 38) = X := ⟨_, rfl⟩
  have b1 : Blk X w.heap.size 28 (adC a) := by rw [← hX]; exact (Blk.new w _ _).alloc _
  have b2 : Blk X (w.heap.size + 1) 38 zz := by rw [← hX]; exact Blk.newS w _ _ _
  have hW : Below w.heap.size w X := by rw [← hX]; exact balloc (balloc (Below.refl _ _) _) _
  have hX0 := h.keep hW
  have hpl := h.1.lt
  have hs : X.heap.size = w.heap.size + 2 := by rw [← hX]; simp
  have hok := glk_ok h.2 a
  have HX := Lib.hid (And.intro hX (And.intro b1 (And.intro b2 (And.intro hW hs))))
  have HA := Lib.hid ha
  have HZ := Lib.hid (And.intro hzz (show zz.size = 7 by rw [← hzz]; rfl))
  have HN := Lib.hid (anone_not p b X hX0.1)
  have HT := Lib.hid (fun Z (hZ : Below X.heap.size X Z) => at_any16 b m a ha Z (hX0.2.keep hZ))
  have hfl := fun Z => fld0 (glk zE m a) Z
  generalize glk zE m a = e0 at *
  have HB := Lib.hid (fun Z => accB_any e0 hok Z)
  have q0 : ∀ w', Chg (fun k => k = w.heap.size + 1) X w' → w'.cell? ⟨p, 0, none⟩ = some (.map (some b)) := fun w' k => cell_of_row _ _ 0 _ _ _ (hX0.1.chg k (by omega))
  have hS0 : Below X.heap.size X X.drew := below_drew' (Below.refl _ _)
  clear hX b1 b2 hW hX0 ha h hzz hs hok hpl
  go_enter Try.func10, Try.ntmps10
  go_upto_region 1 with fail
  rw [HZ.out.1, HX.out.1]
  go_upto_region 3 with (first | (go_at_call 22; refine (HN.out).mono ?_; rintro e w1 ⟨rfl, rfl⟩) | fail)
  have hHd : (fun w' => Chg (fun k => k = w.heap.size + 1) X w') X.drew := Chg.new hS0
  refine wp_noPanicG ?_
  refine wp_region_held_drew (S := fun w' => Chg (fun k => k = w.heap.size + 1) X w') (by as_aux_lemma => kernel_rfl) hHd (fun hHeld => ?_)
  simp only [List.size_toArray, List.length_cons, List.length_nil, Nat.reduceAdd, Array.replicate_succ, Array.replicate_zero, List.push_toArray, List.nil_append, List.cons_append]
  obtain ⟨wd, hwd⟩ : ∃ Z, X.drew = Z := ⟨_, rfl⟩
  rw [hwd] at hS0 hHeld ⊢
  clear hHd hwd
  refine wpAnyH_take (i := 0) (oi := { dst := some 8, op := Op.move (Operand.tmp 0), type := 23, pos := "account.go:26", after := #[], guard := none }) (v := ?vq0g) rfl (by as_aux_lemma => kernel_rfl) (by as_aux_lemma => kernel_rfl) (by as_aux_lemma => kernel_rfl) (fun _ _ _ h => h) (Or.inl ⟨by rfl, ?yq0g⟩) (by assumption) ?rq0g
  case yq0g => (intro w hSw; (try dsimp only at hSw); go_simp <;> with_reducible rfl)
  simp only [Act.put, List.setIfInBounds_toArray, List.set_cons_zero, List.set_cons_succ]
  refine wpAnyH_take (i := 1) (oi := { dst := some 9, op := Op.nilCheck (Operand.tmp 8), type := 0, pos := "account.go:26", after := #[{ on := 0, ground := Ground.data }], guard := none }) (v := ?vq1g) rfl (by as_aux_lemma => kernel_rfl) (by as_aux_lemma => kernel_rfl) (by as_aux_lemma => kernel_rfl) (fun _ _ _ h => h) (Or.inl ⟨by rfl, ?yq1g⟩) (by assumption) ?rq1g
  case yq1g => (intro w hSw; (try dsimp only at hSw); go_simp <;> with_reducible rfl)
  simp only [Act.put, List.setIfInBounds_toArray, List.set_cons_zero, List.set_cons_succ]
  refine wpAnyH_take (i := 2) (oi := { dst := some 10, op := Op.fieldAddr 67 (Operand.tmp 9) 0, type := 0, pos := "account.go:26", after := #[{ on := 1, ground := Ground.data }], guard := none }) (v := ?vq2g) rfl (by as_aux_lemma => kernel_rfl) (by as_aux_lemma => kernel_rfl) (by as_aux_lemma => kernel_rfl) (fun _ _ _ h => h) (Or.inl ⟨by rfl, ?yq2g⟩) (by assumption) ?rq2g
  case yq2g => (intro w hSw; (try dsimp only at hSw); go_simp <;> with_reducible rfl)
  simp only [Act.put, List.setIfInBounds_toArray, List.set_cons_zero, List.set_cons_succ]
  refine wpAnyH_take (i := 3) (oi := { dst := some 11, op := Op.load 65 (Operand.tmp 10), type := 65, pos := "account.go:26", after := #[{ on := 2, ground := Ground.data }], guard := none }) (v := ?vq3g) rfl (by as_aux_lemma => kernel_rfl) (by as_aux_lemma => kernel_rfl) (by as_aux_lemma => kernel_rfl) (fun _ _ _ h => h) (Or.inl ⟨by rfl, ?yq3g⟩) (by assumption) ?rq3g
  case yq3g => (intro w hSw; (try dsimp only at hSw); go_simp <;> with_reducible rfl)
  simp only [Act.put, List.setIfInBounds_toArray, List.set_cons_zero, List.set_cons_succ]
  refine wpAnyH_take (i := 4) (oi := { dst := some 12, op := Op.load 28 (Operand.tmp 3), type := 28, pos := "account.go:26", after := #[], guard := none }) (v := .agg (adC a)) rfl (by as_aux_lemma => kernel_rfl) (by as_aux_lemma => kernel_rfl) (by as_aux_lemma => kernel_rfl) (fun _ _ _ h => h) (yieldsIf_load_A (by rfl) 28 (.tmp 3) rfl (w.heap.size) (0) rfl (adC a) _ (fun w hw => by exact (HX.out.2.1.chg hw (by omega)).range) und_addr rfl (by rw [info_addr, adC_size HA.out])) (by assumption) ?_
  simp only [Act.put, List.setIfInBounds_toArray, List.set_cons_zero, List.set_cons_succ]
  refine wpAnyH_ready (rs := [5]) (by as_aux_lemma => kernel_rfl) (by simp) ?_
  refine AllReadyH.cons (o := { dst := some 13, op := Op.call { callee := Callee.value (Operand.func 25), args := #[Operand.tmp 11, Operand.tmp 12], argTypes := #[65, 28] }, type := 73, pos := "account.go:26", after := #[{ on := 3, ground := Ground.data }, { on := 4, ground := Ground.data }], guard := none }) rfl (fun K hK => ?_) (by exact AllReadyH.nil)
  rw [if_pos (by rfl)]
  go_simp
  (go_at_call 25; refine (HT.out _ hS0).mono ?_; rintro e z5 ⟨rfl, hz5⟩)
  have hSz5 : Below X.heap.size X z5 := rstep hz5 hS0
  refine hK.out _ _ (by (try dsimp only); exact Chg.new hSz5) (fun hHeld => ?_)
  clear hK K
  simp only [List.setIfInBounds_toArray, List.set_cons_zero, List.set_cons_succ]
  refine wpAnyH_take (i := 6) (oi := { dst := some 14, op := Op.field 73 (Operand.tmp 13) 0, type := 70, pos := "account.go:26", after := #[{ on := 5, ground := Ground.data }], guard := none }) (v := ?vq6g) rfl (by as_aux_lemma => kernel_rfl) (by as_aux_lemma => kernel_rfl) (by as_aux_lemma => kernel_rfl) (fun _ _ _ h => h) (Or.inl ⟨by rfl, ?yq6g⟩) (by assumption) ?rq6g
  case yq6g => (intro w hSw; (try dsimp only at hSw); go_simp <;> with_reducible rfl)
  simp only [Act.put, List.setIfInBounds_toArray, List.set_cons_zero, List.set_cons_succ]
  refine wpAnyH_ready (rs := [7]) (by as_aux_lemma => kernel_rfl) (by simp) ?_
  refine AllReadyH.cons (o := { dst := some 15, op := Op.call { callee := Callee.value (Operand.func 26), args := #[Operand.tmp 14], argTypes := #[70] }, type := 38, pos := "account.go:26", after := #[{ on := 6, ground := Ground.data }, { on := 5, ground := Ground.chain }], guard := none }) rfl (fun K hK => ?_) (by exact AllReadyH.nil)
  rw [if_pos (by rfl)]
  go_simp
  (go_at_call 26; refine (HB.out _).mono ?_; rintro e z7 ⟨c, rfl, hBz7, hFz7, hz7⟩)
  have hSz7 : Below X.heap.size X z7 := rstep hz7 hSz5
  obtain ⟨cx, cn, cc, hce⟩ : ∃ x n k, c = .slice x n k := by obtain ⟨_, x, cap, h, _⟩ := hBz7; exact ⟨x, _, cap, h⟩
  subst hce
  have hKz7 := HX.out.2.2.1.keep hSz7
  refine hK.out _ _ (by (try dsimp only); exact Chg.new hSz7) (fun hHeld => ?_)
  clear hK K
  simp only [List.setIfInBounds_toArray, List.set_cons_zero, List.set_cons_succ]
  refine wpAnyH_ready (rs := [8]) (by as_aux_lemma => kernel_rfl) (by simp) ?_
  refine AllReadyH.cons (o := { dst := none, op := Op.store 38 (Operand.tmp 4) (Operand.tmp 15), type := 0, pos := "account.go:26", after := #[{ on := 7, ground := Ground.data }, { on := 7, ground := Ground.chain }, { on := 0, ground := Ground.phase }, { on := 1, ground := Ground.phase }, { on := 2, ground := Ground.phase }, { on := 3, ground := Ground.phase }, { on := 4, ground := Ground.phase }, { on := 5, ground := Ground.phase }, { on := 6, ground := Ground.phase }, { on := 7, ground := Ground.phase }], guard := none }) rfl (fun K hK => ?_) (by exact AllReadyH.nil)
  rw [if_pos (by rfl)]
  obtain ⟨E, hE⟩ : ∃ E, acC e0.1 e0.2.1 (.slice cx cn cc) = E := ⟨_, rfl⟩
  have HE := Lib.hid (And.intro hE (And.intro (show E.size = 7 by rw [← hE]; rfl) (show E.all (·.oneCell') = true by rw [← hE]; exact acC_one _ _ _ _ _)))
  rw [hE]
  clear hE
  refine wp_store_row 38 (.tmp 4) (.tmp 15) rfl (w.heap.size + 1) E rfl rfl 38 zz hKz7 (by rw [info_ac, HE.out.2.1]) (by rw [HZ.out.2, HE.out.2.1]) HE.out.2.2 ?_
  have hb9 := setRow_heap z7 (w.heap.size + 1) _ E _ _ hKz7
  have hc9 := chg_setRow z7 (w.heap.size + 1) E
  have hB9 : Bto (z7.setRow (w.heap.size + 1) E).heap.size (z7.setRow (w.heap.size + 1) E) (.slice cx cn cc) e0.2.2.1 := Bto.stay hBz7 (n := X.heap.size) (fun a k d h => Nat.le_trans (hSz5.size) (hFz7 a k d h)) hc9 (fun k e => by have := HX.out.2.2.2.2; omega)
  obtain ⟨Z9, hZ9⟩ : ∃ Z, z7.setRow (w.heap.size + 1) E = Z := ⟨_, rfl⟩
  rw [hZ9] at hb9 hc9 hB9 ⊢
  clear hZ9
  have hC9 := (Chg.new (M := fun k => k = w.heap.size + 1) hSz7).trans hc9 (fun _ _ h => h)
  refine hK.out _ _ (by (try dsimp only); exact hC9) (fun hHeld => ?_)
  clear hK K
  simp only [List.setIfInBounds_toArray, List.set_cons_zero, List.set_cons_succ]
  refine wpAnyH_done (by as_aux_lemma => kernel_rfl) ?_ _
  clear hHeld
  simp only [noPanicG]
  have HF := Lib.hid (And.intro hb9 (And.intro hB9 (And.intro hC9 hFz7)))
  clear hb9 hc9 hB9 hC9
  go_wp2_with fail
  (try simp only [Exit.inBlock, Exit.then])
  refine bodyPost_ret (results_cell_row rfl _ _ (w.heap.size + 1) 38 E (0, 0) _ rfl HF.out.1 undac rfl (by rw [info_ac, HE.out.2.1])) rfl ⟨_, by rw [HE.out.1], HF.out.2.1, fun a k d h => Nat.le_trans (Nat.le_trans HX.out.2.2.2.1.size hSz5.size) (HF.out.2.2.2 a k d h), HX.out.2.2.2.1.trans (HF.out.2.2.1.below (Nat.le_of_lt (by have := HX.out.2.2.2.2; omega)) (fun k hk e => by omega))⟩
end Go.Proofs.Ytcplhalgjjhmdaa
