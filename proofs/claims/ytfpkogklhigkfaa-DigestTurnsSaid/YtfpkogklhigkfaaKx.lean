/- digest: DigestTurns' walk. -/
import Derived.Test.YtfpkogklhigkfaaKw
import Derived.Test.YtfpkogklhigkfaaWv
import Derived.Deep.RegionHeld3
namespace Go.Proofs.Ytfpkogklhigkfaa
open Go.RowKit Go.Shelf
theorem eqT (f : Nat → Ln) (w : World) : (binOp .eql 23 (.agg (Fc 25 (TF f))) (.agg (Fc 25 (rnds f 24)))).run Try.prog w = .ok (.bool true) w := by
  have h : al25 (TF f) (rnds f 24) = true := (al25_iff _ _).2 (TF_on f)
  rw [eq25, h]
attribute [local irreducible] ln rot Fc TF al25 rnds rcv
set_option maxRecDepth 100000 in
set_option maxHeartbeats 4000000 in
theorem turns5_in (a : Nat → Ln) (k : Nat) (hk : k < 24) (w : World) :
    Calls Try.prog 3 #[.agg (Fc 25 a), .int .i64 k] w fun e w' => e = .returned (.bool true) ∧ Below w.heap.size w w' := by
  have h23 : ¬ (23 < (k : Int)) := by omega
  have h0 : ¬ ((k : Int) < 0) := by omega
  go_enter Try.func3, Try.ntmps3
  go_upto_region 3 with fail
  have hA : Blk (w.alloc (.cells (Fc 25 a) 23)) w.heap.size 23 (Fc 25 a) := Blk.new w _ _
  have hW := balloc (Below.refl w.heap.size w) (.cells (Fc 25 a) 23)
  have HA := Lib.hid (And.intro hA hW)
  clear hA hW
  go_wp2_with fail
  refine (Constants_any _).mono ?_
  rintro e w1 ⟨rfl, h1⟩
  rename_i K hK
  refine hK _ _ ?_
  clear hK K
  refine wpList_plain rfl fun K hK => ?_
  go_simp
  refine hK _ _ ?_
  clear hK K
  rw [← z24]
  refine wpList_store_row rfl 25 (.tmp 5) (.tmp 13) rfl w1.heap.size (Fc 24 rcv) rfl rfl 25 (Fc 24 (fun _ => 0#64)) (Blk.new w1 _ _) (by rw [info24, Fc_size]) (by rw [Fc_size, Fc_size]) (Fc_one _ _) (wpList_nil ?_)
  rw [World.setRow_alloc_new]
  have hM := Blk.new w1 25 (Fc 24 rcv)
  have hA := (HA.out.1.keep h1).alloc (.cells (Fc 24 rcv) 25)
  have hW := balloc (bstep HA.out.2 h1) (.cells (Fc 24 rcv) 25)
  obtain ⟨wx, hwx⟩ : ∃ wx, w1.alloc (.cells (Fc 24 rcv) 25) = wx := ⟨_, rfl⟩
  rw [hwx] at hM hA hW ⊢
  generalize w1.heap.size = gm at hM ⊢
  clear hwx h1 HA
  have HX := Lib.hid (And.intro hM (And.intro hA hW))
  clear hM hA hW
  go_upto_region 4 with fail
  obtain ⟨hM, hA, hW⟩ := HX.out
  clear HX
  have eTT : ∀ w, (binOp .eql 23 (.agg (Fc 25 (TF a))) (.agg (Fc 25 (rnds a 24)))).run Try.prog w = .ok (.bool true) w := eqT a
  have hkI : (k : Int) < 24 := by omega
  have h0S : Below wx.heap.size wx wx.drew := (Below.refl _ _).drew
  simp only [Act.put]
  refine wp_region_held_drew (S := fun w' => Below wx.heap.size wx w') (by as_aux_lemma => kernel_rfl) h0S (fun hHeld => ?_)
  simp only [List.size_toArray, List.length_cons, List.length_nil, Nat.reduceAdd, Array.replicate_succ, Array.replicate_zero, List.push_toArray, List.nil_append, List.cons_append]
  refine wpAnyH_take (i := 0) (oi := { dst := some 14, op := Op.load 23 (Operand.tmp 2), type := 23, pos := "law.go:23", after := #[], guard := none }) (v := .agg (Fc 25 a)) rfl (by as_aux_lemma => kernel_rfl) (by as_aux_lemma => kernel_rfl) (by as_aux_lemma => kernel_rfl) (fun _ _ _ h => h) (yieldsIf_load_A (by rfl) 23 (.tmp 2) rfl w.heap.size 0 rfl (Fc 25 a) _ (fun w hw => (hA.keep hw).rangeAt) und25 rfl (by rw [info25, Fc_size])) (by assumption) ?_
  simp only [Act.put, List.setIfInBounds_toArray, List.set_cons_zero, List.set_cons_succ]
  refine wpAnyH_take (i := 2) (oi := { dst := some 16, op := Op.load 23 (Operand.tmp 2), type := 23, pos := "law.go:23", after := #[], guard := none }) (v := .agg (Fc 25 a)) rfl (by as_aux_lemma => kernel_rfl) (by as_aux_lemma => kernel_rfl) (by as_aux_lemma => kernel_rfl) (fun _ _ _ h => h) (yieldsIf_load_A (by rfl) 23 (.tmp 2) rfl w.heap.size 0 rfl (Fc 25 a) _ (fun w hw => (hA.keep hw).rangeAt) und25 rfl (by rw [info25, Fc_size])) (by assumption) ?_
  simp only [Act.put, List.setIfInBounds_toArray, List.set_cons_zero, List.set_cons_succ]
  refine wpAnyH_ready (rs := [1]) (by as_aux_lemma => kernel_rfl) (by simp) ?_
  refine AllReadyH.cons (o := { dst := some 15, op := Op.call { callee := Callee.value (Operand.func 9), args := #[Operand.tmp 14], argTypes := #[23] }, type := 23, pos := "law.go:23", after := #[{ on := 0, ground := Ground.data }], guard := none }) rfl (fun K hK => ?_) (by exact AllReadyH.nil)
  rw [if_pos (by rfl)]
  go_simp
  (go_at_call 9; refine (TurnK_any a _).mono ?_; rintro e wk1 ⟨rfl, hk1⟩)
  refine hK.out _ _ (by (try dsimp only); (first | assumption | exact rstep (by assumption) (by assumption))) (fun hHeld => ?_)
  clear hK K
  simp only [List.setIfInBounds_toArray, List.set_cons_zero, List.set_cons_succ]
  refine wpAnyH_ready (rs := [3]) (by as_aux_lemma => kernel_rfl) (by simp) ?_
  refine AllReadyH.cons (o := { dst := some 17, op := Op.call { callee := Callee.value (Operand.func 10), args := #[Operand.tmp 16], argTypes := #[23] }, type := 23, pos := "law.go:23", after := #[{ on := 2, ground := Ground.data }, { on := 1, ground := Ground.chain }], guard := none }) rfl (fun K hK => ?_) (by exact AllReadyH.nil)
  rw [if_pos (by rfl)]
  go_simp
  (go_at_call 10; refine (rturn_any a _).mono ?_; rintro e wk2 ⟨rfl, hk2⟩)
  refine hK.out _ _ (by (try dsimp only); (first | assumption | exact rstep (by assumption) (by assumption))) (fun hHeld => ?_)
  clear hK K
  simp only [List.setIfInBounds_toArray, List.set_cons_zero, List.set_cons_succ]
  refine wpAnyH_take (i := 4) (oi := { dst := some 18, op := Op.binOp BinOp.eql 23 (Operand.tmp 15) (Operand.tmp 17) 23, type := 4, pos := "law.go:23", after := #[{ on := 1, ground := Ground.data }, { on := 3, ground := Ground.data }], guard := none }) (v := ?vq4) rfl (by as_aux_lemma => kernel_rfl) (by as_aux_lemma => kernel_rfl) (by as_aux_lemma => kernel_rfl) (fun _ _ _ h => h) (Or.inl ⟨by rfl, ?yq4⟩) (by assumption) ?rq4
  case yq4 => (intro w hSw; (try dsimp only at hSw); go_simp <;> with_reducible rfl)
  simp only [Act.put, List.setIfInBounds_toArray, List.set_cons_zero, List.set_cons_succ]
  refine wpAnyH_take (i := 5) (oi := { dst := some 19, op := Op.move (Operand.tmp 18), type := 4, pos := "law.go:23", after := #[{ on := 4, ground := Ground.data }, { on := 3, ground := Ground.chain }], guard := none }) (v := ?vq5) rfl (by as_aux_lemma => kernel_rfl) (by as_aux_lemma => kernel_rfl) (by as_aux_lemma => kernel_rfl) (fun _ _ _ h => h) (Or.inl ⟨by rfl, ?yq5⟩) (by assumption) ?rq5
  case yq5 => (intro w hSw; (try dsimp only at hSw); go_simp <;> with_reducible rfl)
  simp only [Act.put, List.setIfInBounds_toArray, List.set_cons_zero, List.set_cons_succ]
  refine wpAnyH_take (i := 6) (oi := { dst := some 20, op := Op.move (Operand.tmp 1), type := 3, pos := "law.go:23", after := #[{ on := 5, ground := Ground.guard }], guard := some (5, true) }) (v := ?vq6) rfl (by as_aux_lemma => kernel_rfl) (by as_aux_lemma => kernel_rfl) (by as_aux_lemma => kernel_rfl) (fun _ _ _ h => h) (Or.inl ⟨by rfl, ?yq6⟩) (by assumption) ?rq6
  case yq6 => (intro w hSw; (try dsimp only at hSw); go_simp <;> with_reducible rfl)
  simp only [Act.put, List.setIfInBounds_toArray, List.set_cons_zero, List.set_cons_succ]
  refine wpAnyH_take (i := 7) (oi := { dst := some 21, op := Op.indexAddr 25 (Operand.tmp 5) (Operand.tmp 20), type := 0, pos := "law.go:23", after := #[{ on := 6, ground := Ground.data }, { on := 5, ground := Ground.guard }], guard := some (5, true) }) (v := ?vq7) rfl (by as_aux_lemma => kernel_rfl) (by as_aux_lemma => kernel_rfl) (by as_aux_lemma => kernel_rfl) (fun _ _ _ h => h) (Or.inl ⟨by rfl, ?yq7⟩) (by assumption) ?rq7
  case yq7 => (intro w hSw; (try dsimp only at hSw); go_simp <;> with_reducible rfl)
  simp only [Act.put, List.setIfInBounds_toArray, List.set_cons_zero, List.set_cons_succ]
  refine wpAnyH_take (i := 8) (oi := { dst := some 22, op := Op.load 22 (Operand.tmp 21), type := 22, pos := "law.go:23", after := #[{ on := 7, ground := Ground.data }, { on := 5, ground := Ground.guard }], guard := some (5, true) }) (v := ?vq8) rfl (by as_aux_lemma => kernel_rfl) (by as_aux_lemma => kernel_rfl) (by as_aux_lemma => kernel_rfl) (fun _ _ _ h => h) (Or.inl ⟨by rfl, ?yq8⟩) (by assumption) ?rq8
  case yq8 => (intro w hSw; (try dsimp only at hSw); have hc := (cell_of_row w gm k _ _ _ (hM.keep hSw)).trans (Fc_get 24 rcv k hk); go_simp <;> with_reducible rfl)
  simp only [Act.put, List.setIfInBounds_toArray, List.set_cons_zero, List.set_cons_succ]
  refine wpAnyH_take (i := 9) (oi := { dst := some 23, op := Op.move (Operand.tmp 1), type := 3, pos := "law.go:23", after := #[{ on := 5, ground := Ground.guard }], guard := some (5, true) }) (v := ?vq9) rfl (by as_aux_lemma => kernel_rfl) (by as_aux_lemma => kernel_rfl) (by as_aux_lemma => kernel_rfl) (fun _ _ _ h => h) (Or.inl ⟨by rfl, ?yq9⟩) (by assumption) ?rq9
  case yq9 => (intro w hSw; (try dsimp only at hSw); go_simp <;> with_reducible rfl)
  simp only [Act.put, List.setIfInBounds_toArray, List.set_cons_zero, List.set_cons_succ]
  refine wpAnyH_ready (rs := [10]) (by as_aux_lemma => kernel_rfl) (by simp) ?_
  refine AllReadyH.cons (o := { dst := some 24, op := Op.call { callee := Callee.value (Operand.func 11), args := #[Operand.tmp 23], argTypes := #[3] }, type := 22, pos := "law.go:23", after := #[{ on := 9, ground := Ground.data }, { on := 5, ground := Ground.chain }, { on := 5, ground := Ground.guard }], guard := some (5, true) }) rfl (fun K hK => ?_) (by exact AllReadyH.nil)
  rw [if_pos (by rfl)]
  go_simp
  (go_at_call 11; refine (rconst_any k hk _).mono ?_; rintro e wk3 ⟨rfl, rfl⟩)
  refine hK.out _ _ (by (try dsimp only); (first | assumption | exact rstep (by assumption) (by assumption))) (fun hHeld => ?_)
  clear hK K
  simp only [List.setIfInBounds_toArray, List.set_cons_zero, List.set_cons_succ]
  refine wpAnyH_take (i := 11) (oi := { dst := some 25, op := Op.binOp BinOp.eql 22 (Operand.tmp 22) (Operand.tmp 24) 22, type := 4, pos := "law.go:23", after := #[{ on := 8, ground := Ground.data }, { on := 10, ground := Ground.data }, { on := 5, ground := Ground.guard }], guard := some (5, true) }) (v := ?vq11) rfl (by as_aux_lemma => kernel_rfl) (by as_aux_lemma => kernel_rfl) (by as_aux_lemma => kernel_rfl) (fun _ _ _ h => h) (Or.inl ⟨by rfl, ?yq11⟩) (by assumption) ?rq11
  case yq11 => (intro w hSw; (try dsimp only at hSw); go_simp <;> with_reducible rfl)
  simp only [Act.put, List.setIfInBounds_toArray, List.set_cons_zero, List.set_cons_succ]
  refine wpAnyH_take (i := 12) (oi := { dst := some 26, op := Op.pick (Operand.tmp 19) (Operand.tmp 25) (Operand.const (Value.bool false)), type := 4, pos := "law.go:23", after := #[{ on := 5, ground := Ground.data }, { on := 11, ground := Ground.data }], guard := none }) (v := ?vq12) rfl (by as_aux_lemma => kernel_rfl) (by as_aux_lemma => kernel_rfl) (by as_aux_lemma => kernel_rfl) (fun _ _ _ h => h) (Or.inl ⟨by rfl, ?yq12⟩) (by assumption) ?rq12
  case yq12 => (intro w hSw; (try dsimp only at hSw); go_simp <;> with_reducible rfl)
  simp only [Act.put, List.setIfInBounds_toArray, List.set_cons_zero, List.set_cons_succ]
  refine wpAnyH_take (i := 13) (oi := { dst := some 27, op := Op.move (Operand.tmp 26), type := 4, pos := "law.go:23", after := #[{ on := 12, ground := Ground.data }, { on := 10, ground := Ground.chain }], guard := none }) (v := ?vq13) rfl (by as_aux_lemma => kernel_rfl) (by as_aux_lemma => kernel_rfl) (by as_aux_lemma => kernel_rfl) (fun _ _ _ h => h) (Or.inl ⟨by rfl, ?yq13⟩) (by assumption) ?rq13
  case yq13 => (intro w hSw; (try dsimp only at hSw); go_simp <;> with_reducible rfl)
  simp only [Act.put, List.setIfInBounds_toArray, List.set_cons_zero, List.set_cons_succ]
  refine wpAnyH_ready (rs := [14]) (by as_aux_lemma => kernel_rfl) (by simp) ?_
  refine AllReadyH.cons (o := { dst := some 28, op := Op.call { callee := Callee.value (Operand.func 7), args := #[], argTypes := #[] }, type := 4, pos := "law.go:23", after := #[{ on := 13, ground := Ground.chain }, { on := 13, ground := Ground.guard }], guard := some (13, true) }) rfl (fun K hK => ?_) (by exact AllReadyH.nil)
  rw [if_pos (by rfl)]
  go_simp
  (go_at_call 7; refine (works_anyK _).mono ?_; rintro e wk4 ⟨rfl, hk4⟩)
  refine hK.out _ _ (by (try dsimp only); (first | assumption | exact rstep (by assumption) (by assumption))) (fun hHeld => ?_)
  clear hK K
  simp only [List.setIfInBounds_toArray, List.set_cons_zero, List.set_cons_succ]
  refine wpAnyH_take (i := 15) (oi := { dst := some 29, op := Op.pick (Operand.tmp 27) (Operand.tmp 28) (Operand.const (Value.bool false)), type := 4, pos := "law.go:23", after := #[{ on := 13, ground := Ground.data }, { on := 14, ground := Ground.data }], guard := none }) (v := ?vq15) rfl (by as_aux_lemma => kernel_rfl) (by as_aux_lemma => kernel_rfl) (by as_aux_lemma => kernel_rfl) (fun _ _ _ h => h) (Or.inl ⟨by rfl, ?yq15⟩) (by assumption) ?rq15
  case yq15 => (intro w hSw; (try dsimp only at hSw); go_simp <;> with_reducible rfl)
  simp only [Act.put, List.setIfInBounds_toArray, List.set_cons_zero, List.set_cons_succ]
  refine wpAnyH_take (i := 16) (oi := { dst := some 4, op := Op.assign (Operand.tmp 29), type := 4, pos := "law.go:23", after := #[{ on := 15, ground := Ground.data }, { on := 14, ground := Ground.chain }, { on := 0, ground := Ground.phase }, { on := 1, ground := Ground.phase }, { on := 2, ground := Ground.phase }, { on := 3, ground := Ground.phase }, { on := 4, ground := Ground.phase }, { on := 5, ground := Ground.phase }, { on := 6, ground := Ground.phase }, { on := 7, ground := Ground.phase }, { on := 8, ground := Ground.phase }, { on := 9, ground := Ground.phase }, { on := 10, ground := Ground.phase }, { on := 11, ground := Ground.phase }, { on := 12, ground := Ground.phase }, { on := 13, ground := Ground.phase }, { on := 14, ground := Ground.phase }, { on := 15, ground := Ground.phase }], guard := none }) (v := ?vq16) rfl (by as_aux_lemma => kernel_rfl) (by as_aux_lemma => kernel_rfl) (by as_aux_lemma => kernel_rfl) (fun _ _ _ h => h) (Or.inl ⟨by rfl, ?yq16⟩) (by assumption) ?rq16
  case yq16 => (intro w hSw; (try dsimp only at hSw); go_simp <;> with_reducible rfl)
  simp only [Act.put, List.setIfInBounds_toArray, List.set_cons_zero, List.set_cons_succ]
  refine wpAnyH_done (by as_aux_lemma => kernel_rfl) ?_ _
  have HE := Lib.hid (bstep hW hHeld)
  clear hA hM hW
  go_wp2_with fail
  go_ret
  exact ⟨rfl, HE.out⟩
end Go.Proofs.Ytfpkogklhigkfaa
