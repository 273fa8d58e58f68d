/- digest: DigestHolds' walk. -/
import Derived.Test.YtfpkogklhigkfaaKq
import Derived.Test.YtfpkogklhigkfaaWv
import Derived.Deep.RegionHeld3
namespace Go.Proofs.Ytfpkogklhigkfaa
open Go.RowKit Go.Shelf

theorem yieldsIf_load_A {P : Program} {ops : Array Oper} {S : World → Prop} {op : Oper} {a : Act} (hw : Region.wanted op (yielded ops a.tmps) = true) (ty : TypeId) (x : Operand) (ho : op.op = .load ty x)
    (b o : Nat) (hx : a.eval x = .pointer (some ⟨b, o, none⟩)) (cs : Array Value) (d : TypeDesc) (hS : ∀ w, S w → w.rangeAt b o cs.toList)
    (hu : P.underlying ty = some d) (hd : d.isRow = true) (hi : (P.info? ty).map (·.size) = some cs.size) : YieldsIf P ops S op (.agg cs) a := by
  have h := yieldsIf_load_mid (P := P) (ops := ops) (S := S) hw ty x ho b o hx cs.toList d hS hu hd hi
  rwa [Array.toArray_toList] at h
/-- Are the first 25 numbers alike? -/
def al25 (f g : Nat → Ln) : Bool := (List.range 25).all fun j => ln (f j) == ln (g j)
theorem al25_iff (f g : Nat → Ln) : al25 f g = true ↔ EqOn f g := by
  unfold al25
  rw [List.all_eq_true]
  constructor
  · intro h i hi
    exact ln_inj (by simpa using h i (List.mem_range.2 hi))
  · intro h x hx
    rw [h x (List.mem_range.1 hx)]; simp
theorem eq25 (f g : Nat → Ln) (w : World) : (binOp .eql 23 (.agg (Fc 25 f)) (.agg (Fc 25 g))).run Try.prog w = .ok (.bool (al25 f g)) w := by
  obtain ⟨i, hi⟩ : ∃ i, Try.prog.info? 22 = some i := Option.isSome_iff_exists.1 (by kernel_rfl)
  exact run_eql_ints und25 (show Try.prog.underlying 22 = some (.int .u64) by kernel_rfl) hi (by kernel_rfl) _ _ _ _ (fun j hj => ⟨Fc_get 25 f j hj, Fc_get 25 g j hj⟩) w
def TF (f : Nat → Ln) : Nat → Ln := tnP (upd f 25 0#64) 24
theorem TF_on (f : Nat → Ln) : EqOn (TF f) (rnds f 24) := (tnP_on _ 24).trans (rnds_on (fun i hi => by unfold upd; rw [if_neg (by omega)]) 24)
theorem TF_al (f g : Nat → Ln) : al25 (TF f) (TF g) = al25 f g := by
  rw [Bool.eq_iff_iff, al25_iff, al25_iff]
  constructor
  · intro h; exact rnds_inj 24 ((TF_on f).symm.trans (h.trans (TF_on g)))
  · intro h; exact (TF_on f).trans ((rnds_on h 24).trans (TF_on g).symm)
theorem TurnK_any (f : Nat → Ln) (w : World) : Calls Try.prog 9 #[.agg (Fc 25 f)] w fun e w' => e = .returned (.agg (Fc 25 (TF f))) ∧ Below w.heap.size w w' := Turn_any Constants_any f w
attribute [local irreducible] ln rot Fc TF al25
set_option maxRecDepth 100000 in
set_option maxHeartbeats 4000000 in
theorem holds5_walk (a b : Nat → Ln) (w : World) :
    Calls Try.prog 6 #[.agg (Fc 25 a), .agg (Fc 25 b)] w fun e w' => e = .returned (.bool true) ∧ Below w.heap.size w w' := by
  have hA : Blk ((w.alloc (.cells (Fc 25 a) 23)).alloc (.cells (Fc 25 b) 23)) w.heap.size 23 (Fc 25 a) := (Blk.new w _ _).alloc _
  have hB : Blk ((w.alloc (.cells (Fc 25 a) 23)).alloc (.cells (Fc 25 b) 23)) (w.heap.size + 1) 23 (Fc 25 b) := Blk.newS w _ _ _
  have hW := balloc (balloc (Below.refl w.heap.size w) (.cells (Fc 25 a) 23)) (.cells (Fc 25 b) 23)
  have HX := Lib.hid (And.intro hA (And.intro hB hW))
  clear hA hB hW
  go_enter Try.func6, Try.ntmps6
  go_wp2_with fail
  obtain ⟨hA, hB, hW⟩ := HX.out
  obtain ⟨wx, hwx⟩ : ∃ wx, (w.alloc (.cells (Fc 25 a) 23)).alloc (.cells (Fc 25 b) 23) = wx := ⟨_, rfl⟩
  rw [hwx] at hA hB hW ⊢
  clear hwx HX
  have eab := eq25 a b
  have eAB : ∀ w, (binOp .eql 23 (.agg (Fc 25 (TF a))) (.agg (Fc 25 (TF b)))).run Try.prog w = .ok (.bool (al25 a b)) w := fun w => by rw [← TF_al]; exact eq25 _ _ w
  have h0 : Below wx.heap.size wx wx.drew := (Below.refl _ _).drew
  refine wp_region_held_drew (S := fun w' => Below wx.heap.size wx w') (by as_aux_lemma => kernel_rfl) h0 (fun hHeld => ?_)
  simp only [List.size_toArray, List.length_cons, List.length_nil, Nat.reduceAdd, Array.replicate_succ, Array.replicate_zero, List.push_toArray, List.nil_append, List.cons_append]
  refine wpAnyH_take (i := 0) (oi := { dst := some 5, op := Op.load 23 (Operand.tmp 2), type := 23, pos := "law.go:66", after := #[], guard := none }) (v := .agg (Fc 25 a)) rfl (by as_aux_lemma => kernel_rfl) (by as_aux_lemma => kernel_rfl) (by as_aux_lemma => kernel_rfl) (fun _ _ _ h => h) (yieldsIf_load_A (by rfl) 23 (.tmp 2) rfl w.heap.size 0 rfl (Fc 25 a) _ (fun w hw => (hA.keep hw).rangeAt) und25 rfl (by rw [info25, Fc_size])) (by assumption) ?_
  simp only [Act.put, List.setIfInBounds_toArray, List.set_cons_zero, List.set_cons_succ]
  refine wpAnyH_take (i := 2) (oi := { dst := some 7, op := Op.load 23 (Operand.tmp 3), type := 23, pos := "law.go:66", after := #[], guard := none }) (v := .agg (Fc 25 b)) rfl (by as_aux_lemma => kernel_rfl) (by as_aux_lemma => kernel_rfl) (by as_aux_lemma => kernel_rfl) (fun _ _ _ h => h) (yieldsIf_load_A (by rfl) 23 (.tmp 3) rfl (w.heap.size + 1) 0 rfl (Fc 25 b) _ (fun w hw => (hB.keep hw).rangeAt) und25 rfl (by rw [info25, Fc_size])) (by assumption) ?_
  simp only [Act.put, List.setIfInBounds_toArray, List.set_cons_zero, List.set_cons_succ]
  refine wpAnyH_take (i := 5) (oi := { dst := some 10, op := Op.load 23 (Operand.tmp 2), type := 23, pos := "law.go:66", after := #[], guard := none }) (v := .agg (Fc 25 a)) rfl (by as_aux_lemma => kernel_rfl) (by as_aux_lemma => kernel_rfl) (by as_aux_lemma => kernel_rfl) (fun _ _ _ h => h) (yieldsIf_load_A (by rfl) 23 (.tmp 2) rfl w.heap.size 0 rfl (Fc 25 a) _ (fun w hw => (hA.keep hw).rangeAt) und25 rfl (by rw [info25, Fc_size])) (by assumption) ?_
  simp only [Act.put, List.setIfInBounds_toArray, List.set_cons_zero, List.set_cons_succ]
  refine wpAnyH_take (i := 6) (oi := { dst := some 11, op := Op.load 23 (Operand.tmp 3), type := 23, pos := "law.go:66", after := #[], guard := none }) (v := .agg (Fc 25 b)) rfl (by as_aux_lemma => kernel_rfl) (by as_aux_lemma => kernel_rfl) (by as_aux_lemma => kernel_rfl) (fun _ _ _ h => h) (yieldsIf_load_A (by rfl) 23 (.tmp 3) rfl (w.heap.size + 1) 0 rfl (Fc 25 b) _ (fun w hw => (hB.keep hw).rangeAt) und25 rfl (by rw [info25, Fc_size])) (by assumption) ?_
  simp only [Act.put, List.setIfInBounds_toArray, List.set_cons_zero, List.set_cons_succ]
  refine wpAnyH_take (i := 7) (oi := { dst := some 12, op := Op.binOp BinOp.eql 23 (Operand.tmp 10) (Operand.tmp 11) 23, type := 4, pos := "law.go:66", after := #[{ on := 5, ground := Ground.data }, { on := 6, ground := Ground.data }], guard := none }) (v := ?vq4) rfl (by as_aux_lemma => kernel_rfl) (by as_aux_lemma => kernel_rfl) (by as_aux_lemma => kernel_rfl) (fun _ _ _ h => h) (Or.inl ⟨by rfl, ?yq4⟩) (by assumption) ?rq4
  case yq4 => (intro w hSw; (try dsimp only at hSw); go_simp <;> with_reducible rfl)
  simp only [Act.put, List.setIfInBounds_toArray, List.set_cons_zero, List.set_cons_succ]
  refine wpAnyH_ready (rs := [1]) (by as_aux_lemma => kernel_rfl) (by simp) ?_
  refine AllReadyH.cons (o := { dst := some 6, op := Op.call { callee := Callee.value (Operand.func 9), args := #[Operand.tmp 5], argTypes := #[23] }, type := 23, pos := "law.go:66", after := #[{ on := 0, ground := Ground.data }], guard := none }) rfl (fun K hK => ?_) (by exact AllReadyH.nil)
  rw [if_pos (by rfl)]
  go_simp
  (go_at_call 9; refine (TurnK_any a _).mono ?_; rintro e wk1 ⟨rfl, hk1⟩)
  refine hK.out _ _ (by (try dsimp only); (first | assumption | exact rstep (by assumption) (by assumption))) (fun hHeld => ?_)
  clear hK K
  simp only [List.setIfInBounds_toArray, List.set_cons_zero, List.set_cons_succ]
  refine wpAnyH_ready (rs := [3]) (by as_aux_lemma => kernel_rfl) (by simp) ?_
  refine AllReadyH.cons (o := { dst := some 8, op := Op.call { callee := Callee.value (Operand.func 9), args := #[Operand.tmp 7], argTypes := #[23] }, type := 23, pos := "law.go:66", after := #[{ on := 2, ground := Ground.data }, { on := 1, ground := Ground.chain }], guard := none }) rfl (fun K hK => ?_) (by exact AllReadyH.nil)
  rw [if_pos (by rfl)]
  go_simp
  (go_at_call 9; refine (TurnK_any b _).mono ?_; rintro e wk2 ⟨rfl, hk2⟩)
  refine hK.out _ _ (by (try dsimp only); (first | assumption | exact rstep (by assumption) (by assumption))) (fun hHeld => ?_)
  clear hK K
  simp only [List.setIfInBounds_toArray, List.set_cons_zero, List.set_cons_succ]
  refine wpAnyH_take (i := 4) (oi := { dst := some 9, op := Op.binOp BinOp.eql 23 (Operand.tmp 6) (Operand.tmp 8) 23, type := 4, pos := "law.go:66", after := #[{ on := 1, ground := Ground.data }, { on := 3, ground := Ground.data }], guard := none }) (v := ?vq7) rfl (by as_aux_lemma => kernel_rfl) (by as_aux_lemma => kernel_rfl) (by as_aux_lemma => kernel_rfl) (fun _ _ _ h => h) (Or.inl ⟨by rfl, ?yq7⟩) (by assumption) ?rq7
  case yq7 => (intro w hSw; (try dsimp only at hSw); go_simp <;> with_reducible rfl)
  simp only [Act.put, List.setIfInBounds_toArray, List.set_cons_zero, List.set_cons_succ]
  refine wpAnyH_take (i := 8) (oi := { dst := some 13, op := Op.binOp BinOp.eql 4 (Operand.tmp 9) (Operand.tmp 12) 4, type := 4, pos := "law.go:66", after := #[{ on := 4, ground := Ground.data }, { on := 7, ground := Ground.data }], guard := none }) (v := ?vq8) rfl (by as_aux_lemma => kernel_rfl) (by as_aux_lemma => kernel_rfl) (by as_aux_lemma => kernel_rfl) (fun _ _ _ h => h) (Or.inl ⟨by rfl, ?yq8⟩) (by assumption) ?rq8
  case yq8 => (intro w hSw; (try dsimp only at hSw); go_simp <;> with_reducible rfl)
  simp only [Act.put, List.setIfInBounds_toArray, List.set_cons_zero, List.set_cons_succ]
  refine wpAnyH_take (i := 9) (oi := { dst := some 14, op := Op.move (Operand.tmp 13), type := 4, pos := "law.go:66", after := #[{ on := 8, ground := Ground.data }, { on := 3, ground := Ground.chain }], guard := none }) (v := ?vq9) rfl (by as_aux_lemma => kernel_rfl) (by as_aux_lemma => kernel_rfl) (by as_aux_lemma => kernel_rfl) (fun _ _ _ h => h) (Or.inl ⟨by rfl, ?yq9⟩) (by assumption) ?rq9
  case yq9 => (intro w hSw; (try dsimp only at hSw); go_simp <;> with_reducible rfl)
  simp only [Act.put, List.setIfInBounds_toArray, List.set_cons_zero, List.set_cons_succ]
  refine wpAnyH_ready (rs := [10]) (by as_aux_lemma => kernel_rfl) (by simp) ?_
  refine AllReadyH.cons (o := { dst := some 15, op := Op.call { callee := Callee.value (Operand.func 7), args := #[], argTypes := #[] }, type := 4, pos := "law.go:66", after := #[{ on := 9, ground := Ground.chain }, { on := 9, ground := Ground.guard }], guard := some (9, true) }) rfl (fun K hK => ?_) (by exact AllReadyH.nil)
  rw [if_pos (by rfl)]
  go_simp
  (go_at_call 7; refine (works_anyK _).mono ?_; rintro e wk3 ⟨rfl, hk3⟩)
  refine hK.out _ _ (by (try dsimp only); (first | assumption | exact rstep (by assumption) (by assumption))) (fun hHeld => ?_)
  clear hK K
  simp only [List.setIfInBounds_toArray, List.set_cons_zero, List.set_cons_succ]
  refine wpAnyH_take (i := 11) (oi := { dst := some 16, op := Op.pick (Operand.tmp 14) (Operand.tmp 15) (Operand.const (Value.bool false)), type := 4, pos := "law.go:66", after := #[{ on := 9, ground := Ground.data }, { on := 10, ground := Ground.data }], guard := none }) (v := ?vq11) rfl (by as_aux_lemma => kernel_rfl) (by as_aux_lemma => kernel_rfl) (by as_aux_lemma => kernel_rfl) (fun _ _ _ h => h) (Or.inl ⟨by rfl, ?yq11⟩) (by assumption) ?rq11
  case yq11 => (intro w hSw; (try dsimp only at hSw); go_simp <;> with_reducible rfl)
  simp only [Act.put, List.setIfInBounds_toArray, List.set_cons_zero, List.set_cons_succ]
  refine wpAnyH_take (i := 12) (oi := { dst := some 4, op := Op.assign (Operand.tmp 16), type := 4, pos := "law.go:66", after := #[{ on := 11, ground := Ground.data }, { on := 10, ground := Ground.chain }, { on := 0, ground := Ground.phase }, { on := 1, ground := Ground.phase }, { on := 2, ground := Ground.phase }, { on := 3, ground := Ground.phase }, { on := 4, ground := Ground.phase }, { on := 5, ground := Ground.phase }, { on := 6, ground := Ground.phase }, { on := 7, ground := Ground.phase }, { on := 8, ground := Ground.phase }, { on := 9, ground := Ground.phase }, { on := 10, ground := Ground.phase }, { on := 11, ground := Ground.phase }], guard := none }) (v := ?vq12) rfl (by as_aux_lemma => kernel_rfl) (by as_aux_lemma => kernel_rfl) (by as_aux_lemma => kernel_rfl) (fun _ _ _ h => h) (Or.inl ⟨by rfl, ?yq12⟩) (by assumption) ?rq12
  case yq12 => (intro w hSw; (try dsimp only at hSw); go_simp <;> with_reducible rfl)
  simp only [Act.put, List.setIfInBounds_toArray, List.set_cons_zero, List.set_cons_succ]
  refine wpAnyH_done (by as_aux_lemma => kernel_rfl) ?_ _
  have HE := Lib.hid (bstep hW hHeld)
  clear hA hB hW
  go_wp2_with fail
  go_ret
  exact ⟨rfl, HE.out⟩
end Go.Proofs.Ytfpkogklhigkfaa
