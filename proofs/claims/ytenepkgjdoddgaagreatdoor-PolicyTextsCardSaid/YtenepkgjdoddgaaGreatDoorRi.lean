/- policy: rules that rise. -/
import Derived.Test.YtenepkgjdoddgaaGreatDoorPd
namespace Go.Proofs.YtenepkgjdoddgaaGreatDoor
open Go.RowKit Go.Shelf

def rsg {α : Type} (f : α → α → Int) : List α → Bool
  | a :: b :: t => decide (f a b < 0) && rsg f (b :: t)
  | _ => true
theorem rsg_step {α : Type} (f : α → α → Int) (l : List α) (k : Nat) (a b : α) (ha : l[k]? = some a) (hb : l[k + 1]? = some b) : rsg f (l.drop k) = (decide (f a b < 0) && rsg f (l.drop (k + 1))) := by
  rw [List.drop_eq_getElem_cons (List.getElem?_eq_some_iff.1 ha).1, (List.getElem?_eq_some_iff.1 ha).2, List.drop_eq_getElem_cons (List.getElem?_eq_some_iff.1 hb).1, (List.getElem?_eq_some_iff.1 hb).2]
  rfl
theorem rsg_end {α : Type} (f : α → α → Int) (l : List α) (k : Nat) (h : l.length ≤ k + 1) : rsg f (l.drop k) = true := by
  have hl : (l.drop k).length ≤ 1 := by rw [List.length_drop]; omega
  match l.drop k, hl with
  | [], _ => rfl
  | [a], _ => rfl

set_option maxRecDepth 100000 in
set_option maxHeartbeats 4000000 in
theorem risingC_any (cs : List (List Nat × Nat)) (v : Value) (w : World) (hcs : ClA w v cs) :
    Calls Tryz.prog 44 #[v, .func (.func 38) #[] #[]] w fun e w' => e = .returned (.bool (rsg (fun a b : List Nat × Nat => ordN (bv a.1) (bv b.1)) cs)) ∧ Below w.heap.size w w' := by
  obtain ⟨f, hf⟩ : ∃ f : List Nat × Nat → List Nat × Nat → Int, (fun a b : List Nat × Nat => ordN (bv a.1) (bv b.1)) = f := ⟨_, rfl⟩
  rw [hf]
  obtain ⟨x, cap, rfl, hl, hcells⟩ := hcs.2
  have H0 := Lib.hid hcs
  obtain ⟨n, hn⟩ : ∃ n, cs.length = n := ⟨_, rfl⟩
  have HN := Lib.hid hn
  have HF := Lib.hid hf
  rw [hn] at hl ⊢
  clear hcs hcells hn hf
  have gw : IntKind.i64.wrap ((n : Int) - 1) = (n : Int) - 1 := IntWalk.i64_in _ (by omega)
  go_enter Tryz.func44, Tryz.ntmps44
  go_wp2_with fail
  go_loopw [9] (fun t wr => ∃ k : Nat, k ≤ n ∧ t = .int .i64 k ∧ Below w.heap.size w wr ∧ rsg f cs = rsg f (cs.drop k)) (fun t _ => n - (intOf t).toNat)
  case atStart => exact ⟨0, Nat.zero_le _, rfl, Below.refl _ _, rfl⟩
  case round =>
    obtain ⟨k, hk, rfl, hXw, hcl⟩ := hrel
    by_cases hlt : k + 1 < n
    · obtain ⟨c, hc⟩ : ∃ c, cs[k]? = some c := ⟨_, List.getElem?_eq_getElem (by have := HN.out; omega)⟩
      obtain ⟨c2, hc2⟩ : ∃ c, cs[k + 1]? = some c := ⟨_, List.getElem?_eq_getElem (by have := HN.out; omega)⟩
      have hca := (H0.out.1 c (List.mem_of_getElem? hc)).1
      have hcb := (H0.out.1 c2 (List.mem_of_getElem? hc2)).1
      obtain ⟨_, x', cap', he, _, hcells⟩ := H0.out.new hXw
      obtain ⟨b, o, hx', hbl, hrng⟩ := hcells (fun e => by rw [e] at hc; cases hc)
      injection he with e1 e2 e3
      rw [← e1] at hx'
      subst hx'
      have hr := hrng k c hc
      have hr2 := hrng (k + 1) c2 hc2
      obtain ⟨dd, hd1, hd2⟩ := und_clear
      obtain ⟨k2, hk2⟩ : ∃ q, k + 1 = q := ⟨_, rfl⟩
      rw [hk2] at hr2 hlt
      have g0 : (k : Int) < (n : Int) - 1 := by omega
      have g1 : (0 : Int) ≤ (k : Int) := by omega
      have g2 : IntKind.i64.wrap ((k : Int) + 1) = (k2 : Int) := by rw [IntWalk.i64_in _ (by omega)]; omega
      have g3 : (k : Int) < (n : Int) := by omega
      have g4 : (k2 : Int) < (n : Int) := by omega
      have g5 : (0 : Int) ≤ (k2 : Int) := by omega
      have hst := rsg_step f cs k c c2 hc hc2
      rw [hk2] at hst
      have HC := Lib.hid (fun (Y : World) => clears1_any c c2 hca hcb Y)
      have hfe : ordN (bv c.1) (bv c2.1) = f c c2 := by rw [← HF.out]
      rw [hfe] at HC
      have HS := Lib.hid (And.intro hst (And.intro hcl (And.intro hXw (And.intro hr (And.intro hr2 (And.intro hca (And.intro hcb (And.intro hd1 (And.intro hd2 hk2)))))))))
      clear hst hcl hXw hr hr2 hrng hcells e1 e2 e3 hc hc2 hca hcb hd1 hd2 hk2 hfe
      obtain ⟨i, hi⟩ : ∃ i, f c c2 = i := ⟨_, rfl⟩
      rw [hi] at HC
      have HI := Lib.hid hi
      clear hi
      go_upto_region 4 with fail
      have hS0 : Below wr.heap.size wr wr.drew := ⟨rfl, rfl, rfl, Nat.le_refl _, fun _ _ => rfl⟩
      by_cases hi0 : i < 0
      · have q1 : ¬ (0 : Int) ≤ i := by omega
        refine wp_region_held_drew (S := fun w' => Below wr.heap.size wr w') (by as_aux_lemma => kernel_rfl) hS0 (fun hHeld => ?_)
        simp only [List.size_toArray, List.length_cons, List.length_nil, Nat.reduceAdd, Array.replicate_succ, Array.replicate_zero, List.push_toArray, List.nil_append, List.cons_append]
        refine wpAnyH_take (i := 0) (oi := { dst := some 12, op := Op.move (Operand.tmp 1), type := 76, pos := "policy.go:44", after := #[], guard := none }) (v := ?vq0aa) rfl (by as_aux_lemma => kernel_rfl) (by as_aux_lemma => kernel_rfl) (by as_aux_lemma => kernel_rfl) (fun _ _ _ h => h) (Or.inl ⟨by rfl, ?yq0aa⟩) (by assumption) ?rq0aa
        case yq0aa => (intro w hSw; (try dsimp only at hSw); go_simp <;> with_reducible rfl)
        simp only [Act.put, List.setIfInBounds_toArray, List.set_cons_zero, List.set_cons_succ]
        refine wpAnyH_take (i := 1) (oi := { dst := some 13, op := Op.move (Operand.tmp 0), type := 24, pos := "policy.go:44", after := #[], guard := none }) (v := ?vq1aa) rfl (by as_aux_lemma => kernel_rfl) (by as_aux_lemma => kernel_rfl) (by as_aux_lemma => kernel_rfl) (fun _ _ _ h => h) (Or.inl ⟨by rfl, ?yq1aa⟩) (by assumption) ?rq1aa
        case yq1aa => (intro w hSw; (try dsimp only at hSw); go_simp <;> with_reducible rfl)
        simp only [Act.put, List.setIfInBounds_toArray, List.set_cons_zero, List.set_cons_succ]
        refine wpAnyH_take (i := 2) (oi := { dst := some 14, op := Op.move (Operand.tmp 5), type := 3, pos := "policy.go:44", after := #[], guard := none }) (v := ?vq2aa) rfl (by as_aux_lemma => kernel_rfl) (by as_aux_lemma => kernel_rfl) (by as_aux_lemma => kernel_rfl) (fun _ _ _ h => h) (Or.inl ⟨by rfl, ?yq2aa⟩) (by assumption) ?rq2aa
        case yq2aa => (intro w hSw; (try dsimp only at hSw); go_simp <;> with_reducible rfl)
        simp only [Act.put, List.setIfInBounds_toArray, List.set_cons_zero, List.set_cons_succ]
        refine wpAnyH_take (i := 3) (oi := { dst := some 15, op := Op.indexAddr 24 (Operand.tmp 13) (Operand.tmp 14), type := 0, pos := "policy.go:44", after := #[{ on := 1, ground := Ground.data }, { on := 2, ground := Ground.data }], guard := none }) (v := ?vq3aa) rfl (by as_aux_lemma => kernel_rfl) (by as_aux_lemma => kernel_rfl) (by as_aux_lemma => kernel_rfl) (fun _ _ _ h => h) (Or.inl ⟨by rfl, ?yq3aa⟩) (by assumption) ?rq3aa
        case yq3aa => (intro w hSw; (try dsimp only at hSw); go_simp <;> with_reducible rfl)
        simp only [Act.put, List.setIfInBounds_toArray, List.set_cons_zero, List.set_cons_succ]
        refine wpAnyH_take (i := 4) (oi := { dst := some 16, op := Op.load 72 (Operand.tmp 15), type := 72, pos := "policy.go:44", after := #[{ on := 3, ground := Ground.data }], guard := none }) (v := .agg (clC c)) rfl (by as_aux_lemma => kernel_rfl) (by as_aux_lemma => kernel_rfl) (by as_aux_lemma => kernel_rfl) (fun _ _ _ h => h) (yieldsIf_load_A (by rfl) 72 (.tmp 15) rfl (b) (o + k * 21) rfl (clC c) _ (fun w hw => range_new HS.out.2.2.2.1 hbl hw) HS.out.2.2.2.2.2.2.2.1 HS.out.2.2.2.2.2.2.2.2.1 (by rw [info_clear, clC_size HS.out.2.2.2.2.2.1])) (by assumption) ?_
        simp only [Act.put, List.setIfInBounds_toArray, List.set_cons_zero, List.set_cons_succ]
        refine wpAnyH_take (i := 5) (oi := { dst := some 17, op := Op.move (Operand.tmp 0), type := 24, pos := "policy.go:44", after := #[], guard := none }) (v := ?vq5aa) rfl (by as_aux_lemma => kernel_rfl) (by as_aux_lemma => kernel_rfl) (by as_aux_lemma => kernel_rfl) (fun _ _ _ h => h) (Or.inl ⟨by rfl, ?yq5aa⟩) (by assumption) ?rq5aa
        case yq5aa => (intro w hSw; (try dsimp only at hSw); go_simp <;> with_reducible rfl)
        simp only [Act.put, List.setIfInBounds_toArray, List.set_cons_zero, List.set_cons_succ]
        refine wpAnyH_take (i := 6) (oi := { dst := some 18, op := Op.move (Operand.tmp 5), type := 3, pos := "policy.go:44", after := #[], guard := none }) (v := ?vq6aa) rfl (by as_aux_lemma => kernel_rfl) (by as_aux_lemma => kernel_rfl) (by as_aux_lemma => kernel_rfl) (fun _ _ _ h => h) (Or.inl ⟨by rfl, ?yq6aa⟩) (by assumption) ?rq6aa
        case yq6aa => (intro w hSw; (try dsimp only at hSw); go_simp <;> with_reducible rfl)
        simp only [Act.put, List.setIfInBounds_toArray, List.set_cons_zero, List.set_cons_succ]
        refine wpAnyH_take (i := 7) (oi := { dst := some 19, op := Op.binOp BinOp.add 3 (Operand.tmp 18) (Operand.const (Value.int IntKind.i64 1)) 3, type := 3, pos := "policy.go:44", after := #[{ on := 6, ground := Ground.data }], guard := none }) (v := ?vq7aa) rfl (by as_aux_lemma => kernel_rfl) (by as_aux_lemma => kernel_rfl) (by as_aux_lemma => kernel_rfl) (fun _ _ _ h => h) (Or.inl ⟨by rfl, ?yq7aa⟩) (by assumption) ?rq7aa
        case yq7aa => (intro w hSw; (try dsimp only at hSw); go_simp <;> with_reducible rfl)
        simp only [Act.put, List.setIfInBounds_toArray, List.set_cons_zero, List.set_cons_succ]
        refine wpAnyH_take (i := 8) (oi := { dst := some 20, op := Op.indexAddr 24 (Operand.tmp 17) (Operand.tmp 19), type := 0, pos := "policy.go:44", after := #[{ on := 5, ground := Ground.data }, { on := 7, ground := Ground.data }], guard := none }) (v := ?vq8aa) rfl (by as_aux_lemma => kernel_rfl) (by as_aux_lemma => kernel_rfl) (by as_aux_lemma => kernel_rfl) (fun _ _ _ h => h) (Or.inl ⟨by rfl, ?yq8aa⟩) (by assumption) ?rq8aa
        case yq8aa => (intro w hSw; (try dsimp only at hSw); go_simp <;> with_reducible rfl)
        simp only [Act.put, List.setIfInBounds_toArray, List.set_cons_zero, List.set_cons_succ]
        refine wpAnyH_take (i := 9) (oi := { dst := some 21, op := Op.load 72 (Operand.tmp 20), type := 72, pos := "policy.go:44", after := #[{ on := 8, ground := Ground.data }], guard := none }) (v := .agg (clC c2)) rfl (by as_aux_lemma => kernel_rfl) (by as_aux_lemma => kernel_rfl) (by as_aux_lemma => kernel_rfl) (fun _ _ _ h => h) (yieldsIf_load_A (by rfl) 72 (.tmp 20) rfl (b) (o + k2 * 21) rfl (clC c2) _ (fun w hw => range_new HS.out.2.2.2.2.1 hbl hw) HS.out.2.2.2.2.2.2.2.1 HS.out.2.2.2.2.2.2.2.2.1 (by rw [info_clear, clC_size HS.out.2.2.2.2.2.2.1])) (by assumption) ?_
        simp only [Act.put, List.setIfInBounds_toArray, List.set_cons_zero, List.set_cons_succ]
        refine wpAnyH_ready (rs := [10]) (by as_aux_lemma => kernel_rfl) (by simp) ?_
        refine AllReadyH.cons (o := { dst := some 22, op := Op.call { callee := Callee.value (Operand.tmp 12), args := #[Operand.tmp 16, Operand.tmp 21], argTypes := #[72, 72] }, type := 3, pos := "policy.go:44", after := #[{ on := 0, ground := Ground.data }, { on := 4, ground := Ground.data }, { on := 9, ground := Ground.data }], guard := none }) rfl (fun K hK => ?_) (by exact AllReadyH.nil)
        rw [if_pos (by rfl)]
        go_simp
        refine (HC.out _).mono ?_
        rintro e w4 ⟨rfl, hb4⟩
        have hS4 : Below wr.heap.size wr w4 := hS0.trans hb4
        clear hb4
        refine hK.out _ _ (by (try dsimp only); (first | exact hS0 | assumption)) (fun hHeld => ?_)
        clear hK K
        simp only [List.setIfInBounds_toArray, List.set_cons_zero, List.set_cons_succ]
        refine wpAnyH_take (i := 11) (oi := { dst := some 23, op := Op.binOp BinOp.geq 3 (Operand.tmp 22) (Operand.const (Value.int IntKind.i64 0)) 3, type := 4, pos := "policy.go:44", after := #[{ on := 10, ground := Ground.data }], guard := none }) (v := ?vq11aa) rfl (by as_aux_lemma => kernel_rfl) (by as_aux_lemma => kernel_rfl) (by as_aux_lemma => kernel_rfl) (fun _ _ _ h => h) (Or.inl ⟨by rfl, ?yq11aa⟩) (by assumption) ?rq11aa
        case yq11aa => (intro w hSw; (try dsimp only at hSw); go_simp <;> with_reducible rfl)
        simp only [Act.put, List.setIfInBounds_toArray, List.set_cons_zero, List.set_cons_succ]
        refine wpAnyH_done (by as_aux_lemma => kernel_rfl) ?_ _
        clear hHeld hS0
        have HB := Lib.hid hS4
        clear hS4
        go_wp2_with fail
        obtain ⟨s1, s2, s3, s4, s5, s6, s7, s8, s9, s10⟩ := HS.out
        rw [HI.out, decide_eq_true hi0, Bool.true_and] at s1
        exact ⟨⟨k2, by omega, rfl, s3.trans (HB.out.mono s3.size), s2.trans s1⟩, by simp [intOf]; omega⟩
      · have q1 : (0 : Int) ≤ i := by omega
        refine wp_region_held_drew (S := fun w' => Below wr.heap.size wr w') (by as_aux_lemma => kernel_rfl) hS0 (fun hHeld => ?_)
        simp only [List.size_toArray, List.length_cons, List.length_nil, Nat.reduceAdd, Array.replicate_succ, Array.replicate_zero, List.push_toArray, List.nil_append, List.cons_append]
        refine wpAnyH_take (i := 0) (oi := { dst := some 12, op := Op.move (Operand.tmp 1), type := 76, pos := "policy.go:44", after := #[], guard := none }) (v := ?vq0ab) rfl (by as_aux_lemma => kernel_rfl) (by as_aux_lemma => kernel_rfl) (by as_aux_lemma => kernel_rfl) (fun _ _ _ h => h) (Or.inl ⟨by rfl, ?yq0ab⟩) (by assumption) ?rq0ab
        case yq0ab => (intro w hSw; (try dsimp only at hSw); go_simp <;> with_reducible rfl)
        simp only [Act.put, List.setIfInBounds_toArray, List.set_cons_zero, List.set_cons_succ]
        refine wpAnyH_take (i := 1) (oi := { dst := some 13, op := Op.move (Operand.tmp 0), type := 24, pos := "policy.go:44", after := #[], guard := none }) (v := ?vq1ab) rfl (by as_aux_lemma => kernel_rfl) (by as_aux_lemma => kernel_rfl) (by as_aux_lemma => kernel_rfl) (fun _ _ _ h => h) (Or.inl ⟨by rfl, ?yq1ab⟩) (by assumption) ?rq1ab
        case yq1ab => (intro w hSw; (try dsimp only at hSw); go_simp <;> with_reducible rfl)
        simp only [Act.put, List.setIfInBounds_toArray, List.set_cons_zero, List.set_cons_succ]
        refine wpAnyH_take (i := 2) (oi := { dst := some 14, op := Op.move (Operand.tmp 5), type := 3, pos := "policy.go:44", after := #[], guard := none }) (v := ?vq2ab) rfl (by as_aux_lemma => kernel_rfl) (by as_aux_lemma => kernel_rfl) (by as_aux_lemma => kernel_rfl) (fun _ _ _ h => h) (Or.inl ⟨by rfl, ?yq2ab⟩) (by assumption) ?rq2ab
        case yq2ab => (intro w hSw; (try dsimp only at hSw); go_simp <;> with_reducible rfl)
        simp only [Act.put, List.setIfInBounds_toArray, List.set_cons_zero, List.set_cons_succ]
        refine wpAnyH_take (i := 3) (oi := { dst := some 15, op := Op.indexAddr 24 (Operand.tmp 13) (Operand.tmp 14), type := 0, pos := "policy.go:44", after := #[{ on := 1, ground := Ground.data }, { on := 2, ground := Ground.data }], guard := none }) (v := ?vq3ab) rfl (by as_aux_lemma => kernel_rfl) (by as_aux_lemma => kernel_rfl) (by as_aux_lemma => kernel_rfl) (fun _ _ _ h => h) (Or.inl ⟨by rfl, ?yq3ab⟩) (by assumption) ?rq3ab
        case yq3ab => (intro w hSw; (try dsimp only at hSw); go_simp <;> with_reducible rfl)
        simp only [Act.put, List.setIfInBounds_toArray, List.set_cons_zero, List.set_cons_succ]
        refine wpAnyH_take (i := 4) (oi := { dst := some 16, op := Op.load 72 (Operand.tmp 15), type := 72, pos := "policy.go:44", after := #[{ on := 3, ground := Ground.data }], guard := none }) (v := .agg (clC c)) rfl (by as_aux_lemma => kernel_rfl) (by as_aux_lemma => kernel_rfl) (by as_aux_lemma => kernel_rfl) (fun _ _ _ h => h) (yieldsIf_load_A (by rfl) 72 (.tmp 15) rfl (b) (o + k * 21) rfl (clC c) _ (fun w hw => range_new HS.out.2.2.2.1 hbl hw) HS.out.2.2.2.2.2.2.2.1 HS.out.2.2.2.2.2.2.2.2.1 (by rw [info_clear, clC_size HS.out.2.2.2.2.2.1])) (by assumption) ?_
        simp only [Act.put, List.setIfInBounds_toArray, List.set_cons_zero, List.set_cons_succ]
        refine wpAnyH_take (i := 5) (oi := { dst := some 17, op := Op.move (Operand.tmp 0), type := 24, pos := "policy.go:44", after := #[], guard := none }) (v := ?vq5ab) rfl (by as_aux_lemma => kernel_rfl) (by as_aux_lemma => kernel_rfl) (by as_aux_lemma => kernel_rfl) (fun _ _ _ h => h) (Or.inl ⟨by rfl, ?yq5ab⟩) (by assumption) ?rq5ab
        case yq5ab => (intro w hSw; (try dsimp only at hSw); go_simp <;> with_reducible rfl)
        simp only [Act.put, List.setIfInBounds_toArray, List.set_cons_zero, List.set_cons_succ]
        refine wpAnyH_take (i := 6) (oi := { dst := some 18, op := Op.move (Operand.tmp 5), type := 3, pos := "policy.go:44", after := #[], guard := none }) (v := ?vq6ab) rfl (by as_aux_lemma => kernel_rfl) (by as_aux_lemma => kernel_rfl) (by as_aux_lemma => kernel_rfl) (fun _ _ _ h => h) (Or.inl ⟨by rfl, ?yq6ab⟩) (by assumption) ?rq6ab
        case yq6ab => (intro w hSw; (try dsimp only at hSw); go_simp <;> with_reducible rfl)
        simp only [Act.put, List.setIfInBounds_toArray, List.set_cons_zero, List.set_cons_succ]
        refine wpAnyH_take (i := 7) (oi := { dst := some 19, op := Op.binOp BinOp.add 3 (Operand.tmp 18) (Operand.const (Value.int IntKind.i64 1)) 3, type := 3, pos := "policy.go:44", after := #[{ on := 6, ground := Ground.data }], guard := none }) (v := ?vq7ab) rfl (by as_aux_lemma => kernel_rfl) (by as_aux_lemma => kernel_rfl) (by as_aux_lemma => kernel_rfl) (fun _ _ _ h => h) (Or.inl ⟨by rfl, ?yq7ab⟩) (by assumption) ?rq7ab
        case yq7ab => (intro w hSw; (try dsimp only at hSw); go_simp <;> with_reducible rfl)
        simp only [Act.put, List.setIfInBounds_toArray, List.set_cons_zero, List.set_cons_succ]
        refine wpAnyH_take (i := 8) (oi := { dst := some 20, op := Op.indexAddr 24 (Operand.tmp 17) (Operand.tmp 19), type := 0, pos := "policy.go:44", after := #[{ on := 5, ground := Ground.data }, { on := 7, ground := Ground.data }], guard := none }) (v := ?vq8ab) rfl (by as_aux_lemma => kernel_rfl) (by as_aux_lemma => kernel_rfl) (by as_aux_lemma => kernel_rfl) (fun _ _ _ h => h) (Or.inl ⟨by rfl, ?yq8ab⟩) (by assumption) ?rq8ab
        case yq8ab => (intro w hSw; (try dsimp only at hSw); go_simp <;> with_reducible rfl)
        simp only [Act.put, List.setIfInBounds_toArray, List.set_cons_zero, List.set_cons_succ]
        refine wpAnyH_take (i := 9) (oi := { dst := some 21, op := Op.load 72 (Operand.tmp 20), type := 72, pos := "policy.go:44", after := #[{ on := 8, ground := Ground.data }], guard := none }) (v := .agg (clC c2)) rfl (by as_aux_lemma => kernel_rfl) (by as_aux_lemma => kernel_rfl) (by as_aux_lemma => kernel_rfl) (fun _ _ _ h => h) (yieldsIf_load_A (by rfl) 72 (.tmp 20) rfl (b) (o + k2 * 21) rfl (clC c2) _ (fun w hw => range_new HS.out.2.2.2.2.1 hbl hw) HS.out.2.2.2.2.2.2.2.1 HS.out.2.2.2.2.2.2.2.2.1 (by rw [info_clear, clC_size HS.out.2.2.2.2.2.2.1])) (by assumption) ?_
        simp only [Act.put, List.setIfInBounds_toArray, List.set_cons_zero, List.set_cons_succ]
        refine wpAnyH_ready (rs := [10]) (by as_aux_lemma => kernel_rfl) (by simp) ?_
        refine AllReadyH.cons (o := { dst := some 22, op := Op.call { callee := Callee.value (Operand.tmp 12), args := #[Operand.tmp 16, Operand.tmp 21], argTypes := #[72, 72] }, type := 3, pos := "policy.go:44", after := #[{ on := 0, ground := Ground.data }, { on := 4, ground := Ground.data }, { on := 9, ground := Ground.data }], guard := none }) rfl (fun K hK => ?_) (by exact AllReadyH.nil)
        rw [if_pos (by rfl)]
        go_simp
        refine (HC.out _).mono ?_
        rintro e w4 ⟨rfl, hb4⟩
        have hS4 : Below wr.heap.size wr w4 := hS0.trans hb4
        clear hb4
        refine hK.out _ _ (by (try dsimp only); (first | exact hS0 | assumption)) (fun hHeld => ?_)
        clear hK K
        simp only [List.setIfInBounds_toArray, List.set_cons_zero, List.set_cons_succ]
        refine wpAnyH_take (i := 11) (oi := { dst := some 23, op := Op.binOp BinOp.geq 3 (Operand.tmp 22) (Operand.const (Value.int IntKind.i64 0)) 3, type := 4, pos := "policy.go:44", after := #[{ on := 10, ground := Ground.data }], guard := none }) (v := ?vq11ab) rfl (by as_aux_lemma => kernel_rfl) (by as_aux_lemma => kernel_rfl) (by as_aux_lemma => kernel_rfl) (fun _ _ _ h => h) (Or.inl ⟨by rfl, ?yq11ab⟩) (by assumption) ?rq11ab
        case yq11ab => (intro w hSw; (try dsimp only at hSw); go_simp <;> with_reducible rfl)
        simp only [Act.put, List.setIfInBounds_toArray, List.set_cons_zero, List.set_cons_succ]
        refine wpAnyH_done (by as_aux_lemma => kernel_rfl) ?_ _
        clear hHeld hS0
        have HB := Lib.hid hS4
        clear hS4
        go_wp2_with fail
        go_ret
        obtain ⟨s1, s2, s3, s4, s5, s6, s7, s8, s9, s10⟩ := HS.out
        rw [s2, s1, HI.out, decide_eq_false (show ¬ i < 0 by omega), Bool.false_and]
        exact ⟨rfl, s3.trans (HB.out.mono s3.size)⟩
    · have he : rsg f cs = true := by rw [hcl, rsg_end f cs k (by rw [HN.out]; omega)]
      have HE := Lib.hid (And.intro he hXw)
      have g0 : ¬ (k : Int) < (n : Int) - 1 := by omega
      clear he hcl hXw
      go_wp2_with fail
      go_ret
      rw [HE.out.1]
      exact ⟨rfl, HE.out.2⟩

set_option maxRecDepth 100000 in
set_option maxHeartbeats 4000000 in
theorem risingR_any (cs : List (List Nat × Nat × Nat)) (v : Value) (w : World) (hcs : RlA w v cs) :
    Calls Tryz.prog 45 #[v, .func (.func 39) #[] #[]] w fun e w' => e = .returned (.bool (rsg (ordR) cs)) ∧ Below w.heap.size w w' := by
  obtain ⟨f, hf⟩ : ∃ f : List Nat × Nat × Nat → List Nat × Nat × Nat → Int, (ordR) = f := ⟨_, rfl⟩
  rw [hf]
  obtain ⟨x, cap, rfl, hl, hcells⟩ := hcs.2
  have H0 := Lib.hid hcs
  obtain ⟨n, hn⟩ : ∃ n, cs.length = n := ⟨_, rfl⟩
  have HN := Lib.hid hn
  have HF := Lib.hid hf
  rw [hn] at hl ⊢
  clear hcs hcells hn hf
  have gw : IntKind.i64.wrap ((n : Int) - 1) = (n : Int) - 1 := IntWalk.i64_in _ (by omega)
  go_enter Tryz.func45, Tryz.ntmps45
  go_wp2_with fail
  go_loopw [9] (fun t wr => ∃ k : Nat, k ≤ n ∧ t = .int .i64 k ∧ Below w.heap.size w wr ∧ rsg f cs = rsg f (cs.drop k)) (fun t _ => n - (intOf t).toNat)
  case atStart => exact ⟨0, Nat.zero_le _, rfl, Below.refl _ _, rfl⟩
  case round =>
    obtain ⟨k, hk, rfl, hXw, hcl⟩ := hrel
    by_cases hlt : k + 1 < n
    · obtain ⟨c, hc⟩ : ∃ c, cs[k]? = some c := ⟨_, List.getElem?_eq_getElem (by have := HN.out; omega)⟩
      obtain ⟨c2, hc2⟩ : ∃ c, cs[k + 1]? = some c := ⟨_, List.getElem?_eq_getElem (by have := HN.out; omega)⟩
      have hca := (H0.out.1 c (List.mem_of_getElem? hc)).1
      have hcb := (H0.out.1 c2 (List.mem_of_getElem? hc2)).1
      obtain ⟨_, x', cap', he, _, hcells⟩ := H0.out.new hXw
      obtain ⟨b, o, hx', hbl, hrng⟩ := hcells (fun e => by rw [e] at hc; cases hc)
      injection he with e1 e2 e3
      rw [← e1] at hx'
      subst hx'
      have hr := hrng k c hc
      have hr2 := hrng (k + 1) c2 hc2
      obtain ⟨dd, hd1, hd2⟩ := und_release
      obtain ⟨k2, hk2⟩ : ∃ q, k + 1 = q := ⟨_, rfl⟩
      rw [hk2] at hr2 hlt
      have g0 : (k : Int) < (n : Int) - 1 := by omega
      have g1 : (0 : Int) ≤ (k : Int) := by omega
      have g2 : IntKind.i64.wrap ((k : Int) + 1) = (k2 : Int) := by rw [IntWalk.i64_in _ (by omega)]; omega
      have g3 : (k : Int) < (n : Int) := by omega
      have g4 : (k2 : Int) < (n : Int) := by omega
      have g5 : (0 : Int) ≤ (k2 : Int) := by omega
      have hst := rsg_step f cs k c c2 hc hc2
      rw [hk2] at hst
      have HC := Lib.hid (fun (Y : World) => releases1_any c c2 hca hcb Y)
      have hfe : ordR c c2 = f c c2 := by rw [← HF.out]
      rw [hfe] at HC
      have HS := Lib.hid (And.intro hst (And.intro hcl (And.intro hXw (And.intro hr (And.intro hr2 (And.intro hca (And.intro hcb (And.intro hd1 (And.intro hd2 hk2)))))))))
      clear hst hcl hXw hr hr2 hrng hcells e1 e2 e3 hc hc2 hca hcb hd1 hd2 hk2 hfe
      obtain ⟨i, hi⟩ : ∃ i, f c c2 = i := ⟨_, rfl⟩
      rw [hi] at HC
      have HI := Lib.hid hi
      clear hi
      go_upto_region 4 with fail
      have hS0 : Below wr.heap.size wr wr.drew := ⟨rfl, rfl, rfl, Nat.le_refl _, fun _ _ => rfl⟩
      by_cases hi0 : i < 0
      · have q1 : ¬ (0 : Int) ≤ i := by omega
        refine wp_region_held_drew (S := fun w' => Below wr.heap.size wr w') (by as_aux_lemma => kernel_rfl) hS0 (fun hHeld => ?_)
        simp only [List.size_toArray, List.length_cons, List.length_nil, Nat.reduceAdd, Array.replicate_succ, Array.replicate_zero, List.push_toArray, List.nil_append, List.cons_append]
        refine wpAnyH_take (i := 0) (oi := { dst := some 12, op := Op.move (Operand.tmp 1), type := 79, pos := "policy.go:44", after := #[], guard := none }) (v := ?vq0ba) rfl (by as_aux_lemma => kernel_rfl) (by as_aux_lemma => kernel_rfl) (by as_aux_lemma => kernel_rfl) (fun _ _ _ h => h) (Or.inl ⟨by rfl, ?yq0ba⟩) (by assumption) ?rq0ba
        case yq0ba => (intro w hSw; (try dsimp only at hSw); go_simp <;> with_reducible rfl)
        simp only [Act.put, List.setIfInBounds_toArray, List.set_cons_zero, List.set_cons_succ]
        refine wpAnyH_take (i := 1) (oi := { dst := some 13, op := Op.move (Operand.tmp 0), type := 25, pos := "policy.go:44", after := #[], guard := none }) (v := ?vq1ba) rfl (by as_aux_lemma => kernel_rfl) (by as_aux_lemma => kernel_rfl) (by as_aux_lemma => kernel_rfl) (fun _ _ _ h => h) (Or.inl ⟨by rfl, ?yq1ba⟩) (by assumption) ?rq1ba
        case yq1ba => (intro w hSw; (try dsimp only at hSw); go_simp <;> with_reducible rfl)
        simp only [Act.put, List.setIfInBounds_toArray, List.set_cons_zero, List.set_cons_succ]
        refine wpAnyH_take (i := 2) (oi := { dst := some 14, op := Op.move (Operand.tmp 5), type := 3, pos := "policy.go:44", after := #[], guard := none }) (v := ?vq2ba) rfl (by as_aux_lemma => kernel_rfl) (by as_aux_lemma => kernel_rfl) (by as_aux_lemma => kernel_rfl) (fun _ _ _ h => h) (Or.inl ⟨by rfl, ?yq2ba⟩) (by assumption) ?rq2ba
        case yq2ba => (intro w hSw; (try dsimp only at hSw); go_simp <;> with_reducible rfl)
        simp only [Act.put, List.setIfInBounds_toArray, List.set_cons_zero, List.set_cons_succ]
        refine wpAnyH_take (i := 3) (oi := { dst := some 15, op := Op.indexAddr 25 (Operand.tmp 13) (Operand.tmp 14), type := 0, pos := "policy.go:44", after := #[{ on := 1, ground := Ground.data }, { on := 2, ground := Ground.data }], guard := none }) (v := ?vq3ba) rfl (by as_aux_lemma => kernel_rfl) (by as_aux_lemma => kernel_rfl) (by as_aux_lemma => kernel_rfl) (fun _ _ _ h => h) (Or.inl ⟨by rfl, ?yq3ba⟩) (by assumption) ?rq3ba
        case yq3ba => (intro w hSw; (try dsimp only at hSw); go_simp <;> with_reducible rfl)
        simp only [Act.put, List.setIfInBounds_toArray, List.set_cons_zero, List.set_cons_succ]
        refine wpAnyH_take (i := 4) (oi := { dst := some 16, op := Op.load 74 (Operand.tmp 15), type := 74, pos := "policy.go:44", after := #[{ on := 3, ground := Ground.data }], guard := none }) (v := .agg (rlC c)) rfl (by as_aux_lemma => kernel_rfl) (by as_aux_lemma => kernel_rfl) (by as_aux_lemma => kernel_rfl) (fun _ _ _ h => h) (yieldsIf_load_A (by rfl) 74 (.tmp 15) rfl (b) (o + k * 22) rfl (rlC c) _ (fun w hw => range_new HS.out.2.2.2.1 hbl hw) HS.out.2.2.2.2.2.2.2.1 HS.out.2.2.2.2.2.2.2.2.1 (by rw [info_release, rlC_size HS.out.2.2.2.2.2.1])) (by assumption) ?_
        simp only [Act.put, List.setIfInBounds_toArray, List.set_cons_zero, List.set_cons_succ]
        refine wpAnyH_take (i := 5) (oi := { dst := some 17, op := Op.move (Operand.tmp 0), type := 25, pos := "policy.go:44", after := #[], guard := none }) (v := ?vq5ba) rfl (by as_aux_lemma => kernel_rfl) (by as_aux_lemma => kernel_rfl) (by as_aux_lemma => kernel_rfl) (fun _ _ _ h => h) (Or.inl ⟨by rfl, ?yq5ba⟩) (by assumption) ?rq5ba
        case yq5ba => (intro w hSw; (try dsimp only at hSw); go_simp <;> with_reducible rfl)
        simp only [Act.put, List.setIfInBounds_toArray, List.set_cons_zero, List.set_cons_succ]
        refine wpAnyH_take (i := 6) (oi := { dst := some 18, op := Op.move (Operand.tmp 5), type := 3, pos := "policy.go:44", after := #[], guard := none }) (v := ?vq6ba) rfl (by as_aux_lemma => kernel_rfl) (by as_aux_lemma => kernel_rfl) (by as_aux_lemma => kernel_rfl) (fun _ _ _ h => h) (Or.inl ⟨by rfl, ?yq6ba⟩) (by assumption) ?rq6ba
        case yq6ba => (intro w hSw; (try dsimp only at hSw); go_simp <;> with_reducible rfl)
        simp only [Act.put, List.setIfInBounds_toArray, List.set_cons_zero, List.set_cons_succ]
        refine wpAnyH_take (i := 7) (oi := { dst := some 19, op := Op.binOp BinOp.add 3 (Operand.tmp 18) (Operand.const (Value.int IntKind.i64 1)) 3, type := 3, pos := "policy.go:44", after := #[{ on := 6, ground := Ground.data }], guard := none }) (v := ?vq7ba) rfl (by as_aux_lemma => kernel_rfl) (by as_aux_lemma => kernel_rfl) (by as_aux_lemma => kernel_rfl) (fun _ _ _ h => h) (Or.inl ⟨by rfl, ?yq7ba⟩) (by assumption) ?rq7ba
        case yq7ba => (intro w hSw; (try dsimp only at hSw); go_simp <;> with_reducible rfl)
        simp only [Act.put, List.setIfInBounds_toArray, List.set_cons_zero, List.set_cons_succ]
        refine wpAnyH_take (i := 8) (oi := { dst := some 20, op := Op.indexAddr 25 (Operand.tmp 17) (Operand.tmp 19), type := 0, pos := "policy.go:44", after := #[{ on := 5, ground := Ground.data }, { on := 7, ground := Ground.data }], guard := none }) (v := ?vq8ba) rfl (by as_aux_lemma => kernel_rfl) (by as_aux_lemma => kernel_rfl) (by as_aux_lemma => kernel_rfl) (fun _ _ _ h => h) (Or.inl ⟨by rfl, ?yq8ba⟩) (by assumption) ?rq8ba
        case yq8ba => (intro w hSw; (try dsimp only at hSw); go_simp <;> with_reducible rfl)
        simp only [Act.put, List.setIfInBounds_toArray, List.set_cons_zero, List.set_cons_succ]
        refine wpAnyH_take (i := 9) (oi := { dst := some 21, op := Op.load 74 (Operand.tmp 20), type := 74, pos := "policy.go:44", after := #[{ on := 8, ground := Ground.data }], guard := none }) (v := .agg (rlC c2)) rfl (by as_aux_lemma => kernel_rfl) (by as_aux_lemma => kernel_rfl) (by as_aux_lemma => kernel_rfl) (fun _ _ _ h => h) (yieldsIf_load_A (by rfl) 74 (.tmp 20) rfl (b) (o + k2 * 22) rfl (rlC c2) _ (fun w hw => range_new HS.out.2.2.2.2.1 hbl hw) HS.out.2.2.2.2.2.2.2.1 HS.out.2.2.2.2.2.2.2.2.1 (by rw [info_release, rlC_size HS.out.2.2.2.2.2.2.1])) (by assumption) ?_
        simp only [Act.put, List.setIfInBounds_toArray, List.set_cons_zero, List.set_cons_succ]
        refine wpAnyH_ready (rs := [10]) (by as_aux_lemma => kernel_rfl) (by simp) ?_
        refine AllReadyH.cons (o := { dst := some 22, op := Op.call { callee := Callee.value (Operand.tmp 12), args := #[Operand.tmp 16, Operand.tmp 21], argTypes := #[74, 74] }, type := 3, pos := "policy.go:44", after := #[{ on := 0, ground := Ground.data }, { on := 4, ground := Ground.data }, { on := 9, ground := Ground.data }], guard := none }) rfl (fun K hK => ?_) (by exact AllReadyH.nil)
        rw [if_pos (by rfl)]
        go_simp
        refine (HC.out _).mono ?_
        rintro e w4 ⟨rfl, hb4⟩
        have hS4 : Below wr.heap.size wr w4 := hS0.trans hb4
        clear hb4
        refine hK.out _ _ (by (try dsimp only); (first | exact hS0 | assumption)) (fun hHeld => ?_)
        clear hK K
        simp only [List.setIfInBounds_toArray, List.set_cons_zero, List.set_cons_succ]
        refine wpAnyH_take (i := 11) (oi := { dst := some 23, op := Op.binOp BinOp.geq 3 (Operand.tmp 22) (Operand.const (Value.int IntKind.i64 0)) 3, type := 4, pos := "policy.go:44", after := #[{ on := 10, ground := Ground.data }], guard := none }) (v := ?vq11ba) rfl (by as_aux_lemma => kernel_rfl) (by as_aux_lemma => kernel_rfl) (by as_aux_lemma => kernel_rfl) (fun _ _ _ h => h) (Or.inl ⟨by rfl, ?yq11ba⟩) (by assumption) ?rq11ba
        case yq11ba => (intro w hSw; (try dsimp only at hSw); go_simp <;> with_reducible rfl)
        simp only [Act.put, List.setIfInBounds_toArray, List.set_cons_zero, List.set_cons_succ]
        refine wpAnyH_done (by as_aux_lemma => kernel_rfl) ?_ _
        clear hHeld hS0
        have HB := Lib.hid hS4
        clear hS4
        go_wp2_with fail
        obtain ⟨s1, s2, s3, s4, s5, s6, s7, s8, s9, s10⟩ := HS.out
        rw [HI.out, decide_eq_true hi0, Bool.true_and] at s1
        exact ⟨⟨k2, by omega, rfl, s3.trans (HB.out.mono s3.size), s2.trans s1⟩, by simp [intOf]; omega⟩
      · have q1 : (0 : Int) ≤ i := by omega
        refine wp_region_held_drew (S := fun w' => Below wr.heap.size wr w') (by as_aux_lemma => kernel_rfl) hS0 (fun hHeld => ?_)
        simp only [List.size_toArray, List.length_cons, List.length_nil, Nat.reduceAdd, Array.replicate_succ, Array.replicate_zero, List.push_toArray, List.nil_append, List.cons_append]
        refine wpAnyH_take (i := 0) (oi := { dst := some 12, op := Op.move (Operand.tmp 1), type := 79, pos := "policy.go:44", after := #[], guard := none }) (v := ?vq0bb) rfl (by as_aux_lemma => kernel_rfl) (by as_aux_lemma => kernel_rfl) (by as_aux_lemma => kernel_rfl) (fun _ _ _ h => h) (Or.inl ⟨by rfl, ?yq0bb⟩) (by assumption) ?rq0bb
        case yq0bb => (intro w hSw; (try dsimp only at hSw); go_simp <;> with_reducible rfl)
        simp only [Act.put, List.setIfInBounds_toArray, List.set_cons_zero, List.set_cons_succ]
        refine wpAnyH_take (i := 1) (oi := { dst := some 13, op := Op.move (Operand.tmp 0), type := 25, pos := "policy.go:44", after := #[], guard := none }) (v := ?vq1bb) rfl (by as_aux_lemma => kernel_rfl) (by as_aux_lemma => kernel_rfl) (by as_aux_lemma => kernel_rfl) (fun _ _ _ h => h) (Or.inl ⟨by rfl, ?yq1bb⟩) (by assumption) ?rq1bb
        case yq1bb => (intro w hSw; (try dsimp only at hSw); go_simp <;> with_reducible rfl)
        simp only [Act.put, List.setIfInBounds_toArray, List.set_cons_zero, List.set_cons_succ]
        refine wpAnyH_take (i := 2) (oi := { dst := some 14, op := Op.move (Operand.tmp 5), type := 3, pos := "policy.go:44", after := #[], guard := none }) (v := ?vq2bb) rfl (by as_aux_lemma => kernel_rfl) (by as_aux_lemma => kernel_rfl) (by as_aux_lemma => kernel_rfl) (fun _ _ _ h => h) (Or.inl ⟨by rfl, ?yq2bb⟩) (by assumption) ?rq2bb
        case yq2bb => (intro w hSw; (try dsimp only at hSw); go_simp <;> with_reducible rfl)
        simp only [Act.put, List.setIfInBounds_toArray, List.set_cons_zero, List.set_cons_succ]
        refine wpAnyH_take (i := 3) (oi := { dst := some 15, op := Op.indexAddr 25 (Operand.tmp 13) (Operand.tmp 14), type := 0, pos := "policy.go:44", after := #[{ on := 1, ground := Ground.data }, { on := 2, ground := Ground.data }], guard := none }) (v := ?vq3bb) rfl (by as_aux_lemma => kernel_rfl) (by as_aux_lemma => kernel_rfl) (by as_aux_lemma => kernel_rfl) (fun _ _ _ h => h) (Or.inl ⟨by rfl, ?yq3bb⟩) (by assumption) ?rq3bb
        case yq3bb => (intro w hSw; (try dsimp only at hSw); go_simp <;> with_reducible rfl)
        simp only [Act.put, List.setIfInBounds_toArray, List.set_cons_zero, List.set_cons_succ]
        refine wpAnyH_take (i := 4) (oi := { dst := some 16, op := Op.load 74 (Operand.tmp 15), type := 74, pos := "policy.go:44", after := #[{ on := 3, ground := Ground.data }], guard := none }) (v := .agg (rlC c)) rfl (by as_aux_lemma => kernel_rfl) (by as_aux_lemma => kernel_rfl) (by as_aux_lemma => kernel_rfl) (fun _ _ _ h => h) (yieldsIf_load_A (by rfl) 74 (.tmp 15) rfl (b) (o + k * 22) rfl (rlC c) _ (fun w hw => range_new HS.out.2.2.2.1 hbl hw) HS.out.2.2.2.2.2.2.2.1 HS.out.2.2.2.2.2.2.2.2.1 (by rw [info_release, rlC_size HS.out.2.2.2.2.2.1])) (by assumption) ?_
        simp only [Act.put, List.setIfInBounds_toArray, List.set_cons_zero, List.set_cons_succ]
        refine wpAnyH_take (i := 5) (oi := { dst := some 17, op := Op.move (Operand.tmp 0), type := 25, pos := "policy.go:44", after := #[], guard := none }) (v := ?vq5bb) rfl (by as_aux_lemma => kernel_rfl) (by as_aux_lemma => kernel_rfl) (by as_aux_lemma => kernel_rfl) (fun _ _ _ h => h) (Or.inl ⟨by rfl, ?yq5bb⟩) (by assumption) ?rq5bb
        case yq5bb => (intro w hSw; (try dsimp only at hSw); go_simp <;> with_reducible rfl)
        simp only [Act.put, List.setIfInBounds_toArray, List.set_cons_zero, List.set_cons_succ]
        refine wpAnyH_take (i := 6) (oi := { dst := some 18, op := Op.move (Operand.tmp 5), type := 3, pos := "policy.go:44", after := #[], guard := none }) (v := ?vq6bb) rfl (by as_aux_lemma => kernel_rfl) (by as_aux_lemma => kernel_rfl) (by as_aux_lemma => kernel_rfl) (fun _ _ _ h => h) (Or.inl ⟨by rfl, ?yq6bb⟩) (by assumption) ?rq6bb
        case yq6bb => (intro w hSw; (try dsimp only at hSw); go_simp <;> with_reducible rfl)
        simp only [Act.put, List.setIfInBounds_toArray, List.set_cons_zero, List.set_cons_succ]
        refine wpAnyH_take (i := 7) (oi := { dst := some 19, op := Op.binOp BinOp.add 3 (Operand.tmp 18) (Operand.const (Value.int IntKind.i64 1)) 3, type := 3, pos := "policy.go:44", after := #[{ on := 6, ground := Ground.data }], guard := none }) (v := ?vq7bb) rfl (by as_aux_lemma => kernel_rfl) (by as_aux_lemma => kernel_rfl) (by as_aux_lemma => kernel_rfl) (fun _ _ _ h => h) (Or.inl ⟨by rfl, ?yq7bb⟩) (by assumption) ?rq7bb
        case yq7bb => (intro w hSw; (try dsimp only at hSw); go_simp <;> with_reducible rfl)
        simp only [Act.put, List.setIfInBounds_toArray, List.set_cons_zero, List.set_cons_succ]
        refine wpAnyH_take (i := 8) (oi := { dst := some 20, op := Op.indexAddr 25 (Operand.tmp 17) (Operand.tmp 19), type := 0, pos := "policy.go:44", after := #[{ on := 5, ground := Ground.data }, { on := 7, ground := Ground.data }], guard := none }) (v := ?vq8bb) rfl (by as_aux_lemma => kernel_rfl) (by as_aux_lemma => kernel_rfl) (by as_aux_lemma => kernel_rfl) (fun _ _ _ h => h) (Or.inl ⟨by rfl, ?yq8bb⟩) (by assumption) ?rq8bb
        case yq8bb => (intro w hSw; (try dsimp only at hSw); go_simp <;> with_reducible rfl)
        simp only [Act.put, List.setIfInBounds_toArray, List.set_cons_zero, List.set_cons_succ]
        refine wpAnyH_take (i := 9) (oi := { dst := some 21, op := Op.load 74 (Operand.tmp 20), type := 74, pos := "policy.go:44", after := #[{ on := 8, ground := Ground.data }], guard := none }) (v := .agg (rlC c2)) rfl (by as_aux_lemma => kernel_rfl) (by as_aux_lemma => kernel_rfl) (by as_aux_lemma => kernel_rfl) (fun _ _ _ h => h) (yieldsIf_load_A (by rfl) 74 (.tmp 20) rfl (b) (o + k2 * 22) rfl (rlC c2) _ (fun w hw => range_new HS.out.2.2.2.2.1 hbl hw) HS.out.2.2.2.2.2.2.2.1 HS.out.2.2.2.2.2.2.2.2.1 (by rw [info_release, rlC_size HS.out.2.2.2.2.2.2.1])) (by assumption) ?_
        simp only [Act.put, List.setIfInBounds_toArray, List.set_cons_zero, List.set_cons_succ]
        refine wpAnyH_ready (rs := [10]) (by as_aux_lemma => kernel_rfl) (by simp) ?_
        refine AllReadyH.cons (o := { dst := some 22, op := Op.call { callee := Callee.value (Operand.tmp 12), args := #[Operand.tmp 16, Operand.tmp 21], argTypes := #[74, 74] }, type := 3, pos := "policy.go:44", after := #[{ on := 0, ground := Ground.data }, { on := 4, ground := Ground.data }, { on := 9, ground := Ground.data }], guard := none }) rfl (fun K hK => ?_) (by exact AllReadyH.nil)
        rw [if_pos (by rfl)]
        go_simp
        refine (HC.out _).mono ?_
        rintro e w4 ⟨rfl, hb4⟩
        have hS4 : Below wr.heap.size wr w4 := hS0.trans hb4
        clear hb4
        refine hK.out _ _ (by (try dsimp only); (first | exact hS0 | assumption)) (fun hHeld => ?_)
        clear hK K
        simp only [List.setIfInBounds_toArray, List.set_cons_zero, List.set_cons_succ]
        refine wpAnyH_take (i := 11) (oi := { dst := some 23, op := Op.binOp BinOp.geq 3 (Operand.tmp 22) (Operand.const (Value.int IntKind.i64 0)) 3, type := 4, pos := "policy.go:44", after := #[{ on := 10, ground := Ground.data }], guard := none }) (v := ?vq11bb) rfl (by as_aux_lemma => kernel_rfl) (by as_aux_lemma => kernel_rfl) (by as_aux_lemma => kernel_rfl) (fun _ _ _ h => h) (Or.inl ⟨by rfl, ?yq11bb⟩) (by assumption) ?rq11bb
        case yq11bb => (intro w hSw; (try dsimp only at hSw); go_simp <;> with_reducible rfl)
        simp only [Act.put, List.setIfInBounds_toArray, List.set_cons_zero, List.set_cons_succ]
        refine wpAnyH_done (by as_aux_lemma => kernel_rfl) ?_ _
        clear hHeld hS0
        have HB := Lib.hid hS4
        clear hS4
        go_wp2_with fail
        go_ret
        obtain ⟨s1, s2, s3, s4, s5, s6, s7, s8, s9, s10⟩ := HS.out
        rw [s2, s1, HI.out, decide_eq_false (show ¬ i < 0 by omega), Bool.false_and]
        exact ⟨rfl, s3.trans (HB.out.mono s3.size)⟩
    · have he : rsg f cs = true := by rw [hcl, rsg_end f cs k (by rw [HN.out]; omega)]
      have HE := Lib.hid (And.intro he hXw)
      have g0 : ¬ (k : Int) < (n : Int) - 1 := by omega
      clear he hcl hXw
      go_wp2_with fail
      go_ret
      rw [HE.out.1]
      exact ⟨rfl, HE.out.2⟩
end Go.Proofs.YtenepkgjdoddgaaGreatDoor
