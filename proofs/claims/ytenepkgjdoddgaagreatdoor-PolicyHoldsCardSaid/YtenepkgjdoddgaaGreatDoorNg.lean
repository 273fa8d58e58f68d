/- policy's laws: rules compared one by one; Same. -/
import Derived.Test.YtenepkgjdoddgaaGreatDoorNe
import Derived.Test.YtenepkgjdoddgaaGreatDoorPc
namespace Go.Proofs.YtenepkgjdoddgaaGreatDoor
open Go.RowKit Go.Shelf

set_option maxRecDepth 100000 in
set_option maxHeartbeats 4000000 in
theorem sequalC_any (cs es : List (List Nat × Nat)) (v u : Value) (w : World) (hc : ClA w v cs) (he : ClA w u es) :
    Calls Tryz.prog 58 #[v, u] w fun e w' => e = .returned (.bool (decide (cs = es))) ∧ Below w.heap.size w w' := by
  have HC := Lib.hid (And.intro hc he)
  obtain ⟨_, x1, c1, rfl, hl1, hr1⟩ := hc
  obtain ⟨_, x2, c2, rfl, hl2, hr2⟩ := he
  obtain ⟨n1, hn1⟩ : ∃ n, cs.length = n := ⟨_, rfl⟩
  obtain ⟨n2, hn2⟩ : ∃ n, es.length = n := ⟨_, rfl⟩
  have HN := Lib.hid (And.intro hn1 hn2)
  have HR := Lib.hid (And.intro hr1 hr2)
  rw [hn1] at hl1 ⊢
  rw [hn2] at hl2 ⊢
  clear hr1 hr2 hn1 hn2
  by_cases hl : n1 = n2
  · subst hl
    have g9 : ((n1 : Int) == (n1 : Int)) = true := by simp
    go_enter Tryz.func58, Tryz.ntmps58
    go_wp2_with fail
    go_loopw [13] (fun t wr => ∃ k : Nat, k ≤ n1 ∧ t = .int .i64 k ∧ Below w.heap.size w wr ∧ cs.take k = es.take k) (fun t _ => n1 - (intOf t).toNat)
    case atStart => exact ⟨0, Nat.zero_le _, rfl, Below.refl _ _, rfl⟩
    case round =>
      obtain ⟨k, hk, rfl, hXw, htk⟩ := hrel
      by_cases hlt : k < n1
      · obtain ⟨c, hc⟩ : ∃ c, cs[k]? = some c := ⟨_, List.getElem?_eq_getElem (by have := HN.out; omega)⟩
        obtain ⟨e, he⟩ : ∃ c, es[k]? = some c := ⟨_, List.getElem?_eq_getElem (by have := HN.out; omega)⟩
        have hca := (HC.out.1.1 c (List.mem_of_getElem? hc)).1
        have hea := (HC.out.2.1 e (List.mem_of_getElem? he)).1
        obtain ⟨b1, o1, rfl, hb1, hr1⟩ := HR.out.1 (fun q => by rw [q] at hc; cases hc)
        obtain ⟨b2, o2, rfl, hb2, hr2⟩ := HR.out.2 (fun q => by rw [q] at he; cases he)
        have g0 : (k : Int) < (n1 : Int) := by omega
        have g1 : (0 : Int) ≤ (k : Int) := by omega
        have g2 : IntKind.i64.wrap ((k : Int) + 1) = ((k + 1 : Nat) : Int) := IntWalk.i64_in _ (by omega)
        have HS := Lib.hid (And.intro (range_new (hr1 k c hc) hb1 (hXw.mono (Nat.le_refl _))) (And.intro (range_new (hr2 k e he) hb2 hXw) (And.intro hca (And.intro hea (And.intro hXw (And.intro htk (And.intro hc he)))))))
        have hQ := neq_clear hca hea
        clear hr1 hr2 hca hea htk hc he hb1 hb2 hXw HR HC
        by_cases hce : c = e
        · rw [decide_eq_true hce] at hQ
          have HE := Lib.hid hce
          clear hce
          go_upto_region 6 with fail
          refine wp_region_held_drew (S := fun w' => ∀ p, w'.cell? p = wr.cell? p) (by as_aux_lemma => kernel_rfl) (fun _ => rfl) (fun hHeld => ?_)
          simp only [List.size_toArray, List.length_cons, List.length_nil, Nat.reduceAdd, Array.replicate_succ, Array.replicate_zero, List.push_toArray, List.nil_append, List.cons_append]
          refine wpAnyH_take (i := 0) (oi := { dst := some 16, op := Op.move (Operand.tmp 0), type := 24, pos := "slices.go:25", after := #[], guard := none }) (v := ?vq0a) rfl (by as_aux_lemma => kernel_rfl) (by as_aux_lemma => kernel_rfl) (by as_aux_lemma => kernel_rfl) (fun _ _ _ h => h) (Or.inl ⟨by rfl, ?yq0a⟩) (by assumption) ?rq0a
          case yq0a => (intro w hSw; (try dsimp only at hSw); go_simp <;> with_reducible rfl)
          simp only [Act.put, List.setIfInBounds_toArray, List.set_cons_zero, List.set_cons_succ]
          refine wpAnyH_take (i := 1) (oi := { dst := some 17, op := Op.move (Operand.tmp 5), type := 3, pos := "slices.go:25", after := #[], guard := none }) (v := ?vq1a) rfl (by as_aux_lemma => kernel_rfl) (by as_aux_lemma => kernel_rfl) (by as_aux_lemma => kernel_rfl) (fun _ _ _ h => h) (Or.inl ⟨by rfl, ?yq1a⟩) (by assumption) ?rq1a
          case yq1a => (intro w hSw; (try dsimp only at hSw); go_simp <;> with_reducible rfl)
          simp only [Act.put, List.setIfInBounds_toArray, List.set_cons_zero, List.set_cons_succ]
          refine wpAnyH_take (i := 2) (oi := { dst := some 18, op := Op.indexAddr 24 (Operand.tmp 16) (Operand.tmp 17), type := 0, pos := "slices.go:25", after := #[{ on := 0, ground := Ground.data }, { on := 1, ground := Ground.data }], guard := none }) (v := ?vq2a) rfl (by as_aux_lemma => kernel_rfl) (by as_aux_lemma => kernel_rfl) (by as_aux_lemma => kernel_rfl) (fun _ _ _ h => h) (Or.inl ⟨by rfl, ?yq2a⟩) (by assumption) ?rq2a
          case yq2a => (intro w hSw; (try dsimp only at hSw); go_simp <;> with_reducible rfl)
          simp only [Act.put, List.setIfInBounds_toArray, List.set_cons_zero, List.set_cons_succ]
          refine wpAnyH_take (i := 3) (oi := { dst := some 19, op := Op.load 72 (Operand.tmp 18), type := 72, pos := "slices.go:25", after := #[{ on := 2, ground := Ground.data }], guard := none }) (v := .agg (clC c)) rfl (by as_aux_lemma => kernel_rfl) (by as_aux_lemma => kernel_rfl) (by as_aux_lemma => kernel_rfl) (fun _ _ _ h => h) (yieldsIf_load_A (by rfl) 72 (.tmp 18) rfl (b1) (o1 + k * 21) rfl (clC c) _ (fun wS hw => range_same HS.out.1 hw) undqc rfl (by rw [info_clear, clC_size HS.out.2.2.1])) (by assumption) ?_
          simp only [Act.put, List.setIfInBounds_toArray, List.set_cons_zero, List.set_cons_succ]
          refine wpAnyH_take (i := 4) (oi := { dst := some 20, op := Op.move (Operand.tmp 1), type := 24, pos := "slices.go:25", after := #[], guard := none }) (v := ?vq4a) rfl (by as_aux_lemma => kernel_rfl) (by as_aux_lemma => kernel_rfl) (by as_aux_lemma => kernel_rfl) (fun _ _ _ h => h) (Or.inl ⟨by rfl, ?yq4a⟩) (by assumption) ?rq4a
          case yq4a => (intro w hSw; (try dsimp only at hSw); go_simp <;> with_reducible rfl)
          simp only [Act.put, List.setIfInBounds_toArray, List.set_cons_zero, List.set_cons_succ]
          refine wpAnyH_take (i := 5) (oi := { dst := some 21, op := Op.move (Operand.tmp 5), type := 3, pos := "slices.go:25", after := #[], guard := none }) (v := ?vq5a) rfl (by as_aux_lemma => kernel_rfl) (by as_aux_lemma => kernel_rfl) (by as_aux_lemma => kernel_rfl) (fun _ _ _ h => h) (Or.inl ⟨by rfl, ?yq5a⟩) (by assumption) ?rq5a
          case yq5a => (intro w hSw; (try dsimp only at hSw); go_simp <;> with_reducible rfl)
          simp only [Act.put, List.setIfInBounds_toArray, List.set_cons_zero, List.set_cons_succ]
          refine wpAnyH_take (i := 6) (oi := { dst := some 22, op := Op.indexAddr 24 (Operand.tmp 20) (Operand.tmp 21), type := 0, pos := "slices.go:25", after := #[{ on := 4, ground := Ground.data }, { on := 5, ground := Ground.data }], guard := none }) (v := ?vq6a) rfl (by as_aux_lemma => kernel_rfl) (by as_aux_lemma => kernel_rfl) (by as_aux_lemma => kernel_rfl) (fun _ _ _ h => h) (Or.inl ⟨by rfl, ?yq6a⟩) (by assumption) ?rq6a
          case yq6a => (intro w hSw; (try dsimp only at hSw); go_simp <;> with_reducible rfl)
          simp only [Act.put, List.setIfInBounds_toArray, List.set_cons_zero, List.set_cons_succ]
          refine wpAnyH_take (i := 7) (oi := { dst := some 23, op := Op.load 72 (Operand.tmp 22), type := 72, pos := "slices.go:25", after := #[{ on := 6, ground := Ground.data }], guard := none }) (v := .agg (clC e)) rfl (by as_aux_lemma => kernel_rfl) (by as_aux_lemma => kernel_rfl) (by as_aux_lemma => kernel_rfl) (fun _ _ _ h => h) (yieldsIf_load_A (by rfl) 72 (.tmp 22) rfl (b2) (o2 + k * 21) rfl (clC e) _ (fun wS hw => range_same HS.out.2.1 hw) undqc rfl (by rw [info_clear, clC_size HS.out.2.2.2.1])) (by assumption) ?_
          simp only [Act.put, List.setIfInBounds_toArray, List.set_cons_zero, List.set_cons_succ]
          refine wpAnyH_take (i := 8) (oi := { dst := some 24, op := Op.binOp BinOp.neq 72 (Operand.tmp 19) (Operand.tmp 23) 72, type := 4, pos := "slices.go:25", after := #[{ on := 3, ground := Ground.data }, { on := 7, ground := Ground.data }], guard := none }) (v := ?vq8a) rfl (by as_aux_lemma => kernel_rfl) (by as_aux_lemma => kernel_rfl) (by as_aux_lemma => kernel_rfl) (fun _ _ _ h => h) (Or.inl ⟨by rfl, ?yq8a⟩) (by assumption) ?rq8a
          case yq8a => (intro w hSw; (try dsimp only at hSw); go_simp <;> with_reducible rfl)
          simp only [Act.put, List.setIfInBounds_toArray, List.set_cons_zero, List.set_cons_succ]
          refine wpAnyH_done (by as_aux_lemma => kernel_rfl) ?_ _
          clear hHeld hQ
          go_wp2_with fail
          obtain ⟨_, _, _, _, s5, s6, s7, s8⟩ := HS.out
          exact ⟨⟨k + 1, by omega, congrArg (Value.int .i64) (by omega), s5.trans ⟨rfl, rfl, rfl, Nat.le_refl _, fun _ _ => rfl⟩, by rw [List.take_add_one, List.take_add_one, s6, s7, s8, HE.out]⟩, by simp [intOf]; omega⟩
        · rw [decide_eq_false hce] at hQ
          have HE := Lib.hid hce
          clear hce
          go_upto_region 6 with fail
          refine wp_region_held_drew (S := fun w' => ∀ p, w'.cell? p = wr.cell? p) (by as_aux_lemma => kernel_rfl) (fun _ => rfl) (fun hHeld => ?_)
          simp only [List.size_toArray, List.length_cons, List.length_nil, Nat.reduceAdd, Array.replicate_succ, Array.replicate_zero, List.push_toArray, List.nil_append, List.cons_append]
          refine wpAnyH_take (i := 0) (oi := { dst := some 16, op := Op.move (Operand.tmp 0), type := 24, pos := "slices.go:25", after := #[], guard := none }) (v := ?vq0b) rfl (by as_aux_lemma => kernel_rfl) (by as_aux_lemma => kernel_rfl) (by as_aux_lemma => kernel_rfl) (fun _ _ _ h => h) (Or.inl ⟨by rfl, ?yq0b⟩) (by assumption) ?rq0b
          case yq0b => (intro w hSw; (try dsimp only at hSw); go_simp <;> with_reducible rfl)
          simp only [Act.put, List.setIfInBounds_toArray, List.set_cons_zero, List.set_cons_succ]
          refine wpAnyH_take (i := 1) (oi := { dst := some 17, op := Op.move (Operand.tmp 5), type := 3, pos := "slices.go:25", after := #[], guard := none }) (v := ?vq1b) rfl (by as_aux_lemma => kernel_rfl) (by as_aux_lemma => kernel_rfl) (by as_aux_lemma => kernel_rfl) (fun _ _ _ h => h) (Or.inl ⟨by rfl, ?yq1b⟩) (by assumption) ?rq1b
          case yq1b => (intro w hSw; (try dsimp only at hSw); go_simp <;> with_reducible rfl)
          simp only [Act.put, List.setIfInBounds_toArray, List.set_cons_zero, List.set_cons_succ]
          refine wpAnyH_take (i := 2) (oi := { dst := some 18, op := Op.indexAddr 24 (Operand.tmp 16) (Operand.tmp 17), type := 0, pos := "slices.go:25", after := #[{ on := 0, ground := Ground.data }, { on := 1, ground := Ground.data }], guard := none }) (v := ?vq2b) rfl (by as_aux_lemma => kernel_rfl) (by as_aux_lemma => kernel_rfl) (by as_aux_lemma => kernel_rfl) (fun _ _ _ h => h) (Or.inl ⟨by rfl, ?yq2b⟩) (by assumption) ?rq2b
          case yq2b => (intro w hSw; (try dsimp only at hSw); go_simp <;> with_reducible rfl)
          simp only [Act.put, List.setIfInBounds_toArray, List.set_cons_zero, List.set_cons_succ]
          refine wpAnyH_take (i := 3) (oi := { dst := some 19, op := Op.load 72 (Operand.tmp 18), type := 72, pos := "slices.go:25", after := #[{ on := 2, ground := Ground.data }], guard := none }) (v := .agg (clC c)) rfl (by as_aux_lemma => kernel_rfl) (by as_aux_lemma => kernel_rfl) (by as_aux_lemma => kernel_rfl) (fun _ _ _ h => h) (yieldsIf_load_A (by rfl) 72 (.tmp 18) rfl (b1) (o1 + k * 21) rfl (clC c) _ (fun wS hw => range_same HS.out.1 hw) undqc rfl (by rw [info_clear, clC_size HS.out.2.2.1])) (by assumption) ?_
          simp only [Act.put, List.setIfInBounds_toArray, List.set_cons_zero, List.set_cons_succ]
          refine wpAnyH_take (i := 4) (oi := { dst := some 20, op := Op.move (Operand.tmp 1), type := 24, pos := "slices.go:25", after := #[], guard := none }) (v := ?vq4b) rfl (by as_aux_lemma => kernel_rfl) (by as_aux_lemma => kernel_rfl) (by as_aux_lemma => kernel_rfl) (fun _ _ _ h => h) (Or.inl ⟨by rfl, ?yq4b⟩) (by assumption) ?rq4b
          case yq4b => (intro w hSw; (try dsimp only at hSw); go_simp <;> with_reducible rfl)
          simp only [Act.put, List.setIfInBounds_toArray, List.set_cons_zero, List.set_cons_succ]
          refine wpAnyH_take (i := 5) (oi := { dst := some 21, op := Op.move (Operand.tmp 5), type := 3, pos := "slices.go:25", after := #[], guard := none }) (v := ?vq5b) rfl (by as_aux_lemma => kernel_rfl) (by as_aux_lemma => kernel_rfl) (by as_aux_lemma => kernel_rfl) (fun _ _ _ h => h) (Or.inl ⟨by rfl, ?yq5b⟩) (by assumption) ?rq5b
          case yq5b => (intro w hSw; (try dsimp only at hSw); go_simp <;> with_reducible rfl)
          simp only [Act.put, List.setIfInBounds_toArray, List.set_cons_zero, List.set_cons_succ]
          refine wpAnyH_take (i := 6) (oi := { dst := some 22, op := Op.indexAddr 24 (Operand.tmp 20) (Operand.tmp 21), type := 0, pos := "slices.go:25", after := #[{ on := 4, ground := Ground.data }, { on := 5, ground := Ground.data }], guard := none }) (v := ?vq6b) rfl (by as_aux_lemma => kernel_rfl) (by as_aux_lemma => kernel_rfl) (by as_aux_lemma => kernel_rfl) (fun _ _ _ h => h) (Or.inl ⟨by rfl, ?yq6b⟩) (by assumption) ?rq6b
          case yq6b => (intro w hSw; (try dsimp only at hSw); go_simp <;> with_reducible rfl)
          simp only [Act.put, List.setIfInBounds_toArray, List.set_cons_zero, List.set_cons_succ]
          refine wpAnyH_take (i := 7) (oi := { dst := some 23, op := Op.load 72 (Operand.tmp 22), type := 72, pos := "slices.go:25", after := #[{ on := 6, ground := Ground.data }], guard := none }) (v := .agg (clC e)) rfl (by as_aux_lemma => kernel_rfl) (by as_aux_lemma => kernel_rfl) (by as_aux_lemma => kernel_rfl) (fun _ _ _ h => h) (yieldsIf_load_A (by rfl) 72 (.tmp 22) rfl (b2) (o2 + k * 21) rfl (clC e) _ (fun wS hw => range_same HS.out.2.1 hw) undqc rfl (by rw [info_clear, clC_size HS.out.2.2.2.1])) (by assumption) ?_
          simp only [Act.put, List.setIfInBounds_toArray, List.set_cons_zero, List.set_cons_succ]
          refine wpAnyH_take (i := 8) (oi := { dst := some 24, op := Op.binOp BinOp.neq 72 (Operand.tmp 19) (Operand.tmp 23) 72, type := 4, pos := "slices.go:25", after := #[{ on := 3, ground := Ground.data }, { on := 7, ground := Ground.data }], guard := none }) (v := ?vq8b) rfl (by as_aux_lemma => kernel_rfl) (by as_aux_lemma => kernel_rfl) (by as_aux_lemma => kernel_rfl) (fun _ _ _ h => h) (Or.inl ⟨by rfl, ?yq8b⟩) (by assumption) ?rq8b
          case yq8b => (intro w hSw; (try dsimp only at hSw); go_simp <;> with_reducible rfl)
          simp only [Act.put, List.setIfInBounds_toArray, List.set_cons_zero, List.set_cons_succ]
          refine wpAnyH_done (by as_aux_lemma => kernel_rfl) ?_ _
          clear hHeld hQ
          go_wp2_with fail
          go_ret
          obtain ⟨_, _, _, _, s5, s6, s7, s8⟩ := HS.out
          rw [decide_eq_false (fun q => HE.out (Option.some.inj (by rw [← s7, ← s8, q])))]
          exact ⟨rfl, s5.trans ⟨rfl, rfl, rfl, Nat.le_refl _, fun _ _ => rfl⟩⟩
      · obtain rfl : n1 = k := by omega
        have he : cs = es := by
          rw [List.take_of_length_le (by rw [HN.out.1]; exact Nat.le_refl _), List.take_of_length_le (by rw [HN.out.2]; exact Nat.le_refl _)] at htk
          exact htk
        have HE := Lib.hid (And.intro he hXw)
        clear htk he hXw HR HC
        go_wp2_with fail
        go_ret
        rw [decide_eq_true HE.out.1]
        exact ⟨rfl, HE.out.2⟩
  · have g9 : ((n1 : Int) == (n2 : Int)) = false := by simp; omega
    have hne : cs ≠ es := fun e => hl (by rw [← HN.out.1, ← HN.out.2, e])
    rw [decide_eq_false hne]
    clear hne hl
    go_enter Tryz.func58, Tryz.ntmps58
    go_wp2_with fail
    go_ret
    exact ⟨rfl, Below.refl _ _⟩

set_option maxRecDepth 100000 in
set_option maxHeartbeats 4000000 in
theorem sequalR_any (cs es : List (List Nat × Nat × Nat)) (v u : Value) (w : World) (hc : RlA w v cs) (he : RlA w u es) :
    Calls Tryz.prog 59 #[v, u] w fun e w' => e = .returned (.bool (decide (cs = es))) ∧ Below w.heap.size w w' := by
  have HC := Lib.hid (And.intro hc he)
  obtain ⟨_, x1, c1, rfl, hl1, hr1⟩ := hc
  obtain ⟨_, x2, c2, rfl, hl2, hr2⟩ := he
  obtain ⟨n1, hn1⟩ : ∃ n, cs.length = n := ⟨_, rfl⟩
  obtain ⟨n2, hn2⟩ : ∃ n, es.length = n := ⟨_, rfl⟩
  have HN := Lib.hid (And.intro hn1 hn2)
  have HR := Lib.hid (And.intro hr1 hr2)
  rw [hn1] at hl1 ⊢
  rw [hn2] at hl2 ⊢
  clear hr1 hr2 hn1 hn2
  by_cases hl : n1 = n2
  · subst hl
    have g9 : ((n1 : Int) == (n1 : Int)) = true := by simp
    go_enter Tryz.func59, Tryz.ntmps59
    go_wp2_with fail
    go_loopw [13] (fun t wr => ∃ k : Nat, k ≤ n1 ∧ t = .int .i64 k ∧ Below w.heap.size w wr ∧ cs.take k = es.take k) (fun t _ => n1 - (intOf t).toNat)
    case atStart => exact ⟨0, Nat.zero_le _, rfl, Below.refl _ _, rfl⟩
    case round =>
      obtain ⟨k, hk, rfl, hXw, htk⟩ := hrel
      by_cases hlt : k < n1
      · obtain ⟨c, hc⟩ : ∃ c, cs[k]? = some c := ⟨_, List.getElem?_eq_getElem (by have := HN.out; omega)⟩
        obtain ⟨e, he⟩ : ∃ c, es[k]? = some c := ⟨_, List.getElem?_eq_getElem (by have := HN.out; omega)⟩
        have hca := (HC.out.1.1 c (List.mem_of_getElem? hc)).1
        have hea := (HC.out.2.1 e (List.mem_of_getElem? he)).1
        obtain ⟨b1, o1, rfl, hb1, hr1⟩ := HR.out.1 (fun q => by rw [q] at hc; cases hc)
        obtain ⟨b2, o2, rfl, hb2, hr2⟩ := HR.out.2 (fun q => by rw [q] at he; cases he)
        have g0 : (k : Int) < (n1 : Int) := by omega
        have g1 : (0 : Int) ≤ (k : Int) := by omega
        have g2 : IntKind.i64.wrap ((k : Int) + 1) = ((k + 1 : Nat) : Int) := IntWalk.i64_in _ (by omega)
        have HS := Lib.hid (And.intro (range_new (hr1 k c hc) hb1 (hXw.mono (Nat.le_refl _))) (And.intro (range_new (hr2 k e he) hb2 hXw) (And.intro hca (And.intro hea (And.intro hXw (And.intro htk (And.intro hc he)))))))
        have hQ := neq_release hca hea
        clear hr1 hr2 hca hea htk hc he hb1 hb2 hXw HR HC
        by_cases hce : c = e
        · rw [decide_eq_true hce] at hQ
          have HE := Lib.hid hce
          clear hce
          go_upto_region 6 with fail
          refine wp_region_held_drew (S := fun w' => ∀ p, w'.cell? p = wr.cell? p) (by as_aux_lemma => kernel_rfl) (fun _ => rfl) (fun hHeld => ?_)
          simp only [List.size_toArray, List.length_cons, List.length_nil, Nat.reduceAdd, Array.replicate_succ, Array.replicate_zero, List.push_toArray, List.nil_append, List.cons_append]
          refine wpAnyH_take (i := 0) (oi := { dst := some 16, op := Op.move (Operand.tmp 0), type := 25, pos := "slices.go:25", after := #[], guard := none }) (v := ?vq0a) rfl (by as_aux_lemma => kernel_rfl) (by as_aux_lemma => kernel_rfl) (by as_aux_lemma => kernel_rfl) (fun _ _ _ h => h) (Or.inl ⟨by rfl, ?yq0a⟩) (by assumption) ?rq0a
          case yq0a => (intro w hSw; (try dsimp only at hSw); go_simp <;> with_reducible rfl)
          simp only [Act.put, List.setIfInBounds_toArray, List.set_cons_zero, List.set_cons_succ]
          refine wpAnyH_take (i := 1) (oi := { dst := some 17, op := Op.move (Operand.tmp 5), type := 3, pos := "slices.go:25", after := #[], guard := none }) (v := ?vq1a) rfl (by as_aux_lemma => kernel_rfl) (by as_aux_lemma => kernel_rfl) (by as_aux_lemma => kernel_rfl) (fun _ _ _ h => h) (Or.inl ⟨by rfl, ?yq1a⟩) (by assumption) ?rq1a
          case yq1a => (intro w hSw; (try dsimp only at hSw); go_simp <;> with_reducible rfl)
          simp only [Act.put, List.setIfInBounds_toArray, List.set_cons_zero, List.set_cons_succ]
          refine wpAnyH_take (i := 2) (oi := { dst := some 18, op := Op.indexAddr 25 (Operand.tmp 16) (Operand.tmp 17), type := 0, pos := "slices.go:25", after := #[{ on := 0, ground := Ground.data }, { on := 1, ground := Ground.data }], guard := none }) (v := ?vq2a) rfl (by as_aux_lemma => kernel_rfl) (by as_aux_lemma => kernel_rfl) (by as_aux_lemma => kernel_rfl) (fun _ _ _ h => h) (Or.inl ⟨by rfl, ?yq2a⟩) (by assumption) ?rq2a
          case yq2a => (intro w hSw; (try dsimp only at hSw); go_simp <;> with_reducible rfl)
          simp only [Act.put, List.setIfInBounds_toArray, List.set_cons_zero, List.set_cons_succ]
          refine wpAnyH_take (i := 3) (oi := { dst := some 19, op := Op.load 74 (Operand.tmp 18), type := 74, pos := "slices.go:25", after := #[{ on := 2, ground := Ground.data }], guard := none }) (v := .agg (rlC c)) rfl (by as_aux_lemma => kernel_rfl) (by as_aux_lemma => kernel_rfl) (by as_aux_lemma => kernel_rfl) (fun _ _ _ h => h) (yieldsIf_load_A (by rfl) 74 (.tmp 18) rfl (b1) (o1 + k * 22) rfl (rlC c) _ (fun wS hw => range_same HS.out.1 hw) undqr rfl (by rw [info_release, rlC_size HS.out.2.2.1])) (by assumption) ?_
          simp only [Act.put, List.setIfInBounds_toArray, List.set_cons_zero, List.set_cons_succ]
          refine wpAnyH_take (i := 4) (oi := { dst := some 20, op := Op.move (Operand.tmp 1), type := 25, pos := "slices.go:25", after := #[], guard := none }) (v := ?vq4a) rfl (by as_aux_lemma => kernel_rfl) (by as_aux_lemma => kernel_rfl) (by as_aux_lemma => kernel_rfl) (fun _ _ _ h => h) (Or.inl ⟨by rfl, ?yq4a⟩) (by assumption) ?rq4a
          case yq4a => (intro w hSw; (try dsimp only at hSw); go_simp <;> with_reducible rfl)
          simp only [Act.put, List.setIfInBounds_toArray, List.set_cons_zero, List.set_cons_succ]
          refine wpAnyH_take (i := 5) (oi := { dst := some 21, op := Op.move (Operand.tmp 5), type := 3, pos := "slices.go:25", after := #[], guard := none }) (v := ?vq5a) rfl (by as_aux_lemma => kernel_rfl) (by as_aux_lemma => kernel_rfl) (by as_aux_lemma => kernel_rfl) (fun _ _ _ h => h) (Or.inl ⟨by rfl, ?yq5a⟩) (by assumption) ?rq5a
          case yq5a => (intro w hSw; (try dsimp only at hSw); go_simp <;> with_reducible rfl)
          simp only [Act.put, List.setIfInBounds_toArray, List.set_cons_zero, List.set_cons_succ]
          refine wpAnyH_take (i := 6) (oi := { dst := some 22, op := Op.indexAddr 25 (Operand.tmp 20) (Operand.tmp 21), type := 0, pos := "slices.go:25", after := #[{ on := 4, ground := Ground.data }, { on := 5, ground := Ground.data }], guard := none }) (v := ?vq6a) rfl (by as_aux_lemma => kernel_rfl) (by as_aux_lemma => kernel_rfl) (by as_aux_lemma => kernel_rfl) (fun _ _ _ h => h) (Or.inl ⟨by rfl, ?yq6a⟩) (by assumption) ?rq6a
          case yq6a => (intro w hSw; (try dsimp only at hSw); go_simp <;> with_reducible rfl)
          simp only [Act.put, List.setIfInBounds_toArray, List.set_cons_zero, List.set_cons_succ]
          refine wpAnyH_take (i := 7) (oi := { dst := some 23, op := Op.load 74 (Operand.tmp 22), type := 74, pos := "slices.go:25", after := #[{ on := 6, ground := Ground.data }], guard := none }) (v := .agg (rlC e)) rfl (by as_aux_lemma => kernel_rfl) (by as_aux_lemma => kernel_rfl) (by as_aux_lemma => kernel_rfl) (fun _ _ _ h => h) (yieldsIf_load_A (by rfl) 74 (.tmp 22) rfl (b2) (o2 + k * 22) rfl (rlC e) _ (fun wS hw => range_same HS.out.2.1 hw) undqr rfl (by rw [info_release, rlC_size HS.out.2.2.2.1])) (by assumption) ?_
          simp only [Act.put, List.setIfInBounds_toArray, List.set_cons_zero, List.set_cons_succ]
          refine wpAnyH_take (i := 8) (oi := { dst := some 24, op := Op.binOp BinOp.neq 74 (Operand.tmp 19) (Operand.tmp 23) 74, type := 4, pos := "slices.go:25", after := #[{ on := 3, ground := Ground.data }, { on := 7, ground := Ground.data }], guard := none }) (v := ?vq8a) rfl (by as_aux_lemma => kernel_rfl) (by as_aux_lemma => kernel_rfl) (by as_aux_lemma => kernel_rfl) (fun _ _ _ h => h) (Or.inl ⟨by rfl, ?yq8a⟩) (by assumption) ?rq8a
          case yq8a => (intro w hSw; (try dsimp only at hSw); go_simp <;> with_reducible rfl)
          simp only [Act.put, List.setIfInBounds_toArray, List.set_cons_zero, List.set_cons_succ]
          refine wpAnyH_done (by as_aux_lemma => kernel_rfl) ?_ _
          clear hHeld hQ
          go_wp2_with fail
          obtain ⟨_, _, _, _, s5, s6, s7, s8⟩ := HS.out
          exact ⟨⟨k + 1, by omega, congrArg (Value.int .i64) (by omega), s5.trans ⟨rfl, rfl, rfl, Nat.le_refl _, fun _ _ => rfl⟩, by rw [List.take_add_one, List.take_add_one, s6, s7, s8, HE.out]⟩, by simp [intOf]; omega⟩
        · rw [decide_eq_false hce] at hQ
          have HE := Lib.hid hce
          clear hce
          go_upto_region 6 with fail
          refine wp_region_held_drew (S := fun w' => ∀ p, w'.cell? p = wr.cell? p) (by as_aux_lemma => kernel_rfl) (fun _ => rfl) (fun hHeld => ?_)
          simp only [List.size_toArray, List.length_cons, List.length_nil, Nat.reduceAdd, Array.replicate_succ, Array.replicate_zero, List.push_toArray, List.nil_append, List.cons_append]
          refine wpAnyH_take (i := 0) (oi := { dst := some 16, op := Op.move (Operand.tmp 0), type := 25, pos := "slices.go:25", after := #[], guard := none }) (v := ?vq0b) rfl (by as_aux_lemma => kernel_rfl) (by as_aux_lemma => kernel_rfl) (by as_aux_lemma => kernel_rfl) (fun _ _ _ h => h) (Or.inl ⟨by rfl, ?yq0b⟩) (by assumption) ?rq0b
          case yq0b => (intro w hSw; (try dsimp only at hSw); go_simp <;> with_reducible rfl)
          simp only [Act.put, List.setIfInBounds_toArray, List.set_cons_zero, List.set_cons_succ]
          refine wpAnyH_take (i := 1) (oi := { dst := some 17, op := Op.move (Operand.tmp 5), type := 3, pos := "slices.go:25", after := #[], guard := none }) (v := ?vq1b) rfl (by as_aux_lemma => kernel_rfl) (by as_aux_lemma => kernel_rfl) (by as_aux_lemma => kernel_rfl) (fun _ _ _ h => h) (Or.inl ⟨by rfl, ?yq1b⟩) (by assumption) ?rq1b
          case yq1b => (intro w hSw; (try dsimp only at hSw); go_simp <;> with_reducible rfl)
          simp only [Act.put, List.setIfInBounds_toArray, List.set_cons_zero, List.set_cons_succ]
          refine wpAnyH_take (i := 2) (oi := { dst := some 18, op := Op.indexAddr 25 (Operand.tmp 16) (Operand.tmp 17), type := 0, pos := "slices.go:25", after := #[{ on := 0, ground := Ground.data }, { on := 1, ground := Ground.data }], guard := none }) (v := ?vq2b) rfl (by as_aux_lemma => kernel_rfl) (by as_aux_lemma => kernel_rfl) (by as_aux_lemma => kernel_rfl) (fun _ _ _ h => h) (Or.inl ⟨by rfl, ?yq2b⟩) (by assumption) ?rq2b
          case yq2b => (intro w hSw; (try dsimp only at hSw); go_simp <;> with_reducible rfl)
          simp only [Act.put, List.setIfInBounds_toArray, List.set_cons_zero, List.set_cons_succ]
          refine wpAnyH_take (i := 3) (oi := { dst := some 19, op := Op.load 74 (Operand.tmp 18), type := 74, pos := "slices.go:25", after := #[{ on := 2, ground := Ground.data }], guard := none }) (v := .agg (rlC c)) rfl (by as_aux_lemma => kernel_rfl) (by as_aux_lemma => kernel_rfl) (by as_aux_lemma => kernel_rfl) (fun _ _ _ h => h) (yieldsIf_load_A (by rfl) 74 (.tmp 18) rfl (b1) (o1 + k * 22) rfl (rlC c) _ (fun wS hw => range_same HS.out.1 hw) undqr rfl (by rw [info_release, rlC_size HS.out.2.2.1])) (by assumption) ?_
          simp only [Act.put, List.setIfInBounds_toArray, List.set_cons_zero, List.set_cons_succ]
          refine wpAnyH_take (i := 4) (oi := { dst := some 20, op := Op.move (Operand.tmp 1), type := 25, pos := "slices.go:25", after := #[], guard := none }) (v := ?vq4b) rfl (by as_aux_lemma => kernel_rfl) (by as_aux_lemma => kernel_rfl) (by as_aux_lemma => kernel_rfl) (fun _ _ _ h => h) (Or.inl ⟨by rfl, ?yq4b⟩) (by assumption) ?rq4b
          case yq4b => (intro w hSw; (try dsimp only at hSw); go_simp <;> with_reducible rfl)
          simp only [Act.put, List.setIfInBounds_toArray, List.set_cons_zero, List.set_cons_succ]
          refine wpAnyH_take (i := 5) (oi := { dst := some 21, op := Op.move (Operand.tmp 5), type := 3, pos := "slices.go:25", after := #[], guard := none }) (v := ?vq5b) rfl (by as_aux_lemma => kernel_rfl) (by as_aux_lemma => kernel_rfl) (by as_aux_lemma => kernel_rfl) (fun _ _ _ h => h) (Or.inl ⟨by rfl, ?yq5b⟩) (by assumption) ?rq5b
          case yq5b => (intro w hSw; (try dsimp only at hSw); go_simp <;> with_reducible rfl)
          simp only [Act.put, List.setIfInBounds_toArray, List.set_cons_zero, List.set_cons_succ]
          refine wpAnyH_take (i := 6) (oi := { dst := some 22, op := Op.indexAddr 25 (Operand.tmp 20) (Operand.tmp 21), type := 0, pos := "slices.go:25", after := #[{ on := 4, ground := Ground.data }, { on := 5, ground := Ground.data }], guard := none }) (v := ?vq6b) rfl (by as_aux_lemma => kernel_rfl) (by as_aux_lemma => kernel_rfl) (by as_aux_lemma => kernel_rfl) (fun _ _ _ h => h) (Or.inl ⟨by rfl, ?yq6b⟩) (by assumption) ?rq6b
          case yq6b => (intro w hSw; (try dsimp only at hSw); go_simp <;> with_reducible rfl)
          simp only [Act.put, List.setIfInBounds_toArray, List.set_cons_zero, List.set_cons_succ]
          refine wpAnyH_take (i := 7) (oi := { dst := some 23, op := Op.load 74 (Operand.tmp 22), type := 74, pos := "slices.go:25", after := #[{ on := 6, ground := Ground.data }], guard := none }) (v := .agg (rlC e)) rfl (by as_aux_lemma => kernel_rfl) (by as_aux_lemma => kernel_rfl) (by as_aux_lemma => kernel_rfl) (fun _ _ _ h => h) (yieldsIf_load_A (by rfl) 74 (.tmp 22) rfl (b2) (o2 + k * 22) rfl (rlC e) _ (fun wS hw => range_same HS.out.2.1 hw) undqr rfl (by rw [info_release, rlC_size HS.out.2.2.2.1])) (by assumption) ?_
          simp only [Act.put, List.setIfInBounds_toArray, List.set_cons_zero, List.set_cons_succ]
          refine wpAnyH_take (i := 8) (oi := { dst := some 24, op := Op.binOp BinOp.neq 74 (Operand.tmp 19) (Operand.tmp 23) 74, type := 4, pos := "slices.go:25", after := #[{ on := 3, ground := Ground.data }, { on := 7, ground := Ground.data }], guard := none }) (v := ?vq8b) rfl (by as_aux_lemma => kernel_rfl) (by as_aux_lemma => kernel_rfl) (by as_aux_lemma => kernel_rfl) (fun _ _ _ h => h) (Or.inl ⟨by rfl, ?yq8b⟩) (by assumption) ?rq8b
          case yq8b => (intro w hSw; (try dsimp only at hSw); go_simp <;> with_reducible rfl)
          simp only [Act.put, List.setIfInBounds_toArray, List.set_cons_zero, List.set_cons_succ]
          refine wpAnyH_done (by as_aux_lemma => kernel_rfl) ?_ _
          clear hHeld hQ
          go_wp2_with fail
          go_ret
          obtain ⟨_, _, _, _, s5, s6, s7, s8⟩ := HS.out
          rw [decide_eq_false (fun q => HE.out (Option.some.inj (by rw [← s7, ← s8, q])))]
          exact ⟨rfl, s5.trans ⟨rfl, rfl, rfl, Nat.le_refl _, fun _ _ => rfl⟩⟩
      · obtain rfl : n1 = k := by omega
        have he : cs = es := by
          rw [List.take_of_length_le (by rw [HN.out.1]; exact Nat.le_refl _), List.take_of_length_le (by rw [HN.out.2]; exact Nat.le_refl _)] at htk
          exact htk
        have HE := Lib.hid (And.intro he hXw)
        clear htk he hXw HR HC
        go_wp2_with fail
        go_ret
        rw [decide_eq_true HE.out.1]
        exact ⟨rfl, HE.out.2⟩
  · have g9 : ((n1 : Int) == (n2 : Int)) = false := by simp; omega
    have hne : cs ≠ es := fun e => hl (by rw [← HN.out.1, ← HN.out.2, e])
    rw [decide_eq_false hne]
    clear hne hl
    go_enter Tryz.func59, Tryz.ntmps59
    go_wp2_with fail
    go_ret
    exact ⟨rfl, Below.refl _ _⟩

end Go.Proofs.YtenepkgjdoddgaaGreatDoor
