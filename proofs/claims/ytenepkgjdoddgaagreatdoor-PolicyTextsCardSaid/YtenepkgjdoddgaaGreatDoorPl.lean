/- Texts laid into one: Pl. -/
import Derived.Test.YtenepkgjdoddgaaGreatDoorPc
import Derived.Laws.StructEq
import Derived.ChangeKeysEq
/- policy's laws: rules compared. -/
namespace Go.Proofs.YtenepkgjdoddgaaGreatDoor
open Go.RowKit Go.Shelf

theorem addr_all {a b : List Nat} (ha : Ad a) (hb : Ad b) : ((List.range 20).all fun j => ((a.getD j 0 : Nat) : Int) == ((b.getD j 0 : Nat) : Int)) = decide (a = b) := by
  rw [Bool.eq_iff_iff, List.all_eq_true, decide_eq_true_iff]
  constructor
  · intro h
    apply List.ext_getElem?
    intro j
    by_cases hj : j < 20
    · have h1 : j < a.length := by rw [ha.1]; exact hj
      have h2 : j < b.length := by rw [hb.1]; exact hj
      have h3 := h j (List.mem_range.2 hj)
      simp only [List.getD_eq_getElem?_getD, List.getElem?_eq_getElem h1, List.getElem?_eq_getElem h2, Option.getD_some, beq_iff_eq, Int.natCast_inj] at h3
      rw [List.getElem?_eq_getElem h1, List.getElem?_eq_getElem h2, h3]
    · rw [List.getElem?_eq_none (by rw [ha.1]; omega), List.getElem?_eq_none (by rw [hb.1]; omega)]
  · intro h j _
    rw [h]
    simp
theorem equalIn_addr (d : Nat) {a b : List Nat} (ha : Ad a) (hb : Ad b) (w : World) : (Op.equalIn (d + 1 + 1) 29 (.agg (adC a)) (.agg (adC b))).run Tryz.prog w = .ok (decide (a = b)) w := by
  obtain ⟨i, hi⟩ : ∃ i, Tryz.prog.info? 5 = some i := Option.isSome_iff_exists.1 (by kernel_rfl)
  rw [run_equalIn_array w (d + 1) (adC a) (adC b) und_addr hi, run_eqItems_ints d (show Tryz.prog.underlying 5 = some (.int .u8) by kernel_rfl) (by kernel_rfl) (adC a) (adC b) (fun j => ((a.getD j 0 : Nat) : Int)) (fun j => ((b.getD j 0 : Nat) : Int)) w (List.range 20) (fun j hj => by
    have hj : j < 20 := by simpa using hj
    have h1 : j < a.length := by rw [ha.1]; exact hj
    have h2 : j < b.length := by rw [hb.1]; exact hj
    rw [adC_get, adC_get, List.getElem?_eq_getElem h1, List.getElem?_eq_getElem h2, List.getD_eq_getElem?_getD, List.getD_eq_getElem?_getD, List.getElem?_eq_getElem h1, List.getElem?_eq_getElem h2]
    exact ⟨rfl, rfl⟩), addr_all ha hb]
theorem part_addr {l : List Nat} (r : List Value) (h : Ad l) (w : World) : (part 29 (bvs l ++ r).toArray 0).run Tryz.prog w = .ok (.agg (adC l)) w := by
  have e : (List.take 20 (bvs l ++ r)).toArray = adC l := by
    unfold adC
    rw [List.take_left' (by rw [bvs_len, h.1])]
  simp [part, isAgg, run_underlying und_addr, e]
noncomputable def qcF (i : Nat) : Field := match Tryz.prog.underlying 72 with
  | some (.struct fs) => (fs[i]?).getD default
  | _ => default
noncomputable def qrF (i : Nat) : Field := match Tryz.prog.underlying 74 with
  | some (.struct fs) => (fs[i]?).getD default
  | _ => default
theorem undqc : Tryz.prog.underlying 72 = some (.struct #[qcF 0, qcF 1]) := by kernel_rfl
theorem undqr : Tryz.prog.underlying 74 = some (.struct #[qrF 0, qrF 1, qrF 2]) := by kernel_rfl
theorem qcF0 : (qcF 0).type = 29 ∧ (qcF 0).offset = 0 ∧ (qcF 0).name = "Address" := ⟨by kernel_rfl, by kernel_rfl, by kernel_rfl⟩
theorem qcF1 : (qcF 1).type = 23 ∧ (qcF 1).offset = 20 ∧ (qcF 1).name = "Label" := ⟨by kernel_rfl, by kernel_rfl, by kernel_rfl⟩
theorem qrF0 : (qrF 0).type = 29 ∧ (qrF 0).offset = 0 ∧ (qrF 0).name = "Address" := ⟨by kernel_rfl, by kernel_rfl, by kernel_rfl⟩
theorem qrF1 : (qrF 1).type = 30 ∧ (qrF 1).offset = 20 ∧ (qrF 1).name = "Entry" := ⟨by kernel_rfl, by kernel_rfl, by kernel_rfl⟩
theorem qrF2 : (qrF 2).type = 23 ∧ (qrF 2).offset = 21 ∧ (qrF 2).name = "Target" := ⟨by kernel_rfl, by kernel_rfl, by kernel_rfl⟩
theorem und_lab : Tryz.prog.underlying 23 = some (.int .u64) := by kernel_rfl
theorem und_u32 : Tryz.prog.underlying 30 = some (.int .u32) := by kernel_rfl
theorem part_cell {t : TypeId} (ht : Tryz.prog.plainKey t = true) (xs : Array Value) (i : Nat) (v : Value) (h : xs[i]? = some v) (w : World) : (part t xs i).run Tryz.prog w = .ok v w := run_part_plain w ht h
theorem clC_20 {c : List Nat × Nat} (h : Ad c.1) : (clC c)[20]? = some (.int .u64 (c.2 : Nat)) := by
  unfold clC
  rw [← Array.getElem?_toList]
  show (bvs c.1 ++ _)[20]? = _
  rw [List.getElem?_append_right (by rw [bvs_len, h.1]; exact Nat.le_refl _), bvs_len, h.1]
  rfl
theorem rlC_20 {c : List Nat × Nat × Nat} (h : Ad c.1) : (rlC c)[20]? = some (.int .u32 (c.2.1 : Nat)) ∧ (rlC c)[21]? = some (.int .u64 (c.2.2 : Nat)) := by
  unfold rlC
  rw [← Array.getElem?_toList, ← Array.getElem?_toList]
  show (bvs c.1 ++ _)[20]? = _ ∧ (bvs c.1 ++ _)[21]? = _
  rw [List.getElem?_append_right (by rw [bvs_len, h.1]; exact Nat.le_refl _), List.getElem?_append_right (by rw [bvs_len, h.1]; omega), bvs_len, h.1]
  exact ⟨rfl, rfl⟩
theorem intbeq (a b : Nat) : ((a : Int) == (b : Int)) = decide (a = b) := by
  rw [Bool.eq_iff_iff, beq_iff_eq, decide_eq_true_iff]
  omega
theorem equalIn_clear {a b : List Nat × Nat} (ha : Ad a.1) (hb : Ad b.1) (w : World) : (Op.equalIn 10000 72 (.agg (clC a)) (.agg (clC b))).run Tryz.prog w = .ok (decide (a = b)) w := by
  have hf : Tryz.prog.fieldsOf 72 = #[qcF 0, qcF 1] := by unfold Program.fieldsOf; rw [undqc]
  have h1 : ∀ w, (part 29 (clC a) 0).run Tryz.prog w = .ok (.agg (adC a.1)) w := fun w => part_addr _ ha w
  have h2 : ∀ w, (part 29 (clC b) 0).run Tryz.prog w = .ok (.agg (adC b.1)) w := fun w => part_addr _ hb w
  have h3 := part_cell (t := 23) (by kernel_rfl) (clC a) 20 _ (clC_20 ha)
  have h4 := part_cell (t := 23) (by kernel_rfl) (clC b) 20 _ (clC_20 hb)
  have h5 := equalIn_addr 9997 ha hb
  rw [show (10000 : Nat) = 9999 + 1 from rfl, run_equalIn_struct w 9999 _ _ _ (by rw [hf]; exact undqc) (by kernel_rfl), hf]
  show (Op.eqFields 9999 (clC a) (clC b) [qcF 0, qcF 1]).run Tryz.prog w = _
  simp only [Op.eqFields, qcF0.1, qcF0.2.1, qcF0.2.2, qcF1.1, qcF1.2.1, qcF1.2.2]
  rw [if_pos (by decide), if_pos (by decide)]
  simp only [Sem.run_bind, h1, h2, h3, h4, Result.andThen_ok, Sem.run_ite, Sem.run_pure]
  rw [show (9999 : Nat) = 9997 + 1 + 1 from rfl, h5, show (9997 + 1 + 1 : Nat) = 9998 + 1 from rfl]
  simp only [Result.andThen_ok, run_equalIn_int _ 9998 _ _ _ _ _ und_lab, intbeq]
  obtain ⟨a1, a2⟩ := a
  obtain ⟨b1, b2⟩ := b
  by_cases e1 : a1 = b1
  · by_cases e2 : a2 = b2
    · simp [e1, e2]
    · simp [e1, e2]
  · simp [e1]
theorem equalIn_release {a b : List Nat × Nat × Nat} (ha : Ad a.1) (hb : Ad b.1) (w : World) : (Op.equalIn 10000 74 (.agg (rlC a)) (.agg (rlC b))).run Tryz.prog w = .ok (decide (a = b)) w := by
  have hf : Tryz.prog.fieldsOf 74 = #[qrF 0, qrF 1, qrF 2] := by unfold Program.fieldsOf; rw [undqr]
  have h1 : ∀ w, (part 29 (rlC a) 0).run Tryz.prog w = .ok (.agg (adC a.1)) w := fun w => part_addr _ ha w
  have h2 : ∀ w, (part 29 (rlC b) 0).run Tryz.prog w = .ok (.agg (adC b.1)) w := fun w => part_addr _ hb w
  have h3 := part_cell (t := 30) (by kernel_rfl) (rlC a) 20 _ (rlC_20 ha).1
  have h4 := part_cell (t := 30) (by kernel_rfl) (rlC b) 20 _ (rlC_20 hb).1
  have h6 := part_cell (t := 23) (by kernel_rfl) (rlC a) 21 _ (rlC_20 ha).2
  have h7 := part_cell (t := 23) (by kernel_rfl) (rlC b) 21 _ (rlC_20 hb).2
  have h5 := equalIn_addr 9997 ha hb
  rw [show (10000 : Nat) = 9999 + 1 from rfl, run_equalIn_struct w 9999 _ _ _ (by rw [hf]; exact undqr) (by kernel_rfl), hf]
  show (Op.eqFields 9999 (rlC a) (rlC b) [qrF 0, qrF 1, qrF 2]).run Tryz.prog w = _
  simp only [Op.eqFields, qrF0.1, qrF0.2.1, qrF0.2.2, qrF1.1, qrF1.2.1, qrF1.2.2, qrF2.1, qrF2.2.1, qrF2.2.2]
  rw [if_pos (by decide), if_pos (by decide), if_pos (by decide)]
  simp only [Sem.run_bind, h1, h2, h3, h4, h6, h7, Result.andThen_ok, Sem.run_ite, Sem.run_pure]
  rw [show (9999 : Nat) = 9997 + 1 + 1 from rfl, h5, show (9997 + 1 + 1 : Nat) = 9998 + 1 from rfl]
  simp only [Result.andThen_ok, run_equalIn_int _ 9998 _ _ _ _ _ und_lab, run_equalIn_int _ 9998 _ _ _ _ _ und_u32, intbeq]
  obtain ⟨a1, a2, a3⟩ := a
  obtain ⟨b1, b2, b3⟩ := b
  by_cases e1 : a1 = b1
  · by_cases e2 : a2 = b2
    · by_cases e3 : a3 = b3
      · simp [e1, e2, e3]
      · simp [e1, e2, e3]
    · simp [e1, e2]
  · simp [e1]
theorem neq_clear {a b : List Nat × Nat} (ha : Ad a.1) (hb : Ad b.1) (w : World) : (binOp .neq 72 (.agg (clC a)) (.agg (clC b))).run Tryz.prog w = .ok (.bool (!decide (a = b))) w := by
  rw [run_neq_struct, equalIn_clear ha hb]
  rfl
theorem neq_release {a b : List Nat × Nat × Nat} (ha : Ad a.1) (hb : Ad b.1) (w : World) : (binOp .neq 74 (.agg (rlC a)) (.agg (rlC b))).run Tryz.prog w = .ok (.bool (!decide (a = b))) w := by
  rw [run_neq_struct, equalIn_release ha hb]
  rfl
end Go.Proofs.YtenepkgjdoddgaaGreatDoor

/- policy's laws: rules compared one by one; Same. -/
namespace Go.Proofs.YtenepkgjdoddgaaGreatDoor
open Go.RowKit Go.Shelf

set_option maxRecDepth 100000 in
set_option maxHeartbeats 4000000 in
theorem sequalC_any (cs es : List (List Nat × Nat)) (v u : Value) (w : World) (hc : ClA w v cs) (he : ClA w u es) :
    Calls Tryz.prog 58 #[v, u] w fun e w' => e = .returned (.bool (decide (cs = es))) ∧ Below w.heap.size w w' := by
  have HC := Lib.hid (And.intro hc he)
  obtain ⟨_, x1, c1, rfl, hl1, hr1⟩ := hc
  obtain ⟨_, x2, c2, rfl, hl2, hr2⟩ := he
  obtain ⟨n1, hn1⟩ : ∃ n, cs.length = n := ⟨_, rfl⟩
  obtain ⟨n2, hn2⟩ : ∃ n, es.length = n := ⟨_, rfl⟩
  have HN := Lib.hid (And.intro hn1 hn2)
  have HR := Lib.hid (And.intro hr1 hr2)
  rw [hn1] at hl1 ⊢
  rw [hn2] at hl2 ⊢
  clear hr1 hr2 hn1 hn2
  by_cases hl : n1 = n2
  · subst hl
    have g9 : ((n1 : Int) == (n1 : Int)) = true := by simp
    go_enter Tryz.func58, Tryz.ntmps58
    go_wp2_with fail
    go_loopw [13] (fun t wr => ∃ k : Nat, k ≤ n1 ∧ t = .int .i64 k ∧ Below w.heap.size w wr ∧ cs.take k = es.take k) (fun t _ => n1 - (intOf t).toNat)
    case atStart => exact ⟨0, Nat.zero_le _, rfl, Below.refl _ _, rfl⟩
    case round =>
      obtain ⟨k, hk, rfl, hXw, htk⟩ := hrel
      by_cases hlt : k < n1
      · obtain ⟨c, hc⟩ : ∃ c, cs[k]? = some c := ⟨_, List.getElem?_eq_getElem (by have := HN.out; omega)⟩
        obtain ⟨e, he⟩ : ∃ c, es[k]? = some c := ⟨_, List.getElem?_eq_getElem (by have := HN.out; omega)⟩
        have hca := (HC.out.1.1 c (List.mem_of_getElem? hc)).1
        have hea := (HC.out.2.1 e (List.mem_of_getElem? he)).1
        obtain ⟨b1, o1, rfl, hb1, hr1⟩ := HR.out.1 (fun q => by rw [q] at hc; cases hc)
        obtain ⟨b2, o2, rfl, hb2, hr2⟩ := HR.out.2 (fun q => by rw [q] at he; cases he)
        have g0 : (k : Int) < (n1 : Int) := by omega
        have g1 : (0 : Int) ≤ (k : Int) := by omega
        have g2 : IntKind.i64.wrap ((k : Int) + 1) = ((k + 1 : Nat) : Int) := IntWalk.i64_in _ (by omega)
        have HS := Lib.hid (And.intro (range_new (hr1 k c hc) hb1 (hXw.mono (Nat.le_refl _))) (And.intro (range_new (hr2 k e he) hb2 hXw) (And.intro hca (And.intro hea (And.intro hXw (And.intro htk (And.intro hc he)))))))
        have hQ := neq_clear hca hea
        clear hr1 hr2 hca hea htk hc he hb1 hb2 hXw HR HC
        by_cases hce : c = e
        · rw [decide_eq_true hce] at hQ
          have HE := Lib.hid hce
          clear hce
          go_upto_region 6 with fail
          refine wp_region_held_drew (S := fun w' => ∀ p, w'.cell? p = wr.cell? p) (by as_aux_lemma => kernel_rfl) (fun _ => rfl) (fun hHeld => ?_)
          simp only [List.size_toArray, List.length_cons, List.length_nil, Nat.reduceAdd, Array.replicate_succ, Array.replicate_zero, List.push_toArray, List.nil_append, List.cons_append]
          refine wpAnyH_take (i := 0) (oi := { dst := some 16, op := Op.move (Operand.tmp 0), type := 24, pos := "slices.go:25", after := #[], guard := none }) (v := ?vq0a) rfl (by as_aux_lemma => kernel_rfl) (by as_aux_lemma => kernel_rfl) (by as_aux_lemma => kernel_rfl) (fun _ _ _ h => h) (Or.inl ⟨by rfl, ?yq0a⟩) (by assumption) ?rq0a
          case yq0a => (intro w hSw; (try dsimp only at hSw); go_simp <;> with_reducible rfl)
          simp only [Act.put, List.setIfInBounds_toArray, List.set_cons_zero, List.set_cons_succ]
          refine wpAnyH_take (i := 1) (oi := { dst := some 17, op := Op.move (Operand.tmp 5), type := 3, pos := "slices.go:25", after := #[], guard := none }) (v := ?vq1a) rfl (by as_aux_lemma => kernel_rfl) (by as_aux_lemma => kernel_rfl) (by as_aux_lemma => kernel_rfl) (fun _ _ _ h => h) (Or.inl ⟨by rfl, ?yq1a⟩) (by assumption) ?rq1a
          case yq1a => (intro w hSw; (try dsimp only at hSw); go_simp <;> with_reducible rfl)
          simp only [Act.put, List.setIfInBounds_toArray, List.set_cons_zero, List.set_cons_succ]
          refine wpAnyH_take (i := 2) (oi := { dst := some 18, op := Op.indexAddr 24 (Operand.tmp 16) (Operand.tmp 17), type := 0, pos := "slices.go:25", after := #[{ on := 0, ground := Ground.data }, { on := 1, ground := Ground.data }], guard := none }) (v := ?vq2a) rfl (by as_aux_lemma => kernel_rfl) (by as_aux_lemma => kernel_rfl) (by as_aux_lemma => kernel_rfl) (fun _ _ _ h => h) (Or.inl ⟨by rfl, ?yq2a⟩) (by assumption) ?rq2a
          case yq2a => (intro w hSw; (try dsimp only at hSw); go_simp <;> with_reducible rfl)
          simp only [Act.put, List.setIfInBounds_toArray, List.set_cons_zero, List.set_cons_succ]
          refine wpAnyH_take (i := 3) (oi := { dst := some 19, op := Op.load 72 (Operand.tmp 18), type := 72, pos := "slices.go:25", after := #[{ on := 2, ground := Ground.data }], guard := none }) (v := .agg (clC c)) rfl (by as_aux_lemma => kernel_rfl) (by as_aux_lemma => kernel_rfl) (by as_aux_lemma => kernel_rfl) (fun _ _ _ h => h) (yieldsIf_load_A (by rfl) 72 (.tmp 18) rfl (b1) (o1 + k * 21) rfl (clC c) _ (fun wS hw => range_same HS.out.1 hw) undqc rfl (by rw [info_clear, clC_size HS.out.2.2.1])) (by assumption) ?_
          simp only [Act.put, List.setIfInBounds_toArray, List.set_cons_zero, List.set_cons_succ]
          refine wpAnyH_take (i := 4) (oi := { dst := some 20, op := Op.move (Operand.tmp 1), type := 24, pos := "slices.go:25", after := #[], guard := none }) (v := ?vq4a) rfl (by as_aux_lemma => kernel_rfl) (by as_aux_lemma => kernel_rfl) (by as_aux_lemma => kernel_rfl) (fun _ _ _ h => h) (Or.inl ⟨by rfl, ?yq4a⟩) (by assumption) ?rq4a
          case yq4a => (intro w hSw; (try dsimp only at hSw); go_simp <;> with_reducible rfl)
          simp only [Act.put, List.setIfInBounds_toArray, List.set_cons_zero, List.set_cons_succ]
          refine wpAnyH_take (i := 5) (oi := { dst := some 21, op := Op.move (Operand.tmp 5), type := 3, pos := "slices.go:25", after := #[], guard := none }) (v := ?vq5a) rfl (by as_aux_lemma => kernel_rfl) (by as_aux_lemma => kernel_rfl) (by as_aux_lemma => kernel_rfl) (fun _ _ _ h => h) (Or.inl ⟨by rfl, ?yq5a⟩) (by assumption) ?rq5a
          case yq5a => (intro w hSw; (try dsimp only at hSw); go_simp <;> with_reducible rfl)
          simp only [Act.put, List.setIfInBounds_toArray, List.set_cons_zero, List.set_cons_succ]
          refine wpAnyH_take (i := 6) (oi := { dst := some 22, op := Op.indexAddr 24 (Operand.tmp 20) (Operand.tmp 21), type := 0, pos := "slices.go:25", after := #[{ on := 4, ground := Ground.data }, { on := 5, ground := Ground.data }], guard := none }) (v := ?vq6a) rfl (by as_aux_lemma => kernel_rfl) (by as_aux_lemma => kernel_rfl) (by as_aux_lemma => kernel_rfl) (fun _ _ _ h => h) (Or.inl ⟨by rfl, ?yq6a⟩) (by assumption) ?rq6a
          case yq6a => (intro w hSw; (try dsimp only at hSw); go_simp <;> with_reducible rfl)
          simp only [Act.put, List.setIfInBounds_toArray, List.set_cons_zero, List.set_cons_succ]
          refine wpAnyH_take (i := 7) (oi := { dst := some 23, op := Op.load 72 (Operand.tmp 22), type := 72, pos := "slices.go:25", after := #[{ on := 6, ground := Ground.data }], guard := none }) (v := .agg (clC e)) rfl (by as_aux_lemma => kernel_rfl) (by as_aux_lemma => kernel_rfl) (by as_aux_lemma => kernel_rfl) (fun _ _ _ h => h) (yieldsIf_load_A (by rfl) 72 (.tmp 22) rfl (b2) (o2 + k * 21) rfl (clC e) _ (fun wS hw => range_same HS.out.2.1 hw) undqc rfl (by rw [info_clear, clC_size HS.out.2.2.2.1])) (by assumption) ?_
          simp only [Act.put, List.setIfInBounds_toArray, List.set_cons_zero, List.set_cons_succ]
          refine wpAnyH_take (i := 8) (oi := { dst := some 24, op := Op.binOp BinOp.neq 72 (Operand.tmp 19) (Operand.tmp 23) 72, type := 4, pos := "slices.go:25", after := #[{ on := 3, ground := Ground.data }, { on := 7, ground := Ground.data }], guard := none }) (v := ?vq8a) rfl (by as_aux_lemma => kernel_rfl) (by as_aux_lemma => kernel_rfl) (by as_aux_lemma => kernel_rfl) (fun _ _ _ h => h) (Or.inl ⟨by rfl, ?yq8a⟩) (by assumption) ?rq8a
          case yq8a => (intro w hSw; (try dsimp only at hSw); go_simp <;> with_reducible rfl)
          simp only [Act.put, List.setIfInBounds_toArray, List.set_cons_zero, List.set_cons_succ]
          refine wpAnyH_done (by as_aux_lemma => kernel_rfl) ?_ _
          clear hHeld hQ
          go_wp2_with fail
          obtain ⟨_, _, _, _, s5, s6, s7, s8⟩ := HS.out
          exact ⟨⟨k + 1, by omega, congrArg (Value.int .i64) (by omega), s5.trans ⟨rfl, rfl, rfl, Nat.le_refl _, fun _ _ => rfl⟩, by rw [List.take_add_one, List.take_add_one, s6, s7, s8, HE.out]⟩, by simp [intOf]; omega⟩
        · rw [decide_eq_false hce] at hQ
          have HE := Lib.hid hce
          clear hce
          go_upto_region 6 with fail
          refine wp_region_held_drew (S := fun w' => ∀ p, w'.cell? p = wr.cell? p) (by as_aux_lemma => kernel_rfl) (fun _ => rfl) (fun hHeld => ?_)
          simp only [List.size_toArray, List.length_cons, List.length_nil, Nat.reduceAdd, Array.replicate_succ, Array.replicate_zero, List.push_toArray, List.nil_append, List.cons_append]
          refine wpAnyH_take (i := 0) (oi := { dst := some 16, op := Op.move (Operand.tmp 0), type := 24, pos := "slices.go:25", after := #[], guard := none }) (v := ?vq0b) rfl (by as_aux_lemma => kernel_rfl) (by as_aux_lemma => kernel_rfl) (by as_aux_lemma => kernel_rfl) (fun _ _ _ h => h) (Or.inl ⟨by rfl, ?yq0b⟩) (by assumption) ?rq0b
          case yq0b => (intro w hSw; (try dsimp only at hSw); go_simp <;> with_reducible rfl)
          simp only [Act.put, List.setIfInBounds_toArray, List.set_cons_zero, List.set_cons_succ]
          refine wpAnyH_take (i := 1) (oi := { dst := some 17, op := Op.move (Operand.tmp 5), type := 3, pos := "slices.go:25", after := #[], guard := none }) (v := ?vq1b) rfl (by as_aux_lemma => kernel_rfl) (by as_aux_lemma => kernel_rfl) (by as_aux_lemma => kernel_rfl) (fun _ _ _ h => h) (Or.inl ⟨by rfl, ?yq1b⟩) (by assumption) ?rq1b
          case yq1b => (intro w hSw; (try dsimp only at hSw); go_simp <;> with_reducible rfl)
          simp only [Act.put, List.setIfInBounds_toArray, List.set_cons_zero, List.set_cons_succ]
          refine wpAnyH_take (i := 2) (oi := { dst := some 18, op := Op.indexAddr 24 (Operand.tmp 16) (Operand.tmp 17), type := 0, pos := "slices.go:25", after := #[{ on := 0, ground := Ground.data }, { on := 1, ground := Ground.data }], guard := none }) (v := ?vq2b) rfl (by as_aux_lemma => kernel_rfl) (by as_aux_lemma => kernel_rfl) (by as_aux_lemma => kernel_rfl) (fun _ _ _ h => h) (Or.inl ⟨by rfl, ?yq2b⟩) (by assumption) ?rq2b
          case yq2b => (intro w hSw; (try dsimp only at hSw); go_simp <;> with_reducible rfl)
          simp only [Act.put, List.setIfInBounds_toArray, List.set_cons_zero, List.set_cons_succ]
          refine wpAnyH_take (i := 3) (oi := { dst := some 19, op := Op.load 72 (Operand.tmp 18), type := 72, pos := "slices.go:25", after := #[{ on := 2, ground := Ground.data }], guard := none }) (v := .agg (clC c)) rfl (by as_aux_lemma => kernel_rfl) (by as_aux_lemma => kernel_rfl) (by as_aux_lemma => kernel_rfl) (fun _ _ _ h => h) (yieldsIf_load_A (by rfl) 72 (.tmp 18) rfl (b1) (o1 + k * 21) rfl (clC c) _ (fun wS hw => range_same HS.out.1 hw) undqc rfl (by rw [info_clear, clC_size HS.out.2.2.1])) (by assumption) ?_
          simp only [Act.put, List.setIfInBounds_toArray, List.set_cons_zero, List.set_cons_succ]
          refine wpAnyH_take (i := 4) (oi := { dst := some 20, op := Op.move (Operand.tmp 1), type := 24, pos := "slices.go:25", after := #[], guard := none }) (v := ?vq4b) rfl (by as_aux_lemma => kernel_rfl) (by as_aux_lemma => kernel_rfl) (by as_aux_lemma => kernel_rfl) (fun _ _ _ h => h) (Or.inl ⟨by rfl, ?yq4b⟩) (by assumption) ?rq4b
          case yq4b => (intro w hSw; (try dsimp only at hSw); go_simp <;> with_reducible rfl)
          simp only [Act.put, List.setIfInBounds_toArray, List.set_cons_zero, List.set_cons_succ]
          refine wpAnyH_take (i := 5) (oi := { dst := some 21, op := Op.move (Operand.tmp 5), type := 3, pos := "slices.go:25", after := #[], guard := none }) (v := ?vq5b) rfl (by as_aux_lemma => kernel_rfl) (by as_aux_lemma => kernel_rfl) (by as_aux_lemma => kernel_rfl) (fun _ _ _ h => h) (Or.inl ⟨by rfl, ?yq5b⟩) (by assumption) ?rq5b
          case yq5b => (intro w hSw; (try dsimp only at hSw); go_simp <;> with_reducible rfl)
          simp only [Act.put, List.setIfInBounds_toArray, List.set_cons_zero, List.set_cons_succ]
          refine wpAnyH_take (i := 6) (oi := { dst := some 22, op := Op.indexAddr 24 (Operand.tmp 20) (Operand.tmp 21), type := 0, pos := "slices.go:25", after := #[{ on := 4, ground := Ground.data }, { on := 5, ground := Ground.data }], guard := none }) (v := ?vq6b) rfl (by as_aux_lemma => kernel_rfl) (by as_aux_lemma => kernel_rfl) (by as_aux_lemma => kernel_rfl) (fun _ _ _ h => h) (Or.inl ⟨by rfl, ?yq6b⟩) (by assumption) ?rq6b
          case yq6b => (intro w hSw; (try dsimp only at hSw); go_simp <;> with_reducible rfl)
          simp only [Act.put, List.setIfInBounds_toArray, List.set_cons_zero, List.set_cons_succ]
          refine wpAnyH_take (i := 7) (oi := { dst := some 23, op := Op.load 72 (Operand.tmp 22), type := 72, pos := "slices.go:25", after := #[{ on := 6, ground := Ground.data }], guard := none }) (v := .agg (clC e)) rfl (by as_aux_lemma => kernel_rfl) (by as_aux_lemma => kernel_rfl) (by as_aux_lemma => kernel_rfl) (fun _ _ _ h => h) (yieldsIf_load_A (by rfl) 72 (.tmp 22) rfl (b2) (o2 + k * 21) rfl (clC e) _ (fun wS hw => range_same HS.out.2.1 hw) undqc rfl (by rw [info_clear, clC_size HS.out.2.2.2.1])) (by assumption) ?_
          simp only [Act.put, List.setIfInBounds_toArray, List.set_cons_zero, List.set_cons_succ]
          refine wpAnyH_take (i := 8) (oi := { dst := some 24, op := Op.binOp BinOp.neq 72 (Operand.tmp 19) (Operand.tmp 23) 72, type := 4, pos := "slices.go:25", after := #[{ on := 3, ground := Ground.data }, { on := 7, ground := Ground.data }], guard := none }) (v := ?vq8b) rfl (by as_aux_lemma => kernel_rfl) (by as_aux_lemma => kernel_rfl) (by as_aux_lemma => kernel_rfl) (fun _ _ _ h => h) (Or.inl ⟨by rfl, ?yq8b⟩) (by assumption) ?rq8b
          case yq8b => (intro w hSw; (try dsimp only at hSw); go_simp <;> with_reducible rfl)
          simp only [Act.put, List.setIfInBounds_toArray, List.set_cons_zero, List.set_cons_succ]
          refine wpAnyH_done (by as_aux_lemma => kernel_rfl) ?_ _
          clear hHeld hQ
          go_wp2_with fail
          go_ret
          obtain ⟨_, _, _, _, s5, s6, s7, s8⟩ := HS.out
          rw [decide_eq_false (fun q => HE.out (Option.some.inj (by rw [← s7, ← s8, q])))]
          exact ⟨rfl, s5.trans ⟨rfl, rfl, rfl, Nat.le_refl _, fun _ _ => rfl⟩⟩
      · obtain rfl : n1 = k := by omega
        have he : cs = es := by
          rw [List.take_of_length_le (by rw [HN.out.1]; exact Nat.le_refl _), List.take_of_length_le (by rw [HN.out.2]; exact Nat.le_refl _)] at htk
          exact htk
        have HE := Lib.hid (And.intro he hXw)
        clear htk he hXw HR HC
        go_wp2_with fail
        go_ret
        rw [decide_eq_true HE.out.1]
        exact ⟨rfl, HE.out.2⟩
  · have g9 : ((n1 : Int) == (n2 : Int)) = false := by simp; omega
    have hne : cs ≠ es := fun e => hl (by rw [← HN.out.1, ← HN.out.2, e])
    rw [decide_eq_false hne]
    clear hne hl
    go_enter Tryz.func58, Tryz.ntmps58
    go_wp2_with fail
    go_ret
    exact ⟨rfl, Below.refl _ _⟩

set_option maxRecDepth 100000 in
set_option maxHeartbeats 4000000 in
theorem sequalR_any (cs es : List (List Nat × Nat × Nat)) (v u : Value) (w : World) (hc : RlA w v cs) (he : RlA w u es) :
    Calls Tryz.prog 59 #[v, u] w fun e w' => e = .returned (.bool (decide (cs = es))) ∧ Below w.heap.size w w' := by
  have HC := Lib.hid (And.intro hc he)
  obtain ⟨_, x1, c1, rfl, hl1, hr1⟩ := hc
  obtain ⟨_, x2, c2, rfl, hl2, hr2⟩ := he
  obtain ⟨n1, hn1⟩ : ∃ n, cs.length = n := ⟨_, rfl⟩
  obtain ⟨n2, hn2⟩ : ∃ n, es.length = n := ⟨_, rfl⟩
  have HN := Lib.hid (And.intro hn1 hn2)
  have HR := Lib.hid (And.intro hr1 hr2)
  rw [hn1] at hl1 ⊢
  rw [hn2] at hl2 ⊢
  clear hr1 hr2 hn1 hn2
  by_cases hl : n1 = n2
  · subst hl
    have g9 : ((n1 : Int) == (n1 : Int)) = true := by simp
    go_enter Tryz.func59, Tryz.ntmps59
    go_wp2_with fail
    go_loopw [13] (fun t wr => ∃ k : Nat, k ≤ n1 ∧ t = .int .i64 k ∧ Below w.heap.size w wr ∧ cs.take k = es.take k) (fun t _ => n1 - (intOf t).toNat)
    case atStart => exact ⟨0, Nat.zero_le _, rfl, Below.refl _ _, rfl⟩
    case round =>
      obtain ⟨k, hk, rfl, hXw, htk⟩ := hrel
      by_cases hlt : k < n1
      · obtain ⟨c, hc⟩ : ∃ c, cs[k]? = some c := ⟨_, List.getElem?_eq_getElem (by have := HN.out; omega)⟩
        obtain ⟨e, he⟩ : ∃ c, es[k]? = some c := ⟨_, List.getElem?_eq_getElem (by have := HN.out; omega)⟩
        have hca := (HC.out.1.1 c (List.mem_of_getElem? hc)).1
        have hea := (HC.out.2.1 e (List.mem_of_getElem? he)).1
        obtain ⟨b1, o1, rfl, hb1, hr1⟩ := HR.out.1 (fun q => by rw [q] at hc; cases hc)
        obtain ⟨b2, o2, rfl, hb2, hr2⟩ := HR.out.2 (fun q => by rw [q] at he; cases he)
        have g0 : (k : Int) < (n1 : Int) := by omega
        have g1 : (0 : Int) ≤ (k : Int) := by omega
        have g2 : IntKind.i64.wrap ((k : Int) + 1) = ((k + 1 : Nat) : Int) := IntWalk.i64_in _ (by omega)
        have HS := Lib.hid (And.intro (range_new (hr1 k c hc) hb1 (hXw.mono (Nat.le_refl _))) (And.intro (range_new (hr2 k e he) hb2 hXw) (And.intro hca (And.intro hea (And.intro hXw (And.intro htk (And.intro hc he)))))))
        have hQ := neq_release hca hea
        clear hr1 hr2 hca hea htk hc he hb1 hb2 hXw HR HC
        by_cases hce : c = e
        · rw [decide_eq_true hce] at hQ
          have HE := Lib.hid hce
          clear hce
          go_upto_region 6 with fail
          refine wp_region_held_drew (S := fun w' => ∀ p, w'.cell? p = wr.cell? p) (by as_aux_lemma => kernel_rfl) (fun _ => rfl) (fun hHeld => ?_)
          simp only [List.size_toArray, List.length_cons, List.length_nil, Nat.reduceAdd, Array.replicate_succ, Array.replicate_zero, List.push_toArray, List.nil_append, List.cons_append]
          refine wpAnyH_take (i := 0) (oi := { dst := some 16, op := Op.move (Operand.tmp 0), type := 25, pos := "slices.go:25", after := #[], guard := none }) (v := ?vq0a) rfl (by as_aux_lemma => kernel_rfl) (by as_aux_lemma => kernel_rfl) (by as_aux_lemma => kernel_rfl) (fun _ _ _ h => h) (Or.inl ⟨by rfl, ?yq0a⟩) (by assumption) ?rq0a
          case yq0a => (intro w hSw; (try dsimp only at hSw); go_simp <;> with_reducible rfl)
          simp only [Act.put, List.setIfInBounds_toArray, List.set_cons_zero, List.set_cons_succ]
          refine wpAnyH_take (i := 1) (oi := { dst := some 17, op := Op.move (Operand.tmp 5), type := 3, pos := "slices.go:25", after := #[], guard := none }) (v := ?vq1a) rfl (by as_aux_lemma => kernel_rfl) (by as_aux_lemma => kernel_rfl) (by as_aux_lemma => kernel_rfl) (fun _ _ _ h => h) (Or.inl ⟨by rfl, ?yq1a⟩) (by assumption) ?rq1a
          case yq1a => (intro w hSw; (try dsimp only at hSw); go_simp <;> with_reducible rfl)
          simp only [Act.put, List.setIfInBounds_toArray, List.set_cons_zero, List.set_cons_succ]
          refine wpAnyH_take (i := 2) (oi := { dst := some 18, op := Op.indexAddr 25 (Operand.tmp 16) (Operand.tmp 17), type := 0, pos := "slices.go:25", after := #[{ on := 0, ground := Ground.data }, { on := 1, ground := Ground.data }], guard := none }) (v := ?vq2a) rfl (by as_aux_lemma => kernel_rfl) (by as_aux_lemma => kernel_rfl) (by as_aux_lemma => kernel_rfl) (fun _ _ _ h => h) (Or.inl ⟨by rfl, ?yq2a⟩) (by assumption) ?rq2a
          case yq2a => (intro w hSw; (try dsimp only at hSw); go_simp <;> with_reducible rfl)
          simp only [Act.put, List.setIfInBounds_toArray, List.set_cons_zero, List.set_cons_succ]
          refine wpAnyH_take (i := 3) (oi := { dst := some 19, op := Op.load 74 (Operand.tmp 18), type := 74, pos := "slices.go:25", after := #[{ on := 2, ground := Ground.data }], guard := none }) (v := .agg (rlC c)) rfl (by as_aux_lemma => kernel_rfl) (by as_aux_lemma => kernel_rfl) (by as_aux_lemma => kernel_rfl) (fun _ _ _ h => h) (yieldsIf_load_A (by rfl) 74 (.tmp 18) rfl (b1) (o1 + k * 22) rfl (rlC c) _ (fun wS hw => range_same HS.out.1 hw) undqr rfl (by rw [info_release, rlC_size HS.out.2.2.1])) (by assumption) ?_
          simp only [Act.put, List.setIfInBounds_toArray, List.set_cons_zero, List.set_cons_succ]
          refine wpAnyH_take (i := 4) (oi := { dst := some 20, op := Op.move (Operand.tmp 1), type := 25, pos := "slices.go:25", after := #[], guard := none }) (v := ?vq4a) rfl (by as_aux_lemma => kernel_rfl) (by as_aux_lemma => kernel_rfl) (by as_aux_lemma => kernel_rfl) (fun _ _ _ h => h) (Or.inl ⟨by rfl, ?yq4a⟩) (by assumption) ?rq4a
          case yq4a => (intro w hSw; (try dsimp only at hSw); go_simp <;> with_reducible rfl)
          simp only [Act.put, List.setIfInBounds_toArray, List.set_cons_zero, List.set_cons_succ]
          refine wpAnyH_take (i := 5) (oi := { dst := some 21, op := Op.move (Operand.tmp 5), type := 3, pos := "slices.go:25", after := #[], guard := none }) (v := ?vq5a) rfl (by as_aux_lemma => kernel_rfl) (by as_aux_lemma => kernel_rfl) (by as_aux_lemma => kernel_rfl) (fun _ _ _ h => h) (Or.inl ⟨by rfl, ?yq5a⟩) (by assumption) ?rq5a
          case yq5a => (intro w hSw; (try dsimp only at hSw); go_simp <;> with_reducible rfl)
          simp only [Act.put, List.setIfInBounds_toArray, List.set_cons_zero, List.set_cons_succ]
          refine wpAnyH_take (i := 6) (oi := { dst := some 22, op := Op.indexAddr 25 (Operand.tmp 20) (Operand.tmp 21), type := 0, pos := "slices.go:25", after := #[{ on := 4, ground := Ground.data }, { on := 5, ground := Ground.data }], guard := none }) (v := ?vq6a) rfl (by as_aux_lemma => kernel_rfl) (by as_aux_lemma => kernel_rfl) (by as_aux_lemma => kernel_rfl) (fun _ _ _ h => h) (Or.inl ⟨by rfl, ?yq6a⟩) (by assumption) ?rq6a
          case yq6a => (intro w hSw; (try dsimp only at hSw); go_simp <;> with_reducible rfl)
          simp only [Act.put, List.setIfInBounds_toArray, List.set_cons_zero, List.set_cons_succ]
          refine wpAnyH_take (i := 7) (oi := { dst := some 23, op := Op.load 74 (Operand.tmp 22), type := 74, pos := "slices.go:25", after := #[{ on := 6, ground := Ground.data }], guard := none }) (v := .agg (rlC e)) rfl (by as_aux_lemma => kernel_rfl) (by as_aux_lemma => kernel_rfl) (by as_aux_lemma => kernel_rfl) (fun _ _ _ h => h) (yieldsIf_load_A (by rfl) 74 (.tmp 22) rfl (b2) (o2 + k * 22) rfl (rlC e) _ (fun wS hw => range_same HS.out.2.1 hw) undqr rfl (by rw [info_release, rlC_size HS.out.2.2.2.1])) (by assumption) ?_
          simp only [Act.put, List.setIfInBounds_toArray, List.set_cons_zero, List.set_cons_succ]
          refine wpAnyH_take (i := 8) (oi := { dst := some 24, op := Op.binOp BinOp.neq 74 (Operand.tmp 19) (Operand.tmp 23) 74, type := 4, pos := "slices.go:25", after := #[{ on := 3, ground := Ground.data }, { on := 7, ground := Ground.data }], guard := none }) (v := ?vq8a) rfl (by as_aux_lemma => kernel_rfl) (by as_aux_lemma => kernel_rfl) (by as_aux_lemma => kernel_rfl) (fun _ _ _ h => h) (Or.inl ⟨by rfl, ?yq8a⟩) (by assumption) ?rq8a
          case yq8a => (intro w hSw; (try dsimp only at hSw); go_simp <;> with_reducible rfl)
          simp only [Act.put, List.setIfInBounds_toArray, List.set_cons_zero, List.set_cons_succ]
          refine wpAnyH_done (by as_aux_lemma => kernel_rfl) ?_ _
          clear hHeld hQ
          go_wp2_with fail
          obtain ⟨_, _, _, _, s5, s6, s7, s8⟩ := HS.out
          exact ⟨⟨k + 1, by omega, congrArg (Value.int .i64) (by omega), s5.trans ⟨rfl, rfl, rfl, Nat.le_refl _, fun _ _ => rfl⟩, by rw [List.take_add_one, List.take_add_one, s6, s7, s8, HE.out]⟩, by simp [intOf]; omega⟩
        · rw [decide_eq_false hce] at hQ
          have HE := Lib.hid hce
          clear hce
          go_upto_region 6 with fail
          refine wp_region_held_drew (S := fun w' => ∀ p, w'.cell? p = wr.cell? p) (by as_aux_lemma => kernel_rfl) (fun _ => rfl) (fun hHeld => ?_)
          simp only [List.size_toArray, List.length_cons, List.length_nil, Nat.reduceAdd, Array.replicate_succ, Array.replicate_zero, List.push_toArray, List.nil_append, List.cons_append]
          refine wpAnyH_take (i := 0) (oi := { dst := some 16, op := Op.move (Operand.tmp 0), type := 25, pos := "slices.go:25", after := #[], guard := none }) (v := ?vq0b) rfl (by as_aux_lemma => kernel_rfl) (by as_aux_lemma => kernel_rfl) (by as_aux_lemma => kernel_rfl) (fun _ _ _ h => h) (Or.inl ⟨by rfl, ?yq0b⟩) (by assumption) ?rq0b
          case yq0b => (intro w hSw; (try dsimp only at hSw); go_simp <;> with_reducible rfl)
          simp only [Act.put, List.setIfInBounds_toArray, List.set_cons_zero, List.set_cons_succ]
          refine wpAnyH_take (i := 1) (oi := { dst := some 17, op := Op.move (Operand.tmp 5), type := 3, pos := "slices.go:25", after := #[], guard := none }) (v := ?vq1b) rfl (by as_aux_lemma => kernel_rfl) (by as_aux_lemma => kernel_rfl) (by as_aux_lemma => kernel_rfl) (fun _ _ _ h => h) (Or.inl ⟨by rfl, ?yq1b⟩) (by assumption) ?rq1b
          case yq1b => (intro w hSw; (try dsimp only at hSw); go_simp <;> with_reducible rfl)
          simp only [Act.put, List.setIfInBounds_toArray, List.set_cons_zero, List.set_cons_succ]
          refine wpAnyH_take (i := 2) (oi := { dst := some 18, op := Op.indexAddr 25 (Operand.tmp 16) (Operand.tmp 17), type := 0, pos := "slices.go:25", after := #[{ on := 0, ground := Ground.data }, { on := 1, ground := Ground.data }], guard := none }) (v := ?vq2b) rfl (by as_aux_lemma => kernel_rfl) (by as_aux_lemma => kernel_rfl) (by as_aux_lemma => kernel_rfl) (fun _ _ _ h => h) (Or.inl ⟨by rfl, ?yq2b⟩) (by assumption) ?rq2b
          case yq2b => (intro w hSw; (try dsimp only at hSw); go_simp <;> with_reducible rfl)
          simp only [Act.put, List.setIfInBounds_toArray, List.set_cons_zero, List.set_cons_succ]
          refine wpAnyH_take (i := 3) (oi := { dst := some 19, op := Op.load 74 (Operand.tmp 18), type := 74, pos := "slices.go:25", after := #[{ on := 2, ground := Ground.data }], guard := none }) (v := .agg (rlC c)) rfl (by as_aux_lemma => kernel_rfl) (by as_aux_lemma => kernel_rfl) (by as_aux_lemma => kernel_rfl) (fun _ _ _ h => h) (yieldsIf_load_A (by rfl) 74 (.tmp 18) rfl (b1) (o1 + k * 22) rfl (rlC c) _ (fun wS hw => range_same HS.out.1 hw) undqr rfl (by rw [info_release, rlC_size HS.out.2.2.1])) (by assumption) ?_
          simp only [Act.put, List.setIfInBounds_toArray, List.set_cons_zero, List.set_cons_succ]
          refine wpAnyH_take (i := 4) (oi := { dst := some 20, op := Op.move (Operand.tmp 1), type := 25, pos := "slices.go:25", after := #[], guard := none }) (v := ?vq4b) rfl (by as_aux_lemma => kernel_rfl) (by as_aux_lemma => kernel_rfl) (by as_aux_lemma => kernel_rfl) (fun _ _ _ h => h) (Or.inl ⟨by rfl, ?yq4b⟩) (by assumption) ?rq4b
          case yq4b => (intro w hSw; (try dsimp only at hSw); go_simp <;> with_reducible rfl)
          simp only [Act.put, List.setIfInBounds_toArray, List.set_cons_zero, List.set_cons_succ]
          refine wpAnyH_take (i := 5) (oi := { dst := some 21, op := Op.move (Operand.tmp 5), type := 3, pos := "slices.go:25", after := #[], guard := none }) (v := ?vq5b) rfl (by as_aux_lemma => kernel_rfl) (by as_aux_lemma => kernel_rfl) (by as_aux_lemma => kernel_rfl) (fun _ _ _ h => h) (Or.inl ⟨by rfl, ?yq5b⟩) (by assumption) ?rq5b
          case yq5b => (intro w hSw; (try dsimp only at hSw); go_simp <;> with_reducible rfl)
          simp only [Act.put, List.setIfInBounds_toArray, List.set_cons_zero, List.set_cons_succ]
          refine wpAnyH_take (i := 6) (oi := { dst := some 22, op := Op.indexAddr 25 (Operand.tmp 20) (Operand.tmp 21), type := 0, pos := "slices.go:25", after := #[{ on := 4, ground := Ground.data }, { on := 5, ground := Ground.data }], guard := none }) (v := ?vq6b) rfl (by as_aux_lemma => kernel_rfl) (by as_aux_lemma => kernel_rfl) (by as_aux_lemma => kernel_rfl) (fun _ _ _ h => h) (Or.inl ⟨by rfl, ?yq6b⟩) (by assumption) ?rq6b
          case yq6b => (intro w hSw; (try dsimp only at hSw); go_simp <;> with_reducible rfl)
          simp only [Act.put, List.setIfInBounds_toArray, List.set_cons_zero, List.set_cons_succ]
          refine wpAnyH_take (i := 7) (oi := { dst := some 23, op := Op.load 74 (Operand.tmp 22), type := 74, pos := "slices.go:25", after := #[{ on := 6, ground := Ground.data }], guard := none }) (v := .agg (rlC e)) rfl (by as_aux_lemma => kernel_rfl) (by as_aux_lemma => kernel_rfl) (by as_aux_lemma => kernel_rfl) (fun _ _ _ h => h) (yieldsIf_load_A (by rfl) 74 (.tmp 22) rfl (b2) (o2 + k * 22) rfl (rlC e) _ (fun wS hw => range_same HS.out.2.1 hw) undqr rfl (by rw [info_release, rlC_size HS.out.2.2.2.1])) (by assumption) ?_
          simp only [Act.put, List.setIfInBounds_toArray, List.set_cons_zero, List.set_cons_succ]
          refine wpAnyH_take (i := 8) (oi := { dst := some 24, op := Op.binOp BinOp.neq 74 (Operand.tmp 19) (Operand.tmp 23) 74, type := 4, pos := "slices.go:25", after := #[{ on := 3, ground := Ground.data }, { on := 7, ground := Ground.data }], guard := none }) (v := ?vq8b) rfl (by as_aux_lemma => kernel_rfl) (by as_aux_lemma => kernel_rfl) (by as_aux_lemma => kernel_rfl) (fun _ _ _ h => h) (Or.inl ⟨by rfl, ?yq8b⟩) (by assumption) ?rq8b
          case yq8b => (intro w hSw; (try dsimp only at hSw); go_simp <;> with_reducible rfl)
          simp only [Act.put, List.setIfInBounds_toArray, List.set_cons_zero, List.set_cons_succ]
          refine wpAnyH_done (by as_aux_lemma => kernel_rfl) ?_ _
          clear hHeld hQ
          go_wp2_with fail
          go_ret
          obtain ⟨_, _, _, _, s5, s6, s7, s8⟩ := HS.out
          rw [decide_eq_false (fun q => HE.out (Option.some.inj (by rw [← s7, ← s8, q])))]
          exact ⟨rfl, s5.trans ⟨rfl, rfl, rfl, Nat.le_refl _, fun _ _ => rfl⟩⟩
      · obtain rfl : n1 = k := by omega
        have he : cs = es := by
          rw [List.take_of_length_le (by rw [HN.out.1]; exact Nat.le_refl _), List.take_of_length_le (by rw [HN.out.2]; exact Nat.le_refl _)] at htk
          exact htk
        have HE := Lib.hid (And.intro he hXw)
        clear htk he hXw HR HC
        go_wp2_with fail
        go_ret
        rw [decide_eq_true HE.out.1]
        exact ⟨rfl, HE.out.2⟩
  · have g9 : ((n1 : Int) == (n2 : Int)) = false := by simp; omega
    have hne : cs ≠ es := fun e => hl (by rw [← HN.out.1, ← HN.out.2, e])
    rw [decide_eq_false hne]
    clear hne hl
    go_enter Tryz.func59, Tryz.ntmps59
    go_wp2_with fail
    go_ret
    exact ⟨rfl, Below.refl _ _⟩

end Go.Proofs.YtenepkgjdoddgaaGreatDoor

/- policy's laws: Same. -/
namespace Go.Proofs.YtenepkgjdoddgaaGreatDoor
open Go.RowKit Go.Shelf

set_option maxRecDepth 100000 in
set_option maxHeartbeats 4000000 in
theorem psame_any (d e : Nat) (cv rv cu ru : Value) (cs es : List (List Nat × Nat)) (rs ts : List (List Nat × Nat × Nat)) (w : World) (hcs : ClA w cv cs) (hrs : RlA w rv rs) (hes : ClA w cu es) (hts : RlA w ru ts) :
    Calls Tryz.prog 24 #[.agg #[.int .u64 d, cv, rv], .agg #[.int .u64 e, cu, ru]] w fun r w' => r = .returned (.bool (decide (d = e ∧ cs = es ∧ rs = ts))) ∧ Below w.heap.size w w' := by
  obtain ⟨X, hX⟩ : ∃ X, (w.alloc (.cells #[.int .u64 d, cv, rv] 27)).alloc (.cells #[.int .u64 e, cu, ru] 27) = X := ⟨_, rfl⟩
  have b1 : Blk X w.heap.size 27 #[.int .u64 d, cv, rv] := by rw [← hX]; exact (Blk.new w _ _).alloc _
  have b2 : Blk X (w.heap.size + 1) 27 #[.int .u64 e, cu, ru] := by rw [← hX]; exact Blk.newS w _ _ _
  have hW : Below w.heap.size w X := by rw [← hX]; exact balloc (balloc (Below.refl _ _) _) _
  have HX := Lib.hid hX
  have HC := Lib.hid (fun (Y : World) (hY : Below X.heap.size X Y) => sequalC_any cs es cv cu Y (hcs.new (hW.trans (hY.mono hW.size))) (hes.new (hW.trans (hY.mono hW.size))))
  have HR := Lib.hid (fun (Y : World) (hY : Below X.heap.size X Y) => sequalR_any rs ts rv ru Y (hrs.new (hW.trans (hY.mono hW.size))) (hts.new (hW.trans (hY.mono hW.size))))
  have HP := Lib.hid (fun (Y : World) (hY : Below X.heap.size X Y) => (by
    have q := b1.keep hY
    have r := b2.keep hY
    exact ⟨cell_of_row _ _ 0 _ _ _ q, cell_of_row _ _ 1 _ _ _ q, cell_of_row _ _ 2 _ _ _ q, cell_of_row _ _ 0 _ _ _ r, cell_of_row _ _ 1 _ _ _ r, cell_of_row _ _ 2 _ _ _ r⟩ : Y.cell? ⟨w.heap.size, 0, none⟩ = some (.int .u64 d) ∧ Y.cell? ⟨w.heap.size, 1, none⟩ = some cv ∧ Y.cell? ⟨w.heap.size, 2, none⟩ = some rv ∧ Y.cell? ⟨w.heap.size + 1, 0, none⟩ = some (.int .u64 e) ∧ Y.cell? ⟨w.heap.size + 1, 1, none⟩ = some cu ∧ Y.cell? ⟨w.heap.size + 1, 2, none⟩ = some ru))
  obtain ⟨_, x1, c1, rfl, _⟩ := hcs
  obtain ⟨_, x2, c2, rfl, _⟩ := hrs
  obtain ⟨_, x3, c3, rfl, _⟩ := hes
  obtain ⟨_, x4, c4, rfl, _⟩ := hts
  have H0 := Lib.hid hW
  obtain ⟨k0, k1, k2, k3, k4, k5⟩ := HP.out X (Below.refl _ _)
  clear hX b1 b2 hW
  obtain ⟨n1, hn1⟩ : ∃ n, cs.length = n := ⟨_, rfl⟩
  obtain ⟨n2, hn2⟩ : ∃ n, rs.length = n := ⟨_, rfl⟩
  obtain ⟨n3, hn3⟩ : ∃ n, es.length = n := ⟨_, rfl⟩
  obtain ⟨n4, hn4⟩ : ∃ n, ts.length = n := ⟨_, rfl⟩
  rw [hn1] at HX HC HP k1 ⊢
  rw [hn2] at HX HR HP k2 ⊢
  rw [hn3] at HX HC HP k4 ⊢
  rw [hn4] at HX HR HP k5 ⊢
  obtain ⟨pc, hpc⟩ : ∃ p, decide (cs = es) = p := ⟨_, rfl⟩
  obtain ⟨pr, hpr⟩ : ∃ p, decide (rs = ts) = p := ⟨_, rfl⟩
  have hall : decide (d = e ∧ cs = es ∧ rs = ts) = (decide (d = e) && (pc && pr)) := by rw [← hpc, ← hpr, Bool.decide_and, Bool.decide_and]
  rw [hall]
  rw [hpc] at HC
  rw [hpr] at HR
  clear hn1 hn2 hn3 hn4 hpc hpr hall
  by_cases hd : d = e
  · rw [decide_eq_true hd, Bool.true_and]
    have g0 : ((d : Int) == (e : Int)) = true := by simp [hd]
    clear hd
    cases pc
    · rw [Bool.false_and]
      go_enter Tryz.func24, Tryz.ntmps24
      go_wp2_with fail
      rw [HX.out]
      go_wp2_with (first | (go_at_call 58; refine (HC.out _ (by first | exact Below.refl _ _ | exact ⟨rfl, rfl, rfl, Nat.le_refl _, fun _ _ => rfl⟩)).mono ?_; rintro r w1 ⟨rfl, h1⟩; have H1 := Lib.hid h1; clear h1) | fail)
      go_ret
      exact ⟨rfl, H0.out.trans (H1.out.mono H0.out.size)⟩
    · rw [Bool.true_and]
      go_enter Tryz.func24, Tryz.ntmps24
      go_wp2_with fail
      rw [HX.out]
      go_wp2_with (first | (go_at_call 58; refine (HC.out _ (by first | exact Below.refl _ _ | exact ⟨rfl, rfl, rfl, Nat.le_refl _, fun _ _ => rfl⟩)).mono ?_; rintro r w1 ⟨rfl, h1⟩; have H1 := Lib.hid h1; obtain ⟨q0, q1, q2, q3, q4, q5⟩ := HP.out w1 h1; clear h1) | (go_at_call 59; refine (HR.out _ H1.out).mono ?_; rintro r w2 ⟨rfl, h2⟩; have H2 := Lib.hid (H1.out.trans (h2.mono H1.out.size)); clear h2) | fail)
      go_ret
      exact ⟨rfl, H0.out.trans (H2.out.mono H0.out.size)⟩
  · rw [decide_eq_false hd, Bool.false_and]
    have g0 : ((d : Int) == (e : Int)) = false := by simp; omega
    clear hd
    go_enter Tryz.func24, Tryz.ntmps24
    go_wp2_with fail
    rw [HX.out]
    go_wp2_with fail
    go_ret
    exact ⟨rfl, H0.out⟩
end Go.Proofs.YtenepkgjdoddgaaGreatDoor

