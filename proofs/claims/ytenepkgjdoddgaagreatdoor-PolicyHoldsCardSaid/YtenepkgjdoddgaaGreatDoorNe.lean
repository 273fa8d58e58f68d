/- policy's laws: rules compared. -/
import Derived.Test.YtenepkgjdoddgaaGreatDoorPc
import Derived.Laws.StructEq
import Derived.ChangeKeysEq
namespace Go.Proofs.YtenepkgjdoddgaaGreatDoor
open Go.RowKit Go.Shelf

theorem addr_all {a b : List Nat} (ha : Ad a) (hb : Ad b) : ((List.range 20).all fun j => ((a.getD j 0 : Nat) : Int) == ((b.getD j 0 : Nat) : Int)) = decide (a = b) := by
  rw [Bool.eq_iff_iff, List.all_eq_true, decide_eq_true_iff]
  constructor
  · intro h
    apply List.ext_getElem?
    intro j
    by_cases hj : j < 20
    · have h1 : j < a.length := by rw [ha.1]; exact hj
      have h2 : j < b.length := by rw [hb.1]; exact hj
      have h3 := h j (List.mem_range.2 hj)
      simp only [List.getD_eq_getElem?_getD, List.getElem?_eq_getElem h1, List.getElem?_eq_getElem h2, Option.getD_some, beq_iff_eq, Int.natCast_inj] at h3
      rw [List.getElem?_eq_getElem h1, List.getElem?_eq_getElem h2, h3]
    · rw [List.getElem?_eq_none (by rw [ha.1]; omega), List.getElem?_eq_none (by rw [hb.1]; omega)]
  · intro h j _
    rw [h]
    simp
theorem equalIn_addr (d : Nat) {a b : List Nat} (ha : Ad a) (hb : Ad b) (w : World) : (Op.equalIn (d + 1 + 1) 29 (.agg (adC a)) (.agg (adC b))).run Tryz.prog w = .ok (decide (a = b)) w := by
  obtain ⟨i, hi⟩ : ∃ i, Tryz.prog.info? 5 = some i := Option.isSome_iff_exists.1 (by kernel_rfl)
  rw [run_equalIn_array w (d + 1) (adC a) (adC b) und_addr hi, run_eqItems_ints d (show Tryz.prog.underlying 5 = some (.int .u8) by kernel_rfl) (by kernel_rfl) (adC a) (adC b) (fun j => ((a.getD j 0 : Nat) : Int)) (fun j => ((b.getD j 0 : Nat) : Int)) w (List.range 20) (fun j hj => by
    have hj : j < 20 := by simpa using hj
    have h1 : j < a.length := by rw [ha.1]; exact hj
    have h2 : j < b.length := by rw [hb.1]; exact hj
    rw [adC_get, adC_get, List.getElem?_eq_getElem h1, List.getElem?_eq_getElem h2, List.getD_eq_getElem?_getD, List.getD_eq_getElem?_getD, List.getElem?_eq_getElem h1, List.getElem?_eq_getElem h2]
    exact ⟨rfl, rfl⟩), addr_all ha hb]
theorem part_addr {l : List Nat} (r : List Value) (h : Ad l) (w : World) : (part 29 (bvs l ++ r).toArray 0).run Tryz.prog w = .ok (.agg (adC l)) w := by
  have e : (List.take 20 (bvs l ++ r)).toArray = adC l := by
    unfold adC
    rw [List.take_left' (by rw [bvs_len, h.1])]
  simp [part, isAgg, run_underlying und_addr, e]
noncomputable def qcF (i : Nat) : Field := match Tryz.prog.underlying 72 with
  | some (.struct fs) => (fs[i]?).getD default
  | _ => default
noncomputable def qrF (i : Nat) : Field := match Tryz.prog.underlying 74 with
  | some (.struct fs) => (fs[i]?).getD default
  | _ => default
theorem undqc : Tryz.prog.underlying 72 = some (.struct #[qcF 0, qcF 1]) := by kernel_rfl
theorem undqr : Tryz.prog.underlying 74 = some (.struct #[qrF 0, qrF 1, qrF 2]) := by kernel_rfl
theorem qcF0 : (qcF 0).type = 29 ∧ (qcF 0).offset = 0 ∧ (qcF 0).name = "Address" := ⟨by kernel_rfl, by kernel_rfl, by kernel_rfl⟩
theorem qcF1 : (qcF 1).type = 23 ∧ (qcF 1).offset = 20 ∧ (qcF 1).name = "Label" := ⟨by kernel_rfl, by kernel_rfl, by kernel_rfl⟩
theorem qrF0 : (qrF 0).type = 29 ∧ (qrF 0).offset = 0 ∧ (qrF 0).name = "Address" := ⟨by kernel_rfl, by kernel_rfl, by kernel_rfl⟩
theorem qrF1 : (qrF 1).type = 30 ∧ (qrF 1).offset = 20 ∧ (qrF 1).name = "Entry" := ⟨by kernel_rfl, by kernel_rfl, by kernel_rfl⟩
theorem qrF2 : (qrF 2).type = 23 ∧ (qrF 2).offset = 21 ∧ (qrF 2).name = "Target" := ⟨by kernel_rfl, by kernel_rfl, by kernel_rfl⟩
theorem und_lab : Tryz.prog.underlying 23 = some (.int .u64) := by kernel_rfl
theorem und_u32 : Tryz.prog.underlying 30 = some (.int .u32) := by kernel_rfl
theorem part_cell {t : TypeId} (ht : Tryz.prog.plainKey t = true) (xs : Array Value) (i : Nat) (v : Value) (h : xs[i]? = some v) (w : World) : (part t xs i).run Tryz.prog w = .ok v w := run_part_plain w ht h
theorem clC_20 {c : List Nat × Nat} (h : Ad c.1) : (clC c)[20]? = some (.int .u64 (c.2 : Nat)) := by
  unfold clC
  rw [← Array.getElem?_toList]
  show (bvs c.1 ++ _)[20]? = _
  rw [List.getElem?_append_right (by rw [bvs_len, h.1]; exact Nat.le_refl _), bvs_len, h.1]
  rfl
theorem rlC_20 {c : List Nat × Nat × Nat} (h : Ad c.1) : (rlC c)[20]? = some (.int .u32 (c.2.1 : Nat)) ∧ (rlC c)[21]? = some (.int .u64 (c.2.2 : Nat)) := by
  unfold rlC
  rw [← Array.getElem?_toList, ← Array.getElem?_toList]
  show (bvs c.1 ++ _)[20]? = _ ∧ (bvs c.1 ++ _)[21]? = _
  rw [List.getElem?_append_right (by rw [bvs_len, h.1]; exact Nat.le_refl _), List.getElem?_append_right (by rw [bvs_len, h.1]; omega), bvs_len, h.1]
  exact ⟨rfl, rfl⟩
theorem intbeq (a b : Nat) : ((a : Int) == (b : Int)) = decide (a = b) := by
  rw [Bool.eq_iff_iff, beq_iff_eq, decide_eq_true_iff]
  omega
theorem equalIn_clear {a b : List Nat × Nat} (ha : Ad a.1) (hb : Ad b.1) (w : World) : (Op.equalIn 10000 72 (.agg (clC a)) (.agg (clC b))).run Tryz.prog w = .ok (decide (a = b)) w := by
  have hf : Tryz.prog.fieldsOf 72 = #[qcF 0, qcF 1] := by unfold Program.fieldsOf; rw [undqc]
  have h1 : ∀ w, (part 29 (clC a) 0).run Tryz.prog w = .ok (.agg (adC a.1)) w := fun w => part_addr _ ha w
  have h2 : ∀ w, (part 29 (clC b) 0).run Tryz.prog w = .ok (.agg (adC b.1)) w := fun w => part_addr _ hb w
  have h3 := part_cell (t := 23) (by kernel_rfl) (clC a) 20 _ (clC_20 ha)
  have h4 := part_cell (t := 23) (by kernel_rfl) (clC b) 20 _ (clC_20 hb)
  have h5 := equalIn_addr 9997 ha hb
  rw [show (10000 : Nat) = 9999 + 1 from rfl, run_equalIn_struct w 9999 _ _ _ (by rw [hf]; exact undqc) (by kernel_rfl), hf]
  show (Op.eqFields 9999 (clC a) (clC b) [qcF 0, qcF 1]).run Tryz.prog w = _
  simp only [Op.eqFields, qcF0.1, qcF0.2.1, qcF0.2.2, qcF1.1, qcF1.2.1, qcF1.2.2]
  rw [if_pos (by decide), if_pos (by decide)]
  simp only [Sem.run_bind, h1, h2, h3, h4, Result.andThen_ok, Sem.run_ite, Sem.run_pure]
  rw [show (9999 : Nat) = 9997 + 1 + 1 from rfl, h5, show (9997 + 1 + 1 : Nat) = 9998 + 1 from rfl]
  simp only [Result.andThen_ok, run_equalIn_int _ 9998 _ _ _ _ _ und_lab, intbeq]
  obtain ⟨a1, a2⟩ := a
  obtain ⟨b1, b2⟩ := b
  by_cases e1 : a1 = b1
  · by_cases e2 : a2 = b2
    · simp [e1, e2]
    · simp [e1, e2]
  · simp [e1]
theorem equalIn_release {a b : List Nat × Nat × Nat} (ha : Ad a.1) (hb : Ad b.1) (w : World) : (Op.equalIn 10000 74 (.agg (rlC a)) (.agg (rlC b))).run Tryz.prog w = .ok (decide (a = b)) w := by
  have hf : Tryz.prog.fieldsOf 74 = #[qrF 0, qrF 1, qrF 2] := by unfold Program.fieldsOf; rw [undqr]
  have h1 : ∀ w, (part 29 (rlC a) 0).run Tryz.prog w = .ok (.agg (adC a.1)) w := fun w => part_addr _ ha w
  have h2 : ∀ w, (part 29 (rlC b) 0).run Tryz.prog w = .ok (.agg (adC b.1)) w := fun w => part_addr _ hb w
  have h3 := part_cell (t := 30) (by kernel_rfl) (rlC a) 20 _ (rlC_20 ha).1
  have h4 := part_cell (t := 30) (by kernel_rfl) (rlC b) 20 _ (rlC_20 hb).1
  have h6 := part_cell (t := 23) (by kernel_rfl) (rlC a) 21 _ (rlC_20 ha).2
  have h7 := part_cell (t := 23) (by kernel_rfl) (rlC b) 21 _ (rlC_20 hb).2
  have h5 := equalIn_addr 9997 ha hb
  rw [show (10000 : Nat) = 9999 + 1 from rfl, run_equalIn_struct w 9999 _ _ _ (by rw [hf]; exact undqr) (by kernel_rfl), hf]
  show (Op.eqFields 9999 (rlC a) (rlC b) [qrF 0, qrF 1, qrF 2]).run Tryz.prog w = _
  simp only [Op.eqFields, qrF0.1, qrF0.2.1, qrF0.2.2, qrF1.1, qrF1.2.1, qrF1.2.2, qrF2.1, qrF2.2.1, qrF2.2.2]
  rw [if_pos (by decide), if_pos (by decide), if_pos (by decide)]
  simp only [Sem.run_bind, h1, h2, h3, h4, h6, h7, Result.andThen_ok, Sem.run_ite, Sem.run_pure]
  rw [show (9999 : Nat) = 9997 + 1 + 1 from rfl, h5, show (9997 + 1 + 1 : Nat) = 9998 + 1 from rfl]
  simp only [Result.andThen_ok, run_equalIn_int _ 9998 _ _ _ _ _ und_lab, run_equalIn_int _ 9998 _ _ _ _ _ und_u32, intbeq]
  obtain ⟨a1, a2, a3⟩ := a
  obtain ⟨b1, b2, b3⟩ := b
  by_cases e1 : a1 = b1
  · by_cases e2 : a2 = b2
    · by_cases e3 : a3 = b3
      · simp [e1, e2, e3]
      · simp [e1, e2, e3]
    · simp [e1, e2]
  · simp [e1]
theorem neq_clear {a b : List Nat × Nat} (ha : Ad a.1) (hb : Ad b.1) (w : World) : (binOp .neq 72 (.agg (clC a)) (.agg (clC b))).run Tryz.prog w = .ok (.bool (!decide (a = b))) w := by
  rw [run_neq_struct, equalIn_clear ha hb]
  rfl
theorem neq_release {a b : List Nat × Nat × Nat} (ha : Ad a.1) (hb : Ad b.1) (w : World) : (binOp .neq 74 (.agg (rlC a)) (.agg (rlC b))).run Tryz.prog w = .ok (.bool (!decide (a = b))) w := by
  rw [run_neq_struct, equalIn_release ha hb]
  rfl
end Go.Proofs.YtenepkgjdoddgaaGreatDoor
