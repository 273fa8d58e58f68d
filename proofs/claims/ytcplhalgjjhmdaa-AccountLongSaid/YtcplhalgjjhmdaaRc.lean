/- policy: rules in memory; Clearance. -/
import Derived.Test.YtcplhalgjjhmdaaRb
import Derived.Deep.MidRow
import Derived.Deep.WholeRow
import Derived.Deep.DeepCutAuto
namespace Go.Proofs.Ytcplhalgjjhmdaa
open Go.RowKit Go.Shelf

/-- A clearance's cells, a release's. -/
def clC (c : List Nat × Nat) : Array Value := (bvs c.1 ++ [Value.int .u64 (c.2 : Nat)]).toArray
def rlC (r : List Nat × Nat × Nat) : Array Value := (bvs r.1 ++ [Value.int .u32 (r.2.1 : Nat), Value.int .u64 (r.2.2 : Nat)]).toArray
/-- A slice that reads as clearances. -/
def ClA (X : World) (v : Value) (cs : List (List Nat × Nat)) : Prop := (∀ c ∈ cs, Ad c.1 ∧ c.2 < 18446744073709551616) ∧ ∃ x cap, v = .slice x cs.length cap ∧ cs.length ≤ 9223372036854775807 ∧ (cs ≠ [] → ∃ b o, x = some ⟨b, o, none⟩ ∧ b < X.heap.size ∧ ∀ k c, cs[k]? = some c → X.rangeAt b (o + k * 21) (clC c).toList)
def RlA (X : World) (v : Value) (rs : List (List Nat × Nat × Nat)) : Prop := (∀ r ∈ rs, Ad r.1 ∧ r.2.1 < 4294967296 ∧ r.2.2 < 18446744073709551616) ∧ ∃ x cap, v = .slice x rs.length cap ∧ rs.length ≤ 9223372036854775807 ∧ (rs ≠ [] → ∃ b o, x = some ⟨b, o, none⟩ ∧ b < X.heap.size ∧ ∀ k r, rs[k]? = some r → X.rangeAt b (o + k * 22) (rlC r).toList)
theorem range_new {X Y : World} {b o : Nat} {cs : List Value} (h : X.rangeAt b o cs) (hb : b < X.heap.size) (k : Below X.heap.size X Y) : Y.rangeAt b o cs := fun j v hv => (k.cell (p := ⟨b, o + j, none⟩) hb).trans (h j v hv)
theorem ClA.new {X Y : World} {v : Value} {cs : List (List Nat × Nat)} (h : ClA X v cs) (k : Below X.heap.size X Y) : ClA Y v cs := by
  obtain ⟨h1, x, cap, h2, h3, h4⟩ := h
  exact ⟨h1, x, cap, h2, h3, fun hne => by obtain ⟨b, o, g1, g2, g3⟩ := h4 hne; exact ⟨b, o, g1, Nat.lt_of_lt_of_le g2 k.size, fun i c hc => range_new (g3 i c hc) g2 k⟩⟩
theorem RlA.new {X Y : World} {v : Value} {rs : List (List Nat × Nat × Nat)} (h : RlA X v rs) (k : Below X.heap.size X Y) : RlA Y v rs := by
  obtain ⟨h1, x, cap, h2, h3, h4⟩ := h
  exact ⟨h1, x, cap, h2, h3, fun hne => by obtain ⟨b, o, g1, g2, g3⟩ := h4 hne; exact ⟨b, o, g1, Nat.lt_of_lt_of_le g2 k.size, fun i c hc => range_new (g3 i c hc) g2 k⟩⟩
theorem und_addr : Try.prog.underlying 28 = some (.array 20 5) := by kernel_rfl
theorem clC_len {c : List Nat × Nat} (h : Ad c.1) : (clC c).toList.length = 21 := by unfold clC; simp [bvs_len, h.1]
theorem rlC_len {r : List Nat × Nat × Nat} (h : Ad r.1) : (rlC r).toList.length = 22 := by unfold rlC; simp [bvs_len, h.1]
theorem info_addr : (Try.prog.info? 28).map (·.size) = some 20 := by kernel_rfl
theorem load_addr {a : List Nat} (h : Ad a) (X : World) (b o : Nat) (hc : X.rangeAt b o (bvs a)) : (Instr.loadAt 28 (.pointer (some ⟨b, o, none⟩))).run Try.prog X = .ok (.agg (adC a)) X := by
  have h := run_loadAt_mid (P := Try.prog) X b o 28 (bvs a) _ hc und_addr rfl (by rw [info_addr, bvs_len, h.1])
  unfold adC
  exact h
/-- The address of a clearance, its label. -/
theorem cl_addr {c : List Nat × Nat} {X : World} {b o : Nat} (hc : X.rangeAt b o (clC c).toList) : X.rangeAt b o (bvs c.1) := fun j v hv => hc j v (by unfold clC; rw [List.getElem?_append_left (List.getElem?_eq_some_iff.1 hv).1]; exact hv)
theorem cl_label {c : List Nat × Nat} (h : Ad c.1) {X : World} {b o : Nat} (hc : X.rangeAt b o (clC c).toList) : X.cell? ⟨b, o + 20, none⟩ = some (.int .u64 (c.2 : Nat)) := hc 20 _ (by unfold clC; rw [List.getElem?_append_right (by rw [bvs_len, h.1]; exact Nat.le_refl _), bvs_len, h.1]; rfl)
theorem rl_addr {r : List Nat × Nat × Nat} {X : World} {b o : Nat} (hc : X.rangeAt b o (rlC r).toList) : X.rangeAt b o (bvs r.1) := fun j v hv => hc j v (by unfold rlC; rw [List.getElem?_append_left (List.getElem?_eq_some_iff.1 hv).1]; exact hv)
theorem rl_entry {r : List Nat × Nat × Nat} (h : Ad r.1) {X : World} {b o : Nat} (hc : X.rangeAt b o (rlC r).toList) : X.cell? ⟨b, o + 20, none⟩ = some (.int .u32 (r.2.1 : Nat)) := hc 20 _ (by unfold rlC; rw [List.getElem?_append_right (by rw [bvs_len, h.1]; exact Nat.le_refl _), bvs_len, h.1]; rfl)
theorem rl_target {r : List Nat × Nat × Nat} (h : Ad r.1) {X : World} {b o : Nat} (hc : X.rangeAt b o (rlC r).toList) : X.cell? ⟨b, o + 21, none⟩ = some (.int .u64 (r.2.2 : Nat)) := hc 21 _ (by unfold rlC; rw [List.getElem?_append_right (by rw [bvs_len, h.1]; omega), bvs_len, h.1]; rfl)
set_option maxRecDepth 100000 in
theorem eq_addr {a b : List Nat} (ha : Ad a) (hb : Ad b) (w : World) : (binOp .eql 28 (.agg (adC a)) (.agg (adC b))).run Try.prog w = .ok (.bool (decide (a = b))) w := by
  obtain ⟨i, hi⟩ : ∃ i, Try.prog.info? 5 = some i := Option.isSome_iff_exists.1 (by kernel_rfl)
  have h := run_eql_ints (P := Try.prog) und_addr (show Try.prog.underlying 5 = some (.int .u8) by kernel_rfl) hi (by kernel_rfl) (adC a) (adC b) (fun j => ((a.getD j 0 : Nat) : Int)) (fun j => ((b.getD j 0 : Nat) : Int)) (fun j hj => by
    have h1 : j < a.length := by rw [ha.1]; exact hj
    have h2 : j < b.length := by rw [hb.1]; exact hj
    rw [adC_get, adC_get, List.getElem?_eq_getElem h1, List.getElem?_eq_getElem h2, List.getD_eq_getElem?_getD, List.getD_eq_getElem?_getD, List.getElem?_eq_getElem h1, List.getElem?_eq_getElem h2]
    exact ⟨rfl, rfl⟩) w
  rw [h]
  refine congrArg (fun b => Result.ok (Value.bool b) w) ?_
  rw [Bool.eq_iff_iff, List.all_eq_true, decide_eq_true_iff]
  constructor
  · intro h
    apply List.ext_getElem?
    intro j
    by_cases hj : j < 20
    · have h1 : j < a.length := by rw [ha.1]; exact hj
      have h2 : j < b.length := by rw [hb.1]; exact hj
      have h3 := h j (List.mem_range.2 hj)
      simp only [List.getD_eq_getElem?_getD, List.getElem?_eq_getElem h1, List.getElem?_eq_getElem h2, Option.getD_some, beq_iff_eq, Int.natCast_inj] at h3
      rw [List.getElem?_eq_getElem h1, List.getElem?_eq_getElem h2, h3]
    · rw [List.getElem?_eq_none (by rw [ha.1]; omega), List.getElem?_eq_none (by rw [hb.1]; omega)]
  · intro h j _
    rw [h]
    simp
theorem wpList_load_midA {P : Program} {ops : Array Oper} {rest : List Oper} {op : Oper} {a : Act} {w : World} {Q : Exit → Act → World → Prop} (hgd : op.guard = none) (ty : TypeId) (x : Operand) (ho : op.op = .load ty x)
    (b o : Nat) (hx : a.eval x = .pointer (some ⟨b, o, none⟩)) (cs : Array Value) (d : TypeDesc) (hc : w.rangeAt b o cs.toList)
    (hu : P.underlying ty = some d) (hd : d.isRow = true) (hi : (P.info? ty).map (·.size) = some cs.size)
    (h : wpList P ops Q rest (a.put op.dst (.agg cs)) w) : wpList P ops Q (op :: rest) a w :=
  wpList_load_mid hgd ty x ho b o hx cs.toList d hc hu hd (by simpa using hi) (by rwa [Array.toArray_toList])
def zcC : Array Value := #[.int .u8 0, .int .u8 0, .int .u8 0, .int .u8 0, .int .u8 0, .int .u8 0, .int .u8 0, .int .u8 0, .int .u8 0, .int .u8 0, .int .u8 0, .int .u8 0, .int .u8 0, .int .u8 0, .int .u8 0, .int .u8 0, .int .u8 0, .int .u8 0, .int .u8 0, .int .u8 0, .int .u64 0]
theorem zcC_lit : zcC = #[.int .u8 0, .int .u8 0, .int .u8 0, .int .u8 0, .int .u8 0, .int .u8 0, .int .u8 0, .int .u8 0, .int .u8 0, .int .u8 0, .int .u8 0, .int .u8 0, .int .u8 0, .int .u8 0, .int .u8 0, .int .u8 0, .int .u8 0, .int .u8 0, .int .u8 0, .int .u8 0, .int .u64 0] := rfl
attribute [irreducible] zcC
theorem clC_size {c : List Nat × Nat} (h : Ad c.1) : (clC c).size = 21 := by have := clC_len h; rwa [Array.length_toList] at this
theorem clC_one (c : List Nat × Nat) : (clC c).all (·.oneCell') = true := by
  unfold clC
  refine all_oneCell_toArray fun v hv => ?_
  rcases List.mem_append.1 hv with h | h
  · exact bvs_one c.1 v h
  · simp at h; subst h; rfl
theorem adC_size {a : List Nat} (h : Ad a) : (adC a).size = 20 := by unfold adC; simp [bvs_len, h.1]
theorem adC_list (a : List Nat) : (adC a).toList = bvs a := by unfold adC; rfl
theorem Blk.range {X : World} {b : Nat} {t : TypeId} {cs : Array Value} (h : Blk X b t cs) : X.rangeAt b 0 cs.toList := fun j v hv => by
  rw [Nat.zero_add, cell_of_row _ _ j _ _ _ h, ← Array.getElem?_toList]
  exact hv
/-- What an address may know. -/
def clr (d : Nat) (a : List Nat) : List (List Nat × Nat) → Nat
  | [] => d
  | c :: cs => if c.1 = a then c.2 else clr d a cs
theorem clr_step (d : Nat) (a : List Nat) (cs : List (List Nat × Nat)) (k : Nat) (c : List Nat × Nat) (h : cs[k]? = some c) : clr d a (cs.drop k) = if c.1 = a then c.2 else clr d a (cs.drop (k + 1)) := by
  rw [List.drop_eq_getElem_cons (List.getElem?_eq_some_iff.1 h).1, (List.getElem?_eq_some_iff.1 h).2]
  rfl

end Go.Proofs.Ytcplhalgjjhmdaa
