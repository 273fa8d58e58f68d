/- policy's laws: a name read back; an order of words; two addresses as an argument. -/
import Derived.Test.YtenepkgjdoddgaaGreatDoorPi
import Derived.Test.YtenepkgjdoddgaaGreatDoorWz
import Derived.Test.YtenepkgjdoddgaaGreatDoorAm
namespace Go.Proofs.YtenepkgjdoddgaaGreatDoor
open Go.RowKit Go.Shelf Go.ChangeShapes Go.WideShapes Go.ChangeAt
attribute [local irreducible] lb
theorem dv_hdg' : ∀ d : Fin 16, dv (hdg d.val) = d.val := by decide +kernel
theorem dv_hdg (d : Nat) (h : d < 16) : dv (hdg d) = d := dv_hdg' ⟨d, h⟩
theorem dgsA_ok {a : List Nat} (h : ∀ x ∈ a, x < 256) : ∀ y ∈ dgsA a, dv y < 16 := fun y hy => by
  unfold dgsA at hy
  obtain ⟨x, hx, hy⟩ := List.mem_flatMap.1 hy
  have := h x hx
  simp only [List.mem_cons, List.mem_nil_iff, or_false] at hy
  rcases hy with rfl | rfl
  · rw [dv_hdg _ (by omega)]; omega
  · rw [dv_hdg _ (by omega)]; omega
theorem dgsA_fold : ∀ (a : List Nat), (∀ x ∈ a, x < 256) → ∀ n, (dgsA a).foldl (fun n b => n * 16 + dv b) n = a.foldl (fun a x => a * 256 + x) n
  | [], _, n => rfl
  | x :: a, h, n => by
    have hx := h x (by simp)
    show (dgsA a).foldl (fun n b => n * 16 + dv b) ((n * 16 + dv (hdg (x / 16))) * 16 + dv (hdg (x % 16))) = a.foldl (fun a x => a * 256 + x) (n * 256 + x)
    rw [dgsA_fold a (fun y hy => h y (by simp [hy])), dv_hdg _ (by omega), dv_hdg _ (by omega)]
    congr 1
    omega
theorem dgsA_val {a : List Nat} (h : ∀ x ∈ a, x < 256) : valL (dgsA a) = bv a := by unfold valL bv; exact dgsA_fold a h 0
theorem address_name (a : List Nat) (ha : Ad a) (w : World) :
    Calls Tryz.prog 26 #[.string ⟨(nmL a).toArray⟩] w fun e w' => e = .returned (.tuple #[.agg (adC a), .int .i64 0]) ∧ Below w.heap.size w w' := by
  have h := address_ok (dgsA a) (dgsA_len ha) (dgsA_ok ha.2) w
  rwa [← nmL_dgs, dgsA_val ha.2, low_bv ha] at h
theorem bv_MM {a : List Nat} (ha : Ad a) : bv a < MM := by
  rw [MM_256]
  exact Nat.lt_of_lt_of_le ha.lt (Nat.pow_le_pow_right (by omega) (by omega))
theorem wdorder_any (a b : List Nat) (ha : Ad a) (hb : Ad b) (w : World) :
    Calls Tryz.prog 36 #[W (bv a), W (bv b)] w fun e w' => e = .returned (.int .i64 (ordN (bv a) (bv b))) ∧ Below w.heap.size w w' :=
  wrorder_any (bv a) (bv b) (bv_MM ha) (bv_MM hb) w
/-- Two addresses' cells. -/
def adC2 (a b : List Nat) : Array Value := (bvs a ++ bvs b).toArray
section
variable {H : Type} {enc : TypeId × Value → H} {X : World} {base : Nat} {sp : Nat → Bool} {held : Bool}
set_option maxRecDepth 100000 in
theorem arg_pair {r : Reach} {b0 : Nat} {v : Value} {d : DataW H} {p : List MemPlace} (hv : Value.okWide Tryz.prog X r b0 56 v) (h : DataW.Trod enc Tryz.prog X base sp held 56 v d p) : ∃ a b, Ad a ∧ Ad b ∧ v = .agg (adC2 a b) := by
  have hu : Tryz.prog.underlying 56 = some (.array 2 29) := by kernel_rfl
  have hc : Tryz.prog.cellsOf 56 = 40 := by kernel_rfl
  simp only [Value.okWide, hu] at hv
  obtain ⟨cs, rfl, h2, _⟩ := hv
  rw [hc] at h2
  obtain ⟨fuel, hf⟩ := h
  obtain ⟨xs, m, _, _, hl, hx, hg⟩ := DataW.trod_array hu hf
  rw [cofA] at hg
  have e0 := hg 0 (by omega)
  have e1 := hg 1 (by omega)
  rw [List.getElem?_eq_getElem (by omega)] at e0 e1
  obtain ⟨a, ha, q0⟩ := addr_open e0
  obtain ⟨b, hb, q1⟩ := addr_open e1
  refine ⟨a, b, ha, hb, ?_⟩
  simp only [Value.cells, Nat.zero_mul, Nat.one_mul, List.drop_zero] at q0 q1
  rw [List.take_of_length_le (i := 20) (by rw [List.length_drop]; simp [h2])] at q1
  have q : cs.toList = bvs a ++ bvs b := by rw [← q0, ← q1, List.take_append_drop]
  unfold adC2
  rw [← q]
end
end Go.Proofs.YtenepkgjdoddgaaGreatDoor
