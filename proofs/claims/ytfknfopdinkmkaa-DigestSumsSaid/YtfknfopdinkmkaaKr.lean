/- digest: DigestHolds' walk. -/
import Derived.Test.YtfknfopdinkmkaaKq
import Derived.Test.YtfknfopdinkmkaaPb
import Derived.Deep.RegionHeld3
namespace Go.Proofs.Ytfknfopdinkmkaa
open Go.RowKit Go.Shelf

theorem yieldsIf_load_A {P : Program} {ops : Array Oper} {S : World → Prop} {op : Oper} {a : Act} (hw : Region.wanted op (yielded ops a.tmps) = true) (ty : TypeId) (x : Operand) (ho : op.op = .load ty x)
    (b o : Nat) (hx : a.eval x = .pointer (some ⟨b, o, none⟩)) (cs : Array Value) (d : TypeDesc) (hS : ∀ w, S w → w.rangeAt b o cs.toList)
    (hu : P.underlying ty = some d) (hd : d.isRow = true) (hi : (P.info? ty).map (·.size) = some cs.size) : YieldsIf P ops S op (.agg cs) a := by
  have h := yieldsIf_load_mid (P := P) (ops := ops) (S := S) hw ty x ho b o hx cs.toList d hS hu hd hi
  rwa [Array.toArray_toList] at h
/-- Are the first 25 numbers alike? -/
def al25 (f g : Nat → Ln) : Bool := (List.range 25).all fun j => ln (f j) == ln (g j)
theorem al25_iff (f g : Nat → Ln) : al25 f g = true ↔ EqOn f g := by
  unfold al25
  rw [List.all_eq_true]
  constructor
  · intro h i hi
    exact ln_inj (by simpa using h i (List.mem_range.2 hi))
  · intro h x hx
    rw [h x (List.mem_range.1 hx)]; simp
theorem eq25 (f g : Nat → Ln) (w : World) : (binOp .eql 42 (.agg (Fc 25 f)) (.agg (Fc 25 g))).run Try.prog w = .ok (.bool (al25 f g)) w := by
  obtain ⟨i, hi⟩ : ∃ i, Try.prog.info? 27 = some i := Option.isSome_iff_exists.1 (by kernel_rfl)
  exact run_eql_ints und25 (show Try.prog.underlying 27 = some (.int .u64) by kernel_rfl) hi (by kernel_rfl) _ _ _ _ (fun j hj => ⟨Fc_get 25 f j hj, Fc_get 25 g j hj⟩) w
def TF (f : Nat → Ln) : Nat → Ln := tnP (upd f 25 0#64) 24
theorem TF_on (f : Nat → Ln) : EqOn (TF f) (rnds f 24) := (tnP_on _ 24).trans (rnds_on (fun i hi => by unfold upd; rw [if_neg (by omega)]) 24)
theorem TF_al (f g : Nat → Ln) : al25 (TF f) (TF g) = al25 f g := by
  rw [Bool.eq_iff_iff, al25_iff, al25_iff]
  constructor
  · intro h; exact rnds_inj 24 ((TF_on f).symm.trans (h.trans (TF_on g)))
  · intro h; exact (TF_on f).trans ((rnds_on h 24).trans (TF_on g).symm)
attribute [local irreducible] ln rot Fc TF al25
end Go.Proofs.Ytfknfopdinkmkaa
