/- policy's laws: a name read back; an order of words; two addresses as an argument. -/
import Derived.Test.YtenepkgjdoddgaaGreatDoorPi
import Derived.Test.YtenepkgjdoddgaaGreatDoorWz
import Derived.Test.YtenepkgjdoddgaaGreatDoorAm
namespace Go.Proofs.YtenepkgjdoddgaaGreatDoor
open Go.RowKit Go.Shelf Go.ChangeShapes Go.WideShapes Go.ChangeAt
attribute [local irreducible] lb
theorem dv_hdg' : ∀ d : Fin 16, dv (hdg d.val) = d.val := by decide +kernel
theorem dv_hdg (d : Nat) (h : d < 16) : dv (hdg d) = d := dv_hdg' ⟨d, h⟩
theorem dgsA_ok {a : List Nat} (h : ∀ x ∈ a, x < 256) : ∀ y ∈ dgsA a, dv y < 16 := fun y hy => by
  unfold dgsA at hy
  obtain ⟨x, hx, hy⟩ := List.mem_flatMap.1 hy
  have := h x hx
  simp only [List.mem_cons, List.mem_nil_iff, or_false] at hy
  rcases hy with rfl | rfl
  · rw [dv_hdg _ (by omega)]; omega
  · rw [dv_hdg _ (by omega)]; omega
theorem dgsA_fold : ∀ (a : List Nat), (∀ x ∈ a, x < 256) → ∀ n, (dgsA a).foldl (fun n b => n * 16 + dv b) n = a.foldl (fun a x => a * 256 + x) n
  | [], _, n => rfl
  | x :: a, h, n => by
    have hx := h x (by simp)
    show (dgsA a).foldl (fun n b => n * 16 + dv b) ((n * 16 + dv (hdg (x / 16))) * 16 + dv (hdg (x % 16))) = a.foldl (fun a x => a * 256 + x) (n * 256 + x)
    rw [dgsA_fold a (fun y hy => h y (by simp [hy])), dv_hdg _ (by omega), dv_hdg _ (by omega)]
    congr 1
    omega
theorem dgsA_val {a : List Nat} (h : ∀ x ∈ a, x < 256) : valL (dgsA a) = bv a := by unfold valL bv; exact dgsA_fold a h 0
/-- Two addresses' cells. -/
def adC2 (a b : List Nat) : Array Value := (bvs a ++ bvs b).toArray
section
variable {H : Type} {enc : TypeId × Value → H} {X : World} {base : Nat} {sp : Nat → Bool} {held : Bool}
end
end Go.Proofs.YtenepkgjdoddgaaGreatDoor
