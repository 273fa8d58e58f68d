/- split: SplitSteps' walk. -/
import Derived.Test.YtidpekcegocjfaaDoorUa
import Derived.Test.YtidpekcegocjfaaDoorPc
import Derived.Deep.RegionHeld
namespace Go.Proofs.YtidpekcegocjfaaDoor
open Go.RowKit Go.Shelf
attribute [local go_sem] ix0 ix1 ix2 ix3
attribute [local irreducible] lb mdN
theorem fw_get (a b x t : Nat) (ht : t < 4) : ∀ N, x < N → (fw a b N)[x * 4 + t]? = some (.int .u64 (lb (eu a b x) t))
  | 0, h => by omega
  | N + 1, h => by
    rw [fw]
    by_cases e : x = N
    · subst e
      rw [List.getElem?_append_right (by rw [fw_length]; omega), fw_length, Nat.add_sub_cancel_left]
      match t, ht with
      | 0, _ | 1, _ | 2, _ | 3, _ => rfl
    · rw [List.getElem?_append_left (by rw [fw_length]; omega)]
      exact fw_get a b x t ht N (by omega)
/-- What a row owned is, as a slice. -/
theorem owns_slice {X : World} {base : Nat} {e : TypeId} {size : Nat} {v : Value} {n : Nat} {xs : List Value} (h : X.ownsRow base e size v n xs) : ∃ x cap, v = .slice x n cap ∧ (0 < n → ∃ g, x = some ⟨g, 0, none⟩ ∧ base ≤ g ∧ g < X.heap.size) := by
  rcases h.2 with ⟨h1, h2⟩ | ⟨g, cap, cur, hv, hb, hg, r⟩
  · exact ⟨none, 0, by rw [h1, h2], fun h => by omega⟩
  · exact ⟨some ⟨g, 0, none⟩, cap, hv, fun _ => ⟨g, rfl, hb, (Array.getElem?_eq_some_iff.1 hg).1⟩⟩

theorem Abide.owns {β : Type} {B base : Nat} {e : TypeId} {size : Nat} {v : Value} {n : Nat} {xs : List Value} {X0 : World} (h0 : X0.ownsRow base e size v n xs) (hB : X0.heap.size ≤ B) : Abide B (fun (_ : β) X => X.ownsRow base e size v n xs) := fun _ X Y row hs hg hr =>
  hs.kept hg (by
    cases hv : v.ownBlock with
    | none => exact .inl rfl
    | some g =>
      refine .inr fun e => ?_
      have h1 := (h0.lt g hv).2
      have h2 := hr g e.symm
      omega)
end Go.Proofs.YtidpekcegocjfaaDoor
