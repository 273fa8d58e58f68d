/- split: SplitSteps' walk. -/
import Derived.Test.YthdapmceafnhgaaUa
import Derived.Test.YthdapmceafnhgaaTk
import Derived.Deep.RegionHeld
namespace Go.Proofs.Ythdapmceafnhgaa
open Go.RowKit Go.Shelf
attribute [local go_sem] ix0 ix1 ix2 ix3
attribute [local irreducible] lb mdN
theorem fw_get (a b x t : Nat) (ht : t < 4) : ∀ N, x < N → (fw a b N)[x * 4 + t]? = some (.int .u64 (lb (eu a b x) t))
  | 0, h => by omega
  | N + 1, h => by
    rw [fw]
    by_cases e : x = N
    · subst e
      rw [List.getElem?_append_right (by rw [fw_length]; omega), fw_length, Nat.add_sub_cancel_left]
      match t, ht with
      | 0, _ | 1, _ | 2, _ | 3, _ => rfl
    · rw [List.getElem?_append_left (by rw [fw_length]; omega)]
      exact fw_get a b x t ht N (by omega)
/-- What a row owned is, as a slice. -/
theorem owns_slice {X : World} {base : Nat} {e : TypeId} {size : Nat} {v : Value} {n : Nat} {xs : List Value} (h : X.ownsRow base e size v n xs) : ∃ x cap, v = .slice x n cap ∧ (0 < n → ∃ g, x = some ⟨g, 0, none⟩ ∧ base ≤ g ∧ g < X.heap.size) := by
  rcases h.2 with ⟨h1, h2⟩ | ⟨g, cap, cur, hv, hb, hg, r⟩
  · exact ⟨none, 0, by rw [h1, h2], fun h => by omega⟩
  · exact ⟨some ⟨g, 0, none⟩, cap, hv, fun _ => ⟨g, rfl, hb, (Array.getElem?_eq_some_iff.1 hg).1⟩⟩

theorem Abide.owns {β : Type} {B base : Nat} {e : TypeId} {size : Nat} {v : Value} {n : Nat} {xs : List Value} {X0 : World} (h0 : X0.ownsRow base e size v n xs) (hB : X0.heap.size ≤ B) : Abide B (fun (_ : β) X => X.ownsRow base e size v n xs) := fun _ X Y row hs hg hr =>
  hs.kept hg (by
    cases hv : v.ownBlock with
    | none => exact .inl rfl
    | some g =>
      refine .inr fun e => ?_
      have h1 := (h0.lt g hv).2
      have h2 := hr g e.symm
      omega)
/-- What stands in the law's boxes all the while: the bound asked for, the answer, the reference's row, the iterator's two words. -/
def SF (a b N : Nat) (n : Int) (x : Option Addr) (cap gs gA : Nat) (w X : World) : Prop :=
  (((((Blk X (w.heap.size + 1 + 1) 3 #[.int .i64 n] ∧ Blk X (w.heap.size + 1 + 1 + 1) 4 #[.bool false]) ∧ Blk X gs 25 #[.slice x N cap]) ∧ X.ownsRow (w.heap.size + 4) 24 4 (.slice x N cap) N (fw a b N)) ∧ Blk X gA 24 (Wc a)) ∧ Blk X (gA + 1) 24 (Wc b)) ∧ Below w.heap.size w X
theorem SF.abide {β : Type} {a b N : Nat} {n : Int} {x : Option Addr} {cap gs gA : Nat} {w X0 : World} {B : Nat} (h : SF a b N n x cap gs gA w X0) (hB : X0.heap.size ≤ B) : Abide B (fun (_ : β) X => SF a b N n x cap gs gA w X) := by
  obtain ⟨⟨⟨⟨⟨⟨h1, h2⟩, h3⟩, h4⟩, h5⟩, h6⟩, h7⟩ := h
  exact ((((((Abide.blk (Nat.lt_of_lt_of_le h1.lt hB) _ (fun _ => _)).and (Abide.blk (Nat.lt_of_lt_of_le h2.lt hB) _ (fun _ => _))).and (Abide.blk (Nat.lt_of_lt_of_le h3.lt hB) _ (fun _ => _))).and (Abide.owns h4 hB)).and (Abide.blk (Nat.lt_of_lt_of_le h5.lt hB) _ (fun _ => _))).and (Abide.blk (Nat.lt_of_lt_of_le h6.lt hB) _ (fun _ => _))).and (Abide.below (Nat.le_refl _) (Nat.le_trans h7.size hB))
theorem SF.alloc {a b N : Nat} {n : Int} {x : Option Addr} {cap gs gA : Nat} {w X : World} (h : SF a b N n x cap gs gA w X) (o : Obj) : SF a b N n x cap gs gA w (X.alloc o) := (SF.abide (β := Unit) h (Nat.le_refl _)).alloc (s := ()) o h
theorem SF.new {a b N : Nat} {n : Int} {x : Option Addr} {cap gs gA : Nat} {w X Y : World} (h : SF a b N n x cap gs gA w X) (k : Below X.heap.size X Y) : SF a b N n x cap gs gA w Y := (SF.abide (β := Unit) h (Nat.le_refl _)).new (s := ()) h k
/-- The wanted word at its place, as cells. -/
theorem SF.want {a b N : Nat} {n : Int} {x : Option Addr} {cap gs gA : Nat} {w X : World} (h : SF a b N n x cap gs gA w X) {k : Nat} (hk : k < N) : ∃ g, x = some ⟨g, 0, none⟩ ∧ g < X.heap.size ∧ ∀ t, t < 4 → X.cell? ⟨g, k * 4 + t, none⟩ = some (.int .u64 (lb (eu a b k) t)) := by
  have hown := h.1.1.1.2
  obtain ⟨x', cap', hv, hx⟩ := owns_slice hown
  cases hv
  obtain ⟨g, rfl, hg, hgl⟩ := hx (by omega)
  refine ⟨g, rfl, hgl, fun t ht => ?_⟩
  have h1 := hown.cells (g := g) rfl (k * 4 + t) _ (fw_get a b k t ht N hk)
  have e : ∀ j, (⟨g, 0, none⟩ : Addr).add j = ⟨g, j, none⟩ := fun j => by
    unfold Addr.add
    split
    · rename_i h; subst h; rfl
    · simp
  rw [e] at h1
  exact h1
end Go.Proofs.Ythdapmceafnhgaa
