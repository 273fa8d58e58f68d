/- slot's reference: rows in memory, a key's row. -/
import Derived.Test.YtcfnhilcpfiocaaSua
namespace Go.Proofs.Ytcfnhilcpfiocaa
open Go.RowKit Go.Shelf Go.ChangeMaps Go.MapKept

/-- A row: its key, its value now, what that was. -/
abbrev Rw := Nat × (Nat × Nat) × (Nat × Nat)
abbrev rvA (r : Rw) : Array Value := #[.int .u64 (lb r.1 0), .int .u64 (lb r.1 1), .int .u64 (lb r.1 2), .int .u64 (lb r.1 3), .int .u64 (lb r.2.1.1 0), .int .u64 (lb r.2.1.1 1), .int .u64 (lb r.2.1.1 2), .int .u64 (lb r.2.1.1 3), .int .u64 (r.2.1.2 : Nat), .int .u64 (lb r.2.2.1 0), .int .u64 (lb r.2.2.1 1), .int .u64 (lb r.2.2.1 2), .int .u64 (lb r.2.2.1 3), .int .u64 (r.2.2.2 : Nat)]
def rvs (l : List Rw) : List Value := l.flatMap fun r => (rvA r).toList
theorem rvs_len (l : List Rw) : (rvs l).length = l.length * 14 := by
  induction l with
  | nil => rfl
  | cons a l ih =>
    show (_ :: _ :: _ :: _ :: _ :: _ :: _ :: _ :: _ :: _ :: _ :: _ :: _ :: _ :: rvs l).length = _
    simp only [List.length_cons, ih]; omega
theorem rvs_app (l m : List Rw) : rvs l ++ rvs m = rvs (l ++ m) := by unfold rvs; rw [List.flatMap_append]
theorem rvs_get (l : List Rw) : ∀ k j, j < 14 → (rvs l)[k * 14 + j]? = (l[k]?).bind fun r => (rvA r)[j]? := by
  induction l with
  | nil => intro k j _; simp [rvs]
  | cons a l ih =>
    intro k j hj
    cases k with
    | zero =>
      rcases j with _ | _ | _ | _ | _ | _ | _ | _ | _ | _ | _ | _ | _ | _ | j
      · rfl
      · rfl
      · rfl
      · rfl
      · rfl
      · rfl
      · rfl
      · rfl
      · rfl
      · rfl
      · rfl
      · rfl
      · rfl
      · rfl
      · omega
    | succ k =>
      show (_ :: _ :: _ :: _ :: _ :: _ :: _ :: _ :: _ :: _ :: _ :: _ :: _ :: _ :: rvs l)[(k + 1) * 14 + j]? = _
      rw [show (k + 1) * 14 + j = (k * 14 + j) + 1 + 1 + 1 + 1 + 1 + 1 + 1 + 1 + 1 + 1 + 1 + 1 + 1 + 1 by omega]
      simp only [List.getElem?_cons_succ]
      exact ih k j hj
def okR (r : Rw) : Prop := r.1 < MM ∧ okP r.2.1 ∧ okP r.2.2
/-- Rows that the call owns. -/
def OwR (X : World) (base : Nat) (v : Value) (l : List Rw) : Prop := (∀ r ∈ l, okR r) ∧ X.ownsRow base 59 14 v l.length (rvs l)
theorem OwR.is {X : World} {base : Nat} {v : Value} {l : List Rw} (h : OwR X base v l) : ∃ x c, v = .slice x l.length c := by
  rcases h.2.2 with ⟨rfl, hn⟩ | ⟨g, cap, cur, rfl, _⟩
  · exact ⟨none, 0, by rw [hn]⟩
  · exact ⟨_, _, rfl⟩
theorem OwR.nil (X : World) (base : Nat) : OwR X base (.slice none 0 0) [] := ⟨by simp, World.ownsRow_nil _ _ _ _⟩
theorem OwR.kept {X Y : World} {base : Nat} {v : Value} {l : List Rw} {row : Option Nat} (h : OwR X base v l) (hg : X.grownBy Y row) (hne : ∀ r, row = some r → r < base) : OwR Y base v l := by
  refine ⟨h.1, World.ownsRow.kept h.2 hg ?_⟩
  cases hv : v.ownBlock with
  | none => exact .inl rfl
  | some k => exact .inr fun e => by have := (h.2.lt k hv).1; have := hne k e.symm; omega
theorem OwR.keep {X Y : World} {base : Nat} {v : Value} {l : List Rw} (h : OwR X base v l) (k : Below X.heap.size X Y) : OwR Y base v l := h.kept (grown_new k) (fun r e => by cases e)
theorem OwR.at {X : World} {base : Nat} {v : Value} {l : List Rw} (h : OwR X base v l) {k : Nat} {r : Rw} (hk : l[k]? = some r) : ∃ b o c, v = .slice (some ⟨b, o, none⟩) l.length c ∧ b < X.heap.size ∧ ∀ j, j < 14 → X.cell? ⟨b, o + k * 14 + j, none⟩ = (rvA r)[j]? := by
  obtain ⟨y, c, rfl⟩ := h.is
  have h0 := h.2
  rcases h.2.2 with ⟨hv, hn⟩ | ⟨g, cap, cur, hv, _⟩
  · rw [List.eq_nil_of_length_eq_zero hn] at hk; cases hk
  · have hcell : ∀ j, j < 14 → X.cell? ⟨g, 0 + k * 14 + j, none⟩ = (rvA r)[j]? := fun j hj => by
      have hw : (rvs l)[k * 14 + j]? = (rvA r)[j]? := by rw [rvs_get l k j hj, hk]; rfl
      obtain ⟨u, hu⟩ : ∃ u, (rvA r)[j]? = some u := ⟨_, Array.getElem?_eq_getElem (by show j < 14; exact hj)⟩
      have h1 := World.ownsRow.cells h0 (g := g) (by rw [hv]; rfl) (k * 14 + j) u (hw.trans hu)
      rw [Addr.add_lit] at h1
      rw [hu, Nat.add_assoc]
      exact h1
    exact ⟨g, 0, c, by injection hv with e1 _ _; rw [e1], World.block_lt_of_cell? X _ (hcell 0 (by omega)), hcell⟩
/-- A key's row. -/
def rowN (l : List Rw) (n : Nat) : Rw := (l.find? fun r => r.1 == n).getD (n, (0, 0), (0, 0))
theorem rowN_hit {l : List Rw} {k n : Nat} {r : Rw} (hk : l[k]? = some r) (he : r.1 = n) (hp : ∀ x ∈ l.take k, x.1 ≠ n) : rowN l n = r := by
  unfold rowN
  obtain ⟨hl, hr⟩ := List.getElem?_eq_some_iff.1 hk
  have hd : l = l.take k ++ r :: l.drop (k + 1) := (List.take_append_drop k l).symm.trans (by rw [List.drop_eq_getElem_cons hl, hr])
  rw [hd, List.find?_append, List.find?_eq_none.2 (fun x hx => by simpa using hp x hx)]
  simp [he]
theorem rowN_miss {l : List Rw} {n : Nat} (hp : ∀ x ∈ l, x.1 ≠ n) : rowN l n = (n, (0, 0), (0, 0)) := by
  unfold rowN
  rw [List.find?_eq_none.2 (fun x hx => by simpa using hp x hx)]; rfl

end Go.Proofs.Ytcfnhilcpfiocaa
