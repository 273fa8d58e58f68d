/- slot: the document's rows and the storage's maps, in plain lists. -/
import Derived.Test.YtcfnhilcpfiocaaSuc
import Derived.Test.YtcfnhilcpfiocaaStq
namespace Go.Proofs.Ytcfnhilcpfiocaa
open Go.RowKit Go.Shelf

/-! The document's answers in plain lists. -/
abbrev Z2 : Nat × Nat := (0, 0)
def rowQ (l : List Rw) (n : Nat) : Option Rw := l.find? fun r => r.1 == n
theorem rowN_Q (l : List Rw) (n : Nat) : rowN l n = (rowQ l n).getD (n, Z2, Z2) := rfl
def midL (n : Nat) (v u : Nat × Nat) : List Rw := if v ≠ Z2 ∨ u ≠ Z2 then [(n, v, u)] else []
def putL (l : List Rw) (n : Nat) (v : Nat × Nat) : List Rw := l.takeWhile (fun r => decide (r.1 < n)) ++ midL n v (rowN l n).2.2 ++ (l.dropWhile (fun r => decide (r.1 < n))).filter (fun r => decide (r.1 ≠ n))
def settleL (l : List Rw) : List Rw := (l.filter fun r => decide (r.2.1 ≠ Z2)).map fun r => (r.1, r.2.1, r.2.1)
def allL (l : List Rw) : List Rw := l.filter fun r => decide (r.2.1 ≠ Z2)
def RisR (l : List Rw) : Prop := l.Pairwise fun a b => a.1 < b.1
/-- The document's rows tell what the storage's maps hold. -/
def Rel (fv fw : Nat → Option (Nat × Nat)) (l : List Rw) : Prop := RisR l ∧ (∀ r ∈ l, okR r ∧ (r.2.1 ≠ Z2 ∨ r.2.2 ≠ Z2)) ∧ (∀ n, rowN l n = (n, lk2 fv fw n, lk fw n)) ∧ ∀ n, fw n ≠ some Z2
theorem Rel.start : Rel (fun _ => none) (fun _ => none) [] := ⟨List.Pairwise.nil, by simp, fun _ => rfl, by simp⟩
theorem rowQ_mem {l : List Rw} {n : Nat} {r : Rw} (h : rowQ l n = some r) : r ∈ l ∧ r.1 = n := ⟨List.mem_of_find?_eq_some h, by simpa using List.find?_some h⟩
theorem rowQ_of_mem {l : List Rw} (hr : RisR l) {r : Rw} (h : r ∈ l) : rowQ l r.1 = some r := by
  unfold rowQ
  induction l with
  | nil => simp at h
  | cons a l ih =>
    obtain ⟨h1, h2⟩ := List.pairwise_cons.1 hr
    rcases List.mem_cons.1 h with rfl | h
    · simp
    · have := h1 r h
      rw [List.find?_cons_of_neg (by simp; omega)]
      exact ih h2 h
theorem rowQ_none {l : List Rw} {n : Nat} (h : ∀ r ∈ l, r.1 ≠ n) : rowQ l n = none := List.find?_eq_none.2 fun x hx => by simpa using h x hx
theorem rowQ_app (a b : List Rw) (n : Nat) : rowQ (a ++ b) n = (rowQ a n).or (rowQ b n) := by unfold rowQ; rw [List.find?_append]
theorem take_lt (l : List Rw) (n : Nat) : ∀ r ∈ l.takeWhile (fun r => decide (r.1 < n)), r.1 < n := fun r hr => by
  induction l with
  | nil => simp at hr
  | cons a l ih =>
    rw [List.takeWhile_cons] at hr
    split at hr
    · rename_i h
      rcases List.mem_cons.1 hr with rfl | hr
      · simpa using h
      · exact ih hr
    · simp at hr
theorem drop_ge {l : List Rw} (hr : RisR l) (n : Nat) : ∀ r ∈ l.dropWhile (fun r => decide (r.1 < n)), n ≤ r.1 := by
  induction l with
  | nil => simp
  | cons a l ih =>
    obtain ⟨h1, h2⟩ := List.pairwise_cons.1 hr
    intro r h
    rw [List.dropWhile_cons] at h
    split at h
    · exact ih h2 r h
    · rename_i hn
      simp at hn
      rcases List.mem_cons.1 h with rfl | h
      · exact hn
      · have := h1 r h; omega
theorem rowQ_filter {l : List Rw} {m n : Nat} (h : m ≠ n) : rowQ (l.filter fun r => decide (r.1 ≠ n)) m = rowQ l m := by
  unfold rowQ
  induction l with
  | nil => rfl
  | cons a l ih =>
    by_cases ha : a.1 = n
    · rw [List.filter_cons_of_neg (by simp [ha]), List.find?_cons_of_neg (by simp [ha]; omega), ih]
    · rw [List.filter_cons_of_pos (by simp [ha])]
      by_cases hm : a.1 = m
      · rw [List.find?_cons_of_pos (by simp [hm]), List.find?_cons_of_pos (by simp [hm])]
      · rw [List.find?_cons_of_neg (by simp [hm]), List.find?_cons_of_neg (by simp [hm]), ih]
theorem rowN_key {l : List Rw} {n : Nat} : (rowN l n).1 = n := by
  rw [rowN_Q]
  cases h : rowQ l n with
  | none => rfl
  | some r => exact (rowQ_mem h).2
theorem rowN_put {l : List Rw} (hr : RisR l) (n : Nat) (v : Nat × Nat) (m : Nat) : rowN (putL l n v) m = if m = n then (n, v, (rowN l n).2.2) else rowN l m := by
  have ha := take_lt l n
  have hb := drop_ge hr n
  by_cases e : m = n
  · subst e
    rw [if_pos rfl, rowN_Q]
    unfold putL
    rw [rowQ_app, rowQ_app, rowQ_none (fun r h => by have := ha r h; omega), rowQ_none (l := List.filter _ _) (fun r h => by simpa using (List.mem_filter.1 h).2)]
    unfold midL
    split
    · simp [rowQ]
    · rename_i h
      have h1 : v = Z2 := Classical.byContradiction fun q => h (.inl q)
      have h2 : (rowN l m).2.2 = Z2 := Classical.byContradiction fun q => h (.inr q)
      rw [h1, h2]; rfl
  · rw [if_neg e, rowN_Q, rowN_Q]
    unfold putL
    have hmid : rowQ (midL n v (rowN l n).2.2) m = none := rowQ_none fun r h => by
      unfold midL at h
      split at h
      · rw [List.mem_singleton.1 h]; exact fun q => e q.symm
      · simp at h
    rw [rowQ_app, rowQ_app, hmid, Option.or_none, rowQ_filter e, ← rowQ_app, List.takeWhile_append_dropWhile]
theorem ris_put {l : List Rw} (hr : RisR l) (n : Nat) (v : Nat × Nat) : RisR (putL l n v) := by
  have ha := take_lt l n
  have hb := drop_ge hr n
  unfold putL RisR
  rw [List.pairwise_append, List.pairwise_append]
  have hm : ∀ r ∈ midL n v (rowN l n).2.2, r.1 = n := fun r h => by
    unfold midL at h
    split at h
    · rw [List.mem_singleton.1 h]
    · simp at h
  have hf : ∀ r ∈ (l.dropWhile (fun r => decide (r.1 < n))).filter (fun r => decide (r.1 ≠ n)), n < r.1 := fun r h => by
    obtain ⟨h1, h2⟩ := List.mem_filter.1 h
    have := hb r h1
    simp at h2
    omega
  refine ⟨⟨hr.sublist (List.takeWhile_sublist _), ?_, fun a h1 b h2 => by rw [hm b h2]; exact ha a h1⟩, (hr.sublist (List.dropWhile_sublist _)).sublist List.filter_sublist, fun a h1 b h2 => ?_⟩
  · unfold midL; split <;> simp
  · have q := hf b h2
    rcases List.mem_append.1 h1 with h | h
    · have := ha a h; omega
    · rw [hm a h]; exact q
theorem Rel.put {fv fw : Nat → Option (Nat × Nat)} {l : List Rw} (h : Rel fv fw l) (n : Nat) (hn : n < MM) (v : Nat × Nat) (hv : okP v) : Rel (upd fv n (putO v (lk fw n))) fw (putL l n v) := by
  obtain ⟨h1, h2, h3, h4⟩ := h
  refine ⟨ris_put h1 n v, fun r hr => ?_, fun m => ?_, h4⟩
  · unfold putL at hr
    rcases List.mem_append.1 hr with hr | hr
    · rcases List.mem_append.1 hr with hr | hr
      · exact h2 r (List.takeWhile_subset _ hr)
      · unfold midL at hr
        split at hr
        · rename_i hq
          rw [List.mem_singleton.1 hr]
          refine ⟨⟨hn, hv, ?_⟩, hq⟩
          show okP (rowN l n).2.2
          rw [rowN_Q]
          cases hf : rowQ l n with
          | none => exact okP0
          | some r => exact (h2 r (rowQ_mem hf).1).1.2.2
        · simp at hr
    · exact h2 r (List.dropWhile_subset _ (List.mem_filter.1 hr).1)
  · rw [rowN_put h1, lk2_put, h3, h3]
    by_cases e : m = n
    · subst e; rw [if_pos rfl]; simp
    · rw [if_neg e]; simp [e]
theorem lk_ovr (fv fw : Nat → Option (Nat × Nat)) (n : Nat) : lk (ovr fv fw) n = lk2 fv fw n := by
  unfold lk lk2 ovr
  cases h : fv n with
  | none => rfl
  | some v => exact putO_get v
theorem ovr_nz {fv fw : Nat → Option (Nat × Nat)} (h4 : ∀ n, fw n ≠ some Z2) (n : Nat) : ovr fv fw n ≠ some Z2 ∧ (ovr fv fw n ≠ none ↔ lk2 fv fw n ≠ Z2) := by
  have h1 : ovr fv fw n ≠ some Z2 := by
    unfold ovr
    cases h : fv n with
    | none => exact h4 n
    | some v => unfold putO; simp only; split <;> rename_i q <;> simp; exact q
  refine ⟨h1, ?_⟩
  rw [← lk_ovr]
  unfold lk
  cases h : ovr fv fw n with
  | none => simp
  | some v =>
    rw [h] at h1
    simp at h1 ⊢
    exact h1
theorem ris_all {l : List Rw} (h : RisR l) : RisR (allL l) := List.Pairwise.filter _ h
theorem rowQ_all {l : List Rw} (h : RisR l) (n : Nat) : rowQ (allL l) n = (rowQ l n).filter fun r => decide (r.2.1 ≠ Z2) := by
  cases hf : rowQ l n with
  | none =>
    rw [rowQ_none]
    · rfl
    · intro r hr e
      have := rowQ_of_mem h (List.mem_filter.1 hr).1
      rw [e, hf] at this
      cases this
  | some r =>
    obtain ⟨h1, h2⟩ := rowQ_mem hf
    by_cases hz : r.2.1 = Z2
    · rw [rowQ_none]
      · simp [Option.filter, hz]
      · intro x hx e
        have h3 := List.mem_filter.1 hx
        have := rowQ_of_mem h h3.1
        rw [e, hf] at this
        injection this with this
        subst this
        simp [hz] at h3
    · have := rowQ_of_mem (ris_all h) (r := r) (List.mem_filter.2 ⟨h1, by simpa using hz⟩)
      rw [h2] at this
      rw [this]
      simp [Option.filter, hz]
theorem rowN_settle {l : List Rw} (h : RisR l) (n : Nat) : rowN (settleL l) n = (n, (rowN l n).2.1, (rowN l n).2.1) := by
  have e : rowQ (settleL l) n = (rowQ (allL l) n).map fun r => (r.1, r.2.1, r.2.1) := by
    unfold settleL rowQ allL
    rw [List.find?_map]
    rfl
  rw [rowN_Q, e, rowQ_all h, rowN_Q]
  cases hf : rowQ l n with
  | none => rfl
  | some r =>
    have h2 := (rowQ_mem hf).2
    by_cases hz : r.2.1 = Z2
    · simp [Option.filter, hz]
    · simp [Option.filter, hz, h2]
theorem Rel.settle {fv fw : Nat → Option (Nat × Nat)} {l : List Rw} (h : Rel fv fw l) : Rel (fun _ => none) (ovr fv fw) (settleL l) := by
  obtain ⟨h1, h2, h3, h4⟩ := h
  refine ⟨?_, fun r hr => ?_, fun n => ?_, fun n => (ovr_nz h4 n).1⟩
  · unfold settleL RisR
    rw [List.pairwise_map]
    exact List.Pairwise.filter _ h1
  · unfold settleL at hr
    obtain ⟨x, hx, rfl⟩ := List.mem_map.1 hr
    obtain ⟨q1, q2⟩ := List.mem_filter.1 hx
    have q3 : x.2.1 ≠ Z2 := by simpa using q2
    exact ⟨⟨(h2 x q1).1.1, (h2 x q1).1.2.1, (h2 x q1).1.2.1⟩, .inl q3⟩
  · rw [rowN_settle h1, h3]
    show (n, lk2 fv fw n, lk2 fv fw n) = (n, lk (ovr fv fw) n, lk (ovr fv fw) n)
    rw [lk_ovr]
/-- The keys of All. -/
theorem rise_unique {m : Nat → Option (Nat × Nat)} {a b : List Nat} (ha : Rise m a) (hb : Rise m b) : a = b := by
  have hp : a.Perm b := (List.perm_ext_iff_of_nodup (ha.1.imp fun h => by omega) (hb.1.imp fun h => by omega)).2 fun k => (ha.2.1 k).trans (hb.2.1 k).symm
  exact hp.eq_of_pairwise (fun x y _ _ h1 h2 => by omega) ha.1 hb.1
theorem Rel.rise {fv fw : Nat → Option (Nat × Nat)} {l : List Rw} (h : Rel fv fw l) : Rise (ovr fv fw) ((allL l).map (·.1)) := by
  obtain ⟨h1, h2, h3, h4⟩ := h
  refine ⟨?_, fun k => ?_, fun k hk => ?_⟩
  · rw [List.pairwise_map]; exact ris_all h1
  · rw [(ovr_nz h4 k).2]
    have hk := h3 k
    rw [rowN_Q] at hk
    constructor
    · intro hm
      obtain ⟨r, hr, rfl⟩ := List.mem_map.1 hm
      obtain ⟨q1, q2⟩ := List.mem_filter.1 hr
      rw [rowQ_of_mem h1 q1] at hk
      have := congrArg (fun x : Rw => x.2.1) hk
      simp at this q2
      rw [← this]
      exact q2
    · intro hm
      cases hf : rowQ l k with
      | none =>
        rw [hf] at hk
        have := congrArg (fun x : Rw => x.2.1) hk
        exact absurd this.symm hm
      | some r =>
        rw [hf] at hk
        obtain ⟨q1, q2⟩ := rowQ_mem hf
        have := congrArg (fun x : Rw => x.2.1) hk
        simp at this
        exact List.mem_map.2 ⟨r, List.mem_filter.2 ⟨q1, by simp [this]; exact hm⟩, q2⟩
  · obtain ⟨r, hr, rfl⟩ := List.mem_map.1 hk
    exact (h2 r (List.mem_filter.1 hr).1).1.1
theorem Rel.all_at {fv fw : Nat → Option (Nat × Nat)} {l : List Rw} (h : Rel fv fw l) {i : Nat} {r : Rw} (hi : (allL l)[i]? = some r) : r.2.1 = lk (ovr fv fw) r.1 := by
  obtain ⟨h1, h2, h3, h4⟩ := h
  have hm := (List.mem_filter.1 (List.mem_of_getElem? hi)).1
  have hk := h3 r.1
  rw [rowN_Q, rowQ_of_mem h1 hm] at hk
  rw [lk_ovr]
  exact congrArg (fun x : Rw => x.2.1) hk
theorem Rel.len {fv fw : Nat → Option (Nat × Nat)} {l : List Rw} {many : Nat} (h : Rel fv fw l) (hc : Cnt (lk2 fv fw) many) : (allL l).length = many := by
  obtain ⟨L, c1, c2, rfl⟩ := hc
  have hr := h.rise
  have hp : ((allL l).map (·.1)).Perm L := (List.perm_ext_iff_of_nodup (hr.1.imp fun h => by omega) c1).2 fun k => by
    rw [hr.2.1, c2, (ovr_nz h.2.2.2 k).2]
  have := hp.length_eq
  rwa [List.length_map] at this
/-- Which are alike. -/
def alR (a b : List Rw) (up : Nat) : Bool := (a.all fun r => smP r.2.1 (rowN b r.1).2.1 up && smP r.2.2 (rowN b r.1).2.2 up) && (b.all fun r => smP r.2.1 (rowN a r.1).2.1 up && smP r.2.2 (rowN a r.1).2.2 up)
end Go.Proofs.Ytcfnhilcpfiocaa
