/- slot's law SlotHolds: puts in plain lists. -/
import Derived.Test.YtcfnhilcpfiocaaStp
import Derived.Test.YtcfnhilcpfiocaaStn
namespace Go.Proofs.Ytcfnhilcpfiocaa
open Go.RowKit Go.Shelf

/-- A key, a value of a call. -/
abbrev kyA (a : Int × Nat × Nat × Nat) : Nat := a.2.1
abbrev vlA (a : Int × Nat × Nat × Nat) : Nat × Nat := a.2.2
def fpN (l : List (Int × Nat × Nat × Nat)) : Nat → Option (Nat × Nat) := l.foldl (fun f a => upd f (kyA a) (putO (vlA a) (0, 0))) (fun _ => none)
def laN (l : List (Int × Nat × Nat × Nat)) : Nat → Option (Nat × Nat) := l.foldl (fun f a => upd f (kyA a) (some (vlA a))) (fun _ => none)
def fbR (m : Nat → Option (Nat × Nat)) (l : List (Int × Nat × Nat × Nat)) : Nat → Option (Nat × Nat) := l.foldr (fun a f => upd f (kyA a) (putO (lk m (kyA a)) (0, 0))) (fun _ => none)
theorem fpN_step {l : List (Int × Nat × Nat × Nat)} {k : Nat} {a : Int × Nat × Nat × Nat} (h : l[k]? = some a) : fpN (l.take (k + 1)) = upd (fpN (l.take k)) (kyA a) (putO (vlA a) (0, 0)) := by
  unfold fpN; rw [List.take_add_one, h, List.foldl_append]; rfl
theorem laN_step {l : List (Int × Nat × Nat × Nat)} {k : Nat} {a : Int × Nat × Nat × Nat} (h : l[k]? = some a) : laN (l.take (k + 1)) = upd (laN (l.take k)) (kyA a) (some (vlA a)) := by
  unfold laN; rw [List.take_add_one, h, List.foldl_append]; rfl
theorem fbR_step (m : Nat → Option (Nat × Nat)) {l : List (Int × Nat × Nat × Nat)} {k : Nat} {a : Int × Nat × Nat × Nat} (h : l[k]? = some a) : fbR m (l.drop k) = upd (fbR m (l.drop (k + 1))) (kyA a) (putO (lk m (kyA a)) (0, 0)) := by
  obtain ⟨hk, e⟩ := List.getElem?_eq_some_iff.1 h
  rw [List.drop_eq_getElem_cons hk, e]; rfl
theorem fold_rel (l : List (Int × Nat × Nat × Nat)) : ∀ (f m : Nat → Option (Nat × Nat)), (∀ n, f n = (m n).bind fun v => putO v (0, 0)) → ∀ n, (l.foldl (fun f a => upd f (kyA a) (putO (vlA a) (0, 0))) f) n = ((l.foldl (fun f a => upd f (kyA a) (some (vlA a))) m) n).bind fun v => putO v (0, 0) := by
  induction l with
  | nil => intro f m h; exact h
  | cons a l ih =>
    intro f m h
    refine ih _ _ fun n => ?_
    show upd f (kyA a) _ n = (upd m (kyA a) _ n).bind _
    by_cases e : n = kyA a
    · subst e; rw [upd_same, upd_same]; rfl
    · rw [upd_other _ _ e, upd_other _ _ e]; exact h n
theorem fpN_la (l : List (Int × Nat × Nat × Nat)) (n : Nat) : fpN l n = (laN l n).bind fun v => putO v (0, 0) := fold_rel l (fun _ => none) (fun _ => none) (fun _ => rfl) n
theorem fold_mem (l : List (Int × Nat × Nat × Nat)) : ∀ (m : Nat → Option (Nat × Nat)) (n : Nat), ((l.foldl (fun f a => upd f (kyA a) (some (vlA a))) m) n).isSome = ((m n).isSome || decide (∃ a ∈ l, kyA a = n)) := by
  induction l with
  | nil => intro m n; simp
  | cons a l ih =>
    intro m n
    show ((l.foldl _ (upd m (kyA a) (some (vlA a)))) n).isSome = _
    rw [ih]
    by_cases e : n = kyA a
    · subst e; rw [upd_same]; simp
    · rw [upd_other _ _ e]
      have : (∃ b ∈ a :: l, kyA b = n) ↔ (∃ b ∈ l, kyA b = n) := ⟨fun ⟨b, hb, q⟩ => by
        rcases List.mem_cons.1 hb with rfl | hb
        · exact absurd q.symm e
        · exact ⟨b, hb, q⟩, fun ⟨b, hb, q⟩ => ⟨b, List.mem_cons_of_mem _ hb, q⟩⟩
      simp only [this]
theorem laN_some (l : List (Int × Nat × Nat × Nat)) (n : Nat) : (laN l n).isSome = decide (∃ a ∈ l, kyA a = n) := by
  unfold laN; rw [fold_mem]; simp
theorem fbR_at (m : Nat → Option (Nat × Nat)) (l : List (Int × Nat × Nat × Nat)) (n : Nat) : fbR m l n = if ∃ a ∈ l, kyA a = n then putO (lk m n) (0, 0) else none := by
  induction l with
  | nil => simp [fbR]
  | cons a l ih =>
    show upd (fbR m l) (kyA a) _ n = _
    by_cases e : n = kyA a
    · subst e; rw [upd_same, if_pos ⟨a, by simp, rfl⟩]
    · rw [upd_other _ _ e, ih]
      by_cases h : ∃ b ∈ l, kyA b = n
      · obtain ⟨b, hb, q⟩ := h
        rw [if_pos ⟨b, hb, q⟩, if_pos ⟨b, List.mem_cons_of_mem _ hb, q⟩]
      · rw [if_neg h, if_neg]
        rintro ⟨b, hb, q⟩
        rcases List.mem_cons.1 hb with rfl | hb
        · exact e q.symm
        · exact h ⟨b, hb, q⟩
/-- The same values, put the other way round. -/
theorem fbR_eq (l : List (Int × Nat × Nat × Nat)) : fbR (laN l) l = fpN l := by
  funext n
  rw [fbR_at, fpN_la]
  have h := laN_some l n
  by_cases e : ∃ a ∈ l, kyA a = n
  · rw [if_pos e]
    rw [decide_eq_true e] at h
    obtain ⟨v, hv⟩ := Option.isSome_iff_exists.1 h
    rw [hv, lk_some hv]; rfl
  · rw [if_neg e]
    rw [decide_eq_false e] at h
    cases hl : laN l n with
    | none => rfl
    | some v => rw [hl] at h; cases h
theorem putO_get (v : Nat × Nat) : (putO v (0, 0)).getD (0, 0) = v := by
  unfold putO
  split
  · rename_i h; rw [h]; rfl
  · rfl
theorem lk2_put (fv fw : Nat → Option (Nat × Nat)) (n : Nat) (v : Nat × Nat) : lk2 (upd fv n (putO v (lk fw n))) fw = fun k => if k = n then v else lk2 fv fw k := by
  funext k
  by_cases e : k = n
  · subst e
    rw [if_pos rfl]
    unfold lk2; rw [upd_same]; unfold putO
    split
    · rename_i h; rw [h]; rfl
    · rfl
  · rw [if_neg e]; unfold lk2; rw [upd_other _ _ e]
theorem lk2_fp (l : List (Int × Nat × Nat × Nat)) (n : Nat) : lk2 (fpN l) (fun _ => none) n = lk (laN l) n := by
  unfold lk2
  rw [fpN_la]
  cases h : laN l n with
  | none => rw [lk_none h]; rfl
  | some v => rw [lk_some h]; exact putO_get v
/-- So many keys have a value. -/
def Cnt (nw : Nat → Nat × Nat) (many : Nat) : Prop := ∃ L : List Nat, L.Nodup ∧ (∀ n, n ∈ L ↔ nw n ≠ (0, 0)) ∧ L.length = many
theorem Cnt.none : Cnt (fun _ => (0, 0)) 0 := ⟨[], by simp, by simp, rfl⟩
theorem Cnt.pos {nw : Nat → Nat × Nat} {many : Nat} (h : Cnt nw many) (n : Nat) : cntV (nw n) ≤ many := by
  obtain ⟨L, _, h2, rfl⟩ := h
  unfold cntV
  split
  · omega
  · rename_i hn
    exact List.length_pos_of_mem ((h2 n).2 hn)
theorem Cnt.put {nw : Nat → Nat × Nat} {many : Nat} (h : Cnt nw many) (n : Nat) (v : Nat × Nat) : Cnt (fun k => if k = n then v else nw k) (many + cntV v - cntV (nw n)) := by
  obtain ⟨L, h1, h2, rfl⟩ := h
  by_cases hv : v = (0, 0)
  · by_cases hn : nw n = (0, 0)
    · refine ⟨L, h1, fun k => ?_, by unfold cntV; rw [if_pos hv, if_pos hn]; omega⟩
      show _ ↔ (if k = n then v else nw k) ≠ _
      by_cases e : k = n
      · subst e; rw [if_pos rfl, h2, hn, hv]
      · rw [if_neg e]; exact h2 k
    · have hm := (h2 n).2 hn
      refine ⟨L.erase n, h1.erase n, fun k => ?_, by rw [List.length_erase_of_mem hm]; unfold cntV; rw [if_pos hv, if_neg hn]; omega⟩
      show _ ↔ (if k = n then v else nw k) ≠ _
      by_cases e : k = n
      · subst e; rw [if_pos rfl, hv]
        simp only [ne_eq, not_true_eq_false, iff_false]
        exact h1.not_mem_erase
      · rw [if_neg e, List.mem_erase_of_ne e]; exact h2 k
  · by_cases hn : nw n = (0, 0)
    · have hm : n ∉ L := fun q => (h2 n).1 q hn
      refine ⟨n :: L, List.nodup_cons.2 ⟨hm, h1⟩, fun k => ?_, by rw [List.length_cons]; unfold cntV; rw [if_neg hv, if_pos hn]; omega⟩
      show _ ↔ (if k = n then v else nw k) ≠ _
      by_cases e : k = n
      · subst e; rw [if_pos rfl]; simp [hv]
      · rw [if_neg e, List.mem_cons]; exact ⟨fun q => q.elim (fun q => absurd q e) (h2 k).1, fun q => .inr ((h2 k).2 q)⟩
    · have hm := (h2 n).2 hn
      refine ⟨L, h1, fun k => ?_, by unfold cntV; rw [if_neg hv, if_neg hn]; omega⟩
      show _ ↔ (if k = n then v else nw k) ≠ _
      by_cases e : k = n
      · subst e; rw [if_pos rfl]; exact ⟨fun _ => hv, fun _ => hm⟩
      · rw [if_neg e]; exact h2 k
theorem Cnt.sput {fv fw : Nat → Option (Nat × Nat)} {many : Nat} (h : Cnt (lk2 fv fw) many) (n : Nat) (v : Nat × Nat) : Cnt (lk2 (upd fv n (putO v (lk fw n))) fw) (manyP many v (lk2 fv fw n)) := by
  rw [lk2_put]; exact h.put n v
theorem manyP_le (many : Nat) (v u : Nat × Nat) : manyP many v u ≤ many + 1 := by unfold manyP; have := cntV_le v; omega

end Go.Proofs.Ytcfnhilcpfiocaa
