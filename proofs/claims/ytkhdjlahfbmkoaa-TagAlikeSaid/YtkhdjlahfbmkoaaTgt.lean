/- tag: likeness in plain lists: what keeps it. -/
import Derived.Test.YtkhdjlahfbmkoaaTgs
namespace Go.Proofs.Ytkhdjlahfbmkoaa
open Go.RowKit Go.Shelf

/-- A whole number as 64 bits. -/
def uU (x : Int) : Nat := (x % 18446744073709551616).toNat
theorem uU_lt (x : Int) : uU x < 2 ^ 64 := by unfold uU; omega
theorem uU_wrap (x : Int) : IntKind.u64.wrap x = (uU x : Int) := by
  rw [IntKind.wrap_u64]; unfold uU; omega
theorem uU_and (x y : Int) : IntKind.u64.wrap (bits .and .i64 x y) = ((uU x &&& uU y : Nat) : Int) := by
  have hn : ∀ n : Int, (BitVec.ofInt 64 n).toNat = uU n := fun n => by rw [BitVec.toNat_ofInt]; rfl
  have hm : uU x &&& uU y < 2 ^ 64 := Nat.lt_of_le_of_lt Nat.and_le_left (uU_lt x)
  show IntKind.u64.wrap (IntKind.i64.wrap ((BitVec.ofInt 64 x &&& BitVec.ofInt 64 y).toNat : Int)) = _
  rw [BitVec.toNat_and, hn, hn, IntKind.wrap_u64]
  generalize uU x &&& uU y = m at *
  unfold IntKind.wrap IntKind.signed IntKind.bits
  simp only [Bool.true_and]
  split <;> omega
theorem sub_and9 (a b : Nat) : sub (a &&& b) a = true := (sub_iff _ _).2 fun j hj => by rw [Nat.testBit_and, Bool.and_eq_true] at hj; exact hj.1
theorem sub_fold (l : List Nat) : ∀ s x, x = s ∨ x ∈ l → sub x (l.foldl (· ||| ·) s) = true := by
  induction l with
  | nil => intro s x h; rcases h with rfl | h; exact (sub_iff _ _).2 fun j hj => hj; cases h
  | cons y r ih =>
    intro s x h
    show sub x (r.foldl (· ||| ·) (s ||| y)) = true
    rcases h with rfl | h
    · exact sub_trans (sub_left x y) (ih _ _ (.inl rfl))
    · rcases List.mem_cons.1 h with rfl | h
      · exact sub_trans (sub_right s x) (ih _ _ (.inl rfl))
      · exact ih _ _ (.inr h)
theorem alB_iff (a b : List (Nat × Nat)) (up : Nat) : alB a b up = true ↔ a.length = b.length ∧ ∀ k, (cg a k).2 = (cg b k).2 ∧ (sub (cg a k).2 up = true → (cg a k).1 = (cg b k).1) := by
  unfold alB
  rw [Bool.and_eq_true, beq_iff_eq, List.all_eq_true]
  constructor
  · rintro ⟨h1, h2⟩
    refine ⟨h1, fun k => ?_⟩
    by_cases hk : k < a.length
    · have h3 := h2 k (List.mem_range.2 hk)
      rw [Bool.and_eq_true] at h3
      unfold leq beqU at h3
      refine ⟨beq_iff_eq.1 h3.1, fun h => ?_⟩
      have h4 := h3.2
      rw [h] at h4
      simpa using h4
    · rw [cg_ge (by omega), cg_ge (by omega)]; exact ⟨rfl, fun _ => rfl⟩
  · rintro ⟨h1, h2⟩
    refine ⟨h1, fun k _ => ?_⟩
    rw [Bool.and_eq_true]
    unfold leq beqU
    refine ⟨beq_iff_eq.2 (h2 k).1, ?_⟩
    cases h : sub (cg a k).2 up with
    | false => rfl
    | true => simp [(h2 k).2 h]
theorem alB_less {a b : List (Nat × Nat)} {up less : Nat} (h : alB a b up = true) (hs : sub less up = true) : alB a b less = true := by
  rw [alB_iff] at h ⊢
  exact ⟨h.1, fun k => ⟨(h.2 k).1, fun h3 => (h.2 k).2 (sub_trans h3 hs)⟩⟩
theorem alB_pa {a b : List (Nat × Nat)} {up : Nat} (h : alB a b up = true) (p q : Nat) : alB (paL a p q) (paL b p q) up = true := by
  rw [alB_iff] at h ⊢
  refine ⟨by rw [paL_len, paL_len], fun k => ?_⟩
  by_cases hk : k < q
  · rw [paL_cg _ _ _ _ hk, paL_cg _ _ _ _ hk]; exact h.2 _
  · rw [cg_ge (by rw [paL_len]; omega), cg_ge (by rw [paL_len]; omega)]; exact ⟨rfl, fun _ => rfl⟩
theorem alB_join {a b : List (Nat × Nat)} {up : Nat} (h : alB a b up = true) (m : Nat) : alB (a.map fun x => (x.1, x.2 ||| m)) (b.map fun x => (x.1, x.2 ||| m)) up = true := by
  rw [alB_iff] at h ⊢
  refine ⟨by rw [List.length_map, List.length_map]; exact h.1, fun k => ?_⟩
  by_cases hk : k < a.length
  · have e1 : cg (a.map fun x => (x.1, x.2 ||| m)) k = ((cg a k).1, (cg a k).2 ||| m) := by
      have := cg_lt hk
      unfold cg at this ⊢
      rw [List.getElem?_map, this]; rfl
    have e2 : cg (b.map fun x => (x.1, x.2 ||| m)) k = ((cg b k).1, (cg b k).2 ||| m) := by
      have := cg_lt (l := b) (k := k) (by omega)
      unfold cg at this ⊢
      rw [List.getElem?_map, this]; rfl
    rw [e1, e2]
    exact ⟨by show _ ||| _ = _ ||| _; rw [(h.2 k).1], fun h3 => (h.2 k).2 (sub_trans (sub_left _ m) h3)⟩
  · rw [cg_ge (by rw [List.length_map]; omega), cg_ge (by rw [List.length_map]; omega)]; exact ⟨rfl, fun _ => rfl⟩
theorem jl_like {a b : List (Nat × Nat)} {up : Nat} (h : alB a b up = true) : jl (fiL a) = jl (fiL b) := by
  rw [alB_iff] at h
  unfold jl fiL paL
  rw [List.map_map, List.map_map]
  refine congrArg joinL (List.map_congr_left fun i _ => ?_)
  show (cg a (0 + i)).2 = (cg b (0 + i)).2
  exact (h.2 _).1
theorem nu_like {a b : List (Nat × Nat)} {up : Nat} (h : alB a b up = true) (hs : sub (jl (fiL a)) up = true) : nuC a = nuC b := by
  rw [alB_iff] at h
  unfold nuC fiL paL
  rw [List.map_map, List.map_map]
  refine congrArg nuL (List.map_congr_left fun i hi => ?_)
  show (cg a (0 + i)).1 = (cg b (0 + i)).1
  refine (h.2 _).2 (sub_trans ?_ hs)
  unfold jl joinL
  refine sub_fold _ _ _ (.inr ?_)
  unfold fiL paL
  rw [List.map_map]
  exact List.mem_map.2 ⟨i, hi, rfl⟩
theorem smB_like {a b : List (Nat × Nat)} {up : Nat} (h : alB a b up = true) : smB (nuC a) (jl (fiL a)) (nuC b) (jl (fiL b)) up = true := by
  unfold smB
  rw [← jl_like h]
  cases hs : sub (jl (fiL a)) up with
  | false => simp
  | true => rw [nu_like h hs]; simp
theorem alB_cells {n a m b up : Nat} (h : smB n a m b up = true) : alB (ceL n a) (ceL m b) up = true := by
  unfold smB at h
  rw [Bool.and_eq_true, beq_iff_eq, Bool.or_eq_true, beq_iff_eq] at h
  obtain ⟨rfl, h⟩ := h
  rw [alB_iff]
  refine ⟨by rw [ceL_len, ceL_len], fun k => ?_⟩
  by_cases hk : k < 32
  · have e : ∀ n, cg (ceL n a) k = (byA n (31 - k), a) := fun n => by
      unfold cg ceL byL
      rw [List.getElem?_map, List.getElem?_map, List.getElem?_range hk]; rfl
    rw [e, e]
    refine ⟨rfl, fun hs => ?_⟩
    rcases h with rfl | h
    · rfl
    · rw [hs] at h; cases h
  · rw [cg_ge (by rw [ceL_len]; omega), cg_ge (by rw [ceL_len]; omega)]; exact ⟨rfl, fun _ => rfl⟩
theorem nuC_lt (l : List (Nat × Nat)) (h : ∀ a ∈ l, okC a) : nuC l < MM := by
  unfold nuC nuL
  rw [fiB_len]
  have hb := fiB_lt h
  have key : ∀ n, n ≤ 32 → numB (fun k => ((fiL l).map (·.1)).getD k 0) n < 256 ^ n := by
    intro n
    induction n with
    | zero => intro _; simp [numB]
    | succ n ih =>
      intro hn
      have h1 := ih (by omega)
      have h2 : ((fiL l).map (·.1)).getD n 0 < 256 := by
        rw [List.getD_eq_getElem?_getD, List.getElem?_eq_getElem (by rw [fiB_len]; omega)]
        exact hb _ (List.getElem_mem _)
      show numB (fun k => ((fiL l).map (·.1)).getD k 0) n * 256 + ((fiL l).map (·.1)).getD n 0 < 256 ^ (n + 1)
      rw [Nat.pow_succ]
      omega
  have := key 32 (Nat.le_refl _)
  rw [MM_256]
  exact this
end Go.Proofs.Ytkhdjlahfbmkoaa
