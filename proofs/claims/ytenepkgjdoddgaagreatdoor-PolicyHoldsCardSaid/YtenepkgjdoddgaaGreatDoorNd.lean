/- policy's laws: a policy's text in plain numbers; unlike policies have unlike texts. -/
import Derived.Test.YtenepkgjdoddgaaGreatDoorNc
namespace Go.Proofs.YtenepkgjdoddgaaGreatDoor
open Go.RowKit Go.Shelf

/-- The lines of a policy, and its text. -/
def lnD (d : Nat) : List UInt8 := [100, 101, 102, 97, 117, 108, 116] ++ 32 :: txL d
def lnC (c : List Nat × Nat) : List UInt8 := [99, 108, 101, 97, 114] ++ 32 :: (nmL c.1 ++ 32 :: txL c.2)
def lnR (r : List Nat × Nat × Nat) : List UInt8 := [114, 101, 108, 101, 97, 115, 101] ++ 32 :: (nmL r.1 ++ 32 :: (Lib.decDigits r.2.1 ++ 32 :: txL r.2.2))
def lnsP (d : Nat) (cs : List (List Nat × Nat)) (rs : List (List Nat × Nat × Nat)) : List (List UInt8) := lnD d :: (cs.map lnC ++ rs.map lnR)
def endL (l : List UInt8) : List UInt8 := l ++ [10]
def txP (d : Nat) (cs : List (List Nat × Nat)) (rs : List (List Nat × Nat × Nat)) : List UInt8 := (lnsP d cs rs).flatMap endL

theorem decDigits_len {n : Nat} (h : n < 4294967296) : 1 ≤ (Lib.decDigits n).length ∧ (Lib.decDigits n).length ≤ 20 := by
  rw [Lib.decDigits_length]
  exact ⟨Lib.nDigits_pos n, Lib.nDigits_le20 n (by omega)⟩
theorem lnD_len (d : Nat) : (lnD d).length ≤ 200 := by
  have := txL_len d
  simp [lnD]; omega
theorem lnC_len {c : List Nat × Nat} (h : Ad c.1) : (lnC c).length ≤ 241 := by
  have := txL_len c.2
  have h2 := nmL_len c.1
  rw [h.1] at h2
  simp [lnC]; omega
theorem lnR_len {r : List Nat × Nat × Nat} (h : Ad r.1) (he : r.2.1 < 4294967296) : (lnR r).length ≤ 264 := by
  have := txL_len r.2.2
  have h2 := nmL_len r.1
  have h3 := decDigits_len he
  rw [h.1] at h2
  simp [lnR]; omega

/-! Bytes of words. -/
abbrev okB (x : UInt8) : Prop := x ≠ 10 ∧ x ≠ 32
theorem okB_dig {k : Nat} (h : k < 10) : okB (UInt8.ofNat (48 + k)) := by
  have : ∀ k : Fin 10, okB (UInt8.ofNat (48 + k.val)) := by decide +kernel
  exact this ⟨k, h⟩
theorem okB_dec {k : Nat} (h : k < 64) : ∀ x ∈ dec k, okB x := by
  intro x hx
  unfold dec at hx
  split at hx
  · simp only [List.mem_singleton] at hx; subst hx; exact okB_dig (by omega)
  · simp only [List.mem_cons, List.not_mem_nil, or_false] at hx
    rcases hx with rfl | rfl
    · exact okB_dig (by omega)
    · exact okB_dig (by omega)
theorem okB_jn : ∀ (l : List Nat), (∀ y ∈ l, y < 64) → ∀ x ∈ jn l, okB x := by
  intro l
  induction l using snoc_ind with
  | h0 => intro _ x hx; simp [jn] at hx
  | h1 l y ih =>
    intro h x hx
    by_cases hl : l = []
    · subst hl
      simp only [List.nil_append, jn, List.flatMap_nil, List.append_nil] at hx
      exact okB_dec (h y (by simp)) x hx
    · rw [jn_snoc l y hl] at hx
      rcases List.mem_append.1 hx with h1 | h1
      · exact ih (fun z hz => h z (by simp [hz])) x h1
      · rcases List.mem_cons.1 h1 with rfl | h2
        · exact ⟨by decide, by decide⟩
        · exact okB_dec (h y (by simp)) x h2
theorem okB_txL (a : Nat) : ∀ x ∈ txL a, okB x := by
  intro x hx
  unfold txL at hx
  split at hx
  · simp at hx; subst hx; exact ⟨by decide, by decide⟩
  · exact okB_jn _ (fun y hy => ((eb_mem a 64 y).1 hy).1) x hx
theorem okB_dd (n : Nat) : ∀ x ∈ Lib.decDigits n, okB x := by
  induction n using Nat.strongRecOn with
  | _ u ih =>
    intro x hx
    rw [Lib.decDigits] at hx
    split at hx
    · simp only [List.mem_singleton] at hx; subst hx; exact okB_dig (by omega)
    · rcases List.mem_append.1 hx with h1 | h1
      · exact ih (u / 10) (by omega) x h1
      · simp only [List.mem_singleton] at h1; subst h1; exact okB_dig (by omega)
theorem okB_hdg {d : Nat} (h : d < 16) : okB (hdg d) := by
  have : ∀ k : Fin 16, okB (hdg k.val) := by decide +kernel
  exact this ⟨d, h⟩
theorem okB_nm {a : List Nat} (h : ∀ x ∈ a, x < 256) : ∀ x ∈ nmL a, okB x := by
  intro x hx
  unfold nmL at hx
  rcases List.mem_append.1 hx with h1 | h1
  · simp at h1
    rcases h1 with rfl | rfl <;> exact ⟨by decide, by decide⟩
  · obtain ⟨y, hy, h2⟩ := List.mem_flatMap.1 h1
    have := h y hy
    simp only [List.mem_cons, List.not_mem_nil, or_false] at h2
    rcases h2 with rfl | rfl
    · exact okB_hdg (by omega)
    · exact okB_hdg (by omega)
theorem no_end_D (d : Nat) : (10 : UInt8) ∉ lnD d := by
  intro h
  unfold lnD at h
  rcases List.mem_append.1 h with h1 | h1
  · revert h1; decide
  · rcases List.mem_cons.1 h1 with h2 | h2
    · revert h2; decide
    · exact (okB_txL d _ h2).1 rfl
theorem no_end_C {c : List Nat × Nat} (hc : Ad c.1) : (10 : UInt8) ∉ lnC c := by
  intro h
  unfold lnC at h
  rcases List.mem_append.1 h with h1 | h1
  · revert h1; decide
  · rcases List.mem_cons.1 h1 with h2 | h2
    · revert h2; decide
    · rcases List.mem_append.1 h2 with h3 | h3
      · exact (okB_nm hc.2 _ h3).1 rfl
      · rcases List.mem_cons.1 h3 with h4 | h4
        · revert h4; decide
        · exact (okB_txL _ _ h4).1 rfl
theorem no_end_R {r : List Nat × Nat × Nat} (hc : Ad r.1) : (10 : UInt8) ∉ lnR r := by
  intro h
  unfold lnR at h
  rcases List.mem_append.1 h with h1 | h1
  · revert h1; decide
  · rcases List.mem_cons.1 h1 with h2 | h2
    · revert h2; decide
    · rcases List.mem_append.1 h2 with h3 | h3
      · exact (okB_nm hc.2 _ h3).1 rfl
      · rcases List.mem_cons.1 h3 with h4 | h4
        · revert h4; decide
        · rcases List.mem_append.1 h4 with h5 | h5
          · exact (okB_dd _ _ h5).1 rfl
          · rcases List.mem_cons.1 h5 with h6 | h6
            · revert h6; decide
            · exact (okB_txL _ _ h6).1 rfl

/-! Unlike lists of lines. -/
theorem sep_head (s : UInt8) : ∀ (x y r t : List UInt8), s ∉ x → s ∉ y → x ++ s :: r = y ++ s :: t → x = y ∧ r = t
  | [], [], r, t, _, _, h => by simp at h; exact ⟨rfl, h⟩
  | [], b :: y, r, t, _, hy, h => by simp at h; exact (hy (by rw [h.1]; simp)).elim
  | a :: x, [], r, t, hx, _, h => by simp at h; exact (hx (by rw [← h.1]; simp)).elim
  | a :: x, b :: y, r, t, hx, hy, h => by
    simp only [List.cons_append, List.cons.injEq] at h
    obtain ⟨e1, e2⟩ := sep_head s x y r t (fun m => hx (by simp [m])) (fun m => hy (by simp [m])) h.2
    exact ⟨by rw [h.1, e1], e2⟩
theorem lines_inj : ∀ (xs ys : List (List UInt8)), (∀ x ∈ xs, (10 : UInt8) ∉ x) → (∀ y ∈ ys, (10 : UInt8) ∉ y) → xs.flatMap endL = ys.flatMap endL → xs = ys
  | [], [], _, _, _ => rfl
  | [], y :: ys, _, _, h => by simp [endL] at h
  | x :: xs, [], _, _, h => by simp [endL] at h
  | x :: xs, y :: ys, hx, hy, h => by
    rw [List.flatMap_cons, List.flatMap_cons] at h
    unfold endL at h
    rw [List.append_assoc, List.append_assoc] at h
    obtain ⟨e1, e2⟩ := sep_head 10 x y _ _ (hx x (by simp)) (hy y (by simp)) h
    have := lines_inj xs ys (fun z hz => hx z (by simp [hz])) (fun z hz => hy z (by simp [hz])) e2
    rw [e1, this]
theorem hdg_inj {d e : Nat} (hd : d < 16) (he : e < 16) (h : hdg d = hdg e) : d = e := by
  have : ∀ a b : Fin 16, hdg a.val = hdg b.val → a = b := by decide +kernel
  have := this ⟨d, hd⟩ ⟨e, he⟩ h
  exact congrArg Fin.val this
theorem hexes_inj : ∀ (a b : List Nat), (∀ x ∈ a, x < 256) → (∀ x ∈ b, x < 256) → (a.flatMap fun x => [hdg (x / 16), hdg (x % 16)]) = (b.flatMap fun x => [hdg (x / 16), hdg (x % 16)]) → a = b
  | [], [], _, _, _ => rfl
  | [], y :: ys, _, _, h => by simp at h
  | x :: xs, [], _, _, h => by simp at h
  | x :: xs, y :: ys, hx, hy, h => by
    rw [List.flatMap_cons, List.flatMap_cons] at h
    simp only [List.cons_append, List.nil_append, List.cons.injEq] at h
    have h1 := hx x (by simp)
    have h2 := hy y (by simp)
    have e1 := hdg_inj (by omega) (by omega) h.1
    have e2 := hdg_inj (by omega) (by omega) h.2.1
    have := hexes_inj xs ys (fun z hz => hx z (by simp [hz])) (fun z hz => hy z (by simp [hz])) h.2.2
    rw [this, show x = y by omega]
theorem nmL_inj {a b : List Nat} (ha : Ad a) (hb : Ad b) (h : nmL a = nmL b) : a = b := by
  unfold nmL at h
  exact hexes_inj a b ha.2 hb.2 (List.append_cancel_left h)
def vdD (l : List UInt8) : Nat := l.foldl (fun n x => 10 * n + (x.toNat - 48)) 0
theorem vdD_dd (n : Nat) : vdD (Lib.decDigits n) = n := by
  induction n using Nat.strongRecOn with
  | _ u ih =>
    have hd : ∀ k, k < 10 → (UInt8.ofNat (48 + k)).toNat - 48 = k := fun k hk => by
      rw [UInt8.toNat_ofNat']
      have : (48 + k) % 2 ^ 8 = 48 + k := Nat.mod_eq_of_lt (by omega)
      omega
    rw [Lib.decDigits]
    split
    · next h => simp only [vdD, List.foldl_cons, List.foldl_nil]; rw [hd u h]; omega
    · next h =>
      have := ih (u / 10) (by omega)
      unfold vdD at this ⊢
      rw [List.foldl_append, this]
      simp only [List.foldl_cons, List.foldl_nil]
      rw [hd (u % 10) (by omega)]
      omega
theorem lnD_inj {d e : Nat} (hd : d < 2 ^ 64) (he : e < 2 ^ 64) (h : lnD d = lnD e) : d = e := by
  unfold lnD at h
  have := List.append_cancel_left h
  simp only [List.cons.injEq, true_and] at this
  exact txL_inj hd he this
theorem lnC_inj {c e : List Nat × Nat} (hc : Ad c.1 ∧ c.2 < 2 ^ 64) (he : Ad e.1 ∧ e.2 < 2 ^ 64) (h : lnC c = lnC e) : c = e := by
  unfold lnC at h
  have := List.append_cancel_left h
  simp only [List.cons.injEq, true_and] at this
  have h1 := List.append_inj this (by rw [nmL_len, nmL_len, hc.1.1, he.1.1])
  simp only [List.cons.injEq, true_and] at h1
  obtain ⟨c1, c2⟩ := c
  obtain ⟨e1, e2⟩ := e
  rw [show c1 = e1 from nmL_inj hc.1 he.1 h1.1, show c2 = e2 from txL_inj hc.2 he.2 h1.2]
theorem lnR_inj {c e : List Nat × Nat × Nat} (hc : Ad c.1 ∧ c.2.2 < 2 ^ 64) (he : Ad e.1 ∧ e.2.2 < 2 ^ 64) (h : lnR c = lnR e) : c = e := by
  unfold lnR at h
  have := List.append_cancel_left h
  simp only [List.cons.injEq, true_and] at this
  have h1 := List.append_inj this (by rw [nmL_len, nmL_len, hc.1.1, he.1.1])
  simp only [List.cons.injEq, true_and] at h1
  obtain ⟨h2, h3⟩ := h1
  obtain ⟨h4, h5⟩ := sep_head 32 _ _ _ _ (fun m => (okB_dd _ _ m).2 rfl) (fun m => (okB_dd _ _ m).2 rfl) h3
  obtain ⟨c1, c2, c3⟩ := c
  obtain ⟨e1, e2, e3⟩ := e
  have h6 : c2 = e2 := by rw [← vdD_dd c2, ← vdD_dd e2]; exact congrArg vdD h4
  rw [show c1 = e1 from nmL_inj hc.1 he.1 h2, h6, show c3 = e3 from txL_inj hc.2 he.2 h5]
theorem rules_inj : ∀ (cs cs' : List (List Nat × Nat)) (rs rs' : List (List Nat × Nat × Nat)), (∀ c ∈ cs, Ad c.1 ∧ c.2 < 2 ^ 64) → (∀ c ∈ cs', Ad c.1 ∧ c.2 < 2 ^ 64) → (∀ c ∈ rs, Ad c.1 ∧ c.2.2 < 2 ^ 64) → (∀ c ∈ rs', Ad c.1 ∧ c.2.2 < 2 ^ 64) → cs.map lnC ++ rs.map lnR = cs'.map lnC ++ rs'.map lnR → cs = cs' ∧ rs = rs'
  | [], [], [], [], _, _, _, _, _ => ⟨rfl, rfl⟩
  | [], [], [], r :: rs', _, _, _, _, h => by simp at h
  | [], [], r :: rs, [], _, _, _, _, h => by simp at h
  | [], [], r :: rs, r' :: rs', h1, h2, h3, h4, h => by
    simp only [List.map_nil, List.nil_append, List.map_cons, List.cons.injEq] at h
    have e1 := lnR_inj (h3 r (by simp)) (h4 r' (by simp)) h.1
    have e2 := rules_inj [] [] rs rs' h1 h2 (fun c hc => h3 c (by simp [hc])) (fun c hc => h4 c (by simp [hc])) (by simpa using h.2)
    exact ⟨rfl, by rw [e1, e2.2]⟩
  | [], c' :: cs', [], _, _, _, _, _, h => by simp at h
  | [], c' :: cs', r :: rs, _, _, _, _, _, h => by
    simp only [List.map_nil, List.nil_append, List.map_cons, List.cons_append, List.cons.injEq] at h
    have := h.1
    simp [lnR, lnC] at this
  | c :: cs, [], _, [], _, _, _, _, h => by simp at h
  | c :: cs, [], _, r' :: rs', _, _, _, _, h => by
    simp only [List.map_nil, List.nil_append, List.map_cons, List.cons_append, List.cons.injEq] at h
    have := h.1
    simp [lnR, lnC] at this
  | c :: cs, c' :: cs', rs, rs', h1, h2, h3, h4, h => by
    simp only [List.map_cons, List.cons_append, List.cons.injEq] at h
    have e1 := lnC_inj (h1 c (by simp)) (h2 c' (by simp)) h.1
    have e2 := rules_inj cs cs' rs rs' (fun c hc => h1 c (by simp [hc])) (fun c hc => h2 c (by simp [hc])) h3 h4 h.2
    exact ⟨by rw [e1, e2.1], e2.2⟩
theorem no_end {d : Nat} {cs : List (List Nat × Nat)} {rs : List (List Nat × Nat × Nat)} (h1 : ∀ c ∈ cs, Ad c.1) (h2 : ∀ r ∈ rs, Ad r.1) : ∀ x ∈ lnsP d cs rs, (10 : UInt8) ∉ x := by
  intro x hx
  rcases List.mem_cons.1 hx with rfl | h
  · exact no_end_D d
  · rcases List.mem_append.1 h with h | h
    · obtain ⟨c, hc, rfl⟩ := List.mem_map.1 h
      exact no_end_C (h1 c hc)
    · obtain ⟨c, hc, rfl⟩ := List.mem_map.1 h
      exact no_end_R (h2 c hc)
/-- Unlike policies have unlike texts. -/
theorem txP_inj {d d' : Nat} {cs cs' : List (List Nat × Nat)} {rs rs' : List (List Nat × Nat × Nat)} (hd : d < 2 ^ 64) (hd' : d' < 2 ^ 64) (h1 : ∀ c ∈ cs, Ad c.1 ∧ c.2 < 2 ^ 64) (h2 : ∀ c ∈ cs', Ad c.1 ∧ c.2 < 2 ^ 64)
    (h3 : ∀ c ∈ rs, Ad c.1 ∧ c.2.2 < 2 ^ 64) (h4 : ∀ c ∈ rs', Ad c.1 ∧ c.2.2 < 2 ^ 64) (h : txP d cs rs = txP d' cs' rs') : d = d' ∧ cs = cs' ∧ rs = rs' := by
  have e := lines_inj _ _ (no_end (fun c hc => (h1 c hc).1) (fun c hc => (h3 c hc).1)) (no_end (fun c hc => (h2 c hc).1) (fun c hc => (h4 c hc).1)) h
  unfold lnsP at e
  simp only [List.cons.injEq] at e
  exact ⟨lnD_inj hd hd' e.1, rules_inj cs cs' rs rs' h1 h2 h3 h4 e.2⟩
end Go.Proofs.YtenepkgjdoddgaaGreatDoor
