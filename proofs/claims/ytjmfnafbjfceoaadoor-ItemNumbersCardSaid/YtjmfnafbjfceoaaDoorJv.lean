/- item: a number's item in lists of bytes, its word again. -/
import Derived.Test.YtjmfnafbjfceoaaDoorJu
namespace Go.Proofs.YtjmfnafbjfceoaaDoor
open Go.RowKit Go.Shelf

theorem wdG_top (b : Nat → Nat) : ∀ m, (∀ j, wdG b m ≤ j → j < m → b j = 0) ∧ (0 < wdG b m → b (wdG b m - 1) ≠ 0)
  | 0 => ⟨fun j _ h => by omega, fun h => by unfold wdG at h; omega⟩
  | m + 1 => by
    by_cases h : b m = 0
    · have e : wdG b (m + 1) = wdG b m := by show (if b m = 0 then wdG b m else m + 1) = _; rw [if_pos h]
      rw [e]
      refine ⟨fun j h1 h2 => ?_, (wdG_top b m).2⟩
      by_cases hj : j = m
      · rw [hj]; exact h
      · exact (wdG_top b m).1 j h1 (by omega)
    · have e : wdG b (m + 1) = m + 1 := by show (if b m = 0 then wdG b m else m + 1) = _; rw [if_neg h]
      rw [e]
      exact ⟨fun j h1 h2 => by omega, fun _ => h⟩
theorem numB_byq (a q : Nat) : ∀ n, n ≤ q → numB (fun k => byA a (q - 1 - k)) n = a / 256 ^ (q - n) % 256 ^ n
  | 0, _ => by simp [numB, Nat.mod_one]
  | n + 1, h => by
    show numB (fun k => byA a (q - 1 - k)) n * 256 + byA a (q - 1 - n) = _
    rw [numB_byq a q n (by omega)]
    unfold byA
    have e : q - n = (q - 1 - n) + 1 := by omega
    rw [show q - (n + 1) = q - 1 - n by omega, e, Nat.pow_succ, ← Nat.div_div_eq_div_mul]
    generalize a / 256 ^ (q - 1 - n) = m
    rw [Nat.pow_succ', Nat.mod_mul]
    omega
theorem numB_eq (f g : Nat → Nat) : ∀ n, (∀ k, k < n → f k = g k) → numB f n = numB g n
  | 0, _ => rfl
  | n + 1, h => by
    show numB f n * 256 + f n = numB g n * 256 + g n
    rw [numB_eq f g n (fun k hk => h k (by omega)), h n (by omega)]
theorem below_top (a m : Nat) : ∀ d, a < 256 ^ (m + d) → (∀ j, m ≤ j → j < m + d → byA a j = 0) → a < 256 ^ m
  | 0, h, _ => h
  | d + 1, h, hz => by
    refine below_top a m d ?_ (fun j h1 h2 => hz j h1 (by omega))
    have h0 : a / 256 ^ (m + d) % 256 = 0 := hz (m + d) (by omega) (by omega)
    have hp : 0 < 256 ^ (m + d) := Nat.pow_pos (by omega)
    have hlt : a / 256 ^ (m + d) < 256 := by
      rw [Nat.div_lt_iff_lt_mul hp, ← Nat.pow_succ']
      exact h
    have : a / 256 ^ (m + d) = 0 := by rwa [Nat.mod_eq_of_lt hlt] at h0
    exact (Nat.div_eq_zero_iff_lt hp).1 this
theorem wdG_le32 (b : Nat → Nat) : wdG b 32 ≤ 32 := wdG_le b 32
/-- A number's bytes. -/
def nbL (a : Nat) : List Nat := (List.range (wdN a)).map fun p => byA a (wdN a - 1 - p)
theorem nbL_len (a : Nat) : (nbL a).length = wdN a := by unfold nbL; simp
theorem wdN_le (a : Nat) : wdN a ≤ 32 := wdG_le _ _
theorem nbL_get (a k : Nat) (hk : k < wdN a) : (nbL a)[k]? = some (byA a (wdN a - 1 - k)) := by
  unfold nbL; rw [List.getElem?_map, List.getElem?_range hk]; rfl
theorem nbL_bytes (a : Nat) : ∀ x ∈ nbL a, x < 256 := fun x hx => by
  unfold nbL at hx
  simp only [List.mem_map] at hx
  obtain ⟨p, _, rfl⟩ := hx
  exact byA_lt _ _
theorem nbL_num (a : Nat) (ha : a < MM) : nuL (nbL a) = a := by
  unfold nuL
  rw [nbL_len, numB_eq _ (fun k => byA a (wdN a - 1 - k)) _ (fun k hk => by show (nbL a).getD k 0 = _; rw [List.getD_eq_getElem?_getD, nbL_get a k hk]; rfl), numB_byq a (wdN a) (wdN a) (Nat.le_refl _), Nat.sub_self, Nat.pow_zero, Nat.div_one]
  refine Nat.mod_eq_of_lt (below_top a (wdN a) (32 - wdN a) ?_ fun j h1 h2 => (wdG_top (byA a) 32).1 j h1 (by have := wdN_le a; omega))
  rw [show wdN a + (32 - wdN a) = 32 by have := wdN_le a; omega, ← MM_256]
  exact ha
theorem nbL_head (a : Nat) : (nbL a).head? ≠ some 0 := by
  rw [List.head?_eq_getElem?]
  by_cases h : 0 < wdN a
  · rw [nbL_get a 0 h]
    intro e
    exact (wdG_top (byA a) 32).2 h (show byA a (wdN a - 1) = 0 by simpa using e)
  · rw [List.getElem?_eq_none (by rw [nbL_len]; omega)]; simp
theorem nbL_word (a : Nat) (ha : a < MM) : woS false (nbL a) = (a, 0) := by
  unfold woS
  rw [show decide ((nbL a).head? = some 0) = false from decide_eq_false (nbL_head a), show decide (32 < (nbL a).length) = false from decide_eq_false (by rw [nbL_len]; have := wdN_le a; omega), nbL_num a ha]
  rfl
attribute [local irreducible] lb wdG byA byC heL
/-- A number's item. -/
theorem number_bt (a : Nat) (w : World) :
    Calls Tryd.prog 19 #[W a] w fun e w' => ∃ v, e = .returned (itB v) ∧ Bt w'.heap.size w' v (nbL a) ∧ Below w.heap.size w w' := by
  refine (number_any a w).mono ?_
  rintro e w' ⟨B, rfl, hB, _, h⟩
  refine ⟨_, rfl, ?_, h⟩
  refine ⟨nbL_bytes a, ?_⟩
  rw [nbL_len]
  unfold nbV
  by_cases h0 : wdN a = 0
  · rw [if_pos h0, h0]
    exact ⟨none, 0, rfl, Nat.le_refl _, by omega, .inl ⟨rfl, List.length_eq_zero_iff.1 (by rw [nbL_len, h0]), rfl⟩⟩
  · rw [if_neg h0]
    have hm := wdN_le a
    refine ⟨_, _, rfl, Nat.le_refl _, by omega, .inr ⟨B, _, rfl, fun _ => ⟨hB.lt, hB.lt⟩, fun j u hu => ?_⟩⟩
    have hj : j < wdN a := by have := (List.getElem?_eq_some_iff.1 hu).1; rwa [nbL_len] at this
    rw [nbL_get a j hj] at hu
    cases hu
    rw [cell_of_row w' B _ _ _ _ hB, byC_at a _ (by omega), show 31 - (32 - wdN a + j) = wdN a - 1 - j by omega]
/-- A number's item, as the reference makes it. -/
theorem rnumber_bt (a : Nat) (w : World) :
    Calls Tryd.prog 22 #[W a] w fun e w' => ∃ v, e = .returned (itB v) ∧ Bto w'.heap.size w' v (nbL a) ∧ Below w.heap.size w w' := by
  refine (rnumber_any a w).mono ?_
  rintro e w' ⟨v, rfl, ⟨x, cap, h1, h2, h3, h4⟩, h⟩
  refine ⟨_, rfl, ?_, h⟩
  replace h1 : v = .slice x (wdN a) cap := h1
  replace h2 : wdN a ≤ cap := h2
  have hm := wdN_le a
  refine ⟨nbL_bytes a, x, cap, by rw [nbL_len, h1], by rw [nbL_len]; exact h2, by rw [nbL_len]; omega, fun hl => ?_⟩
  have h0 : 0 < wdN a := by
    rw [← nbL_len a]; exact List.length_pos_iff.2 hl
  obtain ⟨b, o, e, hb, hc⟩ := h4 h0
  refine ⟨b, o, e, hb, hb, fun k u hu => ?_⟩
  have hk : k < wdN a := by have := (List.getElem?_eq_some_iff.1 hu).1; rwa [nbL_len] at this
  rw [nbL_get a k hk] at hu
  cases hu
  exact (hc k hk).2

set_option maxRecDepth 100000 in
set_option maxHeartbeats 2000000 in
theorem rsame_byteso (B C : Nat) (v u : Value) (l m : List Nat) (w : World) (hv : Bto B w v l) (hu : Bto C w u m) (hl : l.length ≤ 100000) (hm : m.length ≤ 100000) :
    Calls Tryd.prog 14 #[itB v, itB u] w fun e w' => e = .returned (.bool (decide (l = m))) ∧ Below w.heap.size w w' := by
  obtain ⟨_, x, c, rfl, _⟩ := id hv
  obtain ⟨_, y, d, rfl, _⟩ := id hu
  have hW := balloc (balloc (Below.refl w.heap.size w) (.cells #[.bool false, .slice x l.length c, .slice none 0 0] 25)) (.cells #[.bool false, .slice y m.length d, .slice none 0 0] 25)
  have h1 := conv_byteso B _ l _ (hv.new hW) hl
  have h2 := conv_byteso C _ m _ (hu.new hW) hm
  have he : ((toS l).toList == (toS m).toList) = decide (l = m) := by
    rw [Bool.eq_iff_iff, beq_iff_eq, decide_eq_true_iff, toS_list, toS_list]
    exact ⟨fun h => toS_inj hv.1 hu.1 (by unfold toS; rw [h]), fun h => by rw [h]⟩
  have HW := Lib.hid hW
  clear hv hu hW
  obtain ⟨q, hq⟩ : ∃ q, decide (l = m) = q := ⟨_, rfl⟩
  rw [hq] at he ⊢
  generalize toS l = s1 at h1 he
  generalize toS m = s2 at h2 he
  obtain ⟨ll, hll⟩ : ∃ ll, l.length = ll := ⟨_, rfl⟩
  obtain ⟨ml, hml⟩ : ∃ ml, m.length = ml := ⟨_, rfl⟩
  rw [hll, hml] at h1 h2 HW ⊢
  clear hq hll hml hl hm
  cases q with
  | true =>
    have he2 : s1.toList = s2.toList := by simpa using he
    clear he
    go_enter Tryd.func14, Tryd.ntmps14
    go_wp2_with fail
    refine wp_loop_rounds 1 ?_
    rw [rounds_succ]; go_wp2_with fail
    go_ret
    exact ⟨rfl, HW.out⟩
  | false =>
    have he2 : ¬ s1.toList = s2.toList := by simpa using he
    clear he
    go_enter Tryd.func14, Tryd.ntmps14
    go_wp2_with fail
    go_ret
    exact ⟨rfl, HW.out⟩


/-- Of a number's item the number is told. -/
theorem word_number (a : Nat) (ha : a < MM) (v : Value) (B : Nat) (w : World) (hB : B ≤ w.heap.size) (hv : Bt B w v (nbL a)) :
    Calls Tryd.prog 20 #[itB v] w fun e w' => e = .returned (.tuple #[W a, .int .i64 0]) ∧ Below w.heap.size w w' := by
  have h := word_itemo (.mk false (nbL a) []) (itB v) B w hB (ItO.mk false (nbL a) [] v (.slice none 0 0) [] hv.bto ⟨none, 0, rfl, by simp, fun h => (h rfl).elim⟩ rfl (fun i t v h => by simp at h)) (smT.mk _ _ _ (by rw [nbL_len]; have := wdN_le a; omega) (by simp) (fun i t h => by simp at h))
  have e : woT (.mk false (nbL a) []) = (a, 0) := nbL_word a ha
  rw [e] at h
  exact h
end Go.Proofs.YtjmfnafbjfceoaaDoor
