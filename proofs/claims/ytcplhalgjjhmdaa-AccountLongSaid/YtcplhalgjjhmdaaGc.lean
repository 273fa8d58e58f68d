/- label, in plain numbers: texts of sets of numbers, there and back; which set holds which. No program. -/
import Derived.Test.YtcplhalgjjhmdaaGa
namespace Go.Proofs.Ytcplhalgjjhmdaa

theorem snoc_ind {α : Type} {P : List α → Prop} (h0 : P []) (h1 : ∀ l x, P l → P (l ++ [x])) (l : List α) : P l := by
  have h : ∀ r : List α, P r.reverse := fun r => by
    induction r with
    | nil => exact h0
    | cons x r ih => rw [List.reverse_cons]; exact h1 _ _ ih
  have := h l.reverse
  rwa [List.reverse_reverse] at this
/-- A number's text, below a hundred. -/
def dec (k : Nat) : List UInt8 := if k < 10 then [UInt8.ofNat (48 + k)] else [UInt8.ofNat (48 + k / 10), UInt8.ofNat (48 + k % 10)]
/-- Texts with a comma between two; with one behind each. -/
def jn : List Nat → List UInt8
  | [] => []
  | x :: l => dec x ++ l.flatMap fun y => 44 :: dec y
def jc (l : List Nat) : List UInt8 := l.flatMap fun y => dec y ++ [44]
/-- A label's text. -/
def txL (a : Nat) : List UInt8 := if a = 0 then [45] else jn (eb a 64)
theorem dec_len (k : Nat) : 1 ≤ (dec k).length ∧ (dec k).length ≤ 2 := by unfold dec; split <;> simp
theorem jn_snoc (l : List Nat) (y : Nat) (h : l ≠ []) : jn (l ++ [y]) = jn l ++ 44 :: dec y := by
  cases l with
  | nil => exact absurd rfl h
  | cons x r => simp [jn, List.flatMap_append]
theorem jc_snoc (l : List Nat) (y : Nat) : jc (l ++ [y]) = jc l ++ (dec y ++ [44]) := by simp [jc, List.flatMap_append]
theorem fm_jc : ∀ (l : List Nat) (y : Nat), (l ++ [y]).flatMap (fun y => 44 :: dec y) = 44 :: (jc l ++ dec y)
  | [], y => by simp [jc]
  | x :: l, y => by
    rw [List.cons_append, List.flatMap_cons, fm_jc l y]
    simp [jc]
theorem jn_jc (l : List Nat) (y : Nat) : jn (l ++ [y]) = jc l ++ dec y := by
  cases l with
  | nil => simp [jn, jc]
  | cons x r =>
    show dec x ++ (r ++ [y]).flatMap (fun y => 44 :: dec y) = _
    rw [fm_jc]
    simp [jc]
theorem jc_len (l : List Nat) : (jc l).length ≤ 3 * l.length := by
  induction l with
  | nil => simp [jc]
  | cons x r ih =>
    have := (dec_len x).2
    simp only [jc, List.flatMap_cons, List.length_append, List.length_cons, List.length_nil] at ih ⊢
    omega
theorem jn_len (l : List Nat) : (jn l).length ≤ 3 * l.length := by
  rcases List.eq_nil_or_concat l with rfl | ⟨r, y, rfl⟩
  · simp [jn]
  · rw [List.concat_eq_append, jn_jc]
    have h1 := jc_len r
    have h2 := (dec_len y).2
    simp only [List.length_append, List.length_cons, List.length_nil]
    omega
theorem txL_len (a : Nat) : (txL a).length ≤ 192 := by
  unfold txL
  split
  · simp
  · have h1 := jn_len (eb a 64)
    have h2 := eb_len a 64
    omega
theorem txL_zero : txL 0 = [45] := rfl
theorem txL_pos (a : Nat) (h : a ≠ 0) : txL a = jn (eb a 64) := if_neg h

/-- The set of so many numbers. -/
def orL (S : Nat) (l : List Nat) : Nat := l.foldl (fun s x => s ||| 2 ^ x) S
theorem orL_snoc (S : Nat) (l : List Nat) (y : Nat) : orL S (l ++ [y]) = orL S l ||| 2 ^ y := by simp [orL]
theorem orL_eb (a : Nat) : ∀ t, orL 0 (eb a t) = a % 2 ^ t
  | 0 => by simp [eb_zero, orL, Nat.mod_one]
  | t + 1 => by
    rw [eb_succ]
    have ih := orL_eb a t
    apply Nat.eq_of_testBit_eq
    intro j
    by_cases h : a.testBit t = true
    · rw [if_pos h, orL_snoc, ih, Nat.testBit_or, Nat.testBit_mod_two_pow, Nat.testBit_mod_two_pow, Nat.testBit_two_pow]
      by_cases h1 : t = j
      · subst h1; simp [h]
      · by_cases h2 : j < t
        · simp [h2, show j < t + 1 by omega, h1]
        · simp [h2, show ¬ j < t + 1 by omega, h1]
    · rw [if_neg h, List.append_nil, ih, Nat.testBit_mod_two_pow, Nat.testBit_mod_two_pow]
      by_cases h1 : t = j
      · subst h1; simp at h; simp [h]
      · by_cases h2 : j < t
        · simp [h2, show j < t + 1 by omega]
        · simp [h2, show ¬ j < t + 1 by omega]
theorem orL_lt (l : List Nat) (h : ∀ x ∈ l, x < 64) : ∀ S, S < 2 ^ 64 → orL S l < 2 ^ 64 := by
  induction l with
  | nil => exact fun S hS => hS
  | cons x r ih => exact fun S hS => ih (fun y hy => h y (List.mem_cons_of_mem _ hy)) _ (Nat.or_lt_two_pow hS (Nat.pow_lt_pow_right (by omega) (h x List.mem_cons_self)))
/-- All but the highest, and it. -/
theorem eb_split (a : Nat) (ha : a < 2 ^ 64) (h : a ≠ 0) : ∃ l y, eb a 64 = l ++ [y] ∧ orL 0 l ||| 2 ^ y = a ∧ ∀ x ∈ l ++ [y], x < 64 := by
  have e := orL_eb a 64
  rw [Nat.mod_eq_of_lt ha] at e
  rcases List.eq_nil_or_concat (eb a 64) with hn | ⟨l, y, hl⟩
  · rw [hn] at e; exact absurd e.symm h
  · rw [List.concat_eq_append] at hl
    refine ⟨l, y, hl, by rw [← orL_snoc, ← hl, e], fun x hx => ?_⟩
    rw [← hl] at hx
    exact ((eb_mem a 64 x).1 hx).1

/-- The program's reading, byte by byte: the set so far, the number under way. -/
def stp : Option (Nat × Nat) → UInt8 → Option (Nat × Nat)
  | none, _ => none
  | some (S, p), c => if c = 44 then some (S ||| 2 ^ p, 0) else if 48 ≤ c.toNat ∧ c.toNat ≤ 57 then (if p * 10 + (c.toNat - 48) < 64 then some (S, p * 10 + (c.toNat - 48)) else none) else none
def scP (l : List UInt8) : Option (Nat × Nat) := l.foldl stp (some (0, 0))
theorem stp_none (l : List UInt8) : l.foldl stp none = none := by
  induction l with
  | nil => rfl
  | cons c r ih => exact ih
theorem scP_snoc (l : List UInt8) (c : UInt8) : scP (l ++ [c]) = stp (scP l) c := by simp [scP]
theorem stp_dec : ∀ (x : Fin 64) (S : Nat), (dec x.val).foldl stp (some (S, 0)) = some (S, x.val) := by
  intro ⟨x, hx⟩ S
  unfold dec
  have u : ∀ n, n < 208 → (UInt8.ofNat (48 + n)).toNat = 48 + n := fun n hn => by simp [UInt8.toNat_ofNat']; omega
  have ne : ∀ n, n < 10 → UInt8.ofNat (48 + n) ≠ 44 := fun n hn e => by have := congrArg UInt8.toNat e; rw [u n (by omega)] at this; simp at this; omega
  by_cases h : x < 10
  · rw [if_pos h]
    simp only [List.foldl_cons, List.foldl_nil, stp]
    rw [if_neg (ne x h), if_pos (by rw [u x (by omega)]; omega), if_pos (by rw [u x (by omega)]; omega), u x (by omega)]
    simp
  · rw [if_neg h]
    simp only [List.foldl_cons, List.foldl_nil, stp]
    rw [if_neg (ne _ (by omega)), if_pos (by rw [u _ (by omega)]; omega), if_pos (by rw [u _ (by omega)]; omega)]
    dsimp only
    rw [if_neg (ne _ (by omega)), if_pos (by rw [u _ (by omega)]; omega), if_pos (by rw [u _ (by omega), u _ (by omega)]; omega), u _ (by omega), u _ (by omega)]
    congr 2
    omega
theorem stp_jc (l : List Nat) : ∀ (S : Nat), (∀ x ∈ l, x < 64) → (jc l).foldl stp (some (S, 0)) = some (orL S l, 0) := by
  induction l with
  | nil => intro S _; rfl
  | cons x r ih =>
    intro S h
    have hx := h x List.mem_cons_self
    show (List.flatMap _ (x :: r)).foldl stp _ = _
    rw [List.flatMap_cons, List.foldl_append, List.foldl_append, stp_dec ⟨x, hx⟩ S]
    show (jc r).foldl stp (stp (some (S, x)) 44) = _
    rw [show stp (some (S, x)) 44 = some (S ||| 2 ^ x, 0) from rfl, ih _ (fun y hy => h y (List.mem_cons_of_mem _ hy))]
    rfl
theorem scP_txL (a : Nat) (ha : a < 2 ^ 64) (h : a ≠ 0) : ∃ S p, scP (txL a) = some (S, p) ∧ S ||| 2 ^ p = a := by
  obtain ⟨l, y, hl, ho, hm⟩ := eb_split a ha h
  refine ⟨orL 0 l, y, ?_, ho⟩
  rw [txL_pos a h, hl, jn_jc]
  unfold scP
  rw [List.foldl_append, stp_jc l 0 (fun x hx => hm x (by simp [hx]))]
  exact stp_dec ⟨y, hm y (by simp)⟩ _
theorem scP_45 : scP [45] = none := by decide
theorem stp_bound {l : List UInt8} : ∀ {S p : Nat}, scP l = some (S, p) → S < 2 ^ 64 ∧ p < 64 := by
  refine snoc_ind (P := fun l => ∀ {S p : Nat}, scP l = some (S, p) → S < 2 ^ 64 ∧ p < 64) (fun h => ?_) (fun r c ih S p h => ?_) l
  · cases h; exact ⟨by decide, by decide⟩
  · rw [scP_snoc] at h
    cases hr : scP r with
    | none => rw [hr] at h; cases h
    | some q =>
      obtain ⟨S', p'⟩ := q
      obtain ⟨h1, h2⟩ := ih hr
      rw [hr] at h
      simp only [stp] at h
      split at h
      · cases h; exact ⟨Nat.or_lt_two_pow h1 (Nat.pow_lt_pow_right (by omega) h2), by omega⟩
      · split at h
        · split at h
          · cases h; exact ⟨h1, by assumption⟩
          · cases h
        · cases h
theorem or_bound {S p : Nat} (h : S < 2 ^ 64 ∧ p < 64) : S ||| 2 ^ p < 2 ^ 64 := Nat.or_lt_two_pow h.1 (Nat.pow_lt_pow_right (by omega) h.2)
theorem or_pos (S p : Nat) : S ||| 2 ^ p ≠ 0 := fun e => by
  have := congrArg (fun n => n.testBit p) e
  simp [Nat.testBit_or] at this
theorem txL_inj {a b : Nat} (ha : a < 2 ^ 64) (hb : b < 2 ^ 64) (h : txL a = txL b) : a = b := by
  by_cases h1 : a = 0
  · by_cases h2 : b = 0
    · rw [h1, h2]
    · obtain ⟨S, p, hs, _⟩ := scP_txL b hb h2
      rw [← h, h1, txL_zero, scP_45] at hs; cases hs
  · obtain ⟨S, p, hs, ho⟩ := scP_txL a ha h1
    by_cases h2 : b = 0
    · rw [h, h2, txL_zero, scP_45] at hs; cases hs
    · obtain ⟨S', p', hs', ho'⟩ := scP_txL b hb h2
      rw [← h, hs] at hs'
      cases hs'
      rw [← ho, ho']

/-- The label of a text, and whether it is one's. -/
noncomputable def labV (l : List UInt8) : Nat := open Classical in if h : ∃ a, a < 2 ^ 64 ∧ txL a = l then h.choose else 0
noncomputable def labE (l : List UInt8) : Nat := open Classical in if ∃ a, a < 2 ^ 64 ∧ txL a = l then 0 else 180
theorem lab_of {a : Nat} {l : List UInt8} (ha : a < 2 ^ 64) (h : txL a = l) : labV l = a ∧ labE l = 0 := by
  have hx : ∃ a, a < 2 ^ 64 ∧ txL a = l := ⟨a, ha, h⟩
  refine ⟨?_, if_pos hx⟩
  unfold labV
  rw [dif_pos hx]
  exact txL_inj hx.choose_spec.1 ha (hx.choose_spec.2.trans h.symm)
theorem lab_none {l : List UInt8} (h : ∀ a, a < 2 ^ 64 → txL a ≠ l) : labV l = 0 ∧ labE l = 180 := by
  have hx : ¬ ∃ a, a < 2 ^ 64 ∧ txL a = l := fun ⟨a, h1, h2⟩ => h a h1 h2
  exact ⟨dif_neg hx, if_neg hx⟩
theorem lab_scan_none {l : List UInt8} (h45 : l ≠ [45]) (h : scP l = none) : labV l = 0 ∧ labE l = 180 := lab_none fun a ha e => by
  by_cases h0 : a = 0
  · subst h0; exact h45 (e.symm.trans txL_zero)
  · obtain ⟨S, p, hs, _⟩ := scP_txL a ha h0
    rw [e, h] at hs; cases hs
theorem lab_scan_other {l : List UInt8} {S p : Nat} (h : scP l = some (S, p)) (hne : txL (S ||| 2 ^ p) ≠ l) : labV l = 0 ∧ labE l = 180 := lab_none fun a ha e => by
  by_cases h0 : a = 0
  · subst h0; rw [← e, txL_zero, scP_45] at h; cases h
  · obtain ⟨S', p', hs, ho⟩ := scP_txL a ha h0
    rw [e, h] at hs
    cases hs
    rw [ho] at hne
    exact hne e

/-- The document's reading. -/
def rst : Option (Nat × Nat × Nat) → UInt8 → Option (Nat × Nat × Nat)
  | none, _ => none
  | some (o, n, m), c => if c = 44 then (if m = 0 ∨ 63 < n then none else some (o ||| 2 ^ n, 0, 0)) else if c.toNat < 48 ∨ 57 < c.toNat ∨ m = 2 then none else some (o, 10 * n + (c.toNat - 48), m + 1)
def scR (l : List UInt8) : Option (Nat × Nat × Nat) := l.foldl rst (some (0, 0, 0))
theorem rst_none (l : List UInt8) : l.foldl rst none = none := by
  induction l with
  | nil => rfl
  | cons c r ih => exact ih
theorem scR_snoc (l : List UInt8) (c : UInt8) : scR (l ++ [c]) = rst (scR l) c := by simp [scR]
theorem rst_dec : ∀ (x : Fin 64) (S : Nat), (dec x.val).foldl rst (some (S, 0, 0)) = some (S, x.val, (dec x.val).length) := by
  intro ⟨x, hx⟩ S
  unfold dec
  have u : ∀ n, n < 208 → (UInt8.ofNat (48 + n)).toNat = 48 + n := fun n hn => by simp [UInt8.toNat_ofNat']; omega
  have ne : ∀ n, n < 10 → UInt8.ofNat (48 + n) ≠ 44 := fun n hn e => by have := congrArg UInt8.toNat e; rw [u n (by omega)] at this; simp at this; omega
  by_cases h : x < 10
  · rw [if_pos h]
    simp only [List.foldl_cons, List.foldl_nil, rst]
    rw [if_neg (ne x h), if_neg (by rw [u x (by omega)]; omega), u x (by omega)]
    simp
  · rw [if_neg h]
    simp only [List.foldl_cons, List.foldl_nil, rst]
    rw [if_neg (ne _ (by omega)), if_neg (by rw [u _ (by omega)]; omega)]
    dsimp only
    rw [if_neg (ne _ (by omega)), if_neg (by rw [u _ (by omega)]; omega), u _ (by omega), u _ (by omega)]
    simp only [List.length_cons, List.length_nil, Option.some.injEq, Prod.mk.injEq, true_and, and_true]
    omega
theorem rst_jc (l : List Nat) : ∀ (S : Nat), (∀ x ∈ l, x < 64) → (jc l).foldl rst (some (S, 0, 0)) = some (orL S l, 0, 0) := by
  induction l with
  | nil => intro S _; rfl
  | cons x r ih =>
    intro S h
    have hx := h x List.mem_cons_self
    show (List.flatMap _ (x :: r)).foldl rst _ = _
    rw [List.flatMap_cons, List.foldl_append, List.foldl_append, rst_dec ⟨x, hx⟩ S]
    show (jc r).foldl rst (rst (some (S, x, _)) 44) = _
    have e : rst (some (S, x, (dec x).length)) 44 = some (S ||| 2 ^ x, 0, 0) := by
      simp only [rst, if_true]
      rw [if_neg (by have := (dec_len x).1; omega)]
    rw [e, ih _ (fun y hy => h y (List.mem_cons_of_mem _ hy))]
    rfl
theorem scR_txL (a : Nat) (ha : a < 2 ^ 64) (h : a ≠ 0) : ∃ S p m, scR (txL a) = some (S, p, m) ∧ p ≤ 63 ∧ m ≠ 0 ∧ S ||| 2 ^ p = a := by
  obtain ⟨l, y, hl, ho, hm⟩ := eb_split a ha h
  have hy := hm y (by simp)
  refine ⟨orL 0 l, y, (dec y).length, ?_, by omega, by have := (dec_len y).1; omega, ho⟩
  rw [txL_pos a h, hl, jn_jc]
  unfold scR
  rw [List.foldl_append, rst_jc l 0 (fun x hx => hm x (by simp [hx]))]
  exact rst_dec ⟨y, hy⟩ _
theorem scR_45 : scR [45] = none := by decide
theorem lab_read_none {l : List UInt8} (h45 : l ≠ [45]) (h : scR l = none) : labV l = 0 ∧ labE l = 180 := lab_none fun a ha e => by
  by_cases h0 : a = 0
  · subst h0; exact h45 (e.symm.trans txL_zero)
  · obtain ⟨S, p, m, hs, _⟩ := scR_txL a ha h0
    rw [e, h] at hs; cases hs
theorem lab_read_end {l : List UInt8} {S p m : Nat} (h : scR l = some (S, p, m)) (hb : m = 0 ∨ 63 < p) : labV l = 0 ∧ labE l = 180 := lab_none fun a ha e => by
  by_cases h0 : a = 0
  · subst h0; rw [← e, txL_zero, scR_45] at h; cases h
  · obtain ⟨S', p', m', hs, h1, h2, _⟩ := scR_txL a ha h0
    rw [e, h] at hs
    cases hs
    omega
theorem lab_read_other {l : List UInt8} {S p m : Nat} (h : scR l = some (S, p, m)) (hne : txL (S ||| 2 ^ p) ≠ l) : labV l = 0 ∧ labE l = 180 := lab_none fun a ha e => by
  by_cases h0 : a = 0
  · subst h0; rw [← e, txL_zero, scR_45] at h; cases h
  · obtain ⟨S', p', m', hs, _, _, ho⟩ := scR_txL a ha h0
    rw [e, h] at hs
    cases hs
    rw [ho] at hne
    exact hne e
theorem rst_bound {l : List UInt8} : ∀ {S p m : Nat}, scR l = some (S, p, m) → S < 2 ^ 64 ∧ p < 100 ∧ m ≤ 2 ∧ (m = 0 → p = 0) ∧ (m = 1 → p < 10) := by
  refine snoc_ind (P := fun l => ∀ {S p m : Nat}, scR l = some (S, p, m) → S < 2 ^ 64 ∧ p < 100 ∧ m ≤ 2 ∧ (m = 0 → p = 0) ∧ (m = 1 → p < 10)) (fun h => ?_) (fun r c ih S p m h => ?_) l
  · cases h; exact ⟨by decide, by decide, by decide, by decide, by decide⟩
  · rw [scR_snoc] at h
    cases hr : scR r with
    | none => rw [hr] at h; cases h
    | some q =>
      obtain ⟨S', p', m'⟩ := q
      obtain ⟨h1, h2, h3, h4, h5⟩ := ih hr
      rw [hr] at h
      simp only [rst] at h
      split at h
      · split at h
        · cases h
        · cases h; exact ⟨Nat.or_lt_two_pow h1 (Nat.pow_lt_pow_right (by omega) (by omega)), by omega, by omega, by omega, by omega⟩
      · split at h
        · cases h
        · cases h; exact ⟨h1, by omega, by omega, by omega, by omega⟩

/-- One set holds another. -/
def sub (a b : Nat) : Bool := decide (a ||| b = b)
theorem sub_iff (a b : Nat) : sub a b = true ↔ ∀ i, a.testBit i = true → b.testBit i = true := by
  unfold sub
  rw [decide_eq_true_iff]
  constructor
  · intro h i hi
    rw [← h, Nat.testBit_or, hi, Bool.true_or]
  · intro h
    apply Nat.eq_of_testBit_eq; intro i
    rw [Nat.testBit_or]
    cases ha : a.testBit i
    · simp
    · rw [h i ha]; rfl
theorem sub_refl (a : Nat) : sub a a = true := (sub_iff a a).2 fun _ h => h
theorem sub_trans {a b c : Nat} (h : sub a b = true) (k : sub b c = true) : sub a c = true := (sub_iff a c).2 fun i hi => (sub_iff b c).1 k i ((sub_iff a b).1 h i hi)
theorem sub_anti {a b : Nat} (h : sub a b = true) (k : sub b a = true) : a = b := by
  unfold sub at h k
  rw [decide_eq_true_iff] at h k
  rw [← h, Nat.or_comm, k]
theorem sub_or (a b c : Nat) : sub (a ||| b) c = (sub a c && sub b c) := by
  rw [Bool.eq_iff_iff, Bool.and_eq_true, sub_iff, sub_iff, sub_iff]
  constructor
  · intro h
    exact ⟨fun i hi => h i (by rw [Nat.testBit_or, hi, Bool.true_or]), fun i hi => h i (by rw [Nat.testBit_or, hi, Bool.or_true])⟩
  · rintro ⟨h1, h2⟩ i hi
    rw [Nat.testBit_or, Bool.or_eq_true] at hi
    exact hi.elim (h1 i) (h2 i)
theorem sub_and (a b c : Nat) : sub c (a &&& b) = (sub c a && sub c b) := by
  rw [Bool.eq_iff_iff, Bool.and_eq_true, sub_iff, sub_iff, sub_iff]
  constructor
  · intro h
    refine ⟨fun i hi => ?_, fun i hi => ?_⟩ <;> (have := h i hi; rw [Nat.testBit_and, Bool.and_eq_true] at this)
    · exact this.1
    · exact this.2
  · rintro ⟨h1, h2⟩ i hi
    rw [Nat.testBit_and, h1 i hi, h2 i hi]; rfl
theorem sub_left (a b : Nat) : sub a (a ||| b) = true := (sub_iff _ _).2 fun i hi => by rw [Nat.testBit_or, hi, Bool.true_or]
theorem sub_right (a b : Nat) : sub b (a ||| b) = true := (sub_iff _ _).2 fun i hi => by rw [Nat.testBit_or, hi, Bool.or_true]
theorem and_left (a b : Nat) : sub (a &&& b) a = true := (sub_iff _ _).2 fun i hi => by rw [Nat.testBit_and, Bool.and_eq_true] at hi; exact hi.1
theorem and_right (a b : Nat) : sub (a &&& b) b = true := (sub_iff _ _).2 fun i hi => by rw [Nat.testBit_and, Bool.and_eq_true] at hi; exact hi.2
theorem sub_zero (b : Nat) : sub 0 b = true := (sub_iff _ _).2 fun i hi => by simp at hi
theorem sub_top (a : Nat) (ha : a < 2 ^ 64) : sub a (2 ^ 64 - 1) = true := (sub_iff _ _).2 fun i hi => by
  rw [Nat.testBit_two_pow_sub_one]
  refine decide_eq_true (Classical.byContradiction fun hc => ?_)
  rw [Nat.testBit_lt_two_pow (Nat.lt_of_lt_of_le ha (Nat.pow_le_pow_right (by omega) (by omega)))] at hi
  cases hi
/-- All of so many lie between two. -/
def btw (a b : Nat) (l : List Nat) : Bool := l.all fun x => sub a x && sub x b
theorem btw_snoc (a b : Nat) (l : List Nat) (x : Nat) : btw a b (l ++ [x]) = (btw a b l && (sub a x && sub x b)) := by simp [btw]
def joinL (l : List Nat) : Nat := l.foldl (· ||| ·) 0
def meetL (l : List Nat) : Nat := l.foldl (· &&& ·) (2 ^ 64 - 1)
theorem joinL_snoc (l : List Nat) (x : Nat) : joinL (l ++ [x]) = joinL l ||| x := by simp [joinL]
theorem meetL_snoc (l : List Nat) (x : Nat) : meetL (l ++ [x]) = meetL l &&& x := by simp [meetL]
theorem btw_eq (a b : Nat) (ha : a < 2 ^ 64) (l : List Nat) : (sub a (meetL l) && sub (joinL l) b) = btw a b l := by
  refine snoc_ind (P := fun l => (sub a (meetL l) && sub (joinL l) b) = btw a b l) ?_ (fun r x ih => ?_) l
  · show (sub a (2 ^ 64 - 1) && sub 0 b) = true
    rw [sub_top a ha, sub_zero]; rfl
  · rw [meetL_snoc, joinL_snoc, sub_and, sub_or, btw_snoc, ← ih]
    cases sub a (meetL r) <;> cases sub (joinL r) b <;> cases sub a x <;> cases sub x b <;> rfl
theorem joinL_lt (l : List Nat) : (∀ x ∈ l, x < 2 ^ 64) → joinL l < 2 ^ 64 := by
  refine snoc_ind (P := fun l => (∀ x ∈ l, x < 2 ^ 64) → joinL l < 2 ^ 64) (fun _ => by decide) (fun r x ih h => ?_) l
  rw [joinL_snoc]
  exact Nat.or_lt_two_pow (ih (fun y hy => h y (by simp [hy]))) (h x (by simp))
theorem meetL_lt (l : List Nat) : meetL l < 2 ^ 64 := by
  refine snoc_ind (P := fun l => meetL l < 2 ^ 64) (by decide) (fun r x ih => ?_) l
  rw [meetL_snoc]
  exact Nat.lt_of_le_of_lt Nat.and_le_left ih
end Go.Proofs.Ytcplhalgjjhmdaa
