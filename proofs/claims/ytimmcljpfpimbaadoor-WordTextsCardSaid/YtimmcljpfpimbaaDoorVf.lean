/- The word of a text (WordTexts): which texts are a word's. -/
import Derived.Test.YtimmcljpfpimbaaDoorVe
import Derived.Test.YtimmcljpfpimbaaDoorWj
namespace Go.Proofs.YtimmcljpfpimbaaDoor
open Go.RowKit
attribute [local go_sem] ix0 ix1 ix2 ix3

/-! A text without noughts ahead is told by its value. -/
theorem valL_init (l : List UInt8) : ∀ n, l.foldl (fun n b => n * 16 + dv b) n = n * 16 ^ l.length + valL l := by
  induction l with
  | nil => intro n; simp [valL]
  | cons b l ih =>
    intro n
    unfold valL
    rw [List.foldl_cons, List.foldl_cons, ih, ih (0 * 16 + dv b), List.length_cons, Nat.pow_succ']
    rw [Nat.add_mul, Nat.mul_assoc, Nat.zero_mul, Nat.zero_add, Nat.add_assoc]
theorem valL_cons (b : UInt8) (l : List UInt8) : valL (b :: l) = dv b * 16 ^ l.length + valL l := by
  show l.foldl (fun n b => n * 16 + dv b) (0 * 16 + dv b) = _
  rw [valL_init, Nat.zero_mul, Nat.zero_add]
theorem valL_lt : ∀ l : List UInt8, (∀ y ∈ l, dv y < 16) → valL l < 16 ^ l.length
  | [], _ => by simp [valL]
  | b :: l, h => by
    have h1 := h b (by simp)
    have h2 := valL_lt l (fun y hy => h y (by simp [hy]))
    rw [valL_cons, List.length_cons, Nat.pow_succ']
    have h3 : dv b * 16 ^ l.length ≤ 15 * 16 ^ l.length := Nat.mul_le_mul_right _ (by omega)
    omega
theorem dv_inj (x y : UInt8) (hx : dv x < 16) (h : dv x = dv y) : x = y := by
  have h1 := dgN_dv x hx
  have h2 := dgN_dv y (by omega)
  rw [h] at h1
  exact UInt8.toNat_inj.1 (by omega)
theorem valL_inj : ∀ l m : List UInt8, l.length = m.length → (∀ y ∈ l, dv y < 16) → (∀ y ∈ m, dv y < 16) → valL l = valL m → l = m
  | [], [], _, _, _, _ => rfl
  | [], _ :: _, h, _, _, _ => by simp at h
  | _ :: _, [], h, _, _, _ => by simp at h
  | a :: l, b :: m, h, hl, hm, hv => by
    have e : l.length = m.length := by simpa using h
    have h1 := valL_lt l (fun y hy => hl y (by simp [hy]))
    have h2 := valL_lt m (fun y hy => hm y (by simp [hy]))
    rw [valL_cons, valL_cons, e] at hv
    rw [e] at h1
    have hp : 0 < 16 ^ m.length := Nat.pow_pos (by omega)
    have hd : dv a = dv b := by
      have e1 : (dv a * 16 ^ m.length + valL l) / 16 ^ m.length = dv a := by rw [Nat.mul_comm, Nat.mul_add_div hp, Nat.div_eq_of_lt h1]; rfl
      have e2 : (dv b * 16 ^ m.length + valL m) / 16 ^ m.length = dv b := by rw [Nat.mul_comm, Nat.mul_add_div hp, Nat.div_eq_of_lt h2]; rfl
      rw [← e1, hv, e2]
    have hab := dv_inj a b (hl a (by simp)) hd
    subst hab
    rw [valL_inj l m e (fun y hy => hl y (by simp [hy])) (fun y hy => hm y (by simp [hy])) (by omega)]
theorem dv_pos (x : UInt8) (hx : dv x < 16) (h : x ≠ 48) : 0 < dv x := by
  rcases Nat.eq_zero_or_pos (dv x) with g | g
  · exact absurd (dv_inj x 48 hx (by rw [g]; rfl)) h
  · exact g
theorem canon_len {x y : UInt8} {l m : List UInt8} (hy : y ≠ 48 ∨ m = []) (hl : ∀ z ∈ x :: l, dv z < 16) (hm : ∀ z ∈ y :: m, dv z < 16) (h : valL (x :: l) = valL (y :: m)) : ¬ l.length < m.length := by
  intro hlt
  have hy' : y ≠ 48 := by
    rcases hy with g | g
    · exact g
    · rw [g] at hlt; simp at hlt
  have h1 := valL_lt (x :: l) hl
  have h2 : 16 ^ m.length ≤ valL (y :: m) := by
    rw [valL_cons]
    have := Nat.mul_le_mul_right (16 ^ m.length) (dv_pos y (hm y (by simp)) hy')
    omega
  have h3 : 16 ^ (l.length + 1) ≤ 16 ^ m.length := Nat.pow_le_pow_right (by omega) hlt
  rw [List.length_cons] at h1
  omega
theorem canon_uniq {x y : UInt8} {l m : List UInt8} (hx : x ≠ 48 ∨ l = []) (hy : y ≠ 48 ∨ m = []) (hl : ∀ z ∈ x :: l, dv z < 16) (hm : ∀ z ∈ y :: m, dv z < 16) (h : valL (x :: l) = valL (y :: m)) : x :: l = y :: m := by
  have a := canon_len hy hl hm h
  have b := canon_len hx hm hl h.symm
  exact valL_inj _ _ (by simp; omega) hl hm h
theorem text_canon (T : List UInt8) (hlen : T.length ≤ 64) (x : UInt8) (l : List UInt8) (hT : T = x :: l) (hok : ∀ y ∈ T, dv y < 16) : (txtL (valL T) == 48 :: 120 :: T) = decide (x ≠ 48 ∨ l = []) := by
  have ha : valL T < MM := by
    rw [MM_16]
    exact Nat.lt_of_lt_of_le (valL_lt T hok) (Nat.pow_le_pow_right (by omega) hlen)
  obtain ⟨y, m, h1, h2⟩ := txA_head (valL T)
  have hv := txA_val (valL T) ha
  have hok2 := txA_ok (valL T) 64
  rw [txA_txtL]
  generalize txA (valL T) 64 = U at *
  subst h1
  rw [Bool.eq_iff_iff]
  simp only [beq_iff_eq, decide_eq_true_eq, List.cons.injEq, true_and]
  constructor
  · intro e
    rw [hT] at e
    simp only [List.cons.injEq] at e
    rw [← e.1, ← e.2]; exact h2
  · intro hc
    subst hT
    exact canon_uniq h2 hc hok2 hok hv
theorem ext_pre (s : ByteArray) : ((s.extract 0 2).toList == [48, 120]) = Lib.hasPrefix s.data.toList [48, 120] := by
  obtain ⟨l, rfl⟩ : ∃ l : List UInt8, s = ⟨l.toArray⟩ := ⟨s.data.toList, by simp⟩
  rw [ByteArray.extract_mk, ByteArray.toList_eq]
  show ((l.drop 0).take 2 == [48, 120]) = Lib.hasPrefix l [48, 120]
  unfold Lib.hasPrefix
  match l with
  | [] => rfl
  | [a] => simp [List.isPrefixOf]
  | a :: b :: t =>
    have c : ∀ x y : UInt8, (x == y) = (y == x) := fun x y => by rw [Bool.eq_iff_iff]; simp only [beq_iff_eq]; exact ⟨Eq.symm, Eq.symm⟩
    show ((a == 48) && ((b == 120) && true)) = ((48 == a) && ((120 == b) && List.isPrefixOf [] t))
    rw [c a, c b, List.isPrefixOf]

set_option maxRecDepth 100000 in
set_option maxHeartbeats 2000000 in
/-- Not 0x ahead. -/
theorem parse_bare (s : ByteArray) (hP : Hid (Lib.hasPrefix s.data.toList [48, 120] = false)) (w : World) :
    Calls Tryd.prog 27 #[.string s] w fun e w' => e = .returned (.tuple #[W 0, .int .i64 110]) ∧ Below w.heap.size w w' := by
  rw [W_zero]
  obtain ⟨R, hR0⟩ : ∃ R, (⟨(Lib.trimPrefix s.data.toList [48, 120]).toArray⟩ : ByteArray) = R := ⟨_, rfl⟩
  have hR := Lib.hid hR0
  clear hR0
  have bR0 := Blk.new w 24 #[.int .u64 0, .int .u64 0, .int .u64 0, .int .u64 0]
  go_enter Tryd.func27, Tryd.ntmps27
  go_wp2
  refine wp_scope_jumps 0 (PJ w.heap.size w) (fun _ _ => 0) rfl ?first ?pass
  case first =>
    go_wp2_with (go_at_call 43; refine (cut_rest s _).mono ?_; rintro e w' ⟨rfl, rfl⟩; rw [hR.out, hP.out])
    go_step3
    exact ⟨rfl, _, _, _, _, _, _, _, _, _, _, _, _, _, _, _, _, _, _, _, _, _, _, _, _, _, _, _, _, _, _, _, _, _, _, _, _, _, _, _, _, _, _, _, _, _, _, _, _, _, rfl, bR0.alloc _, balloc (balloc (Below.refl _ _) _) _⟩
  case pass =>
    rintro a X ⟨x0, x1, x3, x4, x5, x6, x7, x8, x9, x10, x11, x12, x13, x14, x15, x16, x17, x18, x19, x20, x21, x22, x23, x24, x25, x26, x27, x28, x29, x30, x31, x32, x33, x34, x35, x36, x37, x38, x39, x40, x41, x42, x43, x44, x45, x46, x47, x48, x49, rfl, bR, hB⟩
    have r0 := cell_of_row X _ 0 _ _ _ bR
    have r1 := cell_of_row X _ 1 _ _ _ bR
    have r2 := cell_of_row X _ 2 _ _ _ bR
    have r3 := cell_of_row X _ 3 _ _ _ bR
    have f0 := frozen_of_row X _ 0 _ _ bR
    have f1 := frozen_of_row X _ 1 _ _ bR
    have f2 := frozen_of_row X _ 2 _ _ bR
    have f3 := frozen_of_row X _ 3 _ _ bR
    go_wp2
    exact bodyPost_ret (R := fun e w' => e = .returned (.tuple #[.agg #[.int .u64 0, .int .u64 0, .int .u64 0, .int .u64 0], .int .i64 110]) ∧ Below w.heap.size w w') (v := .tuple #[.agg #[.int .u64 0, .int .u64 0, .int .u64 0, .int .u64 0], .int .i64 110]) (by simp [results, Tryd.results27, go_sem, r0, r1, r2, r3]) rfl ⟨rfl, (((hB.setCell (p := ⟨w.heap.size, 0, none⟩) (Nat.le_refl _) _).setCell (p := ⟨w.heap.size, 1, none⟩) (Nat.le_refl _) _).setCell (p := ⟨w.heap.size, 2, none⟩) (Nat.le_refl _) _).setCell (p := ⟨w.heap.size, 3, none⟩) (Nat.le_refl _) _⟩

theorem both_mk {s : ByteArray} {v : Nat} {c : Int} (h1 : ∀ w : World, Calls Tryd.prog 27 #[.string s] w (fun e w' => e = .returned (.tuple #[W v, .int .i64 c]) ∧ Below w.heap.size w w'))
    (h2 : ∀ w : World, Calls Tryd.prog 30 #[.string s] w (fun e w' => e = .returned (.tuple #[W v, .int .i64 c]) ∧ Below w.heap.size w w')) (hc : 0 ≤ c ∧ c ≤ 1000) : ∃ v c, 0 ≤ c ∧ c ≤ 1000 ∧ ∀ w : World,
    Calls Tryd.prog 27 #[.string s] w (fun e w' => e = .returned (.tuple #[W v, .int .i64 c]) ∧ Below w.heap.size w w') ∧
    Calls Tryd.prog 30 #[.string s] w (fun e w' => e = .returned (.tuple #[W v, .int .i64 c]) ∧ Below w.heap.size w w') := ⟨v, c, hc.1, hc.2, fun w => ⟨h1 w, h2 w⟩⟩
set_option maxHeartbeats 1000000 in
/-- Of each text both tell the same. -/
theorem parse_both (s : ByteArray) (hm : s.size ≤ 100) : ∃ v c, 0 ≤ c ∧ c ≤ 1000 ∧ ∀ w : World,
    Calls Tryd.prog 27 #[.string s] w (fun e w' => e = .returned (.tuple #[W v, .int .i64 c]) ∧ Below w.heap.size w w') ∧
    Calls Tryd.prog 30 #[.string s] w (fun e w' => e = .returned (.tuple #[W v, .int .i64 c]) ∧ Below w.heap.size w w') := by
  have hx := ext_pre s
  cases hp : Lib.hasPrefix s.data.toList [48, 120] with
  | false =>
    rw [hp] at hx
    exact ⟨0, 110, by omega, by omega, fun w => ⟨parse_bare s hp w, rparse_bare s (by
      by_cases h : s.size < 3
      · exact .inl h
      · exact .inr ⟨by omega, hx⟩) hm w⟩⟩
  | true =>
    rw [hp] at hx
    obtain ⟨T, hT⟩ : ∃ T, s.data.toList = 48 :: 120 :: T := by
      generalize s.data.toList = l at hp
      unfold Lib.hasPrefix at hp
      match l, hp with
      | [], h => exact absurd h (by decide)
      | [a], h => exact absurd h (by simp [List.isPrefixOf])
      | a :: b :: t, h =>
        have h' : ((48 == a) && ((120 == b) && List.isPrefixOf [] t)) = true := h
        simp only [Bool.and_eq_true, beq_iff_eq] at h'
        exact ⟨t, by rw [← h'.1, ← h'.2.1]⟩
    obtain rfl : s = ⟨(48 :: 120 :: T).toArray⟩ := by
      apply WideShapes.bytes_inj
      rw [hT]
    have hsz : (⟨(48 :: 120 :: T).toArray⟩ : ByteArray).size = T.length + 2 := by simp [ByteArray.size]
    have hR : Hid ((⟨(Lib.trimPrefix (48 :: 120 :: T) [48, 120]).toArray⟩ : ByteArray) = ⟨T.toArray⟩) := by show _ = _; simp [Lib.trimPrefix, Lib.hasPrefix]
    have hRs : (⟨T.toArray⟩ : ByteArray).size = T.length := by simp [ByteArray.size]
    have hP : Hid (Lib.hasPrefix (48 :: 120 :: T) [48, 120] = true) := by show _ = _; simp [Lib.hasPrefix]
    rw [hsz] at hm
    clear hT hp
    by_cases h64 : 64 < T.length
    · exact ⟨0, 3, by omega, by omega, fun w => ⟨parse_long _ ⟨T.toArray⟩ (by rw [hRs]; exact h64) (by rw [hRs]; omega) hR hP w, rparse_long _ (by rw [hsz]; omega) hx (by rw [hsz]; omega) w⟩⟩
    · cases hT : T with
      | nil =>
        subst hT
        exact ⟨0, 110, by omega, by omega, fun w => ⟨parse_bad _ ⟨[].toArray⟩ true (by simp [ByteArray.size]) hR hP (.inr (.inl ⟨rfl, by decide +kernel⟩)) w, rparse_bare _ (.inl (by rw [hsz]; simp)) (by rw [hsz]; simp) w⟩⟩
      | cons x l =>
        rw [← hT]
        have hT64 : T.length ≤ 64 := by omega
        have hpos : 0 < (⟨T.toArray⟩ : ByteArray).size := by rw [hRs, hT]; simp
        have h0 : (⟨T.toArray⟩ : ByteArray)[0]'hpos = x := by subst hT; rfl
        have hsz3 : 3 ≤ (⟨(48 :: 120 :: T).toArray⟩ : ByteArray).size := by rw [hsz, hT]; simp
        have hsz66 : (⟨(48 :: 120 :: T).toArray⟩ : ByteArray).size ≤ 66 := by rw [hsz]; omega
        have hdec : ∀ w, x = 48 → l ≠ [] → Calls Tryd.prog 27 #[.string ⟨(48 :: 120 :: T).toArray⟩] w (fun e w' => e = .returned (.tuple #[W 0, .int .i64 110]) ∧ Below w.heap.size w w') := fun w e1 e2 =>
          parse_bad _ ⟨T.toArray⟩ true (by rw [hRs]; omega) hR hP (.inr (.inr (.inl ⟨hpos, rfl, by rw [h0, e1], by
            rw [ByteArray.toList_eq]
            show (T == [48]) = false
            rw [hT, beq_eq_false_iff_ne]
            intro g
            simp only [List.cons.injEq] at g
            exact e2 g.2⟩))) w
        by_cases hok : ∀ y ∈ T, dv y < 16
        · have hnd : Hid (numD ((⟨(48 :: 120 :: T).toArray⟩ : ByteArray).data.toList.drop 2) ((⟨(48 :: 120 :: T).toArray⟩ : ByteArray).size - 2) = valL T) := by
            show _ = _
            rw [hsz]; exact numD_val T
          have hall : ∀ j, 2 ≤ j → j < (⟨(48 :: 120 :: T).toArray⟩ : ByteArray).size → dv ((⟨(48 :: 120 :: T).toArray⟩ : ByteArray).data.toList.getD j 0) < 16 := fun j h1 h2 => by
            rw [hsz] at h2
            obtain ⟨k, rfl⟩ : ∃ k, j = k + 2 := ⟨j - 2, by omega⟩
            show dv (T.getD k 0) < 16
            apply hok
            simp [List.getD, List.getElem?_eq_getElem (show k < T.length by omega)]
          have htx := text_canon T hT64 x l hT hok
          have hls : (⟨(48 :: 120 :: T).toArray⟩ : ByteArray).toList = 48 :: 120 :: T := by rw [ByteArray.toList_eq]
          by_cases hc : x ≠ 48 ∨ l = []
          · have ht2 : (txtL (numD ((⟨(48 :: 120 :: T).toArray⟩ : ByteArray).data.toList.drop 2) ((⟨(48 :: 120 :: T).toArray⟩ : ByteArray).size - 2)) == (⟨(48 :: 120 :: T).toArray⟩ : ByteArray).toList) = true := by
              rw [hnd.out, hls, htx]; exact decide_eq_true hc
            have h1 := parse_list T hT64 x l hT hc hok
            have h2 := rparse_ok ⟨(48 :: 120 :: T).toArray⟩ hsz3 hsz66 hx hall ht2
            rw [hnd.out] at h2
            exact both_mk h1 h2 (by decide)
          · have hx48 : x = 48 := by
              apply Classical.byContradiction
              intro g; exact hc (.inl g)
            have hl : l ≠ [] := fun g => hc (.inr g)
            have ht2 : (txtL (numD ((⟨(48 :: 120 :: T).toArray⟩ : ByteArray).data.toList.drop 2) ((⟨(48 :: 120 :: T).toArray⟩ : ByteArray).size - 2)) == (⟨(48 :: 120 :: T).toArray⟩ : ByteArray).toList) = false := by
              rw [hnd.out, hls, htx]; exact decide_eq_false hc
            exact both_mk (fun w => hdec w hx48 hl) (rparse_not ⟨(48 :: 120 :: T).toArray⟩ hsz3 hsz66 hx hall ht2) (by decide)
        · obtain ⟨y, hy1, hy2⟩ : ∃ y, y ∈ T ∧ ¬ dv y < 16 := by
            apply Classical.byContradiction
            intro g
            exact hok (fun y hy => Classical.byContradiction fun g2 => g ⟨y, hy, g2⟩)
          obtain ⟨k, hk, hky⟩ := List.mem_iff_getElem.1 hy1
          have hgd : T.getD k 0 = y := by simp [List.getD, List.getElem?_eq_getElem hk, hky]
          refine ⟨0, 110, by omega, by omega, fun w => ⟨?_, rparse_bad _ hsz3 hsz66 hx (k + 2) ⟨by omega, by rw [hsz]; omega⟩ (show ¬ dv (T.getD k 0) < 16 by rw [hgd]; exact hy2) w⟩⟩
          by_cases hx48 : x = 48
          · by_cases hl : l = []
            · exfalso
              rw [hT, hl, hx48] at hy1
              rw [List.mem_singleton.1 hy1] at hy2
              exact hy2 (by decide)
            · exact hdec w hx48 hl
          · exact parse_bad _ ⟨T.toArray⟩ true (by rw [hRs]; omega) hR hP (.inr (.inr (.inr ⟨hpos, rfl, by rw [h0]; exact hx48, k, by rw [hRs]; exact hk, by show ¬ dv (T.getD k 0) < 16; rw [hgd]; exact hy2⟩))) w
end Go.Proofs.YtimmcljpfpimbaaDoor
