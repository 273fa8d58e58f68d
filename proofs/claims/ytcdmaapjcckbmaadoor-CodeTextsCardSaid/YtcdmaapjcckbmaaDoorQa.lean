/- Texts laid into one: Qa. -/
import Derived.Test.YtcdmaapjcckbmaaDoorXt
import Derived.Test.YtcdmaapjcckbmaaDoorWg
import Derived.Defers
import Derived.Recover
import Derived.Test.YtcdmaapjcckbmaaDoorXj
import Derived.Test.YtcdmaapjcckbmaaDoorXv
/- code: the reader: need, digit. -/
namespace Go.Proofs.YtcdmaapjcckbmaaDoor
open Go.RowKit Go.Shelf

abbrev ch200 : List PanicEntry := [{ v := .iface 47 (.int .i64 200), recovered := false }]
theorem need_t (w : World) : Calls Tryd.prog 81 #[.bool true] w fun e w' => e = .returned (.tuple #[]) ∧ w = w' := by
  go_enter Tryd.func81, Tryd.ntmps81
  go_wp2_with fail
  go_end0
  exact ⟨rfl, rfl⟩
theorem need_f (w : World) : Calls Tryd.prog 81 #[.bool false] w fun e w' => e = .panicked ch200 ∧ w = w' := by
  go_enter Tryd.func81, Tryd.ntmps81
  go_wp2_with fail
  exact ⟨rfl, rfl, rfl⟩
/-- What a digit is worth; 16: it is none. -/
def dgV (c : Nat) : Nat := if 48 ≤ c ∧ c ≤ 57 then c - 48 else if 97 ≤ c ∧ c ≤ 102 then c - 87 else 16
theorem dgV_index : ∀ c : Fin 256, Lib.indexByte hexS.data.toList (((c.val : Nat) : Int).toNat.toUInt8) = if dgV c.val < 16 then ((dgV c.val : Nat) : Int) else -1 := by decide +kernel
theorem digit_ok (c : Nat) (hc : c < 256) (h : dgV c < 16) (w : World) : Calls Tryd.prog 91 #[.int .u8 c] w fun e w' => e = .returned (.int .u8 (dgV c : Nat)) ∧ w = w' := by
  have hI := dgV_index ⟨c, hc⟩
  rw [if_pos h] at hI
  have g0 : IntKind.u8.wrap ((dgV c : Nat) : Int) = ((dgV c : Nat) : Int) := IntWalk.u8_in _ (by omega)
  have g1 : (0 : Int) ≤ ((dgV c : Nat) : Int) := by omega
  have HI := Lib.hid (fun w => (indexByte_any hexS (c : Int) w).mono fun e w' h => (⟨by rw [h.1, hI], h.2⟩ : e = .returned (.int .i64 ((dgV c : Nat) : Int)) ∧ w = w'))
  clear hI h hc
  generalize dgV c = d at *
  go_enter Tryd.func91, Tryd.ntmps91
  go_wp2_with (first
    | (go_at_call 102; refine (HI.out _).mono ?_; rintro e w' ⟨rfl, rfl⟩)
    | (go_at_call 81; refine (need_t _).mono ?_; rintro e w' ⟨rfl, rfl⟩)
    | fail)
  go_ret
  exact ⟨rfl, rfl⟩
theorem digit_bad (c : Nat) (hc : c < 256) (h : ¬ dgV c < 16) (w : World) : Calls Tryd.prog 91 #[.int .u8 c] w fun e w' => e = .panicked ch200 ∧ w = w' := by
  have hI := dgV_index ⟨c, hc⟩
  rw [if_neg h] at hI
  have HI := Lib.hid (fun w => (indexByte_any hexS (c : Int) w).mono fun e w' h => (⟨by rw [h.1, hI], h.2⟩ : e = .returned (.int .i64 (-1)) ∧ w = w'))
  clear hI h hc
  go_enter Tryd.func91, Tryd.ntmps91
  go_wp2_with (first
    | (go_at_call 102; refine (HI.out _).mono ?_; rintro e w' ⟨rfl, rfl⟩)
    | (go_at_call 81; refine (need_f _).mono ?_; rintro e w' ⟨rfl, rfl⟩)
    | fail)
  exact ⟨rfl, rfl, rfl⟩
end Go.Proofs.YtcdmaapjcckbmaaDoor

/- code: the reader: bytesOf. -/
namespace Go.Proofs.YtcdmaapjcckbmaaDoor
open Go.RowKit Go.Shelf

theorem str_ix (S : ByteArray) (k : Nat) (z : Int) (hz : z = (k : Int)) (h : k < S.size) (w : World) : (Instr.index 9 (.string S) (.int .i64 z)).run Tryd.prog w = .ok (.int .u8 ((S.data.toList.getD k 0).toNat : Nat)) w := by
  subst hz
  have h0 : (0 : Int) ≤ (k : Int) := by omega
  have h1 : (k : Int) < (S.size : Nat) := by omega
  have e : S.data.toList.getD k 0 = S[k]'h := by
    rw [List.getD_eq_getElem?_getD, List.getElem?_eq_getElem (by simpa using h)]
    rfl
  rw [e]
  simp [go_sem, h0, h1]

/-- The bytes that digits tell. -/
def hgN (D : List UInt8) (i : Nat) : Nat := dgV (D.getD i 0).toNat
def byV (D : List UInt8) (m : Nat) : List Nat := (List.range m).map fun i => 16 * hgN D (2 * i) + hgN D (2 * i + 1)
def dgO (D : List UInt8) (n : Nat) : Prop := ∀ i, i < n → hgN D i < 16
instance (D : List UInt8) (n : Nat) : Decidable (dgO D n) := inferInstanceAs (Decidable (∀ i, i < n → hgN D i < 16))
/-- The bytes of a word of a text, of which there must be so many, or none. -/
def bxV (s : ByteArray) (m : Nat) : Option (List Nat) :=
  if Lib.hasPrefix s.data.toList [48, 120] = true ∧ (Lib.trimPrefix s.data.toList [48, 120]).length = 2 * m ∧ dgO (Lib.trimPrefix s.data.toList [48, 120]) (2 * m) then some (byV (Lib.trimPrefix s.data.toList [48, 120]) m) else none
theorem byV_len (D : List UInt8) (m : Nat) : (byV D m).length = m := by unfold byV; simp
theorem dgN_le (D : List UInt8) (i : Nat) : hgN D i ≤ 16 := by unfold hgN dgV; split <;> (try split) <;> omega
/-- bytesOf's row under way. -/
def byR (D : List UInt8) (m k : Nat) : List Nat := (List.range m).map fun i => if i < k then 16 * hgN D (2 * i) + hgN D (2 * i + 1) else 0
theorem dgO_next {D : List UInt8} {k A B : Nat} (h : dgO D A) (hA : 2 * k = A) (hB : A + 1 = B) (h1 : hgN D A < 16) (h2 : hgN D B < 16) : dgO D (2 * (k + 1)) := by
  intro i hi
  by_cases e : i < A
  · exact h i e
  · by_cases e2 : i = A
    · rw [e2]; exact h1
    · have : i = B := by omega
      rw [this]; exact h2
theorem or16 : ∀ a b : Fin 16, bits .or .u8 ((16 * a.val : Nat) : Int) ((b.val : Nat) : Int) = ((16 * a.val + b.val : Nat) : Int) := by decide +kernel
theorem byR_zero (D : List UInt8) (m : Nat) : byR D m 0 = List.replicate m 0 := by
  unfold byR
  apply List.ext_getElem?
  intro i
  by_cases h : i < m
  · rw [List.getElem?_map, List.getElem?_range h, List.getElem?_replicate_of_lt h]; rfl
  · rw [List.getElem?_eq_none (by simp; omega), List.getElem?_eq_none (by simp; omega)]
theorem byR_all (D : List UInt8) (m : Nat) : byR D m m = byV D m := by
  unfold byR byV
  apply List.map_congr_left
  intro i hi
  rw [if_pos (List.mem_range.1 hi)]
theorem byR_set (D : List UInt8) (m k : Nat) (h : k < m) : (bvs (byR D m k)).toArray.setIfInBounds k (.int .u8 ((16 * hgN D (2 * k) + hgN D (2 * k + 1) : Nat) : Int)) = (bvs (byR D m (k + 1))).toArray := by
  apply Array.ext_getElem?
  intro j
  rw [Array.getElem?_setIfInBounds, List.getElem?_toArray, List.getElem?_toArray, bvs_get, bvs_get]
  unfold byR
  by_cases hj : j < m
  · rw [List.getElem?_map, List.getElem?_map, List.getElem?_range hj]
    by_cases e : k = j
    · subst e
      simp [bvs, h]
    · rw [if_neg e]
      by_cases h2 : j < k
      · simp [h2, show j < k + 1 by omega]
      · simp [h2, show ¬ j < k + 1 by omega]
  · rw [if_neg (by omega), List.getElem?_eq_none (by simp; omega), List.getElem?_eq_none (by simp; omega)]
/-- What bytesOf comes to. -/
def BoP (s : ByteArray) (m : Nat) (w : World) (e : Ending) (w' : World) : Prop :=
  (match bxV s m with
  | some bs => ∃ g, e = .returned (.slice (some ⟨g, 0, none⟩) m m) ∧ w.heap.size ≤ g ∧ Blk w' g 5 (bvs bs).toArray
  | none => e = .panicked ch200) ∧ Below w.heap.size w w'
set_option maxRecDepth 100000 in
set_option maxHeartbeats 2000000 in
theorem bytesOf_nolead (s : ByteArray) (m : Nat) (hs : Lib.hasPrefix s.data.toList [48, 120] = false) (w : World) : Calls Tryd.prog 80 #[.string s, .int .i64 m] w fun e w' => e = .panicked ch200 ∧ Below w.heap.size w w' := by
  have HP := Lib.hid (fun w => (cutPrefix_any s ⟨#[48, 120]⟩ w).mono fun e w' h => (⟨by rw [h.1, show (⟨#[48, 120]⟩ : ByteArray).data.toList = [48, 120] from rfl, hs], h.2⟩ : e = .returned (.tuple #[.string ⟨(Lib.trimPrefix s.data.toList [48, 120]).toArray⟩, .bool false]) ∧ w = w'))
  clear hs
  go_enter Tryd.func80, Tryd.ntmps80
  go_wp2_with (first
    | (go_at_call 90; refine (HP.out _).mono ?_; rintro e w' ⟨rfl, rfl⟩)
    | (go_at_call 81; refine (need_f _).mono ?_; rintro e w' ⟨rfl, rfl⟩)
    | fail)
  exact ⟨rfl, rfl, Below.refl _ _⟩
set_option maxRecDepth 100000 in
set_option maxHeartbeats 2000000 in
theorem bytesOf_length (s : ByteArray) (m : Nat) (hs : Lib.hasPrefix s.data.toList [48, 120] = true) (hm : m ≤ 100) (hl : (Lib.trimPrefix s.data.toList [48, 120]).length ≠ 2 * m) (w : World) : Calls Tryd.prog 80 #[.string s, .int .i64 m] w fun e w' => e = .panicked ch200 ∧ Below w.heap.size w w' := by
  have HP := Lib.hid (fun w => (cutPrefix_any s ⟨#[48, 120]⟩ w).mono fun e w' h => (⟨by rw [h.1, show (⟨#[48, 120]⟩ : ByteArray).data.toList = [48, 120] from rfl, hs], h.2⟩ : e = .returned (.tuple #[.string ⟨(Lib.trimPrefix s.data.toList [48, 120]).toArray⟩, .bool true]) ∧ w = w'))
  have hsz : (⟨(Lib.trimPrefix s.data.toList [48, 120]).toArray⟩ : ByteArray).size = (Lib.trimPrefix s.data.toList [48, 120]).length := by simp [ByteArray.size]
  have hq : (((⟨(Lib.trimPrefix s.data.toList [48, 120]).toArray⟩ : ByteArray).size : Int) == ((2 * m : Nat) : Int)) = false := by rw [hsz, beq_eq_false_iff_ne]; omega
  have g1 : IntKind.i64.wrap (2 * (m : Int)) = ((2 * m : Nat) : Int) := by rw [IntWalk.i64_in _ (by omega)]; omega
  clear hs hl hsz
  generalize (⟨(Lib.trimPrefix s.data.toList [48, 120]).toArray⟩ : ByteArray) = R at *
  generalize 2 * m = M at *
  go_enter Tryd.func80, Tryd.ntmps80
  go_wp2_with (first
    | (go_at_call 90; refine (HP.out _).mono ?_; rintro e w' ⟨rfl, rfl⟩)
    | (go_at_call 81; refine (need_f _).mono ?_; rintro e w' ⟨rfl, rfl⟩)
    | fail)
  exact ⟨rfl, rfl, Below.refl _ _⟩
set_option maxRecDepth 100000 in
set_option maxHeartbeats 4000000 in
theorem bytesOf_digits (s : ByteArray) (m : Nat) (hs : Lib.hasPrefix s.data.toList [48, 120] = true) (hm : m ≤ 100) (hl : (Lib.trimPrefix s.data.toList [48, 120]).length = 2 * m) (w : World) : Calls Tryd.prog 80 #[.string s, .int .i64 m] w fun e w' => (dgO (Lib.trimPrefix s.data.toList [48, 120]) (2 * m) → ∃ g, e = .returned (.slice (some ⟨g, 0, none⟩) m m) ∧ w.heap.size ≤ g ∧ Blk w' g 5 (bvs (byV (Lib.trimPrefix s.data.toList [48, 120]) m)).toArray) ∧ (¬ dgO (Lib.trimPrefix s.data.toList [48, 120]) (2 * m) → e = .panicked ch200) ∧ Below w.heap.size w w' := by
  have HP := Lib.hid (fun w => (cutPrefix_any s ⟨#[48, 120]⟩ w).mono fun e w' h => (⟨by rw [h.1, show (⟨#[48, 120]⟩ : ByteArray).data.toList = [48, 120] from rfl, hs], h.2⟩ : e = .returned (.tuple #[.string ⟨(Lib.trimPrefix s.data.toList [48, 120]).toArray⟩, .bool true]) ∧ w = w'))
  generalize Lib.trimPrefix s.data.toList [48, 120] = D at *
  have hsz : (⟨D.toArray⟩ : ByteArray).size = D.length := by simp [ByteArray.size]
  have hq : (((⟨D.toArray⟩ : ByteArray).size : Int) == ((2 * m : Nat) : Int)) = true := by rw [hsz, hl]; simp
  have g1 : IntKind.i64.wrap (2 * (m : Int)) = ((2 * m : Nat) : Int) := by rw [IntWalk.i64_in _ (by omega)]; omega
  have hmk := make_bytes m (by omega)
  rw [← byR_zero D m] at hmk
  have HL := Lib.hid (And.intro hl hm)
  clear hs hl hsz hm
  obtain ⟨R, hR⟩ : ∃ R, (⟨D.toArray⟩ : ByteArray) = R := ⟨_, rfl⟩
  obtain ⟨M, hM⟩ : ∃ M, 2 * m = M := ⟨_, rfl⟩
  rw [hR] at HP hq
  rw [hM] at hq g1 HL ⊢
  have HR := Lib.hid (And.intro hR hM)
  clear hR hM
  go_enter Tryd.func80, Tryd.ntmps80
  go_wp2_with (first
    | (go_at_call 90; refine (HP.out _).mono ?_; rintro e w' ⟨rfl, rfl⟩)
    | (go_at_call 81; refine (need_t _).mono ?_; rintro e w' ⟨rfl, rfl⟩)
    | fail)
  go_loopw [27] (fun t27 wr => ∃ k : Nat, k ≤ m ∧ t27 = .int .i64 (k : Nat) ∧ dgO D (2 * k) ∧ Blk wr w.heap.size 5 (bvs (byR D m k)).toArray ∧ Below w.heap.size w wr) (fun t27 _ => ((m : Int) - intOf t27).toNat)
  case atStart => exact ⟨0, Nat.zero_le _, rfl, fun i hi => by omega, Blk.new w _ _, balloc (Below.refl _ _) _⟩
  case round =>
    obtain ⟨k, hk, rfl, hd, hb, hW⟩ := hrel
    by_cases hlt : k < m
    · have hkI : (k : Int) < (m : Int) := by omega
      have hk0 : (0 : Int) ≤ (k : Int) := by omega
      have gk : IntKind.i64.wrap ((k : Int) + 1) = ((k + 1 : Nat) : Int) := by rw [IntWalk.i64_in _ (by have := HL.out; omega)]; omega
      have g2 : IntKind.i64.wrap (2 * (k : Int)) = ((2 * k : Nat) : Int) := by rw [IntWalk.i64_in _ (by have := HL.out; omega)]; omega
      have g3 : IntKind.i64.wrap (((2 * k : Nat) : Int) + 1) = ((2 * k + 1 : Nat) : Int) := by rw [IntWalk.i64_in _ (by have := HL.out; omega)]; omega
      have hRs : R.size = M := by have := eq_of_beq hq; omega
      have hRd : R.data.toList = D := by rw [← HR.out.1]
      have hi1 := fun w => str_ix R (2 * k) ((2 * k : Nat) : Int) rfl (by have := HR.out; omega) w
      have hi2 := fun w => str_ix R (2 * k + 1) ((2 * k + 1 : Nat) : Int) rfl (by have := HR.out; omega) w
      rw [hRd] at hi1 hi2
      have hc1 : (D.getD (2 * k) 0).toNat < 256 := UInt8.toNat_lt _
      have hc2 : (D.getD (2 * k + 1) 0).toNat < 256 := UInt8.toNat_lt _
      have e1 : hgN D (2 * k) = dgV (D.getD (2 * k) 0).toNat := rfl
      have e2 : hgN D (2 * k + 1) = dgV (D.getD (2 * k + 1) 0).toNat := rfl
      have HD := Lib.hid (And.intro hd (And.intro hb (And.intro hW hlt)))
      have hset := byR_set D m k hlt
      rw [e1, e2] at hset
      have hcell : wr.cell? ⟨w.heap.size, k, none⟩ = some (.int .u8 0) := by
        have h := cell_of_row _ _ k _ _ _ hb
        rw [List.getElem?_toArray, bvs_get] at h
        rw [h]
        unfold byR
        rw [List.getElem?_map, List.getElem?_range hlt]
        simp
      have hfro := frozen_of_row wr _ k _ _ hb
      generalize hA : 2 * k = A at *
      generalize hB : A + 1 = B at *
      have HAB := Lib.hid (And.intro hA hB)
      clear hd hb hW hlt hk hA hB hRs hRd hmk
      generalize (D.getD A 0).toNat = c1 at *
      generalize (D.getD B 0).toNat = c2 at *
      go_upto_region 7 with fail
      by_cases h1 : dgV c1 < 16
      · by_cases h2 : dgV c2 < 16
        · obtain ⟨v1, hv1⟩ : ∃ v1, 16 * dgV c1 = v1 := ⟨_, rfl⟩
          obtain ⟨v2, hv2⟩ : ∃ v2, v1 + dgV c2 = v2 := ⟨_, rfl⟩
          have gs : IntKind.u8.wrap ((dgV c1 : Int) * 16) = (v1 : Int) := by rw [IntWalk.u8_in _ (by omega)]; omega
          have gor : bits .or .u8 (v1 : Int) (dgV c2 : Int) = (v2 : Int) := by rw [← hv2, ← hv1]; exact or16 ⟨dgV c1, h1⟩ ⟨dgV c2, h2⟩
          rw [hv1, hv2] at hset
          have HS := Lib.hid hset
          clear hset hv1 hv2
          refine wp_region_held_drew (S := fun _ => True) (by as_aux_lemma => kernel_rfl) trivial (fun hHeld => ?_)
          simp only [List.size_toArray, List.length_cons, List.length_nil, Nat.reduceAdd, Array.replicate_succ, Array.replicate_zero, List.push_toArray, List.nil_append, List.cons_append]
          refine wpAnyH_take (i := 0) (oi := { dst := some 30, op := Op.move (Operand.tmp 7), type := 32, pos := "reader.go:72", after := #[], guard := none }) (v := ?vq0a) rfl (by as_aux_lemma => kernel_rfl) (by as_aux_lemma => kernel_rfl) (by as_aux_lemma => kernel_rfl) (fun _ _ _ h => h) (Or.inl ⟨by rfl, ?yq0a⟩) (by assumption) ?rq0a
          case yq0a => (intro w hSw; (try dsimp only at hSw); go_simp <;> with_reducible rfl)
          simp only [Act.put, List.setIfInBounds_toArray, List.set_cons_zero, List.set_cons_succ]
          refine wpAnyH_take (i := 1) (oi := { dst := some 31, op := Op.move (Operand.tmp 8), type := 3, pos := "reader.go:72", after := #[], guard := none }) (v := ?vq1a) rfl (by as_aux_lemma => kernel_rfl) (by as_aux_lemma => kernel_rfl) (by as_aux_lemma => kernel_rfl) (fun _ _ _ h => h) (Or.inl ⟨by rfl, ?yq1a⟩) (by assumption) ?rq1a
          case yq1a => (intro w hSw; (try dsimp only at hSw); go_simp <;> with_reducible rfl)
          simp only [Act.put, List.setIfInBounds_toArray, List.set_cons_zero, List.set_cons_succ]
          refine wpAnyH_take (i := 2) (oi := { dst := some 32, op := Op.move (Operand.tmp 5), type := 9, pos := "reader.go:72", after := #[], guard := none }) (v := ?vq2a) rfl (by as_aux_lemma => kernel_rfl) (by as_aux_lemma => kernel_rfl) (by as_aux_lemma => kernel_rfl) (fun _ _ _ h => h) (Or.inl ⟨by rfl, ?yq2a⟩) (by assumption) ?rq2a
          case yq2a => (intro w hSw; (try dsimp only at hSw); go_simp <;> with_reducible rfl)
          simp only [Act.put, List.setIfInBounds_toArray, List.set_cons_zero, List.set_cons_succ]
          refine wpAnyH_take (i := 3) (oi := { dst := some 33, op := Op.move (Operand.tmp 8), type := 3, pos := "reader.go:72", after := #[], guard := none }) (v := ?vq3a) rfl (by as_aux_lemma => kernel_rfl) (by as_aux_lemma => kernel_rfl) (by as_aux_lemma => kernel_rfl) (fun _ _ _ h => h) (Or.inl ⟨by rfl, ?yq3a⟩) (by assumption) ?rq3a
          case yq3a => (intro w hSw; (try dsimp only at hSw); go_simp <;> with_reducible rfl)
          simp only [Act.put, List.setIfInBounds_toArray, List.set_cons_zero, List.set_cons_succ]
          refine wpAnyH_take (i := 4) (oi := { dst := some 34, op := Op.binOp BinOp.mul 3 (Operand.const (Value.int IntKind.i64 2)) (Operand.tmp 33) 3, type := 3, pos := "reader.go:72", after := #[{ on := 3, ground := Ground.data }], guard := none }) (v := ?vq4a) rfl (by as_aux_lemma => kernel_rfl) (by as_aux_lemma => kernel_rfl) (by as_aux_lemma => kernel_rfl) (fun _ _ _ h => h) (Or.inl ⟨by rfl, ?yq4a⟩) (by assumption) ?rq4a
          case yq4a => (intro w hSw; (try dsimp only at hSw); go_simp <;> with_reducible rfl)
          simp only [Act.put, List.setIfInBounds_toArray, List.set_cons_zero, List.set_cons_succ]
          refine wpAnyH_take (i := 8) (oi := { dst := some 38, op := Op.move (Operand.tmp 5), type := 9, pos := "reader.go:72", after := #[], guard := none }) (v := ?vq5a) rfl (by as_aux_lemma => kernel_rfl) (by as_aux_lemma => kernel_rfl) (by as_aux_lemma => kernel_rfl) (fun _ _ _ h => h) (Or.inl ⟨by rfl, ?yq5a⟩) (by assumption) ?rq5a
          case yq5a => (intro w hSw; (try dsimp only at hSw); go_simp <;> with_reducible rfl)
          simp only [Act.put, List.setIfInBounds_toArray, List.set_cons_zero, List.set_cons_succ]
          refine wpAnyH_take (i := 9) (oi := { dst := some 39, op := Op.move (Operand.tmp 8), type := 3, pos := "reader.go:72", after := #[], guard := none }) (v := ?vq6a) rfl (by as_aux_lemma => kernel_rfl) (by as_aux_lemma => kernel_rfl) (by as_aux_lemma => kernel_rfl) (fun _ _ _ h => h) (Or.inl ⟨by rfl, ?yq6a⟩) (by assumption) ?rq6a
          case yq6a => (intro w hSw; (try dsimp only at hSw); go_simp <;> with_reducible rfl)
          simp only [Act.put, List.setIfInBounds_toArray, List.set_cons_zero, List.set_cons_succ]
          refine wpAnyH_take (i := 10) (oi := { dst := some 40, op := Op.binOp BinOp.mul 3 (Operand.const (Value.int IntKind.i64 2)) (Operand.tmp 39) 3, type := 3, pos := "reader.go:72", after := #[{ on := 9, ground := Ground.data }], guard := none }) (v := ?vq7a) rfl (by as_aux_lemma => kernel_rfl) (by as_aux_lemma => kernel_rfl) (by as_aux_lemma => kernel_rfl) (fun _ _ _ h => h) (Or.inl ⟨by rfl, ?yq7a⟩) (by assumption) ?rq7a
          case yq7a => (intro w hSw; (try dsimp only at hSw); go_simp <;> with_reducible rfl)
          simp only [Act.put, List.setIfInBounds_toArray, List.set_cons_zero, List.set_cons_succ]
          refine wpAnyH_take (i := 11) (oi := { dst := some 41, op := Op.binOp BinOp.add 3 (Operand.tmp 40) (Operand.const (Value.int IntKind.i64 1)) 3, type := 3, pos := "reader.go:72", after := #[{ on := 10, ground := Ground.data }], guard := none }) (v := ?vq8a) rfl (by as_aux_lemma => kernel_rfl) (by as_aux_lemma => kernel_rfl) (by as_aux_lemma => kernel_rfl) (fun _ _ _ h => h) (Or.inl ⟨by rfl, ?yq8a⟩) (by assumption) ?rq8a
          case yq8a => (intro w hSw; (try dsimp only at hSw); go_simp <;> with_reducible rfl)
          simp only [Act.put, List.setIfInBounds_toArray, List.set_cons_zero, List.set_cons_succ]
          refine wpAnyH_ready (rs := [5, 12]) (by as_aux_lemma => kernel_rfl) (by simp) ?_
          refine AllReadyH.cons (o := { dst := some 35, op := Op.index 9 (Operand.tmp 32) (Operand.tmp 34), type := 5, pos := "reader.go:72", after := #[{ on := 2, ground := Ground.data }, { on := 4, ground := Ground.data }], guard := none }) rfl (fun K hK => ?_) ?_
          · rw [if_pos (by rfl)]
            refine wp_index_run 9 _ _ rfl _ _ rfl rfl (hi1 _) ?_
            refine hK.out _ _ (by (try dsimp only); (try trivial)) (fun hHeld => ?_)
            clear hK K
            simp only [List.setIfInBounds_toArray, List.set_cons_zero, List.set_cons_succ]
            refine wpAnyH_ready (rs := [6, 12]) (by as_aux_lemma => kernel_rfl) (by simp) ?_
            refine AllReadyH.cons (o := { dst := some 36, op := Op.call { callee := Callee.value (Operand.func 91), args := #[Operand.tmp 35], argTypes := #[5] }, type := 5, pos := "reader.go:72", after := #[{ on := 5, ground := Ground.data }], guard := none }) rfl (fun K hK => ?_) ?_
            · rw [if_pos (by rfl)]
              go_simp
              refine (digit_ok c1 hc1 h1 _).mono ?_
              rintro e w9 ⟨rfl, rfl⟩
              refine hK.out _ _ (by (try dsimp only); (try trivial)) (fun hHeld => ?_)
              clear hK K
              simp only [List.setIfInBounds_toArray, List.set_cons_zero, List.set_cons_succ]
              refine wpAnyH_take (i := 7) (oi := { dst := some 37, op := Op.binOp BinOp.shl 5 (Operand.tmp 36) (Operand.const (Value.int IntKind.u64 4)) 99, type := 5, pos := "reader.go:72", after := #[{ on := 6, ground := Ground.data }], guard := none }) (v := ?vq11a) rfl (by as_aux_lemma => kernel_rfl) (by as_aux_lemma => kernel_rfl) (by as_aux_lemma => kernel_rfl) (fun _ _ _ h => h) (Or.inl ⟨by rfl, ?yq11a⟩) (by assumption) ?rq11a
              case yq11a => (intro w hSw; (try dsimp only at hSw); go_simp <;> with_reducible rfl)
              simp only [Act.put, List.setIfInBounds_toArray, List.set_cons_zero, List.set_cons_succ]
              refine wpAnyH_ready (rs := [12]) (by as_aux_lemma => kernel_rfl) (by simp) ?_
              refine AllReadyH.cons (o := { dst := some 42, op := Op.index 9 (Operand.tmp 38) (Operand.tmp 41), type := 5, pos := "reader.go:72", after := #[{ on := 8, ground := Ground.data }, { on := 11, ground := Ground.data }], guard := none }) rfl (fun K hK => ?_) (by exact AllReadyH.nil)
              rw [if_pos (by rfl)]
              refine wp_index_run 9 _ _ rfl _ _ rfl rfl (hi2 _) ?_
              refine hK.out _ _ (by (try dsimp only); (try trivial)) (fun hHeld => ?_)
              clear hK K
              simp only [List.setIfInBounds_toArray, List.set_cons_zero, List.set_cons_succ]
              refine wpAnyH_ready (rs := [13]) (by as_aux_lemma => kernel_rfl) (by simp) ?_
              refine AllReadyH.cons (o := { dst := some 43, op := Op.call { callee := Callee.value (Operand.func 91), args := #[Operand.tmp 42], argTypes := #[5] }, type := 5, pos := "reader.go:72", after := #[{ on := 12, ground := Ground.data }, { on := 6, ground := Ground.chain }], guard := none }) rfl (fun K hK => ?_) (by exact AllReadyH.nil)
              rw [if_pos (by rfl)]
              go_simp
              refine (digit_ok c2 hc2 h2 _).mono ?_
              rintro e w9 ⟨rfl, rfl⟩
              refine hK.out _ _ (by (try dsimp only); (try trivial)) (fun hHeld => ?_)
              clear hK K
              simp only [List.setIfInBounds_toArray, List.set_cons_zero, List.set_cons_succ]
              refine wpAnyH_take (i := 14) (oi := { dst := some 44, op := Op.binOp BinOp.or 5 (Operand.tmp 37) (Operand.tmp 43) 5, type := 5, pos := "reader.go:72", after := #[{ on := 7, ground := Ground.data }, { on := 13, ground := Ground.data }], guard := none }) (v := ?vq14a) rfl (by as_aux_lemma => kernel_rfl) (by as_aux_lemma => kernel_rfl) (by as_aux_lemma => kernel_rfl) (fun _ _ _ h => h) (Or.inl ⟨by rfl, ?yq14a⟩) (by assumption) ?rq14a
              case yq14a => (intro w hSw; (try dsimp only at hSw); go_simp <;> with_reducible rfl)
              simp only [Act.put, List.setIfInBounds_toArray, List.set_cons_zero, List.set_cons_succ]
              refine wpAnyH_take (i := 15) (oi := { dst := some 45, op := Op.indexAddr 32 (Operand.tmp 30) (Operand.tmp 31), type := 0, pos := "reader.go:72", after := #[{ on := 0, ground := Ground.data }, { on := 1, ground := Ground.data }, { on := 0, ground := Ground.phase }, { on := 1, ground := Ground.phase }, { on := 2, ground := Ground.phase }, { on := 3, ground := Ground.phase }, { on := 4, ground := Ground.phase }, { on := 5, ground := Ground.phase }, { on := 6, ground := Ground.phase }, { on := 7, ground := Ground.phase }, { on := 8, ground := Ground.phase }, { on := 9, ground := Ground.phase }, { on := 10, ground := Ground.phase }, { on := 11, ground := Ground.phase }, { on := 12, ground := Ground.phase }, { on := 13, ground := Ground.phase }, { on := 14, ground := Ground.phase }], guard := none }) (v := ?vq15a) rfl (by as_aux_lemma => kernel_rfl) (by as_aux_lemma => kernel_rfl) (by as_aux_lemma => kernel_rfl) (fun _ _ _ h => h) (Or.inl ⟨by rfl, ?yq15a⟩) (by assumption) ?rq15a
              case yq15a => (intro w hSw; (try dsimp only at hSw); go_simp <;> with_reducible rfl)
              simp only [Act.put, List.setIfInBounds_toArray, List.set_cons_zero, List.set_cons_succ]
              refine wpAnyH_ready (rs := [16]) (by as_aux_lemma => kernel_rfl) (by simp) ?_
              refine AllReadyH.cons (o := { dst := none, op := Op.store 5 (Operand.tmp 45) (Operand.tmp 44), type := 0, pos := "reader.go:72", after := #[{ on := 15, ground := Ground.data }, { on := 14, ground := Ground.data }, { on := 13, ground := Ground.chain }, { on := 0, ground := Ground.phase }, { on := 1, ground := Ground.phase }, { on := 2, ground := Ground.phase }, { on := 3, ground := Ground.phase }, { on := 4, ground := Ground.phase }, { on := 5, ground := Ground.phase }, { on := 6, ground := Ground.phase }, { on := 7, ground := Ground.phase }, { on := 8, ground := Ground.phase }, { on := 9, ground := Ground.phase }, { on := 10, ground := Ground.phase }, { on := 11, ground := Ground.phase }, { on := 12, ground := Ground.phase }, { on := 13, ground := Ground.phase }, { on := 14, ground := Ground.phase }], guard := none }) rfl (fun K hK => ?_) (by exact AllReadyH.nil)
              rw [if_pos (by rfl)]
              go_simp
              refine hK.out _ _ (by (try dsimp only); (try trivial)) (fun hHeld => ?_)
              clear hK K
              simp only [List.setIfInBounds_toArray, List.set_cons_zero, List.set_cons_succ]
              refine wpAnyH_done (by as_aux_lemma => kernel_rfl) ?_ _
              have hb2 : Blk (wr.setCell ⟨w.heap.size, k, none⟩ (.int .u8 (v2 : Nat))).drew w.heap.size 5 (bvs (byR D m (k + 1))).toArray := by rw [← HS.out]; exact heap_setCell_same wr _ k _ _ _ HD.out.2.1
              have hW2 := below_drew' (HD.out.2.2.1.setCell (p := ⟨w.heap.size, k, none⟩) (Nat.le_refl _) (.int .u8 (v2 : Nat)))
              have HE := Lib.hid (And.intro hb2 hW2)
              clear hb2 hW2 hcell hfro hi1 hi2 gs gor
              generalize (wr.setCell ⟨w.heap.size, k, none⟩ (.int .u8 (v2 : Nat))).drew = Z at HE ⊢
              go_wp2_with fail
              exact ⟨⟨k + 1, (by have := HD.out.2.2.2; omega), (by go_num), dgO_next HD.out.1 HAB.out.1 HAB.out.2 (by rw [e1]; exact h1) (by rw [e2]; exact h2), HE.out⟩, (by have := HD.out.2.2.2; simp [intOf]; omega)⟩
            refine AllReadyH.cons (o := { dst := some 42, op := Op.index 9 (Operand.tmp 38) (Operand.tmp 41), type := 5, pos := "reader.go:72", after := #[{ on := 8, ground := Ground.data }, { on := 11, ground := Ground.data }], guard := none }) rfl (fun K hK => ?_) (by exact AllReadyH.nil)
            rw [if_pos (by rfl)]
            refine wp_index_run 9 _ _ rfl _ _ rfl rfl (hi2 _) ?_
            refine hK.out _ _ (by (try dsimp only); (try trivial)) (fun hHeld => ?_)
            clear hK K
            simp only [List.setIfInBounds_toArray, List.set_cons_zero, List.set_cons_succ]
            refine wpAnyH_ready (rs := [6]) (by as_aux_lemma => kernel_rfl) (by simp) ?_
            refine AllReadyH.cons (o := { dst := some 36, op := Op.call { callee := Callee.value (Operand.func 91), args := #[Operand.tmp 35], argTypes := #[5] }, type := 5, pos := "reader.go:72", after := #[{ on := 5, ground := Ground.data }], guard := none }) rfl (fun K hK => ?_) (by exact AllReadyH.nil)
            rw [if_pos (by rfl)]
            go_simp
            refine (digit_ok c1 hc1 h1 _).mono ?_
            rintro e w9 ⟨rfl, rfl⟩
            refine hK.out _ _ (by (try dsimp only); (try trivial)) (fun hHeld => ?_)
            clear hK K
            simp only [List.setIfInBounds_toArray, List.set_cons_zero, List.set_cons_succ]
            refine wpAnyH_take (i := 7) (oi := { dst := some 37, op := Op.binOp BinOp.shl 5 (Operand.tmp 36) (Operand.const (Value.int IntKind.u64 4)) 99, type := 5, pos := "reader.go:72", after := #[{ on := 6, ground := Ground.data }], guard := none }) (v := ?vq19a) rfl (by as_aux_lemma => kernel_rfl) (by as_aux_lemma => kernel_rfl) (by as_aux_lemma => kernel_rfl) (fun _ _ _ h => h) (Or.inl ⟨by rfl, ?yq19a⟩) (by assumption) ?rq19a
            case yq19a => (intro w hSw; (try dsimp only at hSw); go_simp <;> with_reducible rfl)
            simp only [Act.put, List.setIfInBounds_toArray, List.set_cons_zero, List.set_cons_succ]
            refine wpAnyH_ready (rs := [13]) (by as_aux_lemma => kernel_rfl) (by simp) ?_
            refine AllReadyH.cons (o := { dst := some 43, op := Op.call { callee := Callee.value (Operand.func 91), args := #[Operand.tmp 42], argTypes := #[5] }, type := 5, pos := "reader.go:72", after := #[{ on := 12, ground := Ground.data }, { on := 6, ground := Ground.chain }], guard := none }) rfl (fun K hK => ?_) (by exact AllReadyH.nil)
            rw [if_pos (by rfl)]
            go_simp
            refine (digit_ok c2 hc2 h2 _).mono ?_
            rintro e w9 ⟨rfl, rfl⟩
            refine hK.out _ _ (by (try dsimp only); (try trivial)) (fun hHeld => ?_)
            clear hK K
            simp only [List.setIfInBounds_toArray, List.set_cons_zero, List.set_cons_succ]
            refine wpAnyH_take (i := 14) (oi := { dst := some 44, op := Op.binOp BinOp.or 5 (Operand.tmp 37) (Operand.tmp 43) 5, type := 5, pos := "reader.go:72", after := #[{ on := 7, ground := Ground.data }, { on := 13, ground := Ground.data }], guard := none }) (v := ?vq21a) rfl (by as_aux_lemma => kernel_rfl) (by as_aux_lemma => kernel_rfl) (by as_aux_lemma => kernel_rfl) (fun _ _ _ h => h) (Or.inl ⟨by rfl, ?yq21a⟩) (by assumption) ?rq21a
            case yq21a => (intro w hSw; (try dsimp only at hSw); go_simp <;> with_reducible rfl)
            simp only [Act.put, List.setIfInBounds_toArray, List.set_cons_zero, List.set_cons_succ]
            refine wpAnyH_take (i := 15) (oi := { dst := some 45, op := Op.indexAddr 32 (Operand.tmp 30) (Operand.tmp 31), type := 0, pos := "reader.go:72", after := #[{ on := 0, ground := Ground.data }, { on := 1, ground := Ground.data }, { on := 0, ground := Ground.phase }, { on := 1, ground := Ground.phase }, { on := 2, ground := Ground.phase }, { on := 3, ground := Ground.phase }, { on := 4, ground := Ground.phase }, { on := 5, ground := Ground.phase }, { on := 6, ground := Ground.phase }, { on := 7, ground := Ground.phase }, { on := 8, ground := Ground.phase }, { on := 9, ground := Ground.phase }, { on := 10, ground := Ground.phase }, { on := 11, ground := Ground.phase }, { on := 12, ground := Ground.phase }, { on := 13, ground := Ground.phase }, { on := 14, ground := Ground.phase }], guard := none }) (v := ?vq22a) rfl (by as_aux_lemma => kernel_rfl) (by as_aux_lemma => kernel_rfl) (by as_aux_lemma => kernel_rfl) (fun _ _ _ h => h) (Or.inl ⟨by rfl, ?yq22a⟩) (by assumption) ?rq22a
            case yq22a => (intro w hSw; (try dsimp only at hSw); go_simp <;> with_reducible rfl)
            simp only [Act.put, List.setIfInBounds_toArray, List.set_cons_zero, List.set_cons_succ]
            refine wpAnyH_ready (rs := [16]) (by as_aux_lemma => kernel_rfl) (by simp) ?_
            refine AllReadyH.cons (o := { dst := none, op := Op.store 5 (Operand.tmp 45) (Operand.tmp 44), type := 0, pos := "reader.go:72", after := #[{ on := 15, ground := Ground.data }, { on := 14, ground := Ground.data }, { on := 13, ground := Ground.chain }, { on := 0, ground := Ground.phase }, { on := 1, ground := Ground.phase }, { on := 2, ground := Ground.phase }, { on := 3, ground := Ground.phase }, { on := 4, ground := Ground.phase }, { on := 5, ground := Ground.phase }, { on := 6, ground := Ground.phase }, { on := 7, ground := Ground.phase }, { on := 8, ground := Ground.phase }, { on := 9, ground := Ground.phase }, { on := 10, ground := Ground.phase }, { on := 11, ground := Ground.phase }, { on := 12, ground := Ground.phase }, { on := 13, ground := Ground.phase }, { on := 14, ground := Ground.phase }], guard := none }) rfl (fun K hK => ?_) (by exact AllReadyH.nil)
            rw [if_pos (by rfl)]
            go_simp
            refine hK.out _ _ (by (try dsimp only); (try trivial)) (fun hHeld => ?_)
            clear hK K
            simp only [List.setIfInBounds_toArray, List.set_cons_zero, List.set_cons_succ]
            refine wpAnyH_done (by as_aux_lemma => kernel_rfl) ?_ _
            have hb2 : Blk (wr.setCell ⟨w.heap.size, k, none⟩ (.int .u8 (v2 : Nat))).drew w.heap.size 5 (bvs (byR D m (k + 1))).toArray := by rw [← HS.out]; exact heap_setCell_same wr _ k _ _ _ HD.out.2.1
            have hW2 := below_drew' (HD.out.2.2.1.setCell (p := ⟨w.heap.size, k, none⟩) (Nat.le_refl _) (.int .u8 (v2 : Nat)))
            have HE := Lib.hid (And.intro hb2 hW2)
            clear hb2 hW2 hcell hfro hi1 hi2 gs gor
            generalize (wr.setCell ⟨w.heap.size, k, none⟩ (.int .u8 (v2 : Nat))).drew = Z at HE ⊢
            go_wp2_with fail
            exact ⟨⟨k + 1, (by have := HD.out.2.2.2; omega), (by go_num), dgO_next HD.out.1 HAB.out.1 HAB.out.2 (by rw [e1]; exact h1) (by rw [e2]; exact h2), HE.out⟩, (by have := HD.out.2.2.2; simp [intOf]; omega)⟩
          refine AllReadyH.cons (o := { dst := some 42, op := Op.index 9 (Operand.tmp 38) (Operand.tmp 41), type := 5, pos := "reader.go:72", after := #[{ on := 8, ground := Ground.data }, { on := 11, ground := Ground.data }], guard := none }) rfl (fun K hK => ?_) (by exact AllReadyH.nil)
          rw [if_pos (by rfl)]
          refine wp_index_run 9 _ _ rfl _ _ rfl rfl (hi2 _) ?_
          refine hK.out _ _ (by (try dsimp only); (try trivial)) (fun hHeld => ?_)
          clear hK K
          simp only [List.setIfInBounds_toArray, List.set_cons_zero, List.set_cons_succ]
          refine wpAnyH_ready (rs := [5]) (by as_aux_lemma => kernel_rfl) (by simp) ?_
          refine AllReadyH.cons (o := { dst := some 35, op := Op.index 9 (Operand.tmp 32) (Operand.tmp 34), type := 5, pos := "reader.go:72", after := #[{ on := 2, ground := Ground.data }, { on := 4, ground := Ground.data }], guard := none }) rfl (fun K hK => ?_) (by exact AllReadyH.nil)
          rw [if_pos (by rfl)]
          refine wp_index_run 9 _ _ rfl _ _ rfl rfl (hi1 _) ?_
          refine hK.out _ _ (by (try dsimp only); (try trivial)) (fun hHeld => ?_)
          clear hK K
          simp only [List.setIfInBounds_toArray, List.set_cons_zero, List.set_cons_succ]
          refine wpAnyH_ready (rs := [6]) (by as_aux_lemma => kernel_rfl) (by simp) ?_
          refine AllReadyH.cons (o := { dst := some 36, op := Op.call { callee := Callee.value (Operand.func 91), args := #[Operand.tmp 35], argTypes := #[5] }, type := 5, pos := "reader.go:72", after := #[{ on := 5, ground := Ground.data }], guard := none }) rfl (fun K hK => ?_) (by exact AllReadyH.nil)
          rw [if_pos (by rfl)]
          go_simp
          refine (digit_ok c1 hc1 h1 _).mono ?_
          rintro e w9 ⟨rfl, rfl⟩
          refine hK.out _ _ (by (try dsimp only); (try trivial)) (fun hHeld => ?_)
          clear hK K
          simp only [List.setIfInBounds_toArray, List.set_cons_zero, List.set_cons_succ]
          refine wpAnyH_take (i := 7) (oi := { dst := some 37, op := Op.binOp BinOp.shl 5 (Operand.tmp 36) (Operand.const (Value.int IntKind.u64 4)) 99, type := 5, pos := "reader.go:72", after := #[{ on := 6, ground := Ground.data }], guard := none }) (v := ?vq27a) rfl (by as_aux_lemma => kernel_rfl) (by as_aux_lemma => kernel_rfl) (by as_aux_lemma => kernel_rfl) (fun _ _ _ h => h) (Or.inl ⟨by rfl, ?yq27a⟩) (by assumption) ?rq27a
          case yq27a => (intro w hSw; (try dsimp only at hSw); go_simp <;> with_reducible rfl)
          simp only [Act.put, List.setIfInBounds_toArray, List.set_cons_zero, List.set_cons_succ]
          refine wpAnyH_ready (rs := [13]) (by as_aux_lemma => kernel_rfl) (by simp) ?_
          refine AllReadyH.cons (o := { dst := some 43, op := Op.call { callee := Callee.value (Operand.func 91), args := #[Operand.tmp 42], argTypes := #[5] }, type := 5, pos := "reader.go:72", after := #[{ on := 12, ground := Ground.data }, { on := 6, ground := Ground.chain }], guard := none }) rfl (fun K hK => ?_) (by exact AllReadyH.nil)
          rw [if_pos (by rfl)]
          go_simp
          refine (digit_ok c2 hc2 h2 _).mono ?_
          rintro e w9 ⟨rfl, rfl⟩
          refine hK.out _ _ (by (try dsimp only); (try trivial)) (fun hHeld => ?_)
          clear hK K
          simp only [List.setIfInBounds_toArray, List.set_cons_zero, List.set_cons_succ]
          refine wpAnyH_take (i := 14) (oi := { dst := some 44, op := Op.binOp BinOp.or 5 (Operand.tmp 37) (Operand.tmp 43) 5, type := 5, pos := "reader.go:72", after := #[{ on := 7, ground := Ground.data }, { on := 13, ground := Ground.data }], guard := none }) (v := ?vq29a) rfl (by as_aux_lemma => kernel_rfl) (by as_aux_lemma => kernel_rfl) (by as_aux_lemma => kernel_rfl) (fun _ _ _ h => h) (Or.inl ⟨by rfl, ?yq29a⟩) (by assumption) ?rq29a
          case yq29a => (intro w hSw; (try dsimp only at hSw); go_simp <;> with_reducible rfl)
          simp only [Act.put, List.setIfInBounds_toArray, List.set_cons_zero, List.set_cons_succ]
          refine wpAnyH_take (i := 15) (oi := { dst := some 45, op := Op.indexAddr 32 (Operand.tmp 30) (Operand.tmp 31), type := 0, pos := "reader.go:72", after := #[{ on := 0, ground := Ground.data }, { on := 1, ground := Ground.data }, { on := 0, ground := Ground.phase }, { on := 1, ground := Ground.phase }, { on := 2, ground := Ground.phase }, { on := 3, ground := Ground.phase }, { on := 4, ground := Ground.phase }, { on := 5, ground := Ground.phase }, { on := 6, ground := Ground.phase }, { on := 7, ground := Ground.phase }, { on := 8, ground := Ground.phase }, { on := 9, ground := Ground.phase }, { on := 10, ground := Ground.phase }, { on := 11, ground := Ground.phase }, { on := 12, ground := Ground.phase }, { on := 13, ground := Ground.phase }, { on := 14, ground := Ground.phase }], guard := none }) (v := ?vq30a) rfl (by as_aux_lemma => kernel_rfl) (by as_aux_lemma => kernel_rfl) (by as_aux_lemma => kernel_rfl) (fun _ _ _ h => h) (Or.inl ⟨by rfl, ?yq30a⟩) (by assumption) ?rq30a
          case yq30a => (intro w hSw; (try dsimp only at hSw); go_simp <;> with_reducible rfl)
          simp only [Act.put, List.setIfInBounds_toArray, List.set_cons_zero, List.set_cons_succ]
          refine wpAnyH_ready (rs := [16]) (by as_aux_lemma => kernel_rfl) (by simp) ?_
          refine AllReadyH.cons (o := { dst := none, op := Op.store 5 (Operand.tmp 45) (Operand.tmp 44), type := 0, pos := "reader.go:72", after := #[{ on := 15, ground := Ground.data }, { on := 14, ground := Ground.data }, { on := 13, ground := Ground.chain }, { on := 0, ground := Ground.phase }, { on := 1, ground := Ground.phase }, { on := 2, ground := Ground.phase }, { on := 3, ground := Ground.phase }, { on := 4, ground := Ground.phase }, { on := 5, ground := Ground.phase }, { on := 6, ground := Ground.phase }, { on := 7, ground := Ground.phase }, { on := 8, ground := Ground.phase }, { on := 9, ground := Ground.phase }, { on := 10, ground := Ground.phase }, { on := 11, ground := Ground.phase }, { on := 12, ground := Ground.phase }, { on := 13, ground := Ground.phase }, { on := 14, ground := Ground.phase }], guard := none }) rfl (fun K hK => ?_) (by exact AllReadyH.nil)
          rw [if_pos (by rfl)]
          go_simp
          refine hK.out _ _ (by (try dsimp only); (try trivial)) (fun hHeld => ?_)
          clear hK K
          simp only [List.setIfInBounds_toArray, List.set_cons_zero, List.set_cons_succ]
          refine wpAnyH_done (by as_aux_lemma => kernel_rfl) ?_ _
          have hb2 : Blk (wr.setCell ⟨w.heap.size, k, none⟩ (.int .u8 (v2 : Nat))).drew w.heap.size 5 (bvs (byR D m (k + 1))).toArray := by rw [← HS.out]; exact heap_setCell_same wr _ k _ _ _ HD.out.2.1
          have hW2 := below_drew' (HD.out.2.2.1.setCell (p := ⟨w.heap.size, k, none⟩) (Nat.le_refl _) (.int .u8 (v2 : Nat)))
          have HE := Lib.hid (And.intro hb2 hW2)
          clear hb2 hW2 hcell hfro hi1 hi2 gs gor
          generalize (wr.setCell ⟨w.heap.size, k, none⟩ (.int .u8 (v2 : Nat))).drew = Z at HE ⊢
          go_wp2_with fail
          exact ⟨⟨k + 1, (by have := HD.out.2.2.2; omega), (by go_num), dgO_next HD.out.1 HAB.out.1 HAB.out.2 (by rw [e1]; exact h1) (by rw [e2]; exact h2), HE.out⟩, (by have := HD.out.2.2.2; simp [intOf]; omega)⟩
        · clear hset
          refine wp_region_held_drew (S := fun _ => True) (by as_aux_lemma => kernel_rfl) trivial (fun hHeld => ?_)
          simp only [List.size_toArray, List.length_cons, List.length_nil, Nat.reduceAdd, Array.replicate_succ, Array.replicate_zero, List.push_toArray, List.nil_append, List.cons_append]
          refine wpAnyH_take (i := 0) (oi := { dst := some 30, op := Op.move (Operand.tmp 7), type := 32, pos := "reader.go:72", after := #[], guard := none }) (v := ?vq0c) rfl (by as_aux_lemma => kernel_rfl) (by as_aux_lemma => kernel_rfl) (by as_aux_lemma => kernel_rfl) (fun _ _ _ h => h) (Or.inl ⟨by rfl, ?yq0c⟩) (by assumption) ?rq0c
          case yq0c => (intro w hSw; (try dsimp only at hSw); go_simp <;> with_reducible rfl)
          simp only [Act.put, List.setIfInBounds_toArray, List.set_cons_zero, List.set_cons_succ]
          refine wpAnyH_take (i := 1) (oi := { dst := some 31, op := Op.move (Operand.tmp 8), type := 3, pos := "reader.go:72", after := #[], guard := none }) (v := ?vq1c) rfl (by as_aux_lemma => kernel_rfl) (by as_aux_lemma => kernel_rfl) (by as_aux_lemma => kernel_rfl) (fun _ _ _ h => h) (Or.inl ⟨by rfl, ?yq1c⟩) (by assumption) ?rq1c
          case yq1c => (intro w hSw; (try dsimp only at hSw); go_simp <;> with_reducible rfl)
          simp only [Act.put, List.setIfInBounds_toArray, List.set_cons_zero, List.set_cons_succ]
          refine wpAnyH_take (i := 2) (oi := { dst := some 32, op := Op.move (Operand.tmp 5), type := 9, pos := "reader.go:72", after := #[], guard := none }) (v := ?vq2c) rfl (by as_aux_lemma => kernel_rfl) (by as_aux_lemma => kernel_rfl) (by as_aux_lemma => kernel_rfl) (fun _ _ _ h => h) (Or.inl ⟨by rfl, ?yq2c⟩) (by assumption) ?rq2c
          case yq2c => (intro w hSw; (try dsimp only at hSw); go_simp <;> with_reducible rfl)
          simp only [Act.put, List.setIfInBounds_toArray, List.set_cons_zero, List.set_cons_succ]
          refine wpAnyH_take (i := 3) (oi := { dst := some 33, op := Op.move (Operand.tmp 8), type := 3, pos := "reader.go:72", after := #[], guard := none }) (v := ?vq3c) rfl (by as_aux_lemma => kernel_rfl) (by as_aux_lemma => kernel_rfl) (by as_aux_lemma => kernel_rfl) (fun _ _ _ h => h) (Or.inl ⟨by rfl, ?yq3c⟩) (by assumption) ?rq3c
          case yq3c => (intro w hSw; (try dsimp only at hSw); go_simp <;> with_reducible rfl)
          simp only [Act.put, List.setIfInBounds_toArray, List.set_cons_zero, List.set_cons_succ]
          refine wpAnyH_take (i := 4) (oi := { dst := some 34, op := Op.binOp BinOp.mul 3 (Operand.const (Value.int IntKind.i64 2)) (Operand.tmp 33) 3, type := 3, pos := "reader.go:72", after := #[{ on := 3, ground := Ground.data }], guard := none }) (v := ?vq4c) rfl (by as_aux_lemma => kernel_rfl) (by as_aux_lemma => kernel_rfl) (by as_aux_lemma => kernel_rfl) (fun _ _ _ h => h) (Or.inl ⟨by rfl, ?yq4c⟩) (by assumption) ?rq4c
          case yq4c => (intro w hSw; (try dsimp only at hSw); go_simp <;> with_reducible rfl)
          simp only [Act.put, List.setIfInBounds_toArray, List.set_cons_zero, List.set_cons_succ]
          refine wpAnyH_take (i := 8) (oi := { dst := some 38, op := Op.move (Operand.tmp 5), type := 9, pos := "reader.go:72", after := #[], guard := none }) (v := ?vq5c) rfl (by as_aux_lemma => kernel_rfl) (by as_aux_lemma => kernel_rfl) (by as_aux_lemma => kernel_rfl) (fun _ _ _ h => h) (Or.inl ⟨by rfl, ?yq5c⟩) (by assumption) ?rq5c
          case yq5c => (intro w hSw; (try dsimp only at hSw); go_simp <;> with_reducible rfl)
          simp only [Act.put, List.setIfInBounds_toArray, List.set_cons_zero, List.set_cons_succ]
          refine wpAnyH_take (i := 9) (oi := { dst := some 39, op := Op.move (Operand.tmp 8), type := 3, pos := "reader.go:72", after := #[], guard := none }) (v := ?vq6c) rfl (by as_aux_lemma => kernel_rfl) (by as_aux_lemma => kernel_rfl) (by as_aux_lemma => kernel_rfl) (fun _ _ _ h => h) (Or.inl ⟨by rfl, ?yq6c⟩) (by assumption) ?rq6c
          case yq6c => (intro w hSw; (try dsimp only at hSw); go_simp <;> with_reducible rfl)
          simp only [Act.put, List.setIfInBounds_toArray, List.set_cons_zero, List.set_cons_succ]
          refine wpAnyH_take (i := 10) (oi := { dst := some 40, op := Op.binOp BinOp.mul 3 (Operand.const (Value.int IntKind.i64 2)) (Operand.tmp 39) 3, type := 3, pos := "reader.go:72", after := #[{ on := 9, ground := Ground.data }], guard := none }) (v := ?vq7c) rfl (by as_aux_lemma => kernel_rfl) (by as_aux_lemma => kernel_rfl) (by as_aux_lemma => kernel_rfl) (fun _ _ _ h => h) (Or.inl ⟨by rfl, ?yq7c⟩) (by assumption) ?rq7c
          case yq7c => (intro w hSw; (try dsimp only at hSw); go_simp <;> with_reducible rfl)
          simp only [Act.put, List.setIfInBounds_toArray, List.set_cons_zero, List.set_cons_succ]
          refine wpAnyH_take (i := 11) (oi := { dst := some 41, op := Op.binOp BinOp.add 3 (Operand.tmp 40) (Operand.const (Value.int IntKind.i64 1)) 3, type := 3, pos := "reader.go:72", after := #[{ on := 10, ground := Ground.data }], guard := none }) (v := ?vq8c) rfl (by as_aux_lemma => kernel_rfl) (by as_aux_lemma => kernel_rfl) (by as_aux_lemma => kernel_rfl) (fun _ _ _ h => h) (Or.inl ⟨by rfl, ?yq8c⟩) (by assumption) ?rq8c
          case yq8c => (intro w hSw; (try dsimp only at hSw); go_simp <;> with_reducible rfl)
          simp only [Act.put, List.setIfInBounds_toArray, List.set_cons_zero, List.set_cons_succ]
          refine wpAnyH_ready (rs := [5, 12]) (by as_aux_lemma => kernel_rfl) (by simp) ?_
          refine AllReadyH.cons (o := { dst := some 35, op := Op.index 9 (Operand.tmp 32) (Operand.tmp 34), type := 5, pos := "reader.go:72", after := #[{ on := 2, ground := Ground.data }, { on := 4, ground := Ground.data }], guard := none }) rfl (fun K hK => ?_) ?_
          · rw [if_pos (by rfl)]
            refine wp_index_run 9 _ _ rfl _ _ rfl rfl (hi1 _) ?_
            refine hK.out _ _ (by (try dsimp only); (try trivial)) (fun hHeld => ?_)
            clear hK K
            simp only [List.setIfInBounds_toArray, List.set_cons_zero, List.set_cons_succ]
            refine wpAnyH_ready (rs := [6, 12]) (by as_aux_lemma => kernel_rfl) (by simp) ?_
            refine AllReadyH.cons (o := { dst := some 36, op := Op.call { callee := Callee.value (Operand.func 91), args := #[Operand.tmp 35], argTypes := #[5] }, type := 5, pos := "reader.go:72", after := #[{ on := 5, ground := Ground.data }], guard := none }) rfl (fun K hK => ?_) ?_
            · rw [if_pos (by rfl)]
              go_simp
              refine (digit_ok c1 hc1 h1 _).mono ?_
              rintro e w9 ⟨rfl, rfl⟩
              refine hK.out _ _ (by (try dsimp only); (try trivial)) (fun hHeld => ?_)
              clear hK K
              simp only [List.setIfInBounds_toArray, List.set_cons_zero, List.set_cons_succ]
              refine wpAnyH_take (i := 7) (oi := { dst := some 37, op := Op.binOp BinOp.shl 5 (Operand.tmp 36) (Operand.const (Value.int IntKind.u64 4)) 99, type := 5, pos := "reader.go:72", after := #[{ on := 6, ground := Ground.data }], guard := none }) (v := ?vq11c) rfl (by as_aux_lemma => kernel_rfl) (by as_aux_lemma => kernel_rfl) (by as_aux_lemma => kernel_rfl) (fun _ _ _ h => h) (Or.inl ⟨by rfl, ?yq11c⟩) (by assumption) ?rq11c
              case yq11c => (intro w hSw; (try dsimp only at hSw); go_simp <;> with_reducible rfl)
              simp only [Act.put, List.setIfInBounds_toArray, List.set_cons_zero, List.set_cons_succ]
              refine wpAnyH_ready (rs := [12]) (by as_aux_lemma => kernel_rfl) (by simp) ?_
              refine AllReadyH.cons (o := { dst := some 42, op := Op.index 9 (Operand.tmp 38) (Operand.tmp 41), type := 5, pos := "reader.go:72", after := #[{ on := 8, ground := Ground.data }, { on := 11, ground := Ground.data }], guard := none }) rfl (fun K hK => ?_) (by exact AllReadyH.nil)
              rw [if_pos (by rfl)]
              refine wp_index_run 9 _ _ rfl _ _ rfl rfl (hi2 _) ?_
              refine hK.out _ _ (by (try dsimp only); (try trivial)) (fun hHeld => ?_)
              clear hK K
              simp only [List.setIfInBounds_toArray, List.set_cons_zero, List.set_cons_succ]
              refine wpAnyH_ready (rs := [13]) (by as_aux_lemma => kernel_rfl) (by simp) ?_
              refine AllReadyH.cons (o := { dst := some 43, op := Op.call { callee := Callee.value (Operand.func 91), args := #[Operand.tmp 42], argTypes := #[5] }, type := 5, pos := "reader.go:72", after := #[{ on := 12, ground := Ground.data }, { on := 6, ground := Ground.chain }], guard := none }) rfl (fun K hK => ?_) (by exact AllReadyH.nil)
              rw [if_pos (by rfl)]
              go_simp
              refine (digit_bad c2 hc2 h2 _).mono ?_
              rintro e w9 ⟨rfl, rfl⟩
              exact ⟨rfl, fun h => absurd (h B (by have := HAB.out; have := HD.out; have := HR.out; omega)) (by rw [e2]; exact h2), fun _ => rfl, HD.out.2.2.1.trans ((⟨rfl, rfl, rfl, Nat.le_refl _, fun _ _ => rfl⟩ : Below wr.heap.size wr wr.drew).mono HD.out.2.2.1.size)⟩
            refine AllReadyH.cons (o := { dst := some 42, op := Op.index 9 (Operand.tmp 38) (Operand.tmp 41), type := 5, pos := "reader.go:72", after := #[{ on := 8, ground := Ground.data }, { on := 11, ground := Ground.data }], guard := none }) rfl (fun K hK => ?_) (by exact AllReadyH.nil)
            rw [if_pos (by rfl)]
            refine wp_index_run 9 _ _ rfl _ _ rfl rfl (hi2 _) ?_
            refine hK.out _ _ (by (try dsimp only); (try trivial)) (fun hHeld => ?_)
            clear hK K
            simp only [List.setIfInBounds_toArray, List.set_cons_zero, List.set_cons_succ]
            refine wpAnyH_ready (rs := [6]) (by as_aux_lemma => kernel_rfl) (by simp) ?_
            refine AllReadyH.cons (o := { dst := some 36, op := Op.call { callee := Callee.value (Operand.func 91), args := #[Operand.tmp 35], argTypes := #[5] }, type := 5, pos := "reader.go:72", after := #[{ on := 5, ground := Ground.data }], guard := none }) rfl (fun K hK => ?_) (by exact AllReadyH.nil)
            rw [if_pos (by rfl)]
            go_simp
            refine (digit_ok c1 hc1 h1 _).mono ?_
            rintro e w9 ⟨rfl, rfl⟩
            refine hK.out _ _ (by (try dsimp only); (try trivial)) (fun hHeld => ?_)
            clear hK K
            simp only [List.setIfInBounds_toArray, List.set_cons_zero, List.set_cons_succ]
            refine wpAnyH_take (i := 7) (oi := { dst := some 37, op := Op.binOp BinOp.shl 5 (Operand.tmp 36) (Operand.const (Value.int IntKind.u64 4)) 99, type := 5, pos := "reader.go:72", after := #[{ on := 6, ground := Ground.data }], guard := none }) (v := ?vq19c) rfl (by as_aux_lemma => kernel_rfl) (by as_aux_lemma => kernel_rfl) (by as_aux_lemma => kernel_rfl) (fun _ _ _ h => h) (Or.inl ⟨by rfl, ?yq19c⟩) (by assumption) ?rq19c
            case yq19c => (intro w hSw; (try dsimp only at hSw); go_simp <;> with_reducible rfl)
            simp only [Act.put, List.setIfInBounds_toArray, List.set_cons_zero, List.set_cons_succ]
            refine wpAnyH_ready (rs := [13]) (by as_aux_lemma => kernel_rfl) (by simp) ?_
            refine AllReadyH.cons (o := { dst := some 43, op := Op.call { callee := Callee.value (Operand.func 91), args := #[Operand.tmp 42], argTypes := #[5] }, type := 5, pos := "reader.go:72", after := #[{ on := 12, ground := Ground.data }, { on := 6, ground := Ground.chain }], guard := none }) rfl (fun K hK => ?_) (by exact AllReadyH.nil)
            rw [if_pos (by rfl)]
            go_simp
            refine (digit_bad c2 hc2 h2 _).mono ?_
            rintro e w9 ⟨rfl, rfl⟩
            exact ⟨rfl, fun h => absurd (h B (by have := HAB.out; have := HD.out; have := HR.out; omega)) (by rw [e2]; exact h2), fun _ => rfl, HD.out.2.2.1.trans ((⟨rfl, rfl, rfl, Nat.le_refl _, fun _ _ => rfl⟩ : Below wr.heap.size wr wr.drew).mono HD.out.2.2.1.size)⟩
          refine AllReadyH.cons (o := { dst := some 42, op := Op.index 9 (Operand.tmp 38) (Operand.tmp 41), type := 5, pos := "reader.go:72", after := #[{ on := 8, ground := Ground.data }, { on := 11, ground := Ground.data }], guard := none }) rfl (fun K hK => ?_) (by exact AllReadyH.nil)
          rw [if_pos (by rfl)]
          refine wp_index_run 9 _ _ rfl _ _ rfl rfl (hi2 _) ?_
          refine hK.out _ _ (by (try dsimp only); (try trivial)) (fun hHeld => ?_)
          clear hK K
          simp only [List.setIfInBounds_toArray, List.set_cons_zero, List.set_cons_succ]
          refine wpAnyH_ready (rs := [5]) (by as_aux_lemma => kernel_rfl) (by simp) ?_
          refine AllReadyH.cons (o := { dst := some 35, op := Op.index 9 (Operand.tmp 32) (Operand.tmp 34), type := 5, pos := "reader.go:72", after := #[{ on := 2, ground := Ground.data }, { on := 4, ground := Ground.data }], guard := none }) rfl (fun K hK => ?_) (by exact AllReadyH.nil)
          rw [if_pos (by rfl)]
          refine wp_index_run 9 _ _ rfl _ _ rfl rfl (hi1 _) ?_
          refine hK.out _ _ (by (try dsimp only); (try trivial)) (fun hHeld => ?_)
          clear hK K
          simp only [List.setIfInBounds_toArray, List.set_cons_zero, List.set_cons_succ]
          refine wpAnyH_ready (rs := [6]) (by as_aux_lemma => kernel_rfl) (by simp) ?_
          refine AllReadyH.cons (o := { dst := some 36, op := Op.call { callee := Callee.value (Operand.func 91), args := #[Operand.tmp 35], argTypes := #[5] }, type := 5, pos := "reader.go:72", after := #[{ on := 5, ground := Ground.data }], guard := none }) rfl (fun K hK => ?_) (by exact AllReadyH.nil)
          rw [if_pos (by rfl)]
          go_simp
          refine (digit_ok c1 hc1 h1 _).mono ?_
          rintro e w9 ⟨rfl, rfl⟩
          refine hK.out _ _ (by (try dsimp only); (try trivial)) (fun hHeld => ?_)
          clear hK K
          simp only [List.setIfInBounds_toArray, List.set_cons_zero, List.set_cons_succ]
          refine wpAnyH_take (i := 7) (oi := { dst := some 37, op := Op.binOp BinOp.shl 5 (Operand.tmp 36) (Operand.const (Value.int IntKind.u64 4)) 99, type := 5, pos := "reader.go:72", after := #[{ on := 6, ground := Ground.data }], guard := none }) (v := ?vq27c) rfl (by as_aux_lemma => kernel_rfl) (by as_aux_lemma => kernel_rfl) (by as_aux_lemma => kernel_rfl) (fun _ _ _ h => h) (Or.inl ⟨by rfl, ?yq27c⟩) (by assumption) ?rq27c
          case yq27c => (intro w hSw; (try dsimp only at hSw); go_simp <;> with_reducible rfl)
          simp only [Act.put, List.setIfInBounds_toArray, List.set_cons_zero, List.set_cons_succ]
          refine wpAnyH_ready (rs := [13]) (by as_aux_lemma => kernel_rfl) (by simp) ?_
          refine AllReadyH.cons (o := { dst := some 43, op := Op.call { callee := Callee.value (Operand.func 91), args := #[Operand.tmp 42], argTypes := #[5] }, type := 5, pos := "reader.go:72", after := #[{ on := 12, ground := Ground.data }, { on := 6, ground := Ground.chain }], guard := none }) rfl (fun K hK => ?_) (by exact AllReadyH.nil)
          rw [if_pos (by rfl)]
          go_simp
          refine (digit_bad c2 hc2 h2 _).mono ?_
          rintro e w9 ⟨rfl, rfl⟩
          exact ⟨rfl, fun h => absurd (h B (by have := HAB.out; have := HD.out; have := HR.out; omega)) (by rw [e2]; exact h2), fun _ => rfl, HD.out.2.2.1.trans ((⟨rfl, rfl, rfl, Nat.le_refl _, fun _ _ => rfl⟩ : Below wr.heap.size wr wr.drew).mono HD.out.2.2.1.size)⟩
      · clear hset
        refine wp_region_held_drew (S := fun _ => True) (by as_aux_lemma => kernel_rfl) trivial (fun hHeld => ?_)
        simp only [List.size_toArray, List.length_cons, List.length_nil, Nat.reduceAdd, Array.replicate_succ, Array.replicate_zero, List.push_toArray, List.nil_append, List.cons_append]
        refine wpAnyH_take (i := 0) (oi := { dst := some 30, op := Op.move (Operand.tmp 7), type := 32, pos := "reader.go:72", after := #[], guard := none }) (v := ?vq0b) rfl (by as_aux_lemma => kernel_rfl) (by as_aux_lemma => kernel_rfl) (by as_aux_lemma => kernel_rfl) (fun _ _ _ h => h) (Or.inl ⟨by rfl, ?yq0b⟩) (by assumption) ?rq0b
        case yq0b => (intro w hSw; (try dsimp only at hSw); go_simp <;> with_reducible rfl)
        simp only [Act.put, List.setIfInBounds_toArray, List.set_cons_zero, List.set_cons_succ]
        refine wpAnyH_take (i := 1) (oi := { dst := some 31, op := Op.move (Operand.tmp 8), type := 3, pos := "reader.go:72", after := #[], guard := none }) (v := ?vq1b) rfl (by as_aux_lemma => kernel_rfl) (by as_aux_lemma => kernel_rfl) (by as_aux_lemma => kernel_rfl) (fun _ _ _ h => h) (Or.inl ⟨by rfl, ?yq1b⟩) (by assumption) ?rq1b
        case yq1b => (intro w hSw; (try dsimp only at hSw); go_simp <;> with_reducible rfl)
        simp only [Act.put, List.setIfInBounds_toArray, List.set_cons_zero, List.set_cons_succ]
        refine wpAnyH_take (i := 2) (oi := { dst := some 32, op := Op.move (Operand.tmp 5), type := 9, pos := "reader.go:72", after := #[], guard := none }) (v := ?vq2b) rfl (by as_aux_lemma => kernel_rfl) (by as_aux_lemma => kernel_rfl) (by as_aux_lemma => kernel_rfl) (fun _ _ _ h => h) (Or.inl ⟨by rfl, ?yq2b⟩) (by assumption) ?rq2b
        case yq2b => (intro w hSw; (try dsimp only at hSw); go_simp <;> with_reducible rfl)
        simp only [Act.put, List.setIfInBounds_toArray, List.set_cons_zero, List.set_cons_succ]
        refine wpAnyH_take (i := 3) (oi := { dst := some 33, op := Op.move (Operand.tmp 8), type := 3, pos := "reader.go:72", after := #[], guard := none }) (v := ?vq3b) rfl (by as_aux_lemma => kernel_rfl) (by as_aux_lemma => kernel_rfl) (by as_aux_lemma => kernel_rfl) (fun _ _ _ h => h) (Or.inl ⟨by rfl, ?yq3b⟩) (by assumption) ?rq3b
        case yq3b => (intro w hSw; (try dsimp only at hSw); go_simp <;> with_reducible rfl)
        simp only [Act.put, List.setIfInBounds_toArray, List.set_cons_zero, List.set_cons_succ]
        refine wpAnyH_take (i := 4) (oi := { dst := some 34, op := Op.binOp BinOp.mul 3 (Operand.const (Value.int IntKind.i64 2)) (Operand.tmp 33) 3, type := 3, pos := "reader.go:72", after := #[{ on := 3, ground := Ground.data }], guard := none }) (v := ?vq4b) rfl (by as_aux_lemma => kernel_rfl) (by as_aux_lemma => kernel_rfl) (by as_aux_lemma => kernel_rfl) (fun _ _ _ h => h) (Or.inl ⟨by rfl, ?yq4b⟩) (by assumption) ?rq4b
        case yq4b => (intro w hSw; (try dsimp only at hSw); go_simp <;> with_reducible rfl)
        simp only [Act.put, List.setIfInBounds_toArray, List.set_cons_zero, List.set_cons_succ]
        refine wpAnyH_take (i := 8) (oi := { dst := some 38, op := Op.move (Operand.tmp 5), type := 9, pos := "reader.go:72", after := #[], guard := none }) (v := ?vq5b) rfl (by as_aux_lemma => kernel_rfl) (by as_aux_lemma => kernel_rfl) (by as_aux_lemma => kernel_rfl) (fun _ _ _ h => h) (Or.inl ⟨by rfl, ?yq5b⟩) (by assumption) ?rq5b
        case yq5b => (intro w hSw; (try dsimp only at hSw); go_simp <;> with_reducible rfl)
        simp only [Act.put, List.setIfInBounds_toArray, List.set_cons_zero, List.set_cons_succ]
        refine wpAnyH_take (i := 9) (oi := { dst := some 39, op := Op.move (Operand.tmp 8), type := 3, pos := "reader.go:72", after := #[], guard := none }) (v := ?vq6b) rfl (by as_aux_lemma => kernel_rfl) (by as_aux_lemma => kernel_rfl) (by as_aux_lemma => kernel_rfl) (fun _ _ _ h => h) (Or.inl ⟨by rfl, ?yq6b⟩) (by assumption) ?rq6b
        case yq6b => (intro w hSw; (try dsimp only at hSw); go_simp <;> with_reducible rfl)
        simp only [Act.put, List.setIfInBounds_toArray, List.set_cons_zero, List.set_cons_succ]
        refine wpAnyH_take (i := 10) (oi := { dst := some 40, op := Op.binOp BinOp.mul 3 (Operand.const (Value.int IntKind.i64 2)) (Operand.tmp 39) 3, type := 3, pos := "reader.go:72", after := #[{ on := 9, ground := Ground.data }], guard := none }) (v := ?vq7b) rfl (by as_aux_lemma => kernel_rfl) (by as_aux_lemma => kernel_rfl) (by as_aux_lemma => kernel_rfl) (fun _ _ _ h => h) (Or.inl ⟨by rfl, ?yq7b⟩) (by assumption) ?rq7b
        case yq7b => (intro w hSw; (try dsimp only at hSw); go_simp <;> with_reducible rfl)
        simp only [Act.put, List.setIfInBounds_toArray, List.set_cons_zero, List.set_cons_succ]
        refine wpAnyH_take (i := 11) (oi := { dst := some 41, op := Op.binOp BinOp.add 3 (Operand.tmp 40) (Operand.const (Value.int IntKind.i64 1)) 3, type := 3, pos := "reader.go:72", after := #[{ on := 10, ground := Ground.data }], guard := none }) (v := ?vq8b) rfl (by as_aux_lemma => kernel_rfl) (by as_aux_lemma => kernel_rfl) (by as_aux_lemma => kernel_rfl) (fun _ _ _ h => h) (Or.inl ⟨by rfl, ?yq8b⟩) (by assumption) ?rq8b
        case yq8b => (intro w hSw; (try dsimp only at hSw); go_simp <;> with_reducible rfl)
        simp only [Act.put, List.setIfInBounds_toArray, List.set_cons_zero, List.set_cons_succ]
        refine wpAnyH_ready (rs := [5, 12]) (by as_aux_lemma => kernel_rfl) (by simp) ?_
        refine AllReadyH.cons (o := { dst := some 35, op := Op.index 9 (Operand.tmp 32) (Operand.tmp 34), type := 5, pos := "reader.go:72", after := #[{ on := 2, ground := Ground.data }, { on := 4, ground := Ground.data }], guard := none }) rfl (fun K hK => ?_) ?_
        · rw [if_pos (by rfl)]
          refine wp_index_run 9 _ _ rfl _ _ rfl rfl (hi1 _) ?_
          refine hK.out _ _ (by (try dsimp only); (try trivial)) (fun hHeld => ?_)
          clear hK K
          simp only [List.setIfInBounds_toArray, List.set_cons_zero, List.set_cons_succ]
          refine wpAnyH_ready (rs := [6, 12]) (by as_aux_lemma => kernel_rfl) (by simp) ?_
          refine AllReadyH.cons (o := { dst := some 36, op := Op.call { callee := Callee.value (Operand.func 91), args := #[Operand.tmp 35], argTypes := #[5] }, type := 5, pos := "reader.go:72", after := #[{ on := 5, ground := Ground.data }], guard := none }) rfl (fun K hK => ?_) ?_
          · rw [if_pos (by rfl)]
            go_simp
            refine (digit_bad c1 hc1 h1 _).mono ?_
            rintro e w9 ⟨rfl, rfl⟩
            exact ⟨rfl, fun h => absurd (h A (by have := HAB.out; have := HD.out; have := HR.out; omega)) (by rw [e1]; exact h1), fun _ => rfl, HD.out.2.2.1.trans ((⟨rfl, rfl, rfl, Nat.le_refl _, fun _ _ => rfl⟩ : Below wr.heap.size wr wr.drew).mono HD.out.2.2.1.size)⟩
          refine AllReadyH.cons (o := { dst := some 42, op := Op.index 9 (Operand.tmp 38) (Operand.tmp 41), type := 5, pos := "reader.go:72", after := #[{ on := 8, ground := Ground.data }, { on := 11, ground := Ground.data }], guard := none }) rfl (fun K hK => ?_) (by exact AllReadyH.nil)
          rw [if_pos (by rfl)]
          refine wp_index_run 9 _ _ rfl _ _ rfl rfl (hi2 _) ?_
          refine hK.out _ _ (by (try dsimp only); (try trivial)) (fun hHeld => ?_)
          clear hK K
          simp only [List.setIfInBounds_toArray, List.set_cons_zero, List.set_cons_succ]
          refine wpAnyH_ready (rs := [6]) (by as_aux_lemma => kernel_rfl) (by simp) ?_
          refine AllReadyH.cons (o := { dst := some 36, op := Op.call { callee := Callee.value (Operand.func 91), args := #[Operand.tmp 35], argTypes := #[5] }, type := 5, pos := "reader.go:72", after := #[{ on := 5, ground := Ground.data }], guard := none }) rfl (fun K hK => ?_) (by exact AllReadyH.nil)
          rw [if_pos (by rfl)]
          go_simp
          refine (digit_bad c1 hc1 h1 _).mono ?_
          rintro e w9 ⟨rfl, rfl⟩
          exact ⟨rfl, fun h => absurd (h A (by have := HAB.out; have := HD.out; have := HR.out; omega)) (by rw [e1]; exact h1), fun _ => rfl, HD.out.2.2.1.trans ((⟨rfl, rfl, rfl, Nat.le_refl _, fun _ _ => rfl⟩ : Below wr.heap.size wr wr.drew).mono HD.out.2.2.1.size)⟩
        refine AllReadyH.cons (o := { dst := some 42, op := Op.index 9 (Operand.tmp 38) (Operand.tmp 41), type := 5, pos := "reader.go:72", after := #[{ on := 8, ground := Ground.data }, { on := 11, ground := Ground.data }], guard := none }) rfl (fun K hK => ?_) (by exact AllReadyH.nil)
        rw [if_pos (by rfl)]
        refine wp_index_run 9 _ _ rfl _ _ rfl rfl (hi2 _) ?_
        refine hK.out _ _ (by (try dsimp only); (try trivial)) (fun hHeld => ?_)
        clear hK K
        simp only [List.setIfInBounds_toArray, List.set_cons_zero, List.set_cons_succ]
        refine wpAnyH_ready (rs := [5]) (by as_aux_lemma => kernel_rfl) (by simp) ?_
        refine AllReadyH.cons (o := { dst := some 35, op := Op.index 9 (Operand.tmp 32) (Operand.tmp 34), type := 5, pos := "reader.go:72", after := #[{ on := 2, ground := Ground.data }, { on := 4, ground := Ground.data }], guard := none }) rfl (fun K hK => ?_) (by exact AllReadyH.nil)
        rw [if_pos (by rfl)]
        refine wp_index_run 9 _ _ rfl _ _ rfl rfl (hi1 _) ?_
        refine hK.out _ _ (by (try dsimp only); (try trivial)) (fun hHeld => ?_)
        clear hK K
        simp only [List.setIfInBounds_toArray, List.set_cons_zero, List.set_cons_succ]
        refine wpAnyH_ready (rs := [6]) (by as_aux_lemma => kernel_rfl) (by simp) ?_
        refine AllReadyH.cons (o := { dst := some 36, op := Op.call { callee := Callee.value (Operand.func 91), args := #[Operand.tmp 35], argTypes := #[5] }, type := 5, pos := "reader.go:72", after := #[{ on := 5, ground := Ground.data }], guard := none }) rfl (fun K hK => ?_) (by exact AllReadyH.nil)
        rw [if_pos (by rfl)]
        go_simp
        refine (digit_bad c1 hc1 h1 _).mono ?_
        rintro e w9 ⟨rfl, rfl⟩
        exact ⟨rfl, fun h => absurd (h A (by have := HAB.out; have := HD.out; have := HR.out; omega)) (by rw [e1]; exact h1), fun _ => rfl, HD.out.2.2.1.trans ((⟨rfl, rfl, rfl, Nat.le_refl _, fun _ _ => rfl⟩ : Below wr.heap.size wr wr.drew).mono HD.out.2.2.1.size)⟩
    · obtain rfl : k = m := by omega
      have hkI : ¬ (k : Int) < (k : Int) := by omega
      rw [byR_all] at hb
      rw [HR.out.2] at hd
      have HE := Lib.hid (And.intro hb (And.intro hW hd))
      clear hb hW hd hmk hk hlt
      go_wp2_with fail
      go_ret
      exact ⟨fun _ => ⟨_, rfl, Nat.le_refl _, HE.out.1⟩, fun h => absurd HE.out.2.2 h, HE.out.2.1⟩
theorem bytesOf_any (s : ByteArray) (m : Nat) (hm : m ≤ 100) (w : World) : Calls Tryd.prog 80 #[.string s, .int .i64 m] w fun e w' => BoP s m w e w' := by
  unfold BoP bxV
  cases hs : Lib.hasPrefix s.data.toList [48, 120] with
  | false =>
    refine (bytesOf_nolead s m hs w).mono ?_
    rintro e w' ⟨rfl, h⟩
    exact ⟨by simp, h⟩
  | true =>
    by_cases hl : (Lib.trimPrefix s.data.toList [48, 120]).length = 2 * m
    · refine (bytesOf_digits s m hs hm hl w).mono ?_
      rintro e w' ⟨h1, h2, h3⟩
      by_cases hd : dgO (Lib.trimPrefix s.data.toList [48, 120]) (2 * m)
      · rw [if_pos ⟨rfl, hl, hd⟩]
        exact ⟨h1 hd, h3⟩
      · rw [if_neg (fun h => hd h.2.2)]
        exact ⟨h2 hd, h3⟩
    · refine (bytesOf_length s m hs hm hl w).mono ?_
      rintro e w' ⟨rfl, h⟩
      rw [if_neg (fun h => hl h.2.1)]
      exact ⟨rfl, h⟩
end Go.Proofs.YtcdmaapjcckbmaaDoor

/- code: which op a name is (slices.Index, find, Named; the reference's Named). -/
namespace Go.Proofs.YtcdmaapjcckbmaaDoor
open Go.RowKit Go.Shelf

theorem seq_ne {s t : ByteArray} (h : s ≠ t) : (s.toList == t.toList) = false := by
  rw [beq_eq_false_iff_ne]
  intro e
  apply h
  apply Go.WideShapes.bytes_inj
  rwa [ByteArray.toList_eq, ByteArray.toList_eq] at e
theorem seq_self (s : ByteArray) : (s.toList == s.toList) = true := by simp
theorem semp_ne {s : ByteArray} (h : s ≠ ⟨#[]⟩) : (s.toList == []) = false := by
  have := seq_ne h
  simpa using this
theorem semp_self : ((⟨#[]⟩ : ByteArray).toList == []) = true := by simp
/-- Where a text is first among the names of all ops (of nothing: nowhere). -/
def nix (s : ByteArray) : Option Nat := if s = ⟨#[]⟩ then none else (List.range 256).find? fun j => nmO j = s
theorem nix_some {s : ByteArray} {k : Nat} (h : nix s = some k) : s ≠ ⟨#[]⟩ ∧ k < 256 ∧ nmO k = s ∧ ∀ j, j < k → nmO j ≠ s := by
  unfold nix at h
  split at h
  · cases h
  · rename_i hs
    rw [List.find?_range_eq_some] at h
    obtain ⟨h1, h2, h3⟩ := h
    refine ⟨hs, by simpa using h2, by simpa using h1, fun j hj => by simpa using h3 j hj⟩
theorem nix_none {s : ByteArray} (h : nix s = none) (hs : s ≠ ⟨#[]⟩) : ∀ j, j < 256 → nmO j ≠ s := by
  unfold nix at h
  rw [if_neg hs, List.find?_eq_none] at h
  intro j hj
  have := h j (List.mem_range.2 hj)
  simpa using this
def nk (s : ByteArray) : Nat := (nix s).getD 0
def nb (s : ByteArray) : Bool := (nix s).isSome
theorem nmO_first : nmO 12 = ⟨#[]⟩ := by rfl
theorem nmO_before : ∀ j : Fin 12, nmO j.val ≠ ⟨#[]⟩ := by decide +kernel

set_option maxRecDepth 100000 in
set_option maxHeartbeats 2000000 in
theorem index_hit (b o c m : Nat) (F : Nat → ByteArray) (s : ByteArray) (k : Nat) (hk : k < m) (hm : m ≤ 256) (h1 : F k = s) (h2 : ∀ j, j < k → F j ≠ s) (w : World) (hc : ∀ j, j < m → w.cell? ⟨b, o + j, none⟩ = some (.string (F j))) :
    Calls Tryd.prog 63 #[.slice (some ⟨b, o, none⟩) m c, .string s] w fun e w' => e = .returned (.int .i64 k) ∧ w = w' := by
  have HC := Lib.hid hc
  have H2 := Lib.hid h2
  have HK := Lib.hid (And.intro hk hm)
  clear hc h2
  go_enter Tryd.func63, Tryd.ntmps63
  go_wp2_with fail
  go_loopw [8] (fun t8 wr => ∃ j : Nat, j ≤ k ∧ t8 = .int .i64 (j : Nat) ∧ w = wr) (fun t8 _ => (256 - intOf t8).toNat)
  case atStart => exact ⟨0, by omega, rfl, rfl⟩
  case round =>
    obtain ⟨j, hj, rfl, rfl⟩ := hrel
    have hjm : (j : Int) < m := by have := HK.out; omega
    have hj0 : (0 : Int) ≤ (j : Int) := by omega
    have g1 : IntKind.i64.wrap ((j : Int) + 1) = ((j + 1 : Nat) : Int) := by rw [IntWalk.i64_in _ (by have := HK.out; omega)]; omega
    have c0 : w.cell? ⟨b, o + j, none⟩ = some (.string (F j)) := HC.out j (by have := HK.out; omega)
    by_cases e : j = k
    · subst e
      rw [h1] at c0
      have hq := seq_self s
      clear hj h1 hk hm
      go_wp2_with fail
      go_ret
      exact ⟨rfl, rfl⟩
    · have hq := seq_ne (fun h => H2.out j (by omega) h.symm)
      have hjk := Lib.hid (show j + 1 ≤ k by omega)
      clear hj h1 e hk hm
      generalize hj1 : j + 1 = j1 at *
      have HJ := Lib.hid hj1
      clear hj1
      go_wp2_with fail
      exact ⟨⟨j1, hjk.out, rfl, trivial⟩, by have := HK.out; have := HJ.out; have := hjk.out; simp [intOf]; omega⟩
set_option maxRecDepth 100000 in
set_option maxHeartbeats 2000000 in
theorem index_miss (b o c m : Nat) (F : Nat → ByteArray) (s : ByteArray) (hm : m ≤ 256) (h2 : ∀ j, j < m → F j ≠ s) (w : World) (hc : ∀ j, j < m → w.cell? ⟨b, o + j, none⟩ = some (.string (F j))) :
    Calls Tryd.prog 63 #[.slice (some ⟨b, o, none⟩) m c, .string s] w fun e w' => e = .returned (.int .i64 (-1)) ∧ w = w' := by
  have HC := Lib.hid hc
  have H2 := Lib.hid h2
  have HK := Lib.hid hm
  clear hc h2
  go_enter Tryd.func63, Tryd.ntmps63
  go_wp2_with fail
  go_loopw [8] (fun t8 wr => ∃ j : Nat, j ≤ m ∧ t8 = .int .i64 (j : Nat) ∧ w = wr) (fun t8 _ => (256 - intOf t8).toNat)
  case atStart => exact ⟨0, by omega, rfl, rfl⟩
  case round =>
    obtain ⟨j, hj, rfl, rfl⟩ := hrel
    by_cases e : j < m
    · have hjm : (j : Int) < m := by omega
      have hj0 : (0 : Int) ≤ (j : Int) := by omega
      have g1 : IntKind.i64.wrap ((j : Int) + 1) = ((j + 1 : Nat) : Int) := by rw [IntWalk.i64_in _ (by have := HK.out; omega)]; omega
      have c0 : w.cell? ⟨b, o + j, none⟩ = some (.string (F j)) := HC.out j e
      have hq := seq_ne (fun h => H2.out j e h.symm)
      have hjk := Lib.hid (show j + 1 ≤ m by omega)
      clear hj e hm
      generalize hj1 : j + 1 = j1 at *
      have HJ := Lib.hid hj1
      clear hj1
      go_wp2_with fail
      exact ⟨⟨j1, hjk.out, rfl, trivial⟩, by have := HK.out; have := HJ.out; have := hjk.out; simp [intOf]; omega⟩
    · have hjm : ¬ (j : Int) < m := by omega
      clear hj e hm
      go_wp2_with fail
      go_ret
      exact ⟨rfl, rfl⟩
theorem index_names (b o c : Nat) (s : ByteArray) (w : World) (hc : ∀ j, j < 256 → w.cell? ⟨b, o + j, none⟩ = some (.string (nmO j))) :
    Calls Tryd.prog 63 #[.slice (some ⟨b, o, none⟩) 256 c, .string s] w fun e w' => ∃ z : Int, e = .returned (.int .i64 z) ∧ w = w' ∧ (nix s = none → s ≠ ⟨#[]⟩ → z = -1) ∧ (∀ k, nix s = some k → z = k) := by
  by_cases hs : s = ⟨#[]⟩
  · subst hs
    refine (index_hit b o c 256 nmO _ 12 (by omega) (by omega) nmO_first (fun j hj => nmO_before ⟨j, hj⟩) w hc).mono ?_
    rintro e w' ⟨rfl, rfl⟩
    exact ⟨_, rfl, rfl, fun _ h => absurd rfl h, fun k h => absurd rfl (nix_some h).1⟩
  · cases h : nix s with
    | none =>
      refine (index_miss b o c 256 nmO s (by omega) (nix_none h hs) w hc).mono ?_
      rintro e w' ⟨rfl, rfl⟩
      exact ⟨_, rfl, rfl, fun _ _ => rfl, fun k h => by cases h⟩
    | some k =>
      obtain ⟨_, h1, h2, h3⟩ := nix_some h
      refine (index_hit b o c 256 nmO s k h1 (by omega) h2 h3 w hc).mono ?_
      rintro e w' ⟨rfl, rfl⟩
      exact ⟨_, rfl, rfl, (fun h => by cases h), (fun j h => by cases h; rfl)⟩
set_option maxRecDepth 100000 in
set_option maxHeartbeats 2000000 in
theorem find_any (b o c : Nat) (s : ByteArray) (w : World) (hc : ∀ j, j < 256 → w.cell? ⟨b, o + j, none⟩ = some (.string (nmO j))) :
    Calls Tryd.prog 37 #[.slice (some ⟨b, o, none⟩) 256 c, .string s] w fun e w' => e = .returned (.tuple #[.int .i64 (nk s : Nat), .bool (nb s)]) ∧ w = w' := by
  have HI := Lib.hid (index_names b o c s w hc)
  clear hc
  by_cases hs : s = ⟨#[]⟩
  · have hz : nix s = none := by unfold nix; rw [if_pos hs]
    rw [show nk s = 0 by unfold nk; rw [hz]; rfl, show nb s = false by unfold nb; rw [hz]; rfl]
    have hq : (s.toList == []) = true := by rw [hs]; exact semp_self
    clear hs hz
    go_enter Tryd.func37, Tryd.ntmps37
    go_wp2_with (first | (go_at_call 63; refine (HI.out).mono ?_; rintro e w1 ⟨z, rfl, rfl, _, _⟩) | fail)
    go_ret2
    exact ⟨rfl, rfl⟩
  · have hq := semp_ne hs
    cases h : nix s with
    | none =>
      rw [show nk s = 0 by unfold nk; rw [h]; rfl, show nb s = false by unfold nb; rw [h]; rfl]
      have HS := Lib.hid (And.intro h hs)
      clear h hs
      go_enter Tryd.func37, Tryd.ntmps37
      go_wp2_with (first | (go_at_call 63; refine (HI.out).mono ?_; rintro e w1 ⟨z, rfl, rfl, h1, _⟩; obtain rfl := h1 HS.out.1 HS.out.2; clear h1) | fail)
      go_ret2
      exact ⟨rfl, rfl⟩
    | some k =>
      rw [show nk s = k by unfold nk; rw [h]; rfl, show nb s = true by unfold nb; rw [h]; rfl]
      have HS := Lib.hid h
      have hk : ¬ (k : Int) < 0 := by omega
      clear h hs
      go_enter Tryd.func37, Tryd.ntmps37
      go_wp2_with (first | (go_at_call 63; refine (HI.out).mono ?_; rintro e w1 ⟨z, rfl, rfl, _, h1⟩; obtain rfl := h1 k HS.out; clear h1) | fail)
      go_ret2
      exact ⟨rfl, rfl⟩
theorem nk_lt (s : ByteArray) : nk s < 256 := by
  unfold nk
  cases h : nix s with
  | none => simp
  | some k => exact (nix_some h).2.1
set_option maxRecDepth 100000 in
set_option maxHeartbeats 2000000 in
theorem named_any (s : ByteArray) (w : World) : Calls Tryd.prog 12 #[.string s] w fun e w' => e = .returned (.tuple #[.int .u8 (nk s : Nat), .bool (nb s)]) ∧ Below w.heap.size w w' := by
  have g0 : IntKind.u8.wrap ((nk s : Nat) : Int) = ((nk s : Nat) : Int) := IntWalk.u8_in _ (by have := nk_lt s; omega)
  have HFa := Lib.hid (fun b o c (w : World) hc => find_any b o c s w hc)
  generalize nk s = k at *
  generalize nb s = z at *
  go_enter Tryd.func12, Tryd.ntmps12
  go_upto_region 1 with fail
  refine wp_region_lit ?_
  refine wpList_plain rfl fun K hK => ?_
  go_simp
  refine (names_any _).mono ?_
  rintro e w1 ⟨rfl, hw⟩
  refine hK _ _ ?_
  clear hK K
  refine wpList_plain rfl fun K hK => ?_
  go_simp
  refine hK _ _ ?_
  clear hK K
  rw [zero_names]
  refine wpList_store_row rfl 63 (.tmp 4) (.tmp 7) rfl w1.heap.size (nmV 256) rfl rfl 63 (nmV 0) (Blk.new w1 _ _) (by rw [infoNm, nmV_size]) (by rw [nmV_size, nmV_size]) (nmV_one _) (wpList_nil ?_)
  rw [World.setRow_alloc_new]
  have hb : Blk (w1.alloc (.cells (nmV 256) 63)) w1.heap.size 63 (nmV 256) := Blk.new w1 _ _
  have HB := Lib.hid (balloc hw (.cells (nmV 256) 63))
  generalize w1.alloc (.cells (nmV 256) 63) = Y at hb HB ⊢
  have HF := Lib.hid (HFa.out w1.heap.size 0 256 Y (fun j hj => (by rw [Nat.zero_add, cell_of_row _ _ j _ _ _ hb, nmV_get _ _ hj, if_pos hj])))
  clear hb hw
  go_wp2_with (first | (go_at_call 37; refine (HF.out).mono ?_; rintro e w2 ⟨rfl, rfl⟩) | fail)
  go_ret2
  exact ⟨rfl, HB.out⟩
theorem next_no {j : Nat} {s : ByteArray} (h : ∀ i, i < j → nmO i = s → s = ⟨#[]⟩) (hs : nmO j = s → s = ⟨#[]⟩) : ∀ i, i < j + 1 → nmO i = s → s = ⟨#[]⟩ := by
  intro i hi e
  by_cases h2 : i < j
  · exact h i h2 e
  · obtain rfl : i = j := by omega
    exact hs e
set_option maxRecDepth 100000 in
set_option maxHeartbeats 2000000 in
theorem rnamed_any (s : ByteArray) (w : World) : Calls Tryd.prog 13 #[.string s] w fun e w' => e = .returned (.tuple #[.int .u8 (nk s : Nat), .bool (nb s)]) ∧ Below w.heap.size w w' := by
  go_enter Tryd.func13, Tryd.ntmps13
  go_wp2_with fail
  go_loopw [4] (fun t4 wr => ∃ j : Nat, j ≤ 256 ∧ (∀ i, i < j → nmO i = s → s = ⟨#[]⟩) ∧ t4 = .int .i64 (j : Nat) ∧ Below w.heap.size w wr) (fun t4 _ => (256 - intOf t4).toNat)
  case atStart => exact ⟨0, by omega, fun i hi => by omega, rfl, Below.refl _ _⟩
  case round =>
    obtain ⟨j, hj, hno, rfl, hB⟩ := hrel
    by_cases hlt : j < 256
    · have hjI : (j : Int) < 256 := by omega
      have g0 : IntKind.u8.wrap (j : Int) = (j : Int) := IntWalk.u8_in _ (by omega)
      have g1 : IntKind.i64.wrap ((j : Int) + 1) = ((j + 1 : Nat) : Int) := by rw [IntWalk.i64_in _ (by omega)]; omega
      have HI := Lib.hid (rinfo_any j hlt)
      have hnm : (⟨(oi j).nm.toArray⟩ : ByteArray) = nmO j := rfl
      generalize oi j = O at *
      simp only [oiC] at HI
      rw [hnm] at HI
      clear hnm
      have HN := Lib.hid (And.intro hlt (And.intro hno hB))
      clear hlt hno hB hj
      by_cases h1 : nmO j = ⟨#[]⟩
      · have hq : ((nmO j).toList == []) = true := by rw [h1]; exact semp_self
        have hs : nmO j = s → s = ⟨#[]⟩ := fun h => h.symm.trans h1
        have HZ := Lib.hid (next_no HN.out.2.1 hs)
        clear h1 hs
        generalize nmO j = S at *
        generalize hj1 : j + 1 = j1 at *
        have HJ := Lib.hid hj1
        clear hj1
        go_wp2_with (first
          | (go_at_call 11; refine (HI.out _).mono ?_; rintro e w1 ⟨rfl, hi⟩; have HW := Lib.hid hi; clear hi)
          | fail)
        obtain ⟨hlt, hno, hB⟩ := HN.out
        have HE := Lib.hid (balloc (bstep hB HW.out) (.cells #[.string S, .int .i64 O.i, .int .i64 O.o, .int .u64 O.g, .bool O.q, .int .i64 O.z] 25))
        exact ⟨⟨j1, (by have := HJ.out; omega), HZ.out, rfl, HE.out⟩, (by have := HJ.out; simp [intOf]; omega)⟩
      · by_cases h2 : nmO j = s
        · have hz : nix s = some j := by
            unfold nix
            rw [if_neg (fun e => h1 (h2.trans e)), List.find?_range_eq_some]
            refine ⟨by simpa using h2, by simpa using HN.out.1, fun i hi => ?_⟩
            have h3 := HN.out.2.1 i hi
            simp only [Bool.not_eq_true', decide_eq_false_iff_not]
            exact fun h => h1 (h2.trans (h3 h))
          have HV := Lib.hid (show nk s = j ∧ nb s = true by unfold nk nb; rw [hz]; exact ⟨rfl, rfl⟩)
          have hq : ((nmO j).toList == []) = false := semp_ne h1
          have hq2 : ((nmO j).toList == s.toList) = true := by rw [h2]; exact seq_self s
          clear h1 h2 hz
          generalize nmO j = S at *
          go_wp2_with (first
            | (go_at_call 11; refine (HI.out _).mono ?_; rintro e w1 ⟨rfl, hi⟩; have HW := Lib.hid hi; clear hi)
            | fail)
          go_ret2
          rw [HV.out.1, HV.out.2]
          exact ⟨rfl, balloc (bstep HN.out.2.2 HW.out) _⟩
        · have hq : ((nmO j).toList == []) = false := semp_ne h1
          have hq2 := seq_ne h2
          have HZ := Lib.hid (next_no HN.out.2.1 (fun h => absurd h h2))
          clear h1 h2
          generalize nmO j = S at *
          generalize hj1 : j + 1 = j1 at *
          have HJ := Lib.hid hj1
          clear hj1
          go_wp2_with (first
            | (go_at_call 11; refine (HI.out _).mono ?_; rintro e w1 ⟨rfl, hi⟩; have HW := Lib.hid hi; clear hi)
            | fail)
          obtain ⟨hlt, hno, hB⟩ := HN.out
          have HE := Lib.hid (balloc (bstep hB HW.out) (.cells #[.string S, .int .i64 O.i, .int .i64 O.o, .int .u64 O.g, .bool O.q, .int .i64 O.z] 25))
          exact ⟨⟨j1, (by have := HJ.out; omega), HZ.out, rfl, HE.out⟩, (by have := HJ.out; simp [intOf]; omega)⟩
    · obtain rfl : j = 256 := by omega
      have hz : nix s = none := by
        unfold nix
        split
        · rfl
        · rename_i hs
          rw [List.find?_eq_none]
          intro i hi
          have h3 := hno i (List.mem_range.1 hi)
          simp only [decide_eq_true_eq]
          exact fun h => hs (h3 h)
      have HN := Lib.hid hB
      have HV := Lib.hid (show nk s = 0 ∧ nb s = false by unfold nk nb; rw [hz]; exact ⟨rfl, rfl⟩)
      clear hno hB hz
      go_wp2_with fail
      go_ret2
      rw [HV.out.1, HV.out.2]
      exact ⟨rfl, HN.out⟩
end Go.Proofs.YtcdmaapjcckbmaaDoor

/- code: the reader: its state, next. -/
namespace Go.Proofs.YtcdmaapjcckbmaaDoor
open Go.RowKit Go.Shelf

/-- A reader's cells: the words that are left, all names, the code so far. -/
def krC (v cv : Value) : Array Value := (v :: (((List.range 256).map fun j => Value.string (nmO j)) ++ [cv])).toArray
theorem krC_size (v cv : Value) : (krC v cv).size = 258 := by unfold krC; simp
theorem krC_get (v cv : Value) (i : Nat) : (krC v cv)[i]? = if i = 0 then some v else if i ≤ 256 then some (.string (nmO (i - 1))) else if i = 257 then some cv else none := by
  unfold krC
  rw [List.getElem?_toArray]
  cases i with
  | zero => rfl
  | succ i =>
    rw [List.getElem?_cons_succ, if_neg (by omega)]
    by_cases h : i < 256
    · rw [if_pos (by omega), List.getElem?_append_left (by simp; omega), List.getElem?_map, List.getElem?_range h]; rfl
    · rw [if_neg (by omega), List.getElem?_append_right (by simp; omega)]
      simp only [List.length_map, List.length_range]
      by_cases h2 : i = 256
      · subst h2; rfl
      · rw [if_neg (by omega), List.getElem?_eq_none (by simp; omega)]
theorem krC_words (v cv : Value) : (krC v cv)[0]? = some v := by rw [krC_get, if_pos rfl]
theorem krC_name (v cv : Value) (j : Nat) (h : j < 256) : (krC v cv)[1 + j]? = some (.string (nmO j)) := by rw [krC_get, if_neg (by omega), if_pos (by omega), Nat.add_sub_cancel_left]
theorem krC_code (v cv : Value) : (krC v cv)[257]? = some cv := by rw [krC_get, if_neg (by omega), if_neg (by omega), if_pos rfl]
theorem krC_setw (v cv u : Value) : (krC v cv).setIfInBounds 0 u = krC u cv := by
  apply Array.ext_getElem?
  intro i
  rw [Array.getElem?_setIfInBounds, krC_size, krC_get, krC_get]
  by_cases h : 0 = i
  · subst h; simp
  · rw [if_neg h, if_neg (Ne.symm h), if_neg (Ne.symm h)]
theorem krC_setc (v cv u : Value) : (krC v cv).setIfInBounds 257 u = krC v u := by
  apply Array.ext_getElem?
  intro i
  rw [Array.getElem?_setIfInBounds, krC_size, krC_get, krC_get]
  by_cases h : 257 = i
  · subst h; simp
  · rw [if_neg h, if_neg (show ¬ i = 257 by omega), if_neg (show ¬ i = 257 by omega)]
/-- Words that are left. -/
def WdS (X : World) (bw : Nat) (v : Value) (ws : List ByteArray) : Prop := ∃ y c, v = .slice y ws.length c ∧ ws.length ≤ c ∧ (ws ≠ [] → ∃ o, y = some ⟨bw, o, none⟩ ∧ ∀ (j : Nat) x, ws[j]? = some x → X.cell? ⟨bw, o + j, none⟩ = some (.string x))
/-- A reader. -/
def RdS (X : World) (R bw : Nat) (v : Value) (ws : List ByteArray) (cv : Value) (l : List Nat) : Prop := Blk X R 105 (krC v cv) ∧ WdS X bw v ws ∧ Ow X (R + 1) cv l ∧ bw < R
theorem WdS.kept {X Y : World} {bw : Nat} {v : Value} {ws : List ByteArray} (h : WdS X bw v ws) (hk : Y.heap[bw]? = X.heap[bw]?) : WdS Y bw v ws := by
  obtain ⟨y, c, h1, h2, h3⟩ := h
  refine ⟨y, c, h1, h2, fun hn => ?_⟩
  obtain ⟨o, e, hc⟩ := h3 hn
  exact ⟨o, e, fun j x hj => (cell_heap (p := ⟨bw, o + j, none⟩) hk).trans (hc j x hj)⟩
theorem RdS.new {X Y : World} {R bw : Nat} {v cv : Value} {ws : List ByteArray} {l : List Nat} (h : RdS X R bw v ws cv l) (k : Below X.heap.size X Y) : RdS Y R bw v ws cv l :=
  ⟨h.1.keep k, h.2.1.kept (k.block bw (Nat.lt_trans h.2.2.2 h.1.lt)), h.2.2.1.new k, h.2.2.2⟩
theorem RdS.setw {X : World} {R bw : Nat} {v u cv : Value} {ws us : List ByteArray} {l : List Nat} (h : RdS X R bw v ws cv l) (hu : WdS X bw u us) : RdS (X.setCell ⟨R, 0, none⟩ u) R bw u us cv l ∧ X.grownBy (X.setCell ⟨R, 0, none⟩ u) (some R) := by
  have hg := grown_set' (grown_refl X R) 0 u
  have hlt := h.2.2.2
  have hbx := h.1.lt
  refine ⟨⟨by rw [← krC_setw v cv u]; exact heap_setCell_same X R 0 _ _ u h.1, hu.kept (hg.block bw (by omega) (fun e => by injection e; omega)), ⟨h.2.2.1.1, World.ownsRow.kept h.2.2.1.2 hg (own_fresh h.2.2.1.2 (by omega))⟩, h.2.2.2⟩, hg⟩
theorem undWs : Tryd.prog.underlying 103 = some (.slice 9) := by kernel_rfl
theorem cutW (x : Option Addr) (m c : Nat) (hk : 1 ≤ m) (w : World) : (Instr.slice 103 (.slice x m c) (some (.int .i64 1)) none none).run Tryd.prog w = .ok (sliced x 1 m c 1) w := by
  have h := run_slice_l (P := Tryd.prog) (w := w) (t := 103) (a := x) (len := m) (cap := c) (ht := by kernel_rfl) .i64 1 (by omega) (by omega)
  rw [h, show Tryd.prog.elem 103 = 9 by kernel_rfl, show (sizeOf 9).run Tryd.prog w = .ok 1 w by kernel_rfl]
  rfl
set_option maxRecDepth 100000 in
set_option maxHeartbeats 2000000 in
theorem next_ok (R bw : Nat) (v cv : Value) (x : ByteArray) (r : List ByteArray) (l : List Nat) (w : World) (h : RdS w R bw v (x :: r) cv l) (hr : r.length ≤ 1000000) : Calls Tryd.prog 79 #[.pointer (some ⟨R, 0, none⟩)] w fun e w' => e = .returned (.string x) ∧ ∃ v', RdS w' R bw v' r cv l ∧ w.grownBy w' (some R) := by
  obtain ⟨y, c, hv, hc, hw⟩ := h.2.1
  obtain ⟨o, hy, hcl⟩ := hw (by simp)
  subst hy
  have c0 := cell_of_row _ _ 0 _ _ _ h.1
  rw [krC_words, hv] at c0
  have f0 := frozen_of_row w _ 0 _ _ h.1
  have cx := hcl 0 x rfl
  rw [Nat.add_zero] at cx
  have hcut := cutW (some ⟨bw, o, none⟩) (x :: r).length c (by simp)
  have hu : ∃ y2 c2, sliced (some ⟨bw, o, none⟩) 1 (x :: r).length c 1 = .slice y2 r.length c2 ∧ WdS w bw (.slice y2 r.length c2) r := by
    unfold sliced
    by_cases hc1 : c = 1
    · rw [if_pos hc1]
      have : r = [] := by
        apply List.eq_nil_of_length_eq_zero
        simp at hc
        omega
      subst this
      exact ⟨_, _, rfl, _, _, rfl, Nat.zero_le _, fun h => absurd rfl h⟩
    · rw [if_neg hc1]
      refine ⟨_, _, rfl, _, _, rfl, by simp at hc; omega, fun _ => ⟨o + 1, rfl, fun j z hj => ?_⟩⟩
      have := hcl (j + 1) z (by simpa using hj)
      rwa [show o + (j + 1) = o + 1 + j by omega] at this
  obtain ⟨y2, c2, hs2, hwd⟩ := hu
  rw [hs2] at hcut
  have HE := Lib.hid (h.setw hwd)
  have hl1 : (0 : Int) < ((x :: r).length : Int) := by simp
  have hl2 : 0 < (x :: r).length := by simp
  clear h hw hcl hs2 hwd hv hc
  generalize (x :: r).length = n at *
  generalize r.length = m at *
  go_enter Tryd.func79, Tryd.ntmps79
  go_wp2_with (first
    | (go_at_call 81; refine (need_t _).mono ?_; rintro e w' ⟨rfl, rfl⟩)
    | fail)
  go_ret
  exact ⟨rfl, _, HE.out⟩
set_option maxRecDepth 100000 in
set_option maxHeartbeats 2000000 in
theorem next_bad (R bw : Nat) (v cv : Value) (l : List Nat) (w : World) (h : RdS w R bw v [] cv l) : Calls Tryd.prog 79 #[.pointer (some ⟨R, 0, none⟩)] w fun e w' => e = .panicked ch200 ∧ w = w' := by
  obtain ⟨y, c, hv, hc, hw⟩ := h.2.1
  have c0 := cell_of_row _ _ 0 _ _ _ h.1
  rw [krC_words, hv] at c0
  simp only [List.length_nil] at c0
  clear h hv hc hw
  go_enter Tryd.func79, Tryd.ntmps79
  go_wp2_with (first
    | (go_at_call 81; refine (need_f _).mono ?_; rintro e w' ⟨rfl, rfl⟩)
    | fail)
  exact ⟨rfl, rfl, rfl⟩
end Go.Proofs.YtcdmaapjcckbmaaDoor

/- code: the reader: op. -/
namespace Go.Proofs.YtcdmaapjcckbmaaDoor
open Go.RowKit Go.Shelf

/-- The op that a word is: by its name, or a byte that is none's. -/
def prN (x : ByteArray) : Option Nat := if nb x then some (nk x) else match bxV x 1 with
  | some bs => if nmO (bs.getD 0 0) = ⟨#[]⟩ then some (bs.getD 0 0) else none
  | none => none
/-- What an op of a text comes to: its bytes, and the words that are left. -/
def prOp (ws : List ByteArray) : Option (List Nat × List ByteArray) := match ws with
  | [] => none
  | x :: r => match prN x with
    | none => none
    | some o => if szO o = 0 then some ([o], r) else match r with
      | [] => none
      | y :: r2 => match bxV y (szO o) with
        | none => none
        | some bs => some (o :: bs, r2)
theorem bt_new (X : World) (o : Nat) (h : o < 256) : Bt (X.heap.size + 1) (X.alloc (.cells #[.int .u8 (o : Nat)] 5)) (.slice (some ⟨X.heap.size, 0, none⟩) 1 1) [o] :=
  ⟨fun z hz => by simp at hz; subst hz; exact h, _, _, rfl, Nat.le_refl _, by decide, .inr ⟨_, 0, rfl, fun _ => ⟨by omega, by simp⟩, fun k u hk => by
    rcases k with _ | k
    · simp at hk; subst hk; exact cell_of_row _ _ 0 _ _ _ (Blk.new X 5 #[.int .u8 (o : Nat)])
    · simp at hk⟩⟩
theorem RdS.setc {X Y w2 : World} {R bw : Nat} {v u cv : Value} {ws : List ByteArray} {l m : List Nat} (h : RdS X R bw v ws cv l) (hY : Below X.heap.size X Y) (hG : Y.grownBy w2 cv.ownBlock) (hO : Ow w2 (R + 1) u m) :
    RdS (w2.setCell ⟨R, 257, none⟩ u) R bw v ws u m ∧ Below R X (w2.setCell ⟨R, 257, none⟩ u) := by
  have hb := (h.new hY)
  have hob : ∀ k, k ≤ R → some k ≠ cv.ownBlock := fun k hk e => by have := (hb.2.2.1.2.lt k e.symm).1; omega
  have hRY := hb.1.lt
  have hg := grown_set' (grown_refl w2 R) 257 u
  have hk1 : ∀ k, k ≤ R → k < Y.heap.size → w2.heap[k]? = Y.heap[k]? := fun k a b => hG.block k b (hob k a)
  have hRw : Blk w2 R 105 (krC v cv) := (hk1 R (Nat.le_refl _) hRY).trans hb.1
  have hlt := h.2.2.2
  refine ⟨⟨by rw [← krC_setc v cv u]; exact heap_setCell_same w2 R 257 _ _ u hRw, hb.2.1.kept ((hg.block bw (Nat.lt_of_lt_of_le (by omega) hG.size) (fun e => by injection e; omega)).trans (hk1 bw (by omega) (by omega))), ⟨hO.1, World.ownsRow.kept hO.2 hg (own_fresh hO.2 (by omega))⟩, hlt⟩, ?_⟩
  have hXR := h.1.lt
  refine (hY.mono (by omega)).trans ⟨hg.os.trans hG.os, hg.tape.trans hG.tape, hg.output.trans hG.output, Nat.le_trans hG.size hg.size, fun k hk => (hg.block k (Nat.lt_of_lt_of_le (by omega) hG.size) (fun e => by injection e; omega)).trans (hk1 k (by omega) (by omega))⟩
theorem grown_below {X Y : World} {R : Nat} (h : X.grownBy Y (some R)) (hR : R ≤ X.heap.size) : Below R X Y := ⟨h.os, h.tape, h.output, h.size, fun k hk => h.block k (by omega) (fun e => by injection e; omega)⟩
theorem RdS.blk {X Y w2 : World} {R bw : Nat} {v cv : Value} {ws : List ByteArray} {l : List Nat} (h : RdS X R bw v ws cv l) (hY : Below X.heap.size X Y) (hG : Y.grownBy w2 cv.ownBlock) : Blk w2 R 105 (krC v cv) := by
  have hb := (h.new hY)
  exact (hG.block R hb.1.lt (fun e => by have := (hb.2.2.1.2.lt R e.symm).1; omega)).trans hb.1
theorem bxV_lt (x : ByteArray) (o : Nat) (h : bxV x 1 = some [o]) : o < 256 := by
  unfold bxV at h
  split at h
  · rename_i hc
    injection h with h
    have h2 : (byV (Lib.trimPrefix x.data.toList [48, 120]) 1) = [16 * hgN (Lib.trimPrefix x.data.toList [48, 120]) 0 + hgN (Lib.trimPrefix x.data.toList [48, 120]) 1] := rfl
    rw [h2] at h
    injection h with h
    have a := hc.2.2 0 (by omega)
    have b := hc.2.2 1 (by omega)
    omega
  · cases h
theorem bxV_ok (x : ByteArray) (m : Nat) (bs : List Nat) (h : bxV x m = some bs) : bs.length = m ∧ ∀ z ∈ bs, z < 256 := by
  unfold bxV at h
  split at h
  · rename_i hc
    injection h with h
    subst h
    refine ⟨byV_len _ _, fun z hz => ?_⟩
    unfold byV at hz
    obtain ⟨i, hi, rfl⟩ := List.mem_map.1 hz
    have hi2 := List.mem_range.1 hi
    have a := hc.2.2 (2 * i) (by omega)
    have b := hc.2.2 (2 * i + 1) (by omega)
    omega
  · cases h
/-- append of an argument's bytes to an own row of bytes, as a run. -/
theorem run_appq {w : World} (base : Nat) (v : Value) (l : List Nat) (hown : Ow w base v l) (B : Nat) (u : Value) (m : List Nat) (hx : Bto B w u m) (hz : ∀ n c, u = .slice none n c → c = 0) (hn : l.length + m.length ≤ 1000000) (hb : base ≤ w.heap.size) :
    ∃ y c w', (Builtin.append_ #[32, 32] 32 #[v, u]).run Tryd.prog w = .ok (.slice y (l ++ m).length c) w' ∧ Ow w' base (.slice y (l ++ m).length c) (l ++ m) ∧ w.grownBy w' v.ownBlock := by
  obtain ⟨i0, hi, hz0, hz1, hz2⟩ := info_parts' infoU8
  have hu : Tryd.prog.underlying 32 = some (.slice 5) := by kernel_rfl
  obtain ⟨hm, y, cap, rfl, h3, h4, h5⟩ := hx
  cases y with
  | none =>
    have hm0 : m = [] := by
      refine Classical.byContradiction fun hne => ?_
      obtain ⟨b, o, e, _⟩ := h5 hne
      cases e
    subst hm0
    obtain rfl := hz _ _ rfl
    have hrun := run_append_owned_none (P := Tryd.prog) (w := w) base 32 32 5 i0 1 hu hi _ _ _ hown.2
    obtain ⟨z, c, rfl⟩ := hown.is
    have hE : l ++ ([] : List Nat) = l := by simp
    rw [hE]
    exact ⟨z, c, w, hrun, hown, World.grownBy.refl w _⟩
  | some ad =>
    obtain ⟨v', w', hrun, ho', hg, _⟩ := run_append_own (P := Tryd.prog) w base 32 32 5 i0 (.int .u8 0) 1 1 hu hi hz0 hz1 hz2 rfl (by decide) v l.length (bvs l) hown.2 ad m.length cap (bvs m) (by rw [bvs_len]; omega) (by
        intro j u hj
        rw [bvs_get] at hj
        cases hmj : m[j]? with
        | none => rw [hmj] at hj; cases hj
        | some v =>
          rw [hmj] at hj
          cases hj
          obtain ⟨b, o, e, _, _, hc⟩ := h5 (fun e => by rw [e] at hmj; simp at hmj)
          cases e
          rw [Go.WideShapes.add_plain]
          exact hc j v hmj) (bvs_one m) (by unfold maxLen; omega) (by omega) hb
    have hO : Ow w' base v' (l ++ m) := ⟨fun z hz => (List.mem_append.1 hz).elim (hown.1 z) (hm z), by rw [← bvs_app, List.length_append]; exact ho'⟩
    obtain ⟨z, c, rfl⟩ := hO.is
    exact ⟨z, c, w', hrun, hO, hg⟩

theorem run_app {w : World} (base : Nat) (v : Value) (l : List Nat) (hown : Ow w base v l) (B : Nat) (u : Value) (m : List Nat) (hx : Bto B w u m) (hz : ∀ n c, u = .slice none n c → c = 0) (hn : l.length + m.length ≤ 1000000) (hb : base ≤ w.heap.size) :
    ∃ y n c w', (Builtin.append_ #[32, 32] 32 #[v, u]).run Tryd.prog w = .ok (.slice y n c) w' ∧ Ow w' base (.slice y n c) (l ++ m) ∧ w.grownBy w' v.ownBlock := by
  obtain ⟨y, c, w', h⟩ := run_appq base v l hown B u m hx hz hn hb
  exact ⟨y, _, c, w', h⟩
set_option maxRecDepth 100000 in
set_option maxHeartbeats 4000000 in
theorem op_bad (R bw : Nat) (v cv : Value) (x : ByteArray) (r : List ByteArray) (l : List Nat) (w : World) (h : RdS w R bw v (x :: r) cv l) (hr : r.length ≤ 900000) (hn : nb x = false) (hx : bxV x 1 = none) : Calls Tryd.prog 72 #[.pointer (some ⟨R, 0, none⟩)] w fun e w' => e = .panicked ch200 ∧ Below R w w' := by
  have hRw := h.1.lt
  have HN := Lib.hid (next_ok R bw v cv x r l w h (by omega))
  have HFI := Lib.hid (fun (Y : World) (v1 : Value) (hY : RdS Y R bw v1 r cv l) => find_any R 1 256 x Y (fun j hj => (cell_of_row _ _ (1 + j) _ _ _ hY.1).trans (krC_name _ _ j hj)))
  rw [hn] at HFI
  have hq0 := nk_lt x
  generalize nk x = q at *
  have g0 : IntKind.u8.wrap (q : Int) = (q : Int) := IntWalk.u8_in _ (by omega)
  have HB := Lib.hid (fun w => (bytesOf_any x 1 (by decide) w).mono fun e w' h => (by unfold BoP at h; rw [hx] at h; exact h : e = .panicked ch200 ∧ Below w.heap.size w w'))
  clear h hn hx
  go_enter Tryd.func72, Tryd.ntmps72
  go_wp2_with (first
    | (go_at_call 79; refine (HN.out).mono ?_; rintro e w1 ⟨rfl, v1, h1, hg1⟩; have H1 := Lib.hid (And.intro h1 hg1); clear h1 hg1)
    | (go_at_call 37; refine (HFI.out _ v1 H1.out.1).mono ?_; rintro e w2 ⟨rfl, rfl⟩)
    | (go_at_call 80; refine (HB.out _).mono ?_; rintro e w3 ⟨rfl, h3⟩)
    | fail)
  exact ⟨rfl, rfl, (grown_below H1.out.2 (by omega)).trans (h3.mono (by have := H1.out.1.1.lt; omega))⟩
set_option maxRecDepth 100000 in
set_option maxHeartbeats 4000000 in
theorem op_named (R bw o : Nat) (v cv : Value) (x : ByteArray) (r : List ByteArray) (l : List Nat) (w : World) (h : RdS w R bw v (x :: r) cv l) (hr : r.length ≤ 900000) (hn : nb x = false) (hx : bxV x 1 = some [o]) (he : nmO o ≠ ⟨#[]⟩) : Calls Tryd.prog 72 #[.pointer (some ⟨R, 0, none⟩)] w fun e w' => e = .panicked ch200 ∧ Below R w w' := by
  have hRw := h.1.lt
  have HN := Lib.hid (next_ok R bw v cv x r l w h (by omega))
  have HFI := Lib.hid (fun (Y : World) (v1 : Value) (hY : RdS Y R bw v1 r cv l) => find_any R 1 256 x Y (fun j hj => (cell_of_row _ _ (1 + j) _ _ _ hY.1).trans (krC_name _ _ j hj)))
  rw [hn] at HFI
  have hq0 := nk_lt x
  generalize nk x = q at *
  have g0 : IntKind.u8.wrap (q : Int) = (q : Int) := IntWalk.u8_in _ (by omega)
  have HB := Lib.hid (fun w => (bytesOf_any x 1 (by decide) w).mono fun e w' h => (by unfold BoP at h; rw [hx] at h; exact h : (∃ g, e = .returned (.slice (some ⟨g, 0, none⟩) 1 1) ∧ w.heap.size ≤ g ∧ Blk w' g 5 (bvs [o]).toArray) ∧ Below w.heap.size w w'))
  have hlo : o < 256 := bxV_lt x o hx
  generalize hz2 : nmO o = zz at he
  have hqe : zz.toList.isEmpty = false := by
    rcases zz with ⟨⟨_ | ⟨a, d⟩⟩⟩
    · exact absurd rfl he
    · simp
  clear h hn hx he
  go_enter Tryd.func72, Tryd.ntmps72
  go_upto_region 4 with (first
    | (go_at_call 79; refine (HN.out).mono ?_; rintro e w1 ⟨rfl, v1, h1, hg1⟩; have H1 := Lib.hid (And.intro h1 hg1); clear h1 hg1)
    | (go_at_call 37; refine (HFI.out _ v1 H1.out.1).mono ?_; rintro e w2 ⟨rfl, rfl⟩)
    | fail)
  go_upto_region 5 with (first
    | (go_at_call 80; refine (HB.out _).mono ?_; rintro e w3 ⟨⟨g, rfl, hg3, hb3⟩, h3⟩; have cg := cell_of_row _ _ 0 _ _ _ hb3; have HF := Lib.hid (And.intro (H1.out.1.new h3) ((grown_below H1.out.2 (by omega)).trans (h3.mono (by have := H1.out.1.1.lt; omega)))); replace cg : w3.cell? ⟨g, 0, none⟩ = some (.int .u8 (o : Nat)) := cg; clear hg3 hb3 h3)
    | fail)
  have cn := (cell_of_row _ _ (1 + o) _ _ _ HF.out.1.1).trans (krC_name _ _ o (by omega))
  rw [hz2] at cn
  have ho0 : (0 : Int) ≤ (o : Int) := by omega
  have ho1 : (o : Int) < 256 := by omega
  go_wp2_with (first
    | (go_at_call 81; refine (need_f _).mono ?_; rintro e w' ⟨rfl, rfl⟩)
    | fail)
  exact ⟨rfl, rfl, HF.out.2⟩
set_option maxRecDepth 100000 in
set_option maxHeartbeats 4000000 in
theorem op_name_0 (R bw o : Nat) (v cv : Value) (x : ByteArray) (r : List ByteArray) (l : List Nat) (w : World) (h : RdS w R bw v (x :: r) cv l) (hr : r.length ≤ 900000) (hl : l.length ≤ 900000) (hn : nb x = true) (ho : nk x = o) (hz : szO o = 0) : Calls Tryd.prog 72 #[.pointer (some ⟨R, 0, none⟩)] w fun e w' => e = .returned (.tuple #[]) ∧ ∃ v2 cv2, RdS w' R bw v2 r cv2 (l ++ [o]) ∧ Below R w w' := by
  have hlo : o < 256 := by rw [← ho]; exact nk_lt x
  have hRw := h.1.lt
  have HN := Lib.hid (next_ok R bw v cv x r l w h (by omega))
  have HFI := Lib.hid (fun (Y : World) (v1 : Value) (hY : RdS Y R bw v1 r cv l) => find_any R 1 256 x Y (fun j hj => (cell_of_row _ _ (1 + j) _ _ _ hY.1).trans (krC_name _ _ j hj)))
  rw [hn, ho] at HFI
  have g0 : IntKind.u8.wrap (o : Int) = (o : Int) := IntWalk.u8_in _ (by omega)
  have HS := Lib.hid (fun w => size_any o hlo w)
  rw [hz] at HS
  have HL := Lib.hid (And.intro hl hlo)
  clear h hn ho
  clear hz
  go_enter Tryd.func72, Tryd.ntmps72
  go_upto_region 6 with (first
    | (go_at_call 79; refine (HN.out).mono ?_; rintro e w1 ⟨rfl, v1, h1, hg1⟩; have H1 := Lib.hid (And.intro h1 hg1); clear h1 hg1)
    | (go_at_call 37; refine (HFI.out _ v1 H1.out.1).mono ?_; rintro e w2 ⟨rfl, rfl⟩)
    | fail)
  have HF := Lib.hid (And.intro H1.out.1 (grown_below H1.out.2 (by omega)))
  clear H1
  have hRf := HF.out.1.1.lt
  have cC := cell_of_row _ _ 257 _ _ _ HF.out.1.1
  rw [krC_code] at cC
  have hBA := Lib.hid (balloc (Below.refl w1.heap.size w1) (.cells #[.int .u8 (o : Nat)] 5))
  have HX := Lib.hid (And.intro (HF.out.1.2.2.1.new hBA.out) (bt_new w1 o HL.out.2))
  go_upto_region 7 with (first
    | (at_builtin; refine wpList_app rfl _ _ rfl (R + 1) l HX.out.1 (w1.heap.size + 1) [o] HX.out.2 ?c1 ?c2 ?_)
    | fail)
  case c1 => have := HL.out.1; simp; omega
  case c2 => simp; omega
  intro y1 c1 w4 hO hG
  have HZ := Lib.hid (RdS.setc HF.out.1 hBA.out hG hO)
  have hB2 := RdS.blk HF.out.1 hBA.out hG
  have c2 := cell_of_row _ _ 257 _ _ _ hB2
  rw [krC_code] at c2
  have f2 := frozen_of_row _ _ 257 _ _ hB2
  clear hO hG hB2 cC hBA HX
  go_wp2_with (first
    | (go_at_call 65; refine (HS.out _).mono ?_; rintro e w' ⟨rfl, rfl⟩)
    | fail)
  go_end0
  exact ⟨rfl, _, _, HZ.out.1, HF.out.2.trans HZ.out.2⟩
set_option maxRecDepth 100000 in
set_option maxHeartbeats 4000000 in
theorem op_byte_0 (R bw o : Nat) (v cv : Value) (x : ByteArray) (r : List ByteArray) (l : List Nat) (w : World) (h : RdS w R bw v (x :: r) cv l) (hr : r.length ≤ 900000) (hlo : o < 256) (hl : l.length ≤ 900000) (hn : nb x = false) (hx : bxV x 1 = some [o]) (he : nmO o = ⟨#[]⟩) (hz : szO o = 0) : Calls Tryd.prog 72 #[.pointer (some ⟨R, 0, none⟩)] w fun e w' => e = .returned (.tuple #[]) ∧ ∃ v2 cv2, RdS w' R bw v2 r cv2 (l ++ [o]) ∧ Below R w w' := by
  have hRw := h.1.lt
  have HN := Lib.hid (next_ok R bw v cv x r l w h (by omega))
  have HFI := Lib.hid (fun (Y : World) (v1 : Value) (hY : RdS Y R bw v1 r cv l) => find_any R 1 256 x Y (fun j hj => (cell_of_row _ _ (1 + j) _ _ _ hY.1).trans (krC_name _ _ j hj)))
  rw [hn] at HFI
  have hq0 := nk_lt x
  generalize nk x = q at *
  have g0 : IntKind.u8.wrap (q : Int) = (q : Int) := IntWalk.u8_in _ (by omega)
  have HB := Lib.hid (fun w => (bytesOf_any x 1 (by decide) w).mono fun e w' h => (by unfold BoP at h; rw [hx] at h; exact h : (∃ g, e = .returned (.slice (some ⟨g, 0, none⟩) 1 1) ∧ w.heap.size ≤ g ∧ Blk w' g 5 (bvs [o]).toArray) ∧ Below w.heap.size w w'))
  have HS := Lib.hid (fun w => size_any o hlo w)
  rw [hz] at HS
  have HL := Lib.hid (And.intro hl hlo)
  clear h hn hx
  clear hz
  go_enter Tryd.func72, Tryd.ntmps72
  go_upto_region 4 with (first
    | (go_at_call 79; refine (HN.out).mono ?_; rintro e w1 ⟨rfl, v1, h1, hg1⟩; have H1 := Lib.hid (And.intro h1 hg1); clear h1 hg1)
    | (go_at_call 37; refine (HFI.out _ v1 H1.out.1).mono ?_; rintro e w2 ⟨rfl, rfl⟩)
    | fail)
  go_upto_region 5 with (first
    | (go_at_call 80; refine (HB.out _).mono ?_; rintro e w3 ⟨⟨g, rfl, hg3, hb3⟩, h3⟩; have cg := cell_of_row _ _ 0 _ _ _ hb3; have HF := Lib.hid (And.intro (H1.out.1.new h3) ((grown_below H1.out.2 (by omega)).trans (h3.mono (by have := H1.out.1.1.lt; omega)))); replace cg : w3.cell? ⟨g, 0, none⟩ = some (.int .u8 (o : Nat)) := cg; clear hg3 hb3 h3)
    | fail)
  have cn := (cell_of_row _ _ (1 + o) _ _ _ HF.out.1.1).trans (krC_name _ _ o (by omega))
  rw [he] at cn
  have ho0 : (0 : Int) ≤ (o : Int) := by omega
  have ho1 : (o : Int) < 256 := by omega
  go_upto_region 6 with (first
    | (go_at_call 81; refine (need_t _).mono ?_; rintro e w' ⟨rfl, rfl⟩)
    | fail)
  clear H1 cn cg
  have hRf := HF.out.1.1.lt
  have cC := cell_of_row _ _ 257 _ _ _ HF.out.1.1
  rw [krC_code] at cC
  have hBA := Lib.hid (balloc (Below.refl w3.heap.size w3) (.cells #[.int .u8 (o : Nat)] 5))
  have HX := Lib.hid (And.intro (HF.out.1.2.2.1.new hBA.out) (bt_new w3 o HL.out.2))
  go_upto_region 7 with (first
    | (at_builtin; refine wpList_app rfl _ _ rfl (R + 1) l HX.out.1 (w3.heap.size + 1) [o] HX.out.2 ?c1 ?c2 ?_)
    | fail)
  case c1 => have := HL.out.1; simp; omega
  case c2 => simp; omega
  intro y1 c1 w4 hO hG
  have HZ := Lib.hid (RdS.setc HF.out.1 hBA.out hG hO)
  have hB2 := RdS.blk HF.out.1 hBA.out hG
  have c2 := cell_of_row _ _ 257 _ _ _ hB2
  rw [krC_code] at c2
  have f2 := frozen_of_row _ _ 257 _ _ hB2
  clear hO hG hB2 cC hBA HX
  go_wp2_with (first
    | (go_at_call 65; refine (HS.out _).mono ?_; rintro e w' ⟨rfl, rfl⟩)
    | fail)
  go_end0
  exact ⟨rfl, _, _, HZ.out.1, HF.out.2.trans HZ.out.2⟩
set_option maxRecDepth 100000 in
set_option maxHeartbeats 4000000 in
theorem op_name_ok (R bw o : Nat) (v cv : Value) (x y : ByteArray) (r : List ByteArray) (l : List Nat) (w : World) (h : RdS w R bw v (x :: (y :: r)) cv l) (hr : r.length ≤ 900000) (hl : l.length ≤ 900000) (hn : nb x = true) (ho : nk x = o) (m : Nat) (hz : szO o = m) (hm : 0 < m) (bs : List Nat) (hy : bxV y m = some bs) : Calls Tryd.prog 72 #[.pointer (some ⟨R, 0, none⟩)] w fun e w' => e = .returned (.tuple #[]) ∧ ∃ v2 cv2, RdS w' R bw v2 r cv2 (l ++ (o :: bs)) ∧ Below R w w' := by
  have hlo : o < 256 := by rw [← ho]; exact nk_lt x
  have hRw := h.1.lt
  have HN := Lib.hid (next_ok R bw v cv x (y :: r) l w h (by simp; omega))
  have HFI := Lib.hid (fun (Y : World) (v1 : Value) (hY : RdS Y R bw v1 (y :: r) cv l) => find_any R 1 256 x Y (fun j hj => (cell_of_row _ _ (1 + j) _ _ _ hY.1).trans (krC_name _ _ j hj)))
  rw [hn, ho] at HFI
  have g0 : IntKind.u8.wrap (o : Int) = (o : Int) := IntWalk.u8_in _ (by omega)
  have HS := Lib.hid (fun w => size_any o hlo w)
  rw [hz] at HS
  have HL := Lib.hid (And.intro hl hlo)
  have hm100 : m ≤ 100 := by rw [← hz]; unfold szO; split <;> omega
  have HY := Lib.hid hy
  clear hy
  clear h hn ho
  go_enter Tryd.func72, Tryd.ntmps72
  go_upto_region 6 with (first
    | (go_at_call 79; refine (HN.out).mono ?_; rintro e w1 ⟨rfl, v1, h1, hg1⟩; have H1 := Lib.hid (And.intro h1 hg1); clear h1 hg1)
    | (go_at_call 37; refine (HFI.out _ v1 H1.out.1).mono ?_; rintro e w2 ⟨rfl, rfl⟩)
    | fail)
  have HF := Lib.hid (And.intro H1.out.1 (grown_below H1.out.2 (by omega)))
  clear H1
  have hRf := HF.out.1.1.lt
  have cC := cell_of_row _ _ 257 _ _ _ HF.out.1.1
  rw [krC_code] at cC
  have hBA := Lib.hid (balloc (Below.refl w1.heap.size w1) (.cells #[.int .u8 (o : Nat)] 5))
  have HX := Lib.hid (And.intro (HF.out.1.2.2.1.new hBA.out) (bt_new w1 o HL.out.2))
  go_upto_region 7 with (first
    | (at_builtin; refine wpList_app rfl _ _ rfl (R + 1) l HX.out.1 (w1.heap.size + 1) [o] HX.out.2 ?c1 ?c2 ?_)
    | fail)
  case c1 => have := HL.out.1; simp; omega
  case c2 => simp; omega
  intro y1 c1 w4 hO hG
  have HZ := Lib.hid (RdS.setc HF.out.1 hBA.out hG hO)
  have hB2 := RdS.blk HF.out.1 hBA.out hG
  have c2 := cell_of_row _ _ 257 _ _ _ hB2
  rw [krC_code] at c2
  have f2 := frozen_of_row _ _ 257 _ _ hB2
  clear hO hG hB2 cC hBA HX
  have hmI : (0 : Int) < (m : Int) := by omega
  go_upto_region 9 with (first
    | (go_at_call 65; refine (HS.out _).mono ?_; rintro e w' ⟨rfl, rfl⟩)
    | fail)
  generalize (Value.slice y1 (l.length + 1) c1) = cv3 at *
  generalize w4.setCell ⟨R, 257, none⟩ cv3 = w5 at *
  have hD5 := Lib.hid (below_drew' (Below.refl w5.heap.size w5))
  have H5 := Lib.hid (And.intro HL.out.1 hRf)
  have HN2 := Lib.hid (next_ok R bw v1 cv3 y r (l ++ [o]) w5.drew (HZ.out.1.new hD5.out) (by omega))
  have HB2 := Lib.hid (fun w => (bytesOf_any y m hm100 w).mono fun e w' h => (by unfold BoP at h; rw [HY.out] at h; exact h : (∃ g, e = .returned (.slice (some ⟨g, 0, none⟩) m m) ∧ w.heap.size ≤ g ∧ Blk w' g 5 (bvs bs).toArray) ∧ Below w.heap.size w w'))
  have HM := Lib.hid (And.intro (bxV_ok y m bs HY.out) hm100)
  have c5 := (cell_of_row _ _ 257 _ _ _ HZ.out.1.1).trans (krC_code _ _)
  clear c2 f2 hm100
  refine wp_region_held_drew (S := fun _ => True) (by as_aux_lemma => kernel_rfl) trivial (fun hHeld => ?_)
  simp only [List.size_toArray, List.length_cons, List.length_nil, Nat.reduceAdd, Array.replicate_succ, Array.replicate_zero, List.push_toArray, List.nil_append, List.cons_append]
  refine wpAnyH_take (i := 0) (oi := { dst := some 50, op := Op.move (Operand.tmp 0), type := 114, pos := "reader.go:62", after := #[], guard := none }) (v := ?vq0) rfl (by as_aux_lemma => kernel_rfl) (by as_aux_lemma => kernel_rfl) (by as_aux_lemma => kernel_rfl) (fun _ _ _ h => h) (Or.inl ⟨by rfl, ?yq0⟩) (by assumption) ?rq0
  case yq0 => (intro w hSw; (try dsimp only at hSw); go_simp <;> with_reducible rfl)
  simp only [Act.put, List.setIfInBounds_toArray, List.set_cons_zero, List.set_cons_succ]
  refine wpAnyH_take (i := 1) (oi := { dst := some 51, op := Op.move (Operand.tmp 0), type := 114, pos := "reader.go:62", after := #[], guard := none }) (v := ?vq1) rfl (by as_aux_lemma => kernel_rfl) (by as_aux_lemma => kernel_rfl) (by as_aux_lemma => kernel_rfl) (fun _ _ _ h => h) (Or.inl ⟨by rfl, ?yq1⟩) (by assumption) ?rq1
  case yq1 => (intro w hSw; (try dsimp only at hSw); go_simp <;> with_reducible rfl)
  simp only [Act.put, List.setIfInBounds_toArray, List.set_cons_zero, List.set_cons_succ]
  refine wpAnyH_take (i := 2) (oi := { dst := some 52, op := Op.nilCheck (Operand.tmp 51), type := 0, pos := "reader.go:62", after := #[{ on := 1, ground := Ground.data }], guard := none }) (v := ?vq2) rfl (by as_aux_lemma => kernel_rfl) (by as_aux_lemma => kernel_rfl) (by as_aux_lemma => kernel_rfl) (fun _ _ _ h => h) (Or.inl ⟨by rfl, ?yq2⟩) (by assumption) ?rq2
  case yq2 => (intro w hSw; (try dsimp only at hSw); go_simp <;> with_reducible rfl)
  simp only [Act.put, List.setIfInBounds_toArray, List.set_cons_zero, List.set_cons_succ]
  refine wpAnyH_take (i := 3) (oi := { dst := some 53, op := Op.fieldAddr 105 (Operand.tmp 52) 2, type := 0, pos := "reader.go:62", after := #[{ on := 2, ground := Ground.data }], guard := none }) (v := ?vq3) rfl (by as_aux_lemma => kernel_rfl) (by as_aux_lemma => kernel_rfl) (by as_aux_lemma => kernel_rfl) (fun _ _ _ h => h) (Or.inl ⟨by rfl, ?yq3⟩) (by assumption) ?rq3
  case yq3 => (intro w hSw; (try dsimp only at hSw); go_simp <;> with_reducible rfl)
  simp only [Act.put, List.setIfInBounds_toArray, List.set_cons_zero, List.set_cons_succ]
  refine wpAnyH_take (i := 5) (oi := { dst := some 55, op := Op.move (Operand.tmp 0), type := 114, pos := "reader.go:62", after := #[], guard := none }) (v := ?vq4) rfl (by as_aux_lemma => kernel_rfl) (by as_aux_lemma => kernel_rfl) (by as_aux_lemma => kernel_rfl) (fun _ _ _ h => h) (Or.inl ⟨by rfl, ?yq4⟩) (by assumption) ?rq4
  case yq4 => (intro w hSw; (try dsimp only at hSw); go_simp <;> with_reducible rfl)
  simp only [Act.put, List.setIfInBounds_toArray, List.set_cons_zero, List.set_cons_succ]
  refine wpAnyH_take (i := 6) (oi := { dst := some 56, op := Op.nilCheck (Operand.tmp 55), type := 0, pos := "reader.go:62", after := #[{ on := 5, ground := Ground.data }], guard := none }) (v := ?vq5) rfl (by as_aux_lemma => kernel_rfl) (by as_aux_lemma => kernel_rfl) (by as_aux_lemma => kernel_rfl) (fun _ _ _ h => h) (Or.inl ⟨by rfl, ?yq5⟩) (by assumption) ?rq5
  case yq5 => (intro w hSw; (try dsimp only at hSw); go_simp <;> with_reducible rfl)
  simp only [Act.put, List.setIfInBounds_toArray, List.set_cons_zero, List.set_cons_succ]
  refine wpAnyH_take (i := 7) (oi := { dst := some 57, op := Op.fieldAddr 105 (Operand.tmp 56) 0, type := 0, pos := "reader.go:62", after := #[{ on := 6, ground := Ground.data }], guard := none }) (v := ?vq6) rfl (by as_aux_lemma => kernel_rfl) (by as_aux_lemma => kernel_rfl) (by as_aux_lemma => kernel_rfl) (fun _ _ _ h => h) (Or.inl ⟨by rfl, ?yq6⟩) (by assumption) ?rq6
  case yq6 => (intro w hSw; (try dsimp only at hSw); go_simp <;> with_reducible rfl)
  simp only [Act.put, List.setIfInBounds_toArray, List.set_cons_zero, List.set_cons_succ]
  refine wpAnyH_take (i := 9) (oi := { dst := some 59, op := Op.move (Operand.tmp 6), type := 3, pos := "reader.go:62", after := #[], guard := none }) (v := ?vq7) rfl (by as_aux_lemma => kernel_rfl) (by as_aux_lemma => kernel_rfl) (by as_aux_lemma => kernel_rfl) (fun _ _ _ h => h) (Or.inl ⟨by rfl, ?yq7⟩) (by assumption) ?rq7
  case yq7 => (intro w hSw; (try dsimp only at hSw); go_simp <;> with_reducible rfl)
  simp only [Act.put, List.setIfInBounds_toArray, List.set_cons_zero, List.set_cons_succ]
  refine wpAnyH_ready (rs := [4, 8]) (by as_aux_lemma => kernel_rfl) (by simp) ?_
  refine AllReadyH.cons (o := { dst := some 54, op := Op.load 32 (Operand.tmp 53), type := 32, pos := "reader.go:62", after := #[{ on := 3, ground := Ground.data }], guard := none }) rfl (fun K hK => ?_) ?_
  · rw [if_pos (by rfl)]
    go_simp
    refine hK.out _ _ (by (try dsimp only); (try trivial)) (fun hHeld => ?_)
    clear hK K
    simp only [List.setIfInBounds_toArray, List.set_cons_zero, List.set_cons_succ]
    refine wpAnyH_ready (rs := [8]) (by as_aux_lemma => kernel_rfl) (by simp) ?_
    refine AllReadyH.cons (o := { dst := some 58, op := Op.call { callee := Callee.value (Operand.func 79), args := #[Operand.tmp 57], argTypes := #[103] }, type := 9, pos := "reader.go:62", after := #[{ on := 7, ground := Ground.data }], guard := none }) rfl (fun K hK => ?_) (by exact AllReadyH.nil)
    rw [if_pos (by rfl)]
    go_simp
    refine (HN2.out).mono ?_
    rintro e w6 ⟨rfl, v2, h2, hg2⟩
    have c6 := (cell_of_row _ _ 257 _ _ _ h2.1).trans (krC_code _ _)
    have H2 := Lib.hid (And.intro h2 ((hD5.out.mono (by have := HZ.out.1.1.lt; omega)).trans (grown_below hg2 (by have := HZ.out.1.1.lt; have := hD5.out.size; omega))))
    clear h2 hg2
    refine hK.out _ _ (by (try dsimp only); (try trivial)) (fun hHeld => ?_)
    clear hK K
    simp only [List.setIfInBounds_toArray, List.set_cons_zero, List.set_cons_succ]
    refine wpAnyH_ready (rs := [10]) (by as_aux_lemma => kernel_rfl) (by simp) ?_
    refine AllReadyH.cons (o := { dst := some 60, op := Op.call { callee := Callee.value (Operand.func 80), args := #[Operand.tmp 58, Operand.tmp 59], argTypes := #[9, 3] }, type := 32, pos := "reader.go:62", after := #[{ on := 8, ground := Ground.data }, { on := 9, ground := Ground.data }, { on := 8, ground := Ground.chain }], guard := none }) rfl (fun K hK => ?_) (by exact AllReadyH.nil)
    rw [if_pos (by rfl)]
    go_simp
    refine (HB2.out _).mono ?_
    rintro e w7 ⟨⟨g7, rfl, hg7, hb7⟩, h7⟩
    have H7 := H2.out.1.new h7
    have h7R := H7.1.lt
    have c7 := (cell_of_row _ _ 257 _ _ _ H7.1).trans (krC_code _ _)
    have hbt7 := Bto.of_blk hb7 HM.out.1.2 (by rw [HM.out.1.1]; have := HM.out.2; omega)
    rw [HM.out.1.1] at hbt7
    obtain ⟨y8, n8, c8, w8, hrun, hO8, hG8⟩ := run_app (R + 1) cv3 (l ++ [o]) H7.2.2.1 w7.heap.size _ bs hbt7 (by intro n c e; cases e) (by rw [HM.out.1.1, List.length_append]; have := HM.out.2; have := H5.out.1; simp; omega) (by omega)
    have hB8 := RdS.blk H7 (Below.refl _ _) hG8
    have c8' := (cell_of_row _ _ 257 _ _ _ hB8).trans (krC_code _ _)
    have f8 := frozen_of_row _ _ 257 _ _ hB8
    have HE := Lib.hid (RdS.setc H7 (Below.refl _ _) hG8 hO8)
    have HE2 := Lib.hid (HF.out.2.trans (HZ.out.2.trans (H2.out.2.trans ((h7.mono (by have := H2.out.1.1.lt; omega)).trans HE.out.2))))
    clear hg7 hb7 h7 H7 hbt7 hO8 hG8 hB8
    refine hK.out _ _ (by (try dsimp only); (try trivial)) (fun hHeld => ?_)
    clear hK K
    simp only [List.setIfInBounds_toArray, List.set_cons_zero, List.set_cons_succ]
    refine wpAnyH_ready (rs := [11]) (by as_aux_lemma => kernel_rfl) (by simp) ?_
    refine AllReadyH.cons (o := { dst := some 61, op := Op.call { callee := Callee.builtin Builtin.append, args := #[Operand.tmp 54, Operand.tmp 60], argTypes := #[32, 32] }, type := 32, pos := "reader.go:62", after := #[{ on := 4, ground := Ground.data }, { on := 10, ground := Ground.data }, { on := 10, ground := Ground.chain }], guard := none }) rfl (fun K hK => ?_) (by exact AllReadyH.nil)
    rw [if_pos (by rfl)]
    refine wp_app_run (.tmp 54) (.tmp 60) 32 rfl rfl rfl hrun ?_
    refine hK.out _ _ (by (try dsimp only); (try trivial)) (fun hHeld => ?_)
    clear hK K
    simp only [List.setIfInBounds_toArray, List.set_cons_zero, List.set_cons_succ]
    refine wpAnyH_take (i := 12) (oi := { dst := some 62, op := Op.nilCheck (Operand.tmp 50), type := 0, pos := "reader.go:62", after := #[{ on := 0, ground := Ground.data }, { on := 0, ground := Ground.phase }, { on := 1, ground := Ground.phase }, { on := 2, ground := Ground.phase }, { on := 3, ground := Ground.phase }, { on := 4, ground := Ground.phase }, { on := 5, ground := Ground.phase }, { on := 6, ground := Ground.phase }, { on := 7, ground := Ground.phase }, { on := 8, ground := Ground.phase }, { on := 9, ground := Ground.phase }, { on := 10, ground := Ground.phase }, { on := 11, ground := Ground.phase }], guard := none }) (v := ?vq12) rfl (by as_aux_lemma => kernel_rfl) (by as_aux_lemma => kernel_rfl) (by as_aux_lemma => kernel_rfl) (fun _ _ _ h => h) (Or.inl ⟨by rfl, ?yq12⟩) (by assumption) ?rq12
    case yq12 => (intro w hSw; (try dsimp only at hSw); go_simp <;> with_reducible rfl)
    simp only [Act.put, List.setIfInBounds_toArray, List.set_cons_zero, List.set_cons_succ]
    refine wpAnyH_take (i := 13) (oi := { dst := some 63, op := Op.fieldAddr 105 (Operand.tmp 62) 2, type := 0, pos := "reader.go:62", after := #[{ on := 12, ground := Ground.data }, { on := 0, ground := Ground.phase }, { on := 1, ground := Ground.phase }, { on := 2, ground := Ground.phase }, { on := 3, ground := Ground.phase }, { on := 4, ground := Ground.phase }, { on := 5, ground := Ground.phase }, { on := 6, ground := Ground.phase }, { on := 7, ground := Ground.phase }, { on := 8, ground := Ground.phase }, { on := 9, ground := Ground.phase }, { on := 10, ground := Ground.phase }, { on := 11, ground := Ground.phase }], guard := none }) (v := ?vq13) rfl (by as_aux_lemma => kernel_rfl) (by as_aux_lemma => kernel_rfl) (by as_aux_lemma => kernel_rfl) (fun _ _ _ h => h) (Or.inl ⟨by rfl, ?yq13⟩) (by assumption) ?rq13
    case yq13 => (intro w hSw; (try dsimp only at hSw); go_simp <;> with_reducible rfl)
    simp only [Act.put, List.setIfInBounds_toArray, List.set_cons_zero, List.set_cons_succ]
    refine wpAnyH_ready (rs := [14]) (by as_aux_lemma => kernel_rfl) (by simp) ?_
    refine AllReadyH.cons (o := { dst := none, op := Op.store 32 (Operand.tmp 63) (Operand.tmp 61), type := 0, pos := "reader.go:62", after := #[{ on := 13, ground := Ground.data }, { on := 11, ground := Ground.data }, { on := 11, ground := Ground.chain }, { on := 0, ground := Ground.phase }, { on := 1, ground := Ground.phase }, { on := 2, ground := Ground.phase }, { on := 3, ground := Ground.phase }, { on := 4, ground := Ground.phase }, { on := 5, ground := Ground.phase }, { on := 6, ground := Ground.phase }, { on := 7, ground := Ground.phase }, { on := 8, ground := Ground.phase }, { on := 9, ground := Ground.phase }, { on := 10, ground := Ground.phase }, { on := 11, ground := Ground.phase }], guard := none }) rfl (fun K hK => ?_) (by exact AllReadyH.nil)
    rw [if_pos (by rfl)]
    go_simp
    refine hK.out _ _ (by (try dsimp only); (try trivial)) (fun hHeld => ?_)
    clear hK K
    simp only [List.setIfInBounds_toArray, List.set_cons_zero, List.set_cons_succ]
    refine wpAnyH_done (by as_aux_lemma => kernel_rfl) ?_ _
    clear hrun
    have HG := Lib.hid (show l ++ [o] ++ bs = l ++ (o :: bs) by simp)
    go_wp2_with fail
    go_end0
    exact ⟨rfl, _, _, (by rw [← HG.out]; exact HE.out.1), HE2.out⟩
  refine AllReadyH.cons (o := { dst := some 58, op := Op.call { callee := Callee.value (Operand.func 79), args := #[Operand.tmp 57], argTypes := #[103] }, type := 9, pos := "reader.go:62", after := #[{ on := 7, ground := Ground.data }], guard := none }) rfl (fun K hK => ?_) (by exact AllReadyH.nil)
  rw [if_pos (by rfl)]
  go_simp
  refine (HN2.out).mono ?_
  rintro e w6 ⟨rfl, v2, h2, hg2⟩
  have c6 := (cell_of_row _ _ 257 _ _ _ h2.1).trans (krC_code _ _)
  have H2 := Lib.hid (And.intro h2 ((hD5.out.mono (by have := HZ.out.1.1.lt; omega)).trans (grown_below hg2 (by have := HZ.out.1.1.lt; have := hD5.out.size; omega))))
  clear h2 hg2
  refine hK.out _ _ (by (try dsimp only); (try trivial)) (fun hHeld => ?_)
  clear hK K
  simp only [List.setIfInBounds_toArray, List.set_cons_zero, List.set_cons_succ]
  refine wpAnyH_ready (rs := [4, 10]) (by as_aux_lemma => kernel_rfl) (by simp) ?_
  refine AllReadyH.cons (o := { dst := some 54, op := Op.load 32 (Operand.tmp 53), type := 32, pos := "reader.go:62", after := #[{ on := 3, ground := Ground.data }], guard := none }) rfl (fun K hK => ?_) ?_
  · rw [if_pos (by rfl)]
    go_simp
    refine hK.out _ _ (by (try dsimp only); (try trivial)) (fun hHeld => ?_)
    clear hK K
    simp only [List.setIfInBounds_toArray, List.set_cons_zero, List.set_cons_succ]
    refine wpAnyH_ready (rs := [10]) (by as_aux_lemma => kernel_rfl) (by simp) ?_
    refine AllReadyH.cons (o := { dst := some 60, op := Op.call { callee := Callee.value (Operand.func 80), args := #[Operand.tmp 58, Operand.tmp 59], argTypes := #[9, 3] }, type := 32, pos := "reader.go:62", after := #[{ on := 8, ground := Ground.data }, { on := 9, ground := Ground.data }, { on := 8, ground := Ground.chain }], guard := none }) rfl (fun K hK => ?_) (by exact AllReadyH.nil)
    rw [if_pos (by rfl)]
    go_simp
    refine (HB2.out _).mono ?_
    rintro e w7 ⟨⟨g7, rfl, hg7, hb7⟩, h7⟩
    have H7 := H2.out.1.new h7
    have h7R := H7.1.lt
    have c7 := (cell_of_row _ _ 257 _ _ _ H7.1).trans (krC_code _ _)
    have hbt7 := Bto.of_blk hb7 HM.out.1.2 (by rw [HM.out.1.1]; have := HM.out.2; omega)
    rw [HM.out.1.1] at hbt7
    obtain ⟨y8, n8, c8, w8, hrun, hO8, hG8⟩ := run_app (R + 1) cv3 (l ++ [o]) H7.2.2.1 w7.heap.size _ bs hbt7 (by intro n c e; cases e) (by rw [HM.out.1.1, List.length_append]; have := HM.out.2; have := H5.out.1; simp; omega) (by omega)
    have hB8 := RdS.blk H7 (Below.refl _ _) hG8
    have c8' := (cell_of_row _ _ 257 _ _ _ hB8).trans (krC_code _ _)
    have f8 := frozen_of_row _ _ 257 _ _ hB8
    have HE := Lib.hid (RdS.setc H7 (Below.refl _ _) hG8 hO8)
    have HE2 := Lib.hid (HF.out.2.trans (HZ.out.2.trans (H2.out.2.trans ((h7.mono (by have := H2.out.1.1.lt; omega)).trans HE.out.2))))
    clear hg7 hb7 h7 H7 hbt7 hO8 hG8 hB8
    refine hK.out _ _ (by (try dsimp only); (try trivial)) (fun hHeld => ?_)
    clear hK K
    simp only [List.setIfInBounds_toArray, List.set_cons_zero, List.set_cons_succ]
    refine wpAnyH_ready (rs := [11]) (by as_aux_lemma => kernel_rfl) (by simp) ?_
    refine AllReadyH.cons (o := { dst := some 61, op := Op.call { callee := Callee.builtin Builtin.append, args := #[Operand.tmp 54, Operand.tmp 60], argTypes := #[32, 32] }, type := 32, pos := "reader.go:62", after := #[{ on := 4, ground := Ground.data }, { on := 10, ground := Ground.data }, { on := 10, ground := Ground.chain }], guard := none }) rfl (fun K hK => ?_) (by exact AllReadyH.nil)
    rw [if_pos (by rfl)]
    refine wp_app_run (.tmp 54) (.tmp 60) 32 rfl rfl rfl hrun ?_
    refine hK.out _ _ (by (try dsimp only); (try trivial)) (fun hHeld => ?_)
    clear hK K
    simp only [List.setIfInBounds_toArray, List.set_cons_zero, List.set_cons_succ]
    refine wpAnyH_take (i := 12) (oi := { dst := some 62, op := Op.nilCheck (Operand.tmp 50), type := 0, pos := "reader.go:62", after := #[{ on := 0, ground := Ground.data }, { on := 0, ground := Ground.phase }, { on := 1, ground := Ground.phase }, { on := 2, ground := Ground.phase }, { on := 3, ground := Ground.phase }, { on := 4, ground := Ground.phase }, { on := 5, ground := Ground.phase }, { on := 6, ground := Ground.phase }, { on := 7, ground := Ground.phase }, { on := 8, ground := Ground.phase }, { on := 9, ground := Ground.phase }, { on := 10, ground := Ground.phase }, { on := 11, ground := Ground.phase }], guard := none }) (v := ?vq19) rfl (by as_aux_lemma => kernel_rfl) (by as_aux_lemma => kernel_rfl) (by as_aux_lemma => kernel_rfl) (fun _ _ _ h => h) (Or.inl ⟨by rfl, ?yq19⟩) (by assumption) ?rq19
    case yq19 => (intro w hSw; (try dsimp only at hSw); go_simp <;> with_reducible rfl)
    simp only [Act.put, List.setIfInBounds_toArray, List.set_cons_zero, List.set_cons_succ]
    refine wpAnyH_take (i := 13) (oi := { dst := some 63, op := Op.fieldAddr 105 (Operand.tmp 62) 2, type := 0, pos := "reader.go:62", after := #[{ on := 12, ground := Ground.data }, { on := 0, ground := Ground.phase }, { on := 1, ground := Ground.phase }, { on := 2, ground := Ground.phase }, { on := 3, ground := Ground.phase }, { on := 4, ground := Ground.phase }, { on := 5, ground := Ground.phase }, { on := 6, ground := Ground.phase }, { on := 7, ground := Ground.phase }, { on := 8, ground := Ground.phase }, { on := 9, ground := Ground.phase }, { on := 10, ground := Ground.phase }, { on := 11, ground := Ground.phase }], guard := none }) (v := ?vq20) rfl (by as_aux_lemma => kernel_rfl) (by as_aux_lemma => kernel_rfl) (by as_aux_lemma => kernel_rfl) (fun _ _ _ h => h) (Or.inl ⟨by rfl, ?yq20⟩) (by assumption) ?rq20
    case yq20 => (intro w hSw; (try dsimp only at hSw); go_simp <;> with_reducible rfl)
    simp only [Act.put, List.setIfInBounds_toArray, List.set_cons_zero, List.set_cons_succ]
    refine wpAnyH_ready (rs := [14]) (by as_aux_lemma => kernel_rfl) (by simp) ?_
    refine AllReadyH.cons (o := { dst := none, op := Op.store 32 (Operand.tmp 63) (Operand.tmp 61), type := 0, pos := "reader.go:62", after := #[{ on := 13, ground := Ground.data }, { on := 11, ground := Ground.data }, { on := 11, ground := Ground.chain }, { on := 0, ground := Ground.phase }, { on := 1, ground := Ground.phase }, { on := 2, ground := Ground.phase }, { on := 3, ground := Ground.phase }, { on := 4, ground := Ground.phase }, { on := 5, ground := Ground.phase }, { on := 6, ground := Ground.phase }, { on := 7, ground := Ground.phase }, { on := 8, ground := Ground.phase }, { on := 9, ground := Ground.phase }, { on := 10, ground := Ground.phase }, { on := 11, ground := Ground.phase }], guard := none }) rfl (fun K hK => ?_) (by exact AllReadyH.nil)
    rw [if_pos (by rfl)]
    go_simp
    refine hK.out _ _ (by (try dsimp only); (try trivial)) (fun hHeld => ?_)
    clear hK K
    simp only [List.setIfInBounds_toArray, List.set_cons_zero, List.set_cons_succ]
    refine wpAnyH_done (by as_aux_lemma => kernel_rfl) ?_ _
    clear hrun
    have HG := Lib.hid (show l ++ [o] ++ bs = l ++ (o :: bs) by simp)
    go_wp2_with fail
    go_end0
    exact ⟨rfl, _, _, (by rw [← HG.out]; exact HE.out.1), HE2.out⟩
  refine AllReadyH.cons (o := { dst := some 60, op := Op.call { callee := Callee.value (Operand.func 80), args := #[Operand.tmp 58, Operand.tmp 59], argTypes := #[9, 3] }, type := 32, pos := "reader.go:62", after := #[{ on := 8, ground := Ground.data }, { on := 9, ground := Ground.data }, { on := 8, ground := Ground.chain }], guard := none }) rfl (fun K hK => ?_) (by exact AllReadyH.nil)
  rw [if_pos (by rfl)]
  go_simp
  refine (HB2.out _).mono ?_
  rintro e w7 ⟨⟨g7, rfl, hg7, hb7⟩, h7⟩
  have H7 := H2.out.1.new h7
  have h7R := H7.1.lt
  have c7 := (cell_of_row _ _ 257 _ _ _ H7.1).trans (krC_code _ _)
  have hbt7 := Bto.of_blk hb7 HM.out.1.2 (by rw [HM.out.1.1]; have := HM.out.2; omega)
  rw [HM.out.1.1] at hbt7
  obtain ⟨y8, n8, c8, w8, hrun, hO8, hG8⟩ := run_app (R + 1) cv3 (l ++ [o]) H7.2.2.1 w7.heap.size _ bs hbt7 (by intro n c e; cases e) (by rw [HM.out.1.1, List.length_append]; have := HM.out.2; have := H5.out.1; simp; omega) (by omega)
  have hB8 := RdS.blk H7 (Below.refl _ _) hG8
  have c8' := (cell_of_row _ _ 257 _ _ _ hB8).trans (krC_code _ _)
  have f8 := frozen_of_row _ _ 257 _ _ hB8
  have HE := Lib.hid (RdS.setc H7 (Below.refl _ _) hG8 hO8)
  have HE2 := Lib.hid (HF.out.2.trans (HZ.out.2.trans (H2.out.2.trans ((h7.mono (by have := H2.out.1.1.lt; omega)).trans HE.out.2))))
  clear hg7 hb7 h7 H7 hbt7 hO8 hG8 hB8
  refine hK.out _ _ (by (try dsimp only); (try trivial)) (fun hHeld => ?_)
  clear hK K
  simp only [List.setIfInBounds_toArray, List.set_cons_zero, List.set_cons_succ]
  refine wpAnyH_ready (rs := [4]) (by as_aux_lemma => kernel_rfl) (by simp) ?_
  refine AllReadyH.cons (o := { dst := some 54, op := Op.load 32 (Operand.tmp 53), type := 32, pos := "reader.go:62", after := #[{ on := 3, ground := Ground.data }], guard := none }) rfl (fun K hK => ?_) (by exact AllReadyH.nil)
  rw [if_pos (by rfl)]
  go_simp
  refine hK.out _ _ (by (try dsimp only); (try trivial)) (fun hHeld => ?_)
  clear hK K
  simp only [List.setIfInBounds_toArray, List.set_cons_zero, List.set_cons_succ]
  refine wpAnyH_ready (rs := [11]) (by as_aux_lemma => kernel_rfl) (by simp) ?_
  refine AllReadyH.cons (o := { dst := some 61, op := Op.call { callee := Callee.builtin Builtin.append, args := #[Operand.tmp 54, Operand.tmp 60], argTypes := #[32, 32] }, type := 32, pos := "reader.go:62", after := #[{ on := 4, ground := Ground.data }, { on := 10, ground := Ground.data }, { on := 10, ground := Ground.chain }], guard := none }) rfl (fun K hK => ?_) (by exact AllReadyH.nil)
  rw [if_pos (by rfl)]
  refine wp_app_run (.tmp 54) (.tmp 60) 32 rfl rfl rfl hrun ?_
  refine hK.out _ _ (by (try dsimp only); (try trivial)) (fun hHeld => ?_)
  clear hK K
  simp only [List.setIfInBounds_toArray, List.set_cons_zero, List.set_cons_succ]
  refine wpAnyH_take (i := 12) (oi := { dst := some 62, op := Op.nilCheck (Operand.tmp 50), type := 0, pos := "reader.go:62", after := #[{ on := 0, ground := Ground.data }, { on := 0, ground := Ground.phase }, { on := 1, ground := Ground.phase }, { on := 2, ground := Ground.phase }, { on := 3, ground := Ground.phase }, { on := 4, ground := Ground.phase }, { on := 5, ground := Ground.phase }, { on := 6, ground := Ground.phase }, { on := 7, ground := Ground.phase }, { on := 8, ground := Ground.phase }, { on := 9, ground := Ground.phase }, { on := 10, ground := Ground.phase }, { on := 11, ground := Ground.phase }], guard := none }) (v := ?vq25) rfl (by as_aux_lemma => kernel_rfl) (by as_aux_lemma => kernel_rfl) (by as_aux_lemma => kernel_rfl) (fun _ _ _ h => h) (Or.inl ⟨by rfl, ?yq25⟩) (by assumption) ?rq25
  case yq25 => (intro w hSw; (try dsimp only at hSw); go_simp <;> with_reducible rfl)
  simp only [Act.put, List.setIfInBounds_toArray, List.set_cons_zero, List.set_cons_succ]
  refine wpAnyH_take (i := 13) (oi := { dst := some 63, op := Op.fieldAddr 105 (Operand.tmp 62) 2, type := 0, pos := "reader.go:62", after := #[{ on := 12, ground := Ground.data }, { on := 0, ground := Ground.phase }, { on := 1, ground := Ground.phase }, { on := 2, ground := Ground.phase }, { on := 3, ground := Ground.phase }, { on := 4, ground := Ground.phase }, { on := 5, ground := Ground.phase }, { on := 6, ground := Ground.phase }, { on := 7, ground := Ground.phase }, { on := 8, ground := Ground.phase }, { on := 9, ground := Ground.phase }, { on := 10, ground := Ground.phase }, { on := 11, ground := Ground.phase }], guard := none }) (v := ?vq26) rfl (by as_aux_lemma => kernel_rfl) (by as_aux_lemma => kernel_rfl) (by as_aux_lemma => kernel_rfl) (fun _ _ _ h => h) (Or.inl ⟨by rfl, ?yq26⟩) (by assumption) ?rq26
  case yq26 => (intro w hSw; (try dsimp only at hSw); go_simp <;> with_reducible rfl)
  simp only [Act.put, List.setIfInBounds_toArray, List.set_cons_zero, List.set_cons_succ]
  refine wpAnyH_ready (rs := [14]) (by as_aux_lemma => kernel_rfl) (by simp) ?_
  refine AllReadyH.cons (o := { dst := none, op := Op.store 32 (Operand.tmp 63) (Operand.tmp 61), type := 0, pos := "reader.go:62", after := #[{ on := 13, ground := Ground.data }, { on := 11, ground := Ground.data }, { on := 11, ground := Ground.chain }, { on := 0, ground := Ground.phase }, { on := 1, ground := Ground.phase }, { on := 2, ground := Ground.phase }, { on := 3, ground := Ground.phase }, { on := 4, ground := Ground.phase }, { on := 5, ground := Ground.phase }, { on := 6, ground := Ground.phase }, { on := 7, ground := Ground.phase }, { on := 8, ground := Ground.phase }, { on := 9, ground := Ground.phase }, { on := 10, ground := Ground.phase }, { on := 11, ground := Ground.phase }], guard := none }) rfl (fun K hK => ?_) (by exact AllReadyH.nil)
  rw [if_pos (by rfl)]
  go_simp
  refine hK.out _ _ (by (try dsimp only); (try trivial)) (fun hHeld => ?_)
  clear hK K
  simp only [List.setIfInBounds_toArray, List.set_cons_zero, List.set_cons_succ]
  refine wpAnyH_done (by as_aux_lemma => kernel_rfl) ?_ _
  clear hrun
  have HG := Lib.hid (show l ++ [o] ++ bs = l ++ (o :: bs) by simp)
  go_wp2_with fail
  go_end0
  exact ⟨rfl, _, _, (by rw [← HG.out]; exact HE.out.1), HE2.out⟩
set_option maxRecDepth 100000 in
set_option maxHeartbeats 4000000 in
theorem op_name_none (R bw o : Nat) (v cv : Value) (x : ByteArray) (l : List Nat) (w : World) (h : RdS w R bw v (x :: []) cv l) (hl : l.length ≤ 900000) (hn : nb x = true) (ho : nk x = o) (m : Nat) (hz : szO o = m) (hm : 0 < m) : Calls Tryd.prog 72 #[.pointer (some ⟨R, 0, none⟩)] w fun e w' => e = .panicked ch200 ∧ Below R w w' := by
  have hlo : o < 256 := by rw [← ho]; exact nk_lt x
  have hRw := h.1.lt
  have HN := Lib.hid (next_ok R bw v cv x [] l w h (by simp))
  have HFI := Lib.hid (fun (Y : World) (v1 : Value) (hY : RdS Y R bw v1 [] cv l) => find_any R 1 256 x Y (fun j hj => (cell_of_row _ _ (1 + j) _ _ _ hY.1).trans (krC_name _ _ j hj)))
  rw [hn, ho] at HFI
  have g0 : IntKind.u8.wrap (o : Int) = (o : Int) := IntWalk.u8_in _ (by omega)
  have HS := Lib.hid (fun w => size_any o hlo w)
  rw [hz] at HS
  have HL := Lib.hid (And.intro hl hlo)
  have hm100 : m ≤ 100 := by rw [← hz]; unfold szO; split <;> omega
  clear h hn ho
  go_enter Tryd.func72, Tryd.ntmps72
  go_upto_region 6 with (first
    | (go_at_call 79; refine (HN.out).mono ?_; rintro e w1 ⟨rfl, v1, h1, hg1⟩; have H1 := Lib.hid (And.intro h1 hg1); clear h1 hg1)
    | (go_at_call 37; refine (HFI.out _ v1 H1.out.1).mono ?_; rintro e w2 ⟨rfl, rfl⟩)
    | fail)
  have HF := Lib.hid (And.intro H1.out.1 (grown_below H1.out.2 (by omega)))
  clear H1
  have hRf := HF.out.1.1.lt
  have cC := cell_of_row _ _ 257 _ _ _ HF.out.1.1
  rw [krC_code] at cC
  have hBA := Lib.hid (balloc (Below.refl w1.heap.size w1) (.cells #[.int .u8 (o : Nat)] 5))
  have HX := Lib.hid (And.intro (HF.out.1.2.2.1.new hBA.out) (bt_new w1 o HL.out.2))
  go_upto_region 7 with (first
    | (at_builtin; refine wpList_app rfl _ _ rfl (R + 1) l HX.out.1 (w1.heap.size + 1) [o] HX.out.2 ?c1 ?c2 ?_)
    | fail)
  case c1 => have := HL.out.1; simp; omega
  case c2 => simp; omega
  intro y1 c1 w4 hO hG
  have HZ := Lib.hid (RdS.setc HF.out.1 hBA.out hG hO)
  have hB2 := RdS.blk HF.out.1 hBA.out hG
  have c2 := cell_of_row _ _ 257 _ _ _ hB2
  rw [krC_code] at c2
  have f2 := frozen_of_row _ _ 257 _ _ hB2
  clear hO hG hB2 cC hBA HX
  have hmI : (0 : Int) < (m : Int) := by omega
  go_upto_region 9 with (first
    | (go_at_call 65; refine (HS.out _).mono ?_; rintro e w' ⟨rfl, rfl⟩)
    | fail)
  generalize (Value.slice y1 (l.length + 1) c1) = cv3 at *
  generalize w4.setCell ⟨R, 257, none⟩ cv3 = w5 at *
  have hD5 := Lib.hid (below_drew' (Below.refl w5.heap.size w5))
  have H5 := Lib.hid (And.intro HL.out.1 hRf)
  have HN2 := Lib.hid (next_bad R bw v1 cv3 (l ++ [o]) w5.drew (HZ.out.1.new hD5.out))
  have c5 := (cell_of_row _ _ 257 _ _ _ HZ.out.1.1).trans (krC_code _ _)
  clear c2 f2 hm100
  refine wp_region_held_drew (S := fun _ => True) (by as_aux_lemma => kernel_rfl) trivial (fun hHeld => ?_)
  simp only [List.size_toArray, List.length_cons, List.length_nil, Nat.reduceAdd, Array.replicate_succ, Array.replicate_zero, List.push_toArray, List.nil_append, List.cons_append]
  refine wpAnyH_take (i := 0) (oi := { dst := some 50, op := Op.move (Operand.tmp 0), type := 114, pos := "reader.go:62", after := #[], guard := none }) (v := ?vq0) rfl (by as_aux_lemma => kernel_rfl) (by as_aux_lemma => kernel_rfl) (by as_aux_lemma => kernel_rfl) (fun _ _ _ h => h) (Or.inl ⟨by rfl, ?yq0⟩) (by assumption) ?rq0
  case yq0 => (intro w hSw; (try dsimp only at hSw); go_simp <;> with_reducible rfl)
  simp only [Act.put, List.setIfInBounds_toArray, List.set_cons_zero, List.set_cons_succ]
  refine wpAnyH_take (i := 1) (oi := { dst := some 51, op := Op.move (Operand.tmp 0), type := 114, pos := "reader.go:62", after := #[], guard := none }) (v := ?vq1) rfl (by as_aux_lemma => kernel_rfl) (by as_aux_lemma => kernel_rfl) (by as_aux_lemma => kernel_rfl) (fun _ _ _ h => h) (Or.inl ⟨by rfl, ?yq1⟩) (by assumption) ?rq1
  case yq1 => (intro w hSw; (try dsimp only at hSw); go_simp <;> with_reducible rfl)
  simp only [Act.put, List.setIfInBounds_toArray, List.set_cons_zero, List.set_cons_succ]
  refine wpAnyH_take (i := 2) (oi := { dst := some 52, op := Op.nilCheck (Operand.tmp 51), type := 0, pos := "reader.go:62", after := #[{ on := 1, ground := Ground.data }], guard := none }) (v := ?vq2) rfl (by as_aux_lemma => kernel_rfl) (by as_aux_lemma => kernel_rfl) (by as_aux_lemma => kernel_rfl) (fun _ _ _ h => h) (Or.inl ⟨by rfl, ?yq2⟩) (by assumption) ?rq2
  case yq2 => (intro w hSw; (try dsimp only at hSw); go_simp <;> with_reducible rfl)
  simp only [Act.put, List.setIfInBounds_toArray, List.set_cons_zero, List.set_cons_succ]
  refine wpAnyH_take (i := 3) (oi := { dst := some 53, op := Op.fieldAddr 105 (Operand.tmp 52) 2, type := 0, pos := "reader.go:62", after := #[{ on := 2, ground := Ground.data }], guard := none }) (v := ?vq3) rfl (by as_aux_lemma => kernel_rfl) (by as_aux_lemma => kernel_rfl) (by as_aux_lemma => kernel_rfl) (fun _ _ _ h => h) (Or.inl ⟨by rfl, ?yq3⟩) (by assumption) ?rq3
  case yq3 => (intro w hSw; (try dsimp only at hSw); go_simp <;> with_reducible rfl)
  simp only [Act.put, List.setIfInBounds_toArray, List.set_cons_zero, List.set_cons_succ]
  refine wpAnyH_take (i := 5) (oi := { dst := some 55, op := Op.move (Operand.tmp 0), type := 114, pos := "reader.go:62", after := #[], guard := none }) (v := ?vq4) rfl (by as_aux_lemma => kernel_rfl) (by as_aux_lemma => kernel_rfl) (by as_aux_lemma => kernel_rfl) (fun _ _ _ h => h) (Or.inl ⟨by rfl, ?yq4⟩) (by assumption) ?rq4
  case yq4 => (intro w hSw; (try dsimp only at hSw); go_simp <;> with_reducible rfl)
  simp only [Act.put, List.setIfInBounds_toArray, List.set_cons_zero, List.set_cons_succ]
  refine wpAnyH_take (i := 6) (oi := { dst := some 56, op := Op.nilCheck (Operand.tmp 55), type := 0, pos := "reader.go:62", after := #[{ on := 5, ground := Ground.data }], guard := none }) (v := ?vq5) rfl (by as_aux_lemma => kernel_rfl) (by as_aux_lemma => kernel_rfl) (by as_aux_lemma => kernel_rfl) (fun _ _ _ h => h) (Or.inl ⟨by rfl, ?yq5⟩) (by assumption) ?rq5
  case yq5 => (intro w hSw; (try dsimp only at hSw); go_simp <;> with_reducible rfl)
  simp only [Act.put, List.setIfInBounds_toArray, List.set_cons_zero, List.set_cons_succ]
  refine wpAnyH_take (i := 7) (oi := { dst := some 57, op := Op.fieldAddr 105 (Operand.tmp 56) 0, type := 0, pos := "reader.go:62", after := #[{ on := 6, ground := Ground.data }], guard := none }) (v := ?vq6) rfl (by as_aux_lemma => kernel_rfl) (by as_aux_lemma => kernel_rfl) (by as_aux_lemma => kernel_rfl) (fun _ _ _ h => h) (Or.inl ⟨by rfl, ?yq6⟩) (by assumption) ?rq6
  case yq6 => (intro w hSw; (try dsimp only at hSw); go_simp <;> with_reducible rfl)
  simp only [Act.put, List.setIfInBounds_toArray, List.set_cons_zero, List.set_cons_succ]
  refine wpAnyH_take (i := 9) (oi := { dst := some 59, op := Op.move (Operand.tmp 6), type := 3, pos := "reader.go:62", after := #[], guard := none }) (v := ?vq7) rfl (by as_aux_lemma => kernel_rfl) (by as_aux_lemma => kernel_rfl) (by as_aux_lemma => kernel_rfl) (fun _ _ _ h => h) (Or.inl ⟨by rfl, ?yq7⟩) (by assumption) ?rq7
  case yq7 => (intro w hSw; (try dsimp only at hSw); go_simp <;> with_reducible rfl)
  simp only [Act.put, List.setIfInBounds_toArray, List.set_cons_zero, List.set_cons_succ]
  refine wpAnyH_ready (rs := [4, 8]) (by as_aux_lemma => kernel_rfl) (by simp) ?_
  refine AllReadyH.cons (o := { dst := some 54, op := Op.load 32 (Operand.tmp 53), type := 32, pos := "reader.go:62", after := #[{ on := 3, ground := Ground.data }], guard := none }) rfl (fun K hK => ?_) ?_
  · rw [if_pos (by rfl)]
    go_simp
    refine hK.out _ _ (by (try dsimp only); (try trivial)) (fun hHeld => ?_)
    clear hK K
    simp only [List.setIfInBounds_toArray, List.set_cons_zero, List.set_cons_succ]
    refine wpAnyH_ready (rs := [8]) (by as_aux_lemma => kernel_rfl) (by simp) ?_
    refine AllReadyH.cons (o := { dst := some 58, op := Op.call { callee := Callee.value (Operand.func 79), args := #[Operand.tmp 57], argTypes := #[103] }, type := 9, pos := "reader.go:62", after := #[{ on := 7, ground := Ground.data }], guard := none }) rfl (fun K hK => ?_) (by exact AllReadyH.nil)
    rw [if_pos (by rfl)]
    go_simp
    refine (HN2.out).mono ?_
    rintro e w6 ⟨rfl, rfl⟩
    exact ⟨rfl, rfl, HF.out.2.trans (HZ.out.2.trans (hD5.out.mono (by have := HZ.out.1.1.lt; omega)))⟩
  refine AllReadyH.cons (o := { dst := some 58, op := Op.call { callee := Callee.value (Operand.func 79), args := #[Operand.tmp 57], argTypes := #[103] }, type := 9, pos := "reader.go:62", after := #[{ on := 7, ground := Ground.data }], guard := none }) rfl (fun K hK => ?_) (by exact AllReadyH.nil)
  rw [if_pos (by rfl)]
  go_simp
  refine (HN2.out).mono ?_
  rintro e w6 ⟨rfl, rfl⟩
  exact ⟨rfl, rfl, HF.out.2.trans (HZ.out.2.trans (hD5.out.mono (by have := HZ.out.1.1.lt; omega)))⟩
set_option maxRecDepth 100000 in
set_option maxHeartbeats 4000000 in
theorem op_name_fail (R bw o : Nat) (v cv : Value) (x y : ByteArray) (r : List ByteArray) (l : List Nat) (w : World) (h : RdS w R bw v (x :: (y :: r)) cv l) (hr : r.length ≤ 900000) (hl : l.length ≤ 900000) (hn : nb x = true) (ho : nk x = o) (m : Nat) (hz : szO o = m) (hm : 0 < m) (hy : bxV y m = none) : Calls Tryd.prog 72 #[.pointer (some ⟨R, 0, none⟩)] w fun e w' => e = .panicked ch200 ∧ Below R w w' := by
  have hlo : o < 256 := by rw [← ho]; exact nk_lt x
  have hRw := h.1.lt
  have HN := Lib.hid (next_ok R bw v cv x (y :: r) l w h (by simp; omega))
  have HFI := Lib.hid (fun (Y : World) (v1 : Value) (hY : RdS Y R bw v1 (y :: r) cv l) => find_any R 1 256 x Y (fun j hj => (cell_of_row _ _ (1 + j) _ _ _ hY.1).trans (krC_name _ _ j hj)))
  rw [hn, ho] at HFI
  have g0 : IntKind.u8.wrap (o : Int) = (o : Int) := IntWalk.u8_in _ (by omega)
  have HS := Lib.hid (fun w => size_any o hlo w)
  rw [hz] at HS
  have HL := Lib.hid (And.intro hl hlo)
  have hm100 : m ≤ 100 := by rw [← hz]; unfold szO; split <;> omega
  have HY := Lib.hid hy
  clear hy
  clear h hn ho
  go_enter Tryd.func72, Tryd.ntmps72
  go_upto_region 6 with (first
    | (go_at_call 79; refine (HN.out).mono ?_; rintro e w1 ⟨rfl, v1, h1, hg1⟩; have H1 := Lib.hid (And.intro h1 hg1); clear h1 hg1)
    | (go_at_call 37; refine (HFI.out _ v1 H1.out.1).mono ?_; rintro e w2 ⟨rfl, rfl⟩)
    | fail)
  have HF := Lib.hid (And.intro H1.out.1 (grown_below H1.out.2 (by omega)))
  clear H1
  have hRf := HF.out.1.1.lt
  have cC := cell_of_row _ _ 257 _ _ _ HF.out.1.1
  rw [krC_code] at cC
  have hBA := Lib.hid (balloc (Below.refl w1.heap.size w1) (.cells #[.int .u8 (o : Nat)] 5))
  have HX := Lib.hid (And.intro (HF.out.1.2.2.1.new hBA.out) (bt_new w1 o HL.out.2))
  go_upto_region 7 with (first
    | (at_builtin; refine wpList_app rfl _ _ rfl (R + 1) l HX.out.1 (w1.heap.size + 1) [o] HX.out.2 ?c1 ?c2 ?_)
    | fail)
  case c1 => have := HL.out.1; simp; omega
  case c2 => simp; omega
  intro y1 c1 w4 hO hG
  have HZ := Lib.hid (RdS.setc HF.out.1 hBA.out hG hO)
  have hB2 := RdS.blk HF.out.1 hBA.out hG
  have c2 := cell_of_row _ _ 257 _ _ _ hB2
  rw [krC_code] at c2
  have f2 := frozen_of_row _ _ 257 _ _ hB2
  clear hO hG hB2 cC hBA HX
  have hmI : (0 : Int) < (m : Int) := by omega
  go_upto_region 9 with (first
    | (go_at_call 65; refine (HS.out _).mono ?_; rintro e w' ⟨rfl, rfl⟩)
    | fail)
  generalize (Value.slice y1 (l.length + 1) c1) = cv3 at *
  generalize w4.setCell ⟨R, 257, none⟩ cv3 = w5 at *
  have hD5 := Lib.hid (below_drew' (Below.refl w5.heap.size w5))
  have H5 := Lib.hid (And.intro HL.out.1 hRf)
  have HN2 := Lib.hid (next_ok R bw v1 cv3 y r (l ++ [o]) w5.drew (HZ.out.1.new hD5.out) (by omega))
  have HB2 := Lib.hid (fun w => (bytesOf_any y m hm100 w).mono fun e w' h => (by unfold BoP at h; rw [HY.out] at h; exact h : e = .panicked ch200 ∧ Below w.heap.size w w'))
  have c5 := (cell_of_row _ _ 257 _ _ _ HZ.out.1.1).trans (krC_code _ _)
  clear c2 f2 hm100
  refine wp_region_held_drew (S := fun _ => True) (by as_aux_lemma => kernel_rfl) trivial (fun hHeld => ?_)
  simp only [List.size_toArray, List.length_cons, List.length_nil, Nat.reduceAdd, Array.replicate_succ, Array.replicate_zero, List.push_toArray, List.nil_append, List.cons_append]
  refine wpAnyH_take (i := 0) (oi := { dst := some 50, op := Op.move (Operand.tmp 0), type := 114, pos := "reader.go:62", after := #[], guard := none }) (v := ?vq0) rfl (by as_aux_lemma => kernel_rfl) (by as_aux_lemma => kernel_rfl) (by as_aux_lemma => kernel_rfl) (fun _ _ _ h => h) (Or.inl ⟨by rfl, ?yq0⟩) (by assumption) ?rq0
  case yq0 => (intro w hSw; (try dsimp only at hSw); go_simp <;> with_reducible rfl)
  simp only [Act.put, List.setIfInBounds_toArray, List.set_cons_zero, List.set_cons_succ]
  refine wpAnyH_take (i := 1) (oi := { dst := some 51, op := Op.move (Operand.tmp 0), type := 114, pos := "reader.go:62", after := #[], guard := none }) (v := ?vq1) rfl (by as_aux_lemma => kernel_rfl) (by as_aux_lemma => kernel_rfl) (by as_aux_lemma => kernel_rfl) (fun _ _ _ h => h) (Or.inl ⟨by rfl, ?yq1⟩) (by assumption) ?rq1
  case yq1 => (intro w hSw; (try dsimp only at hSw); go_simp <;> with_reducible rfl)
  simp only [Act.put, List.setIfInBounds_toArray, List.set_cons_zero, List.set_cons_succ]
  refine wpAnyH_take (i := 2) (oi := { dst := some 52, op := Op.nilCheck (Operand.tmp 51), type := 0, pos := "reader.go:62", after := #[{ on := 1, ground := Ground.data }], guard := none }) (v := ?vq2) rfl (by as_aux_lemma => kernel_rfl) (by as_aux_lemma => kernel_rfl) (by as_aux_lemma => kernel_rfl) (fun _ _ _ h => h) (Or.inl ⟨by rfl, ?yq2⟩) (by assumption) ?rq2
  case yq2 => (intro w hSw; (try dsimp only at hSw); go_simp <;> with_reducible rfl)
  simp only [Act.put, List.setIfInBounds_toArray, List.set_cons_zero, List.set_cons_succ]
  refine wpAnyH_take (i := 3) (oi := { dst := some 53, op := Op.fieldAddr 105 (Operand.tmp 52) 2, type := 0, pos := "reader.go:62", after := #[{ on := 2, ground := Ground.data }], guard := none }) (v := ?vq3) rfl (by as_aux_lemma => kernel_rfl) (by as_aux_lemma => kernel_rfl) (by as_aux_lemma => kernel_rfl) (fun _ _ _ h => h) (Or.inl ⟨by rfl, ?yq3⟩) (by assumption) ?rq3
  case yq3 => (intro w hSw; (try dsimp only at hSw); go_simp <;> with_reducible rfl)
  simp only [Act.put, List.setIfInBounds_toArray, List.set_cons_zero, List.set_cons_succ]
  refine wpAnyH_take (i := 5) (oi := { dst := some 55, op := Op.move (Operand.tmp 0), type := 114, pos := "reader.go:62", after := #[], guard := none }) (v := ?vq4) rfl (by as_aux_lemma => kernel_rfl) (by as_aux_lemma => kernel_rfl) (by as_aux_lemma => kernel_rfl) (fun _ _ _ h => h) (Or.inl ⟨by rfl, ?yq4⟩) (by assumption) ?rq4
  case yq4 => (intro w hSw; (try dsimp only at hSw); go_simp <;> with_reducible rfl)
  simp only [Act.put, List.setIfInBounds_toArray, List.set_cons_zero, List.set_cons_succ]
  refine wpAnyH_take (i := 6) (oi := { dst := some 56, op := Op.nilCheck (Operand.tmp 55), type := 0, pos := "reader.go:62", after := #[{ on := 5, ground := Ground.data }], guard := none }) (v := ?vq5) rfl (by as_aux_lemma => kernel_rfl) (by as_aux_lemma => kernel_rfl) (by as_aux_lemma => kernel_rfl) (fun _ _ _ h => h) (Or.inl ⟨by rfl, ?yq5⟩) (by assumption) ?rq5
  case yq5 => (intro w hSw; (try dsimp only at hSw); go_simp <;> with_reducible rfl)
  simp only [Act.put, List.setIfInBounds_toArray, List.set_cons_zero, List.set_cons_succ]
  refine wpAnyH_take (i := 7) (oi := { dst := some 57, op := Op.fieldAddr 105 (Operand.tmp 56) 0, type := 0, pos := "reader.go:62", after := #[{ on := 6, ground := Ground.data }], guard := none }) (v := ?vq6) rfl (by as_aux_lemma => kernel_rfl) (by as_aux_lemma => kernel_rfl) (by as_aux_lemma => kernel_rfl) (fun _ _ _ h => h) (Or.inl ⟨by rfl, ?yq6⟩) (by assumption) ?rq6
  case yq6 => (intro w hSw; (try dsimp only at hSw); go_simp <;> with_reducible rfl)
  simp only [Act.put, List.setIfInBounds_toArray, List.set_cons_zero, List.set_cons_succ]
  refine wpAnyH_take (i := 9) (oi := { dst := some 59, op := Op.move (Operand.tmp 6), type := 3, pos := "reader.go:62", after := #[], guard := none }) (v := ?vq7) rfl (by as_aux_lemma => kernel_rfl) (by as_aux_lemma => kernel_rfl) (by as_aux_lemma => kernel_rfl) (fun _ _ _ h => h) (Or.inl ⟨by rfl, ?yq7⟩) (by assumption) ?rq7
  case yq7 => (intro w hSw; (try dsimp only at hSw); go_simp <;> with_reducible rfl)
  simp only [Act.put, List.setIfInBounds_toArray, List.set_cons_zero, List.set_cons_succ]
  refine wpAnyH_ready (rs := [4, 8]) (by as_aux_lemma => kernel_rfl) (by simp) ?_
  refine AllReadyH.cons (o := { dst := some 54, op := Op.load 32 (Operand.tmp 53), type := 32, pos := "reader.go:62", after := #[{ on := 3, ground := Ground.data }], guard := none }) rfl (fun K hK => ?_) ?_
  · rw [if_pos (by rfl)]
    go_simp
    refine hK.out _ _ (by (try dsimp only); (try trivial)) (fun hHeld => ?_)
    clear hK K
    simp only [List.setIfInBounds_toArray, List.set_cons_zero, List.set_cons_succ]
    refine wpAnyH_ready (rs := [8]) (by as_aux_lemma => kernel_rfl) (by simp) ?_
    refine AllReadyH.cons (o := { dst := some 58, op := Op.call { callee := Callee.value (Operand.func 79), args := #[Operand.tmp 57], argTypes := #[103] }, type := 9, pos := "reader.go:62", after := #[{ on := 7, ground := Ground.data }], guard := none }) rfl (fun K hK => ?_) (by exact AllReadyH.nil)
    rw [if_pos (by rfl)]
    go_simp
    refine (HN2.out).mono ?_
    rintro e w6 ⟨rfl, v2, h2, hg2⟩
    have c6 := (cell_of_row _ _ 257 _ _ _ h2.1).trans (krC_code _ _)
    have H2 := Lib.hid (And.intro h2 ((hD5.out.mono (by have := HZ.out.1.1.lt; omega)).trans (grown_below hg2 (by have := HZ.out.1.1.lt; have := hD5.out.size; omega))))
    clear h2 hg2
    refine hK.out _ _ (by (try dsimp only); (try trivial)) (fun hHeld => ?_)
    clear hK K
    simp only [List.setIfInBounds_toArray, List.set_cons_zero, List.set_cons_succ]
    refine wpAnyH_ready (rs := [10]) (by as_aux_lemma => kernel_rfl) (by simp) ?_
    refine AllReadyH.cons (o := { dst := some 60, op := Op.call { callee := Callee.value (Operand.func 80), args := #[Operand.tmp 58, Operand.tmp 59], argTypes := #[9, 3] }, type := 32, pos := "reader.go:62", after := #[{ on := 8, ground := Ground.data }, { on := 9, ground := Ground.data }, { on := 8, ground := Ground.chain }], guard := none }) rfl (fun K hK => ?_) (by exact AllReadyH.nil)
    rw [if_pos (by rfl)]
    go_simp
    refine (HB2.out _).mono ?_
    rintro e w7 ⟨rfl, h7⟩
    exact ⟨rfl, rfl, HF.out.2.trans (HZ.out.2.trans (H2.out.2.trans (h7.mono (by have := H2.out.1.1.lt; omega))))⟩
  refine AllReadyH.cons (o := { dst := some 58, op := Op.call { callee := Callee.value (Operand.func 79), args := #[Operand.tmp 57], argTypes := #[103] }, type := 9, pos := "reader.go:62", after := #[{ on := 7, ground := Ground.data }], guard := none }) rfl (fun K hK => ?_) (by exact AllReadyH.nil)
  rw [if_pos (by rfl)]
  go_simp
  refine (HN2.out).mono ?_
  rintro e w6 ⟨rfl, v2, h2, hg2⟩
  have c6 := (cell_of_row _ _ 257 _ _ _ h2.1).trans (krC_code _ _)
  have H2 := Lib.hid (And.intro h2 ((hD5.out.mono (by have := HZ.out.1.1.lt; omega)).trans (grown_below hg2 (by have := HZ.out.1.1.lt; have := hD5.out.size; omega))))
  clear h2 hg2
  refine hK.out _ _ (by (try dsimp only); (try trivial)) (fun hHeld => ?_)
  clear hK K
  simp only [List.setIfInBounds_toArray, List.set_cons_zero, List.set_cons_succ]
  refine wpAnyH_ready (rs := [4, 10]) (by as_aux_lemma => kernel_rfl) (by simp) ?_
  refine AllReadyH.cons (o := { dst := some 54, op := Op.load 32 (Operand.tmp 53), type := 32, pos := "reader.go:62", after := #[{ on := 3, ground := Ground.data }], guard := none }) rfl (fun K hK => ?_) ?_
  · rw [if_pos (by rfl)]
    go_simp
    refine hK.out _ _ (by (try dsimp only); (try trivial)) (fun hHeld => ?_)
    clear hK K
    simp only [List.setIfInBounds_toArray, List.set_cons_zero, List.set_cons_succ]
    refine wpAnyH_ready (rs := [10]) (by as_aux_lemma => kernel_rfl) (by simp) ?_
    refine AllReadyH.cons (o := { dst := some 60, op := Op.call { callee := Callee.value (Operand.func 80), args := #[Operand.tmp 58, Operand.tmp 59], argTypes := #[9, 3] }, type := 32, pos := "reader.go:62", after := #[{ on := 8, ground := Ground.data }, { on := 9, ground := Ground.data }, { on := 8, ground := Ground.chain }], guard := none }) rfl (fun K hK => ?_) (by exact AllReadyH.nil)
    rw [if_pos (by rfl)]
    go_simp
    refine (HB2.out _).mono ?_
    rintro e w7 ⟨rfl, h7⟩
    exact ⟨rfl, rfl, HF.out.2.trans (HZ.out.2.trans (H2.out.2.trans (h7.mono (by have := H2.out.1.1.lt; omega))))⟩
  refine AllReadyH.cons (o := { dst := some 60, op := Op.call { callee := Callee.value (Operand.func 80), args := #[Operand.tmp 58, Operand.tmp 59], argTypes := #[9, 3] }, type := 32, pos := "reader.go:62", after := #[{ on := 8, ground := Ground.data }, { on := 9, ground := Ground.data }, { on := 8, ground := Ground.chain }], guard := none }) rfl (fun K hK => ?_) (by exact AllReadyH.nil)
  rw [if_pos (by rfl)]
  go_simp
  refine (HB2.out _).mono ?_
  rintro e w7 ⟨rfl, h7⟩
  exact ⟨rfl, rfl, HF.out.2.trans (HZ.out.2.trans (H2.out.2.trans (h7.mono (by have := H2.out.1.1.lt; omega))))⟩
end Go.Proofs.YtcdmaapjcckbmaaDoor

