/- label: Parse, the document's. -/
import Derived.Test.YtmcfccbaogjblaaDoorGi
namespace Go.Proofs.YtmcfccbaogjblaaDoor
open Go.RowKit Go.Shelf

theorem scR_split (l : List UInt8) (k : Nat) (h : scR (l.take k) = none) : scR l = none := by
  unfold scR at *
  conv => lhs; rw [← List.take_append_drop k l]
  rw [List.foldl_append, h, rst_none]
theorem scR_next (s : ByteArray) (k S p q : Nat) (hk : k < s.size) (h : scR (s.data.toList.take k) = some (S, p, q)) : scR (s.data.toList.take (k + 1)) = rst (some (S, p, q)) s[k] := by
  rw [List.take_add_one, List.getElem?_eq_getElem (by simpa using hk)]
  show scR (_ ++ [_]) = _
  rw [scR_snoc, h]
  rfl
theorem wrap_pow (p : Nat) (hp : p < 64) : IntKind.u64.wrap ((2 : Int) ^ p) = (2 : Int) ^ p := by
  have e2 : ((2 : Int) ^ p) = ((2 ^ p : Nat) : Int) := by rw [Int.natCast_pow]; rfl
  have h2 : (2 : Nat) ^ p < 2 ^ 64 := Nat.pow_lt_pow_right (by omega) hp
  rw [e2]
  clear e2
  generalize 2 ^ p = N at *
  exact IntWalk.u64_in _ (by omega)
theorem or_pow (S p : Nat) (hS : S < 2 ^ 64) (hp : p < 64) : bits .or .u64 (S : Int) ((2 : Int) ^ p) = ((S ||| 2 ^ p : Nat) : Int) := by
  rw [show ((2 : Int) ^ p) = ((2 ^ p : Nat) : Int) by rw [Int.natCast_pow]; rfl]
  exact or_nat S _ hS (Nat.pow_lt_pow_right (by omega) hp)
/-- What stands at the head of a round: so far, or all is read. -/
def RP (s : ByteArray) (o n m i : Value) : Prop :=
  (∃ k S p q : Nat, k ≤ s.size ∧ scR (s.data.toList.take k) = some (S, p, q) ∧ o = .int .u64 (S : Nat) ∧ n = .int .i64 (p : Nat) ∧ m = .int .i64 (q : Nat) ∧ i = .int .i64 (k : Nat)) ∨
  (∃ S p q : Nat, scR s.data.toList = some (S, p, q) ∧ p ≤ 63 ∧ q ≠ 0 ∧ o = .int .u64 (S ||| 2 ^ p : Nat) ∧ n = .int .i64 0 ∧ m = .int .i64 0 ∧ i = .int .i64 ((s.size : Int) + 1))

set_option maxRecDepth 100000 in
set_option maxHeartbeats 4000000 in
theorem rparse_any (s : ByteArray) (hs : s.size ≤ 400) (w : World) :
    Calls Tryd.prog 17 #[.string s] w fun e w' => e = .returned (.tuple #[.int .u64 (labV s.data.toList : Nat), .bool (decide (labE s.data.toList = 0))]) ∧ Below w.heap.size w w' := by
  by_cases h45 : s.data.toList = [45]
  · obtain rfl : s = ⟨#[45]⟩ := by cases s with | mk d => cases d with | mk l => simp at h45; subst h45; rfl
    obtain ⟨e1, e2⟩ := lab_of (a := 0) (l := [45]) (by decide) txL_zero
    rw [show (ByteArray.mk #[45]).data.toList = [45] from rfl, e1, e2]
    clear e1 e2 h45 hs
    go_enter Tryd.func17, Tryd.ntmps17
    go_wp2_with fail
    go_ret2
    exact ⟨rfl, Below.refl _ _⟩
  · have hne : (s.toList == [45]) = false := by rw [beq_eq_false_iff_ne, ByteArray.toList_eq]; exact h45
    have HE := Lib.hid h45
    clear h45
    go_enter Tryd.func17, Tryd.ntmps17
    go_wp2_with fail
    clear hne
    go_loop [4, 5, 6, 7] (fun o n m i => RP s o n m i) (fun _ _ _ i => s.size + 1 - (intOf i).toNat)
    case atStart => exact .inl ⟨0, 0, 0, 0, by omega, rfl, rfl, rfl, rfl, rfl⟩
    case round =>
      rcases hrel with ⟨k, S, p, q, hk, hsc, rfl, rfl, rfl, rfl⟩ | ⟨S, p, q, hsc, hp, hq, rfl, rfl, rfl, rfl⟩
      · obtain ⟨hS, hp100, hq2, -, -⟩ := rst_bound hsc
        have HFIN := Lib.hid (fun h : scR (s.data.toList.take (k + 1)) = none => lab_read_none HE.out (scR_split _ _ h))
        have hkI : (k : Int) ≤ (s.size : Int) := by omega
        by_cases hlt : k < s.size
        · have hltI : (k : Int) < (s.size : Int) := by omega
          obtain ⟨c, hc⟩ : ∃ c, s[k] = c := ⟨_, rfl⟩
          have HNX := Lib.hid (scR_next s k S p q hlt hsc)
          rw [hc] at HNX
          have hc256 : c.toNat < 256 := c.toNat_lt
          have hcn : c = 44 ↔ c.toNat = 44 := ⟨fun h => by rw [h]; rfl, fun h => UInt8.toNat_inj.1 (by rw [h]; rfl)⟩
          have HC := Lib.hid hcn
          clear hsc hcn
          by_cases h44 : c.toNat = 44
          · have q44 : ((c.toNat : Int) != 44) = false := by simp; omega
            have H44 := Lib.hid (HC.out.2 h44)
            clear h44
            by_cases hq0 : q = 0
            · have HZ := Lib.hid (HFIN.out (by rw [HNX.out]; simp only [rst]; rw [if_pos H44.out, if_pos (.inl hq0)]))
              have b0 : ((q : Int) == 0) = true := by rw [beq_iff_eq]; omega
              clear hs
              go_wp2_with fail
              exact bodyPost_ret (R := fun e w' => e = .returned (.tuple #[.int .u64 (labV s.data.toList : Nat), .bool (decide (labE s.data.toList = 0))]) ∧ Below w.heap.size w w') (v := .tuple #[.int .u64 0, .bool false]) (by simp [results, Tryd.results17, go_sem]) rfl ⟨by rw [HZ.out.1, HZ.out.2]; rfl, Below.refl _ _⟩
            · have b0 : ((q : Int) == 0) = false := by rw [beq_eq_false_iff_ne]; omega
              by_cases hp63 : 63 < p
              · have HZ := Lib.hid (HFIN.out (by rw [HNX.out]; simp only [rst]; rw [if_pos H44.out, if_pos (.inr hp63)]))
                have b1 : (63 : Int) < (p : Int) := by omega
                clear hs
                go_wp2_with fail
                exact bodyPost_ret (R := fun e w' => e = .returned (.tuple #[.int .u64 (labV s.data.toList : Nat), .bool (decide (labE s.data.toList = 0))]) ∧ Below w.heap.size w w') (v := .tuple #[.int .u64 0, .bool false]) (by simp [results, Tryd.results17, go_sem]) rfl ⟨by rw [HZ.out.1, HZ.out.2]; rfl, Below.refl _ _⟩
              · have b1 : ¬ (63 : Int) < (p : Int) := by omega
                have HN := Lib.hid (show scR (s.data.toList.take (k + 1)) = some (S ||| 2 ^ p, 0, 0) by rw [HNX.out]; simp only [rst]; rw [if_pos H44.out, if_neg (by omega)])
                have g1 : IntKind.u64.wrap (p : Int) = (p : Int) := IntWalk.u64_in _ (by omega)
                have g2 := wrap_pow p (by omega)
                have g3 := or_pow S p hS (by omega)
                go_wp2_with fail
                go_round
                case rel => exact .inl ⟨k + 1, S ||| 2 ^ p, 0, 0, by omega, HN.out, rfl, rfl, rfl, by go_num⟩
                case measure => simp [intOf]; omega
          · have q44 : ((c.toNat : Int) != 44) = true := by simp; omega
            have H44 := Lib.hid (fun h => h44 (HC.out.1 h))
            clear h44
            by_cases h48 : c.toNat < 48
            · have HZ := Lib.hid (HFIN.out (by rw [HNX.out]; simp only [rst]; rw [if_neg H44.out, if_pos (.inl h48)]))
              have b0 : (c.toNat : Int) < 48 := by omega
              clear hs
              go_wp2_with fail
              exact bodyPost_ret (R := fun e w' => e = .returned (.tuple #[.int .u64 (labV s.data.toList : Nat), .bool (decide (labE s.data.toList = 0))]) ∧ Below w.heap.size w w') (v := .tuple #[.int .u64 0, .bool false]) (by simp [results, Tryd.results17, go_sem]) rfl ⟨by rw [HZ.out.1, HZ.out.2]; rfl, Below.refl _ _⟩
            · have b0 : ¬ (c.toNat : Int) < 48 := by omega
              by_cases h57 : 57 < c.toNat
              · have HZ := Lib.hid (HFIN.out (by rw [HNX.out]; simp only [rst]; rw [if_neg H44.out, if_pos (.inr (.inl h57))]))
                have b1 : (57 : Int) < (c.toNat : Int) := by omega
                clear hs
                go_wp2_with fail
                exact bodyPost_ret (R := fun e w' => e = .returned (.tuple #[.int .u64 (labV s.data.toList : Nat), .bool (decide (labE s.data.toList = 0))]) ∧ Below w.heap.size w w') (v := .tuple #[.int .u64 0, .bool false]) (by simp [results, Tryd.results17, go_sem]) rfl ⟨by rw [HZ.out.1, HZ.out.2]; rfl, Below.refl _ _⟩
              · have b1 : ¬ (57 : Int) < (c.toNat : Int) := by omega
                by_cases hq22 : q = 2
                · have HZ := Lib.hid (HFIN.out (by rw [HNX.out]; simp only [rst]; rw [if_neg H44.out, if_pos (.inr (.inr hq22))]))
                  have b2 : ((q : Int) == 2) = true := by rw [beq_iff_eq]; omega
                  clear hs
                  go_wp2_with fail
                  exact bodyPost_ret (R := fun e w' => e = .returned (.tuple #[.int .u64 (labV s.data.toList : Nat), .bool (decide (labE s.data.toList = 0))]) ∧ Below w.heap.size w w') (v := .tuple #[.int .u64 0, .bool false]) (by simp [results, Tryd.results17, go_sem]) rfl ⟨by rw [HZ.out.1, HZ.out.2]; rfl, Below.refl _ _⟩
                · have b2 : ((q : Int) == 2) = false := by rw [beq_eq_false_iff_ne]; omega
                  have HN := Lib.hid (show scR (s.data.toList.take (k + 1)) = some (S, 10 * p + (c.toNat - 48), q + 1) by rw [HNX.out]; simp only [rst]; rw [if_neg H44.out, if_neg (by omega)])
                  have g1 : IntKind.i64.wrap (10 * (p : Int)) = 10 * (p : Int) := IntWalk.i64_in _ (by omega)
                  have g2 : IntKind.u8.wrap ((c.toNat : Int) - 48) = (c.toNat : Int) - 48 := IntWalk.u8_in _ (by omega)
                  have g3 : IntKind.i64.wrap ((c.toNat : Int) - 48) = (c.toNat : Int) - 48 := IntWalk.i64_in _ (by omega)
                  have g4 : IntKind.i64.wrap (10 * (p : Int) + ((c.toNat : Int) - 48)) = 10 * (p : Int) + ((c.toNat : Int) - 48) := IntWalk.i64_in _ (by omega)
                  have g5 : IntKind.i64.wrap ((q : Int) + 1) = (q : Int) + 1 := IntWalk.i64_in _ (by omega)
                  go_wp2_with fail
                  go_round
                  case rel => exact .inl ⟨k + 1, S, 10 * p + (c.toNat - 48), q + 1, by omega, HN.out, rfl, by rw [show 10 * (p : Int) + ((c.toNat : Int) - 48) = ((10 * p + (c.toNat - 48) : Nat) : Int) by omega], by go_num, by go_num⟩
                  case measure => simp [intOf]; omega
        · have hltI : ¬ (k : Int) < (s.size : Int) := by omega
          obtain rfl : k = s.size := by omega
          rw [List.take_of_length_le (by simp)] at hsc
          have HSC := Lib.hid hsc
          clear hsc
          by_cases hq0 : q = 0
          · have HZ := Lib.hid (lab_read_end HSC.out (.inl hq0))
            have b0 : ((q : Int) == 0) = true := by rw [beq_iff_eq]; omega
            clear hs
            go_wp2_with fail
            exact bodyPost_ret (R := fun e w' => e = .returned (.tuple #[.int .u64 (labV s.data.toList : Nat), .bool (decide (labE s.data.toList = 0))]) ∧ Below w.heap.size w w') (v := .tuple #[.int .u64 0, .bool false]) (by simp [results, Tryd.results17, go_sem]) rfl ⟨by rw [HZ.out.1, HZ.out.2]; rfl, Below.refl _ _⟩
          · have b0 : ((q : Int) == 0) = false := by rw [beq_eq_false_iff_ne]; omega
            by_cases hp63 : 63 < p
            · have HZ := Lib.hid (lab_read_end HSC.out (.inr hp63))
              have b1 : (63 : Int) < (p : Int) := by omega
              clear hs
              go_wp2_with fail
              exact bodyPost_ret (R := fun e w' => e = .returned (.tuple #[.int .u64 (labV s.data.toList : Nat), .bool (decide (labE s.data.toList = 0))]) ∧ Below w.heap.size w w') (v := .tuple #[.int .u64 0, .bool false]) (by simp [results, Tryd.results17, go_sem]) rfl ⟨by rw [HZ.out.1, HZ.out.2]; rfl, Below.refl _ _⟩
            · have b1 : ¬ (63 : Int) < (p : Int) := by omega
              have g1 : IntKind.u64.wrap (p : Int) = (p : Int) := IntWalk.u64_in _ (by omega)
              have g2 := wrap_pow p (by omega)
              have g3 := or_pow S p hS (by omega)
              go_wp2_with fail
              go_round
              case rel => exact .inr ⟨S, p, q, HSC.out, by omega, hq0, rfl, rfl, rfl, rfl⟩
              case measure => simp [intOf]
      · obtain ⟨hS, -, -, -, -⟩ := rst_bound hsc
        have hlt3 : S ||| 2 ^ p < 2 ^ 64 := or_bound ⟨hS, by omega⟩
        have HTX := Lib.hid (rtext_any (S ||| 2 ^ p) hlt3 w)
        have HO := Lib.hid (fun he : txL (S ||| 2 ^ p) ≠ s.data.toList => lab_read_other hsc he)
        have hi : ¬ ((s.size : Int) + 1 ≤ (s.size : Int)) := by omega
        clear hsc hS
        generalize S ||| 2 ^ p = T at *
        by_cases he : txL T = s.data.toList
        · obtain ⟨e1, e2⟩ := lab_of hlt3 he
          have HS := Lib.hid (And.intro e1 e2)
          have hq : (txL T == s.toList) = true := by rw [beq_iff_eq, ByteArray.toList_eq, ← he]
          clear e1 e2 he
          go_wp2_with fail
          refine (HTX.out).mono ?_
          rintro e Y ⟨rfl, h4⟩
          have H4 := Lib.hid h4
          clear h4
          go_wp2_with fail
          exact bodyPost_ret (R := fun e w' => e = .returned (.tuple #[.int .u64 (labV s.data.toList : Nat), .bool (decide (labE s.data.toList = 0))]) ∧ Below w.heap.size w w') (v := .tuple #[.int .u64 (T : Nat), .bool true]) (by simp [results, Tryd.results17, go_sem]) rfl ⟨by rw [HS.out.1, HS.out.2]; rfl, H4.out⟩
        · have hq : (txL T == s.toList) = false := by rw [beq_eq_false_iff_ne, ByteArray.toList_eq]; exact he
          have HS := Lib.hid (HO.out he)
          clear he
          go_wp2_with fail
          refine (HTX.out).mono ?_
          rintro e Y ⟨rfl, h4⟩
          have H4 := Lib.hid h4
          clear h4
          go_wp2_with fail
          exact bodyPost_ret (R := fun e w' => e = .returned (.tuple #[.int .u64 (labV s.data.toList : Nat), .bool (decide (labE s.data.toList = 0))]) ∧ Below w.heap.size w w') (v := .tuple #[.int .u64 0, .bool false]) (by simp [results, Tryd.results17, go_sem]) rfl ⟨by rw [HS.out.1, HS.out.2]; rfl, H4.out⟩
end Go.Proofs.YtmcfccbaogjblaaDoor
