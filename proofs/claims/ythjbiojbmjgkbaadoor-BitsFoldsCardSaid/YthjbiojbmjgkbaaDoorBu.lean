/- bits' law: BitsFolds: the walk. -/
import Derived.Test.YthjbiojbmjgkbaaDoorBr
import Derived.Test.YthjbiojbmjgkbaaDoorBt
namespace Go.Proofs.YthjbiojbmjgkbaaDoor
open Go.RowKit
attribute [local go_sem] ix0 ix1 ix2 ix3
theorem not_nt (a : Nat) (ha : a < MM) : a ^^^ (MM - 1) = MM - 1 - a := by
  refine word_eq _ _ (xor_lt _ _ ha (by have := MM_pos; omega)) (by omega) (fun j hj => ?_)
  rw [Nat.testBit_xor, all_bit j hj, show MM - 1 - a = MM - (a + 1) by omega]
  have := ha
  rw [MM_two256] at this ⊢
  rw [Nat.testBit_two_pow_sub_succ this]
  simp [hj]
theorem and_fold (f : Nat → Nat) (n : Nat) (hf : ∀ i, i < n → f i < MM) : upto (fun j => cntN f j n == n) 256 = andN f n := by
  have hm := MM_pos
  refine upto_eq _ _ (foN_lt _ (fun x y hx hy => and_lt x y hx hy) _ (by omega) f n hf) (fun j hj => ?_)
  unfold andN; rw [foN_and, all_bit j hj, Bool.true_and]
theorem or_fold (f : Nat → Nat) (n : Nat) (hf : ∀ i, i < n → f i < MM) : upto (fun j => decide (0 < cntN f j n)) 256 = orN f n := by
  refine upto_eq _ _ (foN_lt _ (fun x y hx hy => or_lt x y hx hy) _ MM_pos f n hf) (fun j _ => ?_)
  unfold orN; rw [foN_or, Nat.zero_testBit, Bool.false_or]
theorem xor_fold (f : Nat → Nat) (n : Nat) (hf : ∀ i, i < n → f i < MM) : upto (fun j => cntN f j n % 2 == 1) 256 = xorN f n := by
  refine upto_eq _ _ (foN_lt _ (fun x y hx hy => xor_lt x y hx hy) _ MM_pos f n hf) (fun j _ => ?_)
  unfold xorN; rw [foN_xor, Nat.zero_testBit, Bool.false_xor]
attribute [local irreducible] lb andN orN xorN
set_option maxRecDepth 100000 in
set_option maxHeartbeats 4000000 in
theorem folds_walk (x : Option Addr) (n cap : Nat) (f : Nat → Nat) (a : Nat) (ha : a < MM) (w : World) (hT : TZ w) (hn : n ≤ 9223372036854775807)
    (hA : ∀ X, Below w.heap.size w X → Calls Tryd.prog 12 #[.slice x n cap] X fun e w' => e = .returned (W (andN f n)) ∧ Below X.heap.size X w')
    (hO : ∀ X, Below w.heap.size w X → Calls Tryd.prog 14 #[.slice x n cap] X fun e w' => e = .returned (W (orN f n)) ∧ Below X.heap.size X w')
    (hX : ∀ X, Below w.heap.size w X → Calls Tryd.prog 15 #[.slice x n cap] X fun e w' => e = .returned (W (xorN f n)) ∧ Below X.heap.size X w')
    (h0 : ∀ X, Below w.heap.size w X → Calls Tryd.prog 13 #[.slice x n cap, .int .i64 0] X fun e w' => e = .returned (W (andN f n)) ∧ Below X.heap.size X w')
    (h1 : ∀ X, Below w.heap.size w X → Calls Tryd.prog 13 #[.slice x n cap, .int .i64 1] X fun e w' => e = .returned (W (orN f n)) ∧ Below X.heap.size X w')
    (h2 : ∀ X, Below w.heap.size w X → Calls Tryd.prog 13 #[.slice x n cap, .int .i64 2] X fun e w' => e = .returned (W (xorN f n)) ∧ Below X.heap.size X w') :
    Calls Tryd.prog 3 #[.slice x n cap, W a] w fun e w' => e = .returned (.bool true) ∧ Below w.heap.size w w' := by
  have hW := Lib.hid (balloc (Below.refl w.heap.size w) (.cells (Wc a) 25))
  have HT := Lib.hid hT
  clear hT
  by_cases h12 : 12 < n
  · have h12' : (12 : Int) < n := by omega
    clear hA hO hX h0 h1 h2 ha
    go_enter Tryd.func3, Tryd.ntmps3
    go_wp2_with fail
    refine (works_any _ (HT.out.below HT.out.lt hW.out)).mono ?_
    rintro e w1 ⟨rfl, k1⟩
    have H1 := Lib.hid (bstep hW.out k1)
    clear k1
    go_wp2
    go_ret
    exact ⟨rfl, H1.out⟩
  · have h12' : ¬ (12 : Int) < n := by omega
    have HA := Lib.hid hA
    have HO := Lib.hid hO
    have HX := Lib.hid hX
    have H0 := Lib.hid h0
    have H1 := Lib.hid h1
    have H2 := Lib.hid h2
    have A := Lib.hid (Blk.new w 25 (Wc a))
    have HN := Lib.hid (not_nt a ha)
    have HNA := Lib.hid (fun w => not_any a w)
    have HNR := Lib.hid (fun w => rnot_any a w)
    clear hA hO hX h0 h1 h2
    go_enter Tryd.func3, Tryd.ntmps3
    go_wp2_with fail
    have A' := A.out
    have hW' := hW.out
    obtain ⟨W0, hW0⟩ : ∃ W0, w.alloc (.cells (Wc a) 25) = W0 := ⟨_, rfl⟩
    rw [hW0] at A' hW' ⊢
    clear hW0 A hW
    have ca0 : ∀ w', Below W0.heap.size W0 w' → w'.cell? ⟨w.heap.size, 0, none⟩ = some (.int .u64 (lb a 0)) := fun w' h => (A'.keep h).get4.1
    have ca1 : ∀ w', Below W0.heap.size W0 w' → w'.cell? ⟨w.heap.size, 1, none⟩ = some (.int .u64 (lb a 1)) := fun w' h => (A'.keep h).get4.2.1
    have ca2 : ∀ w', Below W0.heap.size W0 w' → w'.cell? ⟨w.heap.size, 2, none⟩ = some (.int .u64 (lb a 2)) := fun w' h => (A'.keep h).get4.2.2.1
    have ca3 : ∀ w', Below W0.heap.size W0 w' → w'.cell? ⟨w.heap.size, 3, none⟩ = some (.int .u64 (lb a 3)) := fun w' h => (A'.keep h).get4.2.2.2.1
    have HA2 := Lib.hid (fun X (h : Below W0.heap.size W0 X) => HA.out X (bstep hW' h))
    have HO2 := Lib.hid (fun X (h : Below W0.heap.size W0 X) => HO.out X (bstep hW' h))
    have HX2 := Lib.hid (fun X (h : Below W0.heap.size W0 X) => HX.out X (bstep hW' h))
    have H02 := Lib.hid (fun X (h : Below W0.heap.size W0 X) => H0.out X (bstep hW' h))
    have H12 := Lib.hid (fun X (h : Below W0.heap.size W0 X) => H1.out X (bstep hW' h))
    have H22 := Lib.hid (fun X (h : Below W0.heap.size W0 X) => H2.out X (bstep hW' h))
    have HWK := Lib.hid (fun X (h : Below W0.heap.size W0 X) => works_any X (HT.out.below HT.out.lt (bstep hW' h)))
    have heq := eq_sameW
    have hs0 : Below W0.heap.size W0 W0.drew := (Below.refl _ _).drew
    have HW := Lib.hid hW'
    have hnn : W (ntN a) = W (a ^^^ (MM - 1)) := by rw [HN.out, ntN, Nat.mod_eq_of_lt ha]
    rw [hnn] at HNR
    clear A' hW' HA HO HX H0 H1 H2 HT hnn
    go_region_held3 (fun w' => Below W0.heap.size W0 w') (first | assumption | exact rstep (by assumption) (by assumption))
      (first
        | (go_at_call 12; refine (HA2.out _ (by assumption)).mono ?_; rintro e wk ⟨rfl, hk⟩)
        | (go_at_call 14; refine (HO2.out _ (by assumption)).mono ?_; rintro e wk ⟨rfl, hk⟩)
        | (go_at_call 15; refine (HX2.out _ (by assumption)).mono ?_; rintro e wk ⟨rfl, hk⟩)
        | (go_at_call 13; with_reducible refine (H02.out _ (by assumption)).mono ?_; rintro e wk ⟨rfl, hk⟩)
        | (go_at_call 13; with_reducible refine (H12.out _ (by assumption)).mono ?_; rintro e wk ⟨rfl, hk⟩)
        | (go_at_call 13; with_reducible refine (H22.out _ (by assumption)).mono ?_; rintro e wk ⟨rfl, hk⟩)
        | (go_at_call 16; refine (HNA.out _).mono ?_; rintro e wk ⟨rfl, hk⟩)
        | (go_at_call 17; refine (HNR.out _).mono ?_; rintro e wk ⟨rfl, hk⟩)
        | (go_at_call 11; refine (HWK.out _ (by assumption)).mono ?_; rintro e wk ⟨rfl, hk⟩))
    all_goals
      have hX : Below W0.heap.size W0 wk := by assumption
      have HE := Lib.hid (bstep HW.out hX)
      go_wp2
      go_ret
      exact ⟨rfl, HE.out⟩
end Go.Proofs.YthjbiojbmjgkbaaDoor
