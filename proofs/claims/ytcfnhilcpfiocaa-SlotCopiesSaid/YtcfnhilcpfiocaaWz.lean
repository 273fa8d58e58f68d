/- The reference of layer word: Order, by a contract. -/
import Derived.Test.YtcfnhilcpfiocaaWw
import Derived.Deep.RegionHeld3
import Derived.Deep.QuietTactic
import Derived.BigQuiet
namespace Go.Proofs.Ytcfnhilcpfiocaa
open Go.RowKit
attribute [local go_sem] ix0 ix1 ix2 ix3
theorem cmpI_of {x y : Int} (h : x < y) : cmpI x y = -1 := by unfold cmpI; rw [if_pos h]
theorem cmp_at {a b : Nat} (ha : a < MM) (hb : b < MM) : ∀ i, i < 4 → (∀ j, i < j → j < 4 → lb a j = lb b j) → lb a i < lb b i → cmpN a b = -1
  | 0, _, h, g => by rw [← cmp_fu ha hb, fuN_0 (h 3 (by omega) (by omega)) (h 2 (by omega) (by omega)) (h 1 (by omega) (by omega)) (by omega), fuN_0 (h 3 (by omega) (by omega)).symm (h 2 (by omega) (by omega)).symm (h 1 (by omega) (by omega)).symm (by omega), cmpI_of g]
  | 1, _, h, g => by rw [← cmp_fu ha hb, fuN_1 (h 3 (by omega) (by omega)) (h 2 (by omega) (by omega)) (by omega), fuN_1 (h 3 (by omega) (by omega)).symm (h 2 (by omega) (by omega)).symm (by omega), cmpI_of g]
  | 2, _, h, g => by rw [← cmp_fu ha hb, fuN_2 (h 3 (by omega) (by omega)) (by omega), fuN_2 (h 3 (by omega) (by omega)).symm (by omega), cmpI_of g]
  | 3, _, _, g => by rw [← cmp_fu ha hb, fuN_3 (by omega), fuN_3 (by omega), cmpI_of g]

set_option maxHeartbeats 1000000 in
theorem wrorder_any (a b : Nat) (ha : a < MM) (hb : b < MM) (w : World) :
    Calls Try.prog 38 #[W a, W b] w fun e w' => e = .returned (.int .i64 (cmpN a b)) ∧ Below w.heap.size w w' := by
  have hcm := cmpN_anti a b
  have HA := Lib.hid hcm
  clear hcm
  go_enter Try.func38, Try.ntmps38
  go_wp2_with fail
  go_loopw [5] (fun i wr => ∃ k : Nat, k ≤ 4 ∧ i = .int .i64 (3 - (k : Int)) ∧ (∀ j, 4 - k ≤ j → j < 4 → lb a j = lb b j) ∧ Blk wr w.heap.size 25 (Wc a) ∧ Blk wr (w.heap.size + 1) 25 (Wc b) ∧ Below w.heap.size w wr) (fun i _ => (intOf i + 1).toNat)
  case atStart => exact ⟨0, by omega, rfl, fun j h1 h2 => by omega, (Blk.new _ _ _).alloc _, Blk.newS _ _ _ _, balloc (balloc (Below.refl _ _) _) _⟩
  case round =>
    obtain ⟨k, hk, rfl, he, hx, hy, hB⟩ := hrel
    by_cases hlt : k < 4
    · have cx := (cell_of_row wr _ _ _ _ _ hx).trans (wc_get a (3 - k) (by omega))
      have cy := (cell_of_row wr _ _ _ _ _ hy).trans (wc_get b (3 - k) (by omega))
      have HX := Lib.hid hx
      have HY := Lib.hid hy
      have HE := Lib.hid he
      have HC := Lib.hid (cmp_at ha hb (3 - k) (by omega) (fun j h1 h2 => he j (by omega) h2))
      have HD := Lib.hid (cmp_at hb ha (3 - k) (by omega) (fun j h1 h2 => (he j (by omega) h2).symm))
      clear hx hy he
      have g1 : (k : Int) ≤ 3 := by omega
      have g2 : 3 - (k : Int) < 4 := by omega
      have g3 : (3 - (k : Int)).toNat = 3 - k := by omega
      rcases Int.lt_trichotomy (lb a (3 - k)) (lb b (3 - k)) with h | h | h
      · have E := Lib.hid (HC.out h)
        go_wp2_with fail
        go_quiet (fail)
        go_wp2_with fail
        go_ret
        rw [E.out]
        exact ⟨rfl, below_drewN hB _⟩
      · have h' : ¬ lb a (3 - k) < lb b (3 - k) := by omega
        have h'' : ¬ lb b (3 - k) < lb a (3 - k) := by omega
        go_wp2_with fail
        go_quiet (fail)
        go_wp2_with fail
        go_quiet (fail)
        go_wp2_with fail
        exact ⟨⟨k + 1, by omega, by congr 1; omega, fun j h1 h2 => by
          by_cases hj : 4 - k ≤ j
          · exact HE.out j hj h2
          · rw [show j = 3 - k by omega]; exact h, HX.out, HY.out, below_drewN hB _⟩, by simp [intOf]; omega⟩
      · have h' : ¬ lb a (3 - k) < lb b (3 - k) := by omega
        have E := Lib.hid (HD.out h)
        go_wp2_with fail
        go_quiet (fail)
        go_wp2_with fail
        go_quiet (fail)
        go_wp2_with fail
        go_ret
        rw [HA.out, E.out]
        exact ⟨rfl, below_drewN (below_drewN hB _) _⟩
    · obtain rfl : k = 4 := by omega
      have e : a = b := lb_inj ha hb (he 0 (by omega) (by omega)) (he 1 (by omega) (by omega)) (he 2 (by omega) (by omega)) (he 3 (by omega) (by omega))
      have E : Hid (cmpN a b = 0) := by rw [e]; exact cmpN_eq b
      clear he e
      go_wp2
      go_ret
      rw [E.out]
      exact ⟨rfl, hB⟩
end Go.Proofs.Ytcfnhilcpfiocaa
