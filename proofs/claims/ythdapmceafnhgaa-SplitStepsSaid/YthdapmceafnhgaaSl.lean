/- split: how many bits a number has (width). -/
import Derived.Test.YthdapmceafnhgaaSk
namespace Go.Proofs.Ythdapmceafnhgaa
open Go.RowKit
attribute [local go_sem] ix0 ix1 ix2 ix3
set_option maxRecDepth 100000 in
set_option maxHeartbeats 1000000 in
theorem width_any (N nb no n cap : Nat) (hn : n ≤ 16) (hlt : N < B64 ^ n) (w : World)
    (hN : ∀ j, j < n → w.cell? ⟨nb, no + j, none⟩ = some (.int .u64 ((N / B64 ^ j % B64 : Nat) : Int))) :
    Calls Try.prog 36 #[.slice (some ⟨nb, no, none⟩) n cap] w fun e w' => (∃ l : Nat, e = .returned (.int .i64 l) ∧ l ≤ 64 * n ∧ N < 2 ^ l) ∧ w = w' := by
  have HN := Lib.hid hN
  have HL := Lib.hid hlt
  clear hN hlt
  have gw : IntKind.i64.wrap ((n : Int) - 1) = (n : Int) - 1 := IntWalk.i64_in _ (by omega)
  go_enter Try.func36, Try.ntmps36
  go_wp2_with fail
  go_loopw [3] (fun i wr => ∃ k : Nat, k ≤ n ∧ i = .int .i64 ((k : Int) - 1) ∧ Hid (N < B64 ^ k) ∧ wr = w) (fun i _ => (intOf i + 1).toNat)
  case atStart => exact ⟨n, Nat.le_refl _, rfl, HL, rfl⟩
  case round =>
    obtain ⟨k, hk, rfl, hK, rfl⟩ := hrel
    by_cases h0 : k = 0
    · subst h0
      go_wp2
      go_ret
      exact ⟨⟨0, rfl, by omega, by have := hK.out; simpa using this⟩, rfl⟩
    · obtain ⟨j, rfl⟩ : ∃ j, k = j + 1 := ⟨k - 1, by omega⟩
      have hc := HN.out j (by omega)
      have hL : N / B64 ^ j < 18446744073709551616 := Nat.div_lt_of_lt_mul (by have := hK.out; rw [Nat.pow_succ] at this; exact this)
      rw [Nat.mod_eq_of_lt (show N / B64 ^ j < B64 from hL)] at hc
      obtain ⟨L, hLe⟩ : ∃ L, N / B64 ^ j = L := ⟨_, rfl⟩
      rw [hLe] at hc hL
      have HLe := Lib.hid hLe
      clear hLe
      have g1 : ((j + 1 : Nat) : Int) - 1 = (j : Int) := by omega
      have g2 : (j : Int) < (n : Int) := by omega
      have g3 : IntKind.i64.wrap ((j : Int) * 64) = (j : Int) * 64 := IntWalk.i64_in _ (by omega)
      rw [g1]
      by_cases hz : L = 0
      · subst hz
        have hN0 : Hid (N < B64 ^ j) := by
          show _ < _
          rcases Nat.lt_or_ge N (B64 ^ j) with h | h
          · exact h
          · have := Nat.div_pos h (pow_pos' j)
            rw [HLe.out] at this; omega
        go_wp2
        exact ⟨⟨j, by omega, by simp, hN0, trivial⟩, by simp [intOf]⟩
      · have hz' : ((L : Int) != 0) = true := by simp; omega
        have hNl : ∀ l : Nat, L < 2 ^ l → N < 2 ^ (64 * j + l) := fun l h => by
          rw [Nat.pow_add, Nat.pow_mul]
          have e : (2 : Nat) ^ 64 = B64 := rfl
          rw [e]
          have := Nat.lt_mul_of_div_lt (show N / B64 ^ j < 2 ^ l by rw [HLe.out]; exact h) (pow_pos' j)
          rwa [Nat.mul_comm] at this
        have HNL := Lib.hid hNl
        clear hz hNl
        go_wp2_with (first | (go_at_call 44; refine (len64_any L hL _).mono ?_; rintro e _ ⟨⟨l, rfl, hl1, hl2⟩, rfl⟩; have g4 : IntKind.i64.wrap ((j : Int) * 64 + (l : Int)) = (j : Int) * 64 + (l : Int) := IntWalk.i64_in _ (by omega); have HL2 := Lib.hid hl2; clear hl2) | fail)
        go_ret
        refine ⟨⟨64 * j + l, ?_, by omega, HNL.out l HL2.out⟩, rfl⟩
        rw [show ((64 * j + l : Nat) : Int) = (j : Int) * 64 + (l : Int) by omega]
        rfl
end Go.Proofs.Ythdapmceafnhgaa
