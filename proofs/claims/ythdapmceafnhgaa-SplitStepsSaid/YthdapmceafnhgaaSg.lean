/- The reference of layer split: Bit, Negative. -/
import Derived.Test.YthdapmceafnhgaaSe
import Derived.Test.YthdapmceafnhgaaWx
namespace Go.Proofs.Ythdapmceafnhgaa
open Go.RowKit
attribute [local go_sem] ix0 ix1 ix2 ix3
set_option maxHeartbeats 1000000 in
theorem rbit_any (a p : Nat) (hp : p < 256) (w : World) :
    Calls Try.prog 19 #[W a, .int .i64 p] w fun e w' => e = .returned (.bool (a / 2 ^ p % 2 == 1)) ∧ Below w.heap.size w w' := by
  have hs := Blk.new w 24 (Wc a)
  have hc := (cell_of_row _ _ (p / 64) _ _ _ hs).trans (wc_get a (p / 64) (by omega))
  have HBIT := Lib.hid (bit_at a p)
  clear hs
  have hL : a / B64 ^ (p / 64) % B64 < 18446744073709551616 := Nat.mod_lt _ B64_pos
  have hlb : lb a (p / 64) = ((a / B64 ^ (p / 64) % B64 : Nat) : Int) := rfl
  rw [hlb] at hc
  clear hlb
  have g1 : IntKind.i64.wrap ((p : Int) / 64) = (p : Int) / 64 := IntWalk.i64_in _ (by omega)
  have g2 : (0 : Int) ≤ (p : Int) / 64 := by omega
  have g3 : (p : Int) / 64 < 4 := by omega
  have g4 : ((p : Int) / 64).toNat = p / 64 := by omega
  have g5 : (p : Int).tmod 64 = (p : Int) % 64 := Int.tmod_eq_emod_of_nonneg (by omega)
  have g6 : (0 : Int) ≤ (p : Int) % 64 := by omega
  have g7 : IntKind.u64.wrap ((p : Int) % 64) = (p : Int) % 64 := IntWalk.u64_in _ (by omega)
  have g8 : ((p : Int) % 64).toNat = p % 64 := by omega
  obtain ⟨L, hLe⟩ : ∃ L, a / B64 ^ (p / 64) % B64 = L := ⟨_, rfl⟩
  rw [hLe] at hc hL HBIT
  have e : Hid ((((L : Int) / 2 ^ (p % 64)).tmod 2 == 1) = (a / 2 ^ p % 2 == 1)) := by
    show _ = _
    rw [← HBIT.out, show (L : Int) / 2 ^ (p % 64) = ((L / 2 ^ (p % 64) : Nat) : Int) by simp, Int.tmod_eq_emod_of_nonneg (Int.natCast_nonneg _)]
    rw [Bool.eq_iff_iff]; simp only [beq_iff_eq]; omega
  clear hLe
  rw [← e.out]
  go_enter Try.func19, Try.ntmps19
  go_wp2
  go_ret
  exact ⟨rfl, balloc (Below.refl _ _) _⟩
/-- The word is below nought, as a signed one. -/
def ngN (a : Nat) : Bool := a / 2 ^ 255 % 2 == 1
end Go.Proofs.Ythdapmceafnhgaa
