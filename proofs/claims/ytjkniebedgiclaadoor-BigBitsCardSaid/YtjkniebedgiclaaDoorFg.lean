/- big: guess. -/
import Derived.Test.YtjkniebedgiclaaDoorFe
import Derived.Test.YtjkniebedgiclaaDoorFf
namespace Go.Proofs.YtjkniebedgiclaaDoor
open Go.RowKit Go.Shelf

set_option maxRecDepth 100000 in
set_option maxHeartbeats 1000000 in
theorem div64_zero (lo y : Nat) (hy : 9223372036854775808 ≤ y) (hl : lo < 18446744073709551616) (w : World) :
    Calls Tryd.prog 66 #[.int .u64 0, .int .u64 lo, .int .u64 y] w fun e w' => (∃ r : Int, e = .returned (.tuple #[.int .u64 ((lo / y : Nat) : Int), .int .u64 r])) ∧ ∃ n, w' = w.drewN n := by
  have g1 : ((y : Int) == 0) = false := by simp; omega
  have g2 : ¬ (y : Int) ≤ 0 := by omega
  have g3 : (lo : Int) / (y : Int) = ((lo / y : Nat) : Int) := (Int.natCast_ediv lo y).symm
  have g4 : (lo : Int) % (y : Int) = ((lo % y : Nat) : Int) := (Int.natCast_emod lo y).symm
  have h1 : lo / y ≤ lo := Nat.div_le_self _ _
  have h2 : lo % y ≤ lo := Nat.mod_le _ _
  have g5 : IntKind.u64.wrap ((lo / y : Nat) : Int) = ((lo / y : Nat) : Int) := wrapN _ (by omega)
  have g6 : IntKind.u64.wrap ((lo % y : Nat) : Int) = ((lo % y : Nat) : Int) := wrapN _ (by omega)
  obtain ⟨q, hq⟩ : ∃ q, lo / y = q := ⟨_, rfl⟩
  obtain ⟨r, hr⟩ : ∃ q, lo % y = q := ⟨_, rfl⟩
  rw [hq] at g3 g5 ⊢
  rw [hr] at g4 g6
  have f14 : ¬ (y : Int) = 0 := by omega
  have f15 : (0 : Int) < (y : Int) := by omega
  have f16 : (0 : Int) ≤ (lo : Int) := by omega
  have f17 : (lo : Int).tdiv (y : Int) = (q : Nat) := by rw [← g3]; exact Int.tdiv_eq_ediv_of_nonneg (by omega)
  have f18 : (lo : Int).tmod (y : Int) = (r : Nat) := by rw [← g4]; exact Int.tmod_eq_emod_of_nonneg (by omega)
  clear h1 h2 hq hr
  go_enter Tryd.func66, Tryd.ntmps66
  go_wp2_with fail
  go_quiet (fail)
  go_wp2_with fail
  go_ret2
  exact ⟨⟨_, rfl⟩, _, rfl⟩

/-- The trial digit. -/
def gsN (f s m : Nat) : Nat := if m ≤ f then B64 - 1 else (f * B64 + s) / m
theorem gsN_lt (f s m : Nat) (hs : s < B64) : gsN f s m < B64 := by
  unfold gsN
  split
  · unfold B64; omega
  · rw [Nat.div_lt_iff_lt_mul (by omega)]
    unfold B64 at *
    omega
set_option maxRecDepth 100000 in
set_option maxHeartbeats 1000000 in
theorem guess_any (f s m : Nat) (hm : 9223372036854775808 ≤ m) (hm2 : m < 18446744073709551616) (hf : f < 18446744073709551616) (hs : s < 18446744073709551616) (w : World) :
    Calls Tryd.prog 62 #[.int .u64 f, .int .u64 s, .int .u64 m] w fun e w' => e = .returned (.int .u64 (gsN f s m : Nat)) ∧ ∃ n, w' = w.drewN n := by
  by_cases h : m ≤ f
  · have g : (m : Int) ≤ (f : Int) := by omega
    have H := Lib.hid h
    clear h
    go_enter Tryd.func62, Tryd.ntmps62
    go_wp2_with fail
    go_ret
    exact ⟨by unfold gsN; rw [if_pos H.out]; rfl, 0, rfl⟩
  · have g : ¬ (m : Int) ≤ (f : Int) := by omega
    have hq : (f * B64 + s) / m < 18446744073709551616 := by
      rw [Nat.div_lt_iff_lt_mul (by omega)]
      unfold B64
      omega
    have H := Lib.hid (And.intro hq h)
    by_cases h0 : f = 0
    · subst h0
      have hD := Lib.hid (div64_zero s m hm hs)
      clear hq h hm hm2 hf hs
      go_enter Tryd.func62, Tryd.ntmps62
      go_wp2_with (first | (go_at_call 66; refine (hD.out _).mono ?_; rintro e w1 ⟨⟨r, rfl⟩, n, rfl⟩) | fail)
      go_ret
      exact ⟨by unfold gsN; rw [if_neg H.out.2, Nat.zero_mul, Nat.zero_add]; rfl, n, rfl⟩
    · have hD := Lib.hid (div64_any f s m hm hm2 (by omega) hs (by omega))
      clear hq h hm hm2 hf hs
      go_enter Tryd.func62, Tryd.ntmps62
      go_wp2_with (first | (go_at_call 66; refine (hD.out _).mono ?_; rintro e w1 ⟨⟨r, rfl⟩, rfl⟩) | fail)
      go_ret
      exact ⟨by unfold gsN; rw [if_neg H.out.2]; rfl, 0, rfl⟩
end Go.Proofs.YtjkniebedgiclaaDoor
