/- Texts laid into one: Pc. -/
import Derived.Test.YtidpekcegocjfaaDoorPa
import Derived.Laws.BitsAllLaws
import Derived.IntWalk
import Derived.Test.YtidpekcegocjfaaDoorPb
import Derived.Deep.RegionLaw
import Derived.Deep.RegionHeld3
import Derived.Laws.Bits64b
import Derived.Lib.Mul64
import Derived.Sort.LoopGhostIn
import Derived.Laws.BytesArg
import Derived.Deep.RegionHeld
import Derived.Deep.MidRow
/- split: a bit is laid behind a word under way (hang). -/
namespace Go.Proofs.YtidpekcegocjfaaDoor
open Go.RowKit
attribute [local go_sem] ix0 ix1 ix2 ix3
/-- A split under way: how often, what is left, by what. -/
abbrev UW (q r b : Nat) : Array Value := #[.int .u64 (lb q 0), .int .u64 (lb q 1), .int .u64 (lb q 2), .int .u64 (lb q 3), .int .u64 (lb r 0), .int .u64 (lb r 1), .int .u64 (lb r 2), .int .u64 (lb r 3), .int .u64 (lb b 0), .int .u64 (lb b 1), .int .u64 (lb b 2), .int .u64 (lb b 3)]
theorem hang_high (m bit i : Nat) (hb : bit ≤ 1) : lb (m * 2 + bit) (i + 1) = lb (m * 2) (i + 1) := by
  unfold lb
  have e : B64 ^ (i + 1) = 2 * (9223372036854775808 * B64 ^ i) := by rw [Nat.pow_succ, Nat.mul_comm, ← Nat.mul_assoc]; rfl
  have h : ∀ x K : Nat, x / (2 * K) = x / 2 / K := fun x K => (Nat.div_div_eq_div_mul x 2 K).symm
  rw [e, h, h, show (m * 2 + bit) / 2 = m by omega, show m * 2 / 2 = m by omega]
theorem hang_0 (m bit : Nat) (hb : bit ≤ 1) : bits .or .u64 (IntKind.u64.wrap (lb m 0 * 2)) (bit : Int) = lb (m * 2 + bit) 0 := by
  unfold lb
  rw [Nat.pow_zero, Nat.div_one, Nat.div_one]
  have h1 := Nat.mod_lt m B64_pos
  have e : IntKind.u64.wrap (((m % B64 : Nat) : Int) * 2) = ((2 ^ 1 * (m % 9223372036854775808) : Nat) : Int) := by
    rw [show (2 : Int) = ((2 : Nat) : Int) from rfl, mulN, wrapM]
    congr 1
    unfold B64
    omega
  rw [e, or_add 1 _ bit (by omega) (by omega)]
  congr 1
  unfold B64
  omega
theorem hang_s (m bit i : Nat) (hb : bit ≤ 1) : bits .or .u64 (IntKind.u64.wrap (lb m (i + 1) * 2)) (lb m i / 9223372036854775808) = lb (m * 2 + bit) (i + 1) := by
  rw [hang_high m bit i hb]
  exact or_i m 2 9223372036854775808 i 1 (by decide) (by decide) (by decide)
theorem hang_1 (m bit : Nat) (hb : bit ≤ 1) : bits .or .u64 (IntKind.u64.wrap (lb m 1 * 2)) (lb m 0 / 9223372036854775808) = lb (m * 2 + bit) 1 := hang_s m bit 0 hb
theorem hang_2 (m bit : Nat) (hb : bit ≤ 1) : bits .or .u64 (IntKind.u64.wrap (lb m 2 * 2)) (lb m 1 / 9223372036854775808) = lb (m * 2 + bit) 2 := hang_s m bit 1 hb
theorem hang_3 (m bit : Nat) (hb : bit ≤ 1) : bits .or .u64 (IntKind.u64.wrap (lb m 3 * 2)) (lb m 2 / 9223372036854775808) = lb (m * 2 + bit) 3 := hang_s m bit 2 hb

end Go.Proofs.YtidpekcegocjfaaDoor

/- split: a bit is taken into a split under way (take). -/
namespace Go.Proofs.YtidpekcegocjfaaDoor
open Go.RowKit
attribute [local go_sem] ix0 ix1 ix2 ix3
theorem MM_two : MM = 2 * (9223372036854775808 * B64 ^ 3) := by unfold MM; rw [Nat.pow_succ, Nat.mul_comm, ← Nat.mul_assoc]; rfl
theorem over_val (r bit : Nat) (hr : r < MM) (hb : bit ≤ 1) : lb r 3 / 9223372036854775808 = (((r * 2 + bit) / MM : Nat) : Int) := by
  have h : ∀ x K : Nat, x / (2 * K) = x / 2 / K := fun x K => (Nat.div_div_eq_div_mul x 2 K).symm
  rw [MM_two, h, show (r * 2 + bit) / 2 = r by omega]
  unfold lb
  have e : r / B64 ^ 3 < B64 := Nat.div_lt_of_lt_mul (by rw [← Nat.pow_succ]; exact hr)
  rw [Nat.mod_eq_of_lt e, Nat.mul_comm, ← Nat.div_div_eq_div_mul]
  omega
theorem bw_4 (V b : Nat) : bw V b 4 = ((if V % MM < b % MM then 1 else 0 : Nat) : Int) := rfl
theorem take_same (V b : Nat) (hb : b < MM) (h : b ≤ V) (hV : V < 2 * b) : ((V / MM : Nat) : Int) = bw V b 4 := by
  rw [bw_4, Nat.mod_eq_of_lt hb]
  by_cases g : V < MM
  · rw [Nat.div_eq_of_lt g, Nat.mod_eq_of_lt g, if_neg (by omega)]
  · have e : V / MM = 1 := by
      apply Nat.div_eq_of_lt_le <;> omega
    have e2 : V % MM = V - MM := by
      have := Nat.div_add_mod V MM
      rw [e] at this; omega
    rw [e, e2, if_pos (by omega)]
theorem take_unlike (V b : Nat) (hb : b < MM) (h : V < b) : ((V / MM : Nat) : Int) ≠ bw V b 4 := by
  rw [bw_4, Nat.mod_eq_of_lt hb, Nat.div_eq_of_lt (by omega), Nat.mod_eq_of_lt (by omega), if_pos h]
  decide
theorem grown_below {w X Y : World} {row : Option Nat} (h : w.grownBy X row) (k : Below X.heap.size X Y) : w.grownBy Y row :=
  ⟨k.os.trans h.os, k.tape.trans h.tape, k.output.trans h.output, Nat.le_trans h.size k.size, fun i hi hne => (k.block i (Nat.lt_of_lt_of_le hi h.size)).trans (h.block i hi hne)⟩

end Go.Proofs.YtidpekcegocjfaaDoor

/- split: tally, told, quotient, rest, width. -/
namespace Go.Proofs.YtidpekcegocjfaaDoor
open Go.RowKit
attribute [local go_sem] ix0 ix1 ix2 ix3
/-- How often, and what is left. -/
abbrev WL (q r : Nat) : Value := .agg #[.int .u64 (lb q 0), .int .u64 (lb q 1), .int .u64 (lb q 2), .int .u64 (lb q 3), .int .u64 (lb r 0), .int .u64 (lb r 1), .int .u64 (lb r 2), .int .u64 (lb r 3)]
end Go.Proofs.YtidpekcegocjfaaDoor

/- split: one step (divide's closure). -/
namespace Go.Proofs.YtidpekcegocjfaaDoor
open Go.RowKit
attribute [local go_sem] ix0 ix1 ix2 ix3
theorem and_1 (a : Nat) (ha : a < 18446744073709551616) : bits .and .u64 (a : Int) 1 = ((a % 2 : Nat) : Int) := by
  have h := bits_and_u64_nat a 1 ha (by omega)
  rw [Nat.and_one_is_mod] at h
  exact h
/-- The bit at a place, out of the number there. -/
theorem bit_at (N p : Nat) : N / B64 ^ (p / 64) % B64 / 2 ^ (p % 64) % 2 = N / 2 ^ p % 2 := by
  have e : B64 = 2 ^ (p % 64) * (2 * 2 ^ (63 - p % 64)) := by
    rw [← Nat.pow_succ', ← Nat.pow_add, show p % 64 + (63 - p % 64 + 1) = 64 by omega]; rfl
  have e2 : 2 ^ p = B64 ^ (p / 64) * 2 ^ (p % 64) := by
    rw [show B64 = 2 ^ 64 from rfl, ← Nat.pow_mul, ← Nat.pow_add, Nat.div_add_mod]
  rw [e2, ← Nat.div_div_eq_div_mul]
  generalize N / B64 ^ (p / 64) = M
  rw [e, Nat.mod_mul_right_div_self, Nat.mod_mul_right_mod]
def stB (r b bit : Nat) : Nat := if b ≤ r * 2 + bit then 1 else 0
def stR (r b bit : Nat) : Nat := if b ≤ r * 2 + bit then r * 2 + bit - b else r * 2 + bit
theorem stR_lt (r b bit : Nat) (hr : r < b) (hbit : bit ≤ 1) : stR r b bit < b := by unfold stR; split <;> omega
theorem stB_le (r b bit : Nat) : stB r b bit ≤ 1 := by unfold stB; split <;> omega

end Go.Proofs.YtidpekcegocjfaaDoor

/- split: how many bits a number of 64 has (math/bits.Len64). -/
namespace Go.Proofs.YtidpekcegocjfaaDoor
open Go.RowKit

abbrev tab8 : ByteArray := ⟨#[0, 1, 2, 2, 3, 3, 3, 3, 4, 4, 4, 4, 4, 4, 4, 4, 5, 5, 5, 5, 5, 5, 5, 5, 5, 5, 5, 5, 5, 5, 5, 5, 6, 6, 6, 6, 6, 6, 6, 6, 6, 6, 6, 6, 6, 6, 6, 6, 6, 6, 6, 6, 6, 6, 6, 6, 6, 6, 6, 6, 6, 6, 6, 6, 7, 7, 7, 7, 7, 7, 7, 7, 7, 7, 7, 7, 7, 7, 7, 7, 7, 7, 7, 7, 7, 7, 7, 7, 7, 7, 7, 7, 7, 7, 7, 7, 7, 7, 7, 7, 7, 7, 7, 7, 7, 7, 7, 7, 7, 7, 7, 7, 7, 7, 7, 7, 7, 7, 7, 7, 7, 7, 7, 7, 7, 7, 7, 7, 8, 8, 8, 8, 8, 8, 8, 8, 8, 8, 8, 8, 8, 8, 8, 8, 8, 8, 8, 8, 8, 8, 8, 8, 8, 8, 8, 8, 8, 8, 8, 8, 8, 8, 8, 8, 8, 8, 8, 8, 8, 8, 8, 8, 8, 8, 8, 8, 8, 8, 8, 8, 8, 8, 8, 8, 8, 8, 8, 8, 8, 8, 8, 8, 8, 8, 8, 8, 8, 8, 8, 8, 8, 8, 8, 8, 8, 8, 8, 8, 8, 8, 8, 8, 8, 8, 8, 8, 8, 8, 8, 8, 8, 8, 8, 8, 8, 8, 8, 8, 8, 8, 8, 8, 8, 8, 8, 8, 8, 8, 8, 8, 8, 8, 8, 8, 8, 8, 8, 8, 8, 8, 8, 8, 8, 8, 8, 8]⟩
theorem tab8_size : tab8.size = 256 := by decide +kernel
theorem tab8_ok : ∀ y : Fin 256, (tab8[y.val]'(by rw [tab8_size]; exact y.isLt)).toNat ≤ 8 ∧ y.val < 2 ^ (tab8[y.val]'(by rw [tab8_size]; exact y.isLt)).toNat := by decide +kernel
theorem wrap_nn (n t : Nat) (hn : n ≤ 56) (ht : t ≤ 8) : wrap64 ((n : Int) + wrap64 (t : Int)) = ((n + t : Nat) : Int) := by
  unfold wrap64; omega
theorem wrap_ww (t : Nat) (ht : t ≤ 8) : wrap64 (wrap64 (t : Int)) = ((0 + t : Nat) : Int) := by
  unfold wrap64; omega

set_option maxRecDepth 100000 in
set_option maxHeartbeats 2000000 in
theorem len64_low (a : Nat) (h3 : a < 256) (w : World) :
    Calls Tryd.prog 32 #[.int .u64 a] w fun e w' => (∃ l : Nat, e = .returned (.int .i64 l) ∧ l ≤ 64 ∧ a < 2 ^ l) ∧ w = w' := by
  have h1 : ¬ (4294967296 : Int) ≤ a := by omega
  have h2 : ¬ (65536 : Int) ≤ a := by omega
  have h4 : (a : Int) < 256 := by omega
  have hw : IntKind.u8.wrap (a : Int) = (a : Int) := IntWalk.u8_in _ (by omega)
  have hk := tab8_ok ⟨a, h3⟩
  have hsz : a < tab8.size := by rw [tab8_size]; exact h3
  obtain ⟨t, ht⟩ : ∃ t, (tab8[a]'hsz).toNat = t := ⟨_, rfl⟩
  have hk2 : t ≤ 8 ∧ a < 2 ^ t := by rw [← ht]; exact hk
  have HT := Lib.hid ht
  clear hk ht
  have HK := Lib.hid hk2
  clear hk2
  go_enter Tryd.func32, Tryd.ntmps32
  go_wp2
  go_ret
  have e := wrap_ww t HK.out.1
  rw [← HT.out] at e
  exact ⟨⟨0 + t, by rw [← HT.out]; exact congrArg (fun z => Ending.returned (Value.int .i64 z)) e, by have := HK.out.1; omega, by rw [Nat.zero_add]; exact HK.out.2⟩, rfl⟩

set_option maxRecDepth 100000 in
set_option maxHeartbeats 2000000 in
theorem len64_001 (a : Nat) (ha : a < 18446744073709551616) (h1 : a < 4294967296) (h2 : a < 65536) (h3 : 256 ≤ a) (w : World) :
    Calls Tryd.prog 32 #[.int .u64 a] w fun e w' => (∃ l : Nat, e = .returned (.int .i64 l) ∧ l ≤ 64 ∧ a < 2 ^ l) ∧ w = w' := by
  have h1i : ¬ (4294967296 : Int) ≤ (a : Int) := by omega
  have h2i : ¬ (65536 : Int) ≤ (a : Int) := by omega
  have h3i : (256 : Int) ≤ (a : Int) := by omega
  obtain ⟨x3, x3e⟩ : ∃ x3, a / 256 = x3 := ⟨_, rfl⟩
  have x3i : (a : Int) / 256 = (x3 : Int) := by omega
  have Hx3 := Lib.hid x3e
  have hz : x3 < 256 := by omega
  have hzi : (x3 : Int) < 256 := by omega
  have hw : IntKind.u8.wrap (x3 : Int) = (x3 : Int) := IntWalk.u8_in _ (by omega)
  have hD : a < 256 * (x3 + 1) := by omega
  have HD := Lib.hid hD
  have hk := tab8_ok ⟨x3, hz⟩
  have hsz : x3 < tab8.size := by rw [tab8_size]; exact hz
  obtain ⟨t, ht⟩ : ∃ t, (tab8[x3]'hsz).toNat = t := ⟨_, rfl⟩
  have hk2 : t ≤ 8 ∧ x3 < 2 ^ t := by rw [← ht]; exact hk
  have HT := Lib.hid ht
  have HK := Lib.hid hk2
  clear hk ht hk2 hD ha x3e
  go_enter Tryd.func32, Tryd.ntmps32
  go_wp2
  go_ret
  have e := wrap_nn 8 t (by omega) HK.out.1
  rw [← HT.out] at e
  refine ⟨⟨8 + t, by rw [← HT.out]; exact congrArg (fun z => Ending.returned (Value.int .i64 z)) e, by have := HK.out.1; omega, ?_⟩, rfl⟩
  rw [Nat.pow_add]
  exact Nat.lt_of_lt_of_le HD.out (Nat.mul_le_mul_left _ HK.out.2)

set_option maxRecDepth 100000 in
set_option maxHeartbeats 2000000 in
theorem len64_010 (a : Nat) (ha : a < 18446744073709551616) (h1 : a < 4294967296) (h2 : 65536 ≤ a) (h3 : a / 65536 < 256) (w : World) :
    Calls Tryd.prog 32 #[.int .u64 a] w fun e w' => (∃ l : Nat, e = .returned (.int .i64 l) ∧ l ≤ 64 ∧ a < 2 ^ l) ∧ w = w' := by
  have h1i : ¬ (4294967296 : Int) ≤ (a : Int) := by omega
  have h2i : (65536 : Int) ≤ (a : Int) := by omega
  obtain ⟨x2, x2e⟩ : ∃ x2, a / 65536 = x2 := ⟨_, rfl⟩
  have x2i : (a : Int) / 65536 = (x2 : Int) := by omega
  have Hx2 := Lib.hid x2e
  have h3i : ¬ (256 : Int) ≤ (x2 : Int) := by omega
  have hz : x2 < 256 := by omega
  have hzi : (x2 : Int) < 256 := by omega
  have hw : IntKind.u8.wrap (x2 : Int) = (x2 : Int) := IntWalk.u8_in _ (by omega)
  have hD : a < 65536 * (x2 + 1) := by omega
  have HD := Lib.hid hD
  have hk := tab8_ok ⟨x2, hz⟩
  have hsz : x2 < tab8.size := by rw [tab8_size]; exact hz
  obtain ⟨t, ht⟩ : ∃ t, (tab8[x2]'hsz).toNat = t := ⟨_, rfl⟩
  have hk2 : t ≤ 8 ∧ x2 < 2 ^ t := by rw [← ht]; exact hk
  have HT := Lib.hid ht
  have HK := Lib.hid hk2
  clear hk ht hk2 hD ha x2e
  go_enter Tryd.func32, Tryd.ntmps32
  go_wp2
  go_ret
  have e := wrap_nn 16 t (by omega) HK.out.1
  rw [← HT.out] at e
  refine ⟨⟨16 + t, by rw [← HT.out]; exact congrArg (fun z => Ending.returned (Value.int .i64 z)) e, by have := HK.out.1; omega, ?_⟩, rfl⟩
  rw [Nat.pow_add]
  exact Nat.lt_of_lt_of_le HD.out (Nat.mul_le_mul_left _ HK.out.2)

set_option maxRecDepth 100000 in
set_option maxHeartbeats 2000000 in
theorem len64_011 (a : Nat) (ha : a < 18446744073709551616) (h1 : a < 4294967296) (h2 : 65536 ≤ a) (h3 : 256 ≤ a / 65536) (w : World) :
    Calls Tryd.prog 32 #[.int .u64 a] w fun e w' => (∃ l : Nat, e = .returned (.int .i64 l) ∧ l ≤ 64 ∧ a < 2 ^ l) ∧ w = w' := by
  have h1i : ¬ (4294967296 : Int) ≤ (a : Int) := by omega
  have h2i : (65536 : Int) ≤ (a : Int) := by omega
  obtain ⟨x2, x2e⟩ : ∃ x2, a / 65536 = x2 := ⟨_, rfl⟩
  have x2i : (a : Int) / 65536 = (x2 : Int) := by omega
  have Hx2 := Lib.hid x2e
  have h3i : (256 : Int) ≤ (x2 : Int) := by omega
  obtain ⟨x3, x3e⟩ : ∃ x3, x2 / 256 = x3 := ⟨_, rfl⟩
  have x3i : (x2 : Int) / 256 = (x3 : Int) := by omega
  have Hx3 := Lib.hid x3e
  have hz : x3 < 256 := by omega
  have hzi : (x3 : Int) < 256 := by omega
  have hw : IntKind.u8.wrap (x3 : Int) = (x3 : Int) := IntWalk.u8_in _ (by omega)
  have hD : a < 16777216 * (x3 + 1) := by omega
  have HD := Lib.hid hD
  have hk := tab8_ok ⟨x3, hz⟩
  have hsz : x3 < tab8.size := by rw [tab8_size]; exact hz
  obtain ⟨t, ht⟩ : ∃ t, (tab8[x3]'hsz).toNat = t := ⟨_, rfl⟩
  have hk2 : t ≤ 8 ∧ x3 < 2 ^ t := by rw [← ht]; exact hk
  have HT := Lib.hid ht
  have HK := Lib.hid hk2
  clear hk ht hk2 hD ha x2e x3e
  go_enter Tryd.func32, Tryd.ntmps32
  go_wp2
  go_ret
  have e := wrap_nn 24 t (by omega) HK.out.1
  rw [← HT.out] at e
  refine ⟨⟨24 + t, by rw [← HT.out]; exact congrArg (fun z => Ending.returned (Value.int .i64 z)) e, by have := HK.out.1; omega, ?_⟩, rfl⟩
  rw [Nat.pow_add]
  exact Nat.lt_of_lt_of_le HD.out (Nat.mul_le_mul_left _ HK.out.2)

set_option maxRecDepth 100000 in
set_option maxHeartbeats 2000000 in
theorem len64_100 (a : Nat) (ha : a < 18446744073709551616) (h1 : 4294967296 ≤ a) (_h2 : a / 4294967296 < 65536) (h3 : a / 4294967296 < 256) (w : World) :
    Calls Tryd.prog 32 #[.int .u64 a] w fun e w' => (∃ l : Nat, e = .returned (.int .i64 l) ∧ l ≤ 64 ∧ a < 2 ^ l) ∧ w = w' := by
  have h1i : (4294967296 : Int) ≤ (a : Int) := by omega
  obtain ⟨x1, x1e⟩ : ∃ x1, a / 4294967296 = x1 := ⟨_, rfl⟩
  have x1i : (a : Int) / 4294967296 = (x1 : Int) := by omega
  have Hx1 := Lib.hid x1e
  have h2i : ¬ (65536 : Int) ≤ (x1 : Int) := by omega
  have h3i : ¬ (256 : Int) ≤ (x1 : Int) := by omega
  have hz : x1 < 256 := by omega
  have hzi : (x1 : Int) < 256 := by omega
  have hw : IntKind.u8.wrap (x1 : Int) = (x1 : Int) := IntWalk.u8_in _ (by omega)
  have hD : a < 4294967296 * (x1 + 1) := by omega
  have HD := Lib.hid hD
  have hk := tab8_ok ⟨x1, hz⟩
  have hsz : x1 < tab8.size := by rw [tab8_size]; exact hz
  obtain ⟨t, ht⟩ : ∃ t, (tab8[x1]'hsz).toNat = t := ⟨_, rfl⟩
  have hk2 : t ≤ 8 ∧ x1 < 2 ^ t := by rw [← ht]; exact hk
  have HT := Lib.hid ht
  have HK := Lib.hid hk2
  clear hk ht hk2 hD ha x1e
  go_enter Tryd.func32, Tryd.ntmps32
  go_wp2
  go_ret
  have e := wrap_nn 32 t (by omega) HK.out.1
  rw [← HT.out] at e
  refine ⟨⟨32 + t, by rw [← HT.out]; exact congrArg (fun z => Ending.returned (Value.int .i64 z)) e, by have := HK.out.1; omega, ?_⟩, rfl⟩
  rw [Nat.pow_add]
  exact Nat.lt_of_lt_of_le HD.out (Nat.mul_le_mul_left _ HK.out.2)

set_option maxRecDepth 100000 in
set_option maxHeartbeats 2000000 in
theorem len64_101 (a : Nat) (ha : a < 18446744073709551616) (h1 : 4294967296 ≤ a) (h2 : a / 4294967296 < 65536) (h3 : 256 ≤ a / 4294967296) (w : World) :
    Calls Tryd.prog 32 #[.int .u64 a] w fun e w' => (∃ l : Nat, e = .returned (.int .i64 l) ∧ l ≤ 64 ∧ a < 2 ^ l) ∧ w = w' := by
  have h1i : (4294967296 : Int) ≤ (a : Int) := by omega
  obtain ⟨x1, x1e⟩ : ∃ x1, a / 4294967296 = x1 := ⟨_, rfl⟩
  have x1i : (a : Int) / 4294967296 = (x1 : Int) := by omega
  have Hx1 := Lib.hid x1e
  have h2i : ¬ (65536 : Int) ≤ (x1 : Int) := by omega
  have h3i : (256 : Int) ≤ (x1 : Int) := by omega
  obtain ⟨x3, x3e⟩ : ∃ x3, x1 / 256 = x3 := ⟨_, rfl⟩
  have x3i : (x1 : Int) / 256 = (x3 : Int) := by omega
  have Hx3 := Lib.hid x3e
  have hz : x3 < 256 := by omega
  have hzi : (x3 : Int) < 256 := by omega
  have hw : IntKind.u8.wrap (x3 : Int) = (x3 : Int) := IntWalk.u8_in _ (by omega)
  have hD : a < 1099511627776 * (x3 + 1) := by omega
  have HD := Lib.hid hD
  have hk := tab8_ok ⟨x3, hz⟩
  have hsz : x3 < tab8.size := by rw [tab8_size]; exact hz
  obtain ⟨t, ht⟩ : ∃ t, (tab8[x3]'hsz).toNat = t := ⟨_, rfl⟩
  have hk2 : t ≤ 8 ∧ x3 < 2 ^ t := by rw [← ht]; exact hk
  have HT := Lib.hid ht
  have HK := Lib.hid hk2
  clear hk ht hk2 hD ha x1e x3e
  go_enter Tryd.func32, Tryd.ntmps32
  go_wp2
  go_ret
  have e := wrap_nn 40 t (by omega) HK.out.1
  rw [← HT.out] at e
  refine ⟨⟨40 + t, by rw [← HT.out]; exact congrArg (fun z => Ending.returned (Value.int .i64 z)) e, by have := HK.out.1; omega, ?_⟩, rfl⟩
  rw [Nat.pow_add]
  exact Nat.lt_of_lt_of_le HD.out (Nat.mul_le_mul_left _ HK.out.2)

set_option maxRecDepth 100000 in
set_option maxHeartbeats 2000000 in
theorem len64_110 (a : Nat) (ha : a < 18446744073709551616) (h1 : 4294967296 ≤ a) (h2 : 65536 ≤ a / 4294967296) (h3 : a / 4294967296 / 65536 < 256) (w : World) :
    Calls Tryd.prog 32 #[.int .u64 a] w fun e w' => (∃ l : Nat, e = .returned (.int .i64 l) ∧ l ≤ 64 ∧ a < 2 ^ l) ∧ w = w' := by
  have h1i : (4294967296 : Int) ≤ (a : Int) := by omega
  obtain ⟨x1, x1e⟩ : ∃ x1, a / 4294967296 = x1 := ⟨_, rfl⟩
  have x1i : (a : Int) / 4294967296 = (x1 : Int) := by omega
  have Hx1 := Lib.hid x1e
  have h2i : (65536 : Int) ≤ (x1 : Int) := by omega
  obtain ⟨x2, x2e⟩ : ∃ x2, x1 / 65536 = x2 := ⟨_, rfl⟩
  have x2i : (x1 : Int) / 65536 = (x2 : Int) := by omega
  have Hx2 := Lib.hid x2e
  have h3i : ¬ (256 : Int) ≤ (x2 : Int) := by omega
  have hz : x2 < 256 := by omega
  have hzi : (x2 : Int) < 256 := by omega
  have hw : IntKind.u8.wrap (x2 : Int) = (x2 : Int) := IntWalk.u8_in _ (by omega)
  have hD : a < 281474976710656 * (x2 + 1) := by omega
  have HD := Lib.hid hD
  have hk := tab8_ok ⟨x2, hz⟩
  have hsz : x2 < tab8.size := by rw [tab8_size]; exact hz
  obtain ⟨t, ht⟩ : ∃ t, (tab8[x2]'hsz).toNat = t := ⟨_, rfl⟩
  have hk2 : t ≤ 8 ∧ x2 < 2 ^ t := by rw [← ht]; exact hk
  have HT := Lib.hid ht
  have HK := Lib.hid hk2
  clear hk ht hk2 hD ha x1e x2e
  go_enter Tryd.func32, Tryd.ntmps32
  go_wp2
  go_ret
  have e := wrap_nn 48 t (by omega) HK.out.1
  rw [← HT.out] at e
  refine ⟨⟨48 + t, by rw [← HT.out]; exact congrArg (fun z => Ending.returned (Value.int .i64 z)) e, by have := HK.out.1; omega, ?_⟩, rfl⟩
  rw [Nat.pow_add]
  exact Nat.lt_of_lt_of_le HD.out (Nat.mul_le_mul_left _ HK.out.2)

set_option maxRecDepth 100000 in
set_option maxHeartbeats 2000000 in
theorem len64_111 (a : Nat) (ha : a < 18446744073709551616) (h1 : 4294967296 ≤ a) (h2 : 65536 ≤ a / 4294967296) (h3 : 256 ≤ a / 4294967296 / 65536) (w : World) :
    Calls Tryd.prog 32 #[.int .u64 a] w fun e w' => (∃ l : Nat, e = .returned (.int .i64 l) ∧ l ≤ 64 ∧ a < 2 ^ l) ∧ w = w' := by
  have h1i : (4294967296 : Int) ≤ (a : Int) := by omega
  obtain ⟨x1, x1e⟩ : ∃ x1, a / 4294967296 = x1 := ⟨_, rfl⟩
  have x1i : (a : Int) / 4294967296 = (x1 : Int) := by omega
  have Hx1 := Lib.hid x1e
  have h2i : (65536 : Int) ≤ (x1 : Int) := by omega
  obtain ⟨x2, x2e⟩ : ∃ x2, x1 / 65536 = x2 := ⟨_, rfl⟩
  have x2i : (x1 : Int) / 65536 = (x2 : Int) := by omega
  have Hx2 := Lib.hid x2e
  have h3i : (256 : Int) ≤ (x2 : Int) := by omega
  obtain ⟨x3, x3e⟩ : ∃ x3, x2 / 256 = x3 := ⟨_, rfl⟩
  have x3i : (x2 : Int) / 256 = (x3 : Int) := by omega
  have Hx3 := Lib.hid x3e
  have hz : x3 < 256 := by omega
  have hzi : (x3 : Int) < 256 := by omega
  have hw : IntKind.u8.wrap (x3 : Int) = (x3 : Int) := IntWalk.u8_in _ (by omega)
  have hD : a < 72057594037927936 * (x3 + 1) := by omega
  have HD := Lib.hid hD
  have hk := tab8_ok ⟨x3, hz⟩
  have hsz : x3 < tab8.size := by rw [tab8_size]; exact hz
  obtain ⟨t, ht⟩ : ∃ t, (tab8[x3]'hsz).toNat = t := ⟨_, rfl⟩
  have hk2 : t ≤ 8 ∧ x3 < 2 ^ t := by rw [← ht]; exact hk
  have HT := Lib.hid ht
  have HK := Lib.hid hk2
  clear hk ht hk2 hD ha x1e x2e x3e
  go_enter Tryd.func32, Tryd.ntmps32
  go_wp2
  go_ret
  have e := wrap_nn 56 t (by omega) HK.out.1
  rw [← HT.out] at e
  refine ⟨⟨56 + t, by rw [← HT.out]; exact congrArg (fun z => Ending.returned (Value.int .i64 z)) e, by have := HK.out.1; omega, ?_⟩, rfl⟩
  rw [Nat.pow_add]
  exact Nat.lt_of_lt_of_le HD.out (Nat.mul_le_mul_left _ HK.out.2)

/-- The bits that a number of 64 has: it lies below that power of two. -/
theorem len64_any (a : Nat) (ha : a < 18446744073709551616) (w : World) :
    Calls Tryd.prog 32 #[.int .u64 a] w fun e w' => (∃ l : Nat, e = .returned (.int .i64 l) ∧ l ≤ 64 ∧ a < 2 ^ l) ∧ w = w' := by
  by_cases h1 : 4294967296 ≤ a
  · by_cases h2 : 65536 ≤ a / 4294967296
    · by_cases h3 : 256 ≤ a / 4294967296 / 65536
      · exact len64_111 a ha h1 h2 h3 w
      · exact len64_110 a ha h1 h2 (by omega) w
    · by_cases h3 : 256 ≤ a / 4294967296
      · exact len64_101 a ha h1 (by omega) h3 w
      · exact len64_100 a ha h1 (by omega) (by omega) w
  · by_cases h2 : 65536 ≤ a
    · by_cases h3 : 256 ≤ a / 65536
      · exact len64_011 a ha (by omega) h2 h3 w
      · exact len64_010 a ha (by omega) h2 (by omega) w
    · by_cases h3 : 256 ≤ a
      · exact len64_001 a ha (by omega) (by omega) h3 w
      · exact len64_low a (by omega) w
end Go.Proofs.YtidpekcegocjfaaDoor

/- split: how many bits a number has (width). -/
namespace Go.Proofs.YtidpekcegocjfaaDoor
open Go.RowKit
attribute [local go_sem] ix0 ix1 ix2 ix3
end Go.Proofs.YtidpekcegocjfaaDoor

/- split: quotient and rest bit by bit, in plain numbers. -/
namespace Go.Proofs.YtidpekcegocjfaaDoor
open Go.RowKit

theorem two_way (b q V : Nat) (hV : V < 2 * b) : (b * (2 * q) + V) / b = q * 2 + (if b ≤ V then 1 else 0) ∧ (b * (2 * q) + V) % b = if b ≤ V then V - b else V := by
  have hb : 0 < b := by omega
  rw [Nat.mul_add_div hb, Nat.mul_add_mod]
  by_cases h : b ≤ V
  · rw [if_pos h, if_pos h]
    have e : V / b = 1 := by apply Nat.div_eq_of_lt_le <;> omega
    have e2 := Nat.div_add_mod V b
    rw [e] at e2
    rw [e]
    constructor <;> omega
  · rw [if_neg h, if_neg h, Nat.div_eq_of_lt (by omega), Nat.mod_eq_of_lt (by omega)]
    constructor <;> omega
/-- One bit more. -/
theorem div_bit (M b bit : Nat) (hb : 0 < b) (hbit : bit ≤ 1) : (M * 2 + bit) / b = (M / b) * 2 + stB (M % b) b bit ∧ (M * 2 + bit) % b = stR (M % b) b bit := by
  have h := Nat.div_add_mod M b
  have hr := Nat.mod_lt M hb
  have e : M * 2 + bit = b * (2 * (M / b)) + (M % b * 2 + bit) := by
    have : b * (2 * (M / b)) = 2 * (b * (M / b)) := by rw [Nat.mul_left_comm]
    omega
  unfold stB stR
  rw [e]
  exact two_way b (M / b) (M % b * 2 + bit) (by omega)
theorem shift_bit (N p : Nat) : N / 2 ^ p = N / 2 ^ (p + 1) * 2 + N / 2 ^ p % 2 := by
  rw [Nat.pow_succ, ← Nat.div_div_eq_div_mul]
  omega
/-- The step from place p + 1 to place p. -/
theorem step_div (N b p : Nat) (hb : 0 < b) : N / 2 ^ p / b = (N / 2 ^ (p + 1) / b) * 2 + stB (N / 2 ^ (p + 1) % b) b (N / 2 ^ p % 2) ∧ N / 2 ^ p % b = stR (N / 2 ^ (p + 1) % b) b (N / 2 ^ p % 2) := by
  have h := div_bit (N / 2 ^ (p + 1)) b (N / 2 ^ p % 2) hb (by omega)
  rw [← shift_bit] at h
  exact h
end Go.Proofs.YtidpekcegocjfaaDoor

/- split: divide. -/
namespace Go.Proofs.YtidpekcegocjfaaDoor
open Go.RowKit
attribute [local go_sem] ix0 ix1 ix2 ix3
abbrev UZ (b : Nat) : Array Value := #[.int .u64 0, .int .u64 0, .int .u64 0, .int .u64 0, .int .u64 0, .int .u64 0, .int .u64 0, .int .u64 0, .int .u64 (lb b 0), .int .u64 (lb b 1), .int .u64 (lb b 2), .int .u64 (lb b 3)]
theorem uz_uw (b : Nat) : UZ b = UW 0 0 b := by unfold UZ UW; simp only [lb_zero]
theorem step_world {n : Nat} {w X Y : World} {g : Nat} (h : Below n w X) (k : X.grownBy Y (some g)) (hn : n ≤ w.heap.size) (hg : n ≤ g) : Below n w Y :=
  h.grown k (Nat.le_trans hn h.size) (fun j e => by cases e; omega)
end Go.Proofs.YtidpekcegocjfaaDoor

/- split: told with each of its two methods. -/
namespace Go.Proofs.YtidpekcegocjfaaDoor
open Go.RowKit
attribute [local go_sem] ix0 ix1 ix2 ix3
abbrev Z4 : Array Value := #[.int .u64 0, .int .u64 0, .int .u64 0, .int .u64 0]

end Go.Proofs.YtidpekcegocjfaaDoor

/- split: Div, Mod, of a divisor that is not nought. -/
namespace Go.Proofs.YtidpekcegocjfaaDoor
open Go.RowKit
attribute [local go_sem] ix0 ix1 ix2 ix3
end Go.Proofs.YtidpekcegocjfaaDoor

/- split: divide by nought. -/
namespace Go.Proofs.YtidpekcegocjfaaDoor
open Go.RowKit
attribute [local go_sem] ix0 ix1 ix2 ix3
end Go.Proofs.YtidpekcegocjfaaDoor

/- split: Div, Mod by nought. -/
namespace Go.Proofs.YtidpekcegocjfaaDoor
open Go.RowKit
attribute [local go_sem] ix0 ix1 ix2 ix3
end Go.Proofs.YtidpekcegocjfaaDoor

/- The reference of layer split: Bit, Negative. -/
namespace Go.Proofs.YtidpekcegocjfaaDoor
open Go.RowKit
attribute [local go_sem] ix0 ix1 ix2 ix3
set_option maxHeartbeats 1000000 in
theorem rbit_any (a p : Nat) (hp : p < 256) (w : World) :
    Calls Tryd.prog 16 #[W a, .int .i64 p] w fun e w' => e = .returned (.bool (a / 2 ^ p % 2 == 1)) ∧ Below w.heap.size w w' := by
  have hs := Blk.new w 24 (Wc a)
  have hc := (cell_of_row _ _ (p / 64) _ _ _ hs).trans (wc_get a (p / 64) (by omega))
  have HBIT := Lib.hid (bit_at a p)
  clear hs
  have hL : a / B64 ^ (p / 64) % B64 < 18446744073709551616 := Nat.mod_lt _ B64_pos
  have hlb : lb a (p / 64) = ((a / B64 ^ (p / 64) % B64 : Nat) : Int) := rfl
  rw [hlb] at hc
  clear hlb
  have g1 : IntKind.i64.wrap ((p : Int) / 64) = (p : Int) / 64 := IntWalk.i64_in _ (by omega)
  have g2 : (0 : Int) ≤ (p : Int) / 64 := by omega
  have g3 : (p : Int) / 64 < 4 := by omega
  have g4 : ((p : Int) / 64).toNat = p / 64 := by omega
  have g5 : (p : Int).tmod 64 = (p : Int) % 64 := Int.tmod_eq_emod_of_nonneg (by omega)
  have g6 : (0 : Int) ≤ (p : Int) % 64 := by omega
  have g7 : IntKind.u64.wrap ((p : Int) % 64) = (p : Int) % 64 := IntWalk.u64_in _ (by omega)
  have g8 : ((p : Int) % 64).toNat = p % 64 := by omega
  obtain ⟨L, hLe⟩ : ∃ L, a / B64 ^ (p / 64) % B64 = L := ⟨_, rfl⟩
  rw [hLe] at hc hL HBIT
  have e : Hid ((((L : Int) / 2 ^ (p % 64)).tmod 2 == 1) = (a / 2 ^ p % 2 == 1)) := by
    show _ = _
    rw [← HBIT.out, show (L : Int) / 2 ^ (p % 64) = ((L / 2 ^ (p % 64) : Nat) : Int) by simp, Int.tmod_eq_emod_of_nonneg (Int.natCast_nonneg _)]
    rw [Bool.eq_iff_iff]; simp only [beq_iff_eq]; omega
  clear hLe
  rw [← e.out]
  go_enter Tryd.func16, Tryd.ntmps16
  go_wp2
  go_ret
  exact ⟨rfl, balloc (Below.refl _ _) _⟩
/-- The word is below nought, as a signed one. -/
def ngN (a : Nat) : Bool := a / 2 ^ 255 % 2 == 1
end Go.Proofs.YtidpekcegocjfaaDoor

/- split: turned; the reference's twice. -/
namespace Go.Proofs.YtidpekcegocjfaaDoor
open Go.RowKit
attribute [local go_sem] ix0 ix1 ix2 ix3
end Go.Proofs.YtidpekcegocjfaaDoor

/- split: the signs of two, of one. -/
namespace Go.Proofs.YtidpekcegocjfaaDoor
open Go.RowKit
attribute [local go_sem] ix0 ix1 ix2 ix3
theorem ng_lb (a : Nat) : (lb a 3 / 9223372036854775808 == 1) = ngN a := by
  unfold ngN
  have h := bit_at a 255
  have h2 : a / B64 ^ 3 % B64 < 18446744073709551616 := Nat.mod_lt _ B64_pos
  rw [show (255 : Nat) / 64 = 3 from rfl, show (255 : Nat) % 64 = 63 from rfl] at h
  rw [← h]
  unfold lb
  rw [Bool.eq_iff_iff]; simp only [beq_iff_eq]
  have e : (2 : Nat) ^ 63 = 9223372036854775808 := rfl
  rw [e]
  omega

end Go.Proofs.YtidpekcegocjfaaDoor

/- split: Negative, Less. -/
namespace Go.Proofs.YtidpekcegocjfaaDoor
open Go.RowKit
attribute [local go_sem] ix0 ix1 ix2 ix3
theorem Blk.block_below {X Y : World} {g : Nat} {t : TypeId} {cs : Array Value} (h : Blk X g t cs) (k : Below X.heap.size X Y) : Blk Y g t cs := (k.block g h.lt).trans h
end Go.Proofs.YtidpekcegocjfaaDoor

/- split: Div and Mod of any two words. -/
namespace Go.Proofs.YtidpekcegocjfaaDoor
open Go.RowKit
attribute [local go_sem] ix0 ix1 ix2 ix3
def mdN (a b : Nat) : Nat := if b = 0 then 0 else a % b
end Go.Proofs.YtidpekcegocjfaaDoor

/- split: SDiv, SMod. -/
namespace Go.Proofs.YtidpekcegocjfaaDoor
open Go.RowKit
attribute [local go_sem] ix0 ix1 ix2 ix3
/-- Turned, if that is asked for. -/
def tnN (a : Nat) (t : Bool) : Nat := if t then sb 0 a else a
theorem tn_lt (a : Nat) (ha : a < MM) : tnN a (ngN a) < MM := by
  unfold tnN
  split
  · rename_i h
    have h0 : 0 < a := by
      rcases Nat.eq_zero_or_pos a with e | e
      · subst e; exact absurd h (by decide +kernel)
      · exact e
    unfold sb; rw [Nat.mod_eq_of_lt ha]; omega
  · exact ha
/-- Signed ones split. -/
def sdN (a b : Nat) : Nat := tnN (tnN a (ngN a) / tnN b (ngN b)) (!(ngN a == ngN b))
def smN (a b : Nat) : Nat := tnN (mdN (tnN a (ngN a)) (tnN b (ngN b))) (ngN a)

/-- A word's block R alone may be written. -/
def HeldR (W1 : World) (R : Nat) (w' : World) : Prop := W1.grownBy w' (some R) ∧ ∃ t cs, cs.size = 4 ∧ Blk w' R t cs
def cellv (w' : World) (p : Addr) : Value := (w'.cell? p).getD undef
theorem HeldR.cell {W1 w' : World} {R : Nat} (h : HeldR W1 R w') (k : Nat) (hk : k < 4) : w'.cell? ⟨R, k, none⟩ = some (cellv w' ⟨R, k, none⟩) := by
  obtain ⟨_, t, cs, hs, hb⟩ := h
  have e := cell_of_row w' R k _ _ _ hb
  unfold cellv
  rw [e, Array.getElem?_eq_getElem (by omega)]; rfl
theorem HeldR.frozen {W1 w' : World} {R : Nat} (h : HeldR W1 R w') (k : Nat) : w'.frozen? ⟨R, k, none⟩ = false := by
  obtain ⟨_, t, cs, hs, hb⟩ := h
  exact frozen_of_row w' R k _ _ hb
theorem HeldR.blk {W1 w' : World} {R g : Nat} {t : TypeId} {cs : Array Value} (h : HeldR W1 R w') (hb : Blk W1 g t cs) (hne : g ≠ R) : Blk w' g t cs := hb.kept h.1 (fun e => hne (Option.some.inj e))
theorem HeldR.at {W1 w' : World} {R g k : Nat} {t : TypeId} {cs : Array Value} {v : Value} (h : HeldR W1 R w') (hb : Blk W1 g t cs) (hne : g ≠ R) (hv : cs[k]? = some v) : w'.cell? ⟨g, k, none⟩ = some v := (cell_of_row w' g k _ _ _ (h.blk hb hne)).trans hv
theorem HeldR.start {W1 : World} {R : Nat} {t : TypeId} {cs : Array Value} (hs : cs.size = 4) (h : Blk W1 R t cs) : HeldR W1 R W1.drew := ⟨grown_drew (grown_refl W1 R), t, cs, hs, h⟩
theorem HeldR.call {W1 w' w'' : World} {R : Nat} (k : Below w'.heap.size w' w'') (h : HeldR W1 R w') : HeldR W1 R w'' := by
  obtain ⟨hg, t, cs, hs, hb⟩ := h
  exact ⟨grown_below hg k, t, cs, hs, hb.block_below k⟩
theorem HeldR.set {W1 w' : World} {R : Nat} (h : HeldR W1 R w') (k : Nat) (v : Value) : HeldR W1 R (w'.setCell ⟨R, k, none⟩ v) := by
  obtain ⟨hg, t, cs, hs, hb⟩ := h
  exact ⟨grown_set' hg k v, t, cs.setIfInBounds k v, by simpa using hs, heap_setCell_same w' R k _ _ _ hb⟩
theorem HeldR.below {w W1 w' : World} {R n : Nat} (h : HeldR W1 R w') (hb : Below n w W1) (hn : n ≤ w.heap.size) (hR : n ≤ R) : Below n w w' := step_world hb h.1 hn hR

attribute [local irreducible] lb tnN mdN
end Go.Proofs.YtidpekcegocjfaaDoor

/- split: the whole sum of two words. -/
namespace Go.Proofs.YtidpekcegocjfaaDoor
open Go.RowKit
attribute [local go_sem] ix0 ix1 ix2 ix3
theorem cy_four (a b : Nat) (ha : a < MM) (hb : b < MM) : cy a b 4 = lb (a + b) 4 := by
  unfold cy lb
  have e1 : a % B64 ^ 4 = a := Nat.mod_eq_of_lt ha
  have e2 : b % B64 ^ 4 = b := Nat.mod_eq_of_lt hb
  rw [e1, e2]
  congr 1
  have h : (a + b) / B64 ^ 4 < 2 := Nat.div_lt_of_lt_mul (by show a + b < MM * 2; omega)
  exact (Nat.mod_eq_of_lt (Nat.lt_trans h (by unfold B64; omega))).symm

end Go.Proofs.YtidpekcegocjfaaDoor

/- split: AddMod. -/
namespace Go.Proofs.YtidpekcegocjfaaDoor
open Go.RowKit
attribute [local go_sem] ix0 ix1 ix2 ix3
attribute [local irreducible] lb mdN
end Go.Proofs.YtidpekcegocjfaaDoor

/- split: the whole product of two words. -/
namespace Go.Proofs.YtidpekcegocjfaaDoor
open Go.RowKit
attribute [local go_sem] ix0 ix1 ix2 ix3
theorem add64_nn (x y : Nat) (w : World) :
    (callFunc 41 #[.int .u64 x, .int .u64 y, .int .u64 0]).run Tryd.prog w =
      .ok (.value (.tuple #[.int .u64 (((x + y) % B64 : Nat) : Int), .int .u64 (((x + y) / B64 : Nat) : Int)])) w := by
  rw [run_callFunc_extern (fn := Tryd.f41) (by kernel_rfl) (by kernel_rfl) (by kernel_rfl) (by kernel_rfl) (e := add64Entry) (by kernel_rfl), run_add64 _ _ _ (by omega) (by omega) (by omega) (by omega)]
  simp only [Result.andThen, Int.add_zero]
  rfl
/-- Eight limbs. -/
def Lc (f : Nat → Nat) : Array Value := #[.int .u64 (f 0 : Nat), .int .u64 (f 1 : Nat), .int .u64 (f 2 : Nat), .int .u64 (f 3 : Nat), .int .u64 (f 4 : Nat), .int .u64 (f 5 : Nat), .int .u64 (f 6 : Nat), .int .u64 (f 7 : Nat)]
theorem Lc_get (f : Nat → Nat) (k : Nat) (hk : k < 8) : (Lc f)[k]? = some (.int .u64 (f k : Nat)) := by
  match k, hk with
  | 0, _ | 1, _ | 2, _ | 3, _ | 4, _ | 5, _ | 6, _ | 7, _ => rfl
theorem Lc_set (f : Nat → Nat) (k v : Nat) (hk : k < 8) : (Lc f).setIfInBounds k (.int .u64 (v : Nat)) = Lc (updN f k v) := by
  match k, hk with
  | 0, _ | 1, _ | 2, _ | 3, _ | 4, _ | 5, _ | 6, _ | 7, _ => rfl
theorem Lc_zero : Lc (fun _ => 0) = #[.int .u64 0, .int .u64 0, .int .u64 0, .int .u64 0, .int .u64 0, .int .u64 0, .int .u64 0, .int .u64 0] := rfl

end Go.Proofs.YtidpekcegocjfaaDoor

/- split: MulMod. -/
namespace Go.Proofs.YtidpekcegocjfaaDoor
open Go.RowKit
attribute [local go_sem] ix0 ix1 ix2 ix3
attribute [local irreducible] lb mdN
end Go.Proofs.YtidpekcegocjfaaDoor

/- split: pairs. -/
namespace Go.Proofs.YtidpekcegocjfaaDoor
open Go.RowKit Go.Shelf
attribute [local go_sem] ix0 ix1 ix2 ix3
attribute [local go_sem] Oper.semAt_some
/-- Euclid's way. -/
def eu (a b : Nat) : Nat → Nat
  | 0 => a
  | 1 => b
  | k + 2 => mdN (eu a b k) (eu a b (k + 1))
theorem mdN_lt (a b : Nat) (ha : a < MM) : mdN a b < MM := by
  unfold mdN; split
  · exact MM_pos
  · exact Nat.lt_of_le_of_lt (Nat.mod_le _ _) ha
theorem eu_lt (a b : Nat) (ha : a < MM) (hb : b < MM) : ∀ k, eu a b k < MM
  | 0 => ha
  | 1 => hb
  | k + 2 => mdN_lt _ _ (eu_lt a b ha hb k)
/-- Two of them, as cells. -/
abbrev Pc (x y : Nat) : Array Value := #[.int .u64 (lb x 0), .int .u64 (lb x 1), .int .u64 (lb x 2), .int .u64 (lb x 3), .int .u64 (lb y 0), .int .u64 (lb y 1), .int .u64 (lb y 2), .int .u64 (lb y 3)]
theorem Blk.set4 {X : World} {g : Nat} {t : TypeId} {x : Nat} (h : Blk X g t (Wc x)) (y : Nat) : Blk ((((X.setCell ⟨g, 0, none⟩ (.int .u64 (lb y 0))).setCell ⟨g, 1, none⟩ (.int .u64 (lb y 1))).setCell ⟨g, 2, none⟩ (.int .u64 (lb y 2))).setCell ⟨g, 3, none⟩ (.int .u64 (lb y 3))) g t (Wc y) := by
  have h0 := heap_setCell_same X g 0 _ _ (.int .u64 (lb y 0)) h
  have h1 := heap_setCell_same _ g 1 _ _ (.int .u64 (lb y 1)) h0
  have h2 := heap_setCell_same _ g 2 _ _ (.int .u64 (lb y 2)) h1
  exact heap_setCell_same _ g 3 _ _ (.int .u64 (lb y 3)) h2
theorem grown_set4 (X : World) (g : Nat) (v0 v1 v2 v3 : Value) : X.grownBy ((((X.setCell ⟨g, 0, none⟩ v0).setCell ⟨g, 1, none⟩ v1).setCell ⟨g, 2, none⟩ v2).setCell ⟨g, 3, none⟩ v3) (some g) :=
  grown_set' (grown_set' (grown_set' (grown_set' (grown_refl X g) 0 v0) 1 v1) 2 v2) 3 v3
attribute [local irreducible] lb mdN
end Go.Proofs.YtidpekcegocjfaaDoor

/- split: Steps: Euclid's way one by one, out of pairs. -/

namespace Go.Proofs.YtidpekcegocjfaaDoor
open Go.RowKit Go.Shelf
attribute [local go_sem] ix0 ix1 ix2 ix3
attribute [local go_sem] Oper.semAt_some
/-- The words that come by twos, one by one. -/
def fl (pre : List Nat) : List Nat := pre.flatMap (fun k => [2 * k, 2 * k + 1])
theorem fl_snoc (pre : List Nat) (k : Nat) : fl (pre ++ [k]) = fl pre ++ [2 * k] ++ [2 * k + 1] := by unfold fl; simp
theorem fl_range : ∀ m, fl (List.range m) = List.range (2 * m)
  | 0 => rfl
  | m + 1 => by rw [List.range_succ, fl_snoc, fl_range m, show 2 * (m + 1) = 2 * m + 1 + 1 by omega, List.range_succ, List.range_succ]
/-- Where Euclid's way ends. -/
theorem eu_falls (a b : Nat) (hb : b < MM) : ∀ k, (∀ i, i ≤ k → eu a b (i + 1) ≠ 0) → eu a b (k + 1) + k ≤ b
  | 0, _ => Nat.le_refl _
  | k + 1, h => by
    have h1 := eu_falls a b hb k (fun i hi => h i (by omega))
    have h2 : eu a b (k + 2) < eu a b (k + 1) := by
      show mdN _ _ < _
      have h3 := h k (by omega)
      unfold mdN; rw [if_neg h3]; exact Nat.mod_lt _ (by omega)
    show eu a b (k + 2) + (k + 1) ≤ b
    omega
theorem eu_ends (a b : Nat) (hb : b < MM) : ∃ N, eu a b N = 0 ∧ (∀ i, i < N → eu a b i ≠ 0) ∧ N ≤ b + 2 := by
  obtain ⟨N, h1, h2⟩ := exists_least (p := fun k => eu a b k = 0) (by
    refine Classical.byContradiction fun h => ?_
    have h3 := eu_falls a b hb (b + 1) (fun i _ e => h ⟨i + 1, e⟩)
    omega)
  refine ⟨N, h1, fun i hi e => by have := h2 i e; omega, ?_⟩
  refine Classical.byContradiction fun h => ?_
  have h3 := eu_falls a b hb (b + 1) (fun i hi e => by have := h2 (i + 1) e; omega)
  omega
theorem blk_cells {X Y : World} {g : Nat} {t : TypeId} {cs : Array Value} {row : Option Nat} (h : Blk X g t cs) (hg : X.grownBy Y row) (hr : ∀ r, row = some r → ∃ o : Obj, X.heap[r]? = some o ∧ o.isCells = false) : Blk Y g t cs :=
  h.kept hg (fun e => by obtain ⟨o, ho, hc⟩ := hr g e.symm; rw [show X.heap[g]? = _ from h] at ho; cases ho; cases hc)
theorem round_at {F : Fence} {n : Nat} {P : Program} {l : Nat} {f : FuncId} {tmps : Array Value} {assign body : Code} {w : World} {R : Ending → World → Prop} (k : Nat) (h : RoundIn F n P l f tmps assign body w R) : RoundIn (F.inRound k) n P l f tmps assign body w R := h

/-- What the loop over pairs comes to. -/
def LeftAt (a b : Nat) (J Jx : List Nat → World → Prop) (q : List Nat) (k : Nat) (X : World) : Prop :=
  (eu a b (2 * k) = 0 ∧ J (fl q) X) ∨ (eu a b (2 * k) ≠ 0 ∧ Jx (fl q ++ [2 * k]) X) ∨ (eu a b (2 * k) ≠ 0 ∧ eu a b (2 * k + 1) = 0 ∧ J (fl q ++ [2 * k]) X) ∨ (eu a b (2 * k) ≠ 0 ∧ eu a b (2 * k + 1) ≠ 0 ∧ Jx (fl q ++ [2 * k] ++ [2 * k + 1]) X)

theorem leftAt_abide (a b : Nat) {J Jx : List Nat → World → Prop} {B : Nat} (hJ : Abide B J) (hJx : Abide B Jx) (q : List Nat) (k : Nat) : Abide B (fun (_ : List Nat) X => LeftAt a b J Jx q k X) := fun _ X Y row hs hg hr => by
  rcases hs with ⟨h1, h2⟩ | ⟨h1, h2⟩ | ⟨h1, h2, h3⟩ | ⟨h1, h2, h3⟩
  · exact .inl ⟨h1, hJ _ X Y row h2 hg hr⟩
  · exact .inr (.inl ⟨h1, hJx _ X Y row h2 hg hr⟩)
  · exact .inr (.inr (.inl ⟨h1, h2, hJ _ X Y row h3 hg hr⟩))
  · exact .inr (.inr (.inr ⟨h1, h2, hJx _ X Y row h3 hg hr⟩))
theorem eq_nought (x : Nat) (hx : x < MM) (w : World) : (binOp .eql 24 (W x) (.agg #[.int .u64 0, .int .u64 0, .int .u64 0, .int .u64 0])).run Tryd.prog w = .ok (.bool (x == 0)) w := by
  have h := eqW x 0 w
  rw [W_zero, Nat.mod_eq_of_lt hx, Nat.zero_mod] at h
  exact h
theorem steps_gd {a b x : Nat} {pre : List Nat} (hg : pre = List.range x) (hn : ∀ i, i ∈ fl pre → eu a b i ≠ 0) (h : eu a b (2 * x) ≠ 0) : fl pre = List.range (2 * x) ∧ ∀ i, i ≤ 2 * x → eu a b i ≠ 0 := by
  subst hg
  rw [fl_range] at hn ⊢
  refine ⟨rfl, fun i hi => ?_⟩
  by_cases e : i = 2 * x
  · rw [e]; exact h
  · exact hn i (List.mem_range.2 (by omega))
theorem steps_gd2 {a b x : Nat} {pre : List Nat} (hg : pre = List.range x) (hn : ∀ i, i ∈ fl pre → eu a b i ≠ 0) (h : eu a b (2 * x) ≠ 0) (h' : eu a b (2 * x + 1) ≠ 0) : fl pre ++ [2 * x] = List.range (2 * x + 1) ∧ ∀ i, i ≤ 2 * x + 1 → eu a b i ≠ 0 := by
  obtain ⟨h1, h2⟩ := steps_gd hg hn h
  refine ⟨by rw [h1, List.range_succ], fun i hi => ?_⟩
  by_cases e : i = 2 * x + 1
  · rw [e]; exact h'
  · exact h2 i (by omega)
attribute [local irreducible] lb mdN
end Go.Proofs.YtidpekcegocjfaaDoor

/- split's law: works: what its rows want, at their words. -/
namespace Go.Proofs.YtidpekcegocjfaaDoor
open Go.RowKit Go.Shelf
attribute [local go_sem] ix0 ix1 ix2 ix3
attribute [local go_sem] Oper.semAt_some
theorem rof_int (n : Int) (w : World) :
    Calls Tryd.prog 12 #[.int .u64 n] w fun e w' => e = .returned (.agg #[.int .u64 n, .int .u64 0, .int .u64 0, .int .u64 0]) ∧ Below w.heap.size w w' := by
  go_enter Tryd.func12, Tryd.ntmps12
  go_wp2
  exact bodyPost_ret (v := .agg #[.int .u64 n, .int .u64 0, .int .u64 0, .int .u64 0]) (by simp [results, Tryd.results12, go_sem]) rfl ⟨rfl, by first | exact (Below.refl _ _).alloc (Nat.le_refl _) _ | exact Below.refl _ _⟩
theorem eq_same (t : TypeId) (ht : Tryd.prog.underlying t = some (.array 4 22)) (a b c d : Int) (w : World) : (binOp .eql t (.agg #[.int .u64 a, .int .u64 b, .int .u64 c, .int .u64 d]) (.agg #[.int .u64 a, .int .u64 b, .int .u64 c, .int .u64 d])).run Tryd.prog w = .ok (.bool true) w := by
  obtain ⟨i, hi⟩ := Option.isSome_iff_exists.1 info_u64
  have f : ∀ j, j < 4 → (#[Value.int .u64 a, .int .u64 b, .int .u64 c, .int .u64 d] : Array Value)[j]? = some (.int .u64 (([a, b, c, d] : List Int).getD j 0)) := fun j hj => by
    match j, hj with
    | 0, _ | 1, _ | 2, _ | 3, _ => rfl
  rw [run_eql_ints ht (k := .u64) (by kernel_rfl) hi (by kernel_rfl) _ _ (fun j => ([a, b, c, d] : List Int).getD j 0) (fun j => ([a, b, c, d] : List Int).getD j 0) (fun j hj => ⟨f j hj, f j hj⟩) w]
  simp
theorem eq_sameW (a b c d : Int) (w : World) : (binOp .eql 24 (.agg #[.int .u64 a, .int .u64 b, .int .u64 c, .int .u64 d]) (.agg #[.int .u64 a, .int .u64 b, .int .u64 c, .int .u64 d])).run Tryd.prog w = .ok (.bool true) w := eq_same _ (by kernel_rfl) a b c d w

theorem W_of (n : Nat) (v : Int) (h0 : lb n 0 = v) (h1 : lb n 1 = 0) (h2 : lb n 2 = 0) (h3 : lb n 3 = 0) : W n = .agg #[.int .u64 v, .int .u64 0, .int .u64 0, .int .u64 0] := by unfold W; rw [h0, h1, h2, h3]
theorem W_1 : W 1 = .agg #[.int .u64 1, .int .u64 0, .int .u64 0, .int .u64 0] := W_of 1 1 (by decide +kernel) (by decide +kernel) (by decide +kernel) (by decide +kernel)
theorem W_2 : W 2 = .agg #[.int .u64 2, .int .u64 0, .int .u64 0, .int .u64 0] := W_of 2 2 (by decide +kernel) (by decide +kernel) (by decide +kernel) (by decide +kernel)
theorem W_3 : W 3 = .agg #[.int .u64 3, .int .u64 0, .int .u64 0, .int .u64 0] := W_of 3 3 (by decide +kernel) (by decide +kernel) (by decide +kernel) (by decide +kernel)
theorem W_4 : W 4 = .agg #[.int .u64 4, .int .u64 0, .int .u64 0, .int .u64 0] := W_of 4 4 (by decide +kernel) (by decide +kernel) (by decide +kernel) (by decide +kernel)
theorem W_7 : W 7 = .agg #[.int .u64 7, .int .u64 0, .int .u64 0, .int .u64 0] := W_of 7 7 (by decide +kernel) (by decide +kernel) (by decide +kernel) (by decide +kernel)
theorem W_12 : W 12 = .agg #[.int .u64 12, .int .u64 0, .int .u64 0, .int .u64 0] := W_of 12 12 (by decide +kernel) (by decide +kernel) (by decide +kernel) (by decide +kernel)
theorem W_18 : W 18 = .agg #[.int .u64 18, .int .u64 0, .int .u64 0, .int .u64 0] := W_of 18 18 (by decide +kernel) (by decide +kernel) (by decide +kernel) (by decide +kernel)
theorem W_neg (n : Nat) (v : Int) (h0 : lb (sb 0 n) 0 = v) (h1 : lb (sb 0 n) 1 = 18446744073709551615) (h2 : lb (sb 0 n) 2 = 18446744073709551615) (h3 : lb (sb 0 n) 3 = 18446744073709551615) : W (sb 0 n) = .agg #[.int .u64 v, .int .u64 18446744073709551615, .int .u64 18446744073709551615, .int .u64 18446744073709551615] := by unfold W; rw [h0, h1, h2, h3]
theorem W_m1 : W (sb 0 1) = .agg #[.int .u64 18446744073709551615, .int .u64 18446744073709551615, .int .u64 18446744073709551615, .int .u64 18446744073709551615] := W_neg 1 _ (by decide +kernel) (by decide +kernel) (by decide +kernel) (by decide +kernel)
theorem W_m3 : W (sb 0 3) = .agg #[.int .u64 18446744073709551613, .int .u64 18446744073709551615, .int .u64 18446744073709551615, .int .u64 18446744073709551615] := W_neg 3 _ (by decide +kernel) (by decide +kernel) (by decide +kernel) (by decide +kernel)
theorem W_m7 : W (sb 0 7) = .agg #[.int .u64 18446744073709551609, .int .u64 18446744073709551615, .int .u64 18446744073709551615, .int .u64 18446744073709551615] := W_neg 7 _ (by decide +kernel) (by decide +kernel) (by decide +kernel) (by decide +kernel)
theorem W_top : W (2 ^ 255) = .agg #[.int .u64 0, .int .u64 0, .int .u64 0, .int .u64 9223372036854775808] := by
  have h0 : lb (2 ^ 255) 0 = 0 := by decide +kernel
  have h1 : lb (2 ^ 255) 1 = 0 := by decide +kernel
  have h2 : lb (2 ^ 255) 2 = 0 := by decide +kernel
  have h3 : lb (2 ^ 255) 3 = 9223372036854775808 := by decide +kernel
  unfold W; rw [h0, h1, h2, h3]
theorem m_lt (n : Nat) (h : n < 1000) : n < MM := Nat.lt_trans h (by decide +kernel)

end Go.Proofs.YtidpekcegocjfaaDoor

/- split's law: works: the walk up to its last line. -/
namespace Go.Proofs.YtidpekcegocjfaaDoor
open Go.RowKit Go.Shelf
attribute [local go_sem] ix0 ix1 ix2 ix3
attribute [local go_sem] Oper.semAt_some
attribute [local irreducible] lb mdN
/-- The text of the steps of 12 and 18 so far. -/
def stN (k : Nat) : ByteArray := ⟨((#[109, 115, 109, 103] : Array UInt8).toList.take k).toArray⟩

theorem conv1 (X : World) (c : Int) (s : ByteArray) (hs : strOfNums [c] = s) : (convert 45 9 (.slice (some ⟨X.heap.size, 0, none⟩) 1 1)).run Tryd.prog (X.alloc (.cells #[.int .u8 c] 5)) = .ok (.string s) (X.alloc (.cells #[.int .u8 c] 5)) := by
  have hb := Blk.new X 5 #[.int .u8 c]
  have h := run_convert_bytes_arg (P := Tryd.prog) (X.alloc (.cells #[.int .u8 c] 5)) 45 5 (by kernel_rfl) (by kernel_rfl) X.heap.size 0 1 1 [c] rfl (fun i hi => by
    obtain rfl : i = 0 := by omega
    exact cell_of_row _ _ 0 _ _ _ hb) 9 (by kernel_rfl)
  rwa [hs] at h

end Go.Proofs.YtidpekcegocjfaaDoor

/- split's reference: twice. -/
namespace Go.Proofs.YtidpekcegocjfaaDoor
open Go.RowKit Go.Shelf
attribute [local go_sem] ix0 ix1 ix2 ix3
theorem lb_odd0 (n : Nat) : bits .or .u64 (lb (n + n) 0) 1 = lb (n + n + 1) 0 := by
  unfold lb
  rw [Nat.pow_zero, Nat.div_one, Nat.div_one]
  have e1 : (n + n) % B64 = 2 ^ 1 * (n % 9223372036854775808) := by unfold B64; omega
  have e2 : (n + n + 1) % B64 = 2 ^ 1 * (n % 9223372036854775808) + 1 := by unfold B64; omega
  rw [e1, e2]
  exact or_add 1 (n % 9223372036854775808) 1 (by omega) (by omega)
theorem lb_odd (n i : Nat) : lb (n + n + 1) (i + 1) = lb (n + n) (i + 1) := by
  unfold lb
  congr 2
  rw [Nat.pow_succ, Nat.mul_comm, ← Nat.div_div_eq_div_mul, ← Nat.div_div_eq_div_mul]
  congr 1
  unfold B64
  omega

end Go.Proofs.YtidpekcegocjfaaDoor

/- split's reference: Divide, of a divisor that is not nought. -/
namespace Go.Proofs.YtidpekcegocjfaaDoor
open Go.RowKit Go.Shelf
attribute [local go_sem] ix0 ix1 ix2 ix3
theorem top_bit (r : Nat) (hr : r < MM) : (r / 2 ^ 255 % 2 == 1) = decide (MM ≤ r + r) := by
  have e : MM = 2 ^ 255 + 2 ^ 255 := by decide +kernel
  have h1 : r / 2 ^ 255 < 2 := Nat.div_lt_of_lt_mul (by omega)
  rw [Bool.eq_iff_iff]
  simp only [beq_iff_eq, decide_eq_true_eq]
  constructor
  · intro h
    have h2 : 1 ≤ r / 2 ^ 255 := by omega
    have h3 := (Nat.le_div_iff_mul_le (Nat.pow_pos (by omega))).1 h2
    omega
  · intro h
    have h2 : 1 ≤ r / 2 ^ 255 := (Nat.le_div_iff_mul_le (Nat.pow_pos (by omega))).2 (by omega)
    omega
theorem mm_even (r bit : Nat) (hb : bit ≤ 1) : MM ≤ r + r + bit ↔ MM ≤ r + r := by
  have e : MM = 2 ^ 255 + 2 ^ 255 := by decide +kernel
  omega

theorem join1 {C : Nat → World → Prop} {G : Prop} (P : Nat → World → Prop) (main : (∀ X wz, C X wz → P X wz) → G) (hrest : ∀ X wz, C X wz → P X wz) : G := main hrest

end Go.Proofs.YtidpekcegocjfaaDoor

/- split's reference: Divide of any word, Abs. -/
namespace Go.Proofs.YtidpekcegocjfaaDoor
open Go.RowKit Go.Shelf
attribute [local go_sem] ix0 ix1 ix2 ix3
end Go.Proofs.YtidpekcegocjfaaDoor

