/- Texts laid into one: Pc. -/
import Derived.Test.YthjbiojbmjgkbaaDoorPa
import Derived.Laws.BitsAllLaws
import Derived.IntWalk
import Derived.Test.YthjbiojbmjgkbaaDoorPb
import Derived.Deep.RegionLaw
import Derived.Deep.RegionHeld3
import Derived.Laws.Bits64b
import Derived.Lib.Mul64
import Derived.Sort.LoopGhostIn
import Derived.Laws.BytesArg
import Derived.Deep.RegionHeld
import Derived.Deep.MidRow
/- split: a bit is laid behind a word under way (hang). -/
namespace Go.Proofs.YthjbiojbmjgkbaaDoor
open Go.RowKit
attribute [local go_sem] ix0 ix1 ix2 ix3
/-- A split under way: how often, what is left, by what. -/
abbrev UW (q r b : Nat) : Array Value := #[.int .u64 (lb q 0), .int .u64 (lb q 1), .int .u64 (lb q 2), .int .u64 (lb q 3), .int .u64 (lb r 0), .int .u64 (lb r 1), .int .u64 (lb r 2), .int .u64 (lb r 3), .int .u64 (lb b 0), .int .u64 (lb b 1), .int .u64 (lb b 2), .int .u64 (lb b 3)]
theorem hang_high (m bit i : Nat) (hb : bit ≤ 1) : lb (m * 2 + bit) (i + 1) = lb (m * 2) (i + 1) := by
  unfold lb
  have e : B64 ^ (i + 1) = 2 * (9223372036854775808 * B64 ^ i) := by rw [Nat.pow_succ, Nat.mul_comm, ← Nat.mul_assoc]; rfl
  have h : ∀ x K : Nat, x / (2 * K) = x / 2 / K := fun x K => (Nat.div_div_eq_div_mul x 2 K).symm
  rw [e, h, h, show (m * 2 + bit) / 2 = m by omega, show m * 2 / 2 = m by omega]
theorem hang_0 (m bit : Nat) (hb : bit ≤ 1) : bits .or .u64 (IntKind.u64.wrap (lb m 0 * 2)) (bit : Int) = lb (m * 2 + bit) 0 := by
  unfold lb
  rw [Nat.pow_zero, Nat.div_one, Nat.div_one]
  have h1 := Nat.mod_lt m B64_pos
  have e : IntKind.u64.wrap (((m % B64 : Nat) : Int) * 2) = ((2 ^ 1 * (m % 9223372036854775808) : Nat) : Int) := by
    rw [show (2 : Int) = ((2 : Nat) : Int) from rfl, mulN, wrapM]
    congr 1
    unfold B64
    omega
  rw [e, or_add 1 _ bit (by omega) (by omega)]
  congr 1
  unfold B64
  omega
theorem hang_s (m bit i : Nat) (hb : bit ≤ 1) : bits .or .u64 (IntKind.u64.wrap (lb m (i + 1) * 2)) (lb m i / 9223372036854775808) = lb (m * 2 + bit) (i + 1) := by
  rw [hang_high m bit i hb]
  exact or_i m 2 9223372036854775808 i 1 (by decide) (by decide) (by decide)
theorem hang_1 (m bit : Nat) (hb : bit ≤ 1) : bits .or .u64 (IntKind.u64.wrap (lb m 1 * 2)) (lb m 0 / 9223372036854775808) = lb (m * 2 + bit) 1 := hang_s m bit 0 hb
theorem hang_2 (m bit : Nat) (hb : bit ≤ 1) : bits .or .u64 (IntKind.u64.wrap (lb m 2 * 2)) (lb m 1 / 9223372036854775808) = lb (m * 2 + bit) 2 := hang_s m bit 1 hb
theorem hang_3 (m bit : Nat) (hb : bit ≤ 1) : bits .or .u64 (IntKind.u64.wrap (lb m 3 * 2)) (lb m 2 / 9223372036854775808) = lb (m * 2 + bit) 3 := hang_s m bit 2 hb

end Go.Proofs.YthjbiojbmjgkbaaDoor

/- split: a bit is taken into a split under way (take). -/
namespace Go.Proofs.YthjbiojbmjgkbaaDoor
open Go.RowKit
attribute [local go_sem] ix0 ix1 ix2 ix3
theorem MM_two : MM = 2 * (9223372036854775808 * B64 ^ 3) := by unfold MM; rw [Nat.pow_succ, Nat.mul_comm, ← Nat.mul_assoc]; rfl
theorem over_val (r bit : Nat) (hr : r < MM) (hb : bit ≤ 1) : lb r 3 / 9223372036854775808 = (((r * 2 + bit) / MM : Nat) : Int) := by
  have h : ∀ x K : Nat, x / (2 * K) = x / 2 / K := fun x K => (Nat.div_div_eq_div_mul x 2 K).symm
  rw [MM_two, h, show (r * 2 + bit) / 2 = r by omega]
  unfold lb
  have e : r / B64 ^ 3 < B64 := Nat.div_lt_of_lt_mul (by rw [← Nat.pow_succ]; exact hr)
  rw [Nat.mod_eq_of_lt e, Nat.mul_comm, ← Nat.div_div_eq_div_mul]
  omega
theorem bw_4 (V b : Nat) : bw V b 4 = ((if V % MM < b % MM then 1 else 0 : Nat) : Int) := rfl
theorem take_same (V b : Nat) (hb : b < MM) (h : b ≤ V) (hV : V < 2 * b) : ((V / MM : Nat) : Int) = bw V b 4 := by
  rw [bw_4, Nat.mod_eq_of_lt hb]
  by_cases g : V < MM
  · rw [Nat.div_eq_of_lt g, Nat.mod_eq_of_lt g, if_neg (by omega)]
  · have e : V / MM = 1 := by
      apply Nat.div_eq_of_lt_le <;> omega
    have e2 : V % MM = V - MM := by
      have := Nat.div_add_mod V MM
      rw [e] at this; omega
    rw [e, e2, if_pos (by omega)]
theorem take_unlike (V b : Nat) (hb : b < MM) (h : V < b) : ((V / MM : Nat) : Int) ≠ bw V b 4 := by
  rw [bw_4, Nat.mod_eq_of_lt hb, Nat.div_eq_of_lt (by omega), Nat.mod_eq_of_lt (by omega), if_pos h]
  decide
theorem grown_below {w X Y : World} {row : Option Nat} (h : w.grownBy X row) (k : Below X.heap.size X Y) : w.grownBy Y row :=
  ⟨k.os.trans h.os, k.tape.trans h.tape, k.output.trans h.output, Nat.le_trans h.size k.size, fun i hi hne => (k.block i (Nat.lt_of_lt_of_le hi h.size)).trans (h.block i hi hne)⟩

end Go.Proofs.YthjbiojbmjgkbaaDoor

/- split: tally, told, quotient, rest, width. -/
namespace Go.Proofs.YthjbiojbmjgkbaaDoor
open Go.RowKit
attribute [local go_sem] ix0 ix1 ix2 ix3
/-- How often, and what is left. -/
abbrev WL (q r : Nat) : Value := .agg #[.int .u64 (lb q 0), .int .u64 (lb q 1), .int .u64 (lb q 2), .int .u64 (lb q 3), .int .u64 (lb r 0), .int .u64 (lb r 1), .int .u64 (lb r 2), .int .u64 (lb r 3)]
end Go.Proofs.YthjbiojbmjgkbaaDoor

/- split: one step (divide's closure). -/
namespace Go.Proofs.YthjbiojbmjgkbaaDoor
open Go.RowKit
attribute [local go_sem] ix0 ix1 ix2 ix3
theorem and_1 (a : Nat) (ha : a < 18446744073709551616) : bits .and .u64 (a : Int) 1 = ((a % 2 : Nat) : Int) := by
  have h := bits_and_u64_nat a 1 ha (by omega)
  rw [Nat.and_one_is_mod] at h
  exact h
/-- The bit at a place, out of the number there. -/
theorem bit_at (N p : Nat) : N / B64 ^ (p / 64) % B64 / 2 ^ (p % 64) % 2 = N / 2 ^ p % 2 := by
  have e : B64 = 2 ^ (p % 64) * (2 * 2 ^ (63 - p % 64)) := by
    rw [← Nat.pow_succ', ← Nat.pow_add, show p % 64 + (63 - p % 64 + 1) = 64 by omega]; rfl
  have e2 : 2 ^ p = B64 ^ (p / 64) * 2 ^ (p % 64) := by
    rw [show B64 = 2 ^ 64 from rfl, ← Nat.pow_mul, ← Nat.pow_add, Nat.div_add_mod]
  rw [e2, ← Nat.div_div_eq_div_mul]
  generalize N / B64 ^ (p / 64) = M
  rw [e, Nat.mod_mul_right_div_self, Nat.mod_mul_right_mod]
def stB (r b bit : Nat) : Nat := if b ≤ r * 2 + bit then 1 else 0
def stR (r b bit : Nat) : Nat := if b ≤ r * 2 + bit then r * 2 + bit - b else r * 2 + bit
theorem stR_lt (r b bit : Nat) (hr : r < b) (hbit : bit ≤ 1) : stR r b bit < b := by unfold stR; split <;> omega
theorem stB_le (r b bit : Nat) : stB r b bit ≤ 1 := by unfold stB; split <;> omega

end Go.Proofs.YthjbiojbmjgkbaaDoor

/- split: how many bits a number of 64 has (math/bits.Len64). -/
namespace Go.Proofs.YthjbiojbmjgkbaaDoor
open Go.RowKit

abbrev tab8 : ByteArray := ⟨#[0, 1, 2, 2, 3, 3, 3, 3, 4, 4, 4, 4, 4, 4, 4, 4, 5, 5, 5, 5, 5, 5, 5, 5, 5, 5, 5, 5, 5, 5, 5, 5, 6, 6, 6, 6, 6, 6, 6, 6, 6, 6, 6, 6, 6, 6, 6, 6, 6, 6, 6, 6, 6, 6, 6, 6, 6, 6, 6, 6, 6, 6, 6, 6, 7, 7, 7, 7, 7, 7, 7, 7, 7, 7, 7, 7, 7, 7, 7, 7, 7, 7, 7, 7, 7, 7, 7, 7, 7, 7, 7, 7, 7, 7, 7, 7, 7, 7, 7, 7, 7, 7, 7, 7, 7, 7, 7, 7, 7, 7, 7, 7, 7, 7, 7, 7, 7, 7, 7, 7, 7, 7, 7, 7, 7, 7, 7, 7, 8, 8, 8, 8, 8, 8, 8, 8, 8, 8, 8, 8, 8, 8, 8, 8, 8, 8, 8, 8, 8, 8, 8, 8, 8, 8, 8, 8, 8, 8, 8, 8, 8, 8, 8, 8, 8, 8, 8, 8, 8, 8, 8, 8, 8, 8, 8, 8, 8, 8, 8, 8, 8, 8, 8, 8, 8, 8, 8, 8, 8, 8, 8, 8, 8, 8, 8, 8, 8, 8, 8, 8, 8, 8, 8, 8, 8, 8, 8, 8, 8, 8, 8, 8, 8, 8, 8, 8, 8, 8, 8, 8, 8, 8, 8, 8, 8, 8, 8, 8, 8, 8, 8, 8, 8, 8, 8, 8, 8, 8, 8, 8, 8, 8, 8, 8, 8, 8, 8, 8, 8, 8, 8, 8, 8, 8, 8, 8]⟩
theorem tab8_size : tab8.size = 256 := by decide +kernel
theorem tab8_ok : ∀ y : Fin 256, (tab8[y.val]'(by rw [tab8_size]; exact y.isLt)).toNat ≤ 8 ∧ y.val < 2 ^ (tab8[y.val]'(by rw [tab8_size]; exact y.isLt)).toNat := by decide +kernel
theorem wrap_nn (n t : Nat) (hn : n ≤ 56) (ht : t ≤ 8) : wrap64 ((n : Int) + wrap64 (t : Int)) = ((n + t : Nat) : Int) := by
  unfold wrap64; omega
theorem wrap_ww (t : Nat) (ht : t ≤ 8) : wrap64 (wrap64 (t : Int)) = ((0 + t : Nat) : Int) := by
  unfold wrap64; omega

set_option maxRecDepth 100000 in
set_option maxHeartbeats 2000000 in
theorem len64_low (a : Nat) (h3 : a < 256) (w : World) :
    Calls Tryd.prog 63 #[.int .u64 a] w fun e w' => (∃ l : Nat, e = .returned (.int .i64 l) ∧ l ≤ 64 ∧ a < 2 ^ l) ∧ w = w' := by
  have h1 : ¬ (4294967296 : Int) ≤ a := by omega
  have h2 : ¬ (65536 : Int) ≤ a := by omega
  have h4 : (a : Int) < 256 := by omega
  have hw : IntKind.u8.wrap (a : Int) = (a : Int) := IntWalk.u8_in _ (by omega)
  have hk := tab8_ok ⟨a, h3⟩
  have hsz : a < tab8.size := by rw [tab8_size]; exact h3
  obtain ⟨t, ht⟩ : ∃ t, (tab8[a]'hsz).toNat = t := ⟨_, rfl⟩
  have hk2 : t ≤ 8 ∧ a < 2 ^ t := by rw [← ht]; exact hk
  have HT := Lib.hid ht
  clear hk ht
  have HK := Lib.hid hk2
  clear hk2
  go_enter Tryd.func63, Tryd.ntmps63
  go_wp2
  go_ret
  have e := wrap_ww t HK.out.1
  rw [← HT.out] at e
  exact ⟨⟨0 + t, by rw [← HT.out]; exact congrArg (fun z => Ending.returned (Value.int .i64 z)) e, by have := HK.out.1; omega, by rw [Nat.zero_add]; exact HK.out.2⟩, rfl⟩

set_option maxRecDepth 100000 in
set_option maxHeartbeats 2000000 in
theorem len64_001 (a : Nat) (ha : a < 18446744073709551616) (h1 : a < 4294967296) (h2 : a < 65536) (h3 : 256 ≤ a) (w : World) :
    Calls Tryd.prog 63 #[.int .u64 a] w fun e w' => (∃ l : Nat, e = .returned (.int .i64 l) ∧ l ≤ 64 ∧ a < 2 ^ l) ∧ w = w' := by
  have h1i : ¬ (4294967296 : Int) ≤ (a : Int) := by omega
  have h2i : ¬ (65536 : Int) ≤ (a : Int) := by omega
  have h3i : (256 : Int) ≤ (a : Int) := by omega
  obtain ⟨x3, x3e⟩ : ∃ x3, a / 256 = x3 := ⟨_, rfl⟩
  have x3i : (a : Int) / 256 = (x3 : Int) := by omega
  have Hx3 := Lib.hid x3e
  have hz : x3 < 256 := by omega
  have hzi : (x3 : Int) < 256 := by omega
  have hw : IntKind.u8.wrap (x3 : Int) = (x3 : Int) := IntWalk.u8_in _ (by omega)
  have hD : a < 256 * (x3 + 1) := by omega
  have HD := Lib.hid hD
  have hk := tab8_ok ⟨x3, hz⟩
  have hsz : x3 < tab8.size := by rw [tab8_size]; exact hz
  obtain ⟨t, ht⟩ : ∃ t, (tab8[x3]'hsz).toNat = t := ⟨_, rfl⟩
  have hk2 : t ≤ 8 ∧ x3 < 2 ^ t := by rw [← ht]; exact hk
  have HT := Lib.hid ht
  have HK := Lib.hid hk2
  clear hk ht hk2 hD ha x3e
  go_enter Tryd.func63, Tryd.ntmps63
  go_wp2
  go_ret
  have e := wrap_nn 8 t (by omega) HK.out.1
  rw [← HT.out] at e
  refine ⟨⟨8 + t, by rw [← HT.out]; exact congrArg (fun z => Ending.returned (Value.int .i64 z)) e, by have := HK.out.1; omega, ?_⟩, rfl⟩
  rw [Nat.pow_add]
  exact Nat.lt_of_lt_of_le HD.out (Nat.mul_le_mul_left _ HK.out.2)

set_option maxRecDepth 100000 in
set_option maxHeartbeats 2000000 in
theorem len64_010 (a : Nat) (ha : a < 18446744073709551616) (h1 : a < 4294967296) (h2 : 65536 ≤ a) (h3 : a / 65536 < 256) (w : World) :
    Calls Tryd.prog 63 #[.int .u64 a] w fun e w' => (∃ l : Nat, e = .returned (.int .i64 l) ∧ l ≤ 64 ∧ a < 2 ^ l) ∧ w = w' := by
  have h1i : ¬ (4294967296 : Int) ≤ (a : Int) := by omega
  have h2i : (65536 : Int) ≤ (a : Int) := by omega
  obtain ⟨x2, x2e⟩ : ∃ x2, a / 65536 = x2 := ⟨_, rfl⟩
  have x2i : (a : Int) / 65536 = (x2 : Int) := by omega
  have Hx2 := Lib.hid x2e
  have h3i : ¬ (256 : Int) ≤ (x2 : Int) := by omega
  have hz : x2 < 256 := by omega
  have hzi : (x2 : Int) < 256 := by omega
  have hw : IntKind.u8.wrap (x2 : Int) = (x2 : Int) := IntWalk.u8_in _ (by omega)
  have hD : a < 65536 * (x2 + 1) := by omega
  have HD := Lib.hid hD
  have hk := tab8_ok ⟨x2, hz⟩
  have hsz : x2 < tab8.size := by rw [tab8_size]; exact hz
  obtain ⟨t, ht⟩ : ∃ t, (tab8[x2]'hsz).toNat = t := ⟨_, rfl⟩
  have hk2 : t ≤ 8 ∧ x2 < 2 ^ t := by rw [← ht]; exact hk
  have HT := Lib.hid ht
  have HK := Lib.hid hk2
  clear hk ht hk2 hD ha x2e
  go_enter Tryd.func63, Tryd.ntmps63
  go_wp2
  go_ret
  have e := wrap_nn 16 t (by omega) HK.out.1
  rw [← HT.out] at e
  refine ⟨⟨16 + t, by rw [← HT.out]; exact congrArg (fun z => Ending.returned (Value.int .i64 z)) e, by have := HK.out.1; omega, ?_⟩, rfl⟩
  rw [Nat.pow_add]
  exact Nat.lt_of_lt_of_le HD.out (Nat.mul_le_mul_left _ HK.out.2)

set_option maxRecDepth 100000 in
set_option maxHeartbeats 2000000 in
theorem len64_011 (a : Nat) (ha : a < 18446744073709551616) (h1 : a < 4294967296) (h2 : 65536 ≤ a) (h3 : 256 ≤ a / 65536) (w : World) :
    Calls Tryd.prog 63 #[.int .u64 a] w fun e w' => (∃ l : Nat, e = .returned (.int .i64 l) ∧ l ≤ 64 ∧ a < 2 ^ l) ∧ w = w' := by
  have h1i : ¬ (4294967296 : Int) ≤ (a : Int) := by omega
  have h2i : (65536 : Int) ≤ (a : Int) := by omega
  obtain ⟨x2, x2e⟩ : ∃ x2, a / 65536 = x2 := ⟨_, rfl⟩
  have x2i : (a : Int) / 65536 = (x2 : Int) := by omega
  have Hx2 := Lib.hid x2e
  have h3i : (256 : Int) ≤ (x2 : Int) := by omega
  obtain ⟨x3, x3e⟩ : ∃ x3, x2 / 256 = x3 := ⟨_, rfl⟩
  have x3i : (x2 : Int) / 256 = (x3 : Int) := by omega
  have Hx3 := Lib.hid x3e
  have hz : x3 < 256 := by omega
  have hzi : (x3 : Int) < 256 := by omega
  have hw : IntKind.u8.wrap (x3 : Int) = (x3 : Int) := IntWalk.u8_in _ (by omega)
  have hD : a < 16777216 * (x3 + 1) := by omega
  have HD := Lib.hid hD
  have hk := tab8_ok ⟨x3, hz⟩
  have hsz : x3 < tab8.size := by rw [tab8_size]; exact hz
  obtain ⟨t, ht⟩ : ∃ t, (tab8[x3]'hsz).toNat = t := ⟨_, rfl⟩
  have hk2 : t ≤ 8 ∧ x3 < 2 ^ t := by rw [← ht]; exact hk
  have HT := Lib.hid ht
  have HK := Lib.hid hk2
  clear hk ht hk2 hD ha x2e x3e
  go_enter Tryd.func63, Tryd.ntmps63
  go_wp2
  go_ret
  have e := wrap_nn 24 t (by omega) HK.out.1
  rw [← HT.out] at e
  refine ⟨⟨24 + t, by rw [← HT.out]; exact congrArg (fun z => Ending.returned (Value.int .i64 z)) e, by have := HK.out.1; omega, ?_⟩, rfl⟩
  rw [Nat.pow_add]
  exact Nat.lt_of_lt_of_le HD.out (Nat.mul_le_mul_left _ HK.out.2)

set_option maxRecDepth 100000 in
set_option maxHeartbeats 2000000 in
theorem len64_100 (a : Nat) (ha : a < 18446744073709551616) (h1 : 4294967296 ≤ a) (_h2 : a / 4294967296 < 65536) (h3 : a / 4294967296 < 256) (w : World) :
    Calls Tryd.prog 63 #[.int .u64 a] w fun e w' => (∃ l : Nat, e = .returned (.int .i64 l) ∧ l ≤ 64 ∧ a < 2 ^ l) ∧ w = w' := by
  have h1i : (4294967296 : Int) ≤ (a : Int) := by omega
  obtain ⟨x1, x1e⟩ : ∃ x1, a / 4294967296 = x1 := ⟨_, rfl⟩
  have x1i : (a : Int) / 4294967296 = (x1 : Int) := by omega
  have Hx1 := Lib.hid x1e
  have h2i : ¬ (65536 : Int) ≤ (x1 : Int) := by omega
  have h3i : ¬ (256 : Int) ≤ (x1 : Int) := by omega
  have hz : x1 < 256 := by omega
  have hzi : (x1 : Int) < 256 := by omega
  have hw : IntKind.u8.wrap (x1 : Int) = (x1 : Int) := IntWalk.u8_in _ (by omega)
  have hD : a < 4294967296 * (x1 + 1) := by omega
  have HD := Lib.hid hD
  have hk := tab8_ok ⟨x1, hz⟩
  have hsz : x1 < tab8.size := by rw [tab8_size]; exact hz
  obtain ⟨t, ht⟩ : ∃ t, (tab8[x1]'hsz).toNat = t := ⟨_, rfl⟩
  have hk2 : t ≤ 8 ∧ x1 < 2 ^ t := by rw [← ht]; exact hk
  have HT := Lib.hid ht
  have HK := Lib.hid hk2
  clear hk ht hk2 hD ha x1e
  go_enter Tryd.func63, Tryd.ntmps63
  go_wp2
  go_ret
  have e := wrap_nn 32 t (by omega) HK.out.1
  rw [← HT.out] at e
  refine ⟨⟨32 + t, by rw [← HT.out]; exact congrArg (fun z => Ending.returned (Value.int .i64 z)) e, by have := HK.out.1; omega, ?_⟩, rfl⟩
  rw [Nat.pow_add]
  exact Nat.lt_of_lt_of_le HD.out (Nat.mul_le_mul_left _ HK.out.2)

set_option maxRecDepth 100000 in
set_option maxHeartbeats 2000000 in
theorem len64_101 (a : Nat) (ha : a < 18446744073709551616) (h1 : 4294967296 ≤ a) (h2 : a / 4294967296 < 65536) (h3 : 256 ≤ a / 4294967296) (w : World) :
    Calls Tryd.prog 63 #[.int .u64 a] w fun e w' => (∃ l : Nat, e = .returned (.int .i64 l) ∧ l ≤ 64 ∧ a < 2 ^ l) ∧ w = w' := by
  have h1i : (4294967296 : Int) ≤ (a : Int) := by omega
  obtain ⟨x1, x1e⟩ : ∃ x1, a / 4294967296 = x1 := ⟨_, rfl⟩
  have x1i : (a : Int) / 4294967296 = (x1 : Int) := by omega
  have Hx1 := Lib.hid x1e
  have h2i : ¬ (65536 : Int) ≤ (x1 : Int) := by omega
  have h3i : (256 : Int) ≤ (x1 : Int) := by omega
  obtain ⟨x3, x3e⟩ : ∃ x3, x1 / 256 = x3 := ⟨_, rfl⟩
  have x3i : (x1 : Int) / 256 = (x3 : Int) := by omega
  have Hx3 := Lib.hid x3e
  have hz : x3 < 256 := by omega
  have hzi : (x3 : Int) < 256 := by omega
  have hw : IntKind.u8.wrap (x3 : Int) = (x3 : Int) := IntWalk.u8_in _ (by omega)
  have hD : a < 1099511627776 * (x3 + 1) := by omega
  have HD := Lib.hid hD
  have hk := tab8_ok ⟨x3, hz⟩
  have hsz : x3 < tab8.size := by rw [tab8_size]; exact hz
  obtain ⟨t, ht⟩ : ∃ t, (tab8[x3]'hsz).toNat = t := ⟨_, rfl⟩
  have hk2 : t ≤ 8 ∧ x3 < 2 ^ t := by rw [← ht]; exact hk
  have HT := Lib.hid ht
  have HK := Lib.hid hk2
  clear hk ht hk2 hD ha x1e x3e
  go_enter Tryd.func63, Tryd.ntmps63
  go_wp2
  go_ret
  have e := wrap_nn 40 t (by omega) HK.out.1
  rw [← HT.out] at e
  refine ⟨⟨40 + t, by rw [← HT.out]; exact congrArg (fun z => Ending.returned (Value.int .i64 z)) e, by have := HK.out.1; omega, ?_⟩, rfl⟩
  rw [Nat.pow_add]
  exact Nat.lt_of_lt_of_le HD.out (Nat.mul_le_mul_left _ HK.out.2)

set_option maxRecDepth 100000 in
set_option maxHeartbeats 2000000 in
theorem len64_110 (a : Nat) (ha : a < 18446744073709551616) (h1 : 4294967296 ≤ a) (h2 : 65536 ≤ a / 4294967296) (h3 : a / 4294967296 / 65536 < 256) (w : World) :
    Calls Tryd.prog 63 #[.int .u64 a] w fun e w' => (∃ l : Nat, e = .returned (.int .i64 l) ∧ l ≤ 64 ∧ a < 2 ^ l) ∧ w = w' := by
  have h1i : (4294967296 : Int) ≤ (a : Int) := by omega
  obtain ⟨x1, x1e⟩ : ∃ x1, a / 4294967296 = x1 := ⟨_, rfl⟩
  have x1i : (a : Int) / 4294967296 = (x1 : Int) := by omega
  have Hx1 := Lib.hid x1e
  have h2i : (65536 : Int) ≤ (x1 : Int) := by omega
  obtain ⟨x2, x2e⟩ : ∃ x2, x1 / 65536 = x2 := ⟨_, rfl⟩
  have x2i : (x1 : Int) / 65536 = (x2 : Int) := by omega
  have Hx2 := Lib.hid x2e
  have h3i : ¬ (256 : Int) ≤ (x2 : Int) := by omega
  have hz : x2 < 256 := by omega
  have hzi : (x2 : Int) < 256 := by omega
  have hw : IntKind.u8.wrap (x2 : Int) = (x2 : Int) := IntWalk.u8_in _ (by omega)
  have hD : a < 281474976710656 * (x2 + 1) := by omega
  have HD := Lib.hid hD
  have hk := tab8_ok ⟨x2, hz⟩
  have hsz : x2 < tab8.size := by rw [tab8_size]; exact hz
  obtain ⟨t, ht⟩ : ∃ t, (tab8[x2]'hsz).toNat = t := ⟨_, rfl⟩
  have hk2 : t ≤ 8 ∧ x2 < 2 ^ t := by rw [← ht]; exact hk
  have HT := Lib.hid ht
  have HK := Lib.hid hk2
  clear hk ht hk2 hD ha x1e x2e
  go_enter Tryd.func63, Tryd.ntmps63
  go_wp2
  go_ret
  have e := wrap_nn 48 t (by omega) HK.out.1
  rw [← HT.out] at e
  refine ⟨⟨48 + t, by rw [← HT.out]; exact congrArg (fun z => Ending.returned (Value.int .i64 z)) e, by have := HK.out.1; omega, ?_⟩, rfl⟩
  rw [Nat.pow_add]
  exact Nat.lt_of_lt_of_le HD.out (Nat.mul_le_mul_left _ HK.out.2)

set_option maxRecDepth 100000 in
set_option maxHeartbeats 2000000 in
theorem len64_111 (a : Nat) (ha : a < 18446744073709551616) (h1 : 4294967296 ≤ a) (h2 : 65536 ≤ a / 4294967296) (h3 : 256 ≤ a / 4294967296 / 65536) (w : World) :
    Calls Tryd.prog 63 #[.int .u64 a] w fun e w' => (∃ l : Nat, e = .returned (.int .i64 l) ∧ l ≤ 64 ∧ a < 2 ^ l) ∧ w = w' := by
  have h1i : (4294967296 : Int) ≤ (a : Int) := by omega
  obtain ⟨x1, x1e⟩ : ∃ x1, a / 4294967296 = x1 := ⟨_, rfl⟩
  have x1i : (a : Int) / 4294967296 = (x1 : Int) := by omega
  have Hx1 := Lib.hid x1e
  have h2i : (65536 : Int) ≤ (x1 : Int) := by omega
  obtain ⟨x2, x2e⟩ : ∃ x2, x1 / 65536 = x2 := ⟨_, rfl⟩
  have x2i : (x1 : Int) / 65536 = (x2 : Int) := by omega
  have Hx2 := Lib.hid x2e
  have h3i : (256 : Int) ≤ (x2 : Int) := by omega
  obtain ⟨x3, x3e⟩ : ∃ x3, x2 / 256 = x3 := ⟨_, rfl⟩
  have x3i : (x2 : Int) / 256 = (x3 : Int) := by omega
  have Hx3 := Lib.hid x3e
  have hz : x3 < 256 := by omega
  have hzi : (x3 : Int) < 256 := by omega
  have hw : IntKind.u8.wrap (x3 : Int) = (x3 : Int) := IntWalk.u8_in _ (by omega)
  have hD : a < 72057594037927936 * (x3 + 1) := by omega
  have HD := Lib.hid hD
  have hk := tab8_ok ⟨x3, hz⟩
  have hsz : x3 < tab8.size := by rw [tab8_size]; exact hz
  obtain ⟨t, ht⟩ : ∃ t, (tab8[x3]'hsz).toNat = t := ⟨_, rfl⟩
  have hk2 : t ≤ 8 ∧ x3 < 2 ^ t := by rw [← ht]; exact hk
  have HT := Lib.hid ht
  have HK := Lib.hid hk2
  clear hk ht hk2 hD ha x1e x2e x3e
  go_enter Tryd.func63, Tryd.ntmps63
  go_wp2
  go_ret
  have e := wrap_nn 56 t (by omega) HK.out.1
  rw [← HT.out] at e
  refine ⟨⟨56 + t, by rw [← HT.out]; exact congrArg (fun z => Ending.returned (Value.int .i64 z)) e, by have := HK.out.1; omega, ?_⟩, rfl⟩
  rw [Nat.pow_add]
  exact Nat.lt_of_lt_of_le HD.out (Nat.mul_le_mul_left _ HK.out.2)

/-- The bits that a number of 64 has: it lies below that power of two. -/
theorem len64_any (a : Nat) (ha : a < 18446744073709551616) (w : World) :
    Calls Tryd.prog 63 #[.int .u64 a] w fun e w' => (∃ l : Nat, e = .returned (.int .i64 l) ∧ l ≤ 64 ∧ a < 2 ^ l) ∧ w = w' := by
  by_cases h1 : 4294967296 ≤ a
  · by_cases h2 : 65536 ≤ a / 4294967296
    · by_cases h3 : 256 ≤ a / 4294967296 / 65536
      · exact len64_111 a ha h1 h2 h3 w
      · exact len64_110 a ha h1 h2 (by omega) w
    · by_cases h3 : 256 ≤ a / 4294967296
      · exact len64_101 a ha h1 (by omega) h3 w
      · exact len64_100 a ha h1 (by omega) (by omega) w
  · by_cases h2 : 65536 ≤ a
    · by_cases h3 : 256 ≤ a / 65536
      · exact len64_011 a ha (by omega) h2 h3 w
      · exact len64_010 a ha (by omega) h2 (by omega) w
    · by_cases h3 : 256 ≤ a
      · exact len64_001 a ha (by omega) (by omega) h3 w
      · exact len64_low a (by omega) w
end Go.Proofs.YthjbiojbmjgkbaaDoor

/- split: how many bits a number has (width). -/
namespace Go.Proofs.YthjbiojbmjgkbaaDoor
open Go.RowKit
attribute [local go_sem] ix0 ix1 ix2 ix3
end Go.Proofs.YthjbiojbmjgkbaaDoor

/- split: quotient and rest bit by bit, in plain numbers. -/
namespace Go.Proofs.YthjbiojbmjgkbaaDoor
open Go.RowKit

theorem two_way (b q V : Nat) (hV : V < 2 * b) : (b * (2 * q) + V) / b = q * 2 + (if b ≤ V then 1 else 0) ∧ (b * (2 * q) + V) % b = if b ≤ V then V - b else V := by
  have hb : 0 < b := by omega
  rw [Nat.mul_add_div hb, Nat.mul_add_mod]
  by_cases h : b ≤ V
  · rw [if_pos h, if_pos h]
    have e : V / b = 1 := by apply Nat.div_eq_of_lt_le <;> omega
    have e2 := Nat.div_add_mod V b
    rw [e] at e2
    rw [e]
    constructor <;> omega
  · rw [if_neg h, if_neg h, Nat.div_eq_of_lt (by omega), Nat.mod_eq_of_lt (by omega)]
    constructor <;> omega
/-- One bit more. -/
theorem div_bit (M b bit : Nat) (hb : 0 < b) (hbit : bit ≤ 1) : (M * 2 + bit) / b = (M / b) * 2 + stB (M % b) b bit ∧ (M * 2 + bit) % b = stR (M % b) b bit := by
  have h := Nat.div_add_mod M b
  have hr := Nat.mod_lt M hb
  have e : M * 2 + bit = b * (2 * (M / b)) + (M % b * 2 + bit) := by
    have : b * (2 * (M / b)) = 2 * (b * (M / b)) := by rw [Nat.mul_left_comm]
    omega
  unfold stB stR
  rw [e]
  exact two_way b (M / b) (M % b * 2 + bit) (by omega)
theorem shift_bit (N p : Nat) : N / 2 ^ p = N / 2 ^ (p + 1) * 2 + N / 2 ^ p % 2 := by
  rw [Nat.pow_succ, ← Nat.div_div_eq_div_mul]
  omega
/-- The step from place p + 1 to place p. -/
theorem step_div (N b p : Nat) (hb : 0 < b) : N / 2 ^ p / b = (N / 2 ^ (p + 1) / b) * 2 + stB (N / 2 ^ (p + 1) % b) b (N / 2 ^ p % 2) ∧ N / 2 ^ p % b = stR (N / 2 ^ (p + 1) % b) b (N / 2 ^ p % 2) := by
  have h := div_bit (N / 2 ^ (p + 1)) b (N / 2 ^ p % 2) hb (by omega)
  rw [← shift_bit] at h
  exact h
end Go.Proofs.YthjbiojbmjgkbaaDoor

/- split: divide. -/
namespace Go.Proofs.YthjbiojbmjgkbaaDoor
open Go.RowKit
attribute [local go_sem] ix0 ix1 ix2 ix3
abbrev UZ (b : Nat) : Array Value := #[.int .u64 0, .int .u64 0, .int .u64 0, .int .u64 0, .int .u64 0, .int .u64 0, .int .u64 0, .int .u64 0, .int .u64 (lb b 0), .int .u64 (lb b 1), .int .u64 (lb b 2), .int .u64 (lb b 3)]
theorem uz_uw (b : Nat) : UZ b = UW 0 0 b := by unfold UZ UW; simp only [lb_zero]
theorem step_world {n : Nat} {w X Y : World} {g : Nat} (h : Below n w X) (k : X.grownBy Y (some g)) (hn : n ≤ w.heap.size) (hg : n ≤ g) : Below n w Y :=
  h.grown k (Nat.le_trans hn h.size) (fun j e => by cases e; omega)
end Go.Proofs.YthjbiojbmjgkbaaDoor

/- split: told with each of its two methods. -/
namespace Go.Proofs.YthjbiojbmjgkbaaDoor
open Go.RowKit
attribute [local go_sem] ix0 ix1 ix2 ix3
abbrev Z4 : Array Value := #[.int .u64 0, .int .u64 0, .int .u64 0, .int .u64 0]

end Go.Proofs.YthjbiojbmjgkbaaDoor

/- split: Div, Mod, of a divisor that is not nought. -/
namespace Go.Proofs.YthjbiojbmjgkbaaDoor
open Go.RowKit
attribute [local go_sem] ix0 ix1 ix2 ix3
end Go.Proofs.YthjbiojbmjgkbaaDoor

/- split: divide by nought. -/
namespace Go.Proofs.YthjbiojbmjgkbaaDoor
open Go.RowKit
attribute [local go_sem] ix0 ix1 ix2 ix3
end Go.Proofs.YthjbiojbmjgkbaaDoor

/- split: Div, Mod by nought. -/
namespace Go.Proofs.YthjbiojbmjgkbaaDoor
open Go.RowKit
attribute [local go_sem] ix0 ix1 ix2 ix3
end Go.Proofs.YthjbiojbmjgkbaaDoor

/- The reference of layer split: Bit, Negative. -/
namespace Go.Proofs.YthjbiojbmjgkbaaDoor
open Go.RowKit
attribute [local go_sem] ix0 ix1 ix2 ix3
set_option maxHeartbeats 1000000 in
theorem rbit_any (a p : Nat) (hp : p < 256) (w : World) :
    Calls Tryd.prog 42 #[W a, .int .i64 p] w fun e w' => e = .returned (.bool (a / 2 ^ p % 2 == 1)) ∧ Below w.heap.size w w' := by
  have hs := Blk.new w 25 (Wc a)
  have hc := (cell_of_row _ _ (p / 64) _ _ _ hs).trans (wc_get a (p / 64) (by omega))
  have HBIT := Lib.hid (bit_at a p)
  clear hs
  have hL : a / B64 ^ (p / 64) % B64 < 18446744073709551616 := Nat.mod_lt _ B64_pos
  have hlb : lb a (p / 64) = ((a / B64 ^ (p / 64) % B64 : Nat) : Int) := rfl
  rw [hlb] at hc
  clear hlb
  have g1 : IntKind.i64.wrap ((p : Int) / 64) = (p : Int) / 64 := IntWalk.i64_in _ (by omega)
  have g2 : (0 : Int) ≤ (p : Int) / 64 := by omega
  have g3 : (p : Int) / 64 < 4 := by omega
  have g4 : ((p : Int) / 64).toNat = p / 64 := by omega
  have g5 : (p : Int).tmod 64 = (p : Int) % 64 := Int.tmod_eq_emod_of_nonneg (by omega)
  have g6 : (0 : Int) ≤ (p : Int) % 64 := by omega
  have g7 : IntKind.u64.wrap ((p : Int) % 64) = (p : Int) % 64 := IntWalk.u64_in _ (by omega)
  have g8 : ((p : Int) % 64).toNat = p % 64 := by omega
  obtain ⟨L, hLe⟩ : ∃ L, a / B64 ^ (p / 64) % B64 = L := ⟨_, rfl⟩
  rw [hLe] at hc hL HBIT
  have e : Hid ((((L : Int) / 2 ^ (p % 64)).tmod 2 == 1) = (a / 2 ^ p % 2 == 1)) := by
    show _ = _
    rw [← HBIT.out, show (L : Int) / 2 ^ (p % 64) = ((L / 2 ^ (p % 64) : Nat) : Int) by simp, Int.tmod_eq_emod_of_nonneg (Int.natCast_nonneg _)]
    rw [Bool.eq_iff_iff]; simp only [beq_iff_eq]; omega
  clear hLe
  rw [← e.out]
  go_enter Tryd.func42, Tryd.ntmps42
  go_wp2
  go_ret
  exact ⟨rfl, balloc (Below.refl _ _) _⟩
/-- The word is below nought, as a signed one. -/
def ngN (a : Nat) : Bool := a / 2 ^ 255 % 2 == 1
theorem rneg_any (a : Nat) (w : World) :
    Calls Tryd.prog 23 #[W a] w fun e w' => e = .returned (.bool (ngN a)) ∧ Below w.heap.size w w' := by
  go_enter Tryd.func23, Tryd.ntmps23
  go_wp2_with (first | (go_at_call 42; refine (rbit_any a 255 (by omega) _).mono ?_; rintro e w1 ⟨rfl, h1⟩) | fail)
  go_ret
  exact ⟨rfl, bstep (balloc (Below.refl _ _) _) h1⟩
end Go.Proofs.YthjbiojbmjgkbaaDoor

/- split: turned; the reference's twice. -/
namespace Go.Proofs.YthjbiojbmjgkbaaDoor
open Go.RowKit
attribute [local go_sem] ix0 ix1 ix2 ix3
end Go.Proofs.YthjbiojbmjgkbaaDoor

/- split: the signs of two, of one. -/
namespace Go.Proofs.YthjbiojbmjgkbaaDoor
open Go.RowKit
attribute [local go_sem] ix0 ix1 ix2 ix3
theorem ng_lb (a : Nat) : (lb a 3 / 9223372036854775808 == 1) = ngN a := by
  unfold ngN
  have h := bit_at a 255
  have h2 : a / B64 ^ 3 % B64 < 18446744073709551616 := Nat.mod_lt _ B64_pos
  rw [show (255 : Nat) / 64 = 3 from rfl, show (255 : Nat) % 64 = 63 from rfl] at h
  rw [← h]
  unfold lb
  rw [Bool.eq_iff_iff]; simp only [beq_iff_eq]
  have e : (2 : Nat) ^ 63 = 9223372036854775808 := rfl
  rw [e]
  omega

set_option maxHeartbeats 1000000 in
theorem signs2_any (a b g cap : Nat) (w : World) (hgl : g < w.heap.size) (h3 : w.cell? ⟨g, 3, none⟩ = some (.int .u64 (lb a 3))) (h7 : w.cell? ⟨g, 7, none⟩ = some (.int .u64 (lb b 3))) :
    Calls Tryd.prog 84 #[.slice (some ⟨g, 0, none⟩) 2 cap] w fun e w' => e = .returned (.agg #[.bool (ngN a), .bool (ngN b)]) ∧ Below w.heap.size w w' := by
  have ea := ng_lb a
  have eb := ng_lb b
  go_enter Tryd.func84, Tryd.ntmps84
  go_wp2
  refine wp_loop_rounds 3 ?_
  iterate 3 (rw [rounds_succ]; go_wp2)
  exact bodyPost_ret (v := .agg #[.bool (ngN a), .bool (ngN b)]) (by simp [results, Tryd.results84, go_sem]) rfl ⟨rfl, by first | exact balloc (balloc (Below.refl _ _) _) _⟩
theorem signs1_any (a g cap : Nat) (w : World) (hgl : g < w.heap.size) (h3 : w.cell? ⟨g, 3, none⟩ = some (.int .u64 (lb a 3))) :
    Calls Tryd.prog 84 #[.slice (some ⟨g, 0, none⟩) 1 cap] w fun e w' => e = .returned (.agg #[.bool (ngN a), .bool false]) ∧ Below w.heap.size w w' := by
  have ea := ng_lb a
  go_enter Tryd.func84, Tryd.ntmps84
  go_wp2
  refine wp_loop_rounds 2 ?_
  iterate 2 (rw [rounds_succ]; go_wp2)
  exact bodyPost_ret (v := .agg #[.bool (ngN a), .bool false]) (by simp [results, Tryd.results84, go_sem]) rfl ⟨rfl, by first | exact balloc (balloc (Below.refl _ _) _) _⟩
end Go.Proofs.YthjbiojbmjgkbaaDoor

/- split: Negative, Less. -/
namespace Go.Proofs.YthjbiojbmjgkbaaDoor
open Go.RowKit
attribute [local go_sem] ix0 ix1 ix2 ix3
theorem sign1_new (a : Nat) (X : World) : Calls Tryd.prog 84 #[.slice (some ⟨X.heap.size, 0, none⟩) 1 1] (X.alloc (.cells (Wc a) 25)) fun e w' => e = .returned (.agg #[.bool (ngN a), .bool false]) ∧ Below X.heap.size X w' := by
  have h := Blk.new X 25 (Wc a)
  refine (signs1_any a X.heap.size 1 _ h.lt ((cell_of_row _ _ 3 _ _ _ h).trans (wc_get a 3 (by omega)))).mono ?_
  rintro e w' ⟨rfl, hb⟩
  exact ⟨rfl, bstep (balloc (Below.refl _ _) _) hb⟩
theorem sign2_new (a b : Nat) (X : World) : Calls Tryd.prog 84 #[.slice (some ⟨X.heap.size, 0, none⟩) 2 2] (X.alloc (.cells #[.int .u64 (lb a 0), .int .u64 (lb a 1), .int .u64 (lb a 2), .int .u64 (lb a 3), .int .u64 (lb b 0), .int .u64 (lb b 1), .int .u64 (lb b 2), .int .u64 (lb b 3)] 25)) fun e w' => e = .returned (.agg #[.bool (ngN a), .bool (ngN b)]) ∧ Below X.heap.size X w' := by
  have h := Blk.new X 25 #[.int .u64 (lb a 0), .int .u64 (lb a 1), .int .u64 (lb a 2), .int .u64 (lb a 3), .int .u64 (lb b 0), .int .u64 (lb b 1), .int .u64 (lb b 2), .int .u64 (lb b 3)]
  refine (signs2_any a b X.heap.size 2 _ h.lt ((cell_of_row _ _ 3 _ _ _ h).trans rfl) ((cell_of_row _ _ 7 _ _ _ h).trans rfl)).mono ?_
  rintro e w' ⟨rfl, hb⟩
  exact ⟨rfl, bstep (balloc (Below.refl _ _) _) hb⟩

theorem Blk.block_below {X Y : World} {g : Nat} {t : TypeId} {cs : Array Value} (h : Blk X g t cs) (k : Below X.heap.size X Y) : Blk Y g t cs := (k.block g h.lt).trans h
theorem sign1_at (a : Nat) (w : World) : Calls Tryd.prog 84 #[.slice (some ⟨w.heap.size + 1, 0, none⟩) 1 1] ((w.alloc (.cells (Wc a) 25)).alloc (.cells (Wc a) 25)) fun e w' => e = .returned (.agg #[.bool (ngN a), .bool false]) ∧ Below w.heap.size w w' := by
  have h := sign1_new a (w.alloc (.cells (Wc a) 25))
  rw [World.size_alloc] at h
  refine h.mono ?_
  rintro e w' ⟨rfl, hb⟩
  exact ⟨rfl, (balloc (Below.refl _ _) _).trans (hb.mono (by omega))⟩
theorem sign2_at (a b : Nat) (w : World) : Calls Tryd.prog 84 #[.slice (some ⟨w.heap.size + 1 + 1, 0, none⟩) 2 2] (((w.alloc (.cells (Wc a) 25)).alloc (.cells (Wc b) 25)).alloc (.cells #[.int .u64 (lb a 0), .int .u64 (lb a 1), .int .u64 (lb a 2), .int .u64 (lb a 3), .int .u64 (lb b 0), .int .u64 (lb b 1), .int .u64 (lb b 2), .int .u64 (lb b 3)] 25)) fun e w' => e = .returned (.agg #[.bool (ngN a), .bool (ngN b)]) ∧ Below ((w.alloc (.cells (Wc a) 25)).alloc (.cells (Wc b) 25)).heap.size ((w.alloc (.cells (Wc a) 25)).alloc (.cells (Wc b) 25)) w' := by
  have h := sign2_new a b ((w.alloc (.cells (Wc a) 25)).alloc (.cells (Wc b) 25))
  rw [World.size_alloc, World.size_alloc] at h
  rw [World.size_alloc, World.size_alloc]
  exact h
theorem ixb0 (x0 x1 : Value) (w : World) : (Instr.index 101 (.agg #[x0, x1]) (.int .i64 0)).run Tryd.prog w = .ok x0 w := by kernel_rfl
attribute [local go_sem] ixb0
theorem neg_any (a : Nat) (w : World) :
    Calls Tryd.prog 77 #[W a] w fun e w' => e = .returned (.bool (ngN a)) ∧ Below w.heap.size w w' := by
  go_enter Tryd.func77, Tryd.ntmps77
  go_wp2_with (first | (go_at_call 84; refine (sign1_at a w).mono ?_; rintro e w1 ⟨rfl, hk⟩) | fail)
  go_ret
  exact ⟨rfl, hk⟩
end Go.Proofs.YthjbiojbmjgkbaaDoor

/- split: Div and Mod of any two words. -/
namespace Go.Proofs.YthjbiojbmjgkbaaDoor
open Go.RowKit
attribute [local go_sem] ix0 ix1 ix2 ix3
def mdN (a b : Nat) : Nat := if b = 0 then 0 else a % b
end Go.Proofs.YthjbiojbmjgkbaaDoor

/- split: SDiv, SMod. -/
namespace Go.Proofs.YthjbiojbmjgkbaaDoor
open Go.RowKit
attribute [local go_sem] ix0 ix1 ix2 ix3 ixb0
theorem ixb1 (x0 x1 : Value) (w : World) : (Instr.index 101 (.agg #[x0, x1]) (.int .i64 1)).run Tryd.prog w = .ok x1 w := by kernel_rfl
attribute [local go_sem] ixb1
/-- Turned, if that is asked for. -/
def tnN (a : Nat) (t : Bool) : Nat := if t then sb 0 a else a
theorem tn_lt (a : Nat) (ha : a < MM) : tnN a (ngN a) < MM := by
  unfold tnN
  split
  · rename_i h
    have h0 : 0 < a := by
      rcases Nat.eq_zero_or_pos a with e | e
      · subst e; exact absurd h (by decide +kernel)
      · exact e
    unfold sb; rw [Nat.mod_eq_of_lt ha]; omega
  · exact ha
/-- Signed ones split. -/
def sdN (a b : Nat) : Nat := tnN (tnN a (ngN a) / tnN b (ngN b)) (!(ngN a == ngN b))
def smN (a b : Nat) : Nat := tnN (mdN (tnN a (ngN a)) (tnN b (ngN b))) (ngN a)

/-- A word's block R alone may be written. -/
def HeldR (W1 : World) (R : Nat) (w' : World) : Prop := W1.grownBy w' (some R) ∧ ∃ t cs, cs.size = 4 ∧ Blk w' R t cs
def cellv (w' : World) (p : Addr) : Value := (w'.cell? p).getD undef
theorem HeldR.cell {W1 w' : World} {R : Nat} (h : HeldR W1 R w') (k : Nat) (hk : k < 4) : w'.cell? ⟨R, k, none⟩ = some (cellv w' ⟨R, k, none⟩) := by
  obtain ⟨_, t, cs, hs, hb⟩ := h
  have e := cell_of_row w' R k _ _ _ hb
  unfold cellv
  rw [e, Array.getElem?_eq_getElem (by omega)]; rfl
theorem HeldR.frozen {W1 w' : World} {R : Nat} (h : HeldR W1 R w') (k : Nat) : w'.frozen? ⟨R, k, none⟩ = false := by
  obtain ⟨_, t, cs, hs, hb⟩ := h
  exact frozen_of_row w' R k _ _ hb
theorem HeldR.blk {W1 w' : World} {R g : Nat} {t : TypeId} {cs : Array Value} (h : HeldR W1 R w') (hb : Blk W1 g t cs) (hne : g ≠ R) : Blk w' g t cs := hb.kept h.1 (fun e => hne (Option.some.inj e))
theorem HeldR.at {W1 w' : World} {R g k : Nat} {t : TypeId} {cs : Array Value} {v : Value} (h : HeldR W1 R w') (hb : Blk W1 g t cs) (hne : g ≠ R) (hv : cs[k]? = some v) : w'.cell? ⟨g, k, none⟩ = some v := (cell_of_row w' g k _ _ _ (h.blk hb hne)).trans hv
theorem HeldR.start {W1 : World} {R : Nat} {t : TypeId} {cs : Array Value} (hs : cs.size = 4) (h : Blk W1 R t cs) : HeldR W1 R W1.drew := ⟨grown_drew (grown_refl W1 R), t, cs, hs, h⟩
theorem HeldR.call {W1 w' w'' : World} {R : Nat} (k : Below w'.heap.size w' w'') (h : HeldR W1 R w') : HeldR W1 R w'' := by
  obtain ⟨hg, t, cs, hs, hb⟩ := h
  exact ⟨grown_below hg k, t, cs, hs, hb.block_below k⟩
theorem HeldR.set {W1 w' : World} {R : Nat} (h : HeldR W1 R w') (k : Nat) (v : Value) : HeldR W1 R (w'.setCell ⟨R, k, none⟩ v) := by
  obtain ⟨hg, t, cs, hs, hb⟩ := h
  exact ⟨grown_set' hg k v, t, cs.setIfInBounds k v, by simpa using hs, heap_setCell_same w' R k _ _ _ hb⟩
theorem HeldR.below {w W1 w' : World} {R n : Nat} (h : HeldR W1 R w') (hb : Below n w W1) (hn : n ≤ w.heap.size) (hR : n ≤ R) : Below n w w' := step_world hb h.1 hn hR

theorem sign2_at3 (a b : Nat) (w : World) (o1 o2 o3 : Obj) : Calls Tryd.prog 84 #[.slice (some ⟨w.heap.size + 1 + 1 + 1, 0, none⟩) 2 2] ((((w.alloc o1).alloc o2).alloc o3).alloc (.cells #[.int .u64 (lb a 0), .int .u64 (lb a 1), .int .u64 (lb a 2), .int .u64 (lb a 3), .int .u64 (lb b 0), .int .u64 (lb b 1), .int .u64 (lb b 2), .int .u64 (lb b 3)] 25)) fun e w' => e = .returned (.agg #[.bool (ngN a), .bool (ngN b)]) ∧ Below (((w.alloc o1).alloc o2).alloc o3).heap.size (((w.alloc o1).alloc o2).alloc o3) w' := by
  have h := sign2_new a b (((w.alloc o1).alloc o2).alloc o3)
  rw [World.size_alloc, World.size_alloc, World.size_alloc] at h
  rw [World.size_alloc, World.size_alloc, World.size_alloc]
  exact h
attribute [local irreducible] lb tnN mdN
end Go.Proofs.YthjbiojbmjgkbaaDoor

/- split: the whole sum of two words. -/
namespace Go.Proofs.YthjbiojbmjgkbaaDoor
open Go.RowKit
attribute [local go_sem] ix0 ix1 ix2 ix3
theorem cy_four (a b : Nat) (ha : a < MM) (hb : b < MM) : cy a b 4 = lb (a + b) 4 := by
  unfold cy lb
  have e1 : a % B64 ^ 4 = a := Nat.mod_eq_of_lt ha
  have e2 : b % B64 ^ 4 = b := Nat.mod_eq_of_lt hb
  rw [e1, e2]
  congr 1
  have h : (a + b) / B64 ^ 4 < 2 := Nat.div_lt_of_lt_mul (by show a + b < MM * 2; omega)
  exact (Nat.mod_eq_of_lt (Nat.lt_trans h (by unfold B64; omega))).symm

end Go.Proofs.YthjbiojbmjgkbaaDoor

/- split: AddMod. -/
namespace Go.Proofs.YthjbiojbmjgkbaaDoor
open Go.RowKit
attribute [local go_sem] ix0 ix1 ix2 ix3
attribute [local irreducible] lb mdN
end Go.Proofs.YthjbiojbmjgkbaaDoor

/- split: the whole product of two words. -/
namespace Go.Proofs.YthjbiojbmjgkbaaDoor
open Go.RowKit
attribute [local go_sem] ix0 ix1 ix2 ix3
theorem add64_nn (x y : Nat) (w : World) :
    (callFunc 85 #[.int .u64 x, .int .u64 y, .int .u64 0]).run Tryd.prog w =
      .ok (.value (.tuple #[.int .u64 (((x + y) % B64 : Nat) : Int), .int .u64 (((x + y) / B64 : Nat) : Int)])) w := by
  rw [run_callFunc_extern (fn := Tryd.f85) (by kernel_rfl) (by kernel_rfl) (by kernel_rfl) (by kernel_rfl) (e := add64Entry) (by kernel_rfl), run_add64 _ _ _ (by omega) (by omega) (by omega) (by omega)]
  simp only [Result.andThen, Int.add_zero]
  rfl
/-- Eight limbs. -/
def Lc (f : Nat → Nat) : Array Value := #[.int .u64 (f 0 : Nat), .int .u64 (f 1 : Nat), .int .u64 (f 2 : Nat), .int .u64 (f 3 : Nat), .int .u64 (f 4 : Nat), .int .u64 (f 5 : Nat), .int .u64 (f 6 : Nat), .int .u64 (f 7 : Nat)]
theorem Lc_get (f : Nat → Nat) (k : Nat) (hk : k < 8) : (Lc f)[k]? = some (.int .u64 (f k : Nat)) := by
  match k, hk with
  | 0, _ | 1, _ | 2, _ | 3, _ | 4, _ | 5, _ | 6, _ | 7, _ => rfl
theorem Lc_set (f : Nat → Nat) (k v : Nat) (hk : k < 8) : (Lc f).setIfInBounds k (.int .u64 (v : Nat)) = Lc (updN f k v) := by
  match k, hk with
  | 0, _ | 1, _ | 2, _ | 3, _ | 4, _ | 5, _ | 6, _ | 7, _ => rfl
theorem Lc_zero : Lc (fun _ => 0) = #[.int .u64 0, .int .u64 0, .int .u64 0, .int .u64 0, .int .u64 0, .int .u64 0, .int .u64 0, .int .u64 0] := rfl

end Go.Proofs.YthjbiojbmjgkbaaDoor

/- split: MulMod. -/
namespace Go.Proofs.YthjbiojbmjgkbaaDoor
open Go.RowKit
attribute [local go_sem] ix0 ix1 ix2 ix3
attribute [local irreducible] lb mdN
end Go.Proofs.YthjbiojbmjgkbaaDoor

/- split: pairs. -/
namespace Go.Proofs.YthjbiojbmjgkbaaDoor
open Go.RowKit Go.Shelf
attribute [local go_sem] ix0 ix1 ix2 ix3
attribute [local go_sem] Oper.semAt_some
/-- Euclid's way. -/
def eu (a b : Nat) : Nat → Nat
  | 0 => a
  | 1 => b
  | k + 2 => mdN (eu a b k) (eu a b (k + 1))
theorem mdN_lt (a b : Nat) (ha : a < MM) : mdN a b < MM := by
  unfold mdN; split
  · exact MM_pos
  · exact Nat.lt_of_le_of_lt (Nat.mod_le _ _) ha
theorem eu_lt (a b : Nat) (ha : a < MM) (hb : b < MM) : ∀ k, eu a b k < MM
  | 0 => ha
  | 1 => hb
  | k + 2 => mdN_lt _ _ (eu_lt a b ha hb k)
/-- Two of them, as cells. -/
abbrev Pc (x y : Nat) : Array Value := #[.int .u64 (lb x 0), .int .u64 (lb x 1), .int .u64 (lb x 2), .int .u64 (lb x 3), .int .u64 (lb y 0), .int .u64 (lb y 1), .int .u64 (lb y 2), .int .u64 (lb y 3)]
theorem Blk.set4 {X : World} {g : Nat} {t : TypeId} {x : Nat} (h : Blk X g t (Wc x)) (y : Nat) : Blk ((((X.setCell ⟨g, 0, none⟩ (.int .u64 (lb y 0))).setCell ⟨g, 1, none⟩ (.int .u64 (lb y 1))).setCell ⟨g, 2, none⟩ (.int .u64 (lb y 2))).setCell ⟨g, 3, none⟩ (.int .u64 (lb y 3))) g t (Wc y) := by
  have h0 := heap_setCell_same X g 0 _ _ (.int .u64 (lb y 0)) h
  have h1 := heap_setCell_same _ g 1 _ _ (.int .u64 (lb y 1)) h0
  have h2 := heap_setCell_same _ g 2 _ _ (.int .u64 (lb y 2)) h1
  exact heap_setCell_same _ g 3 _ _ (.int .u64 (lb y 3)) h2
theorem grown_set4 (X : World) (g : Nat) (v0 v1 v2 v3 : Value) : X.grownBy ((((X.setCell ⟨g, 0, none⟩ v0).setCell ⟨g, 1, none⟩ v1).setCell ⟨g, 2, none⟩ v2).setCell ⟨g, 3, none⟩ v3) (some g) :=
  grown_set' (grown_set' (grown_set' (grown_set' (grown_refl X g) 0 v0) 1 v1) 2 v2) 3 v3
attribute [local irreducible] lb mdN
end Go.Proofs.YthjbiojbmjgkbaaDoor

/- split: Steps: Euclid's way one by one, out of pairs. -/

namespace Go.Proofs.YthjbiojbmjgkbaaDoor
open Go.RowKit Go.Shelf
attribute [local go_sem] ix0 ix1 ix2 ix3
attribute [local go_sem] Oper.semAt_some
/-- The words that come by twos, one by one. -/
def fl (pre : List Nat) : List Nat := pre.flatMap (fun k => [2 * k, 2 * k + 1])
theorem fl_snoc (pre : List Nat) (k : Nat) : fl (pre ++ [k]) = fl pre ++ [2 * k] ++ [2 * k + 1] := by unfold fl; simp
theorem fl_range : ∀ m, fl (List.range m) = List.range (2 * m)
  | 0 => rfl
  | m + 1 => by rw [List.range_succ, fl_snoc, fl_range m, show 2 * (m + 1) = 2 * m + 1 + 1 by omega, List.range_succ, List.range_succ]
/-- Where Euclid's way ends. -/
theorem eu_falls (a b : Nat) (hb : b < MM) : ∀ k, (∀ i, i ≤ k → eu a b (i + 1) ≠ 0) → eu a b (k + 1) + k ≤ b
  | 0, _ => Nat.le_refl _
  | k + 1, h => by
    have h1 := eu_falls a b hb k (fun i hi => h i (by omega))
    have h2 : eu a b (k + 2) < eu a b (k + 1) := by
      show mdN _ _ < _
      have h3 := h k (by omega)
      unfold mdN; rw [if_neg h3]; exact Nat.mod_lt _ (by omega)
    show eu a b (k + 2) + (k + 1) ≤ b
    omega
theorem eu_ends (a b : Nat) (hb : b < MM) : ∃ N, eu a b N = 0 ∧ (∀ i, i < N → eu a b i ≠ 0) ∧ N ≤ b + 2 := by
  obtain ⟨N, h1, h2⟩ := exists_least (p := fun k => eu a b k = 0) (by
    refine Classical.byContradiction fun h => ?_
    have h3 := eu_falls a b hb (b + 1) (fun i _ e => h ⟨i + 1, e⟩)
    omega)
  refine ⟨N, h1, fun i hi e => by have := h2 i e; omega, ?_⟩
  refine Classical.byContradiction fun h => ?_
  have h3 := eu_falls a b hb (b + 1) (fun i hi e => by have := h2 (i + 1) e; omega)
  omega
theorem blk_cells {X Y : World} {g : Nat} {t : TypeId} {cs : Array Value} {row : Option Nat} (h : Blk X g t cs) (hg : X.grownBy Y row) (hr : ∀ r, row = some r → ∃ o : Obj, X.heap[r]? = some o ∧ o.isCells = false) : Blk Y g t cs :=
  h.kept hg (fun e => by obtain ⟨o, ho, hc⟩ := hr g e.symm; rw [show X.heap[g]? = _ from h] at ho; cases ho; cases hc)
theorem round_at {F : Fence} {n : Nat} {P : Program} {l : Nat} {f : FuncId} {tmps : Array Value} {assign body : Code} {w : World} {R : Ending → World → Prop} (k : Nat) (h : RoundIn F n P l f tmps assign body w R) : RoundIn (F.inRound k) n P l f tmps assign body w R := h

/-- What the loop over pairs comes to. -/
def LeftAt (a b : Nat) (J Jx : List Nat → World → Prop) (q : List Nat) (k : Nat) (X : World) : Prop :=
  (eu a b (2 * k) = 0 ∧ J (fl q) X) ∨ (eu a b (2 * k) ≠ 0 ∧ Jx (fl q ++ [2 * k]) X) ∨ (eu a b (2 * k) ≠ 0 ∧ eu a b (2 * k + 1) = 0 ∧ J (fl q ++ [2 * k]) X) ∨ (eu a b (2 * k) ≠ 0 ∧ eu a b (2 * k + 1) ≠ 0 ∧ Jx (fl q ++ [2 * k] ++ [2 * k + 1]) X)

theorem leftAt_abide (a b : Nat) {J Jx : List Nat → World → Prop} {B : Nat} (hJ : Abide B J) (hJx : Abide B Jx) (q : List Nat) (k : Nat) : Abide B (fun (_ : List Nat) X => LeftAt a b J Jx q k X) := fun _ X Y row hs hg hr => by
  rcases hs with ⟨h1, h2⟩ | ⟨h1, h2⟩ | ⟨h1, h2, h3⟩ | ⟨h1, h2, h3⟩
  · exact .inl ⟨h1, hJ _ X Y row h2 hg hr⟩
  · exact .inr (.inl ⟨h1, hJx _ X Y row h2 hg hr⟩)
  · exact .inr (.inr (.inl ⟨h1, h2, hJ _ X Y row h3 hg hr⟩))
  · exact .inr (.inr (.inr ⟨h1, h2, hJx _ X Y row h3 hg hr⟩))
theorem eq_nought (x : Nat) (hx : x < MM) (w : World) : (binOp .eql 25 (W x) (.agg #[.int .u64 0, .int .u64 0, .int .u64 0, .int .u64 0])).run Tryd.prog w = .ok (.bool (x == 0)) w := by
  have h := eqW x 0 w
  rw [W_zero, Nat.mod_eq_of_lt hx, Nat.zero_mod] at h
  exact h
theorem steps_gd {a b x : Nat} {pre : List Nat} (hg : pre = List.range x) (hn : ∀ i, i ∈ fl pre → eu a b i ≠ 0) (h : eu a b (2 * x) ≠ 0) : fl pre = List.range (2 * x) ∧ ∀ i, i ≤ 2 * x → eu a b i ≠ 0 := by
  subst hg
  rw [fl_range] at hn ⊢
  refine ⟨rfl, fun i hi => ?_⟩
  by_cases e : i = 2 * x
  · rw [e]; exact h
  · exact hn i (List.mem_range.2 (by omega))
theorem steps_gd2 {a b x : Nat} {pre : List Nat} (hg : pre = List.range x) (hn : ∀ i, i ∈ fl pre → eu a b i ≠ 0) (h : eu a b (2 * x) ≠ 0) (h' : eu a b (2 * x + 1) ≠ 0) : fl pre ++ [2 * x] = List.range (2 * x + 1) ∧ ∀ i, i ≤ 2 * x + 1 → eu a b i ≠ 0 := by
  obtain ⟨h1, h2⟩ := steps_gd hg hn h
  refine ⟨by rw [h1, List.range_succ], fun i hi => ?_⟩
  by_cases e : i = 2 * x + 1
  · rw [e]; exact h'
  · exact h2 i (by omega)
attribute [local irreducible] lb mdN
end Go.Proofs.YthjbiojbmjgkbaaDoor

/- split's law: works: what its rows want, at their words. -/
namespace Go.Proofs.YthjbiojbmjgkbaaDoor
open Go.RowKit Go.Shelf
attribute [local go_sem] ix0 ix1 ix2 ix3
attribute [local go_sem] Oper.semAt_some
theorem rof_int (n : Int) (w : World) :
    Calls Tryd.prog 31 #[.int .u64 n] w fun e w' => e = .returned (.agg #[.int .u64 n, .int .u64 0, .int .u64 0, .int .u64 0]) ∧ Below w.heap.size w w' := by
  go_enter Tryd.func31, Tryd.ntmps31
  go_wp2
  exact bodyPost_ret (v := .agg #[.int .u64 n, .int .u64 0, .int .u64 0, .int .u64 0]) (by simp [results, Tryd.results31, go_sem]) rfl ⟨rfl, by first | exact (Below.refl _ _).alloc (Nat.le_refl _) _ | exact Below.refl _ _⟩
theorem eq_same (t : TypeId) (ht : Tryd.prog.underlying t = some (.array 4 23)) (a b c d : Int) (w : World) : (binOp .eql t (.agg #[.int .u64 a, .int .u64 b, .int .u64 c, .int .u64 d]) (.agg #[.int .u64 a, .int .u64 b, .int .u64 c, .int .u64 d])).run Tryd.prog w = .ok (.bool true) w := by
  obtain ⟨i, hi⟩ := Option.isSome_iff_exists.1 info_u64
  have f : ∀ j, j < 4 → (#[Value.int .u64 a, .int .u64 b, .int .u64 c, .int .u64 d] : Array Value)[j]? = some (.int .u64 (([a, b, c, d] : List Int).getD j 0)) := fun j hj => by
    match j, hj with
    | 0, _ | 1, _ | 2, _ | 3, _ => rfl
  rw [run_eql_ints ht (k := .u64) (by kernel_rfl) hi (by kernel_rfl) _ _ (fun j => ([a, b, c, d] : List Int).getD j 0) (fun j => ([a, b, c, d] : List Int).getD j 0) (fun j hj => ⟨f j hj, f j hj⟩) w]
  simp
theorem eq_sameW (a b c d : Int) (w : World) : (binOp .eql 25 (.agg #[.int .u64 a, .int .u64 b, .int .u64 c, .int .u64 d]) (.agg #[.int .u64 a, .int .u64 b, .int .u64 c, .int .u64 d])).run Tryd.prog w = .ok (.bool true) w := eq_same _ (by kernel_rfl) a b c d w

theorem W_of (n : Nat) (v : Int) (h0 : lb n 0 = v) (h1 : lb n 1 = 0) (h2 : lb n 2 = 0) (h3 : lb n 3 = 0) : W n = .agg #[.int .u64 v, .int .u64 0, .int .u64 0, .int .u64 0] := by unfold W; rw [h0, h1, h2, h3]
theorem W_1 : W 1 = .agg #[.int .u64 1, .int .u64 0, .int .u64 0, .int .u64 0] := W_of 1 1 (by decide +kernel) (by decide +kernel) (by decide +kernel) (by decide +kernel)
theorem W_2 : W 2 = .agg #[.int .u64 2, .int .u64 0, .int .u64 0, .int .u64 0] := W_of 2 2 (by decide +kernel) (by decide +kernel) (by decide +kernel) (by decide +kernel)
theorem W_3 : W 3 = .agg #[.int .u64 3, .int .u64 0, .int .u64 0, .int .u64 0] := W_of 3 3 (by decide +kernel) (by decide +kernel) (by decide +kernel) (by decide +kernel)
theorem W_4 : W 4 = .agg #[.int .u64 4, .int .u64 0, .int .u64 0, .int .u64 0] := W_of 4 4 (by decide +kernel) (by decide +kernel) (by decide +kernel) (by decide +kernel)
theorem W_7 : W 7 = .agg #[.int .u64 7, .int .u64 0, .int .u64 0, .int .u64 0] := W_of 7 7 (by decide +kernel) (by decide +kernel) (by decide +kernel) (by decide +kernel)
theorem W_12 : W 12 = .agg #[.int .u64 12, .int .u64 0, .int .u64 0, .int .u64 0] := W_of 12 12 (by decide +kernel) (by decide +kernel) (by decide +kernel) (by decide +kernel)
theorem W_18 : W 18 = .agg #[.int .u64 18, .int .u64 0, .int .u64 0, .int .u64 0] := W_of 18 18 (by decide +kernel) (by decide +kernel) (by decide +kernel) (by decide +kernel)
theorem W_neg (n : Nat) (v : Int) (h0 : lb (sb 0 n) 0 = v) (h1 : lb (sb 0 n) 1 = 18446744073709551615) (h2 : lb (sb 0 n) 2 = 18446744073709551615) (h3 : lb (sb 0 n) 3 = 18446744073709551615) : W (sb 0 n) = .agg #[.int .u64 v, .int .u64 18446744073709551615, .int .u64 18446744073709551615, .int .u64 18446744073709551615] := by unfold W; rw [h0, h1, h2, h3]
theorem W_m1 : W (sb 0 1) = .agg #[.int .u64 18446744073709551615, .int .u64 18446744073709551615, .int .u64 18446744073709551615, .int .u64 18446744073709551615] := W_neg 1 _ (by decide +kernel) (by decide +kernel) (by decide +kernel) (by decide +kernel)
theorem W_m3 : W (sb 0 3) = .agg #[.int .u64 18446744073709551613, .int .u64 18446744073709551615, .int .u64 18446744073709551615, .int .u64 18446744073709551615] := W_neg 3 _ (by decide +kernel) (by decide +kernel) (by decide +kernel) (by decide +kernel)
theorem W_m7 : W (sb 0 7) = .agg #[.int .u64 18446744073709551609, .int .u64 18446744073709551615, .int .u64 18446744073709551615, .int .u64 18446744073709551615] := W_neg 7 _ (by decide +kernel) (by decide +kernel) (by decide +kernel) (by decide +kernel)
theorem W_top : W (2 ^ 255) = .agg #[.int .u64 0, .int .u64 0, .int .u64 0, .int .u64 9223372036854775808] := by
  have h0 : lb (2 ^ 255) 0 = 0 := by decide +kernel
  have h1 : lb (2 ^ 255) 1 = 0 := by decide +kernel
  have h2 : lb (2 ^ 255) 2 = 0 := by decide +kernel
  have h3 : lb (2 ^ 255) 3 = 9223372036854775808 := by decide +kernel
  unfold W; rw [h0, h1, h2, h3]
theorem m_lt (n : Nat) (h : n < 1000) : n < MM := Nat.lt_trans h (by decide +kernel)

end Go.Proofs.YthjbiojbmjgkbaaDoor

/- split's law: works: the walk up to its last line. -/
namespace Go.Proofs.YthjbiojbmjgkbaaDoor
open Go.RowKit Go.Shelf
attribute [local go_sem] ix0 ix1 ix2 ix3
attribute [local go_sem] Oper.semAt_some
attribute [local irreducible] lb mdN
/-- The text of the steps of 12 and 18 so far. -/
def stN (k : Nat) : ByteArray := ⟨((#[109, 115, 109, 103] : Array UInt8).toList.take k).toArray⟩

theorem conv1 (X : World) (c : Int) (s : ByteArray) (hs : strOfNums [c] = s) : (convert 68 9 (.slice (some ⟨X.heap.size, 0, none⟩) 1 1)).run Tryd.prog (X.alloc (.cells #[.int .u8 c] 5)) = .ok (.string s) (X.alloc (.cells #[.int .u8 c] 5)) := by
  have hb := Blk.new X 5 #[.int .u8 c]
  have h := run_convert_bytes_arg (P := Tryd.prog) (X.alloc (.cells #[.int .u8 c] 5)) 68 5 (by kernel_rfl) (by kernel_rfl) X.heap.size 0 1 1 [c] rfl (fun i hi => by
    obtain rfl : i = 0 := by omega
    exact cell_of_row _ _ 0 _ _ _ hb) 9 (by kernel_rfl)
  rwa [hs] at h

end Go.Proofs.YthjbiojbmjgkbaaDoor

/- split's reference: twice. -/
namespace Go.Proofs.YthjbiojbmjgkbaaDoor
open Go.RowKit Go.Shelf
attribute [local go_sem] ix0 ix1 ix2 ix3
theorem lb_odd0 (n : Nat) : bits .or .u64 (lb (n + n) 0) 1 = lb (n + n + 1) 0 := by
  unfold lb
  rw [Nat.pow_zero, Nat.div_one, Nat.div_one]
  have e1 : (n + n) % B64 = 2 ^ 1 * (n % 9223372036854775808) := by unfold B64; omega
  have e2 : (n + n + 1) % B64 = 2 ^ 1 * (n % 9223372036854775808) + 1 := by unfold B64; omega
  rw [e1, e2]
  exact or_add 1 (n % 9223372036854775808) 1 (by omega) (by omega)
theorem lb_odd (n i : Nat) : lb (n + n + 1) (i + 1) = lb (n + n) (i + 1) := by
  unfold lb
  congr 2
  rw [Nat.pow_succ, Nat.mul_comm, ← Nat.div_div_eq_div_mul, ← Nat.div_div_eq_div_mul]
  congr 1
  unfold B64
  omega

set_option maxHeartbeats 1000000 in
theorem rtwice_any (a : Nat) (t : Bool) (w : World) :
    Calls Tryd.prog 64 #[W a, .bool t] w fun e w' => e = .returned (.tuple #[W (a + a + (if t then 1 else 0)), .bool (a / 2 ^ 255 % 2 == 1)]) ∧ Below w.heap.size w w' := by
  have o0 := lb_odd0 a
  have o1 := lb_odd a 0
  have o2 := lb_odd a 1
  have o3 := lb_odd a 2
  rw [Nat.zero_add] at o1
  rw [show 1 + 1 = 2 from rfl] at o2
  rw [show 2 + 1 = 3 from rfl] at o3
  have eW : W (a + a + 1) = .agg #[.int .u64 (bits .or .u64 (lb (a + a) 0) 1), .int .u64 (lb (a + a) 1), .int .u64 (lb (a + a) 2), .int .u64 (lb (a + a) 3)] := by unfold W; rw [o1, o2, o3, o0]
  have hbit := rbit_any a 255 (by omega)
  generalize (a / 2 ^ 255 % 2 == 1) = ov at hbit ⊢
  have EW := Lib.hid eW
  have HBIT := Lib.hid hbit
  clear eW hbit
  have A0 := Lib.hid ((Blk.new w 25 (Wc a)).alloc (.cells #[.int .u64 0, .int .u64 0, .int .u64 0, .int .u64 0] 25))
  have R0 := Lib.hid (Blk.newS w (.cells (Wc a) 25) 25 #[.int .u64 0, .int .u64 0, .int .u64 0, .int .u64 0])
  clear o0 o1 o2 o3
  cases t
  all_goals
    go_enter Tryd.func64, Tryd.ntmps64
    go_wp2_with fail
    refine (HBIT.out _).mono ?_
    rintro e w1 ⟨rfl, h1⟩
    have A1 := A0.out.keep h1
    have R1 := R0.out.keep h1
    have hB := bstep (balloc (balloc (Below.refl w.heap.size w) (.cells (Wc a) 25)) (.cells #[.int .u64 0, .int .u64 0, .int .u64 0, .int .u64 0] 25)) h1
    have c0 := (cell_of_row w1 _ 0 _ _ _ A1).trans (wc_get a 0 (by omega))
    have c1 := (cell_of_row w1 _ 1 _ _ _ A1).trans (wc_get a 1 (by omega))
    have c2 := (cell_of_row w1 _ 2 _ _ _ A1).trans (wc_get a 2 (by omega))
    have c3 := (cell_of_row w1 _ 3 _ _ _ A1).trans (wc_get a 3 (by omega))
    have HA1 := Lib.hid A1
    have HR1 := Lib.hid R1
    have HB := Lib.hid hB
    clear A1 R1 hB h1 A0 R0
    go_wp2_with fail
    refine (radd_any a a _).mono ?_
    rintro e w2 ⟨rfl, h2⟩
    have A2 := HA1.out.keep h2
    have R2 := HR1.out.keep h2
    have hB := bstep HB.out h2
    clear c0 c1 c2 c3 HA1 HR1 HB
    have c0 := cell_of_row w2 _ 0 _ _ _ A2
    have c1 := cell_of_row w2 _ 1 _ _ _ A2
    have c2 := cell_of_row w2 _ 2 _ _ _ A2
    have c3 := cell_of_row w2 _ 3 _ _ _ A2
    have f0 := frozen_of_row w2 _ 0 _ _ A2
    have f1 := frozen_of_row w2 _ 1 _ _ A2
    have f2 := frozen_of_row w2 _ 2 _ _ A2
    have f3 := frozen_of_row w2 _ 3 _ _ A2
    have r0 := cell_of_row w2 _ 0 _ _ _ R2
    have r1 := cell_of_row w2 _ 1 _ _ _ R2
    have r2 := cell_of_row w2 _ 2 _ _ _ R2
    have r3 := cell_of_row w2 _ 3 _ _ _ R2
    have g0 := frozen_of_row w2 _ 0 _ _ R2
    have g1 := frozen_of_row w2 _ 1 _ _ R2
    have g2 := frozen_of_row w2 _ 2 _ _ R2
    have g3 := frozen_of_row w2 _ 3 _ _ R2
    have HB := Lib.hid hB
    clear A2 R2 hB h2
    go_wp2
  · exact bodyPost_ret (v := .tuple #[W (a + a), .bool ov]) (by simp [results, Tryd.results64, go_sem, r0, r1, r2, r3]) rfl ⟨rfl, ((((((((HB.out.setCell (p := ⟨w.heap.size, 0, none⟩) (by simp; try omega) _).setCell (p := ⟨w.heap.size, 1, none⟩) (by simp; try omega) _).setCell (p := ⟨w.heap.size, 2, none⟩) (by simp; try omega) _).setCell (p := ⟨w.heap.size, 3, none⟩) (by simp; try omega) _).setCell (p := ⟨w.heap.size + 1, 0, none⟩) (by simp; try omega) _).setCell (p := ⟨w.heap.size + 1, 1, none⟩) (by simp; try omega) _).setCell (p := ⟨w.heap.size + 1, 2, none⟩) (by simp; try omega) _).setCell (p := ⟨w.heap.size + 1, 3, none⟩) (by simp; try omega) _)⟩
  · refine bodyPost_ret (v := .tuple #[.agg #[.int .u64 (bits .or .u64 (lb (a + a) 0) 1), .int .u64 (lb (a + a) 1), .int .u64 (lb (a + a) 2), .int .u64 (lb (a + a) 3)], .bool ov]) (by simp [results, Tryd.results64, go_sem, r0, r1, r2, r3]) rfl ⟨?_, (((((((((HB.out.setCell (p := ⟨w.heap.size, 0, none⟩) (by simp; try omega) _).setCell (p := ⟨w.heap.size, 1, none⟩) (by simp; try omega) _).setCell (p := ⟨w.heap.size, 2, none⟩) (by simp; try omega) _).setCell (p := ⟨w.heap.size, 3, none⟩) (by simp; try omega) _).setCell (p := ⟨w.heap.size, 0, none⟩) (by simp; try omega) _).setCell (p := ⟨w.heap.size + 1, 0, none⟩) (by simp; try omega) _).setCell (p := ⟨w.heap.size + 1, 1, none⟩) (by simp; try omega) _).setCell (p := ⟨w.heap.size + 1, 2, none⟩) (by simp; try omega) _).setCell (p := ⟨w.heap.size + 1, 3, none⟩) (by simp; try omega) _)⟩
    show Ending.returned _ = Ending.returned _
    rw [EW.out]
end Go.Proofs.YthjbiojbmjgkbaaDoor

/- split's reference: Divide, of a divisor that is not nought. -/
namespace Go.Proofs.YthjbiojbmjgkbaaDoor
open Go.RowKit Go.Shelf
attribute [local go_sem] ix0 ix1 ix2 ix3
theorem top_bit (r : Nat) (hr : r < MM) : (r / 2 ^ 255 % 2 == 1) = decide (MM ≤ r + r) := by
  have e : MM = 2 ^ 255 + 2 ^ 255 := by decide +kernel
  have h1 : r / 2 ^ 255 < 2 := Nat.div_lt_of_lt_mul (by omega)
  rw [Bool.eq_iff_iff]
  simp only [beq_iff_eq, decide_eq_true_eq]
  constructor
  · intro h
    have h2 : 1 ≤ r / 2 ^ 255 := by omega
    have h3 := (Nat.le_div_iff_mul_le (Nat.pow_pos (by omega))).1 h2
    omega
  · intro h
    have h2 : 1 ≤ r / 2 ^ 255 := (Nat.le_div_iff_mul_le (Nat.pow_pos (by omega))).2 (by omega)
    omega
theorem mm_even (r bit : Nat) (hb : bit ≤ 1) : MM ≤ r + r + bit ↔ MM ≤ r + r := by
  have e : MM = 2 ^ 255 + 2 ^ 255 := by decide +kernel
  omega

theorem join1 {C : Nat → World → Prop} {G : Prop} (P : Nat → World → Prop) (main : (∀ X wz, C X wz → P X wz) → G) (hrest : ∀ X wz, C X wz → P X wz) : G := main hrest

set_option maxRecDepth 100000 in
set_option maxHeartbeats 16000000 in
theorem rdivide_pos (a b : Nat) (ha : a < MM) (hb0 : 0 < b) (hb : b < MM) (w : World) :
    Calls Tryd.prog 32 #[W a, W b] w fun e w' => e = .returned (.tuple #[W (a / b), W (a % b)]) ∧ Below w.heap.size w w' := by
  have heq : ∀ w, (binOp .eql 25 (W b) (.agg #[.int .u64 0, .int .u64 0, .int .u64 0, .int .u64 0])).run Tryd.prog w = .ok (.bool false) w := fun w => by
    rw [eq_nought _ hb]; simp; omega
  have hi : (Tryd.prog.info? 25).map (·.size) = some (Wc 0).size := by kernel_rfl
  have HI := Lib.hid hi
  have HA := Lib.hid ha
  have HB0 := Lib.hid hb0
  have HB := Lib.hid hb
  clear ha hb0 hb hi
  go_enter Tryd.func32, Tryd.ntmps32
  go_wp2_with fail
  clear heq
  have e0 : #[.int .u64 0, .int .u64 0, .int .u64 0, .int .u64 0] = Wc 0 := by unfold Wc; simp only [lb_zero]
  have bA : Blk (((((((w.alloc (.cells (Wc a) 25)).alloc (.cells (Wc b) 25)).alloc (.cells (Wc 0) 25)).alloc (.cells (Wc 0) 25)).alloc (.cells (Wc 0) 25)).alloc (.cells (Wc 0) 25))) (w.heap.size) 25 (Wc a) := (((((Blk.new w 25 (Wc a)).alloc _).alloc _).alloc _).alloc _).alloc _
  have bB : Blk (((((((w.alloc (.cells (Wc a) 25)).alloc (.cells (Wc b) 25)).alloc (.cells (Wc 0) 25)).alloc (.cells (Wc 0) 25)).alloc (.cells (Wc 0) 25)).alloc (.cells (Wc 0) 25))) (w.heap.size + 1) 25 (Wc b) := by
    have h := Blk.newS (w) (.cells (Wc a) 25) 25 (Wc b)
    exact ((((h.alloc _).alloc _).alloc _).alloc _)
  have bR1 : Blk (((((((w.alloc (.cells (Wc a) 25)).alloc (.cells (Wc b) 25)).alloc (.cells (Wc 0) 25)).alloc (.cells (Wc 0) 25)).alloc (.cells (Wc 0) 25)).alloc (.cells (Wc 0) 25))) (w.heap.size + 1 + 1) 25 (Wc 0) := by
    have h := Blk.newS ((w.alloc (.cells (Wc a) 25))) (.cells (Wc b) 25) 25 (Wc 0)
    rw [World.size_alloc] at h
    exact (((h.alloc _).alloc _).alloc _)
  have bR2 : Blk (((((((w.alloc (.cells (Wc a) 25)).alloc (.cells (Wc b) 25)).alloc (.cells (Wc 0) 25)).alloc (.cells (Wc 0) 25)).alloc (.cells (Wc 0) 25)).alloc (.cells (Wc 0) 25))) (w.heap.size + 1 + 1 + 1) 25 (Wc 0) := by
    have h := Blk.newS (((w.alloc (.cells (Wc a) 25)).alloc (.cells (Wc b) 25))) (.cells (Wc 0) 25) 25 (Wc 0)
    rw [World.size_alloc, World.size_alloc] at h
    exact ((h.alloc _).alloc _)
  have bQ : Blk (((((((w.alloc (.cells (Wc a) 25)).alloc (.cells (Wc b) 25)).alloc (.cells (Wc 0) 25)).alloc (.cells (Wc 0) 25)).alloc (.cells (Wc 0) 25)).alloc (.cells (Wc 0) 25))) (w.heap.size + 1 + 1 + 1 + 1) 25 (Wc 0) := by
    have h := Blk.newS ((((w.alloc (.cells (Wc a) 25)).alloc (.cells (Wc b) 25)).alloc (.cells (Wc 0) 25))) (.cells (Wc 0) 25) 25 (Wc 0)
    rw [World.size_alloc, World.size_alloc, World.size_alloc] at h
    exact (h.alloc _)
  have bR : Blk (((((((w.alloc (.cells (Wc a) 25)).alloc (.cells (Wc b) 25)).alloc (.cells (Wc 0) 25)).alloc (.cells (Wc 0) 25)).alloc (.cells (Wc 0) 25)).alloc (.cells (Wc 0) 25))) (w.heap.size + 1 + 1 + 1 + 1 + 1) 25 (Wc 0) := by
    have h := Blk.newS (((((w.alloc (.cells (Wc a) 25)).alloc (.cells (Wc b) 25)).alloc (.cells (Wc 0) 25)).alloc (.cells (Wc 0) 25))) (.cells (Wc 0) 25) 25 (Wc 0)
    rw [World.size_alloc, World.size_alloc, World.size_alloc, World.size_alloc] at h
    exact h
  have hW : Below w.heap.size w (((((((w.alloc (.cells (Wc a) 25)).alloc (.cells (Wc b) 25)).alloc (.cells (Wc 0) 25)).alloc (.cells (Wc 0) 25)).alloc (.cells (Wc 0) 25)).alloc (.cells (Wc 0) 25))) := balloc (balloc (balloc (balloc (balloc (balloc (Below.refl _ _) _) _) _) _) _) _
  rw [e0]
  obtain ⟨W0, hW0⟩ : ∃ W0, ((((((w.alloc (.cells (Wc a) 25)).alloc (.cells (Wc b) 25)).alloc (.cells (Wc 0) 25)).alloc (.cells (Wc 0) 25)).alloc (.cells (Wc 0) 25)).alloc (.cells (Wc 0) 25)) = W0 := ⟨_, rfl⟩
  rw [hW0] at bA bB bR1 bR2 bQ bR hW ⊢
  clear hW0
  go_loopw [8] (fun i wr => ∃ k : Nat, k ≤ 256 ∧ i = .int .i64 ((k : Int) - 1) ∧ Blk wr (w.heap.size) 25 (Wc a) ∧ Blk wr (w.heap.size + 1) 25 (Wc b) ∧ Blk wr (w.heap.size + 1 + 1) 25 (Wc 0) ∧ Blk wr (w.heap.size + 1 + 1 + 1) 25 (Wc 0) ∧ Blk wr (w.heap.size + 1 + 1 + 1 + 1) 25 (Wc (a / 2 ^ k / b)) ∧ Blk wr (w.heap.size + 1 + 1 + 1 + 1 + 1) 25 (Wc (a / 2 ^ k % b)) ∧ Below w.heap.size w wr) (fun i _ => (intOf i + 1).toNat)
  case atStart =>
    have e1 : a / 2 ^ 256 = 0 := Nat.div_eq_of_lt (Nat.lt_of_lt_of_le HA.out (by decide +kernel))
    exact ⟨256, Nat.le_refl _, rfl, bA, bB, bR1, bR2, by rw [e1, Nat.zero_div]; exact bQ, by rw [e1, Nat.zero_mod]; exact bR, hW⟩
  case round =>
    clear bA bB bR1 bR2 bQ bR hW e0
    obtain ⟨k, hk, rfl, bA, bB, bR1, bR2, bQ, bR, hW⟩ := hrel
    by_cases hk0 : k = 0
    · subst hk0
      have kQ0 := (cell_of_row wr _ 0 _ _ _ bQ).trans (wc_get _ 0 (by omega))
      have kQ1 := (cell_of_row wr _ 1 _ _ _ bQ).trans (wc_get _ 1 (by omega))
      have kQ2 := (cell_of_row wr _ 2 _ _ _ bQ).trans (wc_get _ 2 (by omega))
      have kQ3 := (cell_of_row wr _ 3 _ _ _ bQ).trans (wc_get _ 3 (by omega))
      have kR0 := (cell_of_row wr _ 0 _ _ _ bR).trans (wc_get _ 0 (by omega))
      have kR1 := (cell_of_row wr _ 1 _ _ _ bR).trans (wc_get _ 1 (by omega))
      have kR2 := (cell_of_row wr _ 2 _ _ _ bR).trans (wc_get _ 2 (by omega))
      have kR3 := (cell_of_row wr _ 3 _ _ _ bR).trans (wc_get _ 3 (by omega))
      have kR10 := (cell_of_row wr _ 0 _ _ _ bR1).trans (wc_get _ 0 (by omega))
      have fR10 := frozen_of_row wr _ 0 _ _ bR1
      have kR11 := (cell_of_row wr _ 1 _ _ _ bR1).trans (wc_get _ 1 (by omega))
      have fR11 := frozen_of_row wr _ 1 _ _ bR1
      have kR12 := (cell_of_row wr _ 2 _ _ _ bR1).trans (wc_get _ 2 (by omega))
      have fR12 := frozen_of_row wr _ 2 _ _ bR1
      have kR13 := (cell_of_row wr _ 3 _ _ _ bR1).trans (wc_get _ 3 (by omega))
      have fR13 := frozen_of_row wr _ 3 _ _ bR1
      have kR20 := (cell_of_row wr _ 0 _ _ _ bR2).trans (wc_get _ 0 (by omega))
      have fR20 := frozen_of_row wr _ 0 _ _ bR2
      have kR21 := (cell_of_row wr _ 1 _ _ _ bR2).trans (wc_get _ 1 (by omega))
      have fR21 := frozen_of_row wr _ 1 _ _ bR2
      have kR22 := (cell_of_row wr _ 2 _ _ _ bR2).trans (wc_get _ 2 (by omega))
      have fR22 := frozen_of_row wr _ 2 _ _ bR2
      have kR23 := (cell_of_row wr _ 3 _ _ _ bR2).trans (wc_get _ 3 (by omega))
      have fR23 := frozen_of_row wr _ 3 _ _ bR2
      have HW := Lib.hid hW
      clear bA bB bR1 bR2 bQ bR hW
      go_wp2_with fail
      go_region
      all_goals
        go_wp2
        exact bodyPost_ret (v := .tuple #[W (a / b), W (a % b)]) (by simp [results, Tryd.results32, go_sem, kR10, kR11, kR12, kR13, kR20, kR21, kR22, kR23]) rfl ⟨rfl, (((((((((HW.out.setCell (p := ⟨w.heap.size + 1 + 1, 0, none⟩) (by simp; omega) _).setCell (p := ⟨w.heap.size + 1 + 1, 1, none⟩) (by simp; omega) _).setCell (p := ⟨w.heap.size + 1 + 1, 2, none⟩) (by simp; omega) _).setCell (p := ⟨w.heap.size + 1 + 1, 3, none⟩) (by simp; omega) _).setCell (p := ⟨w.heap.size + 1 + 1 + 1, 0, none⟩) (by simp; omega) _).setCell (p := ⟨w.heap.size + 1 + 1 + 1, 1, none⟩) (by simp; omega) _).setCell (p := ⟨w.heap.size + 1 + 1 + 1, 2, none⟩) (by simp; omega) _).setCell (p := ⟨w.heap.size + 1 + 1 + 1, 3, none⟩) (by simp; omega) _)).drew⟩
    · obtain ⟨j, rfl⟩ : ∃ j, k = j + 1 := ⟨k - 1, by omega⟩
      have g1 : ((j + 1 : Nat) : Int) - 1 = (j : Int) := by omega
      rw [g1]
      clear g1 hk0
      go_upto_region 7 with fail
      have hsd := step_div a b j HB0.out
      have hrb := Nat.mod_lt (a / 2 ^ (j + 1)) HB0.out
      have hbit : (if (a / 2 ^ j % 2 == 1) = true then 1 else 0) = a / 2 ^ j % 2 := by
        have h1 : a / 2 ^ j % 2 < 2 := Nat.mod_lt _ (by omega)
        by_cases h2 : a / 2 ^ j % 2 = 1
        · simp [h2]
        · have h3 : a / 2 ^ j % 2 = 0 := by omega
          simp [h3]
      have hb1 : a / 2 ^ j % 2 ≤ 1 := by omega
      have htr := rtwice_any (a / 2 ^ (j + 1) % b) (a / 2 ^ j % 2 == 1)
      have htq := rtwice_any (a / 2 ^ (j + 1) / b) false
      rw [hbit, top_bit _ (Nat.lt_trans hrb HB.out)] at htr
      generalize a / 2 ^ (j + 1) % b = r at bR hsd hrb htr
      generalize a / 2 ^ (j + 1) / b = q at bQ hsd htq
      obtain ⟨V, hV⟩ : ∃ V, r + r + a / 2 ^ j % 2 = V := ⟨_, rfl⟩
      obtain ⟨ov, hov⟩ : ∃ ov, decide (MM ≤ r + r) = ov := ⟨_, rfl⟩
      obtain ⟨oq, hoq⟩ : ∃ oq, (q / 2 ^ 255 % 2 == 1) = oq := ⟨_, rfl⟩
      rw [hV, hov] at htr
      rw [hoq, show (q + q + if false = true then 1 else 0) = q + q from rfl] at htq
      have hov2 : ov = decide (MM ≤ V) := by
        rw [← hov, ← hV]
        exact decide_eq_decide.2 (mm_even r _ hb1).symm
      have hq2 : Hid (a / 2 ^ j / b = q * 2 + if b ≤ V then 1 else 0) := by
        show _ = _
        rw [hsd.1]; unfold stB; rw [show r * 2 + a / 2 ^ j % 2 = V by omega]
      have hr2 : Hid (a / 2 ^ j % b = if b ≤ V then V - b else V) := by
        show _ = _
        rw [hsd.2]; unfold stR; rw [show r * 2 + a / 2 ^ j % 2 = V by omega]
      have HOV := Lib.hid hov2
      have HTR := Lib.hid htr
      have HTQ := Lib.hid htq
      clear hsd hbit htr htq hV hov hoq hb1 hov2 hrb
      rename_i K hK
      have gl : IntKind.i64.wrap ((j : Int) - 1) = (j : Int) - 1 := IntWalk.i64_in _ (by omega)
      have key : ∀ (g : Nat) (X : World), wr.heap.size ≤ g → Blk X g 25 (Wc V) → Below wr.heap.size wr X → K { tmps := #[W a, W b, .pointer (some ⟨w.heap.size, 0, none⟩), .pointer (some ⟨w.heap.size + 1, 0, none⟩), .pointer (some ⟨w.heap.size + 1 + 1, 0, none⟩), .pointer (some ⟨w.heap.size + 1 + 1 + 1, 0, none⟩), .pointer (some ⟨w.heap.size + 1 + 1 + 1 + 1, 0, none⟩), .pointer (some ⟨w.heap.size + 1 + 1 + 1 + 1 + 1, 0, none⟩), .int .i64 j, .pointer (some ⟨g, 0, none⟩), .bool ov, W b, .agg (Wc 0), .bool false, undef, undef, .int .i64 j, .bool true, u18, u19, .tuple #[W V, .bool ov], W r, W a, .int .i64 j, .bool (a / 2 ^ j % 2 == 1), .tuple #[W V, .bool ov], W V, .bool ov, u28, u29, u30, u31, u32, u33, u34, u35, u36, u37, u38, u39, u40, u41, u42, u43, u44, u45, u46, u47, undef, undef], defers := [] } X := by
        intro g X hg bG hX
        have hlR0 := bR.lt
        refine hK _ _ ?_
        clear hK K
        replace bA := bA.block_below hX
        replace bB := bB.block_below hX
        replace bR1 := bR1.block_below hX
        replace bR2 := bR2.block_below hX
        replace bQ := bQ.block_below hX
        replace bR := bR.block_below hX
        have hlR := bR.lt
        replace hW := bstep hW hX
        have hgR : w.heap.size + 1 + 1 + 1 + 1 + 1 < g := Nat.lt_of_lt_of_le hlR0 hg
        clear hX HTR
        have cQ0 := (cell_of_row X _ 0 _ _ _ bQ).trans (wc_get (q) 0 (by omega))
        have cQ1 := (cell_of_row X _ 1 _ _ _ bQ).trans (wc_get (q) 1 (by omega))
        have cQ2 := (cell_of_row X _ 2 _ _ _ bQ).trans (wc_get (q) 2 (by omega))
        have cQ3 := (cell_of_row X _ 3 _ _ _ bQ).trans (wc_get (q) 3 (by omega))
        have H := Lib.hid (And.intro bA (And.intro bB (And.intro bR1 (And.intro bR2 (And.intro bQ (And.intro bR (And.intro bG hW)))))))
        clear bA bB bR1 bR2 bQ bR bG hW
        go_wp2_with fail
        refine (HTQ.out _).mono ?_
        rintro e X1 ⟨rfl, h1⟩
        obtain ⟨bA, bB, bR1, bR2, bQ, bR, bG, hW⟩ := H.out
        clear H cQ0 cQ1 cQ2 cQ3
        replace bA := bA.block_below h1
        replace bB := bB.block_below h1
        replace bR1 := bR1.block_below h1
        replace bR2 := bR2.block_below h1
        replace bQ := bQ.block_below h1
        replace bR := bR.block_below h1
        replace bG := bG.block_below h1
        replace hW := bstep hW h1
        clear h1
        have cQ0 := (cell_of_row X1 _ 0 _ _ _ bQ).trans (wc_get (q) 0 (by omega))
        have fcQ0 := frozen_of_row X1 _ 0 _ _ bQ
        have cQ1 := (cell_of_row X1 _ 1 _ _ _ bQ).trans (wc_get (q) 1 (by omega))
        have fcQ1 := frozen_of_row X1 _ 1 _ _ bQ
        have cQ2 := (cell_of_row X1 _ 2 _ _ _ bQ).trans (wc_get (q) 2 (by omega))
        have fcQ2 := frozen_of_row X1 _ 2 _ _ bQ
        have cQ3 := (cell_of_row X1 _ 3 _ _ _ bQ).trans (wc_get (q) 3 (by omega))
        have fcQ3 := frozen_of_row X1 _ 3 _ _ bQ
        have cR0 := (cell_of_row X1 _ 0 _ _ _ bR).trans (wc_get (r) 0 (by omega))
        have fcR0 := frozen_of_row X1 _ 0 _ _ bR
        have cR1 := (cell_of_row X1 _ 1 _ _ _ bR).trans (wc_get (r) 1 (by omega))
        have fcR1 := frozen_of_row X1 _ 1 _ _ bR
        have cR2 := (cell_of_row X1 _ 2 _ _ _ bR).trans (wc_get (r) 2 (by omega))
        have fcR2 := frozen_of_row X1 _ 2 _ _ bR
        have cR3 := (cell_of_row X1 _ 3 _ _ _ bR).trans (wc_get (r) 3 (by omega))
        have fcR3 := frozen_of_row X1 _ 3 _ _ bR
        have cG0 := (cell_of_row X1 _ 0 _ _ _ bG).trans (wc_get (V) 0 (by omega))
        have cG1 := (cell_of_row X1 _ 1 _ _ _ bG).trans (wc_get (V) 1 (by omega))
        have cG2 := (cell_of_row X1 _ 2 _ _ _ bG).trans (wc_get (V) 2 (by omega))
        have cG3 := (cell_of_row X1 _ 3 _ _ _ bG).trans (wc_get (V) 3 (by omega))
        have cB0 := (cell_of_row X1 _ 0 _ _ _ bB).trans (wc_get (b) 0 (by omega))
        have cB1 := (cell_of_row X1 _ 1 _ _ _ bB).trans (wc_get (b) 1 (by omega))
        have cB2 := (cell_of_row X1 _ 2 _ _ _ bB).trans (wc_get (b) 2 (by omega))
        have cB3 := (cell_of_row X1 _ 3 _ _ _ bB).trans (wc_get (b) 3 (by omega))
        have hG := grown_set4 X1 (w.heap.size + 1 + 1 + 1 + 1) (.int .u64 (lb (q + q) 0)) (.int .u64 (lb (q + q) 1)) (.int .u64 (lb (q + q) 2)) (.int .u64 (lb (q + q) 3))
        have hG2 := grown_set4 (((((X1.setCell ⟨w.heap.size + 1 + 1 + 1 + 1, 0, none⟩ (.int .u64 (lb (q + q) 0))).setCell ⟨w.heap.size + 1 + 1 + 1 + 1, 1, none⟩ (.int .u64 (lb (q + q) 1))).setCell ⟨w.heap.size + 1 + 1 + 1 + 1, 2, none⟩ (.int .u64 (lb (q + q) 2))).setCell ⟨w.heap.size + 1 + 1 + 1 + 1, 3, none⟩ (.int .u64 (lb (q + q) 3)))) (w.heap.size + 1 + 1 + 1 + 1 + 1) (.int .u64 (lb V 0)) (.int .u64 (lb V 1)) (.int .u64 (lb V 2)) (.int .u64 (lb V 3))
        have bQ2 := (bQ.set4 (q + q)).kept hG2 (by intro e; injection e; omega)
        have bR3 := (bR.kept hG (by intro e; injection e; omega)).set4 V
        replace bA := (bA.kept hG (by intro e; injection e; omega)).kept hG2 (by intro e; injection e; omega)
        replace bB := (bB.kept hG (by intro e; injection e; omega)).kept hG2 (by intro e; injection e; omega)
        replace bR1 := (bR1.kept hG (by intro e; injection e; omega)).kept hG2 (by intro e; injection e; omega)
        replace bR2 := (bR2.kept hG (by intro e; injection e; omega)).kept hG2 (by intro e; injection e; omega)
        replace hW := step_world (step_world hW hG (Nat.le_refl _) (by omega)) hG2 (Nat.le_refl _) (by omega)
        have H := Lib.hid (And.intro bA (And.intro bB (And.intro bR1 (And.intro bR2 (And.intro bQ2 (And.intro bR3 hW))))))
        clear bA bB bR1 bR2 bQ bR bG hW bQ2 bR3 hG hG2
        have HOV2 := Lib.hid HOV.out
        cases hcov : ov
        · have hVM : V < MM := by have h := HOV2.out; rw [hcov] at h; have h2 := of_decide_eq_false h.symm; omega
          rw [hcov] at HOV
          clear hcov HOV2
          by_cases hle : b ≤ V
          · have hord : ∃ c : Int, (0 ≤ c) ∧ ∀ w, Calls Tryd.prog 65 #[W V, W b] w fun e w' => e = .returned (.int .i64 c) ∧ Below w.heap.size w w' := by
              refine ⟨cmpN V b, ?_, fun w => rorder_any V b hVM HB.out w⟩
              by_cases h : V = b
              · rw [h, cmpN_eq]; omega
              · rw [cmpN_gt (by omega)]; omega
            obtain ⟨c, hc0, hord⟩ := hord
            have HLE := Lib.hid hle
            clear hle hVM
            go_wp2_with fail
            refine (hord _).mono ?_
            rintro e X2 ⟨rfl, h2⟩
            obtain ⟨bA, bB, bR1, bR2, bQ, bR, hW⟩ := H.out
            clear H hord cQ0 cQ1 cQ2 cQ3 cR0 cR1 cR2 cR3 cG0 cG1 cG2 cG3 cB0 cB1 cB2 cB3 fcQ0 fcQ1 fcQ2 fcQ3 fcR0 fcR1 fcR2 fcR3
            replace bA := bA.block_below h2
            replace bB := bB.block_below h2
            replace bR1 := bR1.block_below h2
            replace bR2 := bR2.block_below h2
            replace bQ := bQ.block_below h2
            replace bR := bR.block_below h2
            replace hW := bstep hW h2
            clear h2
            have cR0 := (cell_of_row X2 _ 0 _ _ _ bR).trans (wc_get (V) 0 (by omega))
            have cR1 := (cell_of_row X2 _ 1 _ _ _ bR).trans (wc_get (V) 1 (by omega))
            have cR2 := (cell_of_row X2 _ 2 _ _ _ bR).trans (wc_get (V) 2 (by omega))
            have cR3 := (cell_of_row X2 _ 3 _ _ _ bR).trans (wc_get (V) 3 (by omega))
            have cB0 := (cell_of_row X2 _ 0 _ _ _ bB).trans (wc_get (b) 0 (by omega))
            have cB1 := (cell_of_row X2 _ 1 _ _ _ bB).trans (wc_get (b) 1 (by omega))
            have cB2 := (cell_of_row X2 _ 2 _ _ _ bB).trans (wc_get (b) 2 (by omega))
            have cB3 := (cell_of_row X2 _ 3 _ _ _ bB).trans (wc_get (b) 3 (by omega))
            have H := Lib.hid (And.intro bA (And.intro bB (And.intro bR1 (And.intro bR2 (And.intro bQ (And.intro bR hW))))))
            clear bA bB bR1 bR2 bQ bR hW
            go_wp2_with fail
            obtain ⟨bA, bB, bR1, bR2, bQ, bR, hW⟩ := H.out
            clear H cR0 cR1 cR2 cR3 cB0 cB1 cB2 cB3
            refine (rsub_any V b _).mono ?_
            rintro e X3 ⟨rfl, h3⟩
            replace bA := bA.block_below h3
            replace bB := bB.block_below h3
            replace bR1 := bR1.block_below h3
            replace bR2 := bR2.block_below h3
            replace bQ := bQ.block_below h3
            replace bR := bR.block_below h3
            replace hW := bstep hW h3
            clear h3
            have kQ0 := (cell_of_row X3 _ 0 _ _ _ bQ).trans (wc_get (q + q) 0 (by omega))
            have fkQ0 := frozen_of_row X3 _ 0 _ _ bQ
            have kQ1 := (cell_of_row X3 _ 1 _ _ _ bQ).trans (wc_get (q + q) 1 (by omega))
            have fkQ1 := frozen_of_row X3 _ 1 _ _ bQ
            have kQ2 := (cell_of_row X3 _ 2 _ _ _ bQ).trans (wc_get (q + q) 2 (by omega))
            have fkQ2 := frozen_of_row X3 _ 2 _ _ bQ
            have kQ3 := (cell_of_row X3 _ 3 _ _ _ bQ).trans (wc_get (q + q) 3 (by omega))
            have fkQ3 := frozen_of_row X3 _ 3 _ _ bQ
            have kR0 := (cell_of_row X3 _ 0 _ _ _ bR).trans (wc_get (V) 0 (by omega))
            have fkR0 := frozen_of_row X3 _ 0 _ _ bR
            have kR1 := (cell_of_row X3 _ 1 _ _ _ bR).trans (wc_get (V) 1 (by omega))
            have fkR1 := frozen_of_row X3 _ 1 _ _ bR
            have kR2 := (cell_of_row X3 _ 2 _ _ _ bR).trans (wc_get (V) 2 (by omega))
            have fkR2 := frozen_of_row X3 _ 2 _ _ bR
            have kR3 := (cell_of_row X3 _ 3 _ _ _ bR).trans (wc_get (V) 3 (by omega))
            have fkR3 := frozen_of_row X3 _ 3 _ _ bR
            have H := Lib.hid (And.intro bA (And.intro bB (And.intro bR1 (And.intro bR2 (And.intro bQ (And.intro bR hW))))))
            clear bA bB bR1 bR2 bQ bR hW
            go_wp2
            obtain ⟨bA, bB, bR1, bR2, bQ, bR, hW⟩ := H.out
            have hG := grown_set4 X3 (w.heap.size + 1 + 1 + 1 + 1 + 1) (.int .u64 (lb (sb V b) 0)) (.int .u64 (lb (sb V b) 1)) (.int .u64 (lb (sb V b) 2)) (.int .u64 (lb (sb V b) 3))
            have hG2 := grown_set' (grown_refl (((((X3.setCell ⟨w.heap.size + 1 + 1 + 1 + 1 + 1, 0, none⟩ (.int .u64 (lb (sb V b) 0))).setCell ⟨w.heap.size + 1 + 1 + 1 + 1 + 1, 1, none⟩ (.int .u64 (lb (sb V b) 1))).setCell ⟨w.heap.size + 1 + 1 + 1 + 1 + 1, 2, none⟩ (.int .u64 (lb (sb V b) 2))).setCell ⟨w.heap.size + 1 + 1 + 1 + 1 + 1, 3, none⟩ (.int .u64 (lb (sb V b) 3)))) (w.heap.size + 1 + 1 + 1 + 1)) 0 (.int .u64 (bits .or .u64 (lb (q + q) 0) 1))
            have hR3 := bR.set4 (sb V b)
            have hQ3 := heap_setCell_same _ _ 0 _ _ (.int .u64 (bits .or .u64 (lb (q + q) 0) 1)) (bQ.kept hG (by intro e; injection e; omega))
            have eQ : (Wc (q + q)).setIfInBounds 0 (.int .u64 (bits .or .u64 (lb (q + q) 0) 1)) = Wc (a / 2 ^ j / b) := by
              rw [hq2.out, if_pos HLE.out, lb_odd0 q, show q * 2 + 1 = q + q + 1 by omega]
              show #[_, _, _, _] = Wc _
              unfold Wc
              rw [← lb_odd q 0, ← lb_odd q 1, ← lb_odd q 2]
            have eR : Wc (sb V b) = Wc (a / 2 ^ j % b) := by
              have e : sb V b % MM = (a / 2 ^ j % b) % MM := by
                rw [hr2.out, if_pos HLE.out]
                have h1 := HLE.out
                have h2 := HB.out
                unfold sb
                rw [Nat.mod_eq_of_lt h2, show V + (MM - b) = (V - b) + MM by omega, Nat.add_mod_right]
              unfold Wc
              rw [lb_congr e 0 (by omega), lb_congr e 1 (by omega), lb_congr e 2 (by omega), lb_congr e 3 (by omega)]
            rw [eQ] at hQ3
            rw [eR] at hR3
            refine ⟨?_, ?measure⟩
            iterate 35 (apply Exists.intro)
            refine ⟨?rel, rfl⟩
            case rel => exact ⟨j, by omega, rfl, (bA.kept hG (by intro e; injection e; omega)).kept hG2 (by intro e; injection e; omega), (bB.kept hG (by intro e; injection e; omega)).kept hG2 (by intro e; injection e; omega), (bR1.kept hG (by intro e; injection e; omega)).kept hG2 (by intro e; injection e; omega), (bR2.kept hG (by intro e; injection e; omega)).kept hG2 (by intro e; injection e; omega), hQ3, hR3.kept hG2 (by intro e; injection e; omega), step_world (step_world hW hG (Nat.le_refl _) (by omega)) hG2 (Nat.le_refl _) (by omega)⟩
            case measure => simp [intOf]
          · have hord : ∀ w, Calls Tryd.prog 65 #[W V, W b] w fun e w' => e = .returned (.int .i64 (-1)) ∧ Below w.heap.size w w' := fun w => by
              have h := rorder_any V b hVM HB.out w
              rwa [cmpN_lt (by omega)] at h
            have HLE := Lib.hid hle
            clear hle hVM
            go_wp2_with fail
            refine (hord _).mono ?_
            rintro e X2 ⟨rfl, h2⟩
            obtain ⟨bA, bB, bR1, bR2, bQ, bR, hW⟩ := H.out
            clear H hord cQ0 cQ1 cQ2 cQ3 cR0 cR1 cR2 cR3 cG0 cG1 cG2 cG3 cB0 cB1 cB2 cB3 fcQ0 fcQ1 fcQ2 fcQ3 fcR0 fcR1 fcR2 fcR3
            have H := Lib.hid (And.intro (bA.block_below h2) (And.intro (bB.block_below h2) (And.intro (bR1.block_below h2) (And.intro (bR2.block_below h2) (And.intro (bQ.block_below h2) (And.intro (bR.block_below h2) (bstep hW h2)))))))
            clear bA bB bR1 bR2 bQ bR hW h2
            go_wp2
            obtain ⟨bA, bB, bR1, bR2, bQ, bR, hW⟩ := H.out
            have eQ : q + q = a / 2 ^ j / b := by rw [hq2.out, if_neg HLE.out]; omega
            have eR : V = a / 2 ^ j % b := by rw [hr2.out, if_neg HLE.out]
            rw [eQ] at bQ
            rw [eR] at bR
            refine ⟨?_, ?measure⟩
            iterate 35 (apply Exists.intro)
            refine ⟨?rel, rfl⟩
            case rel => exact ⟨j, by omega, rfl, bA, bB, bR1, bR2, bQ, bR, hW⟩
            case measure => simp [intOf]
        · have hle : b ≤ V := by have h := HOV2.out; rw [hcov] at h; have h2 := of_decide_eq_true h.symm; have := HB.out; omega
          rw [hcov] at HOV
          clear hcov HOV2
          have HLE := Lib.hid hle
          clear hle
          go_wp2_with fail
          obtain ⟨bA, bB, bR1, bR2, bQ, bR, hW⟩ := H.out
          clear H cQ0 cQ1 cQ2 cQ3 cR0 cR1 cR2 cR3 cG0 cG1 cG2 cG3 cB0 cB1 cB2 cB3 fcQ0 fcQ1 fcQ2 fcQ3 fcR0 fcR1 fcR2 fcR3
          refine (rsub_any V b _).mono ?_
          rintro e X3 ⟨rfl, h3⟩
          replace bA := bA.block_below h3
          replace bB := bB.block_below h3
          replace bR1 := bR1.block_below h3
          replace bR2 := bR2.block_below h3
          replace bQ := bQ.block_below h3
          replace bR := bR.block_below h3
          replace hW := bstep hW h3
          clear h3
          have kQ0 := (cell_of_row X3 _ 0 _ _ _ bQ).trans (wc_get (q + q) 0 (by omega))
          have fkQ0 := frozen_of_row X3 _ 0 _ _ bQ
          have kQ1 := (cell_of_row X3 _ 1 _ _ _ bQ).trans (wc_get (q + q) 1 (by omega))
          have fkQ1 := frozen_of_row X3 _ 1 _ _ bQ
          have kQ2 := (cell_of_row X3 _ 2 _ _ _ bQ).trans (wc_get (q + q) 2 (by omega))
          have fkQ2 := frozen_of_row X3 _ 2 _ _ bQ
          have kQ3 := (cell_of_row X3 _ 3 _ _ _ bQ).trans (wc_get (q + q) 3 (by omega))
          have fkQ3 := frozen_of_row X3 _ 3 _ _ bQ
          have kR0 := (cell_of_row X3 _ 0 _ _ _ bR).trans (wc_get (V) 0 (by omega))
          have fkR0 := frozen_of_row X3 _ 0 _ _ bR
          have kR1 := (cell_of_row X3 _ 1 _ _ _ bR).trans (wc_get (V) 1 (by omega))
          have fkR1 := frozen_of_row X3 _ 1 _ _ bR
          have kR2 := (cell_of_row X3 _ 2 _ _ _ bR).trans (wc_get (V) 2 (by omega))
          have fkR2 := frozen_of_row X3 _ 2 _ _ bR
          have kR3 := (cell_of_row X3 _ 3 _ _ _ bR).trans (wc_get (V) 3 (by omega))
          have fkR3 := frozen_of_row X3 _ 3 _ _ bR
          have H := Lib.hid (And.intro bA (And.intro bB (And.intro bR1 (And.intro bR2 (And.intro bQ (And.intro bR hW))))))
          clear bA bB bR1 bR2 bQ bR hW
          go_wp2
          obtain ⟨bA, bB, bR1, bR2, bQ, bR, hW⟩ := H.out
          have hG := grown_set4 X3 (w.heap.size + 1 + 1 + 1 + 1 + 1) (.int .u64 (lb (sb V b) 0)) (.int .u64 (lb (sb V b) 1)) (.int .u64 (lb (sb V b) 2)) (.int .u64 (lb (sb V b) 3))
          have hG2 := grown_set' (grown_refl (((((X3.setCell ⟨w.heap.size + 1 + 1 + 1 + 1 + 1, 0, none⟩ (.int .u64 (lb (sb V b) 0))).setCell ⟨w.heap.size + 1 + 1 + 1 + 1 + 1, 1, none⟩ (.int .u64 (lb (sb V b) 1))).setCell ⟨w.heap.size + 1 + 1 + 1 + 1 + 1, 2, none⟩ (.int .u64 (lb (sb V b) 2))).setCell ⟨w.heap.size + 1 + 1 + 1 + 1 + 1, 3, none⟩ (.int .u64 (lb (sb V b) 3)))) (w.heap.size + 1 + 1 + 1 + 1)) 0 (.int .u64 (bits .or .u64 (lb (q + q) 0) 1))
          have hR3 := bR.set4 (sb V b)
          have hQ3 := heap_setCell_same _ _ 0 _ _ (.int .u64 (bits .or .u64 (lb (q + q) 0) 1)) (bQ.kept hG (by intro e; injection e; omega))
          have eQ : (Wc (q + q)).setIfInBounds 0 (.int .u64 (bits .or .u64 (lb (q + q) 0) 1)) = Wc (a / 2 ^ j / b) := by
            rw [hq2.out, if_pos HLE.out, lb_odd0 q, show q * 2 + 1 = q + q + 1 by omega]
            show #[_, _, _, _] = Wc _
            unfold Wc
            rw [← lb_odd q 0, ← lb_odd q 1, ← lb_odd q 2]
          have eR : Wc (sb V b) = Wc (a / 2 ^ j % b) := by
            have e : sb V b % MM = (a / 2 ^ j % b) % MM := by
              rw [hr2.out, if_pos HLE.out]
              have h1 := HLE.out
              have h2 := HB.out
              unfold sb
              rw [Nat.mod_eq_of_lt h2, show V + (MM - b) = (V - b) + MM by omega, Nat.add_mod_right]
            unfold Wc
            rw [lb_congr e 0 (by omega), lb_congr e 1 (by omega), lb_congr e 2 (by omega), lb_congr e 3 (by omega)]
          rw [eQ] at hQ3
          rw [eR] at hR3
          refine ⟨?_, ?measure⟩
          iterate 35 (apply Exists.intro)
          refine ⟨?rel, rfl⟩
          case rel => exact ⟨j, by omega, rfl, (bA.kept hG (by intro e; injection e; omega)).kept hG2 (by intro e; injection e; omega), (bB.kept hG (by intro e; injection e; omega)).kept hG2 (by intro e; injection e; omega), (bR1.kept hG (by intro e; injection e; omega)).kept hG2 (by intro e; injection e; omega), (bR2.kept hG (by intro e; injection e; omega)).kept hG2 (by intro e; injection e; omega), hQ3, hR3.kept hG2 (by intro e; injection e; omega), step_world (step_world hW hG (Nat.le_refl _) (by omega)) hG2 (Nat.le_refl _) (by omega)⟩
          case measure => simp [intOf]
      have cA0 : ∀ w', Below wr.heap.size wr w' → w'.cell? ⟨w.heap.size, 0, none⟩ = some (.int .u64 (lb (a) 0)) := fun w' h => (cell_of_row _ _ 0 _ _ _ (bA.block_below h)).trans rfl
      have cA1 : ∀ w', Below wr.heap.size wr w' → w'.cell? ⟨w.heap.size, 1, none⟩ = some (.int .u64 (lb (a) 1)) := fun w' h => (cell_of_row _ _ 1 _ _ _ (bA.block_below h)).trans rfl
      have cA2 : ∀ w', Below wr.heap.size wr w' → w'.cell? ⟨w.heap.size, 2, none⟩ = some (.int .u64 (lb (a) 2)) := fun w' h => (cell_of_row _ _ 2 _ _ _ (bA.block_below h)).trans rfl
      have cA3 : ∀ w', Below wr.heap.size wr w' → w'.cell? ⟨w.heap.size, 3, none⟩ = some (.int .u64 (lb (a) 3)) := fun w' h => (cell_of_row _ _ 3 _ _ _ (bA.block_below h)).trans rfl
      have cR0 : ∀ w', Below wr.heap.size wr w' → w'.cell? ⟨w.heap.size + 1 + 1 + 1 + 1 + 1, 0, none⟩ = some (.int .u64 (lb (r) 0)) := fun w' h => (cell_of_row _ _ 0 _ _ _ (bR.block_below h)).trans rfl
      have cR1 : ∀ w', Below wr.heap.size wr w' → w'.cell? ⟨w.heap.size + 1 + 1 + 1 + 1 + 1, 1, none⟩ = some (.int .u64 (lb (r) 1)) := fun w' h => (cell_of_row _ _ 1 _ _ _ (bR.block_below h)).trans rfl
      have cR2 : ∀ w', Below wr.heap.size wr w' → w'.cell? ⟨w.heap.size + 1 + 1 + 1 + 1 + 1, 2, none⟩ = some (.int .u64 (lb (r) 2)) := fun w' h => (cell_of_row _ _ 2 _ _ _ (bR.block_below h)).trans rfl
      have cR3 : ∀ w', Below wr.heap.size wr w' → w'.cell? ⟨w.heap.size + 1 + 1 + 1 + 1 + 1, 3, none⟩ = some (.int .u64 (lb (r) 3)) := fun w' h => (cell_of_row _ _ 3 _ _ _ (bR.block_below h)).trans rfl
      clear bA bB bR1 bR2 bQ bR hW hK
      refine join1 (C := fun X wz => Blk wz X 25 #[.int .u64 0, .int .u64 0, .int .u64 0, .int .u64 0] ∧ wr.heap.size ≤ X ∧ Below wr.heap.size wr wz) ?PJ ?main ?hrest
      case main =>
        intro rest
        refine wp_region_held_drew (S := fun w' => Below wr.heap.size wr w') (by as_aux_lemma => kernel_rfl) (Below.refl _ _).drew (fun hHeld => ?_)
        simp only [List.size_toArray, List.length_cons, List.length_nil, Nat.reduceAdd, Array.replicate_succ, Array.replicate_zero, List.push_toArray, List.nil_append, List.cons_append]
        refine wpAnyH_take (i := 0) (oi := { dst := some 21, op := Op.load 25 (Operand.tmp 7), type := 25, pos := "ref.go:29", after := #[], guard := none }) (v := ?vq0) rfl (by as_aux_lemma => kernel_rfl) (by as_aux_lemma => kernel_rfl) (by as_aux_lemma => kernel_rfl) (fun _ _ _ h => h) (Or.inl ⟨by rfl, ?yq0⟩) (by assumption) ?rq0
        case yq0 => (intro w hSw; (try dsimp only at hSw); go_simp <;> with_reducible rfl)
        simp only [Act.put, List.setIfInBounds_toArray, List.set_cons_zero, List.set_cons_succ]
        refine wpAnyH_take (i := 1) (oi := { dst := some 22, op := Op.load 25 (Operand.tmp 2), type := 25, pos := "ref.go:29", after := #[], guard := none }) (v := ?vq1) rfl (by as_aux_lemma => kernel_rfl) (by as_aux_lemma => kernel_rfl) (by as_aux_lemma => kernel_rfl) (fun _ _ _ h => h) (Or.inl ⟨by rfl, ?yq1⟩) (by assumption) ?rq1
        case yq1 => (intro w hSw; (try dsimp only at hSw); go_simp <;> with_reducible rfl)
        simp only [Act.put, List.setIfInBounds_toArray, List.set_cons_zero, List.set_cons_succ]
        refine wpAnyH_take (i := 2) (oi := { dst := some 23, op := Op.move (Operand.tmp 8), type := 3, pos := "ref.go:29", after := #[], guard := none }) (v := ?vq2) rfl (by as_aux_lemma => kernel_rfl) (by as_aux_lemma => kernel_rfl) (by as_aux_lemma => kernel_rfl) (fun _ _ _ h => h) (Or.inl ⟨by rfl, ?yq2⟩) (by assumption) ?rq2
        case yq2 => (intro w hSw; (try dsimp only at hSw); go_simp <;> with_reducible rfl)
        simp only [Act.put, List.setIfInBounds_toArray, List.set_cons_zero, List.set_cons_succ]
        refine wpAnyH_ready (rs := [3, 8]) (by as_aux_lemma => kernel_rfl) (by simp) ?_
        refine AllReadyH.cons (o := { dst := some 24, op := Op.call { callee := Callee.value (Operand.func 42), args := #[Operand.tmp 22, Operand.tmp 23], argTypes := #[25, 3] }, type := 4, pos := "ref.go:29", after := #[{ on := 1, ground := Ground.data }, { on := 2, ground := Ground.data }], guard := none }) rfl (fun K hK => ?_) ?_
        · rw [if_pos (by rfl)]
          go_simp
          (go_at_call 42; refine (rbit_any a j (by omega) _).mono ?_; rintro e wk3 ⟨rfl, hk3⟩)
          refine hK.out _ _ (by (try dsimp only); (first | assumption | exact (Below.refl _ _).drew | exact (balloc (Below.refl _ _) _).drew | exact rstep (by assumption) (by assumption) | exact balloc (by assumption) _)) (fun hHeld => ?_)
          clear hK K
          simp only [List.setIfInBounds_toArray, List.set_cons_zero, List.set_cons_succ]
          refine wpAnyH_ready (rs := [4, 8]) (by as_aux_lemma => kernel_rfl) (by simp) ?_
          refine AllReadyH.cons (o := { dst := some 25, op := Op.call { callee := Callee.value (Operand.func 64), args := #[Operand.tmp 21, Operand.tmp 24], argTypes := #[25, 4] }, type := 76, pos := "ref.go:29", after := #[{ on := 0, ground := Ground.data }, { on := 3, ground := Ground.data }, { on := 3, ground := Ground.chain }], guard := none }) rfl (fun K hK => ?_) ?_
          · rw [if_pos (by rfl)]
            go_simp
            (go_at_call 64; refine (HTR.out _).mono ?_; rintro e wk4 ⟨rfl, hk4⟩)
            refine hK.out _ _ (by (try dsimp only); (first | assumption | exact (Below.refl _ _).drew | exact (balloc (Below.refl _ _) _).drew | exact rstep (by assumption) (by assumption) | exact balloc (by assumption) _)) (fun hHeld => ?_)
            clear hK K
            simp only [List.setIfInBounds_toArray, List.set_cons_zero, List.set_cons_succ]
            refine wpAnyH_take (i := 5) (oi := { dst := some 20, op := Op.move (Operand.tmp 25), type := 76, pos := "ref.go:29", after := #[{ on := 4, ground := Ground.data }], guard := none }) (v := ?vq5) rfl (by as_aux_lemma => kernel_rfl) (by as_aux_lemma => kernel_rfl) (by as_aux_lemma => kernel_rfl) (fun _ _ _ h => h) (Or.inl ⟨by rfl, ?yq5⟩) (by assumption) ?rq5
            case yq5 => (intro w hSw; (try dsimp only at hSw); go_simp <;> with_reducible rfl)
            simp only [Act.put, List.setIfInBounds_toArray, List.set_cons_zero, List.set_cons_succ]
            refine wpAnyH_take (i := 6) (oi := { dst := some 26, op := Op.extract (Operand.tmp 20) 0, type := 25, pos := "ref.go:29", after := #[{ on := 5, ground := Ground.data }], guard := none }) (v := ?vq6) rfl (by as_aux_lemma => kernel_rfl) (by as_aux_lemma => kernel_rfl) (by as_aux_lemma => kernel_rfl) (fun _ _ _ h => h) (Or.inl ⟨by rfl, ?yq6⟩) (by assumption) ?rq6
            case yq6 => (intro w hSw; (try dsimp only at hSw); go_simp <;> with_reducible rfl)
            simp only [Act.put, List.setIfInBounds_toArray, List.set_cons_zero, List.set_cons_succ]
            refine wpAnyH_take (i := 7) (oi := { dst := some 27, op := Op.extract (Operand.tmp 20) 1, type := 4, pos := "ref.go:29", after := #[{ on := 5, ground := Ground.data }, { on := 9, ground := Ground.gcOnly Departure.lateStores }], guard := none }) (v := ?vq7) rfl (by as_aux_lemma => kernel_rfl) (by as_aux_lemma => kernel_rfl) (by as_aux_lemma => kernel_rfl) (fun _ _ _ h => h) (Or.inl ⟨by rfl, ?yq7⟩) (by assumption) ?rq7
            case yq7 => (intro w hSw; (try dsimp only at hSw); go_simp <;> with_reducible rfl)
            simp only [Act.put, List.setIfInBounds_toArray, List.set_cons_zero, List.set_cons_succ]
            refine wpAnyH_ready (rs := [8]) (by as_aux_lemma => kernel_rfl) (by simp) ?_
            refine AllReadyH.cons (o := { dst := some 9, op := Op.alloc 25, type := 0, pos := "ref.go:29", after := #[], guard := none }) rfl (fun K hK => ?_) (by exact AllReadyH.nil)
            rw [if_pos (by rfl)]
            go_simp
            refine hK.out _ _ (by (try dsimp only); (first | assumption | exact (Below.refl _ _).drew | exact (balloc (Below.refl _ _) _).drew | exact rstep (by assumption) (by assumption) | exact balloc (by assumption) _)) (fun hHeld => ?_)
            clear hK K
            simp only [List.setIfInBounds_toArray, List.set_cons_zero, List.set_cons_succ]
            have z1 : Blk (wk4.alloc (.cells #[.int .u64 0, .int .u64 0, .int .u64 0, .int .u64 0] 25)) wk4.heap.size 25 #[.int .u64 0, .int .u64 0, .int .u64 0, .int .u64 0] := Blk.new _ _ _
            have z4 : wr.heap.size ≤ wk4.heap.size := by (have e1 := hk3.size; have e3 := hk4.size; first | (simp only [World.size_drew'] at e1 e3 ⊢; omega) | (simp only [World.size_alloc, World.size_drew'] at e1 e3 ⊢; omega))
            have z6 := hHeld
            clear hHeld
            generalize (wk4.alloc _) = wz at z1 z6 ⊢
            generalize wk4.heap.size = X at z1 z4 ⊢
            exact rest X wz ⟨z1, z4, z6⟩
          refine AllReadyH.cons (o := { dst := some 9, op := Op.alloc 25, type := 0, pos := "ref.go:29", after := #[], guard := none }) rfl (fun K hK => ?_) (by exact AllReadyH.nil)
          rw [if_pos (by rfl)]
          go_simp
          refine hK.out _ _ (by (try dsimp only); (first | assumption | exact (Below.refl _ _).drew | exact (balloc (Below.refl _ _) _).drew | exact rstep (by assumption) (by assumption) | exact balloc (by assumption) _)) (fun hHeld => ?_)
          clear hK K
          simp only [List.setIfInBounds_toArray, List.set_cons_zero, List.set_cons_succ]
          refine wpAnyH_ready (rs := [4]) (by as_aux_lemma => kernel_rfl) (by simp) ?_
          refine AllReadyH.cons (o := { dst := some 25, op := Op.call { callee := Callee.value (Operand.func 64), args := #[Operand.tmp 21, Operand.tmp 24], argTypes := #[25, 4] }, type := 76, pos := "ref.go:29", after := #[{ on := 0, ground := Ground.data }, { on := 3, ground := Ground.data }, { on := 3, ground := Ground.chain }], guard := none }) rfl (fun K hK => ?_) (by exact AllReadyH.nil)
          rw [if_pos (by rfl)]
          go_simp
          (go_at_call 64; refine (HTR.out _).mono ?_; rintro e wk4 ⟨rfl, hk4⟩)
          refine hK.out _ _ (by (try dsimp only); (first | assumption | exact (Below.refl _ _).drew | exact (balloc (Below.refl _ _) _).drew | exact rstep (by assumption) (by assumption) | exact balloc (by assumption) _)) (fun hHeld => ?_)
          clear hK K
          simp only [List.setIfInBounds_toArray, List.set_cons_zero, List.set_cons_succ]
          refine wpAnyH_take (i := 5) (oi := { dst := some 20, op := Op.move (Operand.tmp 25), type := 76, pos := "ref.go:29", after := #[{ on := 4, ground := Ground.data }], guard := none }) (v := ?vq10) rfl (by as_aux_lemma => kernel_rfl) (by as_aux_lemma => kernel_rfl) (by as_aux_lemma => kernel_rfl) (fun _ _ _ h => h) (Or.inl ⟨by rfl, ?yq10⟩) (by assumption) ?rq10
          case yq10 => (intro w hSw; (try dsimp only at hSw); go_simp <;> with_reducible rfl)
          simp only [Act.put, List.setIfInBounds_toArray, List.set_cons_zero, List.set_cons_succ]
          refine wpAnyH_take (i := 6) (oi := { dst := some 26, op := Op.extract (Operand.tmp 20) 0, type := 25, pos := "ref.go:29", after := #[{ on := 5, ground := Ground.data }], guard := none }) (v := ?vq11) rfl (by as_aux_lemma => kernel_rfl) (by as_aux_lemma => kernel_rfl) (by as_aux_lemma => kernel_rfl) (fun _ _ _ h => h) (Or.inl ⟨by rfl, ?yq11⟩) (by assumption) ?rq11
          case yq11 => (intro w hSw; (try dsimp only at hSw); go_simp <;> with_reducible rfl)
          simp only [Act.put, List.setIfInBounds_toArray, List.set_cons_zero, List.set_cons_succ]
          refine wpAnyH_take (i := 7) (oi := { dst := some 27, op := Op.extract (Operand.tmp 20) 1, type := 4, pos := "ref.go:29", after := #[{ on := 5, ground := Ground.data }, { on := 9, ground := Ground.gcOnly Departure.lateStores }], guard := none }) (v := ?vq12) rfl (by as_aux_lemma => kernel_rfl) (by as_aux_lemma => kernel_rfl) (by as_aux_lemma => kernel_rfl) (fun _ _ _ h => h) (Or.inl ⟨by rfl, ?yq12⟩) (by assumption) ?rq12
          case yq12 => (intro w hSw; (try dsimp only at hSw); go_simp <;> with_reducible rfl)
          simp only [Act.put, List.setIfInBounds_toArray, List.set_cons_zero, List.set_cons_succ]
          refine rest _ _ ⟨?_, ?_, hHeld⟩
          · (repeat (first | exact Blk.new _ _ _ | with_reducible refine Blk.drewR ?_ | with_reducible refine Blk.alloc ?_ _ | refine Blk.keep ?_ hk4 | refine Blk.keep ?_ hk3))
          · (have e1 := hk3.size; have e3 := hk4.size; first | (simp only [World.size_drew'] at e1 e3 ⊢; omega) | (simp only [World.size_alloc, World.size_drew'] at e1 e3 ⊢; omega))
        refine AllReadyH.cons (o := { dst := some 9, op := Op.alloc 25, type := 0, pos := "ref.go:29", after := #[], guard := none }) rfl (fun K hK => ?_) (by exact AllReadyH.nil)
        rw [if_pos (by rfl)]
        go_simp
        refine hK.out _ _ (by (try dsimp only); (first | assumption | exact (Below.refl _ _).drew | exact (balloc (Below.refl _ _) _).drew | exact rstep (by assumption) (by assumption) | exact balloc (by assumption) _)) (fun hHeld => ?_)
        clear hK K
        simp only [List.setIfInBounds_toArray, List.set_cons_zero, List.set_cons_succ]
        refine wpAnyH_ready (rs := [3]) (by as_aux_lemma => kernel_rfl) (by simp) ?_
        refine AllReadyH.cons (o := { dst := some 24, op := Op.call { callee := Callee.value (Operand.func 42), args := #[Operand.tmp 22, Operand.tmp 23], argTypes := #[25, 3] }, type := 4, pos := "ref.go:29", after := #[{ on := 1, ground := Ground.data }, { on := 2, ground := Ground.data }], guard := none }) rfl (fun K hK => ?_) (by exact AllReadyH.nil)
        rw [if_pos (by rfl)]
        go_simp
        (go_at_call 42; refine (rbit_any a j (by omega) _).mono ?_; rintro e wk3 ⟨rfl, hk3⟩)
        refine hK.out _ _ (by (try dsimp only); (first | assumption | exact (Below.refl _ _).drew | exact (balloc (Below.refl _ _) _).drew | exact rstep (by assumption) (by assumption) | exact balloc (by assumption) _)) (fun hHeld => ?_)
        clear hK K
        simp only [List.setIfInBounds_toArray, List.set_cons_zero, List.set_cons_succ]
        refine wpAnyH_ready (rs := [4]) (by as_aux_lemma => kernel_rfl) (by simp) ?_
        refine AllReadyH.cons (o := { dst := some 25, op := Op.call { callee := Callee.value (Operand.func 64), args := #[Operand.tmp 21, Operand.tmp 24], argTypes := #[25, 4] }, type := 76, pos := "ref.go:29", after := #[{ on := 0, ground := Ground.data }, { on := 3, ground := Ground.data }, { on := 3, ground := Ground.chain }], guard := none }) rfl (fun K hK => ?_) (by exact AllReadyH.nil)
        rw [if_pos (by rfl)]
        go_simp
        (go_at_call 64; refine (HTR.out _).mono ?_; rintro e wk4 ⟨rfl, hk4⟩)
        refine hK.out _ _ (by (try dsimp only); (first | assumption | exact (Below.refl _ _).drew | exact (balloc (Below.refl _ _) _).drew | exact rstep (by assumption) (by assumption) | exact balloc (by assumption) _)) (fun hHeld => ?_)
        clear hK K
        simp only [List.setIfInBounds_toArray, List.set_cons_zero, List.set_cons_succ]
        refine wpAnyH_take (i := 5) (oi := { dst := some 20, op := Op.move (Operand.tmp 25), type := 76, pos := "ref.go:29", after := #[{ on := 4, ground := Ground.data }], guard := none }) (v := ?vq15) rfl (by as_aux_lemma => kernel_rfl) (by as_aux_lemma => kernel_rfl) (by as_aux_lemma => kernel_rfl) (fun _ _ _ h => h) (Or.inl ⟨by rfl, ?yq15⟩) (by assumption) ?rq15
        case yq15 => (intro w hSw; (try dsimp only at hSw); go_simp <;> with_reducible rfl)
        simp only [Act.put, List.setIfInBounds_toArray, List.set_cons_zero, List.set_cons_succ]
        refine wpAnyH_take (i := 6) (oi := { dst := some 26, op := Op.extract (Operand.tmp 20) 0, type := 25, pos := "ref.go:29", after := #[{ on := 5, ground := Ground.data }], guard := none }) (v := ?vq16) rfl (by as_aux_lemma => kernel_rfl) (by as_aux_lemma => kernel_rfl) (by as_aux_lemma => kernel_rfl) (fun _ _ _ h => h) (Or.inl ⟨by rfl, ?yq16⟩) (by assumption) ?rq16
        case yq16 => (intro w hSw; (try dsimp only at hSw); go_simp <;> with_reducible rfl)
        simp only [Act.put, List.setIfInBounds_toArray, List.set_cons_zero, List.set_cons_succ]
        refine wpAnyH_take (i := 7) (oi := { dst := some 27, op := Op.extract (Operand.tmp 20) 1, type := 4, pos := "ref.go:29", after := #[{ on := 5, ground := Ground.data }, { on := 9, ground := Ground.gcOnly Departure.lateStores }], guard := none }) (v := ?vq17) rfl (by as_aux_lemma => kernel_rfl) (by as_aux_lemma => kernel_rfl) (by as_aux_lemma => kernel_rfl) (fun _ _ _ h => h) (Or.inl ⟨by rfl, ?yq17⟩) (by assumption) ?rq17
        case yq17 => (intro w hSw; (try dsimp only at hSw); go_simp <;> with_reducible rfl)
        simp only [Act.put, List.setIfInBounds_toArray, List.set_cons_zero, List.set_cons_succ]
        refine rest _ _ ⟨?_, ?_, hHeld⟩
        · (repeat (first | exact Blk.new _ _ _ | with_reducible refine Blk.drewR ?_ | with_reducible refine Blk.alloc ?_ _ | refine Blk.keep ?_ hk4 | refine Blk.keep ?_ hk3))
        · (have e1 := hk3.size; have e3 := hk4.size; first | (simp only [World.size_drew'] at e1 e3 ⊢; omega) | (simp only [World.size_alloc, World.size_drew'] at e1 e3 ⊢; omega))
      case hrest =>
        intro X wz ⟨z1, z4, z6⟩
        refine wpAnyH_ready (rs := [9]) (by as_aux_lemma => kernel_rfl) (by simp) ?_
        refine AllReadyH.cons (o := { dst := none, op := Op.store 25 (Operand.tmp 9) (Operand.tmp 26), type := 0, pos := "ref.go:29", after := #[{ on := 8, ground := Ground.data }, { on := 6, ground := Ground.data }, { on := 4, ground := Ground.chain }, { on := 0, ground := Ground.phase }, { on := 1, ground := Ground.phase }, { on := 2, ground := Ground.phase }, { on := 3, ground := Ground.phase }, { on := 4, ground := Ground.phase }, { on := 5, ground := Ground.phase }, { on := 6, ground := Ground.phase }, { on := 7, ground := Ground.textOnly Departure.lateStores }, { on := 8, ground := Ground.phase }], guard := none }) rfl (fun K hK => ?_) (by exact AllReadyH.nil)
        rw [if_pos (by rfl)]
        refine wp_store_mid 25 (.tmp 9) (.tmp 26) rfl X 0 (Wc V) rfl rfl (z1.there _ (Nat.le_refl 4)) HI.out (wc_one _) (hK.out _ _ (below_setCells' z4 _ 0 wz z6) (fun hHeld => ?_))
        have z7 := blk_setCells z1 (Wc V) rfl (wc_one _)
        clear z1 z6
        generalize wz.setCells X 0 (Wc V).toList = wx at z7 hHeld ⊢
        clear hK K
        simp only [Act.put, List.setIfInBounds_toArray, List.set_cons_zero, List.set_cons_succ]
        refine wpAnyH_take (i := 10) (oi := { dst := some 10, op := Op.assign (Operand.tmp 27), type := 4, pos := "ref.go:29", after := #[{ on := 7, ground := Ground.data }, { on := 9, ground := Ground.chain }, { on := 0, ground := Ground.phase }, { on := 1, ground := Ground.phase }, { on := 2, ground := Ground.phase }, { on := 3, ground := Ground.phase }, { on := 4, ground := Ground.phase }, { on := 5, ground := Ground.phase }, { on := 6, ground := Ground.phase }, { on := 7, ground := Ground.phase }, { on := 8, ground := Ground.phase }, { on := 9, ground := Ground.phase }], guard := none }) (v := ?vq19) rfl (by as_aux_lemma => kernel_rfl) (by as_aux_lemma => kernel_rfl) (by as_aux_lemma => kernel_rfl) (fun _ _ _ h => h) (Or.inl ⟨by rfl, ?yq19⟩) (by assumption) ?rq19
        case yq19 => (intro w hSw; (try dsimp only at hSw); go_simp <;> with_reducible rfl)
        simp only [Act.put, List.setIfInBounds_toArray, List.set_cons_zero, List.set_cons_succ]
        refine wpAnyH_done (by as_aux_lemma => kernel_rfl) ?_ _
        exact key X wx z4 z7 hHeld
end Go.Proofs.YthjbiojbmjgkbaaDoor

/- split's reference: Divide of any word, Abs. -/
namespace Go.Proofs.YthjbiojbmjgkbaaDoor
open Go.RowKit Go.Shelf
attribute [local go_sem] ix0 ix1 ix2 ix3
set_option maxHeartbeats 2000000 in
theorem rdivide_nought (a : Nat) (w : World) :
    Calls Tryd.prog 32 #[W a, .agg #[.int .u64 0, .int .u64 0, .int .u64 0, .int .u64 0]] w fun e w' => e = .returned (.tuple #[.agg #[.int .u64 0, .int .u64 0, .int .u64 0, .int .u64 0], .agg #[.int .u64 0, .int .u64 0, .int .u64 0, .int .u64 0]]) ∧ Below w.heap.size w w' := by
  have heq : ∀ w, (binOp .eql 25 (.agg #[.int .u64 0, .int .u64 0, .int .u64 0, .int .u64 0]) (.agg #[.int .u64 0, .int .u64 0, .int .u64 0, .int .u64 0])).run Tryd.prog w = .ok (.bool true) w := eq_sameW 0 0 0 0
  go_enter Tryd.func32, Tryd.ntmps32
  go_wp2_with fail
  go_region
  all_goals
    go_wp2
    exact bodyPost_ret (v := .tuple #[.agg #[.int .u64 0, .int .u64 0, .int .u64 0, .int .u64 0], .agg #[.int .u64 0, .int .u64 0, .int .u64 0, .int .u64 0]]) (by simp [results, Tryd.results32, go_sem]) rfl ⟨rfl, (balloc (balloc (balloc (balloc (balloc (balloc (Below.refl _ _) _) _) _) _) _) _).drew⟩
theorem rdivide_all (a b : Nat) (ha : a < MM) (hb : b < MM) (w : World) :
    Calls Tryd.prog 32 #[W a, W b] w fun e w' => e = .returned (.tuple #[W (a / b), W (mdN a b)]) ∧ Below w.heap.size w w' := by
  unfold mdN
  rcases Nat.eq_zero_or_pos b with rfl | h
  · rw [if_pos rfl, Nat.div_zero]
    have h := rdivide_nought a w
    rwa [← W_zero] at h
  · rw [if_neg (by omega)]
    exact rdivide_pos a b ha h hb w
end Go.Proofs.YthjbiojbmjgkbaaDoor

