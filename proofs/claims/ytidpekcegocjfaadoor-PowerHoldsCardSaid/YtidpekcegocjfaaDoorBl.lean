/- bits: how many bits a number of 64 has, just so many (math/bits.Len64). -/
import Derived.Test.YtidpekcegocjfaaDoorBk
namespace Go.Proofs.YtidpekcegocjfaaDoor
open Go.RowKit
theorem tab8_low : ∀ y : Fin 256, (y.val = 0 ∧ (tab8[y.val]'(by rw [tab8_size]; exact y.isLt)).toNat = 0) ∨ 2 ^ (tab8[y.val]'(by rw [tab8_size]; exact y.isLt)).toNat ≤ 2 * y.val := by decide +kernel

set_option maxRecDepth 100000 in
set_option maxHeartbeats 2000000 in
theorem lenx_low (a : Nat) (h3 : a < 256) (w : World) :
    Calls Tryd.prog 32 #[.int .u64 a] w fun e w' => (∃ l : Nat, e = .returned (.int .i64 l) ∧ l ≤ 64 ∧ a < 2 ^ l ∧ (a = 0 ∧ l = 0 ∨ 2 ^ l ≤ 2 * a)) ∧ w = w' := by
  have h1 : ¬ (4294967296 : Int) ≤ a := by omega
  have h2 : ¬ (65536 : Int) ≤ a := by omega
  have h4 : (a : Int) < 256 := by omega
  have hw : IntKind.u8.wrap (a : Int) = (a : Int) := IntWalk.u8_in _ (by omega)
  have hk := tab8_ok ⟨a, h3⟩
  have hkx := tab8_low ⟨a, h3⟩
  have hsz : a < tab8.size := by rw [tab8_size]; exact h3
  obtain ⟨t, ht⟩ : ∃ t, (tab8[a]'hsz).toNat = t := ⟨_, rfl⟩
  have hk2 : (t ≤ 8 ∧ a < 2 ^ t) ∧ (a = 0 ∧ t = 0 ∨ 2 ^ t ≤ 2 * a) := by rw [← ht]; exact ⟨hk, hkx⟩
  have HT := Lib.hid ht
  clear hk hkx ht
  have HK := Lib.hid hk2
  clear hk2
  go_enter Tryd.func32, Tryd.ntmps32
  go_wp2
  go_ret
  have e := wrap_ww t HK.out.1.1
  rw [← HT.out] at e
  exact ⟨⟨0 + t, by rw [← HT.out]; exact congrArg (fun z => Ending.returned (Value.int .i64 z)) e, by have := HK.out.1.1; omega, by rw [Nat.zero_add]; exact HK.out.1.2, by rw [Nat.zero_add]; exact HK.out.2⟩, rfl⟩

set_option maxRecDepth 100000 in
set_option maxHeartbeats 2000000 in
theorem lenx_001 (a : Nat) (ha : a < 18446744073709551616) (h1 : a < 4294967296) (h2 : a < 65536) (h3 : 256 ≤ a) (w : World) :
    Calls Tryd.prog 32 #[.int .u64 a] w fun e w' => (∃ l : Nat, e = .returned (.int .i64 l) ∧ l ≤ 64 ∧ a < 2 ^ l ∧ (a = 0 ∧ l = 0 ∨ 2 ^ l ≤ 2 * a)) ∧ w = w' := by
  have h1i : ¬ (4294967296 : Int) ≤ (a : Int) := by omega
  have h2i : ¬ (65536 : Int) ≤ (a : Int) := by omega
  have h3i : (256 : Int) ≤ (a : Int) := by omega
  obtain ⟨x3, x3e⟩ : ∃ x3, a / 256 = x3 := ⟨_, rfl⟩
  have x3i : (a : Int) / 256 = (x3 : Int) := by omega
  have Hx3 := Lib.hid x3e
  have hz : x3 < 256 := by omega
  have hzi : (x3 : Int) < 256 := by omega
  have hw : IntKind.u8.wrap (x3 : Int) = (x3 : Int) := IntWalk.u8_in _ (by omega)
  have hD : a < 256 * (x3 + 1) := by omega
  have hDl : 256 * x3 ≤ a ∧ x3 ≠ 0 := by omega
  have HDL := Lib.hid hDl
  clear hDl
  have HD := Lib.hid hD
  have hk := tab8_ok ⟨x3, hz⟩
  have hkx := tab8_low ⟨x3, hz⟩
  have hsz : x3 < tab8.size := by rw [tab8_size]; exact hz
  obtain ⟨t, ht⟩ : ∃ t, (tab8[x3]'hsz).toNat = t := ⟨_, rfl⟩
  have hk2 : (t ≤ 8 ∧ x3 < 2 ^ t) ∧ (x3 = 0 ∧ t = 0 ∨ 2 ^ t ≤ 2 * x3) := by rw [← ht]; exact ⟨hk, hkx⟩
  have HT := Lib.hid ht
  have HK := Lib.hid hk2
  clear hk hkx ht hk2 hD ha x3e
  go_enter Tryd.func32, Tryd.ntmps32
  go_wp2
  go_ret
  have e := wrap_nn 8 t (by omega) HK.out.1.1
  rw [← HT.out] at e
  refine ⟨⟨8 + t, by rw [← HT.out]; exact congrArg (fun z => Ending.returned (Value.int .i64 z)) e, by have := HK.out.1.1; omega, ?_, ?_⟩, rfl⟩
  · rw [Nat.pow_add]
    exact Nat.lt_of_lt_of_le HD.out (Nat.mul_le_mul_left _ HK.out.1.2)
  · refine .inr ?_
    have h := HK.out.2.resolve_left (fun e => HDL.out.2 e.1)
    rw [Nat.pow_add]
    refine Nat.le_trans (Nat.mul_le_mul_left _ h) ?_
    rw [Nat.mul_left_comm]
    exact Nat.mul_le_mul_left _ HDL.out.1

set_option maxRecDepth 100000 in
set_option maxHeartbeats 2000000 in
theorem lenx_010 (a : Nat) (ha : a < 18446744073709551616) (h1 : a < 4294967296) (h2 : 65536 ≤ a) (h3 : a / 65536 < 256) (w : World) :
    Calls Tryd.prog 32 #[.int .u64 a] w fun e w' => (∃ l : Nat, e = .returned (.int .i64 l) ∧ l ≤ 64 ∧ a < 2 ^ l ∧ (a = 0 ∧ l = 0 ∨ 2 ^ l ≤ 2 * a)) ∧ w = w' := by
  have h1i : ¬ (4294967296 : Int) ≤ (a : Int) := by omega
  have h2i : (65536 : Int) ≤ (a : Int) := by omega
  obtain ⟨x2, x2e⟩ : ∃ x2, a / 65536 = x2 := ⟨_, rfl⟩
  have x2i : (a : Int) / 65536 = (x2 : Int) := by omega
  have Hx2 := Lib.hid x2e
  have h3i : ¬ (256 : Int) ≤ (x2 : Int) := by omega
  have hz : x2 < 256 := by omega
  have hzi : (x2 : Int) < 256 := by omega
  have hw : IntKind.u8.wrap (x2 : Int) = (x2 : Int) := IntWalk.u8_in _ (by omega)
  have hD : a < 65536 * (x2 + 1) := by omega
  have hDl : 65536 * x2 ≤ a ∧ x2 ≠ 0 := by omega
  have HDL := Lib.hid hDl
  clear hDl
  have HD := Lib.hid hD
  have hk := tab8_ok ⟨x2, hz⟩
  have hkx := tab8_low ⟨x2, hz⟩
  have hsz : x2 < tab8.size := by rw [tab8_size]; exact hz
  obtain ⟨t, ht⟩ : ∃ t, (tab8[x2]'hsz).toNat = t := ⟨_, rfl⟩
  have hk2 : (t ≤ 8 ∧ x2 < 2 ^ t) ∧ (x2 = 0 ∧ t = 0 ∨ 2 ^ t ≤ 2 * x2) := by rw [← ht]; exact ⟨hk, hkx⟩
  have HT := Lib.hid ht
  have HK := Lib.hid hk2
  clear hk hkx ht hk2 hD ha x2e
  go_enter Tryd.func32, Tryd.ntmps32
  go_wp2
  go_ret
  have e := wrap_nn 16 t (by omega) HK.out.1.1
  rw [← HT.out] at e
  refine ⟨⟨16 + t, by rw [← HT.out]; exact congrArg (fun z => Ending.returned (Value.int .i64 z)) e, by have := HK.out.1.1; omega, ?_, ?_⟩, rfl⟩
  · rw [Nat.pow_add]
    exact Nat.lt_of_lt_of_le HD.out (Nat.mul_le_mul_left _ HK.out.1.2)
  · refine .inr ?_
    have h := HK.out.2.resolve_left (fun e => HDL.out.2 e.1)
    rw [Nat.pow_add]
    refine Nat.le_trans (Nat.mul_le_mul_left _ h) ?_
    rw [Nat.mul_left_comm]
    exact Nat.mul_le_mul_left _ HDL.out.1

set_option maxRecDepth 100000 in
set_option maxHeartbeats 2000000 in
theorem lenx_011 (a : Nat) (ha : a < 18446744073709551616) (h1 : a < 4294967296) (h2 : 65536 ≤ a) (h3 : 256 ≤ a / 65536) (w : World) :
    Calls Tryd.prog 32 #[.int .u64 a] w fun e w' => (∃ l : Nat, e = .returned (.int .i64 l) ∧ l ≤ 64 ∧ a < 2 ^ l ∧ (a = 0 ∧ l = 0 ∨ 2 ^ l ≤ 2 * a)) ∧ w = w' := by
  have h1i : ¬ (4294967296 : Int) ≤ (a : Int) := by omega
  have h2i : (65536 : Int) ≤ (a : Int) := by omega
  obtain ⟨x2, x2e⟩ : ∃ x2, a / 65536 = x2 := ⟨_, rfl⟩
  have x2i : (a : Int) / 65536 = (x2 : Int) := by omega
  have Hx2 := Lib.hid x2e
  have h3i : (256 : Int) ≤ (x2 : Int) := by omega
  obtain ⟨x3, x3e⟩ : ∃ x3, x2 / 256 = x3 := ⟨_, rfl⟩
  have x3i : (x2 : Int) / 256 = (x3 : Int) := by omega
  have Hx3 := Lib.hid x3e
  have hz : x3 < 256 := by omega
  have hzi : (x3 : Int) < 256 := by omega
  have hw : IntKind.u8.wrap (x3 : Int) = (x3 : Int) := IntWalk.u8_in _ (by omega)
  have hD : a < 16777216 * (x3 + 1) := by omega
  have hDl : 16777216 * x3 ≤ a ∧ x3 ≠ 0 := by omega
  have HDL := Lib.hid hDl
  clear hDl
  have HD := Lib.hid hD
  have hk := tab8_ok ⟨x3, hz⟩
  have hkx := tab8_low ⟨x3, hz⟩
  have hsz : x3 < tab8.size := by rw [tab8_size]; exact hz
  obtain ⟨t, ht⟩ : ∃ t, (tab8[x3]'hsz).toNat = t := ⟨_, rfl⟩
  have hk2 : (t ≤ 8 ∧ x3 < 2 ^ t) ∧ (x3 = 0 ∧ t = 0 ∨ 2 ^ t ≤ 2 * x3) := by rw [← ht]; exact ⟨hk, hkx⟩
  have HT := Lib.hid ht
  have HK := Lib.hid hk2
  clear hk hkx ht hk2 hD ha x2e x3e
  go_enter Tryd.func32, Tryd.ntmps32
  go_wp2
  go_ret
  have e := wrap_nn 24 t (by omega) HK.out.1.1
  rw [← HT.out] at e
  refine ⟨⟨24 + t, by rw [← HT.out]; exact congrArg (fun z => Ending.returned (Value.int .i64 z)) e, by have := HK.out.1.1; omega, ?_, ?_⟩, rfl⟩
  · rw [Nat.pow_add]
    exact Nat.lt_of_lt_of_le HD.out (Nat.mul_le_mul_left _ HK.out.1.2)
  · refine .inr ?_
    have h := HK.out.2.resolve_left (fun e => HDL.out.2 e.1)
    rw [Nat.pow_add]
    refine Nat.le_trans (Nat.mul_le_mul_left _ h) ?_
    rw [Nat.mul_left_comm]
    exact Nat.mul_le_mul_left _ HDL.out.1

set_option maxRecDepth 100000 in
set_option maxHeartbeats 2000000 in
theorem lenx_100 (a : Nat) (ha : a < 18446744073709551616) (h1 : 4294967296 ≤ a) (_h2 : a / 4294967296 < 65536) (h3 : a / 4294967296 < 256) (w : World) :
    Calls Tryd.prog 32 #[.int .u64 a] w fun e w' => (∃ l : Nat, e = .returned (.int .i64 l) ∧ l ≤ 64 ∧ a < 2 ^ l ∧ (a = 0 ∧ l = 0 ∨ 2 ^ l ≤ 2 * a)) ∧ w = w' := by
  have h1i : (4294967296 : Int) ≤ (a : Int) := by omega
  obtain ⟨x1, x1e⟩ : ∃ x1, a / 4294967296 = x1 := ⟨_, rfl⟩
  have x1i : (a : Int) / 4294967296 = (x1 : Int) := by omega
  have Hx1 := Lib.hid x1e
  have h2i : ¬ (65536 : Int) ≤ (x1 : Int) := by omega
  have h3i : ¬ (256 : Int) ≤ (x1 : Int) := by omega
  have hz : x1 < 256 := by omega
  have hzi : (x1 : Int) < 256 := by omega
  have hw : IntKind.u8.wrap (x1 : Int) = (x1 : Int) := IntWalk.u8_in _ (by omega)
  have hD : a < 4294967296 * (x1 + 1) := by omega
  have hDl : 4294967296 * x1 ≤ a ∧ x1 ≠ 0 := by omega
  have HDL := Lib.hid hDl
  clear hDl
  have HD := Lib.hid hD
  have hk := tab8_ok ⟨x1, hz⟩
  have hkx := tab8_low ⟨x1, hz⟩
  have hsz : x1 < tab8.size := by rw [tab8_size]; exact hz
  obtain ⟨t, ht⟩ : ∃ t, (tab8[x1]'hsz).toNat = t := ⟨_, rfl⟩
  have hk2 : (t ≤ 8 ∧ x1 < 2 ^ t) ∧ (x1 = 0 ∧ t = 0 ∨ 2 ^ t ≤ 2 * x1) := by rw [← ht]; exact ⟨hk, hkx⟩
  have HT := Lib.hid ht
  have HK := Lib.hid hk2
  clear hk hkx ht hk2 hD ha x1e
  go_enter Tryd.func32, Tryd.ntmps32
  go_wp2
  go_ret
  have e := wrap_nn 32 t (by omega) HK.out.1.1
  rw [← HT.out] at e
  refine ⟨⟨32 + t, by rw [← HT.out]; exact congrArg (fun z => Ending.returned (Value.int .i64 z)) e, by have := HK.out.1.1; omega, ?_, ?_⟩, rfl⟩
  · rw [Nat.pow_add]
    exact Nat.lt_of_lt_of_le HD.out (Nat.mul_le_mul_left _ HK.out.1.2)
  · refine .inr ?_
    have h := HK.out.2.resolve_left (fun e => HDL.out.2 e.1)
    rw [Nat.pow_add]
    refine Nat.le_trans (Nat.mul_le_mul_left _ h) ?_
    rw [Nat.mul_left_comm]
    exact Nat.mul_le_mul_left _ HDL.out.1

set_option maxRecDepth 100000 in
set_option maxHeartbeats 2000000 in
theorem lenx_101 (a : Nat) (ha : a < 18446744073709551616) (h1 : 4294967296 ≤ a) (h2 : a / 4294967296 < 65536) (h3 : 256 ≤ a / 4294967296) (w : World) :
    Calls Tryd.prog 32 #[.int .u64 a] w fun e w' => (∃ l : Nat, e = .returned (.int .i64 l) ∧ l ≤ 64 ∧ a < 2 ^ l ∧ (a = 0 ∧ l = 0 ∨ 2 ^ l ≤ 2 * a)) ∧ w = w' := by
  have h1i : (4294967296 : Int) ≤ (a : Int) := by omega
  obtain ⟨x1, x1e⟩ : ∃ x1, a / 4294967296 = x1 := ⟨_, rfl⟩
  have x1i : (a : Int) / 4294967296 = (x1 : Int) := by omega
  have Hx1 := Lib.hid x1e
  have h2i : ¬ (65536 : Int) ≤ (x1 : Int) := by omega
  have h3i : (256 : Int) ≤ (x1 : Int) := by omega
  obtain ⟨x3, x3e⟩ : ∃ x3, x1 / 256 = x3 := ⟨_, rfl⟩
  have x3i : (x1 : Int) / 256 = (x3 : Int) := by omega
  have Hx3 := Lib.hid x3e
  have hz : x3 < 256 := by omega
  have hzi : (x3 : Int) < 256 := by omega
  have hw : IntKind.u8.wrap (x3 : Int) = (x3 : Int) := IntWalk.u8_in _ (by omega)
  have hD : a < 1099511627776 * (x3 + 1) := by omega
  have hDl : 1099511627776 * x3 ≤ a ∧ x3 ≠ 0 := by omega
  have HDL := Lib.hid hDl
  clear hDl
  have HD := Lib.hid hD
  have hk := tab8_ok ⟨x3, hz⟩
  have hkx := tab8_low ⟨x3, hz⟩
  have hsz : x3 < tab8.size := by rw [tab8_size]; exact hz
  obtain ⟨t, ht⟩ : ∃ t, (tab8[x3]'hsz).toNat = t := ⟨_, rfl⟩
  have hk2 : (t ≤ 8 ∧ x3 < 2 ^ t) ∧ (x3 = 0 ∧ t = 0 ∨ 2 ^ t ≤ 2 * x3) := by rw [← ht]; exact ⟨hk, hkx⟩
  have HT := Lib.hid ht
  have HK := Lib.hid hk2
  clear hk hkx ht hk2 hD ha x1e x3e
  go_enter Tryd.func32, Tryd.ntmps32
  go_wp2
  go_ret
  have e := wrap_nn 40 t (by omega) HK.out.1.1
  rw [← HT.out] at e
  refine ⟨⟨40 + t, by rw [← HT.out]; exact congrArg (fun z => Ending.returned (Value.int .i64 z)) e, by have := HK.out.1.1; omega, ?_, ?_⟩, rfl⟩
  · rw [Nat.pow_add]
    exact Nat.lt_of_lt_of_le HD.out (Nat.mul_le_mul_left _ HK.out.1.2)
  · refine .inr ?_
    have h := HK.out.2.resolve_left (fun e => HDL.out.2 e.1)
    rw [Nat.pow_add]
    refine Nat.le_trans (Nat.mul_le_mul_left _ h) ?_
    rw [Nat.mul_left_comm]
    exact Nat.mul_le_mul_left _ HDL.out.1

set_option maxRecDepth 100000 in
set_option maxHeartbeats 2000000 in
theorem lenx_110 (a : Nat) (ha : a < 18446744073709551616) (h1 : 4294967296 ≤ a) (h2 : 65536 ≤ a / 4294967296) (h3 : a / 4294967296 / 65536 < 256) (w : World) :
    Calls Tryd.prog 32 #[.int .u64 a] w fun e w' => (∃ l : Nat, e = .returned (.int .i64 l) ∧ l ≤ 64 ∧ a < 2 ^ l ∧ (a = 0 ∧ l = 0 ∨ 2 ^ l ≤ 2 * a)) ∧ w = w' := by
  have h1i : (4294967296 : Int) ≤ (a : Int) := by omega
  obtain ⟨x1, x1e⟩ : ∃ x1, a / 4294967296 = x1 := ⟨_, rfl⟩
  have x1i : (a : Int) / 4294967296 = (x1 : Int) := by omega
  have Hx1 := Lib.hid x1e
  have h2i : (65536 : Int) ≤ (x1 : Int) := by omega
  obtain ⟨x2, x2e⟩ : ∃ x2, x1 / 65536 = x2 := ⟨_, rfl⟩
  have x2i : (x1 : Int) / 65536 = (x2 : Int) := by omega
  have Hx2 := Lib.hid x2e
  have h3i : ¬ (256 : Int) ≤ (x2 : Int) := by omega
  have hz : x2 < 256 := by omega
  have hzi : (x2 : Int) < 256 := by omega
  have hw : IntKind.u8.wrap (x2 : Int) = (x2 : Int) := IntWalk.u8_in _ (by omega)
  have hD : a < 281474976710656 * (x2 + 1) := by omega
  have hDl : 281474976710656 * x2 ≤ a ∧ x2 ≠ 0 := by omega
  have HDL := Lib.hid hDl
  clear hDl
  have HD := Lib.hid hD
  have hk := tab8_ok ⟨x2, hz⟩
  have hkx := tab8_low ⟨x2, hz⟩
  have hsz : x2 < tab8.size := by rw [tab8_size]; exact hz
  obtain ⟨t, ht⟩ : ∃ t, (tab8[x2]'hsz).toNat = t := ⟨_, rfl⟩
  have hk2 : (t ≤ 8 ∧ x2 < 2 ^ t) ∧ (x2 = 0 ∧ t = 0 ∨ 2 ^ t ≤ 2 * x2) := by rw [← ht]; exact ⟨hk, hkx⟩
  have HT := Lib.hid ht
  have HK := Lib.hid hk2
  clear hk hkx ht hk2 hD ha x1e x2e
  go_enter Tryd.func32, Tryd.ntmps32
  go_wp2
  go_ret
  have e := wrap_nn 48 t (by omega) HK.out.1.1
  rw [← HT.out] at e
  refine ⟨⟨48 + t, by rw [← HT.out]; exact congrArg (fun z => Ending.returned (Value.int .i64 z)) e, by have := HK.out.1.1; omega, ?_, ?_⟩, rfl⟩
  · rw [Nat.pow_add]
    exact Nat.lt_of_lt_of_le HD.out (Nat.mul_le_mul_left _ HK.out.1.2)
  · refine .inr ?_
    have h := HK.out.2.resolve_left (fun e => HDL.out.2 e.1)
    rw [Nat.pow_add]
    refine Nat.le_trans (Nat.mul_le_mul_left _ h) ?_
    rw [Nat.mul_left_comm]
    exact Nat.mul_le_mul_left _ HDL.out.1

set_option maxRecDepth 100000 in
set_option maxHeartbeats 2000000 in
theorem lenx_111 (a : Nat) (ha : a < 18446744073709551616) (h1 : 4294967296 ≤ a) (h2 : 65536 ≤ a / 4294967296) (h3 : 256 ≤ a / 4294967296 / 65536) (w : World) :
    Calls Tryd.prog 32 #[.int .u64 a] w fun e w' => (∃ l : Nat, e = .returned (.int .i64 l) ∧ l ≤ 64 ∧ a < 2 ^ l ∧ (a = 0 ∧ l = 0 ∨ 2 ^ l ≤ 2 * a)) ∧ w = w' := by
  have h1i : (4294967296 : Int) ≤ (a : Int) := by omega
  obtain ⟨x1, x1e⟩ : ∃ x1, a / 4294967296 = x1 := ⟨_, rfl⟩
  have x1i : (a : Int) / 4294967296 = (x1 : Int) := by omega
  have Hx1 := Lib.hid x1e
  have h2i : (65536 : Int) ≤ (x1 : Int) := by omega
  obtain ⟨x2, x2e⟩ : ∃ x2, x1 / 65536 = x2 := ⟨_, rfl⟩
  have x2i : (x1 : Int) / 65536 = (x2 : Int) := by omega
  have Hx2 := Lib.hid x2e
  have h3i : (256 : Int) ≤ (x2 : Int) := by omega
  obtain ⟨x3, x3e⟩ : ∃ x3, x2 / 256 = x3 := ⟨_, rfl⟩
  have x3i : (x2 : Int) / 256 = (x3 : Int) := by omega
  have Hx3 := Lib.hid x3e
  have hz : x3 < 256 := by omega
  have hzi : (x3 : Int) < 256 := by omega
  have hw : IntKind.u8.wrap (x3 : Int) = (x3 : Int) := IntWalk.u8_in _ (by omega)
  have hD : a < 72057594037927936 * (x3 + 1) := by omega
  have hDl : 72057594037927936 * x3 ≤ a ∧ x3 ≠ 0 := by omega
  have HDL := Lib.hid hDl
  clear hDl
  have HD := Lib.hid hD
  have hk := tab8_ok ⟨x3, hz⟩
  have hkx := tab8_low ⟨x3, hz⟩
  have hsz : x3 < tab8.size := by rw [tab8_size]; exact hz
  obtain ⟨t, ht⟩ : ∃ t, (tab8[x3]'hsz).toNat = t := ⟨_, rfl⟩
  have hk2 : (t ≤ 8 ∧ x3 < 2 ^ t) ∧ (x3 = 0 ∧ t = 0 ∨ 2 ^ t ≤ 2 * x3) := by rw [← ht]; exact ⟨hk, hkx⟩
  have HT := Lib.hid ht
  have HK := Lib.hid hk2
  clear hk hkx ht hk2 hD ha x1e x2e x3e
  go_enter Tryd.func32, Tryd.ntmps32
  go_wp2
  go_ret
  have e := wrap_nn 56 t (by omega) HK.out.1.1
  rw [← HT.out] at e
  refine ⟨⟨56 + t, by rw [← HT.out]; exact congrArg (fun z => Ending.returned (Value.int .i64 z)) e, by have := HK.out.1.1; omega, ?_, ?_⟩, rfl⟩
  · rw [Nat.pow_add]
    exact Nat.lt_of_lt_of_le HD.out (Nat.mul_le_mul_left _ HK.out.1.2)
  · refine .inr ?_
    have h := HK.out.2.resolve_left (fun e => HDL.out.2 e.1)
    rw [Nat.pow_add]
    refine Nat.le_trans (Nat.mul_le_mul_left _ h) ?_
    rw [Nat.mul_left_comm]
    exact Nat.mul_le_mul_left _ HDL.out.1

/-- The bits that a number of 64 has: it lies below that power of two. -/
theorem lenx_any (a : Nat) (ha : a < 18446744073709551616) (w : World) :
    Calls Tryd.prog 32 #[.int .u64 a] w fun e w' => (∃ l : Nat, e = .returned (.int .i64 l) ∧ l ≤ 64 ∧ a < 2 ^ l ∧ (a = 0 ∧ l = 0 ∨ 2 ^ l ≤ 2 * a)) ∧ w = w' := by
  by_cases h1 : 4294967296 ≤ a
  · by_cases h2 : 65536 ≤ a / 4294967296
    · by_cases h3 : 256 ≤ a / 4294967296 / 65536
      · exact lenx_111 a ha h1 h2 h3 w
      · exact lenx_110 a ha h1 h2 (by omega) w
    · by_cases h3 : 256 ≤ a / 4294967296
      · exact lenx_101 a ha h1 (by omega) h3 w
      · exact lenx_100 a ha h1 (by omega) (by omega) w
  · by_cases h2 : 65536 ≤ a
    · by_cases h3 : 256 ≤ a / 65536
      · exact lenx_011 a ha (by omega) h2 h3 w
      · exact lenx_010 a ha (by omega) h2 (by omega) w
    · by_cases h3 : 256 ≤ a
      · exact lenx_001 a ha (by omega) (by omega) h3 w
      · exact lenx_low a (by omega) w
end Go.Proofs.YtidpekcegocjfaaDoor
