/- policy's laws: the reference's text of any number. -/
import Derived.Test.YtenepkgjdoddgaaGreatDoorPk
import Derived.Test.YtenepkgjdoddgaaGreatDoorGh
namespace Go.Proofs.YtenepkgjdoddgaaGreatDoor
open Go.RowKit Go.Shelf

set_option maxRecDepth 100000 in
set_option maxHeartbeats 4000000 in
theorem rnumberN_any (u : Nat) (hu : u < 18446744073709551616) (w : World) :
    Calls Tryz.prog 54 #[.int .u64 (u : Nat)] w fun e w' => e = .returned (.string ⟨(Lib.decDigits u).toArray⟩) ∧ Below w.heap.size w w' := by
  have HU := Lib.hid hu
  go_enter Tryz.func54, Tryz.ntmps54
  go_wp2_with fail
  go_loopw [0, 3] (fun tn ts wr => ∃ (m : Nat) (T : ByteArray), tn = .int .u64 m ∧ ts = .string T ∧ Below w.heap.size w wr ∧ m ≤ u ∧ Lib.decDigits u = Lib.decDigits m ++ T.data.toList) (fun tn _ _ => (intOf tn).toNat)
  case atStart => exact ⟨u, ⟨#[]⟩, rfl, rfl, Below.refl _ _, Nat.le_refl _, by simp⟩
  case round =>
    obtain ⟨m, T, rfl, rfl, hB, hm, hD⟩ := hrel
    have hTs : T.size ≤ 20 := by
      have h1 := congrArg List.length hD
      rw [List.length_append, Lib.decDigits_length] at h1
      have h2 := Lib.nDigits_le20 u hu
      have h3 : T.data.toList.length = T.size := by simp
      omega
    have m1 : (m : Int) % 10 = ((m % 10 : Nat) : Int) := by omega
    have q1 : (m : Int) / 10 = ((m / 10 : Nat) : Int) := by omega
    have gw : IntKind.u64.wrap ((m / 10 : Nat) : Int) = ((m / 10 : Nat) : Int) := IntWalk.u64_in _ (by omega)
    have c1 := conv10 (m % 10) (by omega)
    have hr : m % 10 < 10 := by omega
    have hst : Lib.decDigits m = (if m < 10 then [] else Lib.decDigits (m / 10)) ++ [UInt8.ofNat (48 + m % 10)] := by
      by_cases h : m < 10
      · rw [if_pos h, Lib.decDigits_one h, Nat.mod_eq_of_lt h]; rfl
      · rw [if_neg h, Lib.decDigits, dif_neg h]
    by_cases h : m < 10
    · have hq : (((m / 10 : Nat) : Int) == 0) = true := by simp; omega
      rw [if_pos h] at hst
      have HS := Lib.hid (And.intro hB (And.intro hD hst))
      clear hB hD hst h hm hu
      generalize m % 10 = r at *
      generalize m / 10 = q at *
      generalize UInt8.ofNat (48 + r) = c at *
      have c1' := c1 wr
      go_wp2_with fail
      go_ret
      obtain ⟨hB, hD, hst⟩ := HS.out
      rw [hD, hst]
      refine ⟨?_, balloc hB _⟩
      congr 2
    · have hq : (((m / 10 : Nat) : Int) == 0) = false := by simp; omega
      rw [if_neg h] at hst
      have hlt : m / 10 < m := by omega
      have HS := Lib.hid (And.intro hB (And.intro hD (And.intro hst (And.intro hm hlt))))
      clear hB hD hst h hm hu hlt
      generalize m % 10 = r at *
      generalize m / 10 = q at *
      generalize UInt8.ofNat (48 + r) = c at *
      have c1' := c1 wr
      go_wp2_with fail
      obtain ⟨hB, hD, hst, hm, hlt⟩ := HS.out
      exact ⟨⟨q, _, rfl, rfl, balloc hB _, by omega, by rw [hD, hst, List.append_assoc]; rfl⟩, by simp [intOf]; omega⟩
end Go.Proofs.YtenepkgjdoddgaaGreatDoor
