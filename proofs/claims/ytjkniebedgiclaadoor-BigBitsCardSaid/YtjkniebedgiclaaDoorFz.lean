/- big: each: the bits of a byte. -/
import Derived.Test.YtjkniebedgiclaaDoorFy
namespace Go.Proofs.YtjkniebedgiclaaDoor
open Go.RowKit Go.Shelf

theorem and1_u8 : ∀ z : Fin 256, bits .and .u8 ((z.val : Nat) : Int) 1 = ((z.val % 2 : Nat) : Int) := by decide +kernel
theorem bit8 (b k : Nat) : ((((b / 2 ^ k % 2 : Nat) : Int)) == 1) = b.testBit k := by
  rw [Nat.testBit_eq_decide_div_mod_eq]
  have : b / 2 ^ k % 2 = 0 ∨ b / 2 ^ k % 2 = 1 := by omega
  rcases this with h | h <;> rw [h] <;> rfl

set_option maxRecDepth 100000 in
set_option maxHeartbeats 4000000 in
theorem each1_in (n : Nat) (hn : 1 ≤ n) (l A n₀ b : Nat) (hb : b < 256) (J Jx : List Nat → World → Prop) (w : World)
    (hBd : ∀ pre X, J pre X → Blk X A 5 #[.int .u8 b])
    (hY : ∀ pre (x : Nat) X, (pre = List.range x ∧ x < 8) → J pre X → YieldAt Fence.wide 0 Tryd.prog l #[.bool (b.testBit (7 - x))] X fun e Y => (e = .returned (.bool true) ∧ J (pre ++ [x]) Y ∧ Kept w.heap.size X Y ∧ Below n₀ X Y) ∨ (e = .returned (.bool false) ∧ Jx (pre ++ [x]) Y ∧ Kept w.heap.size X Y))
    (h0 : J [] w) :
    CallsIn Fence.wide n Tryd.prog 46 #[.func (.yield l) #[] #[], .pointer (some ⟨A, 0, none⟩)] w fun e Y => (∃ v, e = .returned v) ∧
      ((∃ xs, xs = List.range 8 ∧ J xs Y) ∨ (∃ pre, (∃ k, pre = List.range (k + 1) ∧ k < 8) ∧ Jx pre Y)) := by
  refine callsIn_of_wp_marks Tryd.func46 rfl trivial ?_ rfl
  simp only [Tryd.ntmps46, List.size_toArray, List.length_cons, List.length_nil, Nat.reduceAdd, Nat.reduceSub, Array.replicate_succ, Array.replicate_zero, List.push_toArray, List.append_toArray, List.nil_append, List.cons_append]
  gi_wp2_with fail
  gi_loopw [3] (fun i wr => ∃ k : Nat, i = .int .i64 (7 - (k : Int)) ∧ k ≤ 8 ∧ J (List.range k) wr) (fun i _ => (intOf i + 1).toNat)
  case atStart => exact ⟨0, rfl, by omega, h0⟩
  case round =>
    obtain ⟨k, rfl, hk, hj⟩ := hrel
    by_cases hlt : k < 8
    · obtain ⟨fn, tmps, assign, body, hy, hR⟩ := YieldAt.wide (m' := n - 1) (hY _ k _ ⟨rfl, hlt⟩ hj)
      have c1 := cell_of_row _ _ 0 _ _ _ (hBd _ _ hj)
      obtain ⟨p, hp⟩ : ∃ p, 7 - k = p := ⟨_, rfl⟩
      rw [hp] at hy
      have hpi : 7 - (k : Int) = (p : Int) := by omega
      have hbt := bit8 b p
      have g0 : (0 : Int) ≤ (p : Int) := by omega
      have g1 : (p : Int) ≤ 8 := by omega
      obtain ⟨z, hz⟩ : ∃ z, b / 2 ^ p = z := ⟨_, rfl⟩
      rw [hz] at hbt
      have g2 : (b : Int) / 2 ^ p = (z : Int) := by rw [← hz, Int.natCast_ediv, Int.natCast_pow]; rfl
      have hzl : z < 256 := by rw [← hz]; exact Nat.lt_of_le_of_lt (Nat.div_le_self _ _) hb
      have g3 : IntKind.u8.wrap (z : Int) = (z : Int) := by rw [IntKind.wrap_u8]; omega
      have g5 : bits .and .u8 (z : Int) 1 = ((z % 2 : Nat) : Int) := and1_u8 ⟨z, hzl⟩
      rw [← g5] at hbt
      have g4 : IntKind.i64.wrap ((p : Int) - 1) = (p : Int) - 1 := IntWalk.i64_in _ (by omega)
      obtain ⟨t, ht⟩ : ∃ t, b.testBit p = t := ⟨_, rfl⟩
      rw [ht] at hy hbt
      have HI := Lib.hid hp
      rw [hpi]
      clear hp hz hzl ht hpi g5
      gi_wp2_with fail
      refine hR.mono ?_
      clear hy hR hj c1 g2 g3 hbt
      rintro e Y (⟨rfl, hj, hkp, _⟩ | ⟨rfl, hjx, _⟩)
      · gi_wp2_with fail
        exact ⟨⟨k + 1, by have := HI.out; exact congrArg (Value.int .i64) (by omega), by omega, by rw [List.range_succ]; exact hj⟩, by have := HI.out; simp [intOf]⟩
      · gi_wp2_with fail
        exact ⟨_, results_none rfl _ _ _, ⟨_, rfl⟩, .inr ⟨_, ⟨k, rfl, hlt⟩, by rw [List.range_succ]; exact hjx⟩⟩
    · obtain rfl : k = 8 := by omega
      have e1 : (7 : Int) - ((8 : Nat) : Int) = -1 := rfl
      rw [e1]
      clear e1
      gi_wp2_with fail
      refine ⟨fun _ h => (by cases h), ?_⟩
      gi_wp2_with fail
      exact ⟨_, results_none rfl _ _ _, ⟨_, rfl⟩, .inl ⟨_, rfl, hj⟩⟩
/-- each goes over the bits of a byte. -/
theorem each_seq (n n₀ A b : Nat) (hn : 1 ≤ n) (hb : b < 256) (w : World) :
    SeqW n Tryd.prog 46 #[.pointer (some ⟨A, 0, none⟩)] (fun x : Nat => #[.bool (b.testBit (7 - x))]) n₀ (fun _ X => Blk X A 5 #[.int .u8 b]) (fun pre x => pre = List.range x ∧ x < 8) (fun xs => xs = List.range 8) (fun pre => ∃ k, pre = List.range (k + 1) ∧ k < 8) w := fun l J Jx W _ _ _ hBd hY h0 =>
  each1_in n hn l A n₀ b hb J Jx W hBd hY h0
end Go.Proofs.YtjkniebedgiclaaDoor
