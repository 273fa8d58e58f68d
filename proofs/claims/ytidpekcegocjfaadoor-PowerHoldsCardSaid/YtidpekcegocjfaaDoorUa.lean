/- split's reference: Steps; how long Euclid's way is at most. -/
import Derived.Test.YtidpekcegocjfaaDoorPc
import Derived.WalkKit
import Derived.Deep.LoopGhost
namespace Go.Proofs.YtidpekcegocjfaaDoor
open Go.RowKit Go.Shelf
attribute [local go_sem] ix0 ix1 ix2 ix3
theorem eu_half (a b : Nat) : ∀ j, (∀ i, i < 2 * j + 1 → eu a b i ≠ 0) → eu a b (2 * j + 1) * 2 ^ j ≤ b
  | 0, _ => by rw [Nat.pow_zero, Nat.mul_one]; exact Nat.le_refl _
  | j + 1, h => by
    have ih := eu_half a b j (fun i hi => h i (by omega))
    have hx : eu a b (2 * j + 1) ≠ 0 := h _ (by omega)
    have hy : eu a b (2 * j + 2) ≠ 0 := h _ (by omega)
    have ey : eu a b (2 * j + 2) = eu a b (2 * j) % eu a b (2 * j + 1) := by
      show mdN _ _ = _
      unfold mdN
      rw [if_neg hx]
    have ez : eu a b (2 * (j + 1) + 1) = eu a b (2 * j + 1) % eu a b (2 * j + 2) := by
      show mdN (eu a b (2 * j + 1)) (eu a b (2 * j + 2)) = _
      unfold mdN
      rw [if_neg hy]
    have hlt : eu a b (2 * j + 2) < eu a b (2 * j + 1) := by rw [ey]; exact Nat.mod_lt _ (by omega)
    rw [ez]
    generalize eu a b (2 * j + 1) = x at *
    generalize eu a b (2 * j + 2) = y at *
    have h1 : x % y < y := Nat.mod_lt _ (by omega)
    have h2 : x % y + y ≤ x := by
      have h3 := Nat.div_add_mod x y
      have h4 : 1 ≤ x / y := (Nat.le_div_iff_mul_le (by omega)).2 (by omega)
      have h5 : y ≤ y * (x / y) := Nat.le_mul_of_pos_right _ (by omega)
      omega
    have h6 : x % y * 2 ≤ x := by omega
    calc x % y * 2 ^ (j + 1) = x % y * 2 * 2 ^ j := by rw [Nat.pow_succ, Nat.mul_comm (2 ^ j) 2, Nat.mul_assoc]
      _ ≤ x * 2 ^ j := Nat.mul_le_mul_right _ h6
      _ ≤ b := ih
/-- Euclid's way is short. -/
theorem eu_few (a b k : Nat) (hb : b < MM) (h : ∀ i, i < k → eu a b i ≠ 0) : k ≤ 600 := by
  refine Classical.byContradiction fun hk => ?_
  have h1 := eu_half a b 256 (fun i hi => h i (by omega))
  have h2 : eu a b (2 * 256 + 1) ≠ 0 := h _ (by omega)
  have h3 : MM = 2 ^ 256 := by decide +kernel
  have h4 : 1 * 2 ^ 256 ≤ eu a b (2 * 256 + 1) * 2 ^ 256 := Nat.mul_le_mul_right _ (by omega)
  omega
/-- The words of the way, as cells. -/
def fw (a b : Nat) : Nat → List Value
  | 0 => []
  | k + 1 => fw a b k ++ (Wc (eu a b k)).toList
theorem fw_length (a b : Nat) : ∀ k, (fw a b k).length = k * 4
  | 0 => rfl
  | k + 1 => by rw [fw, List.length_append, fw_length a b k]; show _ + 4 = _; omega
theorem info_w : (Tryd.prog.info? 24).map (fun i => (i.zero, i.size, i.bytes)) = some (some (.agg #[.int .u64 0, .int .u64 0, .int .u64 0, .int .u64 0]), 4, 32) := by kernel_rfl
theorem neqW2 (x y : Nat) (w : World) : (binOp .neq 24 (W x) (W y)).run Tryd.prog w = .ok (.bool (!(x % MM == y % MM))) w := by
  obtain ⟨i, hi⟩ := Option.isSome_iff_exists.1 info_u64
  have h := run_neq_ints (show Tryd.prog.underlying 24 = some (.array 4 22) by kernel_rfl) (k := .u64) (by kernel_rfl) hi (by kernel_rfl) (Wc x) (Wc y) (lb x) (lb y)
    (fun j hj => by match j, hj with | 0, _ | 1, _ | 2, _ | 3, _ => exact ⟨rfl, rfl⟩) w
  rw [h]
  refine congrArg (fun c => Result.ok (Value.bool (!c)) w) ?_
  rw [Bool.eq_iff_iff]
  simp only [List.all_eq_true, List.mem_range, beq_iff_eq]
  rw [← lb_eq_iff]
  exact ⟨fun h => ⟨h 0 (by omega), h 1 (by omega), h 2 (by omega), h 3 (by omega)⟩, fun h j hj => by match j, hj with | 0, _ => exact h.1 | 1, _ => exact h.2.1 | 2, _ => exact h.2.2.1 | 3, _ => exact h.2.2.2⟩
theorem neq_nought (x : Nat) (hx : x < MM) (w : World) : (binOp .neq 24 (W x) (.agg #[.int .u64 0, .int .u64 0, .int .u64 0, .int .u64 0])).run Tryd.prog w = .ok (.bool (x != 0)) w := by
  have h := neqW2 x 0 w
  rw [W_zero, Nat.mod_eq_of_lt hx, Nat.zero_mod] at h
  exact h
theorem owns_below {X Y : World} {base : Nat} {e : TypeId} {size : Nat} {v : Value} {n : Nat} {xs : List Value} (h : X.ownsRow base e size v n xs) (hb : Below X.heap.size X Y) : Y.ownsRow base e size v n xs := by
  refine ⟨h.1, ?_⟩
  rcases h.2 with hn | ⟨g, cap, cur, hv, hbg, hg, r⟩
  · exact .inl hn
  · exact .inr ⟨g, cap, cur, hv, hbg, (hb.block g (Array.getElem?_eq_some_iff.1 hg).1).trans hg, r⟩
theorem owns_mono {X : World} {base base' : Nat} {e : TypeId} {size : Nat} {v : Value} {n : Nat} {xs : List Value} (h : X.ownsRow base e size v n xs) (hb : base' ≤ base) : X.ownsRow base' e size v n xs := by
  refine ⟨h.1, ?_⟩
  rcases h.2 with hn | ⟨g, cap, cur, hv, hbg, r⟩
  · exact .inl hn
  · exact .inr ⟨g, cap, cur, hv, Nat.le_trans hb hbg, r⟩
/-- What the append leaves of the two boxes. -/
theorem box_kept {X Y : World} {base g : Nat} {e t : TypeId} {size : Nat} {v : Value} {n : Nat} {xs : List Value} {cs : Array Value} (h : X.ownsRow base e size v n xs) (hG : X.grownBy Y v.ownBlock) (hg : g < base) (hB : Blk X g t cs) : Blk Y g t cs :=
  hB.kept hG (fun e => by have h1 := (h.lt g e.symm).1; omega)
theorem world_kept {w X Y : World} {base n0 : Nat} {e : TypeId} {size : Nat} {v : Value} {n : Nat} {xs : List Value} (h : X.ownsRow base e size v n xs) (hG : X.grownBy Y v.ownBlock) (hb : Below n0 w X) (hn : n0 ≤ w.heap.size) (hn0 : n0 ≤ base) : Below n0 w Y := by
  exact hb.grown hG (Nat.le_trans hn hb.size) (fun k e => Nat.le_trans hn0 (h.lt k e).1)

end Go.Proofs.YtidpekcegocjfaaDoor
