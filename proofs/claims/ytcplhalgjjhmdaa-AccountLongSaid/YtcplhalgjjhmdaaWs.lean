/- The reference of layer word: Of, Not, Bytes, by contracts. -/
import Derived.Test.YtcplhalgjjhmdaaWr
import Derived.Test.YtcplhalgjjhmdaaSa
import Derived.Laws.BitsAllLaws
import Derived.Laws.Rows
import Derived.Deep.MidRow
import Derived.Deep.Cut
namespace Go.Proofs.Ytcplhalgjjhmdaa
open Go.RowKit
attribute [local go_sem] ix0 ix1 ix2 ix3
theorem rof_any (n : Nat) (h : n < B64) (w : World) :
    Calls Try.prog 16 #[.int .u64 n] w fun e w' => e = .returned (W n) ∧ Below w.heap.size w w' := by
  have h0 : (n : Int) = lb n 0 := by unfold lb; rw [Nat.pow_zero, Nat.div_one, Nat.mod_eq_of_lt h]
  have h1 : lb n 1 = 0 := by unfold lb; rw [Nat.div_eq_of_lt (by rw [Nat.pow_one]; exact h)]; rfl
  have h2 : lb n 2 = 0 := by unfold lb; rw [Nat.div_eq_of_lt (by unfold B64 at *; omega)]; rfl
  have h3 : lb n 3 = 0 := by unfold lb; rw [Nat.div_eq_of_lt (by unfold B64 at *; omega)]; rfl
  have e : W n = .agg #[.int .u64 n, .int .u64 0, .int .u64 0, .int .u64 0] := by unfold W; rw [h1, h2, h3, ← h0]
  clear h0 h1 h2 h3
  rw [e]; clear e
  go_enter Try.func16, Try.ntmps16
  go_wp2
  exact bodyPost_ret (v := .agg #[.int .u64 n, .int .u64 0, .int .u64 0, .int .u64 0]) (by simp [results, Try.results16, go_sem]) rfl ⟨rfl, (Below.refl _ _).alloc (Nat.le_refl _) _⟩

theorem xor_max (x : Nat) (h : x < 18446744073709551616) : 18446744073709551615 ^^^ x = 18446744073709551615 - x := by
  have h1 := BitVec.toNat_not (x := BitVec.ofNat 64 x)
  rw [BitVec.not_def, BitVec.toNat_xor, BitVec.toNat_allOnes, BitVec.toNat_ofNat, Nat.mod_eq_of_lt h] at h1
  simpa using h1
theorem not_lb (b i : Nat) : bits .xor .u64 IntKind.u64.max (lb b i) = 18446744073709551615 - lb b i := by
  have h1 : b / B64 ^ i % B64 < 18446744073709551616 := Nat.mod_lt _ B64_pos
  have h := u64_xor_nat 18446744073709551615 (b / B64 ^ i % B64) (by omega) h1
  rw [xor_max _ h1] at h
  have e : IntKind.u64.max = ((18446744073709551615 : Nat) : Int) := by decide
  rw [e]; unfold lb; rw [h]; omega

theorem below_setCells' {B b : Nat} {a : World} (hb : B ≤ b) : ∀ (vs : List Value) (o : Nat) (w : World), Below B a w → Below B a (w.setCells b o vs)
  | [], _, _, h => h
  | v :: vs, o, _, h => below_setCells' hb vs (o + 1) _ (h.setCell (p := ⟨b, o, none⟩) hb v)
theorem byC_one (a k : Nat) : (byC a k).all (·.oneCell') = true := by
  rw [Array.all_eq_true_iff_forall_mem]
  intro v hv
  unfold byC at hv
  simp only [List.mem_toArray, List.mem_map] at hv
  obtain ⟨p, _, rfl⟩ := hv
  rfl
theorem Blk.rangeAt {X : World} {g : Nat} {t : TypeId} {cs : Array Value} (h : Blk X g t cs) : X.rangeAt g 0 cs.toList := fun j v hv => by
  rw [Nat.zero_add]
  exact (cell_of_row X g j _ _ _ h).trans (by simpa using hv)
theorem Blk.there {X : World} {g : Nat} {t : TypeId} {cs : Array Value} (h : Blk X g t cs) (n : Nat) (hn : n ≤ cs.size) : X.there g 0 n := fun j hj => by
  rw [Nat.zero_add]
  refine ⟨?_, frozen_of_row X g j _ _ h⟩
  rw [cell_of_row X g j _ _ _ h, Array.getElem?_eq_getElem (by omega)]
  rfl

end Go.Proofs.Ytcplhalgjjhmdaa
