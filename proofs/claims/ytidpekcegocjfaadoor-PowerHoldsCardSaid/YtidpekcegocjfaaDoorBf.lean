/- bits: a word's bits moved (from). -/
import Derived.Test.YtidpekcegocjfaaDoorBe
namespace Go.Proofs.YtidpekcegocjfaaDoor
open Go.RowKit
attribute [local go_sem] ix0 ix1 ix2 ix3
theorem i64_and63 (n : Int) : bits .and .i64 n 63 = n % 64 := by
  show IntKind.i64.wrap ((BitVec.ofInt 64 n &&& BitVec.ofInt 64 (63 : Int)).toNat : Int) = _
  have hn : (BitVec.ofInt 64 n).toNat = (n % 18446744073709551616).toNat := by rw [BitVec.toNat_ofInt]; rfl
  rw [BitVec.toNat_and, hn, show (BitVec.ofInt 64 (63 : Int)).toNat = 2 ^ 6 - 1 from by decide, Nat.and_two_pow_sub_one_eq_mod]
  rw [IntWalk.i64_in _ (by omega)]
  omega
/-- But for new blocks, only the cell k of the block R has been written. -/
def HeldK (W1 : World) (R : Nat) (t : TypeId) (cs : Array Value) (k : Nat) (w' : World) : Prop := W1.grownBy w' (some R) ∧ ∃ v, Blk w' R t (cs.setIfInBounds k v)
theorem HeldK.start {W1 : World} {R k : Nat} {t : TypeId} {cs : Array Value} (hk : k < cs.size) (h : Blk W1 R t cs) : HeldK W1 R t cs k W1.drew := by
  refine ⟨grown_drew (grown_refl W1 R), cs[k], ?_⟩
  have e : cs.setIfInBounds k cs[k] = cs := by
    apply Array.ext_getElem?
    intro i
    by_cases h : k = i
    · subst h; rw [Array.getElem?_setIfInBounds_self_of_lt hk, Array.getElem?_eq_getElem hk]
    · rw [Array.getElem?_setIfInBounds_ne h]
  rw [e]; exact h
theorem HeldK.call {W1 w' w'' : World} {R k : Nat} {t : TypeId} {cs : Array Value} (c : Below w'.heap.size w' w'') (h : HeldK W1 R t cs k w') : HeldK W1 R t cs k w'' := by
  obtain ⟨hg, v, hb⟩ := h
  exact ⟨grown_below hg c, v, hb.block_below c⟩
theorem HeldK.set {W1 w' : World} {R k : Nat} {t : TypeId} {cs : Array Value} (h : HeldK W1 R t cs k w') (v : Value) : HeldK W1 R t cs k (w'.setCell ⟨R, k, none⟩ v) := by
  obtain ⟨hg, v', hb⟩ := h
  refine ⟨grown_set' hg k v, v, ?_⟩
  have h2 := heap_setCell_same w' R k _ _ v hb
  rwa [Array.setIfInBounds_setIfInBounds] at h2
theorem HeldK.after {W1 w' : World} {R k : Nat} {t : TypeId} {cs : Array Value} (h : HeldK W1 R t cs k w') (v : Value) : Blk (w'.setCell ⟨R, k, none⟩ v) R t (cs.setIfInBounds k v) := by
  obtain ⟨hg, v', hb⟩ := h
  have h2 := heap_setCell_same w' R k _ _ v hb
  rwa [Array.setIfInBounds_setIfInBounds] at h2
theorem HeldK.cell {W1 w' : World} {R k : Nat} {t : TypeId} {cs : Array Value} (hk : k < cs.size) (h : HeldK W1 R t cs k w') : w'.cell? ⟨R, k, none⟩ = some (cellv w' ⟨R, k, none⟩) := by
  obtain ⟨hg, v', hb⟩ := h
  have e := cell_of_row w' R k _ _ _ hb
  unfold cellv
  rw [e, Array.getElem?_setIfInBounds_self_of_lt hk]; rfl
theorem HeldK.frozen {W1 w' : World} {R k : Nat} {t : TypeId} {cs : Array Value} (h : HeldK W1 R t cs k w') : w'.frozen? ⟨R, k, none⟩ = false := by
  obtain ⟨hg, v', hb⟩ := h
  exact frozen_of_row w' R k _ _ hb
theorem HeldK.at {W1 w' : World} {R k g j : Nat} {t t' : TypeId} {cs cs' : Array Value} {v : Value} (h : HeldK W1 R t cs k w') (hb : Blk W1 g t' cs') (hne : g ≠ R) (hv : cs'[j]? = some v) : w'.cell? ⟨g, j, none⟩ = some v :=
  (cell_of_row w' g j _ _ _ (hb.kept h.1 (fun e => hne (Option.some.inj e)))).trans hv

/-- The first k numbers of a word, noughts above them. -/
def fC (x k : Nat) : Array Value := #[.int .u64 (if 0 < k then lb x 0 else 0), .int .u64 (if 1 < k then lb x 1 else 0), .int .u64 (if 2 < k then lb x 2 else 0), .int .u64 (if 3 < k then lb x 3 else 0)]
theorem fC_size (x k : Nat) : (fC x k).size = 4 := rfl
theorem fC_zero (x : Nat) : fC x 0 = Zc := rfl
theorem fC_four (x : Nat) : fC x 4 = Wc x := rfl
theorem fC_set (x k : Nat) (hk : k < 4) : (fC x k).setIfInBounds k (.int .u64 (lb x k)) = fC x (k + 1) := by
  match k, hk with
  | 0, _ | 1, _ | 2, _ | 3, _ => rfl
attribute [local irreducible] lb numI
end Go.Proofs.YtidpekcegocjfaaDoor
