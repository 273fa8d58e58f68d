/- power: the truths of a number, highest bit first. -/
import Derived.Test.YtidpekcegocjfaaDoorEd
import Derived.Laws.MakeOwn
namespace Go.Proofs.YtidpekcegocjfaaDoor
open Go.RowKit

/-- So many truths as cells. -/
def boolC (n : Nat) (f : Nat → Bool) : Array Value := ((List.range n).map fun j => Value.bool (f j)).toArray
theorem boolC_size (n : Nat) (f : Nat → Bool) : (boolC n f).size = n := by unfold boolC; simp
theorem boolC_get (n : Nat) (f : Nat → Bool) (j : Nat) (hj : j < n) : (boolC n f)[j]? = some (.bool (f j)) := by unfold boolC; simp [hj]
theorem boolC_congr {n : Nat} {f g : Nat → Bool} (h : ∀ j, j < n → f j = g j) : boolC n f = boolC n g := by
  unfold boolC
  congr 1
  exact List.map_congr_left fun j hj => by rw [h j (List.mem_range.1 hj)]
theorem boolC_set (n : Nat) (f : Nat → Bool) (p : Nat) (b : Bool) : (boolC n f).setIfInBounds p (.bool b) = boolC n (fun j => if j = p then b else f j) := by
  apply Array.ext_getElem?
  intro i
  rw [Array.getElem?_setIfInBounds, boolC_size]
  by_cases hi : i < n
  · rw [boolC_get n f i hi, boolC_get n (fun j => if j = p then b else f j) i hi]
    by_cases e : p = i
    · subst e; simp [hi]
    · rw [if_neg e, if_neg (fun h => e h.symm)]
  · rw [Array.getElem?_eq_none (by rw [boolC_size]; omega), Array.getElem?_eq_none (by rw [boolC_size]; omega)]
    split <;> simp_all
theorem made_bool (n : Nat) : madeCells (Value.bool false).cells (n * 1) = boolC n (fun _ => false) := by
  apply Array.ext_getElem?
  intro i
  unfold madeCells boolC
  by_cases hi : i < n <;> simp [Value.cells, Nat.mod_one, hi]
theorem make_bools (n : Nat) (hn : n ≤ 256) (w : World) : (Instr.makeSlice 30 (.int .i64 n) (.int .i64 n)).run Tryd.prog w = .ok (.slice (some ⟨w.heap.size, 0, none⟩) n n) (w.alloc (.cells (boolC n (fun _ => false)) 4)) := by
  have hinf : (Tryd.prog.info? 4).map (fun i => (i.zero, i.size, i.bytes)) = some (some (.bool false), 1, 1) := by kernel_rfl
  obtain ⟨i, hi, hj⟩ := Option.map_eq_some_iff.1 hinf
  have hz : i.zero = some (.bool false) := congrArg Prod.fst hj
  have hs : i.size = 1 := congrArg (fun q => q.2.1) hj
  have hb : i.bytes = 1 := congrArg (fun q => q.2.2) hj
  clear hinf hj
  have h := run_makeSlice (P := Tryd.prog) (w := w) 30 4 i (.bool false) (by kernel_rfl) hi hz .i64 .i64 n n (by omega) (by omega) (by rw [hs]; omega) (by rw [hb]; omega) (by omega)
  rw [hs, Int.toNat_natCast, made_bool] at h
  exact h
theorem lenN_spec (a : Nat) (ha : a < MM) : a < 2 ^ lenN a ∧ lenN a ≤ 256 := by
  by_cases h0 : a = 0
  · subst h0
    have := len_of 0 0 ha (by omega) (.inl ⟨rfl, rfl⟩) (by omega)
    rw [this]
    decide
  · have h1 : a < 2 ^ (a.log2 + 1) := Nat.lt_log2_self
    have h2 : 2 ^ a.log2 ≤ a := Nat.log2_self_le h0
    have h3 : a.log2 < 256 := (Nat.pow_lt_pow_iff_right (by omega)).1 (Nat.lt_of_le_of_lt h2 (Nat.lt_of_lt_of_eq ha (by decide +kernel)))
    rw [len_of a (a.log2 + 1) ha h1 (.inr (by rw [Nat.pow_succ]; omega)) (by omega)]
    exact ⟨h1, by omega⟩
theorem bit_len (a x : Nat) (ha : a < MM) (h : a.testBit x = true) : x < lenN a := by
  have h1 := Nat.ge_two_pow_of_testBit h
  have h2 := (lenN_spec a ha).1
  exact (Nat.pow_lt_pow_iff_right (by omega)).1 (Nat.lt_of_le_of_lt h1 h2)
/-- The truths behind the bits gone over. -/
def TL (L : Nat) (pre : List Nat) (j : Nat) : Bool := decide (L - 1 - j ∈ pre)
theorem TL_nil (L : Nat) : boolC L (TL L []) = boolC L (fun _ => false) := boolC_congr fun j _ => by unfold TL; simp
theorem TL_snoc (L x : Nat) (pre : List Nat) (hx : x < L) : (boolC L (TL L pre)).setIfInBounds (L - 1 - x) (.bool true) = boolC L (TL L (pre ++ [x])) := by
  rw [boolC_set]
  refine boolC_congr fun j hj => ?_
  unfold TL
  by_cases e : j = L - 1 - x
  · rw [if_pos e, eq_comm, decide_eq_true_eq]
    have : L - 1 - j = x := by omega
    simp [this]
  · rw [if_neg e]
    have : L - 1 - j ≠ x := by omega
    simp [this]
theorem TL_all (a L j : Nat) (hL : L ≤ 256) (hj : j < L) : TL L (eb a 256) j = a.testBit (L - 1 - j) := by
  unfold TL
  rw [Bool.eq_iff_iff, decide_eq_true_eq, eb_mem]
  exact ⟨fun h => h.2, fun h => ⟨by omega, h⟩⟩
end Go.Proofs.YtidpekcegocjfaaDoor
