/- Words as four numbers, blocks, bytes in cells, word.Sub and word.Order: what the layers above word need of it. (Out of Wa, Wc, Wd, We, Wf, by splitcore.py.) -/
import Derived.Test.YtcplhalgjjhmdaaRows
import Derived.Test.YtcplhalgjjhmdaaWmath
import Derived.Test.YtcplhalgjjhmdaaWlaw
import Derived.WalkKit
import Derived.WalkSpells
import Derived.WalkLawsBesides
import Derived.Lib.Hide
import Derived.Deep.QuietTactic
import Derived.BigQuiet
import Derived.Laws.Rows
import Derived.Deep.LoopGhost
import Derived.Laws.Bits64b
import Derived.RegionTactic
import Derived.ChangeAlike
import Derived.Deep.RegionWith
namespace Go.Proofs.Ytcplhalgjjhmdaa
open Go.RowKit

/-- The word of a number, as a value. -/
abbrev W (n : Nat) : Value := .agg #[.int .u64 (lb n 0), .int .u64 (lb n 1), .int .u64 (lb n 2), .int .u64 (lb n 3)]
/-- Its cells. -/
abbrev Wc (n : Nat) : Array Value := #[.int .u64 (lb n 0), .int .u64 (lb n 1), .int .u64 (lb n 2), .int .u64 (lb n 3)]
theorem natLb (n i : Nat) : ((n / B64 ^ i % B64 : Nat) : Int) = lb n i := rfl
theorem ix0 (x0 x1 x2 x3 : Value) (w : World) : (Instr.index 33 (.agg #[x0, x1, x2, x3]) (.int .i64 0)).run Try.prog w = .ok x0 w := by kernel_rfl
theorem ix1 (x0 x1 x2 x3 : Value) (w : World) : (Instr.index 33 (.agg #[x0, x1, x2, x3]) (.int .i64 1)).run Try.prog w = .ok x1 w := by kernel_rfl
theorem ix2 (x0 x1 x2 x3 : Value) (w : World) : (Instr.index 33 (.agg #[x0, x1, x2, x3]) (.int .i64 2)).run Try.prog w = .ok x2 w := by kernel_rfl
theorem ix3 (x0 x1 x2 x3 : Value) (w : World) : (Instr.index 33 (.agg #[x0, x1, x2, x3]) (.int .i64 3)).run Try.prog w = .ok x3 w := by kernel_rfl

attribute [local go_sem] ix0 ix1 ix2 ix3
theorem info_u64 : (Try.prog.info? 31).isSome = true := by kernel_rfl
theorem eqW_raw (t : TypeId) (ht : Try.prog.underlying t = some (.array 4 31)) (x y : Nat) (w : World) :
    (binOp .eql t (W x) (W y)).run Try.prog w = .ok (.bool (x % MM == y % MM)) w := by
  obtain ⟨i, hi⟩ := Option.isSome_iff_exists.1 info_u64
  have h := run_eql_ints ht (k := .u64) (by kernel_rfl) hi (by kernel_rfl) (Wc x) (Wc y) (lb x) (lb y)
    (fun j hj => by match j, hj with | 0, _ | 1, _ | 2, _ | 3, _ => exact ⟨rfl, rfl⟩) w
  rw [h]
  refine congrArg (fun b => Result.ok (Value.bool b) w) ?_
  rw [Bool.eq_iff_iff]
  simp only [List.all_eq_true, List.mem_range, beq_iff_eq]
  rw [← lb_eq_iff]
  exact ⟨fun h => ⟨h 0 (by omega), h 1 (by omega), h 2 (by omega), h 3 (by omega)⟩, fun h j hj => by match j, hj with | 0, _ => exact h.1 | 1, _ => exact h.2.1 | 2, _ => exact h.2.2.1 | 3, _ => exact h.2.2.2⟩
theorem eqW (x y : Nat) (w : World) : (binOp .eql 33 (W x) (W y)).run Try.prog w = .ok (.bool (x % MM == y % MM)) w := eqW_raw _ (by kernel_rfl) x y w
theorem bstep {w W w1 : World} (h : Below w.heap.size w W) (k : Below W.heap.size W w1) : Below w.heap.size w w1 := h.trans (k.mono h.size)
theorem balloc {w W : World} (h : Below w.heap.size w W) (o : Obj) : Below w.heap.size w (W.alloc o) := h.alloc h.size o
theorem mulN (a b : Nat) : (a : Int) * (b : Int) = ((a * b : Nat) : Int) := (Int.natCast_mul a b).symm
theorem wrapM (a : Nat) : IntKind.u64.wrap (a : Int) = ((a % 18446744073709551616 : Nat) : Int) := by rw [IntKind.wrap_u64]; omega
theorem grown_refl (w : World) (g : Nat) : w.grownBy w (some g) := ⟨rfl, rfl, rfl, Nat.le_refl _, fun _ _ _ => rfl⟩
theorem grown_set {w wr : World} {g : Nat} (h : w.grownBy wr (some g)) (k : Nat) (v : Value) : w.grownBy (wr.setCell ⟨g, k, none⟩ v).drew (some g) :=
  ⟨h.os, h.tape, h.output, by have := h.size; simp [World.drew, World.setCell]; exact this, fun i hi hne => (Below.heap_setCell wr ⟨g, k, none⟩ v i (fun e => hne (by rw [e]))).trans (h.block i hi hne)⟩

/-- A block of cells that may be written. -/
def Blk (X : World) (g : Nat) (t : TypeId) (cs : Array Value) : Prop := X.heap[g]? = some (.cells cs t (0, 0))
theorem Blk.kept {X Y : World} {row : Option Nat} {g : Nat} {t : TypeId} {cs : Array Value} (h : Blk X g t cs) (hg : X.grownBy Y row) (hne : some g ≠ row) : Blk Y g t cs :=
  (hg.block g (Array.getElem?_eq_some_iff.1 h).1 hne).trans h
theorem Blk.lt {X : World} {g : Nat} {t : TypeId} {cs : Array Value} (h : Blk X g t cs) : g < X.heap.size := (Array.getElem?_eq_some_iff.1 h).1
theorem Blk.alloc {X : World} {g : Nat} {t : TypeId} {cs : Array Value} (h : Blk X g t cs) (o : Obj) : Blk (X.alloc o) g t cs := (heap_alloc_old _ _ h.lt).trans h
theorem Blk.new (X : World) (t : TypeId) (cs : Array Value) : Blk (X.alloc (.cells cs t)) X.heap.size t cs := heap_alloc_new X _

theorem or_add (k a b : Nat) (hb : b < 2 ^ k) (hab : 2 ^ k * a + b < 18446744073709551616) : bits .or .u64 ((2 ^ k * a : Nat) : Int) (b : Int) = ((2 ^ k * a + b : Nat) : Int) := by
  rw [bits_or_u64_nat _ _ (by omega) (by omega), ← Nat.two_pow_add_eq_or_of_lt hb]
theorem wrap_mul (x c : Nat) : IntKind.u64.wrap ((x : Int) * (c : Int)) = ((x * c % 18446744073709551616 : Nat) : Int) := by rw [mulN, wrapM]
/-- A number that is moved up, with what comes from below. -/
theorem or_i (s c D i k : Nat) (hc : c = 2 ^ k) (hB : c * D = 18446744073709551616) (hi : 0 < c) : bits .or .u64 (IntKind.u64.wrap (lb s (i + 1) * (c : Int))) (lb s i / (D : Int)) = lb (s * c) (i + 1) := by
  have e := limb_mul s c D i (by unfold B64; exact hB.symm) hi
  unfold lb
  rw [e, wrap_mul, ← Int.natCast_ediv]
  have hD : 0 < D := by rcases Nat.eq_zero_or_pos D with h | h; · rw [h, Nat.mul_zero] at hB; omega
                        · exact h
  have hy : (s / B64 ^ i % B64) / D < c := by
    refine Nat.div_lt_of_lt_mul ?_
    have := Nat.mod_lt (s / B64 ^ i) B64_pos
    unfold B64 at *; rw [Nat.mul_comm, hB]; exact this
  have e5 : (s / B64 ^ (i + 1) % B64) * c % 18446744073709551616 = 2 ^ k * ((s / B64 ^ (i + 1) % B64) % D) := by
    rw [← hB, Nat.mul_comm _ c, Nat.mul_mod_mul_left, hc]
  have hu : (s / B64 ^ (i + 1) % B64) % D < D := Nat.mod_lt _ hD
  have e6 : (s / B64 ^ (i + 1) % B64) * c % B64 = 2 ^ k * ((s / B64 ^ (i + 1) % B64) % D) := e5
  rw [e5, e6]
  generalize (s / B64 ^ i % B64) / D = y at *
  generalize (s / B64 ^ (i + 1) % B64) % D = u at *
  refine or_add k u y (by rw [← hc]; exact hy) ?_
  rw [← hc]
  have : c * u + c ≤ c * D := by rw [← Nat.mul_succ]; exact Nat.mul_le_mul_left _ hu
  omega
theorem or_0 (s c D k : Nat) (hc : c = 2 ^ k) (hB : c * D = 18446744073709551616) (hi : 0 < c) : bits .or .u64 (IntKind.u64.wrap (lb s 0 * (c : Int))) 0 = lb (s * c) 0 := by
  have e := limb_mul0 s c
  unfold lb
  rw [e, wrap_mul]
  have hD : 0 < D := by rcases Nat.eq_zero_or_pos D with h | h; · rw [h, Nat.mul_zero] at hB; omega
                        · exact h
  have e5 : (s / B64 ^ 0 % B64) * c % 18446744073709551616 = 2 ^ k * ((s / B64 ^ 0 % B64) % D) := by
    rw [← hB, Nat.mul_comm _ c, Nat.mul_mod_mul_left, hc]
  have hu : (s / B64 ^ 0 % B64) % D < D := Nat.mod_lt _ hD
  have e6 : (s / B64 ^ 0 % B64) * c % B64 = 2 ^ k * ((s / B64 ^ 0 % B64) % D) := e5
  rw [e5, e6]
  generalize (s / B64 ^ 0 % B64) % D = u at *
  have h := or_add k u 0 (by rw [← hc]; exact hi) (by
    rw [← hc]
    have : c * u + c ≤ c * D := by rw [← Nat.mul_succ]; exact Nat.mul_le_mul_left _ hu
    omega)
  exact h
theorem grown_set' {w wr : World} {g : Nat} (h : w.grownBy wr (some g)) (k : Nat) (v : Value) : w.grownBy (wr.setCell ⟨g, k, none⟩ v) (some g) :=
  ⟨h.os, h.tape, h.output, by have := h.size; simp [World.setCell]; exact this, fun i hi hne => (Below.heap_setCell wr ⟨g, k, none⟩ v i (fun e => hne (by rw [e]))).trans (h.block i hi hne)⟩
theorem grown_trans {w X Y : World} {row : Option Nat} (h : w.grownBy X row) (k : X.grownBy Y row) : w.grownBy Y row :=
  ⟨k.os.trans h.os, k.tape.trans h.tape, k.output.trans h.output, Nat.le_trans h.size k.size, fun i hi hne => (k.block i (Nat.lt_of_lt_of_le hi h.size) hne).trans (h.block i hi hne)⟩
theorem grown_drew {w wr : World} {row : Option Nat} (h : w.grownBy wr row) : w.grownBy wr.drew row := ⟨h.os, h.tape, h.output, h.size, h.block⟩

theorem W_zero : W 0 = .agg #[.int .u64 0, .int .u64 0, .int .u64 0, .int .u64 0] := by unfold W; simp only [lb_zero]
/-- 32 cells of bytes, of which the lowest k are written. -/
def byC (a k : Nat) : Array Value := ((List.range 32).map fun p => Value.int .u8 (if 31 - p < k then ((byA a (31 - p) : Nat) : Int) else 0)).toArray
theorem byC_get (a k p : Nat) (hp : p < 32) : (byC a k)[p]? = some (.int .u8 (if 31 - p < k then ((byA a (31 - p) : Nat) : Int) else 0)) := by
  unfold byC; simp [hp]
theorem byC_size (a k : Nat) : (byC a k).size = 32 := by unfold byC; simp
theorem byC_set (a k : Nat) (hk : k < 32) : (byC a k).setIfInBounds (31 - k) (.int .u8 (byA a k : Nat)) = byC a (k + 1) := by
  apply Array.ext_getElem?
  intro p
  by_cases hp : p < 32
  · rw [Array.getElem?_setIfInBounds, byC_size, byC_get _ _ _ hp, byC_get _ _ _ hp]
    by_cases h : 31 - k = p
    · subst h
      rw [if_pos rfl, if_pos (by omega), if_pos (by omega), show 31 - (31 - k) = k from by omega]
    · rw [if_neg h]
      by_cases g : 31 - p < k
      · rw [if_pos g, if_pos (by omega)]
      · rw [if_neg g, if_neg (by omega)]
  · rw [Array.getElem?_eq_none (by rw [Array.size_setIfInBounds, byC_size]; omega), Array.getElem?_eq_none (by rw [byC_size]; omega)]
theorem byC_zero (a : Nat) : byC a 0 = #[.int .u8 0, .int .u8 0, .int .u8 0, .int .u8 0, .int .u8 0, .int .u8 0, .int .u8 0, .int .u8 0, .int .u8 0, .int .u8 0, .int .u8 0, .int .u8 0, .int .u8 0, .int .u8 0, .int .u8 0, .int .u8 0, .int .u8 0, .int .u8 0, .int .u8 0, .int .u8 0, .int .u8 0, .int .u8 0, .int .u8 0, .int .u8 0, .int .u8 0, .int .u8 0, .int .u8 0, .int .u8 0, .int .u8 0, .int .u8 0, .int .u8 0, .int .u8 0] := by
  unfold byC; simp only [Nat.not_lt_zero, if_false]; rfl

end Go.Proofs.Ytcplhalgjjhmdaa
