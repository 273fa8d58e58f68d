/- Layer word: what the carrying sum and difference of the library come to, likeness of words, and the small functions. -/
import Derived.Test.YtcdmaapjcckbmaaDoorRows
import Derived.Test.YtcdmaapjcckbmaaDoorWmath
import Derived.Test.YtcdmaapjcckbmaaDoorWlaw
import Derived.WalkKit
import Derived.WalkSpells
import Derived.WalkLawsBesides
import Derived.Lib.Hide
import Derived.Deep.QuietTactic
import Derived.BigQuiet
namespace Go.Proofs.YtcdmaapjcckbmaaDoor
open Go.RowKit

/-- The word of a number, as a value. -/
abbrev W (n : Nat) : Value := .agg #[.int .u64 (lb n 0), .int .u64 (lb n 1), .int .u64 (lb n 2), .int .u64 (lb n 3)]
/-- Its cells. -/
abbrev Wc (n : Nat) : Array Value := #[.int .u64 (lb n 0), .int .u64 (lb n 1), .int .u64 (lb n 2), .int .u64 (lb n 3)]

theorem natLb (n i : Nat) : ((n / B64 ^ i % B64 : Nat) : Int) = lb n i := rfl

theorem add64_i (a b i : Nat) (w : World) :
    (callFunc 86 #[.int .u64 (lb a i), .int .u64 (lb b i), .int .u64 (cy a b i)]).run Tryd.prog w =
      .ok (.value (.tuple #[.int .u64 (lb (a + b) i), .int .u64 (cy a b (i + 1))])) w := by
  have hc : 0 ≤ cy a b i ∧ cy a b i ≤ 1 := ⟨Int.natCast_nonneg _, by have := cy_le a b i; unfold cy; exact Int.ofNat_le.2 this⟩
  rw [run_callFunc_extern (fn := Tryd.f86) (by kernel_rfl) (by kernel_rfl) (by kernel_rfl) (by kernel_rfl) (e := add64Entry) (by kernel_rfl), run_add64 _ _ _ (lb_nonneg _ _) (lb_nonneg _ _) hc.1 hc.2]
  simp only [Result.andThen]
  have h1 : (lb a i + lb b i + cy a b i) % 18446744073709551616 = lb (a + b) i := by
    unfold lb cy; rw [← lb_add a b i]; simp only [Int.natCast_emod, Int.natCast_add]; rfl
  have h2 : (lb a i + lb b i + cy a b i) / 18446744073709551616 = cy a b (i + 1) := by
    unfold lb cy; rw [← cy_add a b i]; simp only [Int.natCast_ediv, Int.natCast_add]; rfl
  rw [h1, h2]

theorem add64_0 (a b : Nat) (w : World) :
    (callFunc 86 #[.int .u64 (lb a 0), .int .u64 (lb b 0), .int .u64 0]).run Tryd.prog w =
      .ok (.value (.tuple #[.int .u64 (lb (a + b) 0), .int .u64 (cy a b 1)])) w := by
  have h := add64_i a b 0 w
  rwa [cy_zero] at h

theorem ix0 (x0 x1 x2 x3 : Value) (w : World) : (Instr.index 40 (.agg #[x0, x1, x2, x3]) (.int .i64 0)).run Tryd.prog w = .ok x0 w := by kernel_rfl
theorem ix1 (x0 x1 x2 x3 : Value) (w : World) : (Instr.index 40 (.agg #[x0, x1, x2, x3]) (.int .i64 1)).run Tryd.prog w = .ok x1 w := by kernel_rfl
theorem ix2 (x0 x1 x2 x3 : Value) (w : World) : (Instr.index 40 (.agg #[x0, x1, x2, x3]) (.int .i64 2)).run Tryd.prog w = .ok x2 w := by kernel_rfl
theorem ix3 (x0 x1 x2 x3 : Value) (w : World) : (Instr.index 40 (.agg #[x0, x1, x2, x3]) (.int .i64 3)).run Tryd.prog w = .ok x3 w := by kernel_rfl
attribute [local go_sem] ix0 ix1 ix2 ix3
theorem of_any (n : Nat) (h : n < B64) (w : World) :
    Calls Tryd.prog 66 #[.int .u64 n] w fun e w' => e = .returned (W n) ∧ Below w.heap.size w w' := by
  have h0 : (n : Int) = lb n 0 := by unfold lb; rw [Nat.pow_zero, Nat.div_one, Nat.mod_eq_of_lt h]
  have h1 : lb n 1 = 0 := by unfold lb; rw [Nat.div_eq_of_lt (by rw [Nat.pow_one]; exact h)]; rfl
  have h2 : lb n 2 = 0 := by unfold lb; rw [Nat.div_eq_of_lt (by unfold B64 at *; omega)]; rfl
  have h3 : lb n 3 = 0 := by unfold lb; rw [Nat.div_eq_of_lt (by unfold B64 at *; omega)]; rfl
  have e : W n = .agg #[.int .u64 n, .int .u64 0, .int .u64 0, .int .u64 0] := by unfold W; rw [h1, h2, h3, ← h0]
  clear h0 h1 h2 h3
  rw [e]; clear e
  go_enter Tryd.func66, Tryd.ntmps66
  go_wp2
  exact bodyPost_ret (v := .agg #[.int .u64 n, .int .u64 0, .int .u64 0, .int .u64 0]) (by simp [results, Tryd.results66, go_sem]) rfl ⟨rfl, (Below.refl _ _).alloc (Nat.le_refl _) _⟩

theorem info_u64 : (Tryd.prog.info? 23).isSome = true := by kernel_rfl
theorem eqW_raw (t : TypeId) (ht : Tryd.prog.underlying t = some (.array 4 23)) (x y : Nat) (w : World) :
    (binOp .eql t (W x) (W y)).run Tryd.prog w = .ok (.bool (x % MM == y % MM)) w := by
  obtain ⟨i, hi⟩ := Option.isSome_iff_exists.1 info_u64
  have h := run_eql_ints ht (k := .u64) (by kernel_rfl) hi (by kernel_rfl) (Wc x) (Wc y) (lb x) (lb y)
    (fun j hj => by match j, hj with | 0, _ | 1, _ | 2, _ | 3, _ => exact ⟨rfl, rfl⟩) w
  rw [h]
  refine congrArg (fun b => Result.ok (Value.bool b) w) ?_
  rw [Bool.eq_iff_iff]
  simp only [List.all_eq_true, List.mem_range, beq_iff_eq]
  rw [← lb_eq_iff]
  exact ⟨fun h => ⟨h 0 (by omega), h 1 (by omega), h 2 (by omega), h 3 (by omega)⟩, fun h j hj => by match j, hj with | 0, _ => exact h.1 | 1, _ => exact h.2.1 | 2, _ => exact h.2.2.1 | 3, _ => exact h.2.2.2⟩
theorem eqW (x y : Nat) (w : World) : (binOp .eql 40 (W x) (W y)).run Tryd.prog w = .ok (.bool (x % MM == y % MM)) w := eqW_raw _ (by kernel_rfl) x y w

theorem bstep {w W w1 : World} (h : Below w.heap.size w W) (k : Below W.heap.size W w1) : Below w.heap.size w w1 := h.trans (k.mono h.size)
theorem balloc {w W : World} (h : Below w.heap.size w W) (o : Obj) : Below w.heap.size w (W.alloc o) := h.alloc h.size o

end Go.Proofs.YtcdmaapjcckbmaaDoor
