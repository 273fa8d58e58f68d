/- digest: read. -/
import Derived.Test.YtjmfnafbjfceoaaDoorKj
namespace Go.Proofs.YtjmfnafbjfceoaaDoor
open Go.RowKit
attribute [local irreducible] ln rot
/-- Bytes as cells. -/
def Bc (n : Nat) (b : Nat → Nat) : Array Value := ((List.range n).map fun p => Value.int .u8 (b p : Nat)).toArray
theorem Bc_size (n : Nat) (b : Nat → Nat) : (Bc n b).size = n := by unfold Bc; simp
theorem Bc_get (n : Nat) (b : Nat → Nat) (p : Nat) (hp : p < n) : (Bc n b)[p]? = some (.int .u8 (b p : Nat)) := by unfold Bc; simp [hp]
theorem Bc_one (n : Nat) (b : Nat → Nat) : (Bc n b).all (·.oneCell') = true := by
  rw [Array.all_eq_true_iff_forall_mem]
  intro v hv
  unfold Bc at hv
  simp only [List.mem_toArray, List.mem_map] at hv
  obtain ⟨p, _, rfl⟩ := hv
  rfl
/-- One of a row's cells, each of which has one. -/
theorem index_any {P : Program} (T e : TypeId) (n : Nat) (cs : Array Value) (k : Nat) (v : Value) (hk : k < n) (hv : cs[k]? = some v)
    (hu : P.underlying T = some (.array n e)) (hs : ∀ w, (sizeOf e).run P w = .ok 1 w) (hag : ∀ w, (isAgg e).run P w = .ok false w) (w : World) :
    (Instr.index T (.agg cs) (.int .i64 k)).run P w = .ok v w := by
  unfold Instr.index
  simp only [asIntOf, Sem.run_bind, Sem.run_pure, Result.andThen_ok, run_underlying hu]
  rw [if_pos ⟨by omega, by omega⟩]
  simp only [Sem.run_bind, hs, Result.andThen_ok]
  unfold part
  simp [hag, hv]
/-- Numbers of bytes, the first k of which are laid on. -/
def blP (b : Nat → Nat) : Nat → Nat → Ln
  | 0 => fun _ => 0#64
  | k + 1 => upd (blP b k) (k / 8) (blP b k (k / 8) ||| BitVec.ofNat 64 (b k * 2 ^ (k % 8 * 8)))
theorem z17 : Fc 17 (fun _ => 0#64) = #[.int .u64 0, .int .u64 0, .int .u64 0, .int .u64 0, .int .u64 0, .int .u64 0, .int .u64 0, .int .u64 0, .int .u64 0, .int .u64 0, .int .u64 0, .int .u64 0, .int .u64 0, .int .u64 0, .int .u64 0, .int .u64 0, .int .u64 0] := by kernel_rfl
attribute [local go_sem] uv_or
end Go.Proofs.YtjmfnafbjfceoaaDoor
