/- code: the ops in plain numbers, and the program's tables. -/
import Derived.Test.YtcdmaapjcckbmaaDoorGd
namespace Go.Proofs.YtcdmaapjcckbmaaDoor
open Go.RowKit Go.Shelf

/-- What an op has. -/
structure OI where
  nm : List UInt8
  i : Nat
  o : Nat
  g : Nat
  q : Bool
  z : Nat
deriving DecidableEq
def noOp : OI := ⟨[], 0, 0, 0, false, 0⟩
def oiC (x : OI) : Array Value := #[.string ⟨x.nm.toArray⟩, .int .i64 x.i, .int .i64 x.o, .int .u64 x.g, .bool x.q, .int .i64 x.z]
theorem oiC_size (x : OI) : (oiC x).size = 6 := rfl
def cpT : List (Nat × OI) := [(0, ⟨[83, 84, 79, 80], 0, 0, 0, false, 0⟩), (1, ⟨[65, 68, 68], 2, 1, 3, true, 0⟩), (2, ⟨[77, 85, 76], 2, 1, 5, true, 0⟩), (3, ⟨[83, 85, 66], 2, 1, 3, true, 0⟩), (4, ⟨[68, 73, 86], 2, 1, 5, true, 0⟩), (5, ⟨[83, 68, 73, 86], 2, 1, 5, true, 0⟩), (6, ⟨[77, 79, 68], 2, 1, 5, true, 0⟩), (7, ⟨[83, 77, 79, 68], 2, 1, 5, true, 0⟩), (8, ⟨[65, 68, 68, 77, 79, 68], 3, 1, 8, true, 0⟩), (9, ⟨[77, 85, 76, 77, 79, 68], 3, 1, 8, true, 0⟩), (10, ⟨[69, 88, 80], 2, 1, 10, false, 0⟩), (11, ⟨[83, 73, 71, 78, 69, 88, 84, 69, 78, 68], 2, 1, 5, true, 0⟩), (16, ⟨[76, 84], 2, 1, 3, true, 0⟩), (17, ⟨[71, 84], 2, 1, 3, true, 0⟩), (18, ⟨[83, 76, 84], 2, 1, 3, true, 0⟩), (19, ⟨[83, 71, 84], 2, 1, 3, true, 0⟩), (20, ⟨[69, 81], 2, 1, 3, true, 0⟩), (21, ⟨[73, 83, 90, 69, 82, 79], 1, 1, 3, true, 0⟩), (22, ⟨[65, 78, 68], 2, 1, 3, true, 0⟩), (23, ⟨[79, 82], 2, 1, 3, true, 0⟩), (24, ⟨[88, 79, 82], 2, 1, 3, true, 0⟩), (25, ⟨[78, 79, 84], 1, 1, 3, true, 0⟩), (26, ⟨[66, 89, 84, 69], 2, 1, 3, true, 0⟩), (27, ⟨[83, 72, 76], 2, 1, 3, true, 0⟩), (28, ⟨[83, 72, 82], 2, 1, 3, true, 0⟩), (29, ⟨[83, 65, 82], 2, 1, 3, true, 0⟩), (32, ⟨[75, 69, 67, 67, 65, 75, 50, 53, 54], 2, 1, 30, false, 0⟩)]
def cpO (n : Nat) : OI := (cpT.lookup n).getD noOp
def cpC : Array Value := ((List.range 256).flatMap fun n => (oiC (cpO n)).toList).toArray
def akT : List (Nat × OI) := [(48, ⟨[65, 68, 68, 82, 69, 83, 83], 0, 1, 2, true, 0⟩), (49, ⟨[66, 65, 76, 65, 78, 67, 69], 1, 1, 0, false, 0⟩), (50, ⟨[79, 82, 73, 71, 73, 78], 0, 1, 2, true, 0⟩), (51, ⟨[67, 65, 76, 76, 69, 82], 0, 1, 2, true, 0⟩), (52, ⟨[67, 65, 76, 76, 86, 65, 76, 85, 69], 0, 1, 2, true, 0⟩), (53, ⟨[67, 65, 76, 76, 68, 65, 84, 65, 76, 79, 65, 68], 1, 1, 3, false, 0⟩), (54, ⟨[67, 65, 76, 76, 68, 65, 84, 65, 83, 73, 90, 69], 0, 1, 2, true, 0⟩), (55, ⟨[67, 65, 76, 76, 68, 65, 84, 65, 67, 79, 80, 89], 3, 0, 3, false, 0⟩), (56, ⟨[67, 79, 68, 69, 83, 73, 90, 69], 0, 1, 2, true, 0⟩), (57, ⟨[67, 79, 68, 69, 67, 79, 80, 89], 3, 0, 3, false, 0⟩), (58, ⟨[71, 65, 83, 80, 82, 73, 67, 69], 0, 1, 2, true, 0⟩), (59, ⟨[69, 88, 84, 67, 79, 68, 69, 83, 73, 90, 69], 1, 1, 0, false, 0⟩), (60, ⟨[69, 88, 84, 67, 79, 68, 69, 67, 79, 80, 89], 4, 0, 0, false, 0⟩), (61, ⟨[82, 69, 84, 85, 82, 78, 68, 65, 84, 65, 83, 73, 90, 69], 0, 1, 2, true, 0⟩), (62, ⟨[82, 69, 84, 85, 82, 78, 68, 65, 84, 65, 67, 79, 80, 89], 3, 0, 3, false, 0⟩), (63, ⟨[69, 88, 84, 67, 79, 68, 69, 72, 65, 83, 72], 1, 1, 0, false, 0⟩), (64, ⟨[66, 76, 79, 67, 75, 72, 65, 83, 72], 1, 1, 20, false, 0⟩), (65, ⟨[67, 79, 73, 78, 66, 65, 83, 69], 0, 1, 2, true, 0⟩), (66, ⟨[84, 73, 77, 69, 83, 84, 65, 77, 80], 0, 1, 2, true, 0⟩), (67, ⟨[78, 85, 77, 66, 69, 82], 0, 1, 2, true, 0⟩), (68, ⟨[80, 82, 69, 86, 82, 65, 78, 68, 65, 79], 0, 1, 2, true, 0⟩), (69, ⟨[71, 65, 83, 76, 73, 77, 73, 84], 0, 1, 2, true, 0⟩), (70, ⟨[67, 72, 65, 73, 78, 73, 68], 0, 1, 2, true, 0⟩), (71, ⟨[83, 69, 76, 70, 66, 65, 76, 65, 78, 67, 69], 0, 1, 5, false, 0⟩), (72, ⟨[66, 65, 83, 69, 70, 69, 69], 0, 1, 2, true, 0⟩)]
def akO (n : Nat) : OI := (akT.lookup n).getD noOp
def akC : Array Value := ((List.range 256).flatMap fun n => (oiC (akO n)).toList).toArray
def dnT : List (Nat × OI) := [(80, ⟨[80, 79, 80], 1, 0, 2, true, 0⟩), (81, ⟨[77, 76, 79, 65, 68], 1, 1, 3, false, 0⟩), (82, ⟨[77, 83, 84, 79, 82, 69], 2, 0, 3, false, 0⟩), (83, ⟨[77, 83, 84, 79, 82, 69, 56], 2, 0, 3, false, 0⟩), (84, ⟨[83, 76, 79, 65, 68], 1, 1, 0, false, 0⟩), (85, ⟨[83, 83, 84, 79, 82, 69], 2, 0, 0, false, 0⟩), (86, ⟨[74, 85, 77, 80], 1, 0, 8, false, 0⟩), (87, ⟨[74, 85, 77, 80, 73], 2, 0, 10, false, 0⟩), (88, ⟨[80, 67], 0, 1, 2, true, 0⟩), (89, ⟨[77, 83, 73, 90, 69], 0, 1, 2, true, 0⟩), (90, ⟨[71, 65, 83], 0, 1, 2, false, 0⟩), (91, ⟨[74, 85, 77, 80, 68, 69, 83, 84], 0, 0, 1, true, 0⟩), (95, ⟨[80, 85, 83, 72, 48], 0, 1, 2, true, 0⟩), (240, ⟨[67, 82, 69, 65, 84, 69], 3, 1, 32000, false, 0⟩), (241, ⟨[67, 65, 76, 76], 7, 1, 0, false, 0⟩), (242, ⟨[67, 65, 76, 76, 67, 79, 68, 69], 7, 1, 0, false, 0⟩), (243, ⟨[82, 69, 84, 85, 82, 78], 2, 0, 0, false, 0⟩), (244, ⟨[68, 69, 76, 69, 71, 65, 84, 69, 67, 65, 76, 76], 6, 1, 0, false, 0⟩), (245, ⟨[67, 82, 69, 65, 84, 69, 50], 4, 1, 32000, false, 0⟩), (250, ⟨[83, 84, 65, 84, 73, 67, 67, 65, 76, 76], 6, 1, 0, false, 0⟩), (253, ⟨[82, 69, 86, 69, 82, 84], 2, 0, 0, false, 0⟩), (254, ⟨[73, 78, 86, 65, 76, 73, 68], 0, 0, 0, false, 0⟩), (255, ⟨[83, 69, 76, 70, 68, 69, 83, 84, 82, 85, 67, 84], 1, 0, 5000, false, 0⟩)]
def dnO (n : Nat) : OI := (dnT.lookup n).getD noOp
def dnC : Array Value := ((List.range 256).flatMap fun n => (oiC (dnO n)).toList).toArray
def alO (n : Nat) : OI := if n < 48 then cpO n else if n < 80 then akO n else dnO n
noncomputable def oiFs : Array Field := match Tryd.prog.underlying 25 with
  | some (.struct fs) => fs
  | _ => #[]
theorem undOI : Tryd.prog.underlying 25 = some (.struct oiFs) := by kernel_rfl
theorem szOI : (Tryd.prog.info? 25).map (·.size) = some 6 := by kernel_rfl
theorem flat_take (f : Nat → List Value) (c : Nat) (hf : ∀ n, (f n).length = c) : ∀ (m k : Nat), k < m → (((List.range m).flatMap f).drop (k * c)).take c = f k := by
  intro m
  induction m with
  | zero => intro k hk; omega
  | succ m ih =>
    intro k hk
    have hl : ∀ j, ((List.range j).flatMap f).length = j * c := by
      intro j
      induction j with
      | zero => simp
      | succ j ihj => rw [List.range_succ, List.flatMap_append, List.length_append, ihj]; simp [hf, Nat.succ_mul]
    rw [List.range_succ, List.flatMap_append]
    by_cases h : k < m
    · rw [List.drop_append_of_le_length (by rw [hl]; exact Nat.mul_le_mul_right c (by omega)), List.take_append_of_le_length, ih k h]
      rw [List.length_drop, hl]
      have : (k + 1) * c ≤ m * c := Nat.mul_le_mul_right c (by omega)
      rw [Nat.succ_mul] at this
      omega
    · obtain rfl : k = m := by omega
      rw [show k * c = ((List.range k).flatMap f).length from (hl k).symm, List.drop_left]
      simp [← hf k]
theorem flat_extract (f : Nat → OI) (n : Nat) (hn : n < 256) : (((List.range 256).flatMap fun n => (oiC (f n)).toList).toArray).extract (n * 6) (n * 6 + 6) = oiC (f n) := by
  apply Array.toList_inj.1
  rw [Array.toList_extract]
  simp only [List.extract_eq_take_drop, Nat.add_sub_cancel_left]
  exact flat_take (fun n => (oiC (f n)).toList) 6 (fun _ => rfl) 256 n hn
theorem undT : Tryd.prog.underlying 106 = some (.array 256 25) := by kernel_rfl
theorem infoOI : (Tryd.prog.info? 25).map (fun i => (i.zero, i.size, i.bytes)) = some (some (.agg #[.string ⟨#[]⟩, .int .i64 0, .int .i64 0, .int .u64 0, .bool false, .int .i64 0]), 6, 56) := by kernel_rfl
theorem part_oi (cs : Array Value) (o : Nat) (w : World) : (part 25 cs o).run Tryd.prog w = .ok (.agg (cs.extract o (o + 6))) w := by kernel_rfl
theorem index_tab (f : Nat → OI) (n : Nat) (hn : n < 256) (w : World) : (Instr.index 106 (.agg ((List.range 256).flatMap fun n => (oiC (f n)).toList).toArray) (.int .u8 n)).run Tryd.prog w = .ok (.agg (oiC (f n))) w := by
  have h2 : (n : Int) < 256 := by omega
  have hp : (part 25 (((List.range 256).flatMap fun n => (oiC (f n)).toList).toArray) (n * 6)).run Tryd.prog w = .ok (.agg (oiC (f n))) w := by
    rw [← flat_extract f n hn]
    exact part_oi _ _ w
  unfold Instr.index
  simp only [run_underlying undT, asIntOf, Sem.run_bind, Sem.run_pure, Result.andThen_ok]
  rw [if_pos (by omega)]
  simp [hp]
end Go.Proofs.YtcdmaapjcckbmaaDoor
