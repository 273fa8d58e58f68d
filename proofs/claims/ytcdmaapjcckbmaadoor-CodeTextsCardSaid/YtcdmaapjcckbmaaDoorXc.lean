/- code: the tables' functions. -/
import Derived.Test.YtcdmaapjcckbmaaDoorXb
import Derived.Deep.RegionHeld
import Derived.Deep.Cut
namespace Go.Proofs.YtcdmaapjcckbmaaDoor
open Go.RowKit Go.Shelf

theorem wp_build_run {P : Program} {w : World} {o : Oper} {a : Act} {K : Act → World → Prop} {Q : Exit → Act → World → Prop} (t : TypeId) (parts : Array (Nat × Operand)) (ho : o.op = .build t parts) (vs : Array (Nat × Value)) (hv : (parts.map fun (i, x) => (i, a.eval x)) = vs)
    {v : Value} (hr : (Instr.build t vs).run P w = .ok v w) (hK : K (a.put o.dst v) w) : Oper.wp P o a w K Q := by
  unfold Oper.wp execOp
  simp only [ho, hv, Sem.run_bind, hr, Result.andThen_ok, Sem.run_pure]
  exact hK
theorem wp_index_run {P : Program} {w : World} {o : Oper} {a : Act} {K : Act → World → Prop} {Q : Exit → Act → World → Prop} (t : TypeId) (x i : Operand) (ho : o.op = .index t x i) (vx vi : Value) (hx : a.eval x = vx) (hi : a.eval i = vi)
    {v : Value} (hr : (Instr.index t vx vi).run P w = .ok v w) (hK : K (a.put o.dst v) w) : Oper.wp P o a w K Q := by
  unfold Oper.wp execOp
  simp only [ho, hx, hi, Sem.run_bind, hr, Result.andThen_ok, Sem.run_pure]
  exact hK
set_option maxRecDepth 100000 in
set_option maxHeartbeats 4000000 in
theorem computing_any (n : Nat) (hn : n < 256) (w : World) : Calls Tryd.prog 55 #[.int .u8 n] w fun e w' => e = .returned (.agg (oiC (cpO n))) ∧ Below w.heap.size w w' := by
  have hI := index_tab cpO n hn
  have hB := build_cp
  rw [show ((List.range 256).flatMap fun n => (oiC (cpO n)).toList).toArray = cpC from rfl] at hI
  generalize cpC = C at hI hB
  generalize hE : oiC (cpO n) = E at hI ⊢
  obtain ⟨x0, x1, x2, x3, x4, x5, hE6⟩ : ∃ x0 x1 x2 x3 x4 x5, E = #[.string x0, .int .i64 x1, .int .i64 x2, .int .u64 x3, .bool x4, .int .i64 x5] := ⟨_, _, _, _, _, _, hE.symm⟩
  rw [hE6] at hI ⊢
  clear hn hE hE6
  go_enter Tryd.func55, Tryd.ntmps55
  go_upto_region 1 with fail
  refine wp_region_lit ?_
  refine wpList_plain rfl fun K hK => ?_
  refine wp_build_run 25 _ rfl #[(0, .string ⟨#[83, 84, 79, 80]⟩)] (by simp only [List.map_toArray, List.map_cons, List.map_nil]; rfl) (v := .agg #[.string ⟨#[83, 84, 79, 80]⟩, .int .i64 0, .int .i64 0, .int .u64 0, .bool false, .int .i64 0]) (by kernel_rfl) ?_
  go_simp
  refine hK _ _ ?_
  clear hK K
  refine wpList_plain rfl fun K hK => ?_
  refine wp_build_run 25 _ rfl #[(0, .string ⟨#[65, 68, 68]⟩), (1, .int .i64 2), (2, .int .i64 1), (3, .int .u64 3), (4, .bool true)] (by simp only [List.map_toArray, List.map_cons, List.map_nil]; rfl) (v := .agg #[.string ⟨#[65, 68, 68]⟩, .int .i64 2, .int .i64 1, .int .u64 3, .bool true, .int .i64 0]) (by kernel_rfl) ?_
  go_simp
  refine hK _ _ ?_
  clear hK K
  refine wpList_plain rfl fun K hK => ?_
  refine wp_build_run 25 _ rfl #[(0, .string ⟨#[77, 85, 76]⟩), (1, .int .i64 2), (2, .int .i64 1), (3, .int .u64 5), (4, .bool true)] (by simp only [List.map_toArray, List.map_cons, List.map_nil]; rfl) (v := .agg #[.string ⟨#[77, 85, 76]⟩, .int .i64 2, .int .i64 1, .int .u64 5, .bool true, .int .i64 0]) (by kernel_rfl) ?_
  go_simp
  refine hK _ _ ?_
  clear hK K
  refine wpList_plain rfl fun K hK => ?_
  refine wp_build_run 25 _ rfl #[(0, .string ⟨#[83, 85, 66]⟩), (1, .int .i64 2), (2, .int .i64 1), (3, .int .u64 3), (4, .bool true)] (by simp only [List.map_toArray, List.map_cons, List.map_nil]; rfl) (v := .agg #[.string ⟨#[83, 85, 66]⟩, .int .i64 2, .int .i64 1, .int .u64 3, .bool true, .int .i64 0]) (by kernel_rfl) ?_
  go_simp
  refine hK _ _ ?_
  clear hK K
  refine wpList_plain rfl fun K hK => ?_
  refine wp_build_run 25 _ rfl #[(0, .string ⟨#[68, 73, 86]⟩), (1, .int .i64 2), (2, .int .i64 1), (3, .int .u64 5), (4, .bool true)] (by simp only [List.map_toArray, List.map_cons, List.map_nil]; rfl) (v := .agg #[.string ⟨#[68, 73, 86]⟩, .int .i64 2, .int .i64 1, .int .u64 5, .bool true, .int .i64 0]) (by kernel_rfl) ?_
  go_simp
  refine hK _ _ ?_
  clear hK K
  refine wpList_plain rfl fun K hK => ?_
  refine wp_build_run 25 _ rfl #[(0, .string ⟨#[83, 68, 73, 86]⟩), (1, .int .i64 2), (2, .int .i64 1), (3, .int .u64 5), (4, .bool true)] (by simp only [List.map_toArray, List.map_cons, List.map_nil]; rfl) (v := .agg #[.string ⟨#[83, 68, 73, 86]⟩, .int .i64 2, .int .i64 1, .int .u64 5, .bool true, .int .i64 0]) (by kernel_rfl) ?_
  go_simp
  refine hK _ _ ?_
  clear hK K
  refine wpList_plain rfl fun K hK => ?_
  refine wp_build_run 25 _ rfl #[(0, .string ⟨#[77, 79, 68]⟩), (1, .int .i64 2), (2, .int .i64 1), (3, .int .u64 5), (4, .bool true)] (by simp only [List.map_toArray, List.map_cons, List.map_nil]; rfl) (v := .agg #[.string ⟨#[77, 79, 68]⟩, .int .i64 2, .int .i64 1, .int .u64 5, .bool true, .int .i64 0]) (by kernel_rfl) ?_
  go_simp
  refine hK _ _ ?_
  clear hK K
  refine wpList_plain rfl fun K hK => ?_
  refine wp_build_run 25 _ rfl #[(0, .string ⟨#[83, 77, 79, 68]⟩), (1, .int .i64 2), (2, .int .i64 1), (3, .int .u64 5), (4, .bool true)] (by simp only [List.map_toArray, List.map_cons, List.map_nil]; rfl) (v := .agg #[.string ⟨#[83, 77, 79, 68]⟩, .int .i64 2, .int .i64 1, .int .u64 5, .bool true, .int .i64 0]) (by kernel_rfl) ?_
  go_simp
  refine hK _ _ ?_
  clear hK K
  refine wpList_plain rfl fun K hK => ?_
  refine wp_build_run 25 _ rfl #[(0, .string ⟨#[65, 68, 68, 77, 79, 68]⟩), (1, .int .i64 3), (2, .int .i64 1), (3, .int .u64 8), (4, .bool true)] (by simp only [List.map_toArray, List.map_cons, List.map_nil]; rfl) (v := .agg #[.string ⟨#[65, 68, 68, 77, 79, 68]⟩, .int .i64 3, .int .i64 1, .int .u64 8, .bool true, .int .i64 0]) (by kernel_rfl) ?_
  go_simp
  refine hK _ _ ?_
  clear hK K
  refine wpList_plain rfl fun K hK => ?_
  refine wp_build_run 25 _ rfl #[(0, .string ⟨#[77, 85, 76, 77, 79, 68]⟩), (1, .int .i64 3), (2, .int .i64 1), (3, .int .u64 8), (4, .bool true)] (by simp only [List.map_toArray, List.map_cons, List.map_nil]; rfl) (v := .agg #[.string ⟨#[77, 85, 76, 77, 79, 68]⟩, .int .i64 3, .int .i64 1, .int .u64 8, .bool true, .int .i64 0]) (by kernel_rfl) ?_
  go_simp
  refine hK _ _ ?_
  clear hK K
  refine wpList_plain rfl fun K hK => ?_
  refine wp_build_run 25 _ rfl #[(0, .string ⟨#[69, 88, 80]⟩), (1, .int .i64 2), (2, .int .i64 1), (3, .int .u64 10)] (by simp only [List.map_toArray, List.map_cons, List.map_nil]; rfl) (v := .agg #[.string ⟨#[69, 88, 80]⟩, .int .i64 2, .int .i64 1, .int .u64 10, .bool false, .int .i64 0]) (by kernel_rfl) ?_
  go_simp
  refine hK _ _ ?_
  clear hK K
  refine wpList_plain rfl fun K hK => ?_
  refine wp_build_run 25 _ rfl #[(0, .string ⟨#[83, 73, 71, 78, 69, 88, 84, 69, 78, 68]⟩), (1, .int .i64 2), (2, .int .i64 1), (3, .int .u64 5), (4, .bool true)] (by simp only [List.map_toArray, List.map_cons, List.map_nil]; rfl) (v := .agg #[.string ⟨#[83, 73, 71, 78, 69, 88, 84, 69, 78, 68]⟩, .int .i64 2, .int .i64 1, .int .u64 5, .bool true, .int .i64 0]) (by kernel_rfl) ?_
  go_simp
  refine hK _ _ ?_
  clear hK K
  refine wpList_plain rfl fun K hK => ?_
  refine wp_build_run 25 _ rfl #[(0, .string ⟨#[76, 84]⟩), (1, .int .i64 2), (2, .int .i64 1), (3, .int .u64 3), (4, .bool true)] (by simp only [List.map_toArray, List.map_cons, List.map_nil]; rfl) (v := .agg #[.string ⟨#[76, 84]⟩, .int .i64 2, .int .i64 1, .int .u64 3, .bool true, .int .i64 0]) (by kernel_rfl) ?_
  go_simp
  refine hK _ _ ?_
  clear hK K
  refine wpList_plain rfl fun K hK => ?_
  refine wp_build_run 25 _ rfl #[(0, .string ⟨#[71, 84]⟩), (1, .int .i64 2), (2, .int .i64 1), (3, .int .u64 3), (4, .bool true)] (by simp only [List.map_toArray, List.map_cons, List.map_nil]; rfl) (v := .agg #[.string ⟨#[71, 84]⟩, .int .i64 2, .int .i64 1, .int .u64 3, .bool true, .int .i64 0]) (by kernel_rfl) ?_
  go_simp
  refine hK _ _ ?_
  clear hK K
  refine wpList_plain rfl fun K hK => ?_
  refine wp_build_run 25 _ rfl #[(0, .string ⟨#[83, 76, 84]⟩), (1, .int .i64 2), (2, .int .i64 1), (3, .int .u64 3), (4, .bool true)] (by simp only [List.map_toArray, List.map_cons, List.map_nil]; rfl) (v := .agg #[.string ⟨#[83, 76, 84]⟩, .int .i64 2, .int .i64 1, .int .u64 3, .bool true, .int .i64 0]) (by kernel_rfl) ?_
  go_simp
  refine hK _ _ ?_
  clear hK K
  refine wpList_plain rfl fun K hK => ?_
  refine wp_build_run 25 _ rfl #[(0, .string ⟨#[83, 71, 84]⟩), (1, .int .i64 2), (2, .int .i64 1), (3, .int .u64 3), (4, .bool true)] (by simp only [List.map_toArray, List.map_cons, List.map_nil]; rfl) (v := .agg #[.string ⟨#[83, 71, 84]⟩, .int .i64 2, .int .i64 1, .int .u64 3, .bool true, .int .i64 0]) (by kernel_rfl) ?_
  go_simp
  refine hK _ _ ?_
  clear hK K
  refine wpList_plain rfl fun K hK => ?_
  refine wp_build_run 25 _ rfl #[(0, .string ⟨#[69, 81]⟩), (1, .int .i64 2), (2, .int .i64 1), (3, .int .u64 3), (4, .bool true)] (by simp only [List.map_toArray, List.map_cons, List.map_nil]; rfl) (v := .agg #[.string ⟨#[69, 81]⟩, .int .i64 2, .int .i64 1, .int .u64 3, .bool true, .int .i64 0]) (by kernel_rfl) ?_
  go_simp
  refine hK _ _ ?_
  clear hK K
  refine wpList_plain rfl fun K hK => ?_
  refine wp_build_run 25 _ rfl #[(0, .string ⟨#[73, 83, 90, 69, 82, 79]⟩), (1, .int .i64 1), (2, .int .i64 1), (3, .int .u64 3), (4, .bool true)] (by simp only [List.map_toArray, List.map_cons, List.map_nil]; rfl) (v := .agg #[.string ⟨#[73, 83, 90, 69, 82, 79]⟩, .int .i64 1, .int .i64 1, .int .u64 3, .bool true, .int .i64 0]) (by kernel_rfl) ?_
  go_simp
  refine hK _ _ ?_
  clear hK K
  refine wpList_plain rfl fun K hK => ?_
  refine wp_build_run 25 _ rfl #[(0, .string ⟨#[65, 78, 68]⟩), (1, .int .i64 2), (2, .int .i64 1), (3, .int .u64 3), (4, .bool true)] (by simp only [List.map_toArray, List.map_cons, List.map_nil]; rfl) (v := .agg #[.string ⟨#[65, 78, 68]⟩, .int .i64 2, .int .i64 1, .int .u64 3, .bool true, .int .i64 0]) (by kernel_rfl) ?_
  go_simp
  refine hK _ _ ?_
  clear hK K
  refine wpList_plain rfl fun K hK => ?_
  refine wp_build_run 25 _ rfl #[(0, .string ⟨#[79, 82]⟩), (1, .int .i64 2), (2, .int .i64 1), (3, .int .u64 3), (4, .bool true)] (by simp only [List.map_toArray, List.map_cons, List.map_nil]; rfl) (v := .agg #[.string ⟨#[79, 82]⟩, .int .i64 2, .int .i64 1, .int .u64 3, .bool true, .int .i64 0]) (by kernel_rfl) ?_
  go_simp
  refine hK _ _ ?_
  clear hK K
  refine wpList_plain rfl fun K hK => ?_
  refine wp_build_run 25 _ rfl #[(0, .string ⟨#[88, 79, 82]⟩), (1, .int .i64 2), (2, .int .i64 1), (3, .int .u64 3), (4, .bool true)] (by simp only [List.map_toArray, List.map_cons, List.map_nil]; rfl) (v := .agg #[.string ⟨#[88, 79, 82]⟩, .int .i64 2, .int .i64 1, .int .u64 3, .bool true, .int .i64 0]) (by kernel_rfl) ?_
  go_simp
  refine hK _ _ ?_
  clear hK K
  refine wpList_plain rfl fun K hK => ?_
  refine wp_build_run 25 _ rfl #[(0, .string ⟨#[78, 79, 84]⟩), (1, .int .i64 1), (2, .int .i64 1), (3, .int .u64 3), (4, .bool true)] (by simp only [List.map_toArray, List.map_cons, List.map_nil]; rfl) (v := .agg #[.string ⟨#[78, 79, 84]⟩, .int .i64 1, .int .i64 1, .int .u64 3, .bool true, .int .i64 0]) (by kernel_rfl) ?_
  go_simp
  refine hK _ _ ?_
  clear hK K
  refine wpList_plain rfl fun K hK => ?_
  refine wp_build_run 25 _ rfl #[(0, .string ⟨#[66, 89, 84, 69]⟩), (1, .int .i64 2), (2, .int .i64 1), (3, .int .u64 3), (4, .bool true)] (by simp only [List.map_toArray, List.map_cons, List.map_nil]; rfl) (v := .agg #[.string ⟨#[66, 89, 84, 69]⟩, .int .i64 2, .int .i64 1, .int .u64 3, .bool true, .int .i64 0]) (by kernel_rfl) ?_
  go_simp
  refine hK _ _ ?_
  clear hK K
  refine wpList_plain rfl fun K hK => ?_
  refine wp_build_run 25 _ rfl #[(0, .string ⟨#[83, 72, 76]⟩), (1, .int .i64 2), (2, .int .i64 1), (3, .int .u64 3), (4, .bool true)] (by simp only [List.map_toArray, List.map_cons, List.map_nil]; rfl) (v := .agg #[.string ⟨#[83, 72, 76]⟩, .int .i64 2, .int .i64 1, .int .u64 3, .bool true, .int .i64 0]) (by kernel_rfl) ?_
  go_simp
  refine hK _ _ ?_
  clear hK K
  refine wpList_plain rfl fun K hK => ?_
  refine wp_build_run 25 _ rfl #[(0, .string ⟨#[83, 72, 82]⟩), (1, .int .i64 2), (2, .int .i64 1), (3, .int .u64 3), (4, .bool true)] (by simp only [List.map_toArray, List.map_cons, List.map_nil]; rfl) (v := .agg #[.string ⟨#[83, 72, 82]⟩, .int .i64 2, .int .i64 1, .int .u64 3, .bool true, .int .i64 0]) (by kernel_rfl) ?_
  go_simp
  refine hK _ _ ?_
  clear hK K
  refine wpList_plain rfl fun K hK => ?_
  refine wp_build_run 25 _ rfl #[(0, .string ⟨#[83, 65, 82]⟩), (1, .int .i64 2), (2, .int .i64 1), (3, .int .u64 3), (4, .bool true)] (by simp only [List.map_toArray, List.map_cons, List.map_nil]; rfl) (v := .agg #[.string ⟨#[83, 65, 82]⟩, .int .i64 2, .int .i64 1, .int .u64 3, .bool true, .int .i64 0]) (by kernel_rfl) ?_
  go_simp
  refine hK _ _ ?_
  clear hK K
  refine wpList_plain rfl fun K hK => ?_
  refine wp_build_run 25 _ rfl #[(0, .string ⟨#[75, 69, 67, 67, 65, 75, 50, 53, 54]⟩), (1, .int .i64 2), (2, .int .i64 1), (3, .int .u64 30)] (by simp only [List.map_toArray, List.map_cons, List.map_nil]; rfl) (v := .agg #[.string ⟨#[75, 69, 67, 67, 65, 75, 50, 53, 54]⟩, .int .i64 2, .int .i64 1, .int .u64 30, .bool false, .int .i64 0]) (by kernel_rfl) ?_
  go_simp
  refine hK _ _ ?_
  clear hK K
  refine wpList_plain rfl fun K hK => ?_
  refine wp_build_run 106 _ rfl _ (by simp only [List.map_toArray, List.map_cons, List.map_nil]; rfl) (hB _) ?_
  go_simp
  refine hK _ _ ?_
  clear hK K
  refine wpList_plain rfl fun K hK => ?_
  go_simp
  refine hK _ _ ?_
  clear hK K
  refine wpList_plain rfl fun K hK => ?_
  refine wp_index_run 106 _ _ rfl _ _ rfl rfl (hI _) ?_
  go_simp
  refine hK _ _ ?_
  clear hK K
  clear hB hI
  refine wpList_plain rfl fun K hK => ?_
  go_simp
  refine hK _ _ ?_
  clear hK K
  refine wpList_nil ?_
  go_wp2_with fail
  (try simp only [Exit.inBlock, Exit.then])
  refine bodyPost_ret (results_cell_row rfl _ _ w.heap.size 25 _ (0, 0) (.struct oiFs) rfl (heap_alloc_new w _) undOI rfl szOI) rfl ?_
  exact ⟨rfl, balloc (Below.refl _ _) _⟩
set_option maxRecDepth 100000 in
set_option maxHeartbeats 4000000 in
theorem asking_any (n : Nat) (hn : n < 256) (w : World) : Calls Tryd.prog 56 #[.int .u8 n] w fun e w' => e = .returned (.agg (oiC (akO n))) ∧ Below w.heap.size w w' := by
  have hI := index_tab akO n hn
  have hB := build_ak
  rw [show ((List.range 256).flatMap fun n => (oiC (akO n)).toList).toArray = akC from rfl] at hI
  generalize akC = C at hI hB
  generalize hE : oiC (akO n) = E at hI ⊢
  obtain ⟨x0, x1, x2, x3, x4, x5, hE6⟩ : ∃ x0 x1 x2 x3 x4 x5, E = #[.string x0, .int .i64 x1, .int .i64 x2, .int .u64 x3, .bool x4, .int .i64 x5] := ⟨_, _, _, _, _, _, hE.symm⟩
  rw [hE6] at hI ⊢
  clear hn hE hE6
  go_enter Tryd.func56, Tryd.ntmps56
  go_upto_region 1 with fail
  refine wp_region_lit ?_
  refine wpList_plain rfl fun K hK => ?_
  refine wp_build_run 25 _ rfl #[(0, .string ⟨#[65, 68, 68, 82, 69, 83, 83]⟩), (2, .int .i64 1), (3, .int .u64 2), (4, .bool true)] (by simp only [List.map_toArray, List.map_cons, List.map_nil]; rfl) (v := .agg #[.string ⟨#[65, 68, 68, 82, 69, 83, 83]⟩, .int .i64 0, .int .i64 1, .int .u64 2, .bool true, .int .i64 0]) (by kernel_rfl) ?_
  go_simp
  refine hK _ _ ?_
  clear hK K
  refine wpList_plain rfl fun K hK => ?_
  refine wp_build_run 25 _ rfl #[(0, .string ⟨#[66, 65, 76, 65, 78, 67, 69]⟩), (1, .int .i64 1), (2, .int .i64 1)] (by simp only [List.map_toArray, List.map_cons, List.map_nil]; rfl) (v := .agg #[.string ⟨#[66, 65, 76, 65, 78, 67, 69]⟩, .int .i64 1, .int .i64 1, .int .u64 0, .bool false, .int .i64 0]) (by kernel_rfl) ?_
  go_simp
  refine hK _ _ ?_
  clear hK K
  refine wpList_plain rfl fun K hK => ?_
  refine wp_build_run 25 _ rfl #[(0, .string ⟨#[79, 82, 73, 71, 73, 78]⟩), (2, .int .i64 1), (3, .int .u64 2), (4, .bool true)] (by simp only [List.map_toArray, List.map_cons, List.map_nil]; rfl) (v := .agg #[.string ⟨#[79, 82, 73, 71, 73, 78]⟩, .int .i64 0, .int .i64 1, .int .u64 2, .bool true, .int .i64 0]) (by kernel_rfl) ?_
  go_simp
  refine hK _ _ ?_
  clear hK K
  refine wpList_plain rfl fun K hK => ?_
  refine wp_build_run 25 _ rfl #[(0, .string ⟨#[67, 65, 76, 76, 69, 82]⟩), (2, .int .i64 1), (3, .int .u64 2), (4, .bool true)] (by simp only [List.map_toArray, List.map_cons, List.map_nil]; rfl) (v := .agg #[.string ⟨#[67, 65, 76, 76, 69, 82]⟩, .int .i64 0, .int .i64 1, .int .u64 2, .bool true, .int .i64 0]) (by kernel_rfl) ?_
  go_simp
  refine hK _ _ ?_
  clear hK K
  refine wpList_plain rfl fun K hK => ?_
  refine wp_build_run 25 _ rfl #[(0, .string ⟨#[67, 65, 76, 76, 86, 65, 76, 85, 69]⟩), (2, .int .i64 1), (3, .int .u64 2), (4, .bool true)] (by simp only [List.map_toArray, List.map_cons, List.map_nil]; rfl) (v := .agg #[.string ⟨#[67, 65, 76, 76, 86, 65, 76, 85, 69]⟩, .int .i64 0, .int .i64 1, .int .u64 2, .bool true, .int .i64 0]) (by kernel_rfl) ?_
  go_simp
  refine hK _ _ ?_
  clear hK K
  refine wpList_plain rfl fun K hK => ?_
  refine wp_build_run 25 _ rfl #[(0, .string ⟨#[67, 65, 76, 76, 68, 65, 84, 65, 76, 79, 65, 68]⟩), (1, .int .i64 1), (2, .int .i64 1), (3, .int .u64 3)] (by simp only [List.map_toArray, List.map_cons, List.map_nil]; rfl) (v := .agg #[.string ⟨#[67, 65, 76, 76, 68, 65, 84, 65, 76, 79, 65, 68]⟩, .int .i64 1, .int .i64 1, .int .u64 3, .bool false, .int .i64 0]) (by kernel_rfl) ?_
  go_simp
  refine hK _ _ ?_
  clear hK K
  refine wpList_plain rfl fun K hK => ?_
  refine wp_build_run 25 _ rfl #[(0, .string ⟨#[67, 65, 76, 76, 68, 65, 84, 65, 83, 73, 90, 69]⟩), (2, .int .i64 1), (3, .int .u64 2), (4, .bool true)] (by simp only [List.map_toArray, List.map_cons, List.map_nil]; rfl) (v := .agg #[.string ⟨#[67, 65, 76, 76, 68, 65, 84, 65, 83, 73, 90, 69]⟩, .int .i64 0, .int .i64 1, .int .u64 2, .bool true, .int .i64 0]) (by kernel_rfl) ?_
  go_simp
  refine hK _ _ ?_
  clear hK K
  refine wpList_plain rfl fun K hK => ?_
  refine wp_build_run 25 _ rfl #[(0, .string ⟨#[67, 65, 76, 76, 68, 65, 84, 65, 67, 79, 80, 89]⟩), (1, .int .i64 3), (3, .int .u64 3)] (by simp only [List.map_toArray, List.map_cons, List.map_nil]; rfl) (v := .agg #[.string ⟨#[67, 65, 76, 76, 68, 65, 84, 65, 67, 79, 80, 89]⟩, .int .i64 3, .int .i64 0, .int .u64 3, .bool false, .int .i64 0]) (by kernel_rfl) ?_
  go_simp
  refine hK _ _ ?_
  clear hK K
  refine wpList_plain rfl fun K hK => ?_
  refine wp_build_run 25 _ rfl #[(0, .string ⟨#[67, 79, 68, 69, 83, 73, 90, 69]⟩), (2, .int .i64 1), (3, .int .u64 2), (4, .bool true)] (by simp only [List.map_toArray, List.map_cons, List.map_nil]; rfl) (v := .agg #[.string ⟨#[67, 79, 68, 69, 83, 73, 90, 69]⟩, .int .i64 0, .int .i64 1, .int .u64 2, .bool true, .int .i64 0]) (by kernel_rfl) ?_
  go_simp
  refine hK _ _ ?_
  clear hK K
  refine wpList_plain rfl fun K hK => ?_
  refine wp_build_run 25 _ rfl #[(0, .string ⟨#[67, 79, 68, 69, 67, 79, 80, 89]⟩), (1, .int .i64 3), (3, .int .u64 3)] (by simp only [List.map_toArray, List.map_cons, List.map_nil]; rfl) (v := .agg #[.string ⟨#[67, 79, 68, 69, 67, 79, 80, 89]⟩, .int .i64 3, .int .i64 0, .int .u64 3, .bool false, .int .i64 0]) (by kernel_rfl) ?_
  go_simp
  refine hK _ _ ?_
  clear hK K
  refine wpList_plain rfl fun K hK => ?_
  refine wp_build_run 25 _ rfl #[(0, .string ⟨#[71, 65, 83, 80, 82, 73, 67, 69]⟩), (2, .int .i64 1), (3, .int .u64 2), (4, .bool true)] (by simp only [List.map_toArray, List.map_cons, List.map_nil]; rfl) (v := .agg #[.string ⟨#[71, 65, 83, 80, 82, 73, 67, 69]⟩, .int .i64 0, .int .i64 1, .int .u64 2, .bool true, .int .i64 0]) (by kernel_rfl) ?_
  go_simp
  refine hK _ _ ?_
  clear hK K
  refine wpList_plain rfl fun K hK => ?_
  refine wp_build_run 25 _ rfl #[(0, .string ⟨#[69, 88, 84, 67, 79, 68, 69, 83, 73, 90, 69]⟩), (1, .int .i64 1), (2, .int .i64 1)] (by simp only [List.map_toArray, List.map_cons, List.map_nil]; rfl) (v := .agg #[.string ⟨#[69, 88, 84, 67, 79, 68, 69, 83, 73, 90, 69]⟩, .int .i64 1, .int .i64 1, .int .u64 0, .bool false, .int .i64 0]) (by kernel_rfl) ?_
  go_simp
  refine hK _ _ ?_
  clear hK K
  refine wpList_plain rfl fun K hK => ?_
  refine wp_build_run 25 _ rfl #[(0, .string ⟨#[69, 88, 84, 67, 79, 68, 69, 67, 79, 80, 89]⟩), (1, .int .i64 4)] (by simp only [List.map_toArray, List.map_cons, List.map_nil]; rfl) (v := .agg #[.string ⟨#[69, 88, 84, 67, 79, 68, 69, 67, 79, 80, 89]⟩, .int .i64 4, .int .i64 0, .int .u64 0, .bool false, .int .i64 0]) (by kernel_rfl) ?_
  go_simp
  refine hK _ _ ?_
  clear hK K
  refine wpList_plain rfl fun K hK => ?_
  refine wp_build_run 25 _ rfl #[(0, .string ⟨#[82, 69, 84, 85, 82, 78, 68, 65, 84, 65, 83, 73, 90, 69]⟩), (2, .int .i64 1), (3, .int .u64 2), (4, .bool true)] (by simp only [List.map_toArray, List.map_cons, List.map_nil]; rfl) (v := .agg #[.string ⟨#[82, 69, 84, 85, 82, 78, 68, 65, 84, 65, 83, 73, 90, 69]⟩, .int .i64 0, .int .i64 1, .int .u64 2, .bool true, .int .i64 0]) (by kernel_rfl) ?_
  go_simp
  refine hK _ _ ?_
  clear hK K
  refine wpList_plain rfl fun K hK => ?_
  refine wp_build_run 25 _ rfl #[(0, .string ⟨#[82, 69, 84, 85, 82, 78, 68, 65, 84, 65, 67, 79, 80, 89]⟩), (1, .int .i64 3), (3, .int .u64 3)] (by simp only [List.map_toArray, List.map_cons, List.map_nil]; rfl) (v := .agg #[.string ⟨#[82, 69, 84, 85, 82, 78, 68, 65, 84, 65, 67, 79, 80, 89]⟩, .int .i64 3, .int .i64 0, .int .u64 3, .bool false, .int .i64 0]) (by kernel_rfl) ?_
  go_simp
  refine hK _ _ ?_
  clear hK K
  refine wpList_plain rfl fun K hK => ?_
  refine wp_build_run 25 _ rfl #[(0, .string ⟨#[69, 88, 84, 67, 79, 68, 69, 72, 65, 83, 72]⟩), (1, .int .i64 1), (2, .int .i64 1)] (by simp only [List.map_toArray, List.map_cons, List.map_nil]; rfl) (v := .agg #[.string ⟨#[69, 88, 84, 67, 79, 68, 69, 72, 65, 83, 72]⟩, .int .i64 1, .int .i64 1, .int .u64 0, .bool false, .int .i64 0]) (by kernel_rfl) ?_
  go_simp
  refine hK _ _ ?_
  clear hK K
  refine wpList_plain rfl fun K hK => ?_
  refine wp_build_run 25 _ rfl #[(0, .string ⟨#[66, 76, 79, 67, 75, 72, 65, 83, 72]⟩), (1, .int .i64 1), (2, .int .i64 1), (3, .int .u64 20)] (by simp only [List.map_toArray, List.map_cons, List.map_nil]; rfl) (v := .agg #[.string ⟨#[66, 76, 79, 67, 75, 72, 65, 83, 72]⟩, .int .i64 1, .int .i64 1, .int .u64 20, .bool false, .int .i64 0]) (by kernel_rfl) ?_
  go_simp
  refine hK _ _ ?_
  clear hK K
  refine wpList_plain rfl fun K hK => ?_
  refine wp_build_run 25 _ rfl #[(0, .string ⟨#[67, 79, 73, 78, 66, 65, 83, 69]⟩), (2, .int .i64 1), (3, .int .u64 2), (4, .bool true)] (by simp only [List.map_toArray, List.map_cons, List.map_nil]; rfl) (v := .agg #[.string ⟨#[67, 79, 73, 78, 66, 65, 83, 69]⟩, .int .i64 0, .int .i64 1, .int .u64 2, .bool true, .int .i64 0]) (by kernel_rfl) ?_
  go_simp
  refine hK _ _ ?_
  clear hK K
  refine wpList_plain rfl fun K hK => ?_
  refine wp_build_run 25 _ rfl #[(0, .string ⟨#[84, 73, 77, 69, 83, 84, 65, 77, 80]⟩), (2, .int .i64 1), (3, .int .u64 2), (4, .bool true)] (by simp only [List.map_toArray, List.map_cons, List.map_nil]; rfl) (v := .agg #[.string ⟨#[84, 73, 77, 69, 83, 84, 65, 77, 80]⟩, .int .i64 0, .int .i64 1, .int .u64 2, .bool true, .int .i64 0]) (by kernel_rfl) ?_
  go_simp
  refine hK _ _ ?_
  clear hK K
  refine wpList_plain rfl fun K hK => ?_
  refine wp_build_run 25 _ rfl #[(0, .string ⟨#[78, 85, 77, 66, 69, 82]⟩), (2, .int .i64 1), (3, .int .u64 2), (4, .bool true)] (by simp only [List.map_toArray, List.map_cons, List.map_nil]; rfl) (v := .agg #[.string ⟨#[78, 85, 77, 66, 69, 82]⟩, .int .i64 0, .int .i64 1, .int .u64 2, .bool true, .int .i64 0]) (by kernel_rfl) ?_
  go_simp
  refine hK _ _ ?_
  clear hK K
  refine wpList_plain rfl fun K hK => ?_
  refine wp_build_run 25 _ rfl #[(0, .string ⟨#[80, 82, 69, 86, 82, 65, 78, 68, 65, 79]⟩), (2, .int .i64 1), (3, .int .u64 2), (4, .bool true)] (by simp only [List.map_toArray, List.map_cons, List.map_nil]; rfl) (v := .agg #[.string ⟨#[80, 82, 69, 86, 82, 65, 78, 68, 65, 79]⟩, .int .i64 0, .int .i64 1, .int .u64 2, .bool true, .int .i64 0]) (by kernel_rfl) ?_
  go_simp
  refine hK _ _ ?_
  clear hK K
  refine wpList_plain rfl fun K hK => ?_
  refine wp_build_run 25 _ rfl #[(0, .string ⟨#[71, 65, 83, 76, 73, 77, 73, 84]⟩), (2, .int .i64 1), (3, .int .u64 2), (4, .bool true)] (by simp only [List.map_toArray, List.map_cons, List.map_nil]; rfl) (v := .agg #[.string ⟨#[71, 65, 83, 76, 73, 77, 73, 84]⟩, .int .i64 0, .int .i64 1, .int .u64 2, .bool true, .int .i64 0]) (by kernel_rfl) ?_
  go_simp
  refine hK _ _ ?_
  clear hK K
  refine wpList_plain rfl fun K hK => ?_
  refine wp_build_run 25 _ rfl #[(0, .string ⟨#[67, 72, 65, 73, 78, 73, 68]⟩), (2, .int .i64 1), (3, .int .u64 2), (4, .bool true)] (by simp only [List.map_toArray, List.map_cons, List.map_nil]; rfl) (v := .agg #[.string ⟨#[67, 72, 65, 73, 78, 73, 68]⟩, .int .i64 0, .int .i64 1, .int .u64 2, .bool true, .int .i64 0]) (by kernel_rfl) ?_
  go_simp
  refine hK _ _ ?_
  clear hK K
  refine wpList_plain rfl fun K hK => ?_
  refine wp_build_run 25 _ rfl #[(0, .string ⟨#[83, 69, 76, 70, 66, 65, 76, 65, 78, 67, 69]⟩), (2, .int .i64 1), (3, .int .u64 5)] (by simp only [List.map_toArray, List.map_cons, List.map_nil]; rfl) (v := .agg #[.string ⟨#[83, 69, 76, 70, 66, 65, 76, 65, 78, 67, 69]⟩, .int .i64 0, .int .i64 1, .int .u64 5, .bool false, .int .i64 0]) (by kernel_rfl) ?_
  go_simp
  refine hK _ _ ?_
  clear hK K
  refine wpList_plain rfl fun K hK => ?_
  refine wp_build_run 25 _ rfl #[(0, .string ⟨#[66, 65, 83, 69, 70, 69, 69]⟩), (2, .int .i64 1), (3, .int .u64 2), (4, .bool true)] (by simp only [List.map_toArray, List.map_cons, List.map_nil]; rfl) (v := .agg #[.string ⟨#[66, 65, 83, 69, 70, 69, 69]⟩, .int .i64 0, .int .i64 1, .int .u64 2, .bool true, .int .i64 0]) (by kernel_rfl) ?_
  go_simp
  refine hK _ _ ?_
  clear hK K
  refine wpList_plain rfl fun K hK => ?_
  refine wp_build_run 106 _ rfl _ (by simp only [List.map_toArray, List.map_cons, List.map_nil]; rfl) (hB _) ?_
  go_simp
  refine hK _ _ ?_
  clear hK K
  refine wpList_plain rfl fun K hK => ?_
  go_simp
  refine hK _ _ ?_
  clear hK K
  refine wpList_plain rfl fun K hK => ?_
  refine wp_index_run 106 _ _ rfl _ _ rfl rfl (hI _) ?_
  go_simp
  refine hK _ _ ?_
  clear hK K
  clear hB hI
  refine wpList_plain rfl fun K hK => ?_
  go_simp
  refine hK _ _ ?_
  clear hK K
  refine wpList_nil ?_
  go_wp2_with fail
  (try simp only [Exit.inBlock, Exit.then])
  refine bodyPost_ret (results_cell_row rfl _ _ w.heap.size 25 _ (0, 0) (.struct oiFs) rfl (heap_alloc_new w _) undOI rfl szOI) rfl ?_
  exact ⟨rfl, balloc (Below.refl _ _) _⟩
set_option maxRecDepth 100000 in
set_option maxHeartbeats 4000000 in
theorem doing_any (n : Nat) (hn : n < 256) (w : World) : Calls Tryd.prog 57 #[.int .u8 n] w fun e w' => e = .returned (.agg (oiC (dnO n))) ∧ Below w.heap.size w w' := by
  have hI := index_tab dnO n hn
  have hB := build_dn
  rw [show ((List.range 256).flatMap fun n => (oiC (dnO n)).toList).toArray = dnC from rfl] at hI
  generalize dnC = C at hI hB
  generalize hE : oiC (dnO n) = E at hI ⊢
  obtain ⟨x0, x1, x2, x3, x4, x5, hE6⟩ : ∃ x0 x1 x2 x3 x4 x5, E = #[.string x0, .int .i64 x1, .int .i64 x2, .int .u64 x3, .bool x4, .int .i64 x5] := ⟨_, _, _, _, _, _, hE.symm⟩
  rw [hE6] at hI ⊢
  clear hn hE hE6
  go_enter Tryd.func57, Tryd.ntmps57
  go_upto_region 1 with fail
  refine wp_region_lit ?_
  refine wpList_plain rfl fun K hK => ?_
  refine wp_build_run 25 _ rfl #[(0, .string ⟨#[80, 79, 80]⟩), (1, .int .i64 1), (3, .int .u64 2), (4, .bool true)] (by simp only [List.map_toArray, List.map_cons, List.map_nil]; rfl) (v := .agg #[.string ⟨#[80, 79, 80]⟩, .int .i64 1, .int .i64 0, .int .u64 2, .bool true, .int .i64 0]) (by kernel_rfl) ?_
  go_simp
  refine hK _ _ ?_
  clear hK K
  refine wpList_plain rfl fun K hK => ?_
  refine wp_build_run 25 _ rfl #[(0, .string ⟨#[77, 76, 79, 65, 68]⟩), (1, .int .i64 1), (2, .int .i64 1), (3, .int .u64 3)] (by simp only [List.map_toArray, List.map_cons, List.map_nil]; rfl) (v := .agg #[.string ⟨#[77, 76, 79, 65, 68]⟩, .int .i64 1, .int .i64 1, .int .u64 3, .bool false, .int .i64 0]) (by kernel_rfl) ?_
  go_simp
  refine hK _ _ ?_
  clear hK K
  refine wpList_plain rfl fun K hK => ?_
  refine wp_build_run 25 _ rfl #[(0, .string ⟨#[77, 83, 84, 79, 82, 69]⟩), (1, .int .i64 2), (3, .int .u64 3)] (by simp only [List.map_toArray, List.map_cons, List.map_nil]; rfl) (v := .agg #[.string ⟨#[77, 83, 84, 79, 82, 69]⟩, .int .i64 2, .int .i64 0, .int .u64 3, .bool false, .int .i64 0]) (by kernel_rfl) ?_
  go_simp
  refine hK _ _ ?_
  clear hK K
  refine wpList_plain rfl fun K hK => ?_
  refine wp_build_run 25 _ rfl #[(0, .string ⟨#[77, 83, 84, 79, 82, 69, 56]⟩), (1, .int .i64 2), (3, .int .u64 3)] (by simp only [List.map_toArray, List.map_cons, List.map_nil]; rfl) (v := .agg #[.string ⟨#[77, 83, 84, 79, 82, 69, 56]⟩, .int .i64 2, .int .i64 0, .int .u64 3, .bool false, .int .i64 0]) (by kernel_rfl) ?_
  go_simp
  refine hK _ _ ?_
  clear hK K
  refine wpList_plain rfl fun K hK => ?_
  refine wp_build_run 25 _ rfl #[(0, .string ⟨#[83, 76, 79, 65, 68]⟩), (1, .int .i64 1), (2, .int .i64 1)] (by simp only [List.map_toArray, List.map_cons, List.map_nil]; rfl) (v := .agg #[.string ⟨#[83, 76, 79, 65, 68]⟩, .int .i64 1, .int .i64 1, .int .u64 0, .bool false, .int .i64 0]) (by kernel_rfl) ?_
  go_simp
  refine hK _ _ ?_
  clear hK K
  refine wpList_plain rfl fun K hK => ?_
  refine wp_build_run 25 _ rfl #[(0, .string ⟨#[83, 83, 84, 79, 82, 69]⟩), (1, .int .i64 2)] (by simp only [List.map_toArray, List.map_cons, List.map_nil]; rfl) (v := .agg #[.string ⟨#[83, 83, 84, 79, 82, 69]⟩, .int .i64 2, .int .i64 0, .int .u64 0, .bool false, .int .i64 0]) (by kernel_rfl) ?_
  go_simp
  refine hK _ _ ?_
  clear hK K
  refine wpList_plain rfl fun K hK => ?_
  refine wp_build_run 25 _ rfl #[(0, .string ⟨#[74, 85, 77, 80]⟩), (1, .int .i64 1), (3, .int .u64 8)] (by simp only [List.map_toArray, List.map_cons, List.map_nil]; rfl) (v := .agg #[.string ⟨#[74, 85, 77, 80]⟩, .int .i64 1, .int .i64 0, .int .u64 8, .bool false, .int .i64 0]) (by kernel_rfl) ?_
  go_simp
  refine hK _ _ ?_
  clear hK K
  refine wpList_plain rfl fun K hK => ?_
  refine wp_build_run 25 _ rfl #[(0, .string ⟨#[74, 85, 77, 80, 73]⟩), (1, .int .i64 2), (3, .int .u64 10)] (by simp only [List.map_toArray, List.map_cons, List.map_nil]; rfl) (v := .agg #[.string ⟨#[74, 85, 77, 80, 73]⟩, .int .i64 2, .int .i64 0, .int .u64 10, .bool false, .int .i64 0]) (by kernel_rfl) ?_
  go_simp
  refine hK _ _ ?_
  clear hK K
  refine wpList_plain rfl fun K hK => ?_
  refine wp_build_run 25 _ rfl #[(0, .string ⟨#[80, 67]⟩), (2, .int .i64 1), (3, .int .u64 2), (4, .bool true)] (by simp only [List.map_toArray, List.map_cons, List.map_nil]; rfl) (v := .agg #[.string ⟨#[80, 67]⟩, .int .i64 0, .int .i64 1, .int .u64 2, .bool true, .int .i64 0]) (by kernel_rfl) ?_
  go_simp
  refine hK _ _ ?_
  clear hK K
  refine wpList_plain rfl fun K hK => ?_
  refine wp_build_run 25 _ rfl #[(0, .string ⟨#[77, 83, 73, 90, 69]⟩), (2, .int .i64 1), (3, .int .u64 2), (4, .bool true)] (by simp only [List.map_toArray, List.map_cons, List.map_nil]; rfl) (v := .agg #[.string ⟨#[77, 83, 73, 90, 69]⟩, .int .i64 0, .int .i64 1, .int .u64 2, .bool true, .int .i64 0]) (by kernel_rfl) ?_
  go_simp
  refine hK _ _ ?_
  clear hK K
  refine wpList_plain rfl fun K hK => ?_
  refine wp_build_run 25 _ rfl #[(0, .string ⟨#[71, 65, 83]⟩), (2, .int .i64 1), (3, .int .u64 2)] (by simp only [List.map_toArray, List.map_cons, List.map_nil]; rfl) (v := .agg #[.string ⟨#[71, 65, 83]⟩, .int .i64 0, .int .i64 1, .int .u64 2, .bool false, .int .i64 0]) (by kernel_rfl) ?_
  go_simp
  refine hK _ _ ?_
  clear hK K
  refine wpList_plain rfl fun K hK => ?_
  refine wp_build_run 25 _ rfl #[(0, .string ⟨#[74, 85, 77, 80, 68, 69, 83, 84]⟩), (3, .int .u64 1), (4, .bool true)] (by simp only [List.map_toArray, List.map_cons, List.map_nil]; rfl) (v := .agg #[.string ⟨#[74, 85, 77, 80, 68, 69, 83, 84]⟩, .int .i64 0, .int .i64 0, .int .u64 1, .bool true, .int .i64 0]) (by kernel_rfl) ?_
  go_simp
  refine hK _ _ ?_
  clear hK K
  refine wpList_plain rfl fun K hK => ?_
  refine wp_build_run 25 _ rfl #[(0, .string ⟨#[80, 85, 83, 72, 48]⟩), (2, .int .i64 1), (3, .int .u64 2), (4, .bool true)] (by simp only [List.map_toArray, List.map_cons, List.map_nil]; rfl) (v := .agg #[.string ⟨#[80, 85, 83, 72, 48]⟩, .int .i64 0, .int .i64 1, .int .u64 2, .bool true, .int .i64 0]) (by kernel_rfl) ?_
  go_simp
  refine hK _ _ ?_
  clear hK K
  refine wpList_plain rfl fun K hK => ?_
  refine wp_build_run 25 _ rfl #[(0, .string ⟨#[67, 82, 69, 65, 84, 69]⟩), (1, .int .i64 3), (2, .int .i64 1), (3, .int .u64 32000)] (by simp only [List.map_toArray, List.map_cons, List.map_nil]; rfl) (v := .agg #[.string ⟨#[67, 82, 69, 65, 84, 69]⟩, .int .i64 3, .int .i64 1, .int .u64 32000, .bool false, .int .i64 0]) (by kernel_rfl) ?_
  go_simp
  refine hK _ _ ?_
  clear hK K
  refine wpList_plain rfl fun K hK => ?_
  refine wp_build_run 25 _ rfl #[(0, .string ⟨#[67, 65, 76, 76]⟩), (1, .int .i64 7), (2, .int .i64 1)] (by simp only [List.map_toArray, List.map_cons, List.map_nil]; rfl) (v := .agg #[.string ⟨#[67, 65, 76, 76]⟩, .int .i64 7, .int .i64 1, .int .u64 0, .bool false, .int .i64 0]) (by kernel_rfl) ?_
  go_simp
  refine hK _ _ ?_
  clear hK K
  refine wpList_plain rfl fun K hK => ?_
  refine wp_build_run 25 _ rfl #[(0, .string ⟨#[67, 65, 76, 76, 67, 79, 68, 69]⟩), (1, .int .i64 7), (2, .int .i64 1)] (by simp only [List.map_toArray, List.map_cons, List.map_nil]; rfl) (v := .agg #[.string ⟨#[67, 65, 76, 76, 67, 79, 68, 69]⟩, .int .i64 7, .int .i64 1, .int .u64 0, .bool false, .int .i64 0]) (by kernel_rfl) ?_
  go_simp
  refine hK _ _ ?_
  clear hK K
  refine wpList_plain rfl fun K hK => ?_
  refine wp_build_run 25 _ rfl #[(0, .string ⟨#[82, 69, 84, 85, 82, 78]⟩), (1, .int .i64 2)] (by simp only [List.map_toArray, List.map_cons, List.map_nil]; rfl) (v := .agg #[.string ⟨#[82, 69, 84, 85, 82, 78]⟩, .int .i64 2, .int .i64 0, .int .u64 0, .bool false, .int .i64 0]) (by kernel_rfl) ?_
  go_simp
  refine hK _ _ ?_
  clear hK K
  refine wpList_plain rfl fun K hK => ?_
  refine wp_build_run 25 _ rfl #[(0, .string ⟨#[68, 69, 76, 69, 71, 65, 84, 69, 67, 65, 76, 76]⟩), (1, .int .i64 6), (2, .int .i64 1)] (by simp only [List.map_toArray, List.map_cons, List.map_nil]; rfl) (v := .agg #[.string ⟨#[68, 69, 76, 69, 71, 65, 84, 69, 67, 65, 76, 76]⟩, .int .i64 6, .int .i64 1, .int .u64 0, .bool false, .int .i64 0]) (by kernel_rfl) ?_
  go_simp
  refine hK _ _ ?_
  clear hK K
  refine wpList_plain rfl fun K hK => ?_
  refine wp_build_run 25 _ rfl #[(0, .string ⟨#[67, 82, 69, 65, 84, 69, 50]⟩), (1, .int .i64 4), (2, .int .i64 1), (3, .int .u64 32000)] (by simp only [List.map_toArray, List.map_cons, List.map_nil]; rfl) (v := .agg #[.string ⟨#[67, 82, 69, 65, 84, 69, 50]⟩, .int .i64 4, .int .i64 1, .int .u64 32000, .bool false, .int .i64 0]) (by kernel_rfl) ?_
  go_simp
  refine hK _ _ ?_
  clear hK K
  refine wpList_plain rfl fun K hK => ?_
  refine wp_build_run 25 _ rfl #[(0, .string ⟨#[83, 84, 65, 84, 73, 67, 67, 65, 76, 76]⟩), (1, .int .i64 6), (2, .int .i64 1)] (by simp only [List.map_toArray, List.map_cons, List.map_nil]; rfl) (v := .agg #[.string ⟨#[83, 84, 65, 84, 73, 67, 67, 65, 76, 76]⟩, .int .i64 6, .int .i64 1, .int .u64 0, .bool false, .int .i64 0]) (by kernel_rfl) ?_
  go_simp
  refine hK _ _ ?_
  clear hK K
  refine wpList_plain rfl fun K hK => ?_
  refine wp_build_run 25 _ rfl #[(0, .string ⟨#[82, 69, 86, 69, 82, 84]⟩), (1, .int .i64 2)] (by simp only [List.map_toArray, List.map_cons, List.map_nil]; rfl) (v := .agg #[.string ⟨#[82, 69, 86, 69, 82, 84]⟩, .int .i64 2, .int .i64 0, .int .u64 0, .bool false, .int .i64 0]) (by kernel_rfl) ?_
  go_simp
  refine hK _ _ ?_
  clear hK K
  refine wpList_plain rfl fun K hK => ?_
  refine wp_build_run 25 _ rfl #[(0, .string ⟨#[73, 78, 86, 65, 76, 73, 68]⟩)] (by simp only [List.map_toArray, List.map_cons, List.map_nil]; rfl) (v := .agg #[.string ⟨#[73, 78, 86, 65, 76, 73, 68]⟩, .int .i64 0, .int .i64 0, .int .u64 0, .bool false, .int .i64 0]) (by kernel_rfl) ?_
  go_simp
  refine hK _ _ ?_
  clear hK K
  refine wpList_plain rfl fun K hK => ?_
  refine wp_build_run 25 _ rfl #[(0, .string ⟨#[83, 69, 76, 70, 68, 69, 83, 84, 82, 85, 67, 84]⟩), (1, .int .i64 1), (3, .int .u64 5000)] (by simp only [List.map_toArray, List.map_cons, List.map_nil]; rfl) (v := .agg #[.string ⟨#[83, 69, 76, 70, 68, 69, 83, 84, 82, 85, 67, 84]⟩, .int .i64 1, .int .i64 0, .int .u64 5000, .bool false, .int .i64 0]) (by kernel_rfl) ?_
  go_simp
  refine hK _ _ ?_
  clear hK K
  refine wpList_plain rfl fun K hK => ?_
  refine wp_build_run 106 _ rfl _ (by simp only [List.map_toArray, List.map_cons, List.map_nil]; rfl) (hB _) ?_
  go_simp
  refine hK _ _ ?_
  clear hK K
  refine wpList_plain rfl fun K hK => ?_
  go_simp
  refine hK _ _ ?_
  clear hK K
  refine wpList_plain rfl fun K hK => ?_
  refine wp_index_run 106 _ _ rfl _ _ rfl rfl (hI _) ?_
  go_simp
  refine hK _ _ ?_
  clear hK K
  clear hB hI
  refine wpList_plain rfl fun K hK => ?_
  go_simp
  refine hK _ _ ?_
  clear hK K
  refine wpList_nil ?_
  go_wp2_with fail
  (try simp only [Exit.inBlock, Exit.then])
  refine bodyPost_ret (results_cell_row rfl _ _ w.heap.size 25 _ (0, 0) (.struct oiFs) rfl (heap_alloc_new w _) undOI rfl szOI) rfl ?_
  exact ⟨rfl, balloc (Below.refl _ _) _⟩
end Go.Proofs.YtcdmaapjcckbmaaDoor
