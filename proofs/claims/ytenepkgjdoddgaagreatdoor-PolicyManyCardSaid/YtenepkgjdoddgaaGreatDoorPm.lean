/- Texts laid into one: Pm. -/
import Derived.Test.YtenepkgjdoddgaaGreatDoorAh
import Derived.Test.YtenepkgjdoddgaaGreatDoorPg
import Derived.Test.YtenepkgjdoddgaaGreatDoorPe
/- policy's laws: a rule appended to an own row. -/
namespace Go.Proofs.YtenepkgjdoddgaaGreatDoor
open Go.RowKit Go.Shelf

set_option maxRecDepth 100000 in
theorem build_clear0 {a : List Nat} (h : Ad a) (w : World) : (Instr.build 72 #[(0, .agg (adC a))]).run Tryz.prog w = .ok (.agg (clC (a, 0))) w := by
  obtain ⟨x0, x1, x2, x3, x4, x5, x6, x7, x8, x9, y0, y1, y2, y3, y4, y5, y6, y7, y8, y9, rfl⟩ := ad_lit h
  unfold adC clC bvs
  exact run_build w _ _ _ (by kernel_rfl)
/-- A rule appended: the row behind it, and what stays. -/
theorem app_clear (Q n₀ : Nat) (t : TypeId) (cells : Array Value) (c : List Nat × Nat) (hc : Ad c.1 ∧ c.2 < 18446744073709551616) (vc : Value) (ls : List (List Nat × Nat)) (w : World) (hQ : Blk w Q t cells) (ht : t ≠ 72) (hC : OwC w n₀ vc ls) (hn : n₀ ≤ w.heap.size ∧ ls.length ≤ 100000) :
    ∃ (gn cn : Nat) (w5 : World), (Builtin.append_ #[24, 24] 24 #[vc, .slice (some ⟨w.heap.size, 0, none⟩) 1 1]).run Tryz.prog (w.alloc (.cells (clC c) 72)) = .ok (.slice (some ⟨gn, 0, none⟩) (ls.length + 1) cn) w5 ∧
      Blk w5 Q t cells ∧ OwC w5 n₀ (.slice (some ⟨gn, 0, none⟩) (ls.length + 1) cn) (ls ++ [c]) ∧ Below n₀ w w5 ∧ gn ≠ Q ∧ w.grownBy w5 vc.ownBlock := by
  obtain ⟨i0, hi0, hz0, hz1, hz2⟩ := info_parts' infoCl
  have hal : Below w.heap.size w (w.alloc (.cells (clC c) 72)) := balloc (Below.refl _ _) _
  have hC3 := hC.1.kept (grown_new hal) (by cases vc.ownBlock <;> simp)
  have hZ := Blk.new w 72 (clC c)
  have hQ3 := hQ.keep hal
  have hsz : (w.alloc (.cells (clC c) 72)).heap.size = w.heap.size + 1 := by simp
  have hnews : ∀ (j : Nat) u, (clC c).toList[j]? = some u → (w.alloc (.cells (clC c) 72)).cell? ((⟨w.heap.size, 0, none⟩ : Addr).add j) = some u := fun j u hj => by
    rw [Go.WideShapes.add_plain, Nat.zero_add, cell_of_row _ w.heap.size j _ _ _ hZ]
    exact (Array.getElem?_toList ..).symm.trans hj
  have hne : vc.ownBlock ≠ some Q := by
    rcases hC.1.2 with ⟨rfl, hn⟩ | ⟨g, cap, cur, rfl, hb, hg, _⟩
    · intro e; cases e
    · intro e
      obtain rfl : g = Q := Option.some.inj e
      have e2 := hg.symm.trans hQ
      injection e2 with e3
      injection e3 with _ e4 _
      exact ht e4.symm
  obtain ⟨v', w5, hrun, hown5, hg5, _, hat⟩ := run_append_own_at (P := Tryz.prog) (w := w.alloc (.cells (clC c) 72)) n₀ 24 24 72 i0 (.agg zcC) 21 32 (by kernel_rfl) hi0 hz0 hz1 hz2 (by rw [zcC_lit]; rfl) (by decide) vc ls.length _ hC3 ⟨w.heap.size, 0, none⟩ 1 1 (clC c).toList (by rw [clC_len hc.1]) hnews (fun u hu => by have := clC_one c; rw [← Array.all_toList, List.all_eq_true] at this; exact this u hu) (by unfold maxLen; omega) (by omega) (by omega)
  obtain ⟨gn, cn, rfl⟩ := Go.Joins.ownsRow_form hown5 (by omega)
  have hgn : gn ≠ Q := by
    rcases hat with h | h
    · exact fun e => hne (h.symm.trans (congrArg some e))
    · have h9 : gn = (w.alloc (.cells (clC c) 72)).heap.size := Option.some.inj h
      have := hQ.lt
      omega
  refine ⟨gn, cn, w5, hrun, hg5.block Q hQ3.lt (fun e => hne e.symm) |>.trans hQ3, ⟨?_, ?_⟩, ?_, hgn, ?_⟩
  · rw [List.length_append, List.flatMap_append]
    simpa using hown5
  · intro x hx
    rcases List.mem_append.1 hx with h | h
    · exact hC.2 x h
    · simp at h; subst h; exact hc
  · exact (hal.mono hn.1).grown hg5 (by omega) (fun k e => (hC3.lt k e).1)
  · exact ⟨hg5.os.trans hal.os, hg5.tape.trans hal.tape, hg5.output.trans hal.output, Nat.le_trans hal.size hg5.size, fun i hi hr => (hg5.block i (Nat.lt_of_lt_of_le hi hal.size) hr).trans (hal.block i hi)⟩

set_option maxRecDepth 100000 in
theorem build_release0 {a : List Nat} (h : Ad a) (w : World) : (Instr.build 74 #[(0, .agg (adC a))]).run Tryz.prog w = .ok (.agg (rlC (a, 0, 0))) w := by
  obtain ⟨x0, x1, x2, x3, x4, x5, x6, x7, x8, x9, y0, y1, y2, y3, y4, y5, y6, y7, y8, y9, rfl⟩ := ad_lit h
  unfold adC rlC bvs
  exact run_build w _ _ _ (by kernel_rfl)
/-- A rule appended: the row behind it, and what stays. -/
theorem app_release (Q n₀ : Nat) (t : TypeId) (cells : Array Value) (c : List Nat × Nat × Nat) (hc : Ad c.1 ∧ c.2.1 < 4294967296 ∧ c.2.2 < 18446744073709551616) (vc : Value) (ls : List (List Nat × Nat × Nat)) (w : World) (hQ : Blk w Q t cells) (ht : t ≠ 74) (hC : OwR w n₀ vc ls) (hn : n₀ ≤ w.heap.size ∧ ls.length ≤ 100000) :
    ∃ (gn cn : Nat) (w5 : World), (Builtin.append_ #[25, 25] 25 #[vc, .slice (some ⟨w.heap.size, 0, none⟩) 1 1]).run Tryz.prog (w.alloc (.cells (rlC c) 74)) = .ok (.slice (some ⟨gn, 0, none⟩) (ls.length + 1) cn) w5 ∧
      Blk w5 Q t cells ∧ OwR w5 n₀ (.slice (some ⟨gn, 0, none⟩) (ls.length + 1) cn) (ls ++ [c]) ∧ Below n₀ w w5 ∧ gn ≠ Q ∧ w.grownBy w5 vc.ownBlock := by
  obtain ⟨i0, hi0, hz0, hz1, hz2⟩ := info_parts' infoRl
  have hal : Below w.heap.size w (w.alloc (.cells (rlC c) 74)) := balloc (Below.refl _ _) _
  have hC3 := hC.1.kept (grown_new hal) (by cases vc.ownBlock <;> simp)
  have hZ := Blk.new w 74 (rlC c)
  have hQ3 := hQ.keep hal
  have hsz : (w.alloc (.cells (rlC c) 74)).heap.size = w.heap.size + 1 := by simp
  have hnews : ∀ (j : Nat) u, (rlC c).toList[j]? = some u → (w.alloc (.cells (rlC c) 74)).cell? ((⟨w.heap.size, 0, none⟩ : Addr).add j) = some u := fun j u hj => by
    rw [Go.WideShapes.add_plain, Nat.zero_add, cell_of_row _ w.heap.size j _ _ _ hZ]
    exact (Array.getElem?_toList ..).symm.trans hj
  have hne : vc.ownBlock ≠ some Q := by
    rcases hC.1.2 with ⟨rfl, hn⟩ | ⟨g, cap, cur, rfl, hb, hg, _⟩
    · intro e; cases e
    · intro e
      obtain rfl : g = Q := Option.some.inj e
      have e2 := hg.symm.trans hQ
      injection e2 with e3
      injection e3 with _ e4 _
      exact ht e4.symm
  obtain ⟨v', w5, hrun, hown5, hg5, _, hat⟩ := run_append_own_at (P := Tryz.prog) (w := w.alloc (.cells (rlC c) 74)) n₀ 25 25 74 i0 (.agg zrC) 22 32 (by kernel_rfl) hi0 hz0 hz1 hz2 (by rw [zrC_lit]; rfl) (by decide) vc ls.length _ hC3 ⟨w.heap.size, 0, none⟩ 1 1 (rlC c).toList (by rw [rlC_len hc.1]) hnews (fun u hu => by have := rlC_one c; rw [← Array.all_toList, List.all_eq_true] at this; exact this u hu) (by unfold maxLen; omega) (by omega) (by omega)
  obtain ⟨gn, cn, rfl⟩ := Go.Joins.ownsRow_form hown5 (by omega)
  have hgn : gn ≠ Q := by
    rcases hat with h | h
    · exact fun e => hne (h.symm.trans (congrArg some e))
    · have h9 : gn = (w.alloc (.cells (rlC c) 74)).heap.size := Option.some.inj h
      have := hQ.lt
      omega
  refine ⟨gn, cn, w5, hrun, hg5.block Q hQ3.lt (fun e => hne e.symm) |>.trans hQ3, ⟨?_, ?_⟩, ?_, hgn, ?_⟩
  · rw [List.length_append, List.flatMap_append]
    simpa using hown5
  · intro x hx
    rcases List.mem_append.1 hx with h | h
    · exact hC.2 x h
    · simp at h; subst h; exact hc
  · exact (hal.mono hn.1).grown hg5 (by omega) (fun k e => (hC3.lt k e).1)
  · exact ⟨hg5.os.trans hal.os, hg5.tape.trans hal.tape, hg5.output.trans hal.output, Nat.le_trans hal.size hg5.size, fun i hi hr => (hg5.block i (Nat.lt_of_lt_of_le hi hal.size) hr).trans (hal.block i hi)⟩
end Go.Proofs.YtenepkgjdoddgaaGreatDoor

/- policy's laws: the rules of PolicyMany in plain numbers. -/
namespace Go.Proofs.YtenepkgjdoddgaaGreatDoor
open Go.RowKit Go.Shelf

/-- The rules of the law. -/
def csK (k : Nat) : List (List Nat × Nat) := (List.range k).map fun i => (ofL i, 0)
def rsK (k : Nat) : List (List Nat × Nat × Nat) := (List.range k).map fun i => (ofL i, 0, 0)
theorem csK_len (k : Nat) : (csK k).length = k := by simp [csK]
theorem rsK_len (k : Nat) : (rsK k).length = k := by simp [rsK]
theorem csK_step (k : Nat) : csK k ++ [(ofL k, 0)] = csK (k + 1) := by simp [csK, List.range_succ]
theorem rsK_step (k : Nat) : rsK k ++ [(ofL k, 0, 0)] = rsK (k + 1) := by simp [rsK, List.range_succ]
theorem chkM1 : chk 0 (csK 63) (rsK 63) = 0 := by decide +kernel
theorem chkM2 : chk 0 (csK 63) (rsK 64) = 0 := by decide +kernel
theorem chkM3 : chk 0 (csK 64) (rsK 63) = 0 := by decide +kernel
theorem chkM4 : chk 0 (csK 64) (rsK 64) = 0 := by decide +kernel
theorem chk_few {m n : Nat} (hm : 63 ≤ m ∧ m ≤ 64) (hn : 63 ≤ n ∧ n ≤ 64) : chk 0 (csK m) (rsK n) = 0 := by
  obtain h | h : m = 63 ∨ m = 64 := by omega
  · obtain k | k : n = 63 ∨ n = 64 := by omega
    · subst h k; exact chkM1
    · subst h k; exact chkM2
  · obtain k | k : n = 63 ∨ n = 64 := by omega
    · subst h k; exact chkM3
    · subst h k; exact chkM4
theorem chk_many {m n : Nat} (h : 64 < m ∨ 64 < n) : chk 0 (csK m) (rsK n) = 3 := by
  unfold chk
  rw [csK_len, rsK_len, if_pos h]
end Go.Proofs.YtenepkgjdoddgaaGreatDoor

