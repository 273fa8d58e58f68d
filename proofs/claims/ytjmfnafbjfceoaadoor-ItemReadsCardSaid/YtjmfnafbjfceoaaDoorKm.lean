/- digest: padded, of no bytes. -/
import Derived.Test.YtjmfnafbjfceoaaDoorKl
import Derived.Test.YtjmfnafbjfceoaaDoorTn
import Derived.Deep.WholeRow
import Derived.Laws.Tables
import Derived.Stop.RegionWithIn
import Derived.Sort.LoopGhostIn
namespace Go.Proofs.YtjmfnafbjfceoaaDoor
open Go.RowKit Go.Shelf
attribute [local go_sem] Oper.semAt_some
attribute [local irreducible] ln rot
/-- The bytes behind no bytes. -/
def padB : Nat → Nat := fun p => if p = 0 then 1 else if p = 135 then 128 else 0
theorem padB_lt (k : Nat) (_h : k < 136) : padB k < 256 := by
  unfold padB
  by_cases h1 : k = 0
  · rw [if_pos h1]; omega
  · rw [if_neg h1]
    by_cases h2 : k = 135
    · rw [if_pos h2]; omega
    · rw [if_neg h2]; omega
theorem wpIn_load_rowF {F : Fence} (hF : ∀ f, F.fn f) {P : Program} {n : Nat} {op : Oper} {a : Act} {w : World} {K : Act → World → Prop} {Q : Exit → Act → World → Prop} (ty : TypeId) (x : Operand) (ho : op.op = .load ty x)
    (b o : Nat) (hx : a.eval x = .pointer (some ⟨b, o, none⟩)) (cs : List Value) (d : TypeDesc) (hc : w.rangeAt b o cs)
    (hu : P.underlying ty = some d) (hd : d.isRow = true) (hi : (P.info? ty).map (·.size) = some cs.length)
    (h : K (a.put op.dst (.agg cs.toArray)) w) : op.wpIn F n P a w K Q := by
  refine ⟨fun _ _ => hF _, ?_⟩
  rw [Oper.semAt_plain F _ _ (fun c e => by rw [ho] at e; cases e)]
  unfold execOp
  simp only [ho, hx, Instr.loadAt, Instr.sureAddr, Sem.run_bind, Sem.run_pure, Result.andThen_ok, run_loadVar_mid w b o ty cs d hc hu hd hi]
  exact h
theorem wpIn_load_rowA {F : Fence} (hF : ∀ f, F.fn f) {P : Program} {n : Nat} {op : Oper} {a : Act} {w : World} {K : Act → World → Prop} {Q : Exit → Act → World → Prop} (ty : TypeId) (x : Operand) (ho : op.op = .load ty x)
    (b o : Nat) (hx : a.eval x = .pointer (some ⟨b, o, none⟩)) (cs : Array Value) (d : TypeDesc) (hc : w.rangeAt b o cs.toList)
    (hu : P.underlying ty = some d) (hd : d.isRow = true) (hi : (P.info? ty).map (·.size) = some cs.size)
    (h : K (a.put op.dst (.agg cs)) w) : op.wpIn F n P a w K Q :=
  wpIn_load_rowF hF ty x ho b o hx cs.toList d hc hu hd hi (by rwa [Array.toArray_toList])
theorem wpIn_store_rowF {F : Fence} (hF : ∀ f, F.fn f) {P : Program} {n : Nat} {o : Oper} {a : Act} {w : World} {K : Act → World → Prop} {Q : Exit → Act → World → Prop} (ty : TypeId) (x y : Operand) (ho : o.op = .store ty x y)
    (g : Nat) (cells : Array Value) (hx : a.eval x = .pointer (some ⟨g, 0, none⟩)) (hy : a.eval y = .agg cells)
    (t : TypeId) (old : Array Value) (hg : w.heap[g]? = some (.cells old t (0, 0))) (hi : (P.info? ty).map (·.size) = some cells.size)
    (hold : old.size = cells.size) (h1 : cells.all (·.oneCell') = true)
    (h : K (a.put o.dst undef) (w.setRow g cells)) : o.wpIn F n P a w K Q := by
  refine ⟨fun _ _ => hF _, ?_⟩
  rw [Oper.semAt_plain F _ _ (fun c e => by rw [ho] at e; cases e)]
  unfold execOp
  simp only [ho, hx, hy, Instr.storeAt, Instr.sureAddr, Sem.run_bind, Sem.run_pure, Result.andThen_ok, run_storeVar_row w g t ty old cells hg hi hold h1]
  exact h

theorem blk_cells' {X Y : World} {g : Nat} {t : TypeId} {cs : Array Value} {row : Option Nat} (h : Blk X g t cs) (hg : X.grownBy Y row) (hr : ∀ r, row = some r → ∃ o : Obj, X.heap[r]? = some o ∧ o.isCells = false) : Blk Y g t cs :=
  h.kept hg (fun e => by obtain ⟨o, h1, h2⟩ := hr g e.symm; unfold Blk at h; rw [h] at h1; cases h1; cases h2)
theorem Abide.size {β : Type} (B N : Nat) : Abide B (fun (_ : β) X => N ≤ X.heap.size) := fun _ _ _ _ hs hg _ => Nat.le_trans hs hg.size
theorem pad_cells : ((Bc 136 (fun _ => 0)).setIfInBounds 0 (.int .u8 1)).setIfInBounds 135 (.int .u8 128) = Bc 136 padB := by kernel_rfl
end Go.Proofs.YtjmfnafbjfceoaaDoor
