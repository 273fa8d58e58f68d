/- Layer word: the iterator of a word's numbers, and the product of words, which goes over both words' numbers. -/
import Derived.Test.YtcdmaapjcckbmaaDoorWc
import Derived.RangeFuncNested
import Derived.RangeFuncBound
import Derived.RangeFuncCalls
import Derived.RangeFuncLeaves
import Derived.Shelf.Abstract
import Derived.Shelf.RegionOpen
import Derived.OwnWalkIn
import Derived.TacticsInMore
import Derived.LoopNIn
import Derived.LoopIn
namespace Go.Proofs.YtcdmaapjcckbmaaDoor
open Go.RowKit Go.Shelf
attribute [local go_sem] Oper.semAt_some
theorem index_k (a k : Nat) (hk : k < 4) (w : World) : (Instr.index 40 (W a) (.int .i64 k)).run Tryd.prog w = .ok (.int .u64 (lb a k)) w := by
  match k, hk with
  | 0, _ => exact ix0 _ _ _ _ w
  | 1, _ => exact ix1 _ _ _ _ w
  | 2, _ => exact ix2 _ _ _ _ w
  | 3, _ => exact ix3 _ _ _ _ w

/-- A block of cells that may be written. -/
def Blk (X : World) (g : Nat) (t : TypeId) (cs : Array Value) : Prop := X.heap[g]? = some (.cells cs t (0, 0))
theorem Blk.kept {X Y : World} {row : Option Nat} {g : Nat} {t : TypeId} {cs : Array Value} (h : Blk X g t cs) (hg : X.grownBy Y row) (hne : some g ≠ row) : Blk Y g t cs :=
  (hg.block g (Array.getElem?_eq_some_iff.1 h).1 hne).trans h
theorem Blk.lt {X : World} {g : Nat} {t : TypeId} {cs : Array Value} (h : Blk X g t cs) : g < X.heap.size := (Array.getElem?_eq_some_iff.1 h).1
theorem Blk.alloc {X : World} {g : Nat} {t : TypeId} {cs : Array Value} (h : Blk X g t cs) (o : Obj) : Blk (X.alloc o) g t cs := (heap_alloc_old _ _ h.lt).trans h
theorem Blk.new (X : World) (t : TypeId) (cs : Array Value) : Blk (X.alloc (.cells cs t)) X.heap.size t cs := heap_alloc_new X _
theorem blk_own {β : Type} (g : Nat) (t : TypeId) (f : β → Array Value) : Own (fun s X => Blk X g t (f s)) := fun s X Y row hs hg hrow =>
  hs.kept hg (fun e' => by obtain ⟨o, ho, hc⟩ := hrow g e'.symm; rw [show X.heap[g]? = _ from hs] at ho; cases ho; cases hc)

theorem balloc' {n : Nat} {X : World} (h : n ≤ X.heap.size) (o : Obj) : Below n X (X.alloc o) := (Below.refl n X).alloc h o
theorem Dc_congr {s t : Nat} (wd : Int) (h : s % MM = t % MM) : Dc s wd = Dc t wd := by
  unfold Dc; rw [lb_congr h 0 (by omega), lb_congr h 1 (by omega), lb_congr h 2 (by omega), lb_congr h 3 (by omega)]

end Go.Proofs.YtcdmaapjcckbmaaDoor
