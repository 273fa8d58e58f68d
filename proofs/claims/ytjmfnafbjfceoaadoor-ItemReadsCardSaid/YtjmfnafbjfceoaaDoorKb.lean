/- digest: the parts of a round, as the program does them. -/
import Derived.Test.YtjmfnafbjfceoaaDoorKa
import Derived.StillTailTactics
import Derived.BigRegion
namespace Go.Proofs.YtjmfnafbjfceoaaDoor
open Go.RowKit

/-- A region that reads, then writes once: walked once, in the text's order, in a world of which only its draws differ. -/
theorem region_tail {P : Program} {id : Nat} {Q : Exit → Act → World → Prop} {a : Act} {w : World} {l : List Oper} (n : Nat) (hm : P.follows .mixedOrders = true) (hB : Region.lexTailB .any l.toArray n = true)
    (h : ∀ wd, wd = w.drew → wpStill P l.toArray wd (fun a' => wpList P l.toArray Q (l.drop n) a' wd) (l.take n) a) : (Code.region id l.toArray true).wp P Q a w :=
  wp_region_still_tail n hm hB (h _ rfl)
theorem grown_drewN {w wr : World} {row : Option Nat} (n : Nat) (h : w.grownBy wr row) : w.grownBy (wr.drewN n) row := ⟨h.os, h.tape, h.output, h.size, h.block⟩
theorem step_world {n : Nat} {w X Y : World} {g : Nat} (h : Below n w X) (k : X.grownBy Y (some g)) (hn : n ≤ w.heap.size) (hg : n ≤ g) : Below n w Y :=
  h.grown k (Nat.le_trans hn h.size) (fun j e => by cases e; omega)
theorem grownNone {w X : World} (h : Below w.heap.size w X) : w.grownBy X none := ⟨h.os, h.tape, h.output, h.size, fun i hi _ => h.block i hi⟩
theorem grownSome {w X : World} {g : Nat} (h : w.grownBy X none) : w.grownBy X (some g) := ⟨h.os, h.tape, h.output, h.size, fun i hi _ => h.block i hi (by simp)⟩
theorem below_drew' {n : Nat} {w X : World} (h : Below n w X) : Below n w X.drew := ⟨h.os, h.tape, h.output, h.size, h.block⟩
theorem Blk.drewN {X : World} {g : Nat} {t : TypeId} {cs : Array Value} (n : Nat) (h : Blk X g t cs) : Blk (X.drewN n) g t cs := h
theorem Blk.drew' {X : World} {g : Nat} {t : TypeId} {cs : Array Value} (h : Blk X g t cs) : Blk X.drew g t cs := h

attribute [local go_sem] uv_xor uv_and uv_or uv_not
attribute [local irreducible] rot ln
/-- A row laid on another one, its first k numbers. -/
def layF (f h : Nat → Ln) (o o2 k : Nat) : Nat → Ln := fun p => if o ≤ p ∧ p < o + k then f p ^^^ h (p - o + o2) else f p
theorem layF_zero (f h : Nat → Ln) (o o2 : Nat) : layF f h o o2 0 = f := by
  funext p; unfold layF; rw [if_neg (by omega)]
theorem layF_at (f h : Nat → Ln) (o o2 k : Nat) : layF f h o o2 k (o + k) = f (o + k) := by unfold layF; rw [if_neg (by omega)]
theorem layF_succ (f h : Nat → Ln) (o o2 k : Nat) : upd (layF f h o o2 k) (o + k) (f (o + k) ^^^ h (o2 + k)) = layF f h o o2 (k + 1) := by
  funext p; unfold upd layF
  by_cases e : p = o + k
  · subst e; rw [if_pos rfl, if_pos (by omega), show o + k - o + o2 = o2 + k by omega]
  · rw [if_neg e]
    by_cases e2 : o ≤ p ∧ p < o + k
    · rw [if_pos e2, if_pos (by omega)]
    · rw [if_neg e2, if_neg (by omega)]
end Go.Proofs.YtjmfnafbjfceoaaDoor
