/- The reference of layer word: Add, by a contract. -/
import Derived.Test.YtcfnhilcpfiocaaWu
import Derived.Deep.RegionHeld
namespace Go.Proofs.Ytcfnhilcpfiocaa
open Go.RowKit
attribute [local go_sem] ix0 ix1 ix2 ix3
theorem Blk.keep {X Y : World} {g : Nat} {t : TypeId} {cs : Array Value} (h : Blk X g t cs) (k : Below X.heap.size X Y) : Blk Y g t cs := (k.block g h.lt).trans h
theorem rstep {w W w1 : World} (k : Below W.heap.size W w1) (h : Below w.heap.size w W) : Below w.heap.size w w1 := bstep h k
theorem Blk.drewR {X : World} {g : Nat} {t : TypeId} {cs : Array Value} (h : Blk X g t cs) : Blk X.drew g t cs := h
theorem Blk.newS (X : World) (o : Obj) (t : TypeId) (cs : Array Value) : Blk ((X.alloc o).alloc (.cells cs t)) (X.heap.size + 1) t cs := by
  have h := Blk.new (X.alloc o) t cs
  rwa [World.size_alloc] at h
theorem join2 {C : Nat → Nat → World → Prop} {G : Prop} (P : Nat → Nat → World → Prop) (main : (∀ X Y wz, C X Y wz → P X Y wz) → G) (hrest : ∀ X Y wz, C X Y wz → P X Y wz) : G := main hrest
theorem World.size_drew' (w : World) : w.drew.heap.size = w.heap.size := rfl
theorem blk_setCells_any (b : Nat) (t : TypeId) : ∀ (vs : List Value) (o : Nat) (w : World) (cs : Array Value), Blk w b t cs → ∃ cs', cs'.size = cs.size ∧ Blk (w.setCells b o vs) b t cs'
  | [], _, _, cs, h => ⟨cs, rfl, h⟩
  | v :: vs, o, w, cs, h => by
    obtain ⟨cs', h1, h2⟩ := blk_setCells_any b t vs (o + 1) (w.setCell ⟨b, o, none⟩ v) (cs.setIfInBounds o v) (heap_setCell_same w b o _ _ v h)
    exact ⟨cs', by rw [h1, Array.size_setIfInBounds], h2⟩
/-- A whole block is laid anew. -/
theorem blk_setCells {w : World} {b : Nat} {t : TypeId} {cs : Array Value} (h : Blk w b t cs) (vs : Array Value) (hs : vs.size = cs.size) (_h1 : vs.all (·.oneCell') = true) : Blk (w.setCells b 0 vs.toList) b t vs := by
  obtain ⟨cs', h1, h2⟩ := blk_setCells_any b t vs.toList 0 w cs h
  have h3 := World.rangeAt_setCells_same w b 0 vs.toList (h.there _ (by rw [Array.length_toList, hs]; exact Nat.le_refl _))
  have e : cs' = vs := by
    apply Array.ext_getElem?
    intro j
    by_cases hj : j < vs.size
    · have h4 := h3 j vs[j] (by simp [hj])
      rw [Nat.zero_add] at h4
      rw [← cell_of_row _ b j _ _ _ h2, h4, Array.getElem?_eq_getElem hj]
    · rw [Array.getElem?_eq_none (by omega), Array.getElem?_eq_none (by omega)]
  rw [← e]; rw [e] at h2 ⊢; exact h2
theorem blk_setCells_far {g : Nat} {t : TypeId} {cs : Array Value} {w : World} (h : Blk w g t cs) (b : Nat) : ∀ (o : Nat) (vs : List Value), g ≠ b → Blk (w.setCells b o vs) g t cs := by
  intro o vs hne
  induction vs generalizing o w with
  | nil => exact h
  | cons v vs ih => exact ih ((Below.heap_setCell w ⟨b, o, none⟩ v g hne).trans h) (o + 1)

end Go.Proofs.Ytcfnhilcpfiocaa
