/- A drawn region in a round, walked as a plain one under a condition on the world. -/
import Derived.Test.YtcfnhilcpfiocaaStj
namespace Go.Proofs.Ytcfnhilcpfiocaa
open Go.RowKit Go.Shelf Go.ChangeMaps Go.MapKept

def onlyN (Q : Exit → Act → World → Prop) : Exit → Act → World → Prop
  | .normal, a, w => Q .normal a w
  | _, _, _ => False
theorem onlyN_lets {Q : Exit → Act → World → Prop} : ¬ LetsOut (onlyN Q) := fun ⟨_, _, h⟩ => h
theorem rows_wide {n : Nat} {P : Program} {row : String} {args : Array Value} {w : World} {R : Value → World → Prop} (h : Rows P row args w R) : RowsIn Fence.wide n P row args w R :=
  fun c cs _ => let ⟨v, w', r, s⟩ := h c cs; ⟨v, w', r, stepsIn_wide.2 s⟩
/-- What is walked plainly, and lets nothing out, is walked at the wide fence. -/
theorem wpAnyIn_of_plain {n : Nat} {P : Program} {md : Region.Mode} {ops : Array Oper} {Q : Exit → Act → World → Prop} (hL : ¬ LetsOut Q) : ∀ (fuel : Nat) (listed : Array Bool) (a : Act) (w : World), wpAny P md ops Q fuel listed a w → wpAnyIn Fence.wide n P md ops Q fuel listed a w
  | 0, _, _, _, h => h
  | fuel + 1, listed, a, w, h => ⟨h.1, fun i hi => by
      have h2 := h.2 i hi
      unfold wpOp at h2
      unfold wpOpIn
      cases ho : ops[i]? with
      | none => rw [ho] at h2; exact wpAnyIn_of_plain hL fuel _ _ _ h2
      | some o =>
        rw [ho] at h2
        dsimp only at h2 ⊢
        split
        · rename_i hw
          rw [if_pos hw] at h2
          rcases h2 with h2 | ⟨_, hl⟩
          · refine ⟨fun _ _ => trivial, ?_⟩
            rw [show Fence.wide.round = none from rfl, Oper.semAt_none]
            unfold Oper.wp at h2
            generalize (execOp a.eval o).run P w = r at *
            cases r with
            | ok x w' =>
              cases x with
              | value v => exact wpAnyIn_of_plain hL fuel _ _ _ h2
              | skip => exact wpAnyIn_of_plain hL fuel _ _ _ h2
              | defer d => exact wpAnyIn_of_plain hL fuel _ _ _ h2
              | enter f args =>
                refine ⟨fun h => (by cases h), callsIn_wide.2 (Calls.mono h2 fun e w'' he => ?_)⟩
                cases e with
                | returned u => exact wpAnyIn_of_plain hL fuel _ _ _ he
                | panicked c => exact he
                | outgrown => exact he
              | row row args => exact ⟨fun h => (by cases h), rows_wide (Rows.mono h2 fun u w'' he => wpAnyIn_of_plain hL fuel _ _ _ he)⟩
              | _ => exact h2.elim
            | halt x w' => cases x <;> first | exact h2 | exact h2.elim
          · exact (hL hl).elim
        · rename_i hw
          rw [if_neg hw] at h2
          exact ⟨fun _ _ => trivial, wpAnyIn_of_plain hL fuel _ _ _ h2⟩⟩
/-- A drawn region in a round, under a condition S on the world that each operation keeps. -/
theorem region_round_held {S : World → Prop} {n : Nat} {P : Program} {ops : Array Oper} {Q : Exit → Act → World → Prop} {id : Nat} {a : Act} {w : World} (l : Nat) (hm : P.follows .mixedOrders = true) (hnd : (ops.all fun o => match o.op with | .defer _ => false | _ => true) = true) (hS : S w.drew)
    (h : S w.drew → wpAnyH P .any ops (onlyN Q) S ops.size (Array.replicate ops.size false) a w.drew) : (Code.region id ops true).wpIn (Fence.wide.inRound l) n P Q a w :=
  wpIn_mono (wpIn_region_round (n := n) l hm hnd (wpAnyIn_of_plain onlyN_lets _ _ _ _ (wpAny_of_held _ _ _ _ (h hS)))) fun e a' w' hq => by cases e <;> first | exact hq | exact hq.elim
theorem Chg.abide {β : Type} (M : Nat → Prop) (z : World) : Abide z.heap.size (fun (_ : β) X => Chg M z X) := fun _ X Y row hs hg hr =>
  hs.trans (Chg.of hg) (fun k hk e => by have := hr k e.symm; omega)
theorem sblk_cells {X Y : World} {g : Nat} {t : TypeId} {cs : Array Value} {row : Option Nat} (h : Blk X g t cs) (hg : X.grownBy Y row) (hr : ∀ r, row = some r → ∃ o : Obj, X.heap[r]? = some o ∧ o.isCells = false) : Blk Y g t cs :=
  h.kept hg (fun e => by obtain ⟨o, h1, h2⟩ := hr g e.symm; unfold Blk at h; rw [h] at h1; cases h1; cases h2)
theorem ne_of_cells {X : World} {a b : Nat} {t u : TypeId} {cs ds : Array Value} (h : Blk X a t cs) (k : Blk X b u ds) (hne : cs ≠ ds) : a ≠ b := by
  rintro rfl
  unfold Blk at h k
  rw [h] at k; cases k; exact hne rfl
theorem ne_of_cell {X : World} {a o b : Nat} {u : TypeId} {v x : Value} (h : X.cell? ⟨a, o, none⟩ = some v) (k : Blk X b u #[x]) (hne : v ≠ x) : a ≠ b := by
  rintro rfl
  have := cell_of_row _ _ o _ _ _ k
  rw [h] at this
  cases o with
  | zero => simp at this; exact hne this
  | succ o => simp at this
theorem cell_chg {M : Nat → Prop} {X Y : World} {p : Addr} {v : Value} (h : X.cell? p = some v) (k : Chg M X Y) (hM : ¬ M p.block) : Y.cell? p = some v := (cell_heap (k.block _ (World.block_lt_of_cell? X _ h) hM)).trans h
/-- What the iterator over two maps reads stays where one box of a truth is turned. -/
theorem EaB.chg {A1 A2 s c gL b1 b2 g1 : Nat} {u : TypeId} {x : Value} {f m : Nat → Option (Nat × Nat)} {X Y : World} (h : EaB A1 A2 s c gL b1 b2 f m X) (k : Chg (fun i => i = g1) X Y) (hg : Blk X g1 u #[x]) (h1 : ∀ b, x ≠ .map b) (h2 : ∀ p n c, x ≠ .slice p n c) (h3 : ∀ a b c, x ≠ .func a b c) : EaB A1 A2 s c gL b1 b2 f m Y := by
  obtain ⟨⟨e1, e2, e3, e4, ⟨s', c', e5, e6, e7⟩⟩, e8, e9⟩ := h
  exact ⟨⟨e1.chg k (ne_of_cells e1 hg (fun e => h2 _ _ _ (by injection e with e; injection e with e; exact e.symm))), cell_chg e2 k (ne_of_cell e2 hg (fun e => h1 _ e.symm)), cell_chg e3 k (ne_of_cell e3 hg (fun e => h1 _ e.symm)), e4.chg k (ne_of_cells e4 hg (fun e => h3 _ _ _ (by injection e with e; injection e with e; exact e.symm))),
    ⟨s', c', e5.chg k (ne_of_cells e5 hg (fun e => h2 _ _ _ (by injection e with e; injection e with e; exact e.symm))), cell_chg e6 k (ne_of_cell e6 hg (fun e => h1 _ e.symm)), cell_chg e7 k (ne_of_cell e7 hg (fun e => h1 _ e.symm))⟩⟩, e8.chg k (Ne.symm (blk_ne_map hg e8)), e9.chg k (Ne.symm (blk_ne_map hg e9))⟩

end Go.Proofs.Ytcfnhilcpfiocaa
