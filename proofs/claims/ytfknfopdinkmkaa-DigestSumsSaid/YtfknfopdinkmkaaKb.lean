/- digest: the parts of a round, as the program does them. -/
import Derived.Test.YtfknfopdinkmkaaKa
import Derived.StillTailTactics
import Derived.BigRegion
namespace Go.Proofs.Ytfknfopdinkmkaa
open Go.RowKit

/-- A region that reads, then writes once: walked once, in the text's order, in a world of which only its draws differ. -/
theorem region_tail {P : Program} {id : Nat} {Q : Exit → Act → World → Prop} {a : Act} {w : World} {l : List Oper} (n : Nat) (hm : P.follows .mixedOrders = true) (hB : Region.lexTailB .any l.toArray n = true)
    (h : ∀ wd, wd = w.drew → wpStill P l.toArray wd (fun a' => wpList P l.toArray Q (l.drop n) a' wd) (l.take n) a) : (Code.region id l.toArray true).wp P Q a w :=
  wp_region_still_tail n hm hB (h _ rfl)
theorem grown_drewN {w wr : World} {row : Option Nat} (n : Nat) (h : w.grownBy wr row) : w.grownBy (wr.drewN n) row := ⟨h.os, h.tape, h.output, h.size, h.block⟩
theorem step_world {n : Nat} {w X Y : World} {g : Nat} (h : Below n w X) (k : X.grownBy Y (some g)) (hn : n ≤ w.heap.size) (hg : n ≤ g) : Below n w Y :=
  h.grown k (Nat.le_trans hn h.size) (fun j e => by cases e; omega)
theorem grownNone {w X : World} (h : Below w.heap.size w X) : w.grownBy X none := ⟨h.os, h.tape, h.output, h.size, fun i hi _ => h.block i hi⟩
theorem grownSome {w X : World} {g : Nat} (h : w.grownBy X none) : w.grownBy X (some g) := ⟨h.os, h.tape, h.output, h.size, fun i hi _ => h.block i hi (by simp)⟩
theorem Blk.keep {X Y : World} {g : Nat} {t : TypeId} {cs : Array Value} (h : Blk X g t cs) (k : Below X.heap.size X Y) : Blk Y g t cs := (k.block g h.lt).trans h
theorem Blk.newS (X : World) (o : Obj) (t : TypeId) (cs : Array Value) : Blk ((X.alloc o).alloc (.cells cs t)) (X.heap.size + 1) t cs := by
  have h := Blk.new (X.alloc o) t cs
  rwa [World.size_alloc] at h
theorem below_drew' {n : Nat} {w X : World} (h : Below n w X) : Below n w X.drew := ⟨h.os, h.tape, h.output, h.size, h.block⟩
theorem Blk.drewN {X : World} {g : Nat} {t : TypeId} {cs : Array Value} (n : Nat) (h : Blk X g t cs) : Blk (X.drewN n) g t cs := h
theorem Blk.drew' {X : World} {g : Nat} {t : TypeId} {cs : Array Value} (h : Blk X g t cs) : Blk X.drew g t cs := h

attribute [local go_sem] uv_xor uv_and uv_or uv_not
attribute [local irreducible] rot ln
theorem rotl_any (x : Ln) (n : Nat) (hn : n < 4611686018427387904) (w : World) :
    Calls Try.prog 38 #[.int .u64 (ln x), .int .i64 n] w fun e w' => e = .returned (uv (rot x (n % 64))) ∧ w = w' := by
  have hm : n % 64 < 64 := Nat.mod_lt _ (by omega)
  have h := rot_nat x (n % 64) hm
  have e1 : bits .and .u64 (n : Int) 63 = ((n % 64 : Nat) : Int) := by
    have h1 := bits_and_u64_nat n 63 (by omega) (by omega)
    rw [show (63 : Nat) = 2 ^ 6 - 1 by decide, Nat.and_two_pow_sub_one_eq_mod] at h1
    exact h1
  generalize n % 64 = m at hm h e1 ⊢
  have e2 : (64 - (m : Int)).toNat = 64 - m := by omega
  go_enter Try.func38, Try.ntmps38
  go_wp2
  go_ret
  exact ⟨rfl, rfl⟩
set_option maxRecDepth 100000 in
theorem row_any (g y : Nat) (hy : y < 5) (w : World) :
    Calls Try.prog 36 #[.pointer (some ⟨g, 0, none⟩), .int .i64 y] w fun e w' => e = .returned (.pointer (some ⟨g, 5 * y, none⟩)) ∧ w = w' := by
  rcases (show y = 0 ∨ y = 1 ∨ y = 2 ∨ y = 3 ∨ y = 4 by omega) with rfl | rfl | rfl | rfl | rfl
  · have r1 : ∀ w, (Instr.arrayAt 73 (.slice (some ⟨g, 0, none⟩) 25 25)).run Try.prog w = .ok (.pointer (some ⟨g, 0, none⟩)) w := fun w => by kernel_rfl
    go_enter Try.func36, Try.ntmps36
    go_wp2
    go_ret
    exact ⟨rfl, rfl⟩
  · have r1 : ∀ w, (Instr.arrayAt 73 (.slice (some ⟨g, 5, none⟩) 20 20)).run Try.prog w = .ok (.pointer (some ⟨g, 5, none⟩)) w := fun w => by kernel_rfl
    go_enter Try.func36, Try.ntmps36
    go_wp2
    go_ret
    exact ⟨rfl, rfl⟩
  · have r1 : ∀ w, (Instr.arrayAt 73 (.slice (some ⟨g, 10, none⟩) 15 15)).run Try.prog w = .ok (.pointer (some ⟨g, 10, none⟩)) w := fun w => by kernel_rfl
    go_enter Try.func36, Try.ntmps36
    go_wp2
    go_ret
    exact ⟨rfl, rfl⟩
  · have r1 : ∀ w, (Instr.arrayAt 73 (.slice (some ⟨g, 15, none⟩) 10 10)).run Try.prog w = .ok (.pointer (some ⟨g, 15, none⟩)) w := fun w => by kernel_rfl
    go_enter Try.func36, Try.ntmps36
    go_wp2
    go_ret
    exact ⟨rfl, rfl⟩
  · have r1 : ∀ w, (Instr.arrayAt 73 (.slice (some ⟨g, 20, none⟩) 5 5)).run Try.prog w = .ok (.pointer (some ⟨g, 20, none⟩)) w := fun w => by kernel_rfl
    go_enter Try.func36, Try.ntmps36
    go_wp2
    go_ret
    exact ⟨rfl, rfl⟩

/-- A row laid on another one, its first k numbers. -/
def layF (f h : Nat → Ln) (o o2 k : Nat) : Nat → Ln := fun p => if o ≤ p ∧ p < o + k then f p ^^^ h (p - o + o2) else f p
theorem layF_zero (f h : Nat → Ln) (o o2 : Nat) : layF f h o o2 0 = f := by
  funext p; unfold layF; rw [if_neg (by omega)]
theorem layF_at (f h : Nat → Ln) (o o2 k : Nat) : layF f h o o2 k (o + k) = f (o + k) := by unfold layF; rw [if_neg (by omega)]
theorem layF_succ (f h : Nat → Ln) (o o2 k : Nat) : upd (layF f h o o2 k) (o + k) (f (o + k) ^^^ h (o2 + k)) = layF f h o o2 (k + 1) := by
  funext p; unfold upd layF
  by_cases e : p = o + k
  · subst e; rw [if_pos rfl, if_pos (by omega), show o + k - o + o2 = o2 + k by omega]
  · rw [if_neg e]
    by_cases e2 : o ≤ p ∧ p < o + k
    · rw [if_pos e2, if_pos (by omega)]
    · rw [if_neg e2, if_neg (by omega)]
set_option maxRecDepth 100000 in
set_option maxHeartbeats 1000000 in
theorem layOn_any (g o n g2 o2 n2 : Nat) (t t2 : TypeId) (f h : Nat → Ln) (ho : o + 5 ≤ n) (ho2 : o2 + 5 ≤ n2) (hne : g ≠ g2) (w : World) (hB : Blk w g t (Fc n f)) (hB2 : Blk w g2 t2 (Fc n2 h)) :
    Calls Try.prog 37 #[.pointer (some ⟨g, o, none⟩), .pointer (some ⟨g2, o2, none⟩)] w fun e w' => e = .returned (.tuple #[]) ∧ Blk w' g t (Fc n (layF f h o o2 5)) ∧ w.grownBy w' (some g) := by
  have HB := Lib.hid hB
  have HB2 := Lib.hid hB2
  clear hB hB2
  go_enter Try.func37, Try.ntmps37
  go_wp2_with fail
  go_loopw [7] (fun i wr => ∃ k : Nat, k ≤ 5 ∧ i = .int .i64 k ∧ Blk wr g t (Fc n (layF f h o o2 k)) ∧ w.grownBy wr (some g)) (fun i _ => 5 - (intOf i).toNat)
  case atStart => exact ⟨0, by omega, rfl, by rw [layF_zero]; exact HB.out, grown_refl w g⟩
  case round =>
    obtain ⟨k, hk, rfl, hX, hG⟩ := hrel
    have hX2 := HB2.out.kept hG (fun e => hne (Option.some.inj e).symm)
    by_cases hlt : k < 5
    · have c1 := (cell_of_row wr _ (o + k) _ _ _ hX).trans (Fc_get n (layF f h o o2 k) (o + k) (by omega))
      rw [layF_at] at c1
      have f1 := frozen_of_row wr _ (o + k) _ _ hX
      have c2 := (cell_of_row wr _ (o2 + k) _ _ _ hX2).trans (Fc_get n2 h (o2 + k) (by omega))
      have HX := Lib.hid (And.intro hX hG)
      clear hX hG hX2 HB HB2
      go_wp2_with fail
      go_quiet (fail)
      go_wp2_with fail
      refine region_tail 9 (by kernel_rfl) (by kernel_rfl) (fun wd hwd => ?_)
      simp only [List.take_succ_cons, List.take_zero, List.drop_succ_cons, List.drop_zero]
      have c3 : wd.cell? ⟨g, o + k, none⟩ = some (uv (f (o + k))) := by rw [hwd]; exact c1
      have f3 : wd.frozen? ⟨g, o + k, none⟩ = false := by rw [hwd]; exact f1
      have hX : Blk wd g t (Fc n (layF f h o o2 k)) := by rw [hwd]; exact HX.out.1
      have hG : w.grownBy wd (some g) := by rw [hwd]; exact ⟨HX.out.2.os, HX.out.2.tape, HX.out.2.output, HX.out.2.size, HX.out.2.block⟩
      clear hwd c1 f1 c2 HX
      have HX := Lib.hid (And.intro hX hG)
      clear hX hG
      repeat still_step
      refine wpStill_nil ?_
      go_wp2_with fail
      have hS := heap_setCell_same wd g (o + k) _ _ (uv (f (o + k) ^^^ h (o2 + k))) HX.out.1
      rw [Fc_set _ _ _ _ (by omega), layF_succ] at hS
      exact ⟨⟨k + 1, by omega, by go_num, hS, grown_set' HX.out.2 _ _⟩, by simp [intOf]; omega⟩
    · obtain rfl : k = 5 := by omega
      have HX := Lib.hid (And.intro hX hG)
      clear hX hG hX2 HB HB2
      go_wp2
      go_end0
      exact ⟨rfl, HX.out⟩
end Go.Proofs.Ytfknfopdinkmkaa
