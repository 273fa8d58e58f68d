/- bits: And, Or, Xor, Not. -/
import Derived.Test.YthjbiojbmjgkbaaDoorBb
namespace Go.Proofs.YthjbiojbmjgkbaaDoor
open Go.RowKit
attribute [local go_sem] ix0 ix1 ix2 ix3
theorem Blk.get4 {X : World} {g : Nat} {t : TypeId} {x0 x1 x2 x3 : Value} (h : Blk X g t #[x0, x1, x2, x3]) :
    X.cell? ⟨g, 0, none⟩ = some x0 ∧ X.cell? ⟨g, 1, none⟩ = some x1 ∧ X.cell? ⟨g, 2, none⟩ = some x2 ∧ X.cell? ⟨g, 3, none⟩ = some x3 ∧
    X.frozen? ⟨g, 0, none⟩ = false ∧ X.frozen? ⟨g, 1, none⟩ = false ∧ X.frozen? ⟨g, 2, none⟩ = false ∧ X.frozen? ⟨g, 3, none⟩ = false :=
  ⟨cell_of_row X g 0 _ _ _ h, cell_of_row X g 1 _ _ _ h, cell_of_row X g 2 _ _ _ h, cell_of_row X g 3 _ _ _ h, frozen_of_row X g 0 _ _ h, frozen_of_row X g 1 _ _ h, frozen_of_row X g 2 _ _ h, frozen_of_row X g 3 _ _ h⟩
/-- Four noughts. -/
abbrev Zc : Array Value := #[.int .u64 0, .int .u64 0, .int .u64 0, .int .u64 0]

def andN (f : Nat → Nat) (n : Nat) : Nat := foN (· &&& ·) (MM - 1) f n
def orN (f : Nat → Nat) (n : Nat) : Nat := foN (· ||| ·) 0 f n
def xorN (f : Nat → Nat) (n : Nat) : Nat := foN (· ^^^ ·) 0 f n
/-- fold's answer x behind a first world: what And, Or, Xor do with it. -/
theorem and_of (v : Value) (x : Nat) (w : World) (hc : ∀ X : World, Below w.heap.size w X → Calls Tryd.prog 45 #[W (MM - 1), .func (.func 47) #[] #[], v] X fun e w' => e = .returned (W x) ∧ Below X.heap.size X w') :
    Calls Tryd.prog 12 #[v] w fun e w' => e = .returned (W x) ∧ Below w.heap.size w w' := by
  have E := Lib.hid W_all
  have R := Lib.hid (Blk.new w 25 Zc)
  have HB := Lib.hid (balloc (Below.refl w.heap.size w) (.cells Zc 25))
  go_enter Tryd.func12, Tryd.ntmps12
  go_wp2_with fail
  refine (filled_any _ _).mono ?_
  rintro e w1 ⟨rfl, h1⟩
  rw [← E.out]
  clear E
  have HB1 := Lib.hid (bstep HB.out h1)
  have R1 := Lib.hid (R.out.keep h1)
  clear HB R h1
  go_wp2_with fail
  refine (hc _ HB1.out).mono ?_
  rintro e w2 ⟨rfl, h2⟩
  have hB := Lib.hid (bstep HB1.out h2)
  obtain ⟨c0, c1, c2, c3, f0, f1, f2, f3⟩ := (R1.out.keep h2).get4
  clear HB1 R1 h2
  go_wp2
  exact bodyPost_ret (v := W x) (by simp [results, Tryd.results12, go_sem, c0, c1, c2, c3]) rfl ⟨rfl, step_world hB.out (grown_set4 w2 w.heap.size _ _ _ _) (Nat.le_refl _) (Nat.le_refl _)⟩
theorem or_of (v : Value) (x : Nat) (w : World) (hc : ∀ X : World, Below w.heap.size w X → Calls Tryd.prog 45 #[W 0, .func (.func 50) #[] #[], v] X fun e w' => e = .returned (W x) ∧ Below X.heap.size X w') :
    Calls Tryd.prog 14 #[v] w fun e w' => e = .returned (W x) ∧ Below w.heap.size w w' := by
  have E := Lib.hid W_zero
  have R := Lib.hid (Blk.new w 25 Zc)
  have HB := Lib.hid (balloc (Below.refl w.heap.size w) (.cells Zc 25))
  go_enter Tryd.func14, Tryd.ntmps14
  go_wp2_with fail
  rw [← E.out]
  refine (hc _ HB.out).mono ?_
  rintro e w2 ⟨rfl, h2⟩
  have hB := Lib.hid (bstep HB.out h2)
  obtain ⟨c0, c1, c2, c3, f0, f1, f2, f3⟩ := (R.out.keep h2).get4
  clear HB R h2 E
  go_wp2
  exact bodyPost_ret (v := W x) (by simp [results, Tryd.results14, go_sem, c0, c1, c2, c3]) rfl ⟨rfl, step_world hB.out (grown_set4 w2 w.heap.size _ _ _ _) (Nat.le_refl _) (Nat.le_refl _)⟩
theorem xor_of (v : Value) (x : Nat) (w : World) (hc : ∀ X : World, Below w.heap.size w X → Calls Tryd.prog 45 #[W 0, .func (.func 51) #[] #[], v] X fun e w' => e = .returned (W x) ∧ Below X.heap.size X w') :
    Calls Tryd.prog 15 #[v] w fun e w' => e = .returned (W x) ∧ Below w.heap.size w w' := by
  have E := Lib.hid W_zero
  have R := Lib.hid (Blk.new w 25 Zc)
  have HB := Lib.hid (balloc (Below.refl w.heap.size w) (.cells Zc 25))
  go_enter Tryd.func15, Tryd.ntmps15
  go_wp2_with fail
  rw [← E.out]
  refine (hc _ HB.out).mono ?_
  rintro e w2 ⟨rfl, h2⟩
  have hB := Lib.hid (bstep HB.out h2)
  obtain ⟨c0, c1, c2, c3, f0, f1, f2, f3⟩ := (R.out.keep h2).get4
  clear HB R h2 E
  go_wp2
  exact bodyPost_ret (v := W x) (by simp [results, Tryd.results15, go_sem, c0, c1, c2, c3]) rfl ⟨rfl, step_world hB.out (grown_set4 w2 w.heap.size _ _ _ _) (Nat.le_refl _) (Nat.le_refl _)⟩

theorem WordsAt.below {w X : World} {b o n m : Nat} {f : Nat → Nat} (h : WordsAt w b o n f) (hb : b < m) (k : Below m w X) : WordsAt X b o n f := fun i hi => by
  obtain ⟨h0, h1, h2, h3⟩ := h i hi
  exact ⟨(k.cell (p := ⟨b, _, none⟩) hb).trans h0, (k.cell (p := ⟨b, _, none⟩) hb).trans h1, (k.cell (p := ⟨b, _, none⟩) hb).trans h2, (k.cell (p := ⟨b, _, none⟩) hb).trans h3⟩
section
variable (b o n cap : Nat) (f : Nat → Nat) (w : World) (hn : n ≤ 9223372036854775807) (hb : b < w.heap.size) (hf : WordsAt w b o n f)
include hn hb hf
theorem and_any : Calls Tryd.prog 12 #[.slice (some ⟨b, o, none⟩) n cap] w fun e w' => e = .returned (W (andN f n)) ∧ Below w.heap.size w w' :=
  and_of _ _ w fun X hX => bfold_and b o n cap f X hn (Nat.lt_of_lt_of_le hb hX.size) (hf.below hb hX) _
theorem or_any : Calls Tryd.prog 14 #[.slice (some ⟨b, o, none⟩) n cap] w fun e w' => e = .returned (W (orN f n)) ∧ Below w.heap.size w w' :=
  or_of _ _ w fun X hX => bfold_or b o n cap f X hn (Nat.lt_of_lt_of_le hb hX.size) (hf.below hb hX) _
theorem xor_any : Calls Tryd.prog 15 #[.slice (some ⟨b, o, none⟩) n cap] w fun e w' => e = .returned (W (xorN f n)) ∧ Below w.heap.size w w' :=
  xor_of _ _ w fun X hX => bfold_xor b o n cap f X hn (Nat.lt_of_lt_of_le hb hX.size) (hf.below hb hX) _
end
theorem and_nil (w : World) : Calls Tryd.prog 12 #[.slice none 0 0] w fun e w' => e = .returned (W (MM - 1)) ∧ Below w.heap.size w w' := and_of _ _ w fun X _ => bfold_nil _ _ X
theorem or_nil (w : World) : Calls Tryd.prog 14 #[.slice none 0 0] w fun e w' => e = .returned (W 0) ∧ Below w.heap.size w w' := or_of _ _ w fun X _ => bfold_nil _ _ X
theorem xor_nil (w : World) : Calls Tryd.prog 15 #[.slice none 0 0] w fun e w' => e = .returned (W 0) ∧ Below w.heap.size w w' := xor_of _ _ w fun X _ => bfold_nil _ _ X
end Go.Proofs.YthjbiojbmjgkbaaDoor
