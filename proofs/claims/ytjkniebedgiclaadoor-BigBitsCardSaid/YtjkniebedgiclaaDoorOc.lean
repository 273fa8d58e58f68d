/- big: what bits are worth; what abides behind a range. -/
import Derived.Test.YtjkniebedgiclaaDoorOb
namespace Go.Proofs.YtjkniebedgiclaaDoor
open Go.RowKit Go.Shelf

/-- What bits are worth, the highest first. -/
def bn (t : List Bool) : Nat := t.foldl (fun n x => 2 * n + x.toNat) 0
theorem bn_snoc (t : List Bool) (x : Bool) : bn (t ++ [x]) = 2 * bn t + x.toNat := by unfold bn; rw [List.foldl_append]; rfl
theorem bn_from (t : List Bool) : ∀ n, t.foldl (fun n x => 2 * n + x.toNat) n = n * 2 ^ t.length + bn t := by
  unfold bn
  induction t with
  | nil => intro n; simp
  | cons x t ih =>
    intro n
    rw [List.foldl_cons, List.foldl_cons, ih, ih (2 * 0 + x.toNat), List.length_cons, Nat.pow_succ]
    grind
theorem bn_app (s t : List Bool) : bn (s ++ t) = bn s * 2 ^ t.length + bn t := by
  show (s ++ t).foldl _ 0 = _
  rw [List.foldl_append, bn_from]; rfl
theorem bn_em (t : List Bool) : bn (em t) = bn t := by
  unfold em
  induction t with
  | nil => rfl
  | cons x t ih =>
    cases x
    · rw [List.dropWhile_cons, if_pos (by rfl), ih]
      rfl
    · rfl
theorem bn_b8 : ∀ b : Fin 256, bn (b8 b.val) = b.val := by decide +kernel
theorem b8_len (b : Nat) : (b8 b).length = 8 := by unfold b8; simp
theorem bn_fb (l : List Nat) (h : ∀ x ∈ l, x < 256) : bn (fb l) = bv l := by
  induction l with
  | nil => rfl
  | cons x l ih =>
    have h1 : fb (x :: l) = b8 x ++ fb l := rfl
    have h2 : (fb l).length = 8 * l.length := by
      clear ih h h1
      induction l with
      | nil => rfl
      | cons y l ih => show (b8 y ++ fb l).length = _; rw [List.length_append, ih, b8_len, List.length_cons]; omega
    rw [h1, bn_app, ih fun y hy => h y (by simp [hy]), bn_b8 ⟨x, h x (by simp)⟩, bv_cons, h2, Nat.pow_mul]
theorem bn_bits (l : List Nat) (h : ∀ x ∈ l, x < 256) : bn (em (fb (dz l))) = bv l := by
  rw [bn_em, bn_fb _ (fun x hx => h x (dz_mem l x hx)), bv_dz]

theorem Abide.dk {β : Type} {B g : Nat} (hg : g < B) (N : Nat) (f : β → Nat → Nat) : Abide B (fun s X => Dk X g N (f s)) := fun _ _ _ _ hs hw hr => hs.chg (Chg.of hw) (fun e => by have := hr g e.symm; omega)
theorem Abide.md {β : Type} {B bf bl : Nat} (hf : bf < B) (hl : bl < B) (n M : Nat) : Abide B (fun (_ : β) X => Md X bf bl n M) := fun _ _ _ _ hs hw hr => hs.chg (Chg.of hw) (fun e => by have := hr bf e.symm; omega) (fun e => by have := hr bl e.symm; omega)
theorem Abide.bto {β : Type} {B : Nat} (v : Value) (l : List Nat) : Abide B (fun (_ : β) X => Bto B X v l) := fun _ X Y row hs hg hr => hs.kept hg.size fun b hb hx => hg.block b hx (fun e => by have := hr b e.symm; omega)
theorem Abide.chg {β : Type} {B : Nat} {M : Nat → Prop} {w : World} (hB : w.heap.size ≤ B) : Abide B (fun (_ : β) X => Chg M w X) := fun _ _ _ _ hs hw hr => hs.trans (Chg.of hw) (fun k hk e => by have := hr k e.symm; omega)

/-- What cannot panic need not say what follows a panic. -/
def noPanic (Q : Exit → Act → World → Prop) : Exit → Act → World → Prop
  | .panic _, _, _ => False
  | e, a, w => Q e a w
theorem wp_noPanic {P : Program} {c : Code} {Q : Exit → Act → World → Prop} {a : Act} {w : World} (h : c.wp P (noPanic Q) a w) : c.wp P Q a w :=
  wp_mono h fun e a w hq => by cases e <;> first | exact hq | exact hq.elim
theorem bto_put {X : World} {B D : Nat} {v : Value} {l : List Nat} {q : Option (List Deferred)} (h : Bto B X v l) (hD : X.heap[D]? = some (.deferred q)) (o : Obj) : Bto B (X.putObj D o) v l := by
  obtain ⟨h1, x, c, hx, h2, h3, h4⟩ := h
  refine ⟨h1, x, c, hx, h2, h3, fun hne => ?_⟩
  obtain ⟨b, q, e, hb, hbx, hc⟩ := h4 hne
  have hbD : b ≠ D := fun e2 => by
    subst e2
    obtain ⟨y, ys, hy⟩ : ∃ y ys, l = y :: ys := by
      cases l with
      | nil => exact (hne rfl).elim
      | cons y ys => exact ⟨y, ys, rfl⟩
    have h5 := hc 0 y (by rw [hy]; rfl)
    unfold World.cell? at h5
    simp [hD] at h5
  refine ⟨b, q, e, hb, by simpa using hbx, fun k u hu => ?_⟩
  rw [cell_heap (p := ⟨b, q + k, none⟩) (World.putObj_heap_other hbD)]
  exact hc k u hu
/-- Bits goes over the bits from the highest 1 on. -/
theorem bits_seq (n n₀ K B : Nat) (x0 : Option Addr) (c0 : Nat) (l : List Nat) (hn : 6 ≤ n) (hl : l.length ≤ 1000) (hlb : ∀ x ∈ l, x < 256) (w : World) (hn₀ : n₀ ≤ w.heap.size) :
    SeqW n Tryd.prog 28 #[.pointer (some ⟨K, 0, none⟩)] (fun x : Bool => #[.bool x]) n₀ (fun _ X => Blk X K 22 #[.slice x0 l.length c0] ∧ Bto B X (.slice x0 l.length c0) l) (fun pre x => ∃ r, em (fb l) = pre ++ [x] ++ r) (fun xs => xs = em (fb l)) (fun pre => pre ≠ [] ∧ ∃ r, em (fb l) = pre ++ r) w := fun L J Jx W hW hJ hJx hBd hY h0 =>
  bits1_in n hn L K n₀ B x0 l.length c0 l rfl hl hlb J Jx W (Nat.le_trans hn₀ hW.size) hJ hJx hBd hY h0
/-- A power by one bit more. -/
theorem pow_bit (a M k : Nat) (x : Bool) (A A2 E : Nat) (hA : A = a ^ k % M) (h2 : A2 = A * A % M) (hE : E = a % M) : (x = false → A2 = a ^ (2 * k + x.toNat) % M) ∧ (x = true → A2 * E % M = a ^ (2 * k + x.toNat) % M) := by
  have e : A2 = a ^ (2 * k) % M := by rw [h2, hA, ← Nat.mul_mod, ← Nat.pow_add]; congr 2; omega
  refine ⟨fun h => by subst h; exact e, fun h => ?_⟩
  subst h
  rw [e, hE, ← Nat.mul_mod, show 2 * k + true.toNat = 2 * k + 1 from rfl, Nat.pow_succ]
end Go.Proofs.YtjkniebedgiclaaDoor
