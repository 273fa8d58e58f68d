/- big: rows of digits in memory; worlds that differ in known blocks alone; add's closure. -/
import Derived.Test.YtjkniebedgiclaaDoorFa
import Derived.Test.YtjkniebedgiclaaDoorFb
import Derived.Deep.RegionHeld3
import Derived.Deep.RegionLaw
namespace Go.Proofs.YtjkniebedgiclaaDoor
open Go.RowKit Go.Shelf

/-- A world that differs from another in new blocks and in those of M alone. -/
def Chg (M : Nat → Prop) (w X : World) : Prop := X.os = w.os ∧ X.tape = w.tape ∧ X.output = w.output ∧ w.heap.size ≤ X.heap.size ∧ ∀ k, k < w.heap.size → ¬ M k → X.heap[k]? = w.heap[k]?
theorem Chg.refl (M : Nat → Prop) (w : World) : Chg M w w := ⟨rfl, rfl, rfl, Nat.le_refl _, fun _ _ _ => rfl⟩
theorem Chg.size {M : Nat → Prop} {w X : World} (h : Chg M w X) : w.heap.size ≤ X.heap.size := h.2.2.2.1
theorem Chg.block {M : Nat → Prop} {w X : World} (h : Chg M w X) (k : Nat) (hk : k < w.heap.size) (hm : ¬ M k) : X.heap[k]? = w.heap[k]? := h.2.2.2.2 k hk hm
theorem Chg.of {w X : World} {r : Option Nat} (h : w.grownBy X r) : Chg (fun k => some k = r) w X := ⟨h.os, h.tape, h.output, h.size, fun k hk hm => h.block k hk hm⟩
theorem Chg.mono {M N : Nat → Prop} {w X : World} (h : Chg M w X) (hM : ∀ k, k < w.heap.size → M k → N k) : Chg N w X := ⟨h.1, h.2.1, h.2.2.1, h.2.2.2.1, fun k hk hn => h.2.2.2.2 k hk fun hm => hn (hM k hk hm)⟩
theorem Chg.trans {M N : Nat → Prop} {w X Y : World} (h : Chg M w X) (k : Chg N X Y) (hN : ∀ k, k < w.heap.size → N k → M k) : Chg M w Y :=
  ⟨k.1.trans h.1, k.2.1.trans h.2.1, k.2.2.1.trans h.2.2.1, Nat.le_trans h.size k.size, fun i hi hm => (k.block i (Nat.lt_of_lt_of_le hi h.size) fun hn => hm (hN i hi hn)).trans (h.block i hi hm)⟩
theorem Chg.below {M : Nat → Prop} {n : Nat} {w X : World} (h : Chg M w X) (hn : n ≤ w.heap.size) (hM : ∀ k, k < n → ¬ M k) : Below n w X := ⟨h.1, h.2.1, h.2.2.1, h.size, fun k hk => h.block k (by omega) (hM k hk)⟩
theorem Chg.new {M : Nat → Prop} {w X : World} (h : Below w.heap.size w X) : Chg M w X := ⟨h.os, h.tape, h.output, h.size, fun k hk _ => h.block k hk⟩
theorem Chg.from {n : Nat} {w X : World} (h : Below n w X) : Chg (fun k => n ≤ k) w X := ⟨h.os, h.tape, h.output, h.size, fun k _ hm => h.block k (by omega)⟩
theorem Chg.grown {g : Nat} {w X : World} (h : Chg (fun k => k = g) w X) : w.grownBy X (some g) := ⟨h.1, h.2.1, h.2.2.1, h.size, fun k hk hm => h.block k hk fun e => hm (by rw [e])⟩
theorem Chg.alloc (M : Nat → Prop) (w : World) (o : Obj) : Chg M w (w.alloc o) := Chg.new ((Below.refl _ w).alloc (Nat.le_refl _) o)
theorem Chg.then_alloc {M : Nat → Prop} {w X : World} (h : Chg M w X) (o : Obj) : Chg M w (X.alloc o) := h.trans (Chg.alloc (fun _ => False) X o) (fun _ _ hf => hf.elim)
theorem Chg.set {M : Nat → Prop} {w X : World} (h : Chg M w X) (g i : Nat) (v : Value) (hg : g < w.heap.size → M g) : Chg M w (X.setCell ⟨g, i, none⟩ v) :=
  h.trans (Chg.of (grown_set' (grown_refl X g) i v)) (fun k hk e => by injection e with e; subst e; exact hg hk)
theorem Chg.drew {M : Nat → Prop} {w X : World} (h : Chg M w X) : Chg M w X.drew := ⟨h.1, h.2.1, h.2.2.1, h.2.2.2.1, h.2.2.2.2⟩
theorem Chg.drewN {M : Nat → Prop} {w X : World} (n : Nat) (h : Chg M w X) : Chg M w (X.drewN n) := ⟨h.1, h.2.1, h.2.2.1, h.2.2.2.1, h.2.2.2.2⟩
theorem Blk.chg {M : Nat → Prop} {X Y : World} {g : Nat} {t : TypeId} {cs : Array Value} (h : Blk X g t cs) (k : Chg M X Y) (hg : ¬ M g) : Blk Y g t cs := (k.block g h.lt hg).trans h
theorem Bto.chg {M : Nat → Prop} {X Y : World} {B : Nat} {v : Value} {l : List Nat} (h : Bto B X v l) (k : Chg M X Y) (hM : ∀ b, b < B → ¬ M b) : Bto B Y v l := h.kept k.size fun b hb hx => k.block b hx (hM b hb)

/-- N digits lie at a block's head. -/
def Dk (X : World) (b N : Nat) (f : Nat → Nat) : Prop := ∃ cs, Blk X b 72 cs ∧ (∀ i, i < N → cs[i]? = some (.int .u64 (f i : Nat))) ∧ ∀ i, i < N → f i < B64
theorem Dk.lt {X : World} {b N : Nat} {f : Nat → Nat} (h : Dk X b N f) : b < X.heap.size := h.choose_spec.1.lt
theorem Dk.dig {X : World} {b N : Nat} {f : Nat → Nat} (h : Dk X b N f) (i : Nat) (hi : i < N) : f i < B64 := h.choose_spec.2.2 i hi
theorem Dk.cell {X : World} {b N : Nat} {f : Nat → Nat} (h : Dk X b N f) (i : Nat) (hi : i < N) : X.cell? ⟨b, i, none⟩ = some (.int .u64 (f i : Nat)) := by
  obtain ⟨cs, h1, h2, _⟩ := h
  exact (cell_of_row _ _ i _ _ _ h1).trans (h2 i hi)
theorem Dk.free {X : World} {b N : Nat} {f : Nat → Nat} (h : Dk X b N f) (i : Nat) : X.frozen? ⟨b, i, none⟩ = false := frozen_of_row _ _ i _ _ h.choose_spec.1
theorem Dk.chg {M : Nat → Prop} {X Y : World} {b N : Nat} {f : Nat → Nat} (h : Dk X b N f) (k : Chg M X Y) (hb : ¬ M b) : Dk Y b N f := by
  obtain ⟨cs, h1, h2⟩ := h
  exact ⟨cs, h1.chg k hb, h2⟩
theorem Dk.keep {X Y : World} {b N : Nat} {f : Nat → Nat} (h : Dk X b N f) (k : Below X.heap.size X Y) : Dk Y b N f := h.chg (M := fun _ => False) (Chg.new k) (fun h => h)
theorem Dk.congr {X : World} {b N : Nat} {f g : Nat → Nat} (h : Dk X b N f) (e : ∀ i, i < N → f i = g i) : Dk X b N g := by
  obtain ⟨cs, h1, h2, h3⟩ := h
  exact ⟨cs, h1, fun i hi => by rw [← e i hi]; exact h2 i hi, fun i hi => by rw [← e i hi]; exact h3 i hi⟩
theorem Dk.less {X : World} {b N n : Nat} {f : Nat → Nat} (h : Dk X b N f) (hn : n ≤ N) : Dk X b n f := by
  obtain ⟨cs, h1, h2, h3⟩ := h
  exact ⟨cs, h1, fun i hi => h2 i (by omega), fun i hi => h3 i (by omega)⟩
def upf (f : Nat → Nat) (k v : Nat) : Nat → Nat := fun i => if i = k then v else f i
theorem Dk.set {X : World} {b N : Nat} {f : Nat → Nat} (h : Dk X b N f) (k v : Nat) (hv : v < B64) : Dk (X.setCell ⟨b, k, none⟩ (.int .u64 (v : Nat))) b N (upf f k v) := by
  obtain ⟨cs, h1, h2, h3⟩ := h
  refine ⟨_, heap_setCell_same X b k cs _ (.int .u64 (v : Nat)) h1, fun i hi => ?_, fun i hi => ?_⟩
  · have hs : i < cs.size := by
      by_cases e : i < cs.size
      · exact e
      · have := h2 i hi; rw [Array.getElem?_eq_none (by omega)] at this; cases this
    unfold upf
    by_cases e : i = k
    · subst e; rw [if_pos rfl, Array.getElem?_setIfInBounds_self_of_lt hs]
    · rw [if_neg e, Array.getElem?_setIfInBounds_ne (Ne.symm e)]; exact h2 i hi
  · unfold upf
    by_cases e : i = k
    · rw [if_pos e]; exact hv
    · rw [if_neg e]; exact h3 i hi
theorem Dk.made (X : World) (n : Nat) : Dk (X.alloc (.cells (Array.replicate n (.int .u64 0)) 72)) X.heap.size n (fun _ => 0) := by
  refine ⟨_, Blk.new X _ _, fun i hi => ?_, fun i _ => B64_pos⟩
  rw [Array.getElem?_replicate, if_pos hi]; rfl
theorem not_or {p q : Prop} (h : ¬ p) (k : ¬ q) : ¬ (p ∨ q) := fun h' => h'.elim h k

set_option maxRecDepth 100000 in
set_option maxHeartbeats 2000000 in
theorem lay_any (c g t b o n cap N i bt bo ba : Nat) (F : Nat → Nat) (hc : c < B64) (hg : g < B64) (ht : t < B64) (hi : i < n) (hn : n ≤ 1000) (hN : o + n ≤ N) (w : World)
    (h1 : Blk w bt 72 #[.int .u64 t]) (h2 : Blk w bo 54 #[.slice (some ⟨b, o, none⟩) n cap]) (h3 : Blk w ba 3 #[.int .i64 i]) (h4 : Dk w b N F) (e0 : b ≠ bo) (e1 : b ≠ ba) :
    Calls Tryd.prog 53 #[.int .u64 c, .int .u64 g, .pointer (some ⟨bt, 0, none⟩), .pointer (some ⟨bo, 0, none⟩), .pointer (some ⟨ba, 0, none⟩)] w fun e w' =>
      e = .returned (.int .u64 ((F (o + i) + g * t + c) / B64 : Nat)) ∧ Dk w' b N (upf F (o + i) ((F (o + i) + g * t + c) % B64)) ∧ Blk w' ba 3 #[.int .i64 ((i + 1 : Nat) : Int)] ∧ Chg (fun k => k = b ∨ k = ba) w w' := by
  have hx := h4.dig (o + i) (by omega)
  have hM := mul64_raw g t hg ht
  obtain ⟨s1, s2, s3, s4⟩ := add_step (F (o + i)) g t c hx hg ht hc
  have c1 := cell_of_row w bt 0 _ _ _ h1
  have c2 := cell_of_row w bo 0 _ _ _ h2
  have c3 := cell_of_row w ba 0 _ _ _ h3
  have c4 := h4.cell (o + i) (by omega)
  have f3 := frozen_of_row w ba 0 _ _ h3
  have f4 := h4.free (o + i)
  have HW := Lib.hid (And.intro h1 (And.intro h2 (And.intro h3 h4)))
  have hbb : b < w.heap.size := h4.lt
  have hba : ba < w.heap.size := h3.lt
  have HG := Lib.hid (And.intro hg (And.intro ht (And.intro hc hi)))
  obtain ⟨x, hxe⟩ : ∃ x, F (o + i) = x := ⟨_, rfl⟩
  rw [hxe] at hx s1 s2 s3 c4 ⊢
  obtain ⟨hi', hhi⟩ : ∃ y, g * t / B64 = y := ⟨_, rfl⟩
  obtain ⟨lo, hlo⟩ : ∃ y, g * t % B64 = y := ⟨_, rfl⟩
  have k1 := add64_nn lo c
  obtain ⟨sl, hsl⟩ : ∃ y, (lo + c) % B64 = y := ⟨_, rfl⟩
  obtain ⟨m1, hm1⟩ : ∃ y, (lo + c) / B64 = y := ⟨_, rfl⟩
  have k2 := add64_nn x sl
  rw [Nat.add_comm x sl] at k2
  obtain ⟨r, hr⟩ : ∃ y, (sl + x) % B64 = y := ⟨_, rfl⟩
  obtain ⟨m2, hm2⟩ : ∃ y, (sl + x) / B64 = y := ⟨_, rfl⟩
  have hM' : ∀ w, Calls Tryd.prog 54 #[.int .u64 g, .int .u64 t] w fun e w' => e = .returned (.tuple #[.int .u64 (hi' : Nat), .int .u64 (lo : Nat)]) ∧ w = w' := fun w => by rw [← hhi, ← hlo]; exact hM w
  simp only [hhi, hlo, hsl, hm1, hr, hm2] at s1 s2 s4 k1 k2
  have w1 : IntKind.u64.wrap ((hi' : Int) + (m1 : Int)) = ((hi' + m1 : Nat) : Int) := by rw [addN, wrapN _ s4]
  have w2 : IntKind.u64.wrap (((hi' + m1 : Nat) : Int) + (m2 : Int)) = (((x + g * t + c) / B64 : Nat) : Int) := by rw [addN, s2, wrapN _ s3]
  have w3 : IntKind.i64.wrap ((i : Int) + 1) = ((i + 1 : Nat) : Int) := IntWalk.i64_in _ (by omega)
  have hrl : r < B64 := by rw [← hr]; exact Nat.mod_lt _ B64_pos
  have d1 : (i : Int) < (n : Int) := by omega
  have d2 : (0 : Int) ≤ (i : Int) := by omega
  have HR := Lib.hid (And.intro s1 (And.intro hrl (And.intro hxe e1)))
  have HMM := Lib.hid hM'
  obtain ⟨q, hq⟩ : ∃ q, (x + g * t + c) / B64 = q := ⟨_, rfl⟩
  obtain ⟨sm, hsm⟩ : ∃ q, hi' + m1 = q := ⟨_, rfl⟩
  rw [hq, hsm] at w2
  rw [hsm] at w1
  have HQ := Lib.hid hq
  clear hM hM' hhi hlo hsl hm1 hr hm2 s1 s2 s3 s4 hxe hrl hx hg ht hc h1 h2 h3 h4 hq hsm hn hN hi
  go_enter Tryd.func53, Tryd.ntmps53
  go_wp2_with (first | (go_at_call 54; refine (HMM.out _).mono ?_; rintro e w1 ⟨rfl, rfl⟩) | fail)
  --REG
  have HC := Lib.hid (show Chg (fun k => k = b ∨ k = ba) w w.drew from (Chg.refl _ w).drew)
  have HD := Lib.hid (And.intro (show Blk w.drew ba 3 #[.int .i64 i] from HW.out.2.2.1) (show Dk w.drew b N F from HW.out.2.2.2))
  have hS0 : w.drew.cell? ⟨bo, 0, none⟩ = some (.slice (some ⟨b, o, none⟩) n cap) ∧ w.drew.cell? ⟨ba, 0, none⟩ = some (.int .i64 i) ∧ w.drew.frozen? ⟨ba, 0, none⟩ = false := ⟨c2, c3, f3⟩
  have HS := Lib.hid (show (w.drew.setCell ⟨b, o + i, none⟩ (.int .u64 (r : Nat))).cell? ⟨bo, 0, none⟩ = some (.slice (some ⟨b, o, none⟩) n cap) ∧ (w.drew.setCell ⟨b, o + i, none⟩ (.int .u64 (r : Nat))).cell? ⟨ba, 0, none⟩ = some (.int .i64 i) ∧ (w.drew.setCell ⟨b, o + i, none⟩ (.int .u64 (r : Nat))).frozen? ⟨ba, 0, none⟩ = false from
    have hG := grown_set' (grown_refl w.drew b) (o + i) (.int .u64 (r : Nat))
    have h2 := (show Blk w.drew bo _ _ from HW.out.2.1).kept hG (fun e => by injection e with e; exact e0 e.symm)
    have h3 := HD.out.1.kept hG (fun e => by injection e with e; exact HR.out.2.2.2 e.symm)
    ⟨cell_of_row _ bo 0 _ _ _ h2, cell_of_row _ ba 0 _ _ _ h3, frozen_of_row _ ba 0 _ _ h3⟩)

  refine wp_region_held_drew (S := fun w' => w'.cell? ⟨bo, 0, none⟩ = some (.slice (some ⟨b, o, none⟩) n cap) ∧ w'.cell? ⟨ba, 0, none⟩ = some (.int .i64 i) ∧ w'.frozen? ⟨ba, 0, none⟩ = false) (by as_aux_lemma => kernel_rfl) hS0 (fun hHeld => ?_)
  simp only [List.size_toArray, List.length_cons, List.length_nil, Nat.reduceAdd, Array.replicate_succ, Array.replicate_zero, List.push_toArray, List.nil_append, List.cons_append]
  refine wpAnyH_take (i := 0) (oi := { dst := some 27, op := Op.load 54 (Operand.tmp 3), type := 54, pos := "modulus.go:140", after := #[], guard := none }) (v := ?vq0) rfl (by as_aux_lemma => kernel_rfl) (by as_aux_lemma => kernel_rfl) (by as_aux_lemma => kernel_rfl) (fun _ _ _ h => h) (Or.inl ⟨by rfl, ?yq0⟩) (by assumption) ?rq0
  case yq0 => (intro w hSw; (try dsimp only at hSw); obtain ⟨s1, s2, s3⟩ := hSw; go_simp <;> with_reducible rfl)
  simp only [Act.put, List.setIfInBounds_toArray, List.set_cons_zero, List.set_cons_succ]
  refine wpAnyH_take (i := 1) (oi := { dst := some 28, op := Op.load 3 (Operand.tmp 4), type := 3, pos := "modulus.go:140", after := #[], guard := none }) (v := ?vq1) rfl (by as_aux_lemma => kernel_rfl) (by as_aux_lemma => kernel_rfl) (by as_aux_lemma => kernel_rfl) (fun _ _ _ h => h) (Or.inl ⟨by rfl, ?yq1⟩) (by assumption) ?rq1
  case yq1 => (intro w hSw; (try dsimp only at hSw); obtain ⟨s1, s2, s3⟩ := hSw; go_simp <;> with_reducible rfl)
  simp only [Act.put, List.setIfInBounds_toArray, List.set_cons_zero, List.set_cons_succ]
  refine wpAnyH_take (i := 2) (oi := { dst := some 29, op := Op.load 54 (Operand.tmp 3), type := 54, pos := "modulus.go:140", after := #[], guard := none }) (v := ?vq2) rfl (by as_aux_lemma => kernel_rfl) (by as_aux_lemma => kernel_rfl) (by as_aux_lemma => kernel_rfl) (fun _ _ _ h => h) (Or.inl ⟨by rfl, ?yq2⟩) (by assumption) ?rq2
  case yq2 => (intro w hSw; (try dsimp only at hSw); obtain ⟨s1, s2, s3⟩ := hSw; go_simp <;> with_reducible rfl)
  simp only [Act.put, List.setIfInBounds_toArray, List.set_cons_zero, List.set_cons_succ]
  refine wpAnyH_take (i := 3) (oi := { dst := some 30, op := Op.load 3 (Operand.tmp 4), type := 3, pos := "modulus.go:140", after := #[], guard := none }) (v := ?vq3) rfl (by as_aux_lemma => kernel_rfl) (by as_aux_lemma => kernel_rfl) (by as_aux_lemma => kernel_rfl) (fun _ _ _ h => h) (Or.inl ⟨by rfl, ?yq3⟩) (by assumption) ?rq3
  case yq3 => (intro w hSw; (try dsimp only at hSw); obtain ⟨s1, s2, s3⟩ := hSw; go_simp <;> with_reducible rfl)
  simp only [Act.put, List.setIfInBounds_toArray, List.set_cons_zero, List.set_cons_succ]
  refine wpAnyH_take (i := 4) (oi := { dst := some 31, op := Op.indexAddr 54 (Operand.tmp 29) (Operand.tmp 30), type := 0, pos := "modulus.go:140", after := #[{ on := 2, ground := Ground.data }, { on := 3, ground := Ground.data }], guard := none }) (v := ?vq4) rfl (by as_aux_lemma => kernel_rfl) (by as_aux_lemma => kernel_rfl) (by as_aux_lemma => kernel_rfl) (fun _ _ _ h => h) (Or.inl ⟨by rfl, ?yq4⟩) (by assumption) ?rq4
  case yq4 => (intro w hSw; (try dsimp only at hSw); obtain ⟨s1, s2, s3⟩ := hSw; go_simp <;> with_reducible rfl)
  simp only [Act.put, List.setIfInBounds_toArray, List.set_cons_zero, List.set_cons_succ]
  refine wpAnyH_take (i := 6) (oi := { dst := some 33, op := Op.move (Operand.tmp 9), type := 72, pos := "modulus.go:140", after := #[], guard := none }) (v := ?vq5) rfl (by as_aux_lemma => kernel_rfl) (by as_aux_lemma => kernel_rfl) (by as_aux_lemma => kernel_rfl) (fun _ _ _ h => h) (Or.inl ⟨by rfl, ?yq5⟩) (by assumption) ?rq5
  case yq5 => (intro w hSw; (try dsimp only at hSw); obtain ⟨s1, s2, s3⟩ := hSw; go_simp <;> with_reducible rfl)
  simp only [Act.put, List.setIfInBounds_toArray, List.set_cons_zero, List.set_cons_succ]
  refine wpAnyH_ready (rs := [5]) (by as_aux_lemma => kernel_rfl) (by simp) ?_
  refine AllReadyH.cons (o := { dst := some 32, op := Op.load 72 (Operand.tmp 31), type := 72, pos := "modulus.go:140", after := #[{ on := 4, ground := Ground.data }], guard := none }) rfl (fun K hK => ?_) (by exact AllReadyH.nil)
  rw [if_pos (by rfl)]
  go_simp
  refine hK.out _ _ (by (try dsimp only); (first | exact HS.out | exact hS0)) (fun hHeld => ?_)
  clear hK K
  simp only [List.setIfInBounds_toArray, List.set_cons_zero, List.set_cons_succ]
  refine wpAnyH_take (i := 7) (oi := { dst := some 34, op := Op.call { callee := Callee.value (Operand.func 55), args := #[Operand.tmp 32, Operand.tmp 33, Operand.const (Value.int IntKind.u64 0)], argTypes := #[72, 72, 72] }, type := 74, pos := "modulus.go:140", after := #[{ on := 5, ground := Ground.data }, { on := 6, ground := Ground.data }], guard := none }) (v := ?vq7) rfl (by as_aux_lemma => kernel_rfl) (by as_aux_lemma => kernel_rfl) (by as_aux_lemma => kernel_rfl) (fun _ _ _ h => h) (Or.inl ⟨by rfl, ?yq7⟩) (by assumption) ?rq7
  case yq7 => (intro w hSw; (try dsimp only at hSw); obtain ⟨s1, s2, s3⟩ := hSw; go_simp <;> with_reducible rfl)
  simp only [Act.put, List.setIfInBounds_toArray, List.set_cons_zero, List.set_cons_succ]
  refine wpAnyH_take (i := 8) (oi := { dst := some 26, op := Op.move (Operand.tmp 34), type := 74, pos := "modulus.go:140", after := #[{ on := 7, ground := Ground.data }], guard := none }) (v := ?vq8) rfl (by as_aux_lemma => kernel_rfl) (by as_aux_lemma => kernel_rfl) (by as_aux_lemma => kernel_rfl) (fun _ _ _ h => h) (Or.inl ⟨by rfl, ?yq8⟩) (by assumption) ?rq8
  case yq8 => (intro w hSw; (try dsimp only at hSw); obtain ⟨s1, s2, s3⟩ := hSw; go_simp <;> with_reducible rfl)
  simp only [Act.put, List.setIfInBounds_toArray, List.set_cons_zero, List.set_cons_succ]
  refine wpAnyH_take (i := 9) (oi := { dst := some 35, op := Op.extract (Operand.tmp 26) 0, type := 72, pos := "modulus.go:140", after := #[{ on := 8, ground := Ground.data }], guard := none }) (v := ?vq9) rfl (by as_aux_lemma => kernel_rfl) (by as_aux_lemma => kernel_rfl) (by as_aux_lemma => kernel_rfl) (fun _ _ _ h => h) (Or.inl ⟨by rfl, ?yq9⟩) (by assumption) ?rq9
  case yq9 => (intro w hSw; (try dsimp only at hSw); obtain ⟨s1, s2, s3⟩ := hSw; go_simp <;> with_reducible rfl)
  simp only [Act.put, List.setIfInBounds_toArray, List.set_cons_zero, List.set_cons_succ]
  refine wpAnyH_take (i := 10) (oi := { dst := some 36, op := Op.extract (Operand.tmp 26) 1, type := 72, pos := "modulus.go:140", after := #[{ on := 8, ground := Ground.data }, { on := 12, ground := Ground.gcOnly Departure.lateStores }], guard := none }) (v := ?vq10) rfl (by as_aux_lemma => kernel_rfl) (by as_aux_lemma => kernel_rfl) (by as_aux_lemma => kernel_rfl) (fun _ _ _ h => h) (Or.inl ⟨by rfl, ?yq10⟩) (by assumption) ?rq10
  case yq10 => (intro w hSw; (try dsimp only at hSw); obtain ⟨s1, s2, s3⟩ := hSw; go_simp <;> with_reducible rfl)
  simp only [Act.put, List.setIfInBounds_toArray, List.set_cons_zero, List.set_cons_succ]
  refine wpAnyH_take (i := 11) (oi := { dst := some 37, op := Op.indexAddr 54 (Operand.tmp 27) (Operand.tmp 28), type := 0, pos := "modulus.go:140", after := #[{ on := 0, ground := Ground.data }, { on := 1, ground := Ground.data }, { on := 0, ground := Ground.phase }, { on := 1, ground := Ground.phase }, { on := 2, ground := Ground.phase }, { on := 3, ground := Ground.phase }, { on := 4, ground := Ground.phase }, { on := 5, ground := Ground.phase }, { on := 6, ground := Ground.phase }, { on := 7, ground := Ground.phase }, { on := 8, ground := Ground.phase }, { on := 9, ground := Ground.phase }, { on := 10, ground := Ground.textOnly Departure.lateStores }], guard := none }) (v := ?vq11) rfl (by as_aux_lemma => kernel_rfl) (by as_aux_lemma => kernel_rfl) (by as_aux_lemma => kernel_rfl) (fun _ _ _ h => h) (Or.inl ⟨by rfl, ?yq11⟩) (by assumption) ?rq11
  case yq11 => (intro w hSw; (try dsimp only at hSw); obtain ⟨s1, s2, s3⟩ := hSw; go_simp <;> with_reducible rfl)
  simp only [Act.put, List.setIfInBounds_toArray, List.set_cons_zero, List.set_cons_succ]
  refine wpAnyH_ready (rs := [12]) (by as_aux_lemma => kernel_rfl) (by simp) ?_
  refine AllReadyH.cons (o := { dst := none, op := Op.store 72 (Operand.tmp 37) (Operand.tmp 35), type := 0, pos := "modulus.go:140", after := #[{ on := 11, ground := Ground.data }, { on := 9, ground := Ground.data }, { on := 7, ground := Ground.chain }, { on := 0, ground := Ground.phase }, { on := 1, ground := Ground.phase }, { on := 2, ground := Ground.phase }, { on := 3, ground := Ground.phase }, { on := 4, ground := Ground.phase }, { on := 5, ground := Ground.phase }, { on := 6, ground := Ground.phase }, { on := 7, ground := Ground.phase }, { on := 8, ground := Ground.phase }, { on := 9, ground := Ground.phase }, { on := 10, ground := Ground.textOnly Departure.lateStores }], guard := none }) rfl (fun K hK => ?_) (by exact AllReadyH.nil)
  rw [if_pos (by rfl)]
  go_simp
  refine hK.out _ _ (by (try dsimp only); (first | exact HS.out | exact hS0)) (fun hHeld => ?_)
  clear hK K
  simp only [List.setIfInBounds_toArray, List.set_cons_zero, List.set_cons_succ]
  refine wpAnyH_take (i := 13) (oi := { dst := some 10, op := Op.assign (Operand.tmp 36), type := 72, pos := "modulus.go:140", after := #[{ on := 10, ground := Ground.data }, { on := 12, ground := Ground.chain }, { on := 0, ground := Ground.phase }, { on := 1, ground := Ground.phase }, { on := 2, ground := Ground.phase }, { on := 3, ground := Ground.phase }, { on := 4, ground := Ground.phase }, { on := 5, ground := Ground.phase }, { on := 6, ground := Ground.phase }, { on := 7, ground := Ground.phase }, { on := 8, ground := Ground.phase }, { on := 9, ground := Ground.phase }, { on := 10, ground := Ground.phase }, { on := 11, ground := Ground.phase }, { on := 12, ground := Ground.phase }], guard := none }) (v := ?vq13) rfl (by as_aux_lemma => kernel_rfl) (by as_aux_lemma => kernel_rfl) (by as_aux_lemma => kernel_rfl) (fun _ _ _ h => h) (Or.inl ⟨by rfl, ?yq13⟩) (by assumption) ?rq13
  case yq13 => (intro w hSw; (try dsimp only at hSw); obtain ⟨s1, s2, s3⟩ := hSw; go_simp <;> with_reducible rfl)
  simp only [Act.put, List.setIfInBounds_toArray, List.set_cons_zero, List.set_cons_succ]
  refine wpAnyH_done (by as_aux_lemma => kernel_rfl) ?_ _
  obtain ⟨s1, s2, s3⟩ := hHeld
  clear hS0
  go_wp2_with fail
  go_ret
  obtain ⟨r1, r2, _, r4⟩ := HR.out
  have hG := grown_set' (grown_refl w b) (o + i) (.int .u64 (r : Nat))
  have D1 := HW.out.2.2.2.set (o + i) r r2
  have B1 := HW.out.2.2.1.kept hG (fun e => by injection e with e; exact r4 e.symm)
  have hG2 := grown_set' (grown_refl (w.setCell ⟨b, o + i, none⟩ (.int .u64 (r : Nat))) ba) 0 (.int .i64 ((i : Int) + 1))
  have D2 := D1.chg (Chg.of hG2) (fun e => by injection e with e; exact r4 e)
  have B2 : Blk ((w.setCell ⟨b, o + i, none⟩ (.int .u64 (r : Nat))).setCell ⟨ba, 0, none⟩ (.int .i64 ((i : Int) + 1))) ba 3 #[.int .i64 ((i : Int) + 1)] := heap_setCell_same _ ba 0 _ _ (.int .i64 ((i : Int) + 1)) B1
  have C2 := (((Chg.refl (fun k => k = b ∨ k = ba) w).set b (o + i) (.int .u64 (r : Nat)) (fun _ => .inl rfl)).set ba 0 (.int .i64 ((i : Int) + 1)) (fun _ => .inr rfl)).drew
  rw [← r1]
  exact ⟨by rw [HQ.out]; rfl, D2, B2, C2⟩
end Go.Proofs.YtjkniebedgiclaaDoor
