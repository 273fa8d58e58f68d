/- split's reference: Divide, of a divisor that is not nought. -/
import Derived.Test.YthdapmceafnhgaaTp
import Derived.Deep.RegionHeld
import Derived.Deep.MidRow
namespace Go.Proofs.Ythdapmceafnhgaa
open Go.RowKit Go.Shelf
attribute [local go_sem] ix0 ix1 ix2 ix3
theorem top_bit (r : Nat) (hr : r < MM) : (r / 2 ^ 255 % 2 == 1) = decide (MM ≤ r + r) := by
  have e : MM = 2 ^ 255 + 2 ^ 255 := by decide +kernel
  have h1 : r / 2 ^ 255 < 2 := Nat.div_lt_of_lt_mul (by omega)
  rw [Bool.eq_iff_iff]
  simp only [beq_iff_eq, decide_eq_true_eq]
  constructor
  · intro h
    have h2 : 1 ≤ r / 2 ^ 255 := by omega
    have h3 := (Nat.le_div_iff_mul_le (Nat.pow_pos (by omega))).1 h2
    omega
  · intro h
    have h2 : 1 ≤ r / 2 ^ 255 := (Nat.le_div_iff_mul_le (Nat.pow_pos (by omega))).2 (by omega)
    omega
theorem mm_even (r bit : Nat) (hb : bit ≤ 1) : MM ≤ r + r + bit ↔ MM ≤ r + r := by
  have e : MM = 2 ^ 255 + 2 ^ 255 := by decide +kernel
  omega

theorem join1 {C : Nat → World → Prop} {G : Prop} (P : Nat → World → Prop) (main : (∀ X wz, C X wz → P X wz) → G) (hrest : ∀ X wz, C X wz → P X wz) : G := main hrest

set_option maxRecDepth 100000 in
set_option maxHeartbeats 16000000 in
theorem rdivide_pos (a b : Nat) (ha : a < MM) (hb0 : 0 < b) (hb : b < MM) (w : World) :
    Calls Try.prog 7 #[W a, W b] w fun e w' => e = .returned (.tuple #[W (a / b), W (a % b)]) ∧ Below w.heap.size w w' := by
  have heq : ∀ w, (binOp .eql 24 (W b) (.agg #[.int .u64 0, .int .u64 0, .int .u64 0, .int .u64 0])).run Try.prog w = .ok (.bool false) w := fun w => by
    rw [eq_nought _ hb]; simp; omega
  have hi : (Try.prog.info? 24).map (·.size) = some (Wc 0).size := by kernel_rfl
  have HI := Lib.hid hi
  have HA := Lib.hid ha
  have HB0 := Lib.hid hb0
  have HB := Lib.hid hb
  clear ha hb0 hb hi
  go_enter Try.func7, Try.ntmps7
  go_wp2_with fail
  clear heq
  have e0 : #[.int .u64 0, .int .u64 0, .int .u64 0, .int .u64 0] = Wc 0 := by unfold Wc; simp only [lb_zero]
  have bA : Blk (((((((w.alloc (.cells (Wc a) 24)).alloc (.cells (Wc b) 24)).alloc (.cells (Wc 0) 24)).alloc (.cells (Wc 0) 24)).alloc (.cells (Wc 0) 24)).alloc (.cells (Wc 0) 24))) (w.heap.size) 24 (Wc a) := (((((Blk.new w 24 (Wc a)).alloc _).alloc _).alloc _).alloc _).alloc _
  have bB : Blk (((((((w.alloc (.cells (Wc a) 24)).alloc (.cells (Wc b) 24)).alloc (.cells (Wc 0) 24)).alloc (.cells (Wc 0) 24)).alloc (.cells (Wc 0) 24)).alloc (.cells (Wc 0) 24))) (w.heap.size + 1) 24 (Wc b) := by
    have h := Blk.newS (w) (.cells (Wc a) 24) 24 (Wc b)
    exact ((((h.alloc _).alloc _).alloc _).alloc _)
  have bR1 : Blk (((((((w.alloc (.cells (Wc a) 24)).alloc (.cells (Wc b) 24)).alloc (.cells (Wc 0) 24)).alloc (.cells (Wc 0) 24)).alloc (.cells (Wc 0) 24)).alloc (.cells (Wc 0) 24))) (w.heap.size + 1 + 1) 24 (Wc 0) := by
    have h := Blk.newS ((w.alloc (.cells (Wc a) 24))) (.cells (Wc b) 24) 24 (Wc 0)
    rw [World.size_alloc] at h
    exact (((h.alloc _).alloc _).alloc _)
  have bR2 : Blk (((((((w.alloc (.cells (Wc a) 24)).alloc (.cells (Wc b) 24)).alloc (.cells (Wc 0) 24)).alloc (.cells (Wc 0) 24)).alloc (.cells (Wc 0) 24)).alloc (.cells (Wc 0) 24))) (w.heap.size + 1 + 1 + 1) 24 (Wc 0) := by
    have h := Blk.newS (((w.alloc (.cells (Wc a) 24)).alloc (.cells (Wc b) 24))) (.cells (Wc 0) 24) 24 (Wc 0)
    rw [World.size_alloc, World.size_alloc] at h
    exact ((h.alloc _).alloc _)
  have bQ : Blk (((((((w.alloc (.cells (Wc a) 24)).alloc (.cells (Wc b) 24)).alloc (.cells (Wc 0) 24)).alloc (.cells (Wc 0) 24)).alloc (.cells (Wc 0) 24)).alloc (.cells (Wc 0) 24))) (w.heap.size + 1 + 1 + 1 + 1) 24 (Wc 0) := by
    have h := Blk.newS ((((w.alloc (.cells (Wc a) 24)).alloc (.cells (Wc b) 24)).alloc (.cells (Wc 0) 24))) (.cells (Wc 0) 24) 24 (Wc 0)
    rw [World.size_alloc, World.size_alloc, World.size_alloc] at h
    exact (h.alloc _)
  have bR : Blk (((((((w.alloc (.cells (Wc a) 24)).alloc (.cells (Wc b) 24)).alloc (.cells (Wc 0) 24)).alloc (.cells (Wc 0) 24)).alloc (.cells (Wc 0) 24)).alloc (.cells (Wc 0) 24))) (w.heap.size + 1 + 1 + 1 + 1 + 1) 24 (Wc 0) := by
    have h := Blk.newS (((((w.alloc (.cells (Wc a) 24)).alloc (.cells (Wc b) 24)).alloc (.cells (Wc 0) 24)).alloc (.cells (Wc 0) 24))) (.cells (Wc 0) 24) 24 (Wc 0)
    rw [World.size_alloc, World.size_alloc, World.size_alloc, World.size_alloc] at h
    exact h
  have hW : Below w.heap.size w (((((((w.alloc (.cells (Wc a) 24)).alloc (.cells (Wc b) 24)).alloc (.cells (Wc 0) 24)).alloc (.cells (Wc 0) 24)).alloc (.cells (Wc 0) 24)).alloc (.cells (Wc 0) 24))) := balloc (balloc (balloc (balloc (balloc (balloc (Below.refl _ _) _) _) _) _) _) _
  rw [e0]
  obtain ⟨W0, hW0⟩ : ∃ W0, ((((((w.alloc (.cells (Wc a) 24)).alloc (.cells (Wc b) 24)).alloc (.cells (Wc 0) 24)).alloc (.cells (Wc 0) 24)).alloc (.cells (Wc 0) 24)).alloc (.cells (Wc 0) 24)) = W0 := ⟨_, rfl⟩
  rw [hW0] at bA bB bR1 bR2 bQ bR hW ⊢
  clear hW0
  go_loopw [8] (fun i wr => ∃ k : Nat, k ≤ 256 ∧ i = .int .i64 ((k : Int) - 1) ∧ Blk wr (w.heap.size) 24 (Wc a) ∧ Blk wr (w.heap.size + 1) 24 (Wc b) ∧ Blk wr (w.heap.size + 1 + 1) 24 (Wc 0) ∧ Blk wr (w.heap.size + 1 + 1 + 1) 24 (Wc 0) ∧ Blk wr (w.heap.size + 1 + 1 + 1 + 1) 24 (Wc (a / 2 ^ k / b)) ∧ Blk wr (w.heap.size + 1 + 1 + 1 + 1 + 1) 24 (Wc (a / 2 ^ k % b)) ∧ Below w.heap.size w wr) (fun i _ => (intOf i + 1).toNat)
  case atStart =>
    have e1 : a / 2 ^ 256 = 0 := Nat.div_eq_of_lt (Nat.lt_of_lt_of_le HA.out (by decide +kernel))
    exact ⟨256, Nat.le_refl _, rfl, bA, bB, bR1, bR2, by rw [e1, Nat.zero_div]; exact bQ, by rw [e1, Nat.zero_mod]; exact bR, hW⟩
  case round =>
    clear bA bB bR1 bR2 bQ bR hW e0
    obtain ⟨k, hk, rfl, bA, bB, bR1, bR2, bQ, bR, hW⟩ := hrel
    by_cases hk0 : k = 0
    · subst hk0
      have kQ0 := (cell_of_row wr _ 0 _ _ _ bQ).trans (wc_get _ 0 (by omega))
      have kQ1 := (cell_of_row wr _ 1 _ _ _ bQ).trans (wc_get _ 1 (by omega))
      have kQ2 := (cell_of_row wr _ 2 _ _ _ bQ).trans (wc_get _ 2 (by omega))
      have kQ3 := (cell_of_row wr _ 3 _ _ _ bQ).trans (wc_get _ 3 (by omega))
      have kR0 := (cell_of_row wr _ 0 _ _ _ bR).trans (wc_get _ 0 (by omega))
      have kR1 := (cell_of_row wr _ 1 _ _ _ bR).trans (wc_get _ 1 (by omega))
      have kR2 := (cell_of_row wr _ 2 _ _ _ bR).trans (wc_get _ 2 (by omega))
      have kR3 := (cell_of_row wr _ 3 _ _ _ bR).trans (wc_get _ 3 (by omega))
      have kR10 := (cell_of_row wr _ 0 _ _ _ bR1).trans (wc_get _ 0 (by omega))
      have fR10 := frozen_of_row wr _ 0 _ _ bR1
      have kR11 := (cell_of_row wr _ 1 _ _ _ bR1).trans (wc_get _ 1 (by omega))
      have fR11 := frozen_of_row wr _ 1 _ _ bR1
      have kR12 := (cell_of_row wr _ 2 _ _ _ bR1).trans (wc_get _ 2 (by omega))
      have fR12 := frozen_of_row wr _ 2 _ _ bR1
      have kR13 := (cell_of_row wr _ 3 _ _ _ bR1).trans (wc_get _ 3 (by omega))
      have fR13 := frozen_of_row wr _ 3 _ _ bR1
      have kR20 := (cell_of_row wr _ 0 _ _ _ bR2).trans (wc_get _ 0 (by omega))
      have fR20 := frozen_of_row wr _ 0 _ _ bR2
      have kR21 := (cell_of_row wr _ 1 _ _ _ bR2).trans (wc_get _ 1 (by omega))
      have fR21 := frozen_of_row wr _ 1 _ _ bR2
      have kR22 := (cell_of_row wr _ 2 _ _ _ bR2).trans (wc_get _ 2 (by omega))
      have fR22 := frozen_of_row wr _ 2 _ _ bR2
      have kR23 := (cell_of_row wr _ 3 _ _ _ bR2).trans (wc_get _ 3 (by omega))
      have fR23 := frozen_of_row wr _ 3 _ _ bR2
      have HW := Lib.hid hW
      clear bA bB bR1 bR2 bQ bR hW
      go_wp2_with fail
      go_region
      all_goals
        go_wp2
        exact bodyPost_ret (v := .tuple #[W (a / b), W (a % b)]) (by simp [results, Try.results7, go_sem, kR10, kR11, kR12, kR13, kR20, kR21, kR22, kR23]) rfl ⟨rfl, (((((((((HW.out.setCell (p := ⟨w.heap.size + 1 + 1, 0, none⟩) (by simp; omega) _).setCell (p := ⟨w.heap.size + 1 + 1, 1, none⟩) (by simp; omega) _).setCell (p := ⟨w.heap.size + 1 + 1, 2, none⟩) (by simp; omega) _).setCell (p := ⟨w.heap.size + 1 + 1, 3, none⟩) (by simp; omega) _).setCell (p := ⟨w.heap.size + 1 + 1 + 1, 0, none⟩) (by simp; omega) _).setCell (p := ⟨w.heap.size + 1 + 1 + 1, 1, none⟩) (by simp; omega) _).setCell (p := ⟨w.heap.size + 1 + 1 + 1, 2, none⟩) (by simp; omega) _).setCell (p := ⟨w.heap.size + 1 + 1 + 1, 3, none⟩) (by simp; omega) _)).drew⟩
    · obtain ⟨j, rfl⟩ : ∃ j, k = j + 1 := ⟨k - 1, by omega⟩
      have g1 : ((j + 1 : Nat) : Int) - 1 = (j : Int) := by omega
      rw [g1]
      clear g1 hk0
      go_upto_region 7 with fail
      have hsd := step_div a b j HB0.out
      have hrb := Nat.mod_lt (a / 2 ^ (j + 1)) HB0.out
      have hbit : (if (a / 2 ^ j % 2 == 1) = true then 1 else 0) = a / 2 ^ j % 2 := by
        have h1 : a / 2 ^ j % 2 < 2 := Nat.mod_lt _ (by omega)
        by_cases h2 : a / 2 ^ j % 2 = 1
        · simp [h2]
        · have h3 : a / 2 ^ j % 2 = 0 := by omega
          simp [h3]
      have hb1 : a / 2 ^ j % 2 ≤ 1 := by omega
      have htr := rtwice_any (a / 2 ^ (j + 1) % b) (a / 2 ^ j % 2 == 1)
      have htq := rtwice_any (a / 2 ^ (j + 1) / b) false
      rw [hbit, top_bit _ (Nat.lt_trans hrb HB.out)] at htr
      generalize a / 2 ^ (j + 1) % b = r at bR hsd hrb htr
      generalize a / 2 ^ (j + 1) / b = q at bQ hsd htq
      obtain ⟨V, hV⟩ : ∃ V, r + r + a / 2 ^ j % 2 = V := ⟨_, rfl⟩
      obtain ⟨ov, hov⟩ : ∃ ov, decide (MM ≤ r + r) = ov := ⟨_, rfl⟩
      obtain ⟨oq, hoq⟩ : ∃ oq, (q / 2 ^ 255 % 2 == 1) = oq := ⟨_, rfl⟩
      rw [hV, hov] at htr
      rw [hoq, show (q + q + if false = true then 1 else 0) = q + q from rfl] at htq
      have hov2 : ov = decide (MM ≤ V) := by
        rw [← hov, ← hV]
        exact decide_eq_decide.2 (mm_even r _ hb1).symm
      have hq2 : Hid (a / 2 ^ j / b = q * 2 + if b ≤ V then 1 else 0) := by
        show _ = _
        rw [hsd.1]; unfold stB; rw [show r * 2 + a / 2 ^ j % 2 = V by omega]
      have hr2 : Hid (a / 2 ^ j % b = if b ≤ V then V - b else V) := by
        show _ = _
        rw [hsd.2]; unfold stR; rw [show r * 2 + a / 2 ^ j % 2 = V by omega]
      have HOV := Lib.hid hov2
      have HTR := Lib.hid htr
      have HTQ := Lib.hid htq
      clear hsd hbit htr htq hV hov hoq hb1 hov2 hrb
      rename_i K hK
      have gl : IntKind.i64.wrap ((j : Int) - 1) = (j : Int) - 1 := IntWalk.i64_in _ (by omega)
      have key : ∀ (g : Nat) (X : World), wr.heap.size ≤ g → Blk X g 24 (Wc V) → Below wr.heap.size wr X → K { tmps := #[W a, W b, .pointer (some ⟨w.heap.size, 0, none⟩), .pointer (some ⟨w.heap.size + 1, 0, none⟩), .pointer (some ⟨w.heap.size + 1 + 1, 0, none⟩), .pointer (some ⟨w.heap.size + 1 + 1 + 1, 0, none⟩), .pointer (some ⟨w.heap.size + 1 + 1 + 1 + 1, 0, none⟩), .pointer (some ⟨w.heap.size + 1 + 1 + 1 + 1 + 1, 0, none⟩), .int .i64 j, .pointer (some ⟨g, 0, none⟩), .bool ov, W b, .agg (Wc 0), .bool false, undef, undef, .int .i64 j, .bool true, u18, u19, .tuple #[W V, .bool ov], W r, W a, .int .i64 j, .bool (a / 2 ^ j % 2 == 1), .tuple #[W V, .bool ov], W V, .bool ov, u28, u29, u30, u31, u32, u33, u34, u35, u36, u37, u38, u39, u40, u41, u42, u43, u44, u45, u46, u47, undef, undef], defers := [] } X := by
        intro g X hg bG hX
        have hlR0 := bR.lt
        refine hK _ _ ?_
        clear hK K
        replace bA := bA.block_below hX
        replace bB := bB.block_below hX
        replace bR1 := bR1.block_below hX
        replace bR2 := bR2.block_below hX
        replace bQ := bQ.block_below hX
        replace bR := bR.block_below hX
        have hlR := bR.lt
        replace hW := bstep hW hX
        have hgR : w.heap.size + 1 + 1 + 1 + 1 + 1 < g := Nat.lt_of_lt_of_le hlR0 hg
        clear hX HTR
        have cQ0 := (cell_of_row X _ 0 _ _ _ bQ).trans (wc_get (q) 0 (by omega))
        have cQ1 := (cell_of_row X _ 1 _ _ _ bQ).trans (wc_get (q) 1 (by omega))
        have cQ2 := (cell_of_row X _ 2 _ _ _ bQ).trans (wc_get (q) 2 (by omega))
        have cQ3 := (cell_of_row X _ 3 _ _ _ bQ).trans (wc_get (q) 3 (by omega))
        have H := Lib.hid (And.intro bA (And.intro bB (And.intro bR1 (And.intro bR2 (And.intro bQ (And.intro bR (And.intro bG hW)))))))
        clear bA bB bR1 bR2 bQ bR bG hW
        go_wp2_with fail
        refine (HTQ.out _).mono ?_
        rintro e X1 ⟨rfl, h1⟩
        obtain ⟨bA, bB, bR1, bR2, bQ, bR, bG, hW⟩ := H.out
        clear H cQ0 cQ1 cQ2 cQ3
        replace bA := bA.block_below h1
        replace bB := bB.block_below h1
        replace bR1 := bR1.block_below h1
        replace bR2 := bR2.block_below h1
        replace bQ := bQ.block_below h1
        replace bR := bR.block_below h1
        replace bG := bG.block_below h1
        replace hW := bstep hW h1
        clear h1
        have cQ0 := (cell_of_row X1 _ 0 _ _ _ bQ).trans (wc_get (q) 0 (by omega))
        have fcQ0 := frozen_of_row X1 _ 0 _ _ bQ
        have cQ1 := (cell_of_row X1 _ 1 _ _ _ bQ).trans (wc_get (q) 1 (by omega))
        have fcQ1 := frozen_of_row X1 _ 1 _ _ bQ
        have cQ2 := (cell_of_row X1 _ 2 _ _ _ bQ).trans (wc_get (q) 2 (by omega))
        have fcQ2 := frozen_of_row X1 _ 2 _ _ bQ
        have cQ3 := (cell_of_row X1 _ 3 _ _ _ bQ).trans (wc_get (q) 3 (by omega))
        have fcQ3 := frozen_of_row X1 _ 3 _ _ bQ
        have cR0 := (cell_of_row X1 _ 0 _ _ _ bR).trans (wc_get (r) 0 (by omega))
        have fcR0 := frozen_of_row X1 _ 0 _ _ bR
        have cR1 := (cell_of_row X1 _ 1 _ _ _ bR).trans (wc_get (r) 1 (by omega))
        have fcR1 := frozen_of_row X1 _ 1 _ _ bR
        have cR2 := (cell_of_row X1 _ 2 _ _ _ bR).trans (wc_get (r) 2 (by omega))
        have fcR2 := frozen_of_row X1 _ 2 _ _ bR
        have cR3 := (cell_of_row X1 _ 3 _ _ _ bR).trans (wc_get (r) 3 (by omega))
        have fcR3 := frozen_of_row X1 _ 3 _ _ bR
        have cG0 := (cell_of_row X1 _ 0 _ _ _ bG).trans (wc_get (V) 0 (by omega))
        have cG1 := (cell_of_row X1 _ 1 _ _ _ bG).trans (wc_get (V) 1 (by omega))
        have cG2 := (cell_of_row X1 _ 2 _ _ _ bG).trans (wc_get (V) 2 (by omega))
        have cG3 := (cell_of_row X1 _ 3 _ _ _ bG).trans (wc_get (V) 3 (by omega))
        have cB0 := (cell_of_row X1 _ 0 _ _ _ bB).trans (wc_get (b) 0 (by omega))
        have cB1 := (cell_of_row X1 _ 1 _ _ _ bB).trans (wc_get (b) 1 (by omega))
        have cB2 := (cell_of_row X1 _ 2 _ _ _ bB).trans (wc_get (b) 2 (by omega))
        have cB3 := (cell_of_row X1 _ 3 _ _ _ bB).trans (wc_get (b) 3 (by omega))
        have hG := grown_set4 X1 (w.heap.size + 1 + 1 + 1 + 1) (.int .u64 (lb (q + q) 0)) (.int .u64 (lb (q + q) 1)) (.int .u64 (lb (q + q) 2)) (.int .u64 (lb (q + q) 3))
        have hG2 := grown_set4 (((((X1.setCell ⟨w.heap.size + 1 + 1 + 1 + 1, 0, none⟩ (.int .u64 (lb (q + q) 0))).setCell ⟨w.heap.size + 1 + 1 + 1 + 1, 1, none⟩ (.int .u64 (lb (q + q) 1))).setCell ⟨w.heap.size + 1 + 1 + 1 + 1, 2, none⟩ (.int .u64 (lb (q + q) 2))).setCell ⟨w.heap.size + 1 + 1 + 1 + 1, 3, none⟩ (.int .u64 (lb (q + q) 3)))) (w.heap.size + 1 + 1 + 1 + 1 + 1) (.int .u64 (lb V 0)) (.int .u64 (lb V 1)) (.int .u64 (lb V 2)) (.int .u64 (lb V 3))
        have bQ2 := (bQ.set4 (q + q)).kept hG2 (by intro e; injection e; omega)
        have bR3 := (bR.kept hG (by intro e; injection e; omega)).set4 V
        replace bA := (bA.kept hG (by intro e; injection e; omega)).kept hG2 (by intro e; injection e; omega)
        replace bB := (bB.kept hG (by intro e; injection e; omega)).kept hG2 (by intro e; injection e; omega)
        replace bR1 := (bR1.kept hG (by intro e; injection e; omega)).kept hG2 (by intro e; injection e; omega)
        replace bR2 := (bR2.kept hG (by intro e; injection e; omega)).kept hG2 (by intro e; injection e; omega)
        replace hW := step_world (step_world hW hG (Nat.le_refl _) (by omega)) hG2 (Nat.le_refl _) (by omega)
        have H := Lib.hid (And.intro bA (And.intro bB (And.intro bR1 (And.intro bR2 (And.intro bQ2 (And.intro bR3 hW))))))
        clear bA bB bR1 bR2 bQ bR bG hW bQ2 bR3 hG hG2
        have HOV2 := Lib.hid HOV.out
        cases hcov : ov
        · have hVM : V < MM := by have h := HOV2.out; rw [hcov] at h; have h2 := of_decide_eq_false h.symm; omega
          rw [hcov] at HOV
          clear hcov HOV2
          by_cases hle : b ≤ V
          · have hord : ∃ c : Int, (0 ≤ c) ∧ ∀ w, Calls Try.prog 20 #[W V, W b] w fun e w' => e = .returned (.int .i64 c) ∧ Below w.heap.size w w' := by
              refine ⟨cmpN V b, ?_, fun w => rorder_any V b hVM HB.out w⟩
              by_cases h : V = b
              · rw [h, cmpN_eq]; omega
              · rw [cmpN_gt (by omega)]; omega
            obtain ⟨c, hc0, hord⟩ := hord
            have HLE := Lib.hid hle
            clear hle hVM
            go_wp2_with fail
            refine (hord _).mono ?_
            rintro e X2 ⟨rfl, h2⟩
            obtain ⟨bA, bB, bR1, bR2, bQ, bR, hW⟩ := H.out
            clear H hord cQ0 cQ1 cQ2 cQ3 cR0 cR1 cR2 cR3 cG0 cG1 cG2 cG3 cB0 cB1 cB2 cB3 fcQ0 fcQ1 fcQ2 fcQ3 fcR0 fcR1 fcR2 fcR3
            replace bA := bA.block_below h2
            replace bB := bB.block_below h2
            replace bR1 := bR1.block_below h2
            replace bR2 := bR2.block_below h2
            replace bQ := bQ.block_below h2
            replace bR := bR.block_below h2
            replace hW := bstep hW h2
            clear h2
            have cR0 := (cell_of_row X2 _ 0 _ _ _ bR).trans (wc_get (V) 0 (by omega))
            have cR1 := (cell_of_row X2 _ 1 _ _ _ bR).trans (wc_get (V) 1 (by omega))
            have cR2 := (cell_of_row X2 _ 2 _ _ _ bR).trans (wc_get (V) 2 (by omega))
            have cR3 := (cell_of_row X2 _ 3 _ _ _ bR).trans (wc_get (V) 3 (by omega))
            have cB0 := (cell_of_row X2 _ 0 _ _ _ bB).trans (wc_get (b) 0 (by omega))
            have cB1 := (cell_of_row X2 _ 1 _ _ _ bB).trans (wc_get (b) 1 (by omega))
            have cB2 := (cell_of_row X2 _ 2 _ _ _ bB).trans (wc_get (b) 2 (by omega))
            have cB3 := (cell_of_row X2 _ 3 _ _ _ bB).trans (wc_get (b) 3 (by omega))
            have H := Lib.hid (And.intro bA (And.intro bB (And.intro bR1 (And.intro bR2 (And.intro bQ (And.intro bR hW))))))
            clear bA bB bR1 bR2 bQ bR hW
            go_wp2_with fail
            obtain ⟨bA, bB, bR1, bR2, bQ, bR, hW⟩ := H.out
            clear H cR0 cR1 cR2 cR3 cB0 cB1 cB2 cB3
            refine (rsub_any V b _).mono ?_
            rintro e X3 ⟨rfl, h3⟩
            replace bA := bA.block_below h3
            replace bB := bB.block_below h3
            replace bR1 := bR1.block_below h3
            replace bR2 := bR2.block_below h3
            replace bQ := bQ.block_below h3
            replace bR := bR.block_below h3
            replace hW := bstep hW h3
            clear h3
            have kQ0 := (cell_of_row X3 _ 0 _ _ _ bQ).trans (wc_get (q + q) 0 (by omega))
            have fkQ0 := frozen_of_row X3 _ 0 _ _ bQ
            have kQ1 := (cell_of_row X3 _ 1 _ _ _ bQ).trans (wc_get (q + q) 1 (by omega))
            have fkQ1 := frozen_of_row X3 _ 1 _ _ bQ
            have kQ2 := (cell_of_row X3 _ 2 _ _ _ bQ).trans (wc_get (q + q) 2 (by omega))
            have fkQ2 := frozen_of_row X3 _ 2 _ _ bQ
            have kQ3 := (cell_of_row X3 _ 3 _ _ _ bQ).trans (wc_get (q + q) 3 (by omega))
            have fkQ3 := frozen_of_row X3 _ 3 _ _ bQ
            have kR0 := (cell_of_row X3 _ 0 _ _ _ bR).trans (wc_get (V) 0 (by omega))
            have fkR0 := frozen_of_row X3 _ 0 _ _ bR
            have kR1 := (cell_of_row X3 _ 1 _ _ _ bR).trans (wc_get (V) 1 (by omega))
            have fkR1 := frozen_of_row X3 _ 1 _ _ bR
            have kR2 := (cell_of_row X3 _ 2 _ _ _ bR).trans (wc_get (V) 2 (by omega))
            have fkR2 := frozen_of_row X3 _ 2 _ _ bR
            have kR3 := (cell_of_row X3 _ 3 _ _ _ bR).trans (wc_get (V) 3 (by omega))
            have fkR3 := frozen_of_row X3 _ 3 _ _ bR
            have H := Lib.hid (And.intro bA (And.intro bB (And.intro bR1 (And.intro bR2 (And.intro bQ (And.intro bR hW))))))
            clear bA bB bR1 bR2 bQ bR hW
            go_wp2
            obtain ⟨bA, bB, bR1, bR2, bQ, bR, hW⟩ := H.out
            have hG := grown_set4 X3 (w.heap.size + 1 + 1 + 1 + 1 + 1) (.int .u64 (lb (sb V b) 0)) (.int .u64 (lb (sb V b) 1)) (.int .u64 (lb (sb V b) 2)) (.int .u64 (lb (sb V b) 3))
            have hG2 := grown_set' (grown_refl (((((X3.setCell ⟨w.heap.size + 1 + 1 + 1 + 1 + 1, 0, none⟩ (.int .u64 (lb (sb V b) 0))).setCell ⟨w.heap.size + 1 + 1 + 1 + 1 + 1, 1, none⟩ (.int .u64 (lb (sb V b) 1))).setCell ⟨w.heap.size + 1 + 1 + 1 + 1 + 1, 2, none⟩ (.int .u64 (lb (sb V b) 2))).setCell ⟨w.heap.size + 1 + 1 + 1 + 1 + 1, 3, none⟩ (.int .u64 (lb (sb V b) 3)))) (w.heap.size + 1 + 1 + 1 + 1)) 0 (.int .u64 (bits .or .u64 (lb (q + q) 0) 1))
            have hR3 := bR.set4 (sb V b)
            have hQ3 := heap_setCell_same _ _ 0 _ _ (.int .u64 (bits .or .u64 (lb (q + q) 0) 1)) (bQ.kept hG (by intro e; injection e; omega))
            have eQ : (Wc (q + q)).setIfInBounds 0 (.int .u64 (bits .or .u64 (lb (q + q) 0) 1)) = Wc (a / 2 ^ j / b) := by
              rw [hq2.out, if_pos HLE.out, lb_odd0 q, show q * 2 + 1 = q + q + 1 by omega]
              show #[_, _, _, _] = Wc _
              unfold Wc
              rw [← lb_odd q 0, ← lb_odd q 1, ← lb_odd q 2]
            have eR : Wc (sb V b) = Wc (a / 2 ^ j % b) := by
              have e : sb V b % MM = (a / 2 ^ j % b) % MM := by
                rw [hr2.out, if_pos HLE.out]
                have h1 := HLE.out
                have h2 := HB.out
                unfold sb
                rw [Nat.mod_eq_of_lt h2, show V + (MM - b) = (V - b) + MM by omega, Nat.add_mod_right]
              unfold Wc
              rw [lb_congr e 0 (by omega), lb_congr e 1 (by omega), lb_congr e 2 (by omega), lb_congr e 3 (by omega)]
            rw [eQ] at hQ3
            rw [eR] at hR3
            refine ⟨?_, ?measure⟩
            iterate 35 (apply Exists.intro)
            refine ⟨?rel, rfl⟩
            case rel => exact ⟨j, by omega, rfl, (bA.kept hG (by intro e; injection e; omega)).kept hG2 (by intro e; injection e; omega), (bB.kept hG (by intro e; injection e; omega)).kept hG2 (by intro e; injection e; omega), (bR1.kept hG (by intro e; injection e; omega)).kept hG2 (by intro e; injection e; omega), (bR2.kept hG (by intro e; injection e; omega)).kept hG2 (by intro e; injection e; omega), hQ3, hR3.kept hG2 (by intro e; injection e; omega), step_world (step_world hW hG (Nat.le_refl _) (by omega)) hG2 (Nat.le_refl _) (by omega)⟩
            case measure => simp [intOf]
          · have hord : ∀ w, Calls Try.prog 20 #[W V, W b] w fun e w' => e = .returned (.int .i64 (-1)) ∧ Below w.heap.size w w' := fun w => by
              have h := rorder_any V b hVM HB.out w
              rwa [cmpN_lt (by omega)] at h
            have HLE := Lib.hid hle
            clear hle hVM
            go_wp2_with fail
            refine (hord _).mono ?_
            rintro e X2 ⟨rfl, h2⟩
            obtain ⟨bA, bB, bR1, bR2, bQ, bR, hW⟩ := H.out
            clear H hord cQ0 cQ1 cQ2 cQ3 cR0 cR1 cR2 cR3 cG0 cG1 cG2 cG3 cB0 cB1 cB2 cB3 fcQ0 fcQ1 fcQ2 fcQ3 fcR0 fcR1 fcR2 fcR3
            have H := Lib.hid (And.intro (bA.block_below h2) (And.intro (bB.block_below h2) (And.intro (bR1.block_below h2) (And.intro (bR2.block_below h2) (And.intro (bQ.block_below h2) (And.intro (bR.block_below h2) (bstep hW h2)))))))
            clear bA bB bR1 bR2 bQ bR hW h2
            go_wp2
            obtain ⟨bA, bB, bR1, bR2, bQ, bR, hW⟩ := H.out
            have eQ : q + q = a / 2 ^ j / b := by rw [hq2.out, if_neg HLE.out]; omega
            have eR : V = a / 2 ^ j % b := by rw [hr2.out, if_neg HLE.out]
            rw [eQ] at bQ
            rw [eR] at bR
            refine ⟨?_, ?measure⟩
            iterate 35 (apply Exists.intro)
            refine ⟨?rel, rfl⟩
            case rel => exact ⟨j, by omega, rfl, bA, bB, bR1, bR2, bQ, bR, hW⟩
            case measure => simp [intOf]
        · have hle : b ≤ V := by have h := HOV2.out; rw [hcov] at h; have h2 := of_decide_eq_true h.symm; have := HB.out; omega
          rw [hcov] at HOV
          clear hcov HOV2
          have HLE := Lib.hid hle
          clear hle
          go_wp2_with fail
          obtain ⟨bA, bB, bR1, bR2, bQ, bR, hW⟩ := H.out
          clear H cQ0 cQ1 cQ2 cQ3 cR0 cR1 cR2 cR3 cG0 cG1 cG2 cG3 cB0 cB1 cB2 cB3 fcQ0 fcQ1 fcQ2 fcQ3 fcR0 fcR1 fcR2 fcR3
          refine (rsub_any V b _).mono ?_
          rintro e X3 ⟨rfl, h3⟩
          replace bA := bA.block_below h3
          replace bB := bB.block_below h3
          replace bR1 := bR1.block_below h3
          replace bR2 := bR2.block_below h3
          replace bQ := bQ.block_below h3
          replace bR := bR.block_below h3
          replace hW := bstep hW h3
          clear h3
          have kQ0 := (cell_of_row X3 _ 0 _ _ _ bQ).trans (wc_get (q + q) 0 (by omega))
          have fkQ0 := frozen_of_row X3 _ 0 _ _ bQ
          have kQ1 := (cell_of_row X3 _ 1 _ _ _ bQ).trans (wc_get (q + q) 1 (by omega))
          have fkQ1 := frozen_of_row X3 _ 1 _ _ bQ
          have kQ2 := (cell_of_row X3 _ 2 _ _ _ bQ).trans (wc_get (q + q) 2 (by omega))
          have fkQ2 := frozen_of_row X3 _ 2 _ _ bQ
          have kQ3 := (cell_of_row X3 _ 3 _ _ _ bQ).trans (wc_get (q + q) 3 (by omega))
          have fkQ3 := frozen_of_row X3 _ 3 _ _ bQ
          have kR0 := (cell_of_row X3 _ 0 _ _ _ bR).trans (wc_get (V) 0 (by omega))
          have fkR0 := frozen_of_row X3 _ 0 _ _ bR
          have kR1 := (cell_of_row X3 _ 1 _ _ _ bR).trans (wc_get (V) 1 (by omega))
          have fkR1 := frozen_of_row X3 _ 1 _ _ bR
          have kR2 := (cell_of_row X3 _ 2 _ _ _ bR).trans (wc_get (V) 2 (by omega))
          have fkR2 := frozen_of_row X3 _ 2 _ _ bR
          have kR3 := (cell_of_row X3 _ 3 _ _ _ bR).trans (wc_get (V) 3 (by omega))
          have fkR3 := frozen_of_row X3 _ 3 _ _ bR
          have H := Lib.hid (And.intro bA (And.intro bB (And.intro bR1 (And.intro bR2 (And.intro bQ (And.intro bR hW))))))
          clear bA bB bR1 bR2 bQ bR hW
          go_wp2
          obtain ⟨bA, bB, bR1, bR2, bQ, bR, hW⟩ := H.out
          have hG := grown_set4 X3 (w.heap.size + 1 + 1 + 1 + 1 + 1) (.int .u64 (lb (sb V b) 0)) (.int .u64 (lb (sb V b) 1)) (.int .u64 (lb (sb V b) 2)) (.int .u64 (lb (sb V b) 3))
          have hG2 := grown_set' (grown_refl (((((X3.setCell ⟨w.heap.size + 1 + 1 + 1 + 1 + 1, 0, none⟩ (.int .u64 (lb (sb V b) 0))).setCell ⟨w.heap.size + 1 + 1 + 1 + 1 + 1, 1, none⟩ (.int .u64 (lb (sb V b) 1))).setCell ⟨w.heap.size + 1 + 1 + 1 + 1 + 1, 2, none⟩ (.int .u64 (lb (sb V b) 2))).setCell ⟨w.heap.size + 1 + 1 + 1 + 1 + 1, 3, none⟩ (.int .u64 (lb (sb V b) 3)))) (w.heap.size + 1 + 1 + 1 + 1)) 0 (.int .u64 (bits .or .u64 (lb (q + q) 0) 1))
          have hR3 := bR.set4 (sb V b)
          have hQ3 := heap_setCell_same _ _ 0 _ _ (.int .u64 (bits .or .u64 (lb (q + q) 0) 1)) (bQ.kept hG (by intro e; injection e; omega))
          have eQ : (Wc (q + q)).setIfInBounds 0 (.int .u64 (bits .or .u64 (lb (q + q) 0) 1)) = Wc (a / 2 ^ j / b) := by
            rw [hq2.out, if_pos HLE.out, lb_odd0 q, show q * 2 + 1 = q + q + 1 by omega]
            show #[_, _, _, _] = Wc _
            unfold Wc
            rw [← lb_odd q 0, ← lb_odd q 1, ← lb_odd q 2]
          have eR : Wc (sb V b) = Wc (a / 2 ^ j % b) := by
            have e : sb V b % MM = (a / 2 ^ j % b) % MM := by
              rw [hr2.out, if_pos HLE.out]
              have h1 := HLE.out
              have h2 := HB.out
              unfold sb
              rw [Nat.mod_eq_of_lt h2, show V + (MM - b) = (V - b) + MM by omega, Nat.add_mod_right]
            unfold Wc
            rw [lb_congr e 0 (by omega), lb_congr e 1 (by omega), lb_congr e 2 (by omega), lb_congr e 3 (by omega)]
          rw [eQ] at hQ3
          rw [eR] at hR3
          refine ⟨?_, ?measure⟩
          iterate 35 (apply Exists.intro)
          refine ⟨?rel, rfl⟩
          case rel => exact ⟨j, by omega, rfl, (bA.kept hG (by intro e; injection e; omega)).kept hG2 (by intro e; injection e; omega), (bB.kept hG (by intro e; injection e; omega)).kept hG2 (by intro e; injection e; omega), (bR1.kept hG (by intro e; injection e; omega)).kept hG2 (by intro e; injection e; omega), (bR2.kept hG (by intro e; injection e; omega)).kept hG2 (by intro e; injection e; omega), hQ3, hR3.kept hG2 (by intro e; injection e; omega), step_world (step_world hW hG (Nat.le_refl _) (by omega)) hG2 (Nat.le_refl _) (by omega)⟩
          case measure => simp [intOf]
      have cA0 : ∀ w', Below wr.heap.size wr w' → w'.cell? ⟨w.heap.size, 0, none⟩ = some (.int .u64 (lb (a) 0)) := fun w' h => (cell_of_row _ _ 0 _ _ _ (bA.block_below h)).trans rfl
      have cA1 : ∀ w', Below wr.heap.size wr w' → w'.cell? ⟨w.heap.size, 1, none⟩ = some (.int .u64 (lb (a) 1)) := fun w' h => (cell_of_row _ _ 1 _ _ _ (bA.block_below h)).trans rfl
      have cA2 : ∀ w', Below wr.heap.size wr w' → w'.cell? ⟨w.heap.size, 2, none⟩ = some (.int .u64 (lb (a) 2)) := fun w' h => (cell_of_row _ _ 2 _ _ _ (bA.block_below h)).trans rfl
      have cA3 : ∀ w', Below wr.heap.size wr w' → w'.cell? ⟨w.heap.size, 3, none⟩ = some (.int .u64 (lb (a) 3)) := fun w' h => (cell_of_row _ _ 3 _ _ _ (bA.block_below h)).trans rfl
      have cR0 : ∀ w', Below wr.heap.size wr w' → w'.cell? ⟨w.heap.size + 1 + 1 + 1 + 1 + 1, 0, none⟩ = some (.int .u64 (lb (r) 0)) := fun w' h => (cell_of_row _ _ 0 _ _ _ (bR.block_below h)).trans rfl
      have cR1 : ∀ w', Below wr.heap.size wr w' → w'.cell? ⟨w.heap.size + 1 + 1 + 1 + 1 + 1, 1, none⟩ = some (.int .u64 (lb (r) 1)) := fun w' h => (cell_of_row _ _ 1 _ _ _ (bR.block_below h)).trans rfl
      have cR2 : ∀ w', Below wr.heap.size wr w' → w'.cell? ⟨w.heap.size + 1 + 1 + 1 + 1 + 1, 2, none⟩ = some (.int .u64 (lb (r) 2)) := fun w' h => (cell_of_row _ _ 2 _ _ _ (bR.block_below h)).trans rfl
      have cR3 : ∀ w', Below wr.heap.size wr w' → w'.cell? ⟨w.heap.size + 1 + 1 + 1 + 1 + 1, 3, none⟩ = some (.int .u64 (lb (r) 3)) := fun w' h => (cell_of_row _ _ 3 _ _ _ (bR.block_below h)).trans rfl
      clear bA bB bR1 bR2 bQ bR hW hK
      refine join1 (C := fun X wz => Blk wz X 24 #[.int .u64 0, .int .u64 0, .int .u64 0, .int .u64 0] ∧ wr.heap.size ≤ X ∧ Below wr.heap.size wr wz) ?PJ ?main ?hrest
      case main =>
        intro rest
        refine wp_region_held_drew (S := fun w' => Below wr.heap.size wr w') (by as_aux_lemma => kernel_rfl) (Below.refl _ _).drew (fun hHeld => ?_)
        simp only [List.size_toArray, List.length_cons, List.length_nil, Nat.reduceAdd, Array.replicate_succ, Array.replicate_zero, List.push_toArray, List.nil_append, List.cons_append]
        refine wpAnyH_take (i := 0) (oi := { dst := some 21, op := Op.load 24 (Operand.tmp 7), type := 24, pos := "ref.go:29", after := #[], guard := none }) (v := ?vq0) rfl (by as_aux_lemma => kernel_rfl) (by as_aux_lemma => kernel_rfl) (by as_aux_lemma => kernel_rfl) (fun _ _ _ h => h) (Or.inl ⟨by rfl, ?yq0⟩) (by assumption) ?rq0
        case yq0 => (intro w hSw; (try dsimp only at hSw); go_simp <;> with_reducible rfl)
        simp only [Act.put, List.setIfInBounds_toArray, List.set_cons_zero, List.set_cons_succ]
        refine wpAnyH_take (i := 1) (oi := { dst := some 22, op := Op.load 24 (Operand.tmp 2), type := 24, pos := "ref.go:29", after := #[], guard := none }) (v := ?vq1) rfl (by as_aux_lemma => kernel_rfl) (by as_aux_lemma => kernel_rfl) (by as_aux_lemma => kernel_rfl) (fun _ _ _ h => h) (Or.inl ⟨by rfl, ?yq1⟩) (by assumption) ?rq1
        case yq1 => (intro w hSw; (try dsimp only at hSw); go_simp <;> with_reducible rfl)
        simp only [Act.put, List.setIfInBounds_toArray, List.set_cons_zero, List.set_cons_succ]
        refine wpAnyH_take (i := 2) (oi := { dst := some 23, op := Op.move (Operand.tmp 8), type := 3, pos := "ref.go:29", after := #[], guard := none }) (v := ?vq2) rfl (by as_aux_lemma => kernel_rfl) (by as_aux_lemma => kernel_rfl) (by as_aux_lemma => kernel_rfl) (fun _ _ _ h => h) (Or.inl ⟨by rfl, ?yq2⟩) (by assumption) ?rq2
        case yq2 => (intro w hSw; (try dsimp only at hSw); go_simp <;> with_reducible rfl)
        simp only [Act.put, List.setIfInBounds_toArray, List.set_cons_zero, List.set_cons_succ]
        refine wpAnyH_ready (rs := [3, 8]) (by as_aux_lemma => kernel_rfl) (by simp) ?_
        refine AllReadyH.cons (o := { dst := some 24, op := Op.call { callee := Callee.value (Operand.func 19), args := #[Operand.tmp 22, Operand.tmp 23], argTypes := #[24, 3] }, type := 4, pos := "ref.go:29", after := #[{ on := 1, ground := Ground.data }, { on := 2, ground := Ground.data }], guard := none }) rfl (fun K hK => ?_) ?_
        · rw [if_pos (by rfl)]
          go_simp
          (go_at_call 19; refine (rbit_any a j (by omega) _).mono ?_; rintro e wk3 ⟨rfl, hk3⟩)
          refine hK.out _ _ (by (try dsimp only); (first | assumption | exact (Below.refl _ _).drew | exact (balloc (Below.refl _ _) _).drew | exact rstep (by assumption) (by assumption) | exact balloc (by assumption) _)) (fun hHeld => ?_)
          clear hK K
          simp only [List.setIfInBounds_toArray, List.set_cons_zero, List.set_cons_succ]
          refine wpAnyH_ready (rs := [4, 8]) (by as_aux_lemma => kernel_rfl) (by simp) ?_
          refine AllReadyH.cons (o := { dst := some 25, op := Op.call { callee := Callee.value (Operand.func 18), args := #[Operand.tmp 21, Operand.tmp 24], argTypes := #[24, 4] }, type := 44, pos := "ref.go:29", after := #[{ on := 0, ground := Ground.data }, { on := 3, ground := Ground.data }, { on := 3, ground := Ground.chain }], guard := none }) rfl (fun K hK => ?_) ?_
          · rw [if_pos (by rfl)]
            go_simp
            (go_at_call 18; refine (HTR.out _).mono ?_; rintro e wk4 ⟨rfl, hk4⟩)
            refine hK.out _ _ (by (try dsimp only); (first | assumption | exact (Below.refl _ _).drew | exact (balloc (Below.refl _ _) _).drew | exact rstep (by assumption) (by assumption) | exact balloc (by assumption) _)) (fun hHeld => ?_)
            clear hK K
            simp only [List.setIfInBounds_toArray, List.set_cons_zero, List.set_cons_succ]
            refine wpAnyH_take (i := 5) (oi := { dst := some 20, op := Op.move (Operand.tmp 25), type := 44, pos := "ref.go:29", after := #[{ on := 4, ground := Ground.data }], guard := none }) (v := ?vq5) rfl (by as_aux_lemma => kernel_rfl) (by as_aux_lemma => kernel_rfl) (by as_aux_lemma => kernel_rfl) (fun _ _ _ h => h) (Or.inl ⟨by rfl, ?yq5⟩) (by assumption) ?rq5
            case yq5 => (intro w hSw; (try dsimp only at hSw); go_simp <;> with_reducible rfl)
            simp only [Act.put, List.setIfInBounds_toArray, List.set_cons_zero, List.set_cons_succ]
            refine wpAnyH_take (i := 6) (oi := { dst := some 26, op := Op.extract (Operand.tmp 20) 0, type := 24, pos := "ref.go:29", after := #[{ on := 5, ground := Ground.data }], guard := none }) (v := ?vq6) rfl (by as_aux_lemma => kernel_rfl) (by as_aux_lemma => kernel_rfl) (by as_aux_lemma => kernel_rfl) (fun _ _ _ h => h) (Or.inl ⟨by rfl, ?yq6⟩) (by assumption) ?rq6
            case yq6 => (intro w hSw; (try dsimp only at hSw); go_simp <;> with_reducible rfl)
            simp only [Act.put, List.setIfInBounds_toArray, List.set_cons_zero, List.set_cons_succ]
            refine wpAnyH_take (i := 7) (oi := { dst := some 27, op := Op.extract (Operand.tmp 20) 1, type := 4, pos := "ref.go:29", after := #[{ on := 5, ground := Ground.data }, { on := 9, ground := Ground.gcOnly Departure.lateStores }], guard := none }) (v := ?vq7) rfl (by as_aux_lemma => kernel_rfl) (by as_aux_lemma => kernel_rfl) (by as_aux_lemma => kernel_rfl) (fun _ _ _ h => h) (Or.inl ⟨by rfl, ?yq7⟩) (by assumption) ?rq7
            case yq7 => (intro w hSw; (try dsimp only at hSw); go_simp <;> with_reducible rfl)
            simp only [Act.put, List.setIfInBounds_toArray, List.set_cons_zero, List.set_cons_succ]
            refine wpAnyH_ready (rs := [8]) (by as_aux_lemma => kernel_rfl) (by simp) ?_
            refine AllReadyH.cons (o := { dst := some 9, op := Op.alloc 24, type := 0, pos := "ref.go:29", after := #[], guard := none }) rfl (fun K hK => ?_) (by exact AllReadyH.nil)
            rw [if_pos (by rfl)]
            go_simp
            refine hK.out _ _ (by (try dsimp only); (first | assumption | exact (Below.refl _ _).drew | exact (balloc (Below.refl _ _) _).drew | exact rstep (by assumption) (by assumption) | exact balloc (by assumption) _)) (fun hHeld => ?_)
            clear hK K
            simp only [List.setIfInBounds_toArray, List.set_cons_zero, List.set_cons_succ]
            have z1 : Blk (wk4.alloc (.cells #[.int .u64 0, .int .u64 0, .int .u64 0, .int .u64 0] 24)) wk4.heap.size 24 #[.int .u64 0, .int .u64 0, .int .u64 0, .int .u64 0] := Blk.new _ _ _
            have z4 : wr.heap.size ≤ wk4.heap.size := by (have e1 := hk3.size; have e3 := hk4.size; first | (simp only [World.size_drew'] at e1 e3 ⊢; omega) | (simp only [World.size_alloc, World.size_drew'] at e1 e3 ⊢; omega))
            have z6 := hHeld
            clear hHeld
            generalize (wk4.alloc _) = wz at z1 z6 ⊢
            generalize wk4.heap.size = X at z1 z4 ⊢
            exact rest X wz ⟨z1, z4, z6⟩
          refine AllReadyH.cons (o := { dst := some 9, op := Op.alloc 24, type := 0, pos := "ref.go:29", after := #[], guard := none }) rfl (fun K hK => ?_) (by exact AllReadyH.nil)
          rw [if_pos (by rfl)]
          go_simp
          refine hK.out _ _ (by (try dsimp only); (first | assumption | exact (Below.refl _ _).drew | exact (balloc (Below.refl _ _) _).drew | exact rstep (by assumption) (by assumption) | exact balloc (by assumption) _)) (fun hHeld => ?_)
          clear hK K
          simp only [List.setIfInBounds_toArray, List.set_cons_zero, List.set_cons_succ]
          refine wpAnyH_ready (rs := [4]) (by as_aux_lemma => kernel_rfl) (by simp) ?_
          refine AllReadyH.cons (o := { dst := some 25, op := Op.call { callee := Callee.value (Operand.func 18), args := #[Operand.tmp 21, Operand.tmp 24], argTypes := #[24, 4] }, type := 44, pos := "ref.go:29", after := #[{ on := 0, ground := Ground.data }, { on := 3, ground := Ground.data }, { on := 3, ground := Ground.chain }], guard := none }) rfl (fun K hK => ?_) (by exact AllReadyH.nil)
          rw [if_pos (by rfl)]
          go_simp
          (go_at_call 18; refine (HTR.out _).mono ?_; rintro e wk4 ⟨rfl, hk4⟩)
          refine hK.out _ _ (by (try dsimp only); (first | assumption | exact (Below.refl _ _).drew | exact (balloc (Below.refl _ _) _).drew | exact rstep (by assumption) (by assumption) | exact balloc (by assumption) _)) (fun hHeld => ?_)
          clear hK K
          simp only [List.setIfInBounds_toArray, List.set_cons_zero, List.set_cons_succ]
          refine wpAnyH_take (i := 5) (oi := { dst := some 20, op := Op.move (Operand.tmp 25), type := 44, pos := "ref.go:29", after := #[{ on := 4, ground := Ground.data }], guard := none }) (v := ?vq10) rfl (by as_aux_lemma => kernel_rfl) (by as_aux_lemma => kernel_rfl) (by as_aux_lemma => kernel_rfl) (fun _ _ _ h => h) (Or.inl ⟨by rfl, ?yq10⟩) (by assumption) ?rq10
          case yq10 => (intro w hSw; (try dsimp only at hSw); go_simp <;> with_reducible rfl)
          simp only [Act.put, List.setIfInBounds_toArray, List.set_cons_zero, List.set_cons_succ]
          refine wpAnyH_take (i := 6) (oi := { dst := some 26, op := Op.extract (Operand.tmp 20) 0, type := 24, pos := "ref.go:29", after := #[{ on := 5, ground := Ground.data }], guard := none }) (v := ?vq11) rfl (by as_aux_lemma => kernel_rfl) (by as_aux_lemma => kernel_rfl) (by as_aux_lemma => kernel_rfl) (fun _ _ _ h => h) (Or.inl ⟨by rfl, ?yq11⟩) (by assumption) ?rq11
          case yq11 => (intro w hSw; (try dsimp only at hSw); go_simp <;> with_reducible rfl)
          simp only [Act.put, List.setIfInBounds_toArray, List.set_cons_zero, List.set_cons_succ]
          refine wpAnyH_take (i := 7) (oi := { dst := some 27, op := Op.extract (Operand.tmp 20) 1, type := 4, pos := "ref.go:29", after := #[{ on := 5, ground := Ground.data }, { on := 9, ground := Ground.gcOnly Departure.lateStores }], guard := none }) (v := ?vq12) rfl (by as_aux_lemma => kernel_rfl) (by as_aux_lemma => kernel_rfl) (by as_aux_lemma => kernel_rfl) (fun _ _ _ h => h) (Or.inl ⟨by rfl, ?yq12⟩) (by assumption) ?rq12
          case yq12 => (intro w hSw; (try dsimp only at hSw); go_simp <;> with_reducible rfl)
          simp only [Act.put, List.setIfInBounds_toArray, List.set_cons_zero, List.set_cons_succ]
          refine rest _ _ ⟨?_, ?_, hHeld⟩
          · (repeat (first | exact Blk.new _ _ _ | with_reducible refine Blk.drewR ?_ | with_reducible refine Blk.alloc ?_ _ | refine Blk.keep ?_ hk4 | refine Blk.keep ?_ hk3))
          · (have e1 := hk3.size; have e3 := hk4.size; first | (simp only [World.size_drew'] at e1 e3 ⊢; omega) | (simp only [World.size_alloc, World.size_drew'] at e1 e3 ⊢; omega))
        refine AllReadyH.cons (o := { dst := some 9, op := Op.alloc 24, type := 0, pos := "ref.go:29", after := #[], guard := none }) rfl (fun K hK => ?_) (by exact AllReadyH.nil)
        rw [if_pos (by rfl)]
        go_simp
        refine hK.out _ _ (by (try dsimp only); (first | assumption | exact (Below.refl _ _).drew | exact (balloc (Below.refl _ _) _).drew | exact rstep (by assumption) (by assumption) | exact balloc (by assumption) _)) (fun hHeld => ?_)
        clear hK K
        simp only [List.setIfInBounds_toArray, List.set_cons_zero, List.set_cons_succ]
        refine wpAnyH_ready (rs := [3]) (by as_aux_lemma => kernel_rfl) (by simp) ?_
        refine AllReadyH.cons (o := { dst := some 24, op := Op.call { callee := Callee.value (Operand.func 19), args := #[Operand.tmp 22, Operand.tmp 23], argTypes := #[24, 3] }, type := 4, pos := "ref.go:29", after := #[{ on := 1, ground := Ground.data }, { on := 2, ground := Ground.data }], guard := none }) rfl (fun K hK => ?_) (by exact AllReadyH.nil)
        rw [if_pos (by rfl)]
        go_simp
        (go_at_call 19; refine (rbit_any a j (by omega) _).mono ?_; rintro e wk3 ⟨rfl, hk3⟩)
        refine hK.out _ _ (by (try dsimp only); (first | assumption | exact (Below.refl _ _).drew | exact (balloc (Below.refl _ _) _).drew | exact rstep (by assumption) (by assumption) | exact balloc (by assumption) _)) (fun hHeld => ?_)
        clear hK K
        simp only [List.setIfInBounds_toArray, List.set_cons_zero, List.set_cons_succ]
        refine wpAnyH_ready (rs := [4]) (by as_aux_lemma => kernel_rfl) (by simp) ?_
        refine AllReadyH.cons (o := { dst := some 25, op := Op.call { callee := Callee.value (Operand.func 18), args := #[Operand.tmp 21, Operand.tmp 24], argTypes := #[24, 4] }, type := 44, pos := "ref.go:29", after := #[{ on := 0, ground := Ground.data }, { on := 3, ground := Ground.data }, { on := 3, ground := Ground.chain }], guard := none }) rfl (fun K hK => ?_) (by exact AllReadyH.nil)
        rw [if_pos (by rfl)]
        go_simp
        (go_at_call 18; refine (HTR.out _).mono ?_; rintro e wk4 ⟨rfl, hk4⟩)
        refine hK.out _ _ (by (try dsimp only); (first | assumption | exact (Below.refl _ _).drew | exact (balloc (Below.refl _ _) _).drew | exact rstep (by assumption) (by assumption) | exact balloc (by assumption) _)) (fun hHeld => ?_)
        clear hK K
        simp only [List.setIfInBounds_toArray, List.set_cons_zero, List.set_cons_succ]
        refine wpAnyH_take (i := 5) (oi := { dst := some 20, op := Op.move (Operand.tmp 25), type := 44, pos := "ref.go:29", after := #[{ on := 4, ground := Ground.data }], guard := none }) (v := ?vq15) rfl (by as_aux_lemma => kernel_rfl) (by as_aux_lemma => kernel_rfl) (by as_aux_lemma => kernel_rfl) (fun _ _ _ h => h) (Or.inl ⟨by rfl, ?yq15⟩) (by assumption) ?rq15
        case yq15 => (intro w hSw; (try dsimp only at hSw); go_simp <;> with_reducible rfl)
        simp only [Act.put, List.setIfInBounds_toArray, List.set_cons_zero, List.set_cons_succ]
        refine wpAnyH_take (i := 6) (oi := { dst := some 26, op := Op.extract (Operand.tmp 20) 0, type := 24, pos := "ref.go:29", after := #[{ on := 5, ground := Ground.data }], guard := none }) (v := ?vq16) rfl (by as_aux_lemma => kernel_rfl) (by as_aux_lemma => kernel_rfl) (by as_aux_lemma => kernel_rfl) (fun _ _ _ h => h) (Or.inl ⟨by rfl, ?yq16⟩) (by assumption) ?rq16
        case yq16 => (intro w hSw; (try dsimp only at hSw); go_simp <;> with_reducible rfl)
        simp only [Act.put, List.setIfInBounds_toArray, List.set_cons_zero, List.set_cons_succ]
        refine wpAnyH_take (i := 7) (oi := { dst := some 27, op := Op.extract (Operand.tmp 20) 1, type := 4, pos := "ref.go:29", after := #[{ on := 5, ground := Ground.data }, { on := 9, ground := Ground.gcOnly Departure.lateStores }], guard := none }) (v := ?vq17) rfl (by as_aux_lemma => kernel_rfl) (by as_aux_lemma => kernel_rfl) (by as_aux_lemma => kernel_rfl) (fun _ _ _ h => h) (Or.inl ⟨by rfl, ?yq17⟩) (by assumption) ?rq17
        case yq17 => (intro w hSw; (try dsimp only at hSw); go_simp <;> with_reducible rfl)
        simp only [Act.put, List.setIfInBounds_toArray, List.set_cons_zero, List.set_cons_succ]
        refine rest _ _ ⟨?_, ?_, hHeld⟩
        · (repeat (first | exact Blk.new _ _ _ | with_reducible refine Blk.drewR ?_ | with_reducible refine Blk.alloc ?_ _ | refine Blk.keep ?_ hk4 | refine Blk.keep ?_ hk3))
        · (have e1 := hk3.size; have e3 := hk4.size; first | (simp only [World.size_drew'] at e1 e3 ⊢; omega) | (simp only [World.size_alloc, World.size_drew'] at e1 e3 ⊢; omega))
      case hrest =>
        intro X wz ⟨z1, z4, z6⟩
        refine wpAnyH_ready (rs := [9]) (by as_aux_lemma => kernel_rfl) (by simp) ?_
        refine AllReadyH.cons (o := { dst := none, op := Op.store 24 (Operand.tmp 9) (Operand.tmp 26), type := 0, pos := "ref.go:29", after := #[{ on := 8, ground := Ground.data }, { on := 6, ground := Ground.data }, { on := 4, ground := Ground.chain }, { on := 0, ground := Ground.phase }, { on := 1, ground := Ground.phase }, { on := 2, ground := Ground.phase }, { on := 3, ground := Ground.phase }, { on := 4, ground := Ground.phase }, { on := 5, ground := Ground.phase }, { on := 6, ground := Ground.phase }, { on := 7, ground := Ground.textOnly Departure.lateStores }, { on := 8, ground := Ground.phase }], guard := none }) rfl (fun K hK => ?_) (by exact AllReadyH.nil)
        rw [if_pos (by rfl)]
        refine wp_store_mid 24 (.tmp 9) (.tmp 26) rfl X 0 (Wc V) rfl rfl (z1.there _ (Nat.le_refl 4)) HI.out (wc_one _) (hK.out _ _ (below_setCells' z4 _ 0 wz z6) (fun hHeld => ?_))
        have z7 := blk_setCells z1 (Wc V) rfl (wc_one _)
        clear z1 z6
        generalize wz.setCells X 0 (Wc V).toList = wx at z7 hHeld ⊢
        clear hK K
        simp only [Act.put, List.setIfInBounds_toArray, List.set_cons_zero, List.set_cons_succ]
        refine wpAnyH_take (i := 10) (oi := { dst := some 10, op := Op.assign (Operand.tmp 27), type := 4, pos := "ref.go:29", after := #[{ on := 7, ground := Ground.data }, { on := 9, ground := Ground.chain }, { on := 0, ground := Ground.phase }, { on := 1, ground := Ground.phase }, { on := 2, ground := Ground.phase }, { on := 3, ground := Ground.phase }, { on := 4, ground := Ground.phase }, { on := 5, ground := Ground.phase }, { on := 6, ground := Ground.phase }, { on := 7, ground := Ground.phase }, { on := 8, ground := Ground.phase }, { on := 9, ground := Ground.phase }], guard := none }) (v := ?vq19) rfl (by as_aux_lemma => kernel_rfl) (by as_aux_lemma => kernel_rfl) (by as_aux_lemma => kernel_rfl) (fun _ _ _ h => h) (Or.inl ⟨by rfl, ?yq19⟩) (by assumption) ?rq19
        case yq19 => (intro w hSw; (try dsimp only at hSw); go_simp <;> with_reducible rfl)
        simp only [Act.put, List.setIfInBounds_toArray, List.set_cons_zero, List.set_cons_succ]
        refine wpAnyH_done (by as_aux_lemma => kernel_rfl) ?_ _
        exact key X wx z4 z7 hHeld
end Go.Proofs.Ythdapmceafnhgaa
