/- split: divide. -/
import Derived.Test.YthdapmceafnhgaaSm
namespace Go.Proofs.Ythdapmceafnhgaa
open Go.RowKit
attribute [local go_sem] ix0 ix1 ix2 ix3
abbrev UZ (b : Nat) : Array Value := #[.int .u64 0, .int .u64 0, .int .u64 0, .int .u64 0, .int .u64 0, .int .u64 0, .int .u64 0, .int .u64 0, .int .u64 (lb b 0), .int .u64 (lb b 1), .int .u64 (lb b 2), .int .u64 (lb b 3)]
theorem uz_uw (b : Nat) : UZ b = UW 0 0 b := by unfold UZ UW; simp only [lb_zero]
theorem step_world {n : Nat} {w X Y : World} {g : Nat} (h : Below n w X) (k : X.grownBy Y (some g)) (hn : n ≤ w.heap.size) (hg : n ≤ g) : Below n w Y :=
  h.grown k (Nat.le_trans hn h.size) (fun j e => by cases e; omega)
set_option maxRecDepth 100000 in
set_option maxHeartbeats 2000000 in
theorem divide_any (N b nb no n cap : Nat) (hb0 : 0 < b) (hb : b < MM) (hn : n ≤ 16) (hlt : N < B64 ^ n) (w : World) (hnb : nb < w.heap.size)
    (hN : ∀ j, j < n → w.cell? ⟨nb, no + j, none⟩ = some (.int .u64 ((N / B64 ^ j % B64 : Nat) : Int))) :
    Calls Try.prog 24 #[W b, .slice (some ⟨nb, no, none⟩) n cap] w fun e w' => e = .returned (WL (N / b) (N % b)) ∧ Below w.heap.size w w' := by
  have heq : ∀ w, (binOp .eql 24 (W b) (W 0)).run Try.prog w = .ok (.bool false) w := fun w => by
    rw [eqW, Nat.mod_eq_of_lt hb, Nat.zero_mod]; simp; omega
  rw [W_zero] at heq
  have HN := Lib.hid hN
  have HLT := Lib.hid hlt
  have HB0 := Lib.hid hb0
  have HBM := Lib.hid hb
  clear hN hlt hb0 hb
  go_enter Try.func24, Try.ntmps24
  go_wp2
  refine wp_scope_jumps 0 (fun _ _ => False) (fun _ _ => 0) rfl ?first ?pass
  case pass => intro a w h; exact h.elim
  case first =>
    go_wp2_with fail
    have hX : Blk ((((w.alloc (.cells (Wc b) 24)).alloc (.cells #[.slice (some ⟨nb, no, none⟩) n cap] 53)).alloc (.cells #[.int .u64 0, .int .u64 0, .int .u64 0, .int .u64 0, .int .u64 0, .int .u64 0, .int .u64 0, .int .u64 0] 51)).alloc (.cells (UZ b) 66)) (w.heap.size + 1) 53 #[.slice (some ⟨nb, no, none⟩) n cap] := ((by have h := Blk.new (w.alloc (.cells (Wc b) 24)) 53 #[.slice (some ⟨nb, no, none⟩) n cap]; rwa [World.size_alloc] at h : Blk ((w.alloc (.cells (Wc b) 24)).alloc (.cells #[.slice (some ⟨nb, no, none⟩) n cap] 53)) (w.heap.size + 1) 53 _).alloc _).alloc _
    have hZ : Blk ((((w.alloc (.cells (Wc b) 24)).alloc (.cells #[.slice (some ⟨nb, no, none⟩) n cap] 53)).alloc (.cells #[.int .u64 0, .int .u64 0, .int .u64 0, .int .u64 0, .int .u64 0, .int .u64 0, .int .u64 0, .int .u64 0] 51)).alloc (.cells (UZ b) 66)) (w.heap.size + 1 + 1) 51 #[.int .u64 0, .int .u64 0, .int .u64 0, .int .u64 0, .int .u64 0, .int .u64 0, .int .u64 0, .int .u64 0] := (by have h := Blk.new ((w.alloc (.cells (Wc b) 24)).alloc (.cells #[.slice (some ⟨nb, no, none⟩) n cap] 53)) 51 #[.int .u64 0, .int .u64 0, .int .u64 0, .int .u64 0, .int .u64 0, .int .u64 0, .int .u64 0, .int .u64 0]; rwa [World.size_alloc, World.size_alloc] at h : Blk (((w.alloc (.cells (Wc b) 24)).alloc (.cells #[.slice (some ⟨nb, no, none⟩) n cap] 53)).alloc (.cells #[.int .u64 0, .int .u64 0, .int .u64 0, .int .u64 0, .int .u64 0, .int .u64 0, .int .u64 0, .int .u64 0] 51)) (w.heap.size + 1 + 1) 51 #[.int .u64 0, .int .u64 0, .int .u64 0, .int .u64 0, .int .u64 0, .int .u64 0, .int .u64 0, .int .u64 0]).alloc _
    have hU : Blk ((((w.alloc (.cells (Wc b) 24)).alloc (.cells #[.slice (some ⟨nb, no, none⟩) n cap] 53)).alloc (.cells #[.int .u64 0, .int .u64 0, .int .u64 0, .int .u64 0, .int .u64 0, .int .u64 0, .int .u64 0, .int .u64 0] 51)).alloc (.cells (UZ b) 66)) (w.heap.size + 1 + 1 + 1) 66 (UZ b) := by
      have h := Blk.new (((w.alloc (.cells (Wc b) 24)).alloc (.cells #[.slice (some ⟨nb, no, none⟩) n cap] 53)).alloc (.cells #[.int .u64 0, .int .u64 0, .int .u64 0, .int .u64 0, .int .u64 0, .int .u64 0, .int .u64 0, .int .u64 0] 51)) 66 (UZ b)
      rwa [World.size_alloc, World.size_alloc, World.size_alloc] at h
    have hW : Below w.heap.size w ((((w.alloc (.cells (Wc b) 24)).alloc (.cells #[.slice (some ⟨nb, no, none⟩) n cap] 53)).alloc (.cells #[.int .u64 0, .int .u64 0, .int .u64 0, .int .u64 0, .int .u64 0, .int .u64 0, .int .u64 0, .int .u64 0] 51)).alloc (.cells (UZ b) 66)) := balloc (balloc (balloc (balloc (Below.refl _ _) _) _) _) _
    obtain ⟨W0, hW0⟩ : ∃ W0, (((w.alloc (.cells (Wc b) 24)).alloc (.cells #[.slice (some ⟨nb, no, none⟩) n cap] 53)).alloc (.cells #[.int .u64 0, .int .u64 0, .int .u64 0, .int .u64 0, .int .u64 0, .int .u64 0, .int .u64 0, .int .u64 0] 51)).alloc (.cells (UZ b) 66) = W0 := ⟨_, rfl⟩
    rw [hW0] at hX hZ hU hW ⊢
    clear hW0
    rw [uz_uw] at hU
    have HX := Lib.hid hX
    have HZ := Lib.hid hZ
    have HU := Lib.hid hU
    have HW := Lib.hid hW
    have HNW := Lib.hid (show ∀ w', Below w.heap.size w w' → ∀ j, j < n → w'.cell? ⟨nb, no + j, none⟩ = some (.int .u64 ((N / B64 ^ j % B64 : Nat) : Int)) from fun w' h j hj => (h.cell (p := ⟨nb, no + j, none⟩) hnb).trans (HN.out j hj))
    clear hX hZ hU hW
    go_wp2_with (first | (go_at_call 36; refine (width_any N nb no n cap hn HLT.out _ (HNW.out _ HW.out)).mono ?_; rintro e _ ⟨⟨l, rfl, hl1, hl2⟩, rfl⟩; have gl : IntKind.i64.wrap ((l : Int) - 1) = (l : Int) - 1 := IntWalk.i64_in _ (by omega); have HL2 := Lib.hid hl2; clear hl2) | fail)
    go_loopw [7] (fun i wr => ∃ k : Nat, k ≤ l ∧ i = .int .i64 ((k : Int) - 1) ∧ Blk wr (w.heap.size + 1 + 1 + 1) 66 (UW (N / 2 ^ k / b) (N / 2 ^ k % b) b) ∧ Blk wr (w.heap.size + 1) 53 #[.slice (some ⟨nb, no, none⟩) n cap] ∧ Blk wr (w.heap.size + 1 + 1) 51 #[.int .u64 0, .int .u64 0, .int .u64 0, .int .u64 0, .int .u64 0, .int .u64 0, .int .u64 0, .int .u64 0] ∧ Below w.heap.size w wr) (fun i _ => (intOf i + 1).toNat)
    case atStart => exact ⟨l, Nat.le_refl _, rfl, by rw [Nat.div_eq_of_lt HL2.out, Nat.zero_div, Nat.zero_mod]; exact HU.out, HX.out, HZ.out, HW.out⟩
    case round =>
      obtain ⟨k, hk, rfl, hu, hx, hz, hB⟩ := hrel
      by_cases h0 : k = 0
      · subst h0
        have c0 := (cell_of_row wr _ 0 _ _ _ hu).trans (show (UW (N / 2 ^ 0 / b) (N / 2 ^ 0 % b) b)[0]? = some (.int .u64 (lb (N / 2 ^ 0 / b) 0)) from rfl)
        have r0 := cell_of_row wr _ 0 _ _ _ hz
        have f0 := frozen_of_row wr _ 0 _ _ hz
        have c1 := (cell_of_row wr _ 1 _ _ _ hu).trans (show (UW (N / 2 ^ 0 / b) (N / 2 ^ 0 % b) b)[1]? = some (.int .u64 (lb (N / 2 ^ 0 / b) 1)) from rfl)
        have r1 := cell_of_row wr _ 1 _ _ _ hz
        have f1 := frozen_of_row wr _ 1 _ _ hz
        have c2 := (cell_of_row wr _ 2 _ _ _ hu).trans (show (UW (N / 2 ^ 0 / b) (N / 2 ^ 0 % b) b)[2]? = some (.int .u64 (lb (N / 2 ^ 0 / b) 2)) from rfl)
        have r2 := cell_of_row wr _ 2 _ _ _ hz
        have f2 := frozen_of_row wr _ 2 _ _ hz
        have c3 := (cell_of_row wr _ 3 _ _ _ hu).trans (show (UW (N / 2 ^ 0 / b) (N / 2 ^ 0 % b) b)[3]? = some (.int .u64 (lb (N / 2 ^ 0 / b) 3)) from rfl)
        have r3 := cell_of_row wr _ 3 _ _ _ hz
        have f3 := frozen_of_row wr _ 3 _ _ hz
        have c4 := (cell_of_row wr _ 4 _ _ _ hu).trans (show (UW (N / 2 ^ 0 / b) (N / 2 ^ 0 % b) b)[4]? = some (.int .u64 (lb (N / 2 ^ 0 % b) 0)) from rfl)
        have r4 := cell_of_row wr _ 4 _ _ _ hz
        have f4 := frozen_of_row wr _ 4 _ _ hz
        have c5 := (cell_of_row wr _ 5 _ _ _ hu).trans (show (UW (N / 2 ^ 0 / b) (N / 2 ^ 0 % b) b)[5]? = some (.int .u64 (lb (N / 2 ^ 0 % b) 1)) from rfl)
        have r5 := cell_of_row wr _ 5 _ _ _ hz
        have f5 := frozen_of_row wr _ 5 _ _ hz
        have c6 := (cell_of_row wr _ 6 _ _ _ hu).trans (show (UW (N / 2 ^ 0 / b) (N / 2 ^ 0 % b) b)[6]? = some (.int .u64 (lb (N / 2 ^ 0 % b) 2)) from rfl)
        have r6 := cell_of_row wr _ 6 _ _ _ hz
        have f6 := frozen_of_row wr _ 6 _ _ hz
        have c7 := (cell_of_row wr _ 7 _ _ _ hu).trans (show (UW (N / 2 ^ 0 / b) (N / 2 ^ 0 % b) b)[7]? = some (.int .u64 (lb (N / 2 ^ 0 % b) 3)) from rfl)
        have r7 := cell_of_row wr _ 7 _ _ _ hz
        have f7 := frozen_of_row wr _ 7 _ _ hz
        have HB := Lib.hid hB
        clear hu hx hz hB
        go_wp2
        exact bodyPost_ret (R := fun e w' => e = .returned (WL (N / b) (N % b)) ∧ Below w.heap.size w w') (v := WL (N / 2 ^ 0 / b) (N / 2 ^ 0 % b)) (by simp [results, Try.results24, go_sem, r0, r1, r2, r3, r4, r5, r6, r7]) rfl ⟨by rw [Nat.pow_zero, Nat.div_one], ((((((((HB.out.setCell (p := ⟨w.heap.size + 1 + 1, 0, none⟩) (by simp; omega) _).setCell (p := ⟨w.heap.size + 1 + 1, 1, none⟩) (by simp; omega) _).setCell (p := ⟨w.heap.size + 1 + 1, 2, none⟩) (by simp; omega) _).setCell (p := ⟨w.heap.size + 1 + 1, 3, none⟩) (by simp; omega) _).setCell (p := ⟨w.heap.size + 1 + 1, 4, none⟩) (by simp; omega) _).setCell (p := ⟨w.heap.size + 1 + 1, 5, none⟩) (by simp; omega) _).setCell (p := ⟨w.heap.size + 1 + 1, 6, none⟩) (by simp; omega) _).setCell (p := ⟨w.heap.size + 1 + 1, 7, none⟩) (by simp; omega) _)⟩
      · obtain ⟨j, rfl⟩ : ∃ j, k = j + 1 := ⟨k - 1, by omega⟩
        have hsd := Lib.hid (step_div N b j HB0.out)
        have g1 : ((j + 1 : Nat) : Int) - 1 = (j : Int) := by omega
        rw [g1]
        have HUW := Lib.hid hu
        have HX2 := Lib.hid hx
        have HZ2 := Lib.hid hz
        have HB := Lib.hid hB
        clear hu hx hz hB
        go_wp2_with (first | (go_at_call 33; refine (step_any (N / 2 ^ (j + 1) / b) (N / 2 ^ (j + 1) % b) b N (w.heap.size + 1 + 1 + 1) (w.heap.size + 1) nb no n cap j (Nat.mod_lt _ HB0.out) HBM.out hn (by omega) _ HUW.out (cell_of_row _ _ 0 _ _ _ HX2.out) (HNW.out _ HB.out)).mono ?_; rw [← hsd.out.1, ← hsd.out.2]; rintro e w1 ⟨rfl, hu1, hg1⟩) | fail)
        exact ⟨⟨j, by omega, by simp, hu1, HX2.out.kept hg1 (by simp), HZ2.out.kept hg1 (by simp), step_world HB.out hg1 (Nat.le_refl _) (by omega)⟩, by simp [intOf]⟩
end Go.Proofs.Ythdapmceafnhgaa
