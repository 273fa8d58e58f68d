/- Bytes and text, there and back (WordBytes): the walk. -/
import Derived.Test.YtimmcljpfpimbaaDoorVc
import Derived.Test.YtimmcljpfpimbaaDoorWj
namespace Go.Proofs.YtimmcljpfpimbaaDoor
open Go.RowKit
attribute [local go_sem] ix0 ix1 ix2 ix3

theorem conv_bytes (a b : Nat) (t : TypeId) (w : World) (hb : Blk w b t (byC a 32)) :
    (convert 35 9 (.slice (some ⟨b, 0, none⟩) 32 32)).run Tryd.prog w = .ok (.string (strOfNums ((List.range 32).map fun p => ((byA a (31 - p) : Nat) : Int)))) w :=
  run_convert_bytes_arg (P := Tryd.prog) w 35 5 (by kernel_rfl) (by kernel_rfl) b 0 32 32 ((List.range 32).map fun p => ((byA a (31 - p) : Nat) : Int)) (by simp) (fun i hi => by
    rw [Nat.zero_add]
    refine (cell_of_row w _ _ _ _ _ hb).trans ?_
    rw [byC_get _ _ _ hi, if_pos (by omega)]
    simp [List.getD, hi]) 9 (by kernel_rfl)

theorem lay_word (w : World) (v : Nat) :
    Blk (((((w.alloc (.cells #[.int .u64 0, .int .u64 0, .int .u64 0, .int .u64 0] 24)).setCell ⟨w.heap.size, 0, none⟩ (.int .u64 (lb v 0))).setCell ⟨w.heap.size, 1, none⟩ (.int .u64 (lb v 1))).setCell ⟨w.heap.size, 2, none⟩ (.int .u64 (lb v 2))).setCell ⟨w.heap.size, 3, none⟩ (.int .u64 (lb v 3))) w.heap.size 24 (Wc v) ∧
    Below w.heap.size w (((((w.alloc (.cells #[.int .u64 0, .int .u64 0, .int .u64 0, .int .u64 0] 24)).setCell ⟨w.heap.size, 0, none⟩ (.int .u64 (lb v 0))).setCell ⟨w.heap.size, 1, none⟩ (.int .u64 (lb v 1))).setCell ⟨w.heap.size, 2, none⟩ (.int .u64 (lb v 2))).setCell ⟨w.heap.size, 3, none⟩ (.int .u64 (lb v 3))) :=
  ⟨heap_setCell_same _ w.heap.size 3 _ _ _ (heap_setCell_same _ w.heap.size 2 _ _ _ (heap_setCell_same _ w.heap.size 1 _ _ _ (heap_setCell_same _ w.heap.size 0 _ _ _ (Blk.new w _ _)))),
   ((((balloc (Below.refl _ _) _).setCell (p := ⟨w.heap.size, 0, none⟩) (Nat.le_refl _) _).setCell (p := ⟨w.heap.size, 1, none⟩) (Nat.le_refl _) _).setCell (p := ⟨w.heap.size, 2, none⟩) (Nat.le_refl _) _).setCell (p := ⟨w.heap.size, 3, none⟩) (Nat.le_refl _) _⟩

set_option maxRecDepth 100000 in
set_option maxHeartbeats 8000000 in
theorem bytes_walk (a n cap v : Nat) (c : Int) (xb : Option Addr) (ha : a < MM) (hn : n ≤ 60) (w : World)
    (hR : ∀ w', Below w.heap.size w w' → Calls Tryd.prog 26 #[.slice xb n cap] w' fun e w'' => e = .returned (.tuple #[W v, .int .i64 c]) ∧ Below w'.heap.size w' w'')
    (hR2 : ∀ w', Below w.heap.size w w' → Calls Tryd.prog 28 #[.slice xb n cap] w' fun e w'' => e = .returned (.tuple #[W v, .int .i64 c]) ∧ Below w'.heap.size w' w'') :
    Calls Tryd.prog 5 #[W a, .slice xb n cap] w fun e w' => e = .returned (.bool true) ∧ Below w.heap.size w w' := by
  have h60 : ¬ (60 : Int) < (n : Int) := by omega
  have HR1 := Lib.hid hR
  have HR2 := Lib.hid hR2
  clear hR hR2
  go_enter Tryd.func5, Tryd.ntmps5
  go_wp2_with fail
  have hA := Blk.new w 24 (Wc a)
  have hW := balloc (Below.refl w.heap.size w) (.cells (Wc a) 24)
  obtain ⟨W0, hW0⟩ : ∃ W0, w.alloc (.cells (Wc a) 24) = W0 := ⟨_, rfl⟩
  rw [hW0] at hA hW ⊢
  clear hW0
  have HA := Lib.hid hA
  have HW := Lib.hid hW
  clear hA hW
  go_wp2_with (first
    | (go_at_call 22; refine (rbytes_any a _).mono ?_; rintro e wk ⟨rfl, hk⟩; obtain ⟨wz, hst, hX, hB⟩ := lay32 a W0 wk hk; rw [byC_zero 0] at hst; have HX := Lib.hid hX; have HB := Lib.hid hB; have hA1 := HA.out.keep hB; have c0 := (cell_of_row wz _ 0 _ _ _ hA1).trans (wc_get _ 0 (by omega)); have c1 := (cell_of_row wz _ 1 _ _ _ hA1).trans (wc_get _ 1 (by omega)); have c2 := (cell_of_row wz _ 2 _ _ _ hA1).trans (wc_get _ 2 (by omega)); have c3 := (cell_of_row wz _ 3 _ _ _ hA1).trans (wc_get _ 3 (by omega)); have HA1 := Lib.hid hA1; clear hX hB hk hA1)
    | (go_at_call 23; refine (bytes_any a _).mono ?_; rintro e W1 ⟨rfl, hY, hk1⟩) | fail)
  clear hst c0 c1 c2 c3
  have hX := HX.out.keep hk1
  have hA := HA1.out.keep hk1
  have hW1 := bstep HW.out (bstep HB.out hk1)
  obtain ⟨X, hXe⟩ : ∃ X, wk.heap.size = X := ⟨_, rfl⟩
  rw [hXe] at hX ⊢
  obtain ⟨Y, hYe⟩ : ∃ Y, wz.heap.size + 1 = Y := ⟨_, rfl⟩
  rw [hYe] at hY ⊢
  clear hk1 HA HW HX HB HA1 hXe hYe
  have cAB := hA
  have k1 : ∀ w', Below W1.heap.size W1 w' → (convert 35 9 (.slice (some ⟨X, 0, none⟩) 32 32)).run Tryd.prog w' = .ok (.string (strOfNums ((List.range 32).map fun p => ((byA a (31 - p) : Nat) : Int)))) w' := fun w' h => conv_bytes a X _ w' (hX.keep h)
  have k2 : ∀ w', Below W1.heap.size W1 w' → (convert 35 9 (.slice (some ⟨Y, 0, none⟩) 32 32)).run Tryd.prog w' = .ok (.string (strOfNums ((List.range 32).map fun p => ((byA a (31 - p) : Nat) : Int)))) w' := fun w' h => conv_bytes a Y _ w' (hY.keep h)
  have cA0 : ∀ w', Below W1.heap.size W1 w' → w'.cell? ⟨w.heap.size, 0, none⟩ = some (.int .u64 (lb a 0)) := fun w' h => (h.cell (p := ⟨w.heap.size, 0, none⟩) cAB.lt).trans ((cell_of_row W1 _ 0 _ _ _ cAB).trans (wc_get _ 0 (by omega)))
  have cA1 : ∀ w', Below W1.heap.size W1 w' → w'.cell? ⟨w.heap.size, 1, none⟩ = some (.int .u64 (lb a 1)) := fun w' h => (h.cell (p := ⟨w.heap.size, 1, none⟩) cAB.lt).trans ((cell_of_row W1 _ 1 _ _ _ cAB).trans (wc_get _ 1 (by omega)))
  have cA2 : ∀ w', Below W1.heap.size W1 w' → w'.cell? ⟨w.heap.size, 2, none⟩ = some (.int .u64 (lb a 2)) := fun w' h => (h.cell (p := ⟨w.heap.size, 2, none⟩) cAB.lt).trans ((cell_of_row W1 _ 2 _ _ _ cAB).trans (wc_get _ 2 (by omega)))
  have cA3 : ∀ w', Below W1.heap.size W1 w' → w'.cell? ⟨w.heap.size, 3, none⟩ = some (.int .u64 (lb a 3)) := fun w' h => (h.cell (p := ⟨w.heap.size, 3, none⟩) cAB.lt).trans ((cell_of_row W1 _ 3 _ _ _ cAB).trans (wc_get _ 3 (by omega)))
  have HY := Lib.hid hY
  have HAB := Lib.hid hA
  have HW1 := Lib.hid hW1
  clear hX hY hA hW1 cAB
  go_region_held3 (fun w' => Below W1.heap.size W1 w') (first | assumption | exact (Below.refl _ _).drew | exact rstep (by assumption) (by assumption))
    (first
      | (go_at_call 24; refine (text_any a _).mono ?_; rintro e wk2 ⟨rfl, hk2⟩)
      | (go_at_call 25; refine (rtext_any a _).mono ?_; rintro e wk2 ⟨rfl, hk2⟩))
  rename_i hHeld
  have hA2 := HAB.out.keep hHeld
  have hY2 := HY.out.keep hHeld
  have hB2 := bstep HW1.out hHeld
  have HY2 := Lib.hid hY2
  clear k1 k2 cA0 cA1 cA2 cA3 HY HAB HW1 hY2
  go_upto_region 8 with (go_at_call 26; refine (read_back a Y _ HY2.out).mono ?_; rintro e wk3 ⟨rfl, hk3⟩)
  have L1 := And.intro (Blk.new wk3 24 (Wc a)) (balloc (Below.refl wk3.heap.size wk3) (.cells (Wc a) 24))
  have hA3 := (hA2.keep hk3).keep L1.2
  have hB3 := bstep (bstep hB2 hk3) L1.2
  have hC3 := L1.1
  clear hA2 hB2 hk3 L1 HY2
  obtain ⟨W3, hWe⟩ : ∃ W', wk3.alloc (.cells (Wc a) 24) = W' := ⟨_, rfl⟩
  rw [hWe] at hA3 hB3 hC3 ⊢
  clear hWe
  obtain ⟨C1, hC1⟩ : ∃ C1, wk3.heap.size = C1 := ⟨_, rfl⟩
  rw [hC1] at hC3 ⊢
  clear hC1
  have cA0 := (cell_of_row W3 _ 0 _ _ _ hA3).trans (wc_get a 0 (by omega))
  have cA1 := (cell_of_row W3 _ 1 _ _ _ hA3).trans (wc_get a 1 (by omega))
  have cA2 := (cell_of_row W3 _ 2 _ _ _ hA3).trans (wc_get a 2 (by omega))
  have cA3 := (cell_of_row W3 _ 3 _ _ _ hA3).trans (wc_get a 3 (by omega))
  have HA3 := Lib.hid hA3
  have HB3 := Lib.hid hB3
  have HC3 := Lib.hid hC3
  clear hA3 hB3 hC3
  go_upto_region 9 with (first | (go_at_call 24; refine (text_any a _).mono ?_; rintro e wk4 ⟨rfl, hk4⟩) | (go_at_call 27; refine (parse_back a ha _).mono ?_; rintro e wk5 ⟨rfl, hk5⟩))
  have L1 := And.intro (Blk.new wk5 24 (Wc a)) (balloc (Below.refl wk5.heap.size wk5) (.cells (Wc a) 24))
  have hA5 := ((HA3.out.keep hk4).keep hk5).keep L1.2
  have hC5 := ((HC3.out.keep hk4).keep hk5).keep L1.2
  have hB5 := bstep (bstep (bstep HB3.out hk4) hk5) L1.2
  have hD5 := L1.1
  clear HA3 HB3 HC3 hk4 hk5 L1 cA0 cA1 cA2 cA3
  obtain ⟨W5, hWe⟩ : ∃ W', wk5.alloc (.cells (Wc a) 24) = W' := ⟨_, rfl⟩
  rw [hWe] at hA5 hB5 hC5 hD5 ⊢
  clear hWe
  obtain ⟨C2, hC2⟩ : ∃ C2, wk5.heap.size = C2 := ⟨_, rfl⟩
  rw [hC2] at hD5 ⊢
  clear hC2
  have HA5 := Lib.hid hA5
  have HB5 := Lib.hid hB5
  have HC5 := Lib.hid hC5
  have HD5 := Lib.hid hD5
  clear hA5 hB5 hC5 hD5
  go_upto_region 10 with (go_at_call 26; refine (HR1.out _ HB5.out).mono ?_; rintro e wk6 ⟨rfl, hk6⟩)
  have L1 := And.intro (Blk.new wk6 24 (Wc v)) (balloc (Below.refl wk6.heap.size wk6) (.cells (Wc v) 24))
  have hA7 := (HA5.out.keep hk6).keep L1.2
  have hC7 := (HC5.out.keep hk6).keep L1.2
  have hD7 := (HD5.out.keep hk6).keep L1.2
  have hB7 := bstep (bstep HB5.out hk6) L1.2
  have hE7 := L1.1
  clear HA5 HB5 HC5 HD5 hk6 L1
  obtain ⟨W7, hWe⟩ : ∃ W', wk6.alloc (.cells (Wc v) 24) = W' := ⟨_, rfl⟩
  rw [hWe] at hA7 hB7 hC7 hD7 hE7 ⊢
  clear hWe
  obtain ⟨C3, hC3⟩ : ∃ C3, wk6.heap.size = C3 := ⟨_, rfl⟩
  rw [hC3] at hE7 ⊢
  clear hC3
  have HA7 := Lib.hid hA7
  have HB7 := Lib.hid hB7
  have HC7 := Lib.hid hC7
  have HD7 := Lib.hid hD7
  have HE7 := Lib.hid hE7
  clear hA7 hB7 hC7 hD7 hE7
  go_upto_region 11 with (go_at_call 28; refine (HR2.out _ HB7.out).mono ?_; rintro e wk8 ⟨rfl, hk8⟩)
  have L1 := And.intro (Blk.new wk8 24 (Wc v)) (balloc (Below.refl wk8.heap.size wk8) (.cells (Wc v) 24))
  have cAB := (HA7.out.keep hk8).keep L1.2
  have cCB := (HC7.out.keep hk8).keep L1.2
  have cDB := (HD7.out.keep hk8).keep L1.2
  have cEB := (HE7.out.keep hk8).keep L1.2
  have hB9 := bstep (bstep HB7.out hk8) L1.2
  have cFB := L1.1
  clear HA7 HB7 HC7 HD7 HE7 hk8 L1
  obtain ⟨W9, hWe⟩ : ∃ W', wk8.alloc (.cells (Wc v) 24) = W' := ⟨_, rfl⟩
  rw [hWe] at cAB hB9 cCB cDB cEB cFB ⊢
  clear hWe
  obtain ⟨C4, hC4⟩ : ∃ C4, wk8.heap.size = C4 := ⟨_, rfl⟩
  rw [hC4] at cFB ⊢
  clear hC4
  have cA0 : ∀ w', Below W9.heap.size W9 w' → w'.cell? ⟨w.heap.size, 0, none⟩ = some (.int .u64 (lb a 0)) := fun w' h => (h.cell (p := ⟨w.heap.size, 0, none⟩) cAB.lt).trans ((cell_of_row W9 _ 0 _ _ _ cAB).trans (wc_get _ 0 (by omega)))
  have cA1 : ∀ w', Below W9.heap.size W9 w' → w'.cell? ⟨w.heap.size, 1, none⟩ = some (.int .u64 (lb a 1)) := fun w' h => (h.cell (p := ⟨w.heap.size, 1, none⟩) cAB.lt).trans ((cell_of_row W9 _ 1 _ _ _ cAB).trans (wc_get _ 1 (by omega)))
  have cA2 : ∀ w', Below W9.heap.size W9 w' → w'.cell? ⟨w.heap.size, 2, none⟩ = some (.int .u64 (lb a 2)) := fun w' h => (h.cell (p := ⟨w.heap.size, 2, none⟩) cAB.lt).trans ((cell_of_row W9 _ 2 _ _ _ cAB).trans (wc_get _ 2 (by omega)))
  have cA3 : ∀ w', Below W9.heap.size W9 w' → w'.cell? ⟨w.heap.size, 3, none⟩ = some (.int .u64 (lb a 3)) := fun w' h => (h.cell (p := ⟨w.heap.size, 3, none⟩) cAB.lt).trans ((cell_of_row W9 _ 3 _ _ _ cAB).trans (wc_get _ 3 (by omega)))
  have cC0 : ∀ w', Below W9.heap.size W9 w' → w'.cell? ⟨C1, 0, none⟩ = some (.int .u64 (lb a 0)) := fun w' h => (h.cell (p := ⟨C1, 0, none⟩) cCB.lt).trans ((cell_of_row W9 _ 0 _ _ _ cCB).trans (wc_get _ 0 (by omega)))
  have cC1 : ∀ w', Below W9.heap.size W9 w' → w'.cell? ⟨C1, 1, none⟩ = some (.int .u64 (lb a 1)) := fun w' h => (h.cell (p := ⟨C1, 1, none⟩) cCB.lt).trans ((cell_of_row W9 _ 1 _ _ _ cCB).trans (wc_get _ 1 (by omega)))
  have cC2 : ∀ w', Below W9.heap.size W9 w' → w'.cell? ⟨C1, 2, none⟩ = some (.int .u64 (lb a 2)) := fun w' h => (h.cell (p := ⟨C1, 2, none⟩) cCB.lt).trans ((cell_of_row W9 _ 2 _ _ _ cCB).trans (wc_get _ 2 (by omega)))
  have cC3 : ∀ w', Below W9.heap.size W9 w' → w'.cell? ⟨C1, 3, none⟩ = some (.int .u64 (lb a 3)) := fun w' h => (h.cell (p := ⟨C1, 3, none⟩) cCB.lt).trans ((cell_of_row W9 _ 3 _ _ _ cCB).trans (wc_get _ 3 (by omega)))
  have cD0 : ∀ w', Below W9.heap.size W9 w' → w'.cell? ⟨C2, 0, none⟩ = some (.int .u64 (lb a 0)) := fun w' h => (h.cell (p := ⟨C2, 0, none⟩) cDB.lt).trans ((cell_of_row W9 _ 0 _ _ _ cDB).trans (wc_get _ 0 (by omega)))
  have cD1 : ∀ w', Below W9.heap.size W9 w' → w'.cell? ⟨C2, 1, none⟩ = some (.int .u64 (lb a 1)) := fun w' h => (h.cell (p := ⟨C2, 1, none⟩) cDB.lt).trans ((cell_of_row W9 _ 1 _ _ _ cDB).trans (wc_get _ 1 (by omega)))
  have cD2 : ∀ w', Below W9.heap.size W9 w' → w'.cell? ⟨C2, 2, none⟩ = some (.int .u64 (lb a 2)) := fun w' h => (h.cell (p := ⟨C2, 2, none⟩) cDB.lt).trans ((cell_of_row W9 _ 2 _ _ _ cDB).trans (wc_get _ 2 (by omega)))
  have cD3 : ∀ w', Below W9.heap.size W9 w' → w'.cell? ⟨C2, 3, none⟩ = some (.int .u64 (lb a 3)) := fun w' h => (h.cell (p := ⟨C2, 3, none⟩) cDB.lt).trans ((cell_of_row W9 _ 3 _ _ _ cDB).trans (wc_get _ 3 (by omega)))
  have cE0 : ∀ w', Below W9.heap.size W9 w' → w'.cell? ⟨C3, 0, none⟩ = some (.int .u64 (lb v 0)) := fun w' h => (h.cell (p := ⟨C3, 0, none⟩) cEB.lt).trans ((cell_of_row W9 _ 0 _ _ _ cEB).trans (wc_get _ 0 (by omega)))
  have cE1 : ∀ w', Below W9.heap.size W9 w' → w'.cell? ⟨C3, 1, none⟩ = some (.int .u64 (lb v 1)) := fun w' h => (h.cell (p := ⟨C3, 1, none⟩) cEB.lt).trans ((cell_of_row W9 _ 1 _ _ _ cEB).trans (wc_get _ 1 (by omega)))
  have cE2 : ∀ w', Below W9.heap.size W9 w' → w'.cell? ⟨C3, 2, none⟩ = some (.int .u64 (lb v 2)) := fun w' h => (h.cell (p := ⟨C3, 2, none⟩) cEB.lt).trans ((cell_of_row W9 _ 2 _ _ _ cEB).trans (wc_get _ 2 (by omega)))
  have cE3 : ∀ w', Below W9.heap.size W9 w' → w'.cell? ⟨C3, 3, none⟩ = some (.int .u64 (lb v 3)) := fun w' h => (h.cell (p := ⟨C3, 3, none⟩) cEB.lt).trans ((cell_of_row W9 _ 3 _ _ _ cEB).trans (wc_get _ 3 (by omega)))
  have cF0 : ∀ w', Below W9.heap.size W9 w' → w'.cell? ⟨C4, 0, none⟩ = some (.int .u64 (lb v 0)) := fun w' h => (h.cell (p := ⟨C4, 0, none⟩) cFB.lt).trans ((cell_of_row W9 _ 0 _ _ _ cFB).trans (wc_get _ 0 (by omega)))
  have cF1 : ∀ w', Below W9.heap.size W9 w' → w'.cell? ⟨C4, 1, none⟩ = some (.int .u64 (lb v 1)) := fun w' h => (h.cell (p := ⟨C4, 1, none⟩) cFB.lt).trans ((cell_of_row W9 _ 1 _ _ _ cFB).trans (wc_get _ 1 (by omega)))
  have cF2 : ∀ w', Below W9.heap.size W9 w' → w'.cell? ⟨C4, 2, none⟩ = some (.int .u64 (lb v 2)) := fun w' h => (h.cell (p := ⟨C4, 2, none⟩) cFB.lt).trans ((cell_of_row W9 _ 2 _ _ _ cFB).trans (wc_get _ 2 (by omega)))
  have cF3 : ∀ w', Below W9.heap.size W9 w' → w'.cell? ⟨C4, 3, none⟩ = some (.int .u64 (lb v 3)) := fun w' h => (h.cell (p := ⟨C4, 3, none⟩) cFB.lt).trans ((cell_of_row W9 _ 3 _ _ _ cFB).trans (wc_get _ 3 (by omega)))
  have HB9 := Lib.hid hB9
  have h0 : Below W9.heap.size W9 W9 := Below.refl _ _
  have e1 : ∀ (x : Nat) (w : World), (binOp .eql 24 (W x) (W x)).run Tryd.prog w = .ok (.bool true) w := fun x => eqW_true x x rfl
  clear cAB cCB cDB cEB cFB hB9 HR1 HR2
  go_wp2_with (first
    | (go_at_call 29; refine (num_any _ _).mono ?_; rintro e _ ⟨rfl, rfl⟩)
    | (go_at_call 21; refine (works_any _).mono ?_; rintro e wk9 ⟨rfl, hk9⟩) | fail)
  go_ret
  exact ⟨rfl, bstep HB9.out hk9⟩
theorem bytes_over (a n cap : Nat) (xb : Option Addr) (hn : 60 < n) (hm : n ≤ 9223372036854775807) (w : World) :
    Calls Tryd.prog 5 #[W a, .slice xb n cap] w fun e w' => e = .returned (.bool true) ∧ Below w.heap.size w w' := by
  have h60 : (60 : Int) < (n : Int) := by omega
  go_enter Tryd.func5, Tryd.ntmps5
  go_wp2_with (first
    | (go_at_call 21; refine (works_any _).mono ?_; rintro e wk9 ⟨rfl, hk9⟩) | fail)
  go_ret
  exact ⟨rfl, bstep (balloc (Below.refl _ _) _) hk9⟩
theorem read_empty (x : Option Addr) (cap : Nat) (w : World) :
    Calls Tryd.prog 26 #[.slice x 0 cap] w fun e w' => e = .returned (.tuple #[W 0, .int .i64 0]) ∧ Below w.heap.size w w' := by
  rw [W_zero]
  go_enter Tryd.func26, Tryd.ntmps26
  go_wp2
  refine wp_loop_rounds 1 ?_
  rw [rounds_succ]; go_wp2
  exact bodyPost_ret (v := .tuple #[.agg #[.int .u64 0, .int .u64 0, .int .u64 0, .int .u64 0], .int .i64 0]) (by simp [results, Tryd.results26, go_sem]) rfl ⟨rfl, balloc (balloc (Below.refl _ _) _) _⟩
set_option maxRecDepth 100000 in
theorem rread_empty (x : Option Addr) (cap : Nat) (w : World) :
    Calls Tryd.prog 28 #[.slice x 0 cap] w fun e w' => e = .returned (.tuple #[W 0, .int .i64 0]) ∧ Below w.heap.size w w' := by
  have hi : (Tryd.prog.info? 36).map (·.size) = some (byC 0 32).size := by rw [byC_size]; kernel_rfl
  have HI := Lib.hid hi
  have hu : Tryd.prog.underlying 36 = some (.array 32 5) := by kernel_rfl
  have HU := Lib.hid hu
  clear hi hu
  go_enter Tryd.func28, Tryd.ntmps28
  go_wp2_with fail
  have hs := Blk.newS w (.cells (Wc 0) 24) 36 (byC 0 32)
  have hr := (Blk.new w 24 (Wc 0)).alloc (.cells (byC 0 32) 36)
  have hB := balloc (balloc (Below.refl w.heap.size w) (.cells (Wc 0) 24)) (.cells (byC 0 32) 36)
  obtain ⟨W0, hW0⟩ : ∃ W0, (w.alloc (.cells (Wc 0) 24)).alloc (.cells (byC 0 32) 36) = W0 := ⟨_, rfl⟩
  rw [hW0] at hs hr hB
  rw [byC_nought, byC_zero] at hW0
  simp only [Wc, lb_zero] at hW0
  rw [hW0]
  clear hW0
  have HS := Lib.hid hs
  have HR := Lib.hid hr
  have HB := Lib.hid hB
  clear hs hr hB
  refine wp_loop_rounds 1 ?_
  rw [rounds_succ]
  go_upto_region 8 with (fail)
  refine wp_region_lit (wpList_load_mid rfl 36 (.tmp 4) rfl (w.heap.size + 1) 0 rfl (byC 0 32).toList _ HS.out.rangeAt HU.out rfl HI.out ?_)
  go_wp2_with (go_at_call 34; refine (rfrom_any 0 _).mono ?_; rintro e wk ⟨rfl, hk⟩; have hr2 := HR.out.keep hk; have hB2 := bstep HB.out hk; have r0 := (cell_of_row wk _ 0 _ _ _ hr2).trans (wc_get 0 0 (by omega)); have r1 := (cell_of_row wk _ 1 _ _ _ hr2).trans (wc_get 0 1 (by omega)); have r2 := (cell_of_row wk _ 2 _ _ _ hr2).trans (wc_get 0 2 (by omega)); have r3 := (cell_of_row wk _ 3 _ _ _ hr2).trans (wc_get 0 3 (by omega)); have f0 := frozen_of_row wk _ 0 _ _ hr2; have f1 := frozen_of_row wk _ 1 _ _ hr2; have f2 := frozen_of_row wk _ 2 _ _ hr2; have f3 := frozen_of_row wk _ 3 _ _ hr2; clear hr2)
  exact bodyPost_ret (v := .tuple #[W 0, .int .i64 0]) (by simp [results, Tryd.results28, go_sem, r0, r1, r2, r3]) rfl ⟨rfl, (((hB2.setCell (p := ⟨w.heap.size, 0, none⟩) (by simp) _).setCell (p := ⟨w.heap.size, 1, none⟩) (by simp) _).setCell (p := ⟨w.heap.size, 2, none⟩) (by simp) _).setCell (p := ⟨w.heap.size, 3, none⟩) (by simp) _⟩
/-- Any bytes. -/
theorem bytes_law (a b o n cap : Nat) (f : Nat → Nat) (ha : a < MM) (w : World) (hm : n ≤ 9223372036854775807) (hb : b < w.heap.size) (hf : BytesAt w b o n f) :
    Calls Tryd.prog 5 #[W a, .slice (some ⟨b, o, none⟩) n cap] w fun e w' => e = .returned (.bool true) ∧ Below w.heap.size w w' := by
  by_cases h : 60 < n
  · exact bytes_over a n cap _ h hm w
  · have hf' : ∀ w', Below w.heap.size w w' → BytesAt w' b o n f := fun w' hB k hk => ⟨(hf k hk).1, (hB.cell (p := ⟨b, o + k, none⟩) hb).trans (hf k hk).2⟩
    have hb' : ∀ w', Below w.heap.size w w' → b < w'.heap.size := fun w' hB => Nat.lt_of_lt_of_le hb hB.size
    by_cases h2 : n ≤ 32
    · exact bytes_walk a n cap (numB f n) 0 _ ha (by omega) w (fun w' hB => read_any b o n cap f w' h2 (hb' w' hB) (hf' w' hB)) (fun w' hB => rread_any b o n cap f w' h2 (hb' w' hB) (hf' w' hB))
    · exact bytes_walk a n cap 0 3 _ ha (by omega) w (fun w' _ => read_long b o n cap w' (by omega) hm) (fun w' _ => rread_long b o n cap w' (by omega) hm)
theorem bytes_law0 (a cap : Nat) (x : Option Addr) (ha : a < MM) (w : World) :
    Calls Tryd.prog 5 #[W a, .slice x 0 cap] w fun e w' => e = .returned (.bool true) ∧ Below w.heap.size w w' :=
  bytes_walk a 0 cap 0 0 x ha (by omega) w (fun w' _ => read_empty x cap w') (fun w' _ => rread_empty x cap w')
end Go.Proofs.YtimmcljpfpimbaaDoor
