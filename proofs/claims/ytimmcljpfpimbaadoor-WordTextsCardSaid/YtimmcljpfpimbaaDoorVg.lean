/- The word of a text (WordTexts): the walk. -/
import Derived.Test.YtimmcljpfpimbaaDoorVf
namespace Go.Proofs.YtimmcljpfpimbaaDoor
open Go.RowKit
attribute [local go_sem] ix0 ix1 ix2 ix3

set_option maxRecDepth 100000 in
set_option maxHeartbeats 4000000 in
theorem texts_walk (s : ByteArray) (hm : s.size ≤ 100) (w : World) :
    Calls Tryd.prog 6 #[.string s] w fun e w' => e = .returned (.bool true) ∧ Below w.heap.size w w' := by
  obtain ⟨v, c, hc0, hc1, hpp⟩ := parse_both s hm
  have hm' : ¬ (100 : Int) < (s.size : Int) := by omega
  have HP := Lib.hid hpp
  clear hpp
  go_enter Tryd.func6, Tryd.ntmps6
  go_upto_region 4 with (go_at_call 27; refine (HP.out _).1.mono ?_; rintro e wk3 ⟨rfl, hk3⟩)
  have hC3 := Blk.new wk3 24 (Wc v)
  have hB3 := balloc hk3 (.cells (Wc v) 24)
  obtain ⟨W3, hWe⟩ : ∃ W', wk3.alloc (.cells (Wc v) 24) = W' := ⟨_, rfl⟩
  rw [hWe] at hC3 hB3 ⊢
  clear hWe hk3
  obtain ⟨C1, hC1⟩ : ∃ C1, wk3.heap.size = C1 := ⟨_, rfl⟩
  rw [hC1] at hC3 ⊢
  clear hC1
  have HC3 := Lib.hid hC3
  have HB3 := Lib.hid hB3
  clear hC3 hB3
  go_upto_region 5 with (go_at_call 30; refine (HP.out _).2.mono ?_; rintro e wk4 ⟨rfl, hk4⟩)
  have cCB := (HC3.out.keep hk4).alloc (.cells (Wc v) 24)
  have cDB := Blk.new wk4 24 (Wc v)
  have hB4 := balloc (bstep HB3.out hk4) (.cells (Wc v) 24)
  obtain ⟨W9, hWe⟩ : ∃ W', wk4.alloc (.cells (Wc v) 24) = W' := ⟨_, rfl⟩
  rw [hWe] at cCB cDB hB4 ⊢
  clear hWe hk4
  obtain ⟨C2, hC2⟩ : ∃ C2, wk4.heap.size = C2 := ⟨_, rfl⟩
  rw [hC2] at cDB ⊢
  clear hC2
  have HB9 := Lib.hid hB4
  have h0 : Below W9.heap.size W9 W9 := Below.refl _ _
  have cC0 : ∀ w', Below W9.heap.size W9 w' → w'.cell? ⟨C1, 0, none⟩ = some (.int .u64 (lb v 0)) := fun w' h => (h.cell (p := ⟨C1, 0, none⟩) cCB.lt).trans ((cell_of_row W9 _ 0 _ _ _ cCB).trans (wc_get _ 0 (by omega)))
  have cC1 : ∀ w', Below W9.heap.size W9 w' → w'.cell? ⟨C1, 1, none⟩ = some (.int .u64 (lb v 1)) := fun w' h => (h.cell (p := ⟨C1, 1, none⟩) cCB.lt).trans ((cell_of_row W9 _ 1 _ _ _ cCB).trans (wc_get _ 1 (by omega)))
  have cC2 : ∀ w', Below W9.heap.size W9 w' → w'.cell? ⟨C1, 2, none⟩ = some (.int .u64 (lb v 2)) := fun w' h => (h.cell (p := ⟨C1, 2, none⟩) cCB.lt).trans ((cell_of_row W9 _ 2 _ _ _ cCB).trans (wc_get _ 2 (by omega)))
  have cC3 : ∀ w', Below W9.heap.size W9 w' → w'.cell? ⟨C1, 3, none⟩ = some (.int .u64 (lb v 3)) := fun w' h => (h.cell (p := ⟨C1, 3, none⟩) cCB.lt).trans ((cell_of_row W9 _ 3 _ _ _ cCB).trans (wc_get _ 3 (by omega)))
  have cD0 : ∀ w', Below W9.heap.size W9 w' → w'.cell? ⟨C2, 0, none⟩ = some (.int .u64 (lb v 0)) := fun w' h => (h.cell (p := ⟨C2, 0, none⟩) cDB.lt).trans ((cell_of_row W9 _ 0 _ _ _ cDB).trans (wc_get _ 0 (by omega)))
  have cD1 : ∀ w', Below W9.heap.size W9 w' → w'.cell? ⟨C2, 1, none⟩ = some (.int .u64 (lb v 1)) := fun w' h => (h.cell (p := ⟨C2, 1, none⟩) cDB.lt).trans ((cell_of_row W9 _ 1 _ _ _ cDB).trans (wc_get _ 1 (by omega)))
  have cD2 : ∀ w', Below W9.heap.size W9 w' → w'.cell? ⟨C2, 2, none⟩ = some (.int .u64 (lb v 2)) := fun w' h => (h.cell (p := ⟨C2, 2, none⟩) cDB.lt).trans ((cell_of_row W9 _ 2 _ _ _ cDB).trans (wc_get _ 2 (by omega)))
  have cD3 : ∀ w', Below W9.heap.size W9 w' → w'.cell? ⟨C2, 3, none⟩ = some (.int .u64 (lb v 3)) := fun w' h => (h.cell (p := ⟨C2, 3, none⟩) cDB.lt).trans ((cell_of_row W9 _ 3 _ _ _ cDB).trans (wc_get _ 3 (by omega)))
  have e1 : ∀ (x : Nat) (w : World), (binOp .eql 24 (W x) (W x)).run Tryd.prog w = .ok (.bool true) w := fun x => eqW_true x x rfl
  clear cCB cDB hB4 HC3 HB3 HP
  go_wp2_with (first
    | (go_at_call 29; refine (num_any _ _).mono ?_; rintro e _ ⟨rfl, rfl⟩)
    | (go_at_call 21; refine (works_any _).mono ?_; rintro e wk9 ⟨rfl, hk9⟩) | fail)
  go_ret
  exact ⟨rfl, bstep HB9.out hk9⟩
theorem texts_over (s : ByteArray) (h : 100 < s.size) (hm : s.size ≤ 9223372036854775807) (w : World) :
    Calls Tryd.prog 6 #[.string s] w fun e w' => e = .returned (.bool true) ∧ Below w.heap.size w w' := by
  have hm' : (100 : Int) < (s.size : Int) := by omega
  go_enter Tryd.func6, Tryd.ntmps6
  go_wp2_with (first
    | (go_at_call 21; refine (works_any _).mono ?_; rintro e wk9 ⟨rfl, hk9⟩) | fail)
  go_ret
  exact ⟨rfl, hk9⟩
end Go.Proofs.YtimmcljpfpimbaaDoor
