/- digest: turn, Turn. -/
import Derived.Test.YtfknfopdinkmkaaKf
import Derived.Test.YtfknfopdinkmkaaPb
import Derived.Laws.EntriesVeiled
import Derived.Deep.WholeRow
namespace Go.Proofs.Ytfknfopdinkmkaa
open Go.RowKit
attribute [local irreducible] ln rot
theorem ixM (f : Nat → Ln) (k : Nat) (hk : k < 24) (w : World) : (Instr.index 38 (.agg (Fc 24 f)) (.int .i64 k)).run Try.prog w = .ok (uv (f k)) w := by
  rcases (show k = 0 ∨ k = 1 ∨ k = 2 ∨ k = 3 ∨ k = 4 ∨ k = 5 ∨ k = 6 ∨ k = 7 ∨ k = 8 ∨ k = 9 ∨ k = 10 ∨ k = 11 ∨ k = 12 ∨ k = 13 ∨ k = 14 ∨ k = 15 ∨ k = 16 ∨ k = 17 ∨ k = 18 ∨ k = 19 ∨ k = 20 ∨ k = 21 ∨ k = 22 ∨ k = 23 by omega) with rfl | rfl | rfl | rfl | rfl | rfl | rfl | rfl | rfl | rfl | rfl | rfl | rfl | rfl | rfl | rfl | rfl | rfl | rfl | rfl | rfl | rfl | rfl | rfl
  · exact (show (Instr.index 38 (.agg (Fc 24 f)) (.int .i64 0)).run Try.prog w = .ok (uv (f 0)) w by kernel_rfl)
  · exact (show (Instr.index 38 (.agg (Fc 24 f)) (.int .i64 1)).run Try.prog w = .ok (uv (f 1)) w by kernel_rfl)
  · exact (show (Instr.index 38 (.agg (Fc 24 f)) (.int .i64 2)).run Try.prog w = .ok (uv (f 2)) w by kernel_rfl)
  · exact (show (Instr.index 38 (.agg (Fc 24 f)) (.int .i64 3)).run Try.prog w = .ok (uv (f 3)) w by kernel_rfl)
  · exact (show (Instr.index 38 (.agg (Fc 24 f)) (.int .i64 4)).run Try.prog w = .ok (uv (f 4)) w by kernel_rfl)
  · exact (show (Instr.index 38 (.agg (Fc 24 f)) (.int .i64 5)).run Try.prog w = .ok (uv (f 5)) w by kernel_rfl)
  · exact (show (Instr.index 38 (.agg (Fc 24 f)) (.int .i64 6)).run Try.prog w = .ok (uv (f 6)) w by kernel_rfl)
  · exact (show (Instr.index 38 (.agg (Fc 24 f)) (.int .i64 7)).run Try.prog w = .ok (uv (f 7)) w by kernel_rfl)
  · exact (show (Instr.index 38 (.agg (Fc 24 f)) (.int .i64 8)).run Try.prog w = .ok (uv (f 8)) w by kernel_rfl)
  · exact (show (Instr.index 38 (.agg (Fc 24 f)) (.int .i64 9)).run Try.prog w = .ok (uv (f 9)) w by kernel_rfl)
  · exact (show (Instr.index 38 (.agg (Fc 24 f)) (.int .i64 10)).run Try.prog w = .ok (uv (f 10)) w by kernel_rfl)
  · exact (show (Instr.index 38 (.agg (Fc 24 f)) (.int .i64 11)).run Try.prog w = .ok (uv (f 11)) w by kernel_rfl)
  · exact (show (Instr.index 38 (.agg (Fc 24 f)) (.int .i64 12)).run Try.prog w = .ok (uv (f 12)) w by kernel_rfl)
  · exact (show (Instr.index 38 (.agg (Fc 24 f)) (.int .i64 13)).run Try.prog w = .ok (uv (f 13)) w by kernel_rfl)
  · exact (show (Instr.index 38 (.agg (Fc 24 f)) (.int .i64 14)).run Try.prog w = .ok (uv (f 14)) w by kernel_rfl)
  · exact (show (Instr.index 38 (.agg (Fc 24 f)) (.int .i64 15)).run Try.prog w = .ok (uv (f 15)) w by kernel_rfl)
  · exact (show (Instr.index 38 (.agg (Fc 24 f)) (.int .i64 16)).run Try.prog w = .ok (uv (f 16)) w by kernel_rfl)
  · exact (show (Instr.index 38 (.agg (Fc 24 f)) (.int .i64 17)).run Try.prog w = .ok (uv (f 17)) w by kernel_rfl)
  · exact (show (Instr.index 38 (.agg (Fc 24 f)) (.int .i64 18)).run Try.prog w = .ok (uv (f 18)) w by kernel_rfl)
  · exact (show (Instr.index 38 (.agg (Fc 24 f)) (.int .i64 19)).run Try.prog w = .ok (uv (f 19)) w by kernel_rfl)
  · exact (show (Instr.index 38 (.agg (Fc 24 f)) (.int .i64 20)).run Try.prog w = .ok (uv (f 20)) w by kernel_rfl)
  · exact (show (Instr.index 38 (.agg (Fc 24 f)) (.int .i64 21)).run Try.prog w = .ok (uv (f 21)) w by kernel_rfl)
  · exact (show (Instr.index 38 (.agg (Fc 24 f)) (.int .i64 22)).run Try.prog w = .ok (uv (f 22)) w by kernel_rfl)
  · exact (show (Instr.index 38 (.agg (Fc 24 f)) (.int .i64 23)).run Try.prog w = .ok (uv (f 23)) w by kernel_rfl)
/-- The state behind r rounds, as the program keeps it. -/
def tnP (f : Nat → Ln) : Nat → Nat → Ln
  | 0 => f
  | r + 1 => rdP (upd (tnP f r) 25 (rcv r))
theorem tnP_on (f : Nat → Ln) : ∀ r, EqOn (tnP f r) (rnds f r)
  | 0 => EqOn.refl f
  | r + 1 => by
    have h : EqOn (upd (tnP f r) 25 (rcv r)) (rnds f r) := fun i hi => by unfold upd; rw [if_neg (by omega)]; exact tnP_on f r i hi
    exact (rdP_on r _ (by unfold upd; rw [if_pos rfl])).trans (rnd_on r h)
abbrev Fns : Array Value := #[.func (.methodOf 58 "excise/digest.columns") #[] #[], .func (.methodOf 58 "excise/digest.places") #[] #[], .func (.methodOf 58 "excise/digest.rows") #[] #[], .func (.func 28) #[] #[]]
theorem info24 : (Try.prog.info? 38).map (·.size) = some 24 := by kernel_rfl
theorem und24 : Try.prog.underlying 38 = some (.array 24 27) := by kernel_rfl

set_option maxRecDepth 100000 in
set_option maxHeartbeats 4000000 in
theorem turn_any (g : Nat) (f : Nat → Ln) (w : World) (hB : Blk w g 48 (Fc 26 f)) :
    Calls Try.prog 18 #[.pointer (some ⟨g, 0, none⟩), .agg (Fc 24 rcv)] w fun e w' => e = .returned (.tuple #[]) ∧ Blk w' g 48 (Fc 26 (tnP f 24)) ∧ w.grownBy w' (some g) := by
  have HB := Lib.hid hB
  clear hB
  go_enter Try.func18, Try.ntmps18
  go_upto_region 2 with fail
  have hX := (HB.out.alloc (.cells (Fc 24 rcv) 38)).alloc (.cells Fns 60)
  have hM := (Blk.new w 38 (Fc 24 rcv)).alloc (.cells Fns 60)
  have hF := Blk.newS w (.cells (Fc 24 rcv) 38) 60 Fns
  have hG := grownSome (g := g) (grownNone (balloc (balloc (Below.refl _ w) (.cells (Fc 24 rcv) 38)) (.cells Fns 60)))
  have hlt := HB.out.lt
  obtain ⟨w1, hw1⟩ : ∃ w1, (w.alloc (.cells (Fc 24 rcv) 38)).alloc (.cells Fns 60) = w1 := ⟨_, rfl⟩
  rw [hw1] at hX hM hF hG ⊢
  have HX := Lib.hid (And.intro hX (And.intro hM (And.intro hF hG)))
  clear hX hM hF hG HB hw1
  refine wp_region_lit (wpList_load_mid rfl 38 (.tmp 3) rfl w.heap.size 0 rfl (Fc 24 rcv).toList _ HX.out.2.1.rangeAt und24 rfl (by rw [info24]; show some 24 = some (Fc 24 rcv).size; rw [Fc_size]) ?_)
  go_wp2_with fail
  generalize hgb : w.heap.size = gb at HX hlt ⊢
  have hgb' : gb ≤ w.heap.size := by omega
  clear hgb
  go_loopw [12] (fun i wr => ∃ r : Nat, r ≤ 24 ∧ i = .int .i64 (r : Int) ∧ Blk wr g 48 (Fc 26 (tnP f r)) ∧ Blk wr (gb + 1) 60 Fns ∧ w.grownBy wr (some g)) (fun i _ => 24 - (intOf i).toNat)
  case atStart => exact ⟨0, by omega, rfl, HX.out.1, HX.out.2.2.1, HX.out.2.2.2⟩
  case round =>
    clear HX
    obtain ⟨r, hr, rfl, hX, hF, hG⟩ := hrel
    by_cases hr4 : r < 24
    · have hi := ixM rcv r hr4 wr
      have hC := (cell_of_row _ _ 25 _ _ _ hX).trans (Fc_get 26 _ 25 (by omega))
      have hZ := frozen_of_row _ _ 25 _ _ hX
      have HX := Lib.hid (And.intro hX (And.intro hF hG))
      clear hX hF hG
      go_upto_region 6 with fail
      obtain ⟨hX, hF, hG⟩ := HX.out
      have hS := heap_setCell_same wr g 25 _ _ (uv (rcv r)) hX
      rw [Fc_set _ _ _ _ (by omega)] at hS
      have hF2 := hF.kept (grown_set' (grown_refl wr g) 25 (uv (rcv r))) (fun e => by injection e; omega)
      have hG2 := grown_set' hG 25 (uv (rcv r))
      have hS : Blk (wr.setCell ⟨g, 25, none⟩ (uv (rcv r))) g 48 (Fc 26 (upd (tnP f r) 25 (rcv r))) := hS
      obtain ⟨V, hV⟩ : ∃ V, wr.setCell ⟨g, 25, none⟩ (uv (rcv r)) = V := ⟨_, rfl⟩
      rw [hV] at hS hF2 hG2 ⊢
      have c0 := cell_of_row V _ 0 _ _ _ hF2
      have c1 := cell_of_row V _ 1 _ _ _ hF2
      have c2 := cell_of_row V _ 2 _ _ _ hF2
      have c3 := cell_of_row V _ 3 _ _ _ hF2
      have HY := Lib.hid (And.intro hS (And.intro hF2 hG2))
      clear hS hF2 hG2 hX hF hG HX hV hi hC hZ
      go_wp2_with fail
      refine (order_anyK g _ _ HY.out.1).mono ?_
      rintro e wk ⟨rfl, hX, hG⟩
      have HZ : Hid (Blk wk g 48 (Fc 26 (tnP f (r + 1))) ∧ Blk wk (gb + 1) 60 Fns ∧ w.grownBy wk (some g)) := Lib.hid ⟨hX, HY.out.2.1.kept hG (fun e => by injection e; omega), grown_trans HY.out.2.2 hG⟩
      clear hX hG HY c0 c1 c2 c3
      go_wp2_with fail
      exact ⟨⟨r + 1, by omega, by go_num, HZ.out⟩, by simp [intOf]; omega⟩
    · obtain rfl : r = 24 := by omega
      have HX := Lib.hid (And.intro hX hG)
      clear hX hG hF
      go_wp2_with fail
      go_end0
      exact ⟨rfl, HX.out⟩

end Go.Proofs.Ytfknfopdinkmkaa
