/- digest: rows. -/
import Derived.Test.YtfknfopdinkmkaaKd
import Derived.Deep.RegionHeld3
import Derived.Deep.CutRange
import Derived.Deep.DeepCutAuto
namespace Go.Proofs.Ytfknfopdinkmkaa
open Go.RowKit
attribute [local go_sem] uv_xor uv_and uv_or uv_not
attribute [local irreducible] ln rot
theorem uv_not' (x : Ln) : bits .xor .u64 (if IntKind.u64.signed = true then -1 else IntKind.u64.max) (ln x) = ln (~~~ x) := by
  rw [← uv_not]; rfl
attribute [local go_sem] uv_not'
def chF (f : Nat → Ln) (k : Nat) : Nat → Ln := fun i => if i < k then chi f i else f i
/-- A row's numbers, the first two behind again. -/
def rdF (f : Nat → Ln) (y : Nat) : Nat → Ln := fun k => f (5 * y + k % 5)
theorem chF_zero (f : Nat → Ln) : chF f 0 = f := by funext p; unfold chF; rw [if_neg (by omega)]
theorem chF_step (f : Nat → Ln) (y x : Nat) (hx : x < 5) : upd (chF f (5 * y + x)) (5 * y + x) (f (5 * y + x) ^^^ (~~~ rdF f y (x + 1) &&& rdF f y (x + 2))) = chF f (5 * y + x + 1) := by
  funext p; unfold upd chF
  by_cases e : p = 5 * y + x
  · subst e; rw [if_pos rfl, if_pos (by omega)]
    unfold chi rdF
    rw [show (5 * y + x) / 5 * 5 = 5 * y by omega, show (5 * y + x + 1) % 5 = (x + 1) % 5 by omega, show (5 * y + x + 2) % 5 = (x + 2) % 5 by omega]
  · rw [if_neg e]
    by_cases h : p < 5 * y + x
    · rw [if_pos h, if_pos (by omega)]
    · rw [if_neg h, if_neg (by omega)]

set_option maxRecDepth 100000 in
set_option maxHeartbeats 4000000 in
theorem rows_any (g : Nat) (f : Nat → Ln) (w : World) (hB : Blk w g 48 (Fc 26 f)) :
    Calls Try.prog 27 #[.pointer (some ⟨g, 0, none⟩)] w fun e w' => e = .returned (.tuple #[]) ∧ Blk w' g 48 (Fc 26 (chF f 25)) ∧ w.grownBy w' (some g) := by
  have HB := Lib.hid hB
  clear hB
  go_enter Try.func27, Try.ntmps27
  go_wp2_with fail
  go_loopw [6] (fun i wr => ∃ y : Nat, y ≤ 5 ∧ i = .int .i64 (y : Int) ∧ Blk wr g 48 (Fc 26 (chF f (5 * y))) ∧ w.grownBy wr (some g)) (fun i _ => 5 - (intOf i).toNat)
  case atStart => exact ⟨0, by omega, rfl, by rw [Nat.mul_zero, chF_zero]; exact HB.out, grown_refl w g⟩
  case round =>
    clear HB
    obtain ⟨y, hy, rfl, hX, hG⟩ := hrel
    by_cases hy5 : y < 5
    · have HX := Lib.hid (And.intro hX hG)
      clear hX hG
      go_wp2_with fail
      refine (row_at g y _ (by omega) rfl _).mono ?_
      rintro e wk ⟨rfl, rfl⟩
      go_wp2_with fail
      obtain ⟨hX, hG⟩ := HX.out
      have c1 : ∀ w', Below wr.heap.size wr w' → w'.cell? ⟨g, 5 * y + 1, none⟩ = some (uv (f (5 * y + 1))) := fun w' h => (cell_of_row _ _ (5 * y + 1) _ _ _ (hX.keep h)).trans ((Fc_get 26 _ _ (by omega)).trans (by unfold chF; rw [if_neg (by omega)]))
      have c2 : ∀ w', Below wr.heap.size wr w' → w'.cell? ⟨g, 5 * y + 2, none⟩ = some (uv (f (5 * y + 2))) := fun w' h => (cell_of_row _ _ (5 * y + 2) _ _ _ (hX.keep h)).trans ((Fc_get 26 _ _ (by omega)).trans (by unfold chF; rw [if_neg (by omega)]))
      have c3 : ∀ w', Below wr.heap.size wr w' → w'.cell? ⟨g, 5 * y + 3, none⟩ = some (uv (f (5 * y + 3))) := fun w' h => (cell_of_row _ _ (5 * y + 3) _ _ _ (hX.keep h)).trans ((Fc_get 26 _ _ (by omega)).trans (by unfold chF; rw [if_neg (by omega)]))
      have c4 : ∀ w', Below wr.heap.size wr w' → w'.cell? ⟨g, 5 * y + 4, none⟩ = some (uv (f (5 * y + 4))) := fun w' h => (cell_of_row _ _ (5 * y + 4) _ _ _ (hX.keep h)).trans ((Fc_get 26 _ _ (by omega)).trans (by unfold chF; rw [if_neg (by omega)]))
      have c0 : ∀ w', Below wr.heap.size wr w' → w'.cell? ⟨g, 5 * y, none⟩ = some (uv (f (5 * y))) := fun w' h => (cell_of_row _ _ (5 * y) _ _ _ (hX.keep h)).trans ((Fc_get 26 _ _ (by omega)).trans (by unfold chF; rw [if_neg (by omega)]))
      have hl := hX.lt
      have hS0 : Below wr.heap.size wr wr.drew := (Below.refl _ _).drew
      clear hX hG
      go_region_held3 (fun w' => Below wr.heap.size wr w') (first | assumption | exact balloc (by assumption) _ | exact (balloc (Below.refl _ _) _).drew) (fail)
      have eF : Fc 7 (rdF f y) = #[.int .u64 (ln (f (5 * y))), .int .u64 (ln (f (5 * y + 1))), .int .u64 (ln (f (5 * y + 2))), .int .u64 (ln (f (5 * y + 3))), .int .u64 (ln (f (5 * y + 4))), .int .u64 (ln (f (5 * y))), .int .u64 (ln (f (5 * y + 1)))] := rfl
      rw [← eF]
      obtain ⟨V, hV⟩ : ∃ V, (wr.alloc (.cells (Fc 7 (rdF f y)) 80)).drew = V := ⟨_, rfl⟩
      rw [hV]
      have HY : Hid (Blk V g 48 (Fc 26 (chF f (5 * y + 0))) ∧ Blk V wr.heap.size 80 (Fc 7 (rdF f y)) ∧ w.grownBy V (some g)) := Lib.hid (by
        rw [← hV]
        exact ⟨HX.out.1.alloc _, Blk.new wr _ _, grown_drewN 1 (grown_trans HX.out.2 (grownSome (grownNone (balloc (Below.refl _ _) _))))⟩)
      clear eF hV HX c0 c1 c2 c3 c4 hS0
      rename_i hHeld
      clear hHeld
      generalize wr.heap.size = gr at HY hl ⊢
      go_wp2_with fail
      go_loopw [41] (fun i wx => ∃ x : Nat, x ≤ 5 ∧ i = .int .i64 (x : Int) ∧ Blk wx g 48 (Fc 26 (chF f (5 * y + x))) ∧ Blk wx gr 80 (Fc 7 (rdF f y)) ∧ w.grownBy wx (some g)) (fun i _ => 5 - (intOf i).toNat)
      case atStart => exact ⟨0, by omega, rfl, HY.out⟩
      case round =>
        clear HY
        obtain ⟨x, hx, rfl, hX, hR, hG⟩ := hrel
        by_cases hx5 : x < 5
        · have k1 : IntKind.i64.wrap ((x : Int) + 1) = (x : Int) + 1 := IntWalk.i64_in _ (by omega)
          have k2 : IntKind.i64.wrap ((x : Int) + 2) = (x : Int) + 2 := IntWalk.i64_in _ (by omega)
          have k3 : ((x : Int) + 1).toNat = x + 1 := by omega
          have k4 : ((x : Int) + 2).toNat = x + 2 := by omega
          have k5 : (x : Int) + 2 < 7 := by omega
          have k6 : (x : Int) + 1 < 7 := by omega
          have k7 : (x : Int) < 5 := by omega
          have k8 : 0 ≤ (x : Int) + 1 := by omega
          have k9 : 0 ≤ (x : Int) + 2 := by omega
          have HX := Lib.hid (And.intro hX (And.intro hR hG))
          clear hX hR hG
          go_wp2_with fail
          refine region_tail 18 (by kernel_rfl) (by kernel_rfl) (fun wd hwd => ?_)
          simp only [List.take_succ_cons, List.take_zero, List.drop_succ_cons, List.drop_zero]
          have HY : Hid (Blk wd g 48 (Fc 26 (chF f (5 * y + x))) ∧ Blk wd gr 80 (Fc 7 (rdF f y)) ∧ w.grownBy wd (some g)) := Lib.hid (by rw [hwd]; exact ⟨HX.out.1, HX.out.2.1, grown_drewN 1 HX.out.2.2⟩)
          clear hwd HX
          have d0 : wd.cell? ⟨g, 5 * y + x, none⟩ = some (uv (f (5 * y + x))) := (cell_of_row _ _ (5 * y + x) _ _ _ HY.out.1).trans ((Fc_get 26 _ _ (by omega)).trans (by unfold chF; rw [if_neg (by omega)]))
          have f0 := frozen_of_row _ _ (5 * y + x) _ _ HY.out.1
          have d1 := (cell_of_row _ _ (x + 1) _ _ _ HY.out.2.1).trans (Fc_get 7 (rdF f y) (x + 1) (by omega))
          have d2 := (cell_of_row _ _ (x + 2) _ _ _ HY.out.2.1).trans (Fc_get 7 (rdF f y) (x + 2) (by omega))
          repeat still_step
          refine wpStill_nil ?_
          go_wp2_with fail
          have hS := heap_setCell_same wd g (5 * y + x) _ _ (uv (f (5 * y + x) ^^^ (~~~ rdF f y (x + 1) &&& rdF f y (x + 2)))) HY.out.1
          rw [Fc_set _ _ _ _ (by omega), chF_step f y x hx5] at hS
          exact ⟨⟨x + 1, by omega, by go_num, hS, HY.out.2.1.kept (grown_set' (grown_refl wd g) _ _) (fun e => by injection e; omega), grown_set' HY.out.2.2 _ _⟩, by simp [intOf]; omega⟩
        · obtain rfl : x = 5 := by omega
          have HX := Lib.hid (And.intro (show Blk wr g 48 (Fc 26 (chF f (5 * (y + 1)))) from hX) hG)
          clear hX hG hR
          go_wp2_with fail
          exact ⟨⟨y + 1, by omega, by go_num, HX.out⟩, by simp [intOf]; omega⟩
    · obtain rfl : y = 5 := by omega
      have HX := Lib.hid (And.intro (show Blk wr g 48 (Fc 26 (chF f 25)) from hX) hG)
      clear hX hG
      go_wp2_with fail
      go_end0
      exact ⟨rfl, HX.out⟩
end Go.Proofs.Ytfknfopdinkmkaa
