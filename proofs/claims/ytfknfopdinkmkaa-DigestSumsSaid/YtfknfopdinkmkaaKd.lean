/- digest: places, rows, marked. -/
import Derived.Test.YtfknfopdinkmkaaKc
namespace Go.Proofs.Ytfknfopdinkmkaa
open Go.RowKit
attribute [local go_sem] uv_xor uv_and uv_or uv_not
attribute [local irreducible] ln
/-- The way of the numbers from place to place. -/
def pxy : Nat → Nat × Nat
  | 0 => (1, 0)
  | t + 1 => ((pxy t).2, (2 * (pxy t).1 + 3 * (pxy t).2) % 5)
def pix (t : Nat) : Nat := (pxy t).1 + 5 * (pxy t).2
def plF (f : Nat → Ln) : Nat → Nat → Ln
  | 0 => f
  | t + 1 => upd (plF f t) (pix (t + 1)) (rot (f (pix t)) ((t + 1) * (t + 2) / 2 % 64))
theorem pxy_lt : ∀ t, (pxy t).1 < 5 ∧ (pxy t).2 < 5
  | 0 => by decide
  | t + 1 => ⟨(pxy_lt t).2, Nat.mod_lt _ (by omega)⟩
theorem pix_un : ∀ t, t < 24 → ∀ r, r < t → pix (r + 1) ≠ pix (t + 1) := by decide +kernel
theorem plF_far (f : Nat → Ln) (p : Nat) : ∀ s, (∀ r, r < s → pix (r + 1) ≠ p) → plF f s p = f p
  | 0, _ => rfl
  | s + 1, h => by
    rw [plF, upd, if_neg (fun e => h s (by omega) e.symm)]
    exact plF_far f p s (fun r hr => h r (by omega))
theorem plF_next (f : Nat → Ln) (t : Nat) (ht : t < 24) : plF f t (pix (t + 1)) = f (pix (t + 1)) := plF_far f _ t (pix_un t ht)
theorem plF_all (f : Nat → Ln) : EqOn (plF f 24) (rhopi f) := fun i hi => by
  have h0 : plF f 24 0 = rhopi f 0 := by show f 0 = rot (f 0) 0; rw [rot_zero]
  rcases (show i = 0 ∨ i = 1 ∨ i = 2 ∨ i = 3 ∨ i = 4 ∨ i = 5 ∨ i = 6 ∨ i = 7 ∨ i = 8 ∨ i = 9 ∨ i = 10 ∨ i = 11 ∨ i = 12 ∨ i = 13 ∨ i = 14 ∨ i = 15 ∨ i = 16 ∨ i = 17 ∨ i = 18 ∨ i = 19 ∨ i = 20 ∨ i = 21 ∨ i = 22 ∨ i = 23 ∨ i = 24 by omega) with rfl | rfl | rfl | rfl | rfl | rfl | rfl | rfl | rfl | rfl | rfl | rfl | rfl | rfl | rfl | rfl | rfl | rfl | rfl | rfl | rfl | rfl | rfl | rfl | rfl
  · exact h0
  all_goals rfl
theorem pix_25 : ∀ r, r < 24 → pix (r + 1) ≠ 25 := by decide
theorem plF_mark (f : Nat → Ln) : plF f 24 25 = f 25 := plF_far f 25 24 pix_25
attribute [local irreducible] rot
set_option maxRecDepth 100000 in
set_option maxHeartbeats 4000000 in
theorem places_any (g : Nat) (f : Nat → Ln) (w : World) (hB : Blk w g 48 (Fc 26 f)) :
    Calls Try.prog 26 #[.pointer (some ⟨g, 0, none⟩)] w fun e w' => e = .returned (.tuple #[]) ∧ Blk w' g 48 (Fc 26 (plF f 24)) ∧ w.grownBy w' (some g) := by
  have c0 := (cell_of_row w _ 1 _ _ _ hB).trans (Fc_get 26 f 1 (by omega))
  have HB := Lib.hid hB
  clear hB
  go_enter Try.func26, Try.ntmps26
  go_wp2_with fail
  clear c0
  go_loopw [2, 3, 4, 15] (fun x y m i wr => ∃ t a b : Nat, t ≤ 24 ∧ i = .int .i64 (t : Int) ∧ x = .int .u64 (a : Int) ∧ y = .int .u64 (b : Int) ∧ m = uv (f (a + 5 * b)) ∧ pxy t = (a, b) ∧ Blk wr g 48 (Fc 26 (plF f t)) ∧ w.grownBy wr (some g)) (fun _ _ _ i _ => 24 - (intOf i).toNat)
  case atStart => exact ⟨0, 1, 0, by omega, rfl, rfl, rfl, rfl, rfl, HB.out, grown_refl w g⟩
  case round =>
    clear HB
    obtain ⟨t, a, b, ht, rfl, rfl, rfl, rfl, hab, hX, hG⟩ := hrel
    by_cases ht4 : t < 24
    · have hp := pxy_lt t
      rw [hab] at hp
      obtain ⟨ha, hb⟩ := hp
      obtain ⟨c, hc⟩ : ∃ c, (2 * a + 3 * b) % 5 = c := ⟨_, rfl⟩
      have hab2 : pxy (t + 1) = (b, c) := by rw [← hc]; show ((pxy t).2, (2 * (pxy t).1 + 3 * (pxy t).2) % 5) = _; rw [hab]
      have hpi : pix (t + 1) = b + 5 * c := by unfold pix; rw [hab2]
      have hpi0 : pix t = a + 5 * b := by unfold pix; rw [hab]
      have hcl : c < 5 := by omega
      have hC := (cell_of_row _ _ (b + 5 * c) _ _ _ hX).trans (Fc_get 26 _ _ (by omega))
      have hn := plF_next f t ht4
      rw [hpi] at hn
      rw [hn] at hC
      have hF := frozen_of_row _ _ (b + 5 * c) _ _ hX
      obtain ⟨q, hq⟩ : ∃ q, (t + 1) * (t + 2) / 2 = q := ⟨_, rfl⟩
      obtain ⟨pr, hpr⟩ : ∃ pr, (t + 1) * (t + 2) = pr := ⟨_, rfl⟩
      have hprb : pr ≤ 600 := by
        rw [← hpr]
        have : (t + 1) * (t + 2) ≤ 24 * 25 := Nat.mul_le_mul (by omega) (by omega)
        omega
      have hq2 : pr / 2 = q := by rw [← hpr]; exact hq
      have k1 : IntKind.i64.wrap ((t : Int) + 1) = (t : Int) + 1 := IntWalk.i64_in _ (by omega)
      have k2 : IntKind.i64.wrap ((t : Int) + 2) = (t : Int) + 2 := IntWalk.i64_in _ (by omega)
      have k3 : IntKind.i64.wrap (((t : Int) + 1) * ((t : Int) + 2)) = (pr : Int) := by
        rw [show ((t : Int) + 1) * ((t : Int) + 2) = (pr : Int) by rw [← hpr]; simp]; exact IntWalk.i64_in _ (by omega)
      have k4 : (pr : Int).tdiv 2 = (q : Int) := by rw [← hq2]; rfl
      have k5 : IntKind.i64.wrap (q : Int) = (q : Int) := IntWalk.i64_in _ (by omega)
      have c1 : (2 * (a : Int) + 3 * (b : Int)) % 5 = (c : Int) := by omega
      have c2 : ((b : Int) + 5 * (c : Int)).toNat = b + 5 * c := by omega
      have a1 : (a : Int) ≤ 4 := by omega
      have b1 : (b : Int) ≤ 4 := by omega
      have d1 : (c : Int) ≤ 4 := by omega
      have d2 : (b : Int) + 5 * (c : Int) < 25 := by omega
      have hql : q < 4611686018427387904 := by omega
      have HE := Lib.hid (And.intro hab2 (And.intro hpi (And.intro hpi0 hq)))
      have HX := Lib.hid (And.intro hX hG)
      clear hX hG hab2 hpi hpi0 hq hc hn hpr hq2 hab ha hb hcl
      go_wp2_with fail
      refine region_tail 14 (by kernel_rfl) (by kernel_rfl) (fun wd hwd => ?_)
      simp only [List.take_succ_cons, List.take_zero, List.drop_succ_cons, List.drop_zero]
      have HY : Hid (Blk wd g 48 (Fc 26 (plF f t)) ∧ w.grownBy wd (some g)) := Lib.hid (by rw [hwd]; exact ⟨HX.out.1, grown_drewN 1 HX.out.2⟩)
      have hC2 : wd.cell? ⟨g, b + 5 * c, none⟩ = some (uv (f (b + 5 * c))) := by rw [hwd]; exact hC
      have hF2 : wd.frozen? ⟨g, b + 5 * c, none⟩ = false := by rw [hwd]; exact hF
      clear hwd HX hC hF
      repeat still_step
      still_call (rotl_any (f (a + 5 * b)) q hql _).mono (fun _ _ h => ⟨h.1, h.2.symm⟩)
      repeat still_step
      refine wpStill_nil ?_
      go_wp2_with fail
      obtain ⟨hab2, hpi, hpi0, hq⟩ := HE.out
      have hS := heap_setCell_same wd g (b + 5 * c) _ _ (uv (rot (f (a + 5 * b)) (q % 64))) HY.out.1
      rw [Fc_set _ _ _ _ (by omega), ← hpi, ← hpi0, ← hq] at hS
      exact ⟨⟨t + 1, b, c, by omega, by go_num, rfl, rfl, rfl, hab2, by rw [← hpi, ← hpi0, ← hq]; exact hS, grown_set' HY.out.2 _ _⟩, by simp [intOf]; omega⟩
    · obtain rfl : t = 24 := by omega
      have HX := Lib.hid (And.intro hX hG)
      clear hX hG hab
      go_wp2_with fail
      go_end0
      exact ⟨rfl, HX.out⟩

set_option maxRecDepth 100000 in
set_option maxHeartbeats 4000000 in
theorem marked_any (g : Nat) (f : Nat → Ln) (w : World) (hB : Blk w g 48 (Fc 26 f)) :
    Calls Try.prog 28 #[.pointer (some ⟨g, 0, none⟩)] w fun e w' => e = .returned (.tuple #[]) ∧ Blk w' g 48 (Fc 26 (upd f 0 (f 0 ^^^ f 25))) ∧ w.grownBy w' (some g) := by
  have HB := Lib.hid hB
  clear hB
  go_enter Try.func28, Try.ntmps28
  go_wp2_with fail
  refine region_tail 13 (by kernel_rfl) (by kernel_rfl) (fun wd hwd => ?_)
  simp only [List.take_succ_cons, List.take_zero, List.drop_succ_cons, List.drop_zero]
  have hX : Blk wd g 48 (Fc 26 f) := by rw [hwd]; exact HB.out
  have hG : w.grownBy wd (some g) := by rw [hwd]; exact grown_drewN 1 (grown_refl w g)
  have hC := (cell_of_row _ _ 0 _ _ _ hX).trans (Fc_get 26 f 0 (by omega))
  have hC2 := (cell_of_row _ _ 25 _ _ _ hX).trans (Fc_get 26 f 25 (by omega))
  have hF := frozen_of_row _ _ 0 _ _ hX
  have HX := Lib.hid (And.intro hX hG)
  clear hwd hX hG HB
  repeat still_step
  refine wpStill_nil ?_
  go_wp2_with fail
  go_end0
  have hS := heap_setCell_same wd g 0 _ _ (uv (f 0 ^^^ f 25)) HX.out.1
  rw [Fc_set _ _ _ _ (by omega)] at hS
  exact ⟨rfl, hS, grown_set' HX.out.2 _ _⟩
end Go.Proofs.Ytfknfopdinkmkaa
