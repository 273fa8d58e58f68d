/- bits: two words, as a slice just made; Not. -/
import Derived.Test.YthjbiojbmjgkbaaDoorBc
import Derived.Deep.RegionHeld3
namespace Go.Proofs.YthjbiojbmjgkbaaDoor
open Go.RowKit
attribute [local go_sem] ix0 ix1 ix2 ix3
/-- Two words. -/
def two (a b : Nat) : Nat → Nat
  | 0 => a
  | _ => b
theorem words2 (X : World) (a b : Nat) : WordsAt (X.alloc (.cells (Pc a b) 25)) X.heap.size 0 2 (two a b) := fun k hk => by
  have h := Blk.new X 25 (Pc a b)
  match k, hk with
  | 0, _ => exact ⟨cell_of_row _ _ 0 _ _ _ h, cell_of_row _ _ 1 _ _ _ h, cell_of_row _ _ 2 _ _ _ h, cell_of_row _ _ 3 _ _ _ h⟩
  | 1, _ => exact ⟨cell_of_row _ _ 4 _ _ _ h, cell_of_row _ _ 5 _ _ _ h, cell_of_row _ _ 6 _ _ _ h, cell_of_row _ _ 7 _ _ _ h⟩
theorem and2_new (a b : Nat) (ha : a < MM) (X : World) : Calls Tryd.prog 12 #[.slice (some ⟨X.heap.size, 0, none⟩) 2 2] (X.alloc (.cells (Pc a b) 25)) fun e w' => e = .returned (W (a &&& b)) ∧ Below X.heap.size X w' :=
  (and_any X.heap.size 0 2 2 (two a b) _ (by omega) (by simp) (words2 X a b)).mono fun e w' ⟨he, hb⟩ => ⟨by
    rw [he]
    have : andN (two a b) 2 = a &&& b := by
      show ((MM - 1) &&& a) &&& b = a &&& b
      rw [show (MM - 1) &&& a = a by rw [MM_two256, Nat.and_comm, Nat.and_two_pow_sub_one_eq_mod, Nat.mod_eq_of_lt (by rw [← MM_two256]; exact ha)]]
    rw [this], bstep (balloc (Below.refl _ _) _) hb⟩
theorem or2_new (a b : Nat) (X : World) : Calls Tryd.prog 14 #[.slice (some ⟨X.heap.size, 0, none⟩) 2 2] (X.alloc (.cells (Pc a b) 25)) fun e w' => e = .returned (W (a ||| b)) ∧ Below X.heap.size X w' :=
  (or_any X.heap.size 0 2 2 (two a b) _ (by omega) (by simp) (words2 X a b)).mono fun e w' ⟨he, hb⟩ => ⟨by
    rw [he]
    have : orN (two a b) 2 = a ||| b := by
      show (0 ||| a) ||| b = a ||| b
      rw [Nat.zero_or]
    rw [this], bstep (balloc (Below.refl _ _) _) hb⟩
theorem xor2_new (a b : Nat) (X : World) : Calls Tryd.prog 15 #[.slice (some ⟨X.heap.size, 0, none⟩) 2 2] (X.alloc (.cells (Pc a b) 25)) fun e w' => e = .returned (W (a ^^^ b)) ∧ Below X.heap.size X w' :=
  (xor_any X.heap.size 0 2 2 (two a b) _ (by omega) (by simp) (words2 X a b)).mono fun e w' ⟨he, hb⟩ => ⟨by
    rw [he]
    have : xorN (two a b) 2 = a ^^^ b := by
      show (0 ^^^ a) ^^^ b = a ^^^ b
      rw [Nat.zero_xor]
    rw [this], bstep (balloc (Below.refl _ _) _) hb⟩
attribute [local irreducible] lb
set_option maxRecDepth 100000 in
set_option maxHeartbeats 2000000 in
theorem not_any (a : Nat) (w : World) : Calls Tryd.prog 16 #[W a] w fun e w' => e = .returned (W (a ^^^ (MM - 1))) ∧ Below w.heap.size w w' := by
  have A : Blk ((w.alloc (.cells (Wc a) 25)).alloc (.cells Zc 25)) w.heap.size 25 (Wc a) := (Blk.new _ _ _).alloc _
  have R : Blk ((w.alloc (.cells (Wc a) 25)).alloc (.cells Zc 25)) (w.heap.size + 1) 25 Zc := Blk.newS w _ _ _
  have hW : Below w.heap.size w ((w.alloc (.cells (Wc a) 25)).alloc (.cells Zc 25)) := balloc (balloc (Below.refl _ _) _) _
  have HA := Lib.hid A
  have HR := Lib.hid R
  have HW := Lib.hid hW
  clear A R hW
  go_enter Tryd.func16, Tryd.ntmps16
  go_wp2_with fail
  obtain ⟨W1, hW1⟩ : ∃ W1, (w.alloc (.cells (Wc a) 25)).alloc (.cells Zc 25) = W1 := ⟨_, rfl⟩
  have A := HA.out
  have R := HR.out
  have hW := HW.out
  clear HA HR HW
  rw [hW1] at A R hW ⊢
  clear hW1
  have cA0 : ∀ w', HeldR W1 (w.heap.size + 1) w' → w'.cell? ⟨w.heap.size, 0, none⟩ = some (.int .u64 (lb a 0)) := fun w' h => h.at A (by omega) rfl
  have cA1 : ∀ w', HeldR W1 (w.heap.size + 1) w' → w'.cell? ⟨w.heap.size, 1, none⟩ = some (.int .u64 (lb a 1)) := fun w' h => h.at A (by omega) rfl
  have cA2 : ∀ w', HeldR W1 (w.heap.size + 1) w' → w'.cell? ⟨w.heap.size, 2, none⟩ = some (.int .u64 (lb a 2)) := fun w' h => h.at A (by omega) rfl
  have cA3 : ∀ w', HeldR W1 (w.heap.size + 1) w' → w'.cell? ⟨w.heap.size, 3, none⟩ = some (.int .u64 (lb a 3)) := fun w' h => h.at A (by omega) rfl
  have cR0 : ∀ w', HeldR W1 (w.heap.size + 1) w' → w'.cell? ⟨w.heap.size + 1, 0, none⟩ = some (cellv w' ⟨w.heap.size + 1, 0, none⟩) := fun w' h => h.cell 0 (by omega)
  have fR0 : ∀ w', HeldR W1 (w.heap.size + 1) w' → w'.frozen? ⟨w.heap.size + 1, 0, none⟩ = false := fun w' h => h.frozen 0
  have cR1 : ∀ w', HeldR W1 (w.heap.size + 1) w' → w'.cell? ⟨w.heap.size + 1, 1, none⟩ = some (cellv w' ⟨w.heap.size + 1, 1, none⟩) := fun w' h => h.cell 1 (by omega)
  have fR1 : ∀ w', HeldR W1 (w.heap.size + 1) w' → w'.frozen? ⟨w.heap.size + 1, 1, none⟩ = false := fun w' h => h.frozen 1
  have cR2 : ∀ w', HeldR W1 (w.heap.size + 1) w' → w'.cell? ⟨w.heap.size + 1, 2, none⟩ = some (cellv w' ⟨w.heap.size + 1, 2, none⟩) := fun w' h => h.cell 2 (by omega)
  have fR2 : ∀ w', HeldR W1 (w.heap.size + 1) w' → w'.frozen? ⟨w.heap.size + 1, 2, none⟩ = false := fun w' h => h.frozen 2
  have cR3 : ∀ w', HeldR W1 (w.heap.size + 1) w' → w'.cell? ⟨w.heap.size + 1, 3, none⟩ = some (cellv w' ⟨w.heap.size + 1, 3, none⟩) := fun w' h => h.cell 3 (by omega)
  have fR3 : ∀ w', HeldR W1 (w.heap.size + 1) w' → w'.frozen? ⟨w.heap.size + 1, 3, none⟩ = false := fun w' h => h.frozen 3
  have h0 : HeldR W1 (w.heap.size + 1) W1.drew := HeldR.start rfl R
  have HW := Lib.hid hW
  clear A R hW
  go_region_held3 (fun w' => HeldR W1 (w.heap.size + 1) w') (first | assumption | exact HeldR.call (by assumption) (by assumption) | exact HeldR.call (by exact balloc (Below.refl _ _) _) (by assumption) | exact HeldR.set (HeldR.set (HeldR.set (HeldR.set (by assumption) _ _) _ _) _ _) _ _)
    (first
      | (go_at_call 12; refine (and_nil _).mono ?_; rintro e wk ⟨rfl, hk⟩; have hH : HeldR W1 (w.heap.size + 1) wk := HeldR.call hk (by assumption))
      | (go_at_call 15; refine (xor2_new a (MM - 1) _).mono ?_; rintro e wk ⟨rfl, hk⟩; have hH : HeldR W1 (w.heap.size + 1) wk := HeldR.call hk (by assumption)))
  all_goals
    go_wp2
    exact bodyPost_ret (v := W (a ^^^ (MM - 1))) (by simp [results, Tryd.results16, go_sem, cR0 _ hH, cR1 _ hH, cR2 _ hH, cR3 _ hH]) rfl ⟨rfl, HeldR.below (by assumption) HW.out (Nat.le_refl _) (by omega)⟩
end Go.Proofs.YthjbiojbmjgkbaaDoor
