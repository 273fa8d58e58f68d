/- bits: Extend. -/
import Derived.Test.YthjbiojbmjgkbaaDoorBj
namespace Go.Proofs.YthjbiojbmjgkbaaDoor
open Go.RowKit
attribute [local go_sem] ix0 ix1 ix2 ix3
theorem shl_lt (n a : Nat) : shlN n a < MM := by unfold shlN; split; exact Nat.mod_lt _ MM_pos; exact MM_pos
theorem shr_lt (n a : Nat) (ha : a < MM) : shrN n a < MM := by unfold shrN; split; exact Nat.lt_of_le_of_lt (Nat.div_le_self _ _) ha; exact MM_pos
theorem sg_lt (a : Nat) : sgN a < MM := by unfold sgN; have := MM_pos; split <;> omega
theorem sar_lt (n a : Nat) : sarN n a < MM := by unfold sarN; split; exact Nat.mod_lt _ MM_pos; exact sg_lt a
/-- The sign of the byte at a place extended. -/
def extN (n a : Nat) : Nat := if n < 31 then sarN (8 * (31 - n)) (shlN (8 * (31 - n)) a) else a
theorem ext_lt (n a : Nat) (ha : a < MM) : extN n a < MM := by unfold extN; split; exact sar_lt _ _; exact ha
attribute [local irreducible] lb shlN sarN
set_option maxRecDepth 100000 in
set_option maxHeartbeats 2000000 in
theorem ext_any (n a : Nat) (hn : n < MM) (ha : a < MM) (w : World) :
    Calls Tryd.prog 26 #[W n, W a] w fun e w' => e = .returned (W (extN n a)) ∧ Below w.heap.size w w' := by
  have A := (Blk.newS w (.cells (Wc n) 25) 25 (Wc a)).alloc (.cells Zc 25)
  have R : Blk (((w.alloc (.cells (Wc n) 25)).alloc (.cells (Wc a) 25)).alloc (.cells Zc 25)) (w.heap.size + 1 + 1) 25 Zc := by
    have h := Blk.newS (w.alloc (.cells (Wc n) 25)) (.cells (Wc a) 25) 25 Zc
    rwa [World.size_alloc] at h
  have HW := Lib.hid (balloc (balloc (balloc (Below.refl w.heap.size w) (.cells (Wc n) 25)) (.cells (Wc a) 25)) (.cells Zc 25))
  have HA := Lib.hid A
  have HR := Lib.hid R
  clear A R
  by_cases h : n < 31
  · have E : Hid (extN n a = sarN (8 * (31 - n)) (shlN (8 * (31 - n)) a)) := if_pos h
    rw [E.out]
    clear E
    obtain ⟨k, hk⟩ : ∃ k, 8 * (31 - n) = k := ⟨_, rfl⟩
    rw [hk]
    have g1 : IntKind.i64.wrap (31 - (n : Int)) = 31 - n := IntWalk.i64_in _ (by omega)
    have g2 : IntKind.i64.wrap ((31 - (n : Int)) * 8) = (31 - n) * 8 := IntWalk.i64_in _ (by omega)
    have g3 : IntKind.u64.wrap ((31 - (n : Int)) * 8) = (k : Int) := by rw [IntWalk.u64_in _ (by omega)]; omega
    have hkM : k < MM := by rw [MM_eq]; omega
    have HO := Lib.hid (of_any k (by unfold B64; omega))
    have HB := Lib.hid (below_yes n 31 (by omega) h)
    have HS := Lib.hid (shl_any k a hkM ha)
    have HT := Lib.hid (sar_any k (shlN k a) hkM (shl_lt k a))
    clear hn ha h hk hkM
    go_enter Tryd.func26, Tryd.ntmps26
    go_wp2_with fail
    refine (HB.out _).mono ?_
    rintro e w1 ⟨rfl, h1⟩
    have HA1 := Lib.hid (HA.out.keep h1)
    have HR1 := Lib.hid (HR.out.keep h1)
    have HW1 := Lib.hid (bstep HW.out h1)
    clear HA HR HW h1 HB
    go_wp2_with fail
    refine (HO.out _).mono ?_
    rintro e w2 ⟨rfl, h2⟩
    have A := (HA1.out.keep h2).alloc (.cells (Wc k) 25)
    have R0 := HR1.out.keep h2
    have hRl : w.heap.size + 1 + 1 < w2.heap.size := R0.lt
    have R := R0.alloc (.cells (Wc k) 25)
    have B := Blk.new w2 25 (Wc k)
    have hW := balloc (bstep HW1.out h2) (.cells (Wc k) 25)
    clear HA1 HR1 HW1 h2 HO R0
    have HX := Lib.hid (And.intro A (And.intro R (And.intro B (And.intro hW hRl))))
    clear A R B hW hRl
    go_upto_region 0 with fail
    obtain ⟨A, R, B, hW, hRl⟩ := HX.out
    clear HX
    obtain ⟨W1, hW1⟩ : ∃ W1, w2.alloc (.cells (Wc k) 25) = W1 := ⟨_, rfl⟩
    rw [hW1] at A R B hW ⊢
    clear hW1
    generalize w2.heap.size = gb at B hRl ⊢
    have cA0 : ∀ w', HeldR W1 (w.heap.size + 1 + 1) w' → w'.cell? ⟨w.heap.size + 1, 0, none⟩ = some (.int .u64 (lb a 0)) := fun w' h => h.at A (by omega) rfl
    have cA1 : ∀ w', HeldR W1 (w.heap.size + 1 + 1) w' → w'.cell? ⟨w.heap.size + 1, 1, none⟩ = some (.int .u64 (lb a 1)) := fun w' h => h.at A (by omega) rfl
    have cA2 : ∀ w', HeldR W1 (w.heap.size + 1 + 1) w' → w'.cell? ⟨w.heap.size + 1, 2, none⟩ = some (.int .u64 (lb a 2)) := fun w' h => h.at A (by omega) rfl
    have cA3 : ∀ w', HeldR W1 (w.heap.size + 1 + 1) w' → w'.cell? ⟨w.heap.size + 1, 3, none⟩ = some (.int .u64 (lb a 3)) := fun w' h => h.at A (by omega) rfl
    have cB0 : ∀ w', HeldR W1 (w.heap.size + 1 + 1) w' → w'.cell? ⟨gb, 0, none⟩ = some (.int .u64 (lb k 0)) := fun w' h => h.at B (by omega) rfl
    have cB1 : ∀ w', HeldR W1 (w.heap.size + 1 + 1) w' → w'.cell? ⟨gb, 1, none⟩ = some (.int .u64 (lb k 1)) := fun w' h => h.at B (by omega) rfl
    have cB2 : ∀ w', HeldR W1 (w.heap.size + 1 + 1) w' → w'.cell? ⟨gb, 2, none⟩ = some (.int .u64 (lb k 2)) := fun w' h => h.at B (by omega) rfl
    have cB3 : ∀ w', HeldR W1 (w.heap.size + 1 + 1) w' → w'.cell? ⟨gb, 3, none⟩ = some (.int .u64 (lb k 3)) := fun w' h => h.at B (by omega) rfl
    have cR0 : ∀ w', HeldR W1 (w.heap.size + 1 + 1) w' → w'.cell? ⟨w.heap.size + 1 + 1, 0, none⟩ = some (cellv w' ⟨w.heap.size + 1 + 1, 0, none⟩) := fun w' h => h.cell 0 (by omega)
    have fR0 : ∀ w', HeldR W1 (w.heap.size + 1 + 1) w' → w'.frozen? ⟨w.heap.size + 1 + 1, 0, none⟩ = false := fun w' h => h.frozen 0
    have cR1 : ∀ w', HeldR W1 (w.heap.size + 1 + 1) w' → w'.cell? ⟨w.heap.size + 1 + 1, 1, none⟩ = some (cellv w' ⟨w.heap.size + 1 + 1, 1, none⟩) := fun w' h => h.cell 1 (by omega)
    have fR1 : ∀ w', HeldR W1 (w.heap.size + 1 + 1) w' → w'.frozen? ⟨w.heap.size + 1 + 1, 1, none⟩ = false := fun w' h => h.frozen 1
    have cR2 : ∀ w', HeldR W1 (w.heap.size + 1 + 1) w' → w'.cell? ⟨w.heap.size + 1 + 1, 2, none⟩ = some (cellv w' ⟨w.heap.size + 1 + 1, 2, none⟩) := fun w' h => h.cell 2 (by omega)
    have fR2 : ∀ w', HeldR W1 (w.heap.size + 1 + 1) w' → w'.frozen? ⟨w.heap.size + 1 + 1, 2, none⟩ = false := fun w' h => h.frozen 2
    have cR3 : ∀ w', HeldR W1 (w.heap.size + 1 + 1) w' → w'.cell? ⟨w.heap.size + 1 + 1, 3, none⟩ = some (cellv w' ⟨w.heap.size + 1 + 1, 3, none⟩) := fun w' h => h.cell 3 (by omega)
    have fR3 : ∀ w', HeldR W1 (w.heap.size + 1 + 1) w' → w'.frozen? ⟨w.heap.size + 1 + 1, 3, none⟩ = false := fun w' h => h.frozen 3
    have h0 : HeldR W1 (w.heap.size + 1 + 1) W1.drew := HeldR.start rfl R
    have HW := Lib.hid hW
    clear A R B hW hRl
    go_region_held3 (fun w' => HeldR W1 (w.heap.size + 1 + 1) w') (first | assumption | exact HeldR.call (by assumption) (by assumption) | exact HeldR.set (HeldR.set (HeldR.set (HeldR.set (by assumption) _ _) _ _) _ _) _ _)
      (first
        | (go_at_call 18; refine (HS.out _).mono ?_; rintro e wk ⟨rfl, hk⟩; have hH : HeldR W1 (w.heap.size + 1 + 1) wk := HeldR.call hk (by assumption))
        | (go_at_call 22; refine (HT.out _).mono ?_; rintro e wk ⟨rfl, hk⟩; have hH : HeldR W1 (w.heap.size + 1 + 1) wk := HeldR.call hk (by assumption)))
    all_goals
      go_wp2
      exact bodyPost_ret (v := W (sarN k (shlN k a))) (by simp [results, Tryd.results26, go_sem, cR0 _ hH, cR1 _ hH, cR2 _ hH, cR3 _ hH]) rfl ⟨rfl, HeldR.below (by assumption) HW.out (Nat.le_refl _) (by omega)⟩
  · have E : Hid (extN n a = a) := if_neg h
    rw [E.out]
    have HB := Lib.hid (below_no n 31 hn (by omega) h)
    clear hn ha h
    go_enter Tryd.func26, Tryd.ntmps26
    go_wp2_with fail
    refine (HB.out _).mono ?_
    rintro e w1 ⟨rfl, h1⟩
    obtain ⟨a0, a1, a2, a3, _, _, _, _⟩ := (HA.out.keep h1).get4
    obtain ⟨c0, c1, c2, c3, f0, f1, f2, f3⟩ := (HR.out.keep h1).get4
    have HW1 := Lib.hid (bstep HW.out h1)
    clear HA HR HW h1 HB
    go_wp2
    exact bodyPost_ret (v := W a) (by simp [results, Tryd.results26, go_sem, c0, c1, c2, c3]) rfl ⟨rfl, step_world HW1.out (grown_set4 w1 (w.heap.size + 1 + 1) _ _ _ _) (Nat.le_refl _) (by omega)⟩
end Go.Proofs.YthjbiojbmjgkbaaDoor
