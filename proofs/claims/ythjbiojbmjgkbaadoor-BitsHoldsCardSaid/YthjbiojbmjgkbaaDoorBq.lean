/- The reference of layer bits: With, count. -/
import Derived.Test.YthjbiojbmjgkbaaDoorBp
namespace Go.Proofs.YthjbiojbmjgkbaaDoor
open Go.RowKit
attribute [local go_sem] ix0 ix1 ix2 ix3
theorem wc_with (a p : Nat) (hp : p < 256) : (Wc a).setIfInBounds (p / 64) (.int .u64 ((a / B64 ^ (p / 64) % B64 ||| 2 ^ (p % 64) : Nat) : Int)) = Wc (a ||| 2 ^ p) := by
  have h : ∀ i, lb (a ||| 2 ^ p) i = if p / 64 = i then ((a / B64 ^ i % B64 ||| 2 ^ (p % 64) : Nat) : Int) else lb a i := fun i => by
    rw [lb_nat, limb_with]
    split <;> rfl
  have hq : p / 64 = 0 ∨ p / 64 = 1 ∨ p / 64 = 2 ∨ p / 64 = 3 := by omega
  unfold Wc
  rw [h 0, h 1, h 2, h 3]
  rcases hq with e | e | e | e <;> rw [e] <;> rfl
theorem two_lt (p : Nat) : (2 : Nat) ^ (p % 64) < 18446744073709551616 := by
  have : (2 : Nat) ^ (p % 64) < 2 ^ 64 := Nat.pow_lt_pow_right (by omega) (by omega)
  exact this

set_option maxHeartbeats 2000000 in
theorem rwith_any (a p : Nat) (hp : p < 256) (w : World) :
    Calls Tryd.prog 49 #[W a, .int .i64 p] w fun e w' => e = .returned (W (a ||| 2 ^ p)) ∧ Below w.heap.size w w' := by
  have A := (Blk.new w 25 (Wc a)).alloc (.cells Zc 25)
  have R : Blk ((w.alloc (.cells (Wc a) 25)).alloc (.cells Zc 25)) (w.heap.size + 1) 25 Zc := Blk.newS w _ _ _
  have HB := Lib.hid (balloc (balloc (Below.refl w.heap.size w) (.cells (Wc a) 25)) (.cells Zc 25))
  have hwc := wc_with a p hp
  have hL := limb_lt a (p / 64)
  have hT := two_lt p
  have hlb := wc_get a (p / 64) (by omega)
  rw [lb_nat] at hlb
  obtain ⟨L, hLe⟩ : ∃ L, a / B64 ^ (p / 64) % B64 = L := ⟨_, rfl⟩
  rw [hLe] at hlb hL hwc
  obtain ⟨T, hTe⟩ : ∃ T, 2 ^ (p % 64) = T := ⟨_, rfl⟩
  have hti : ((2 : Int) ^ (p % 64)) = (T : Int) := by rw [← hTe, Int.natCast_pow]; rfl
  rw [hTe] at hT hwc
  have g1 : IntKind.i64.wrap ((p : Int) / 64) = (p : Int) / 64 := IntWalk.i64_in _ (by omega)
  have g2 : (0 : Int) ≤ (p : Int) / 64 := by omega
  have g3 : (p : Int) / 64 < 4 := by omega
  have g4 : ((p : Int) / 64).toNat = p / 64 := by omega
  have g5 : (p : Int).tmod 64 = (p : Int) % 64 := Int.tmod_eq_emod_of_nonneg (by omega)
  have g6 : (0 : Int) ≤ (p : Int) % 64 := by omega
  have g7 : IntKind.u64.wrap ((p : Int) % 64) = (p : Int) % 64 := IntWalk.u64_in _ (by omega)
  have g8 : ((p : Int) % 64).toNat = p % 64 := by omega
  have g9 : IntKind.u64.wrap (2 ^ (p % 64)) = (T : Int) := by rw [hti]; exact IntWalk.u64_in _ (by omega)
  have g10 : bits .or .u64 (L : Int) (T : Int) = ((L ||| T : Nat) : Int) := bits_or_u64_nat _ _ hL hT
  have HX := Lib.hid (And.intro A (And.intro R (And.intro hwc hlb)))
  have hq4 : p / 64 < 4 := by omega
  clear hLe A R hwc hTe hti hlb
  go_enter Tryd.func49, Tryd.ntmps49
  go_upto_region 1 with fail
  obtain ⟨A, R, hwc, hlb⟩ := HX.out
  obtain ⟨W0, hW0⟩ : ∃ W0, (w.alloc (.cells (Wc a) 25)).alloc (.cells Zc 25) = W0 := ⟨_, rfl⟩
  rw [hW0] at A R HB ⊢
  clear hW0 HX
  have hc := (cell_of_row _ _ (p / 64) _ _ _ A).trans hlb
  have hf := frozen_of_row _ _ (p / 64) _ _ A
  obtain ⟨r0, r1, r2, r3, f0, f1, f2, f3⟩ := R.get4
  have hS := heap_setCell_same W0 w.heap.size (p / 64) _ _ (.int .u64 ((L ||| T : Nat) : Int)) A
  rw [hwc] at hS
  have hG := grown_set' (grown_refl W0 w.heap.size) (p / 64) (.int .u64 ((L ||| T : Nat) : Int))
  have R1 := R.kept hG (by intro e; injection e; omega)
  have hB1 := step_world HB.out hG (Nat.le_refl _) (Nat.le_refl _)
  have HX := Lib.hid (And.intro hS (And.intro R1 hB1))
  clear hwc hlb A R hG R1 hB1 hS HB r0 r1 r2 r3 f0 f1 f2 f3
  go_upto_region 2 with fail
  obtain ⟨A, R, hB⟩ := HX.out
  obtain ⟨W1, hW1⟩ : ∃ W1, W0.setCell ⟨w.heap.size, p / 64, none⟩ (.int .u64 ((L ||| T : Nat) : Int)) = W1 := ⟨_, rfl⟩
  rw [hW1] at A R hB ⊢
  clear hW1 HX hc hf
  have c0 := (cell_of_row _ _ 0 _ _ _ A).trans (wc_get _ 0 (by omega))
  have c1 := (cell_of_row _ _ 1 _ _ _ A).trans (wc_get _ 1 (by omega))
  have c2 := (cell_of_row _ _ 2 _ _ _ A).trans (wc_get _ 2 (by omega))
  have c3 := (cell_of_row _ _ 3 _ _ _ A).trans (wc_get _ 3 (by omega))
  obtain ⟨r0, r1, r2, r3, f0, f1, f2, f3⟩ := R.get4
  have HB := Lib.hid hB
  clear A R hB
  go_wp2
  exact bodyPost_ret (v := W (a ||| 2 ^ p)) (by simp [results, Tryd.results49, go_sem, r0, r1, r2, r3]) rfl ⟨rfl, step_world HB.out (grown_set4 W1 (w.heap.size + 1) _ _ _ _) (Nat.le_refl _) (by omega)⟩
end Go.Proofs.YthjbiojbmjgkbaaDoor
