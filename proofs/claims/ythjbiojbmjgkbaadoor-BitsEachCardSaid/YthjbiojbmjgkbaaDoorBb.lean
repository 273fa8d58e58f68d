/- bits: fold, And, Or, Xor, Not. -/
import Derived.Test.YthjbiojbmjgkbaaDoorPc
import Derived.Test.YthjbiojbmjgkbaaDoorPb
import Derived.Test.YthjbiojbmjgkbaaDoorBa
namespace Go.Proofs.YthjbiojbmjgkbaaDoor
open Go.RowKit
attribute [local go_sem] ix0 ix1 ix2 ix3
theorem filled_any (x : Int) (w : World) :
    Calls Tryd.prog 46 #[.int .u64 x] w fun e w' => e = .returned (.agg #[.int .u64 x, .int .u64 x, .int .u64 x, .int .u64 x]) ∧ Below w.heap.size w w' := by
  go_enter Tryd.func46, Tryd.ntmps46
  go_wp2
  exact bodyPost_ret (v := .agg #[.int .u64 x, .int .u64 x, .int .u64 x, .int .u64 x]) (by simp [results, Tryd.results46, go_sem]) rfl ⟨rfl, balloc (Below.refl _ _) _⟩
theorem W_all : W (MM - 1) = .agg #[.int .u64 18446744073709551615, .int .u64 18446744073709551615, .int .u64 18446744073709551615, .int .u64 18446744073709551615] := by
  unfold W; rw [lb_all 0 (by omega), lb_all 1 (by omega), lb_all 2 (by omega), lb_all 3 (by omega)]

theorem and1_any (x y : Int) (w : World) : Calls Tryd.prog 47 #[.int .u64 x, .int .u64 y] w fun e w' => e = .returned (.int .u64 (bits .and .u64 x y)) ∧ w = w' := by
  go_enter Tryd.func47, Tryd.ntmps47
  go_wp2
  go_ret
  exact ⟨rfl, rfl⟩
theorem or1_any (x y : Int) (w : World) : Calls Tryd.prog 50 #[.int .u64 x, .int .u64 y] w fun e w' => e = .returned (.int .u64 (bits .or .u64 x y)) ∧ w = w' := by
  go_enter Tryd.func50, Tryd.ntmps50
  go_wp2
  go_ret
  exact ⟨rfl, rfl⟩
theorem xor1_any (x y : Int) (w : World) : Calls Tryd.prog 51 #[.int .u64 x, .int .u64 y] w fun e w' => e = .returned (.int .u64 (bits .xor .u64 x y)) ∧ w = w' := by
  go_enter Tryd.func51, Tryd.ntmps51
  go_wp2
  go_ret
  exact ⟨rfl, rfl⟩

set_option maxHeartbeats 2000000 in
theorem bfold_any (F : FuncId) (op : Nat → Nat → Nat) (hF : ∀ a b i w, Calls Tryd.prog F #[.int .u64 (lb a i), .int .u64 (lb b i)] w fun e w' => e = .returned (.int .u64 (lb (op a b) i)) ∧ w = w')
    (hcall : ∀ args w, (callFunc F args).run Tryd.prog w = .ok (.enter F args) w)
    (a b o n cap : Nat) (f : Nat → Nat) (w : World) (hn : n ≤ 9223372036854775807) (hb : b < w.heap.size) (hf : WordsAt w b o n f) :
    Calls Tryd.prog 45 #[W a, .func (.func F) #[] #[], .slice (some ⟨b, o, none⟩) n cap] w fun e w' => e = .returned (W (foN op a f n)) ∧ Below w.heap.size w w' := by
  go_enter Tryd.func45, Tryd.ntmps45
  go_wp2
  go_loopw [13] (fun i wr => ∃ k : Nat, k ≤ n ∧ i = .int .i64 k ∧ Blk wr w.heap.size 25 (Wc (foN op a f k)) ∧ Blk wr (w.heap.size + 1) 25 #[.int .u64 0, .int .u64 0, .int .u64 0, .int .u64 0] ∧ Below w.heap.size w wr) (fun i _ => n - (intOf i).toNat)
  case atStart =>
    exact ⟨0, Nat.zero_le _, rfl, (Blk.new w _ _).alloc _, by have h := Blk.new (w.alloc (.cells (Wc a) 25)) 25 #[.int .u64 0, .int .u64 0, .int .u64 0, .int .u64 0]; rwa [World.size_alloc] at h, balloc (balloc (Below.refl _ _) _) _⟩
  case round =>
    obtain ⟨k, hk, rfl, hs, hr, hB⟩ := hrel
    by_cases hlt : k < n
    · have d := hf k hlt
      have d0 := (hB.cell (p := ⟨b, o + k * 4, none⟩) hb).trans d.1
      have d1 := (hB.cell (p := ⟨b, o + k * 4 + 1, none⟩) hb).trans d.2.1
      have d2 := (hB.cell (p := ⟨b, o + k * 4 + 2, none⟩) hb).trans d.2.2.1
      have d3 := (hB.cell (p := ⟨b, o + k * 4 + 3, none⟩) hb).trans d.2.2.2
      clear d
      have HS := Lib.hid hs
      have HR := Lib.hid hr
      have HB := Lib.hid hB
      clear hs hr hB
      go_wp2_with fail
      have hb1 := balloc HB.out (.cells (Wc (f k)) 25)
      have hs1 := HS.out.alloc (.cells (Wc (f k)) 25)
      have hr1 := HR.out.alloc (.cells (Wc (f k)) 25)
      obtain ⟨X, hX⟩ : ∃ X, wr.alloc (.cells (Wc (f k)) 25) = X := ⟨_, rfl⟩
      rw [hX] at hb1 hs1 hr1 ⊢
      clear hX HS HR HB d0 d1 d2 d3
      have c0 := (cell_of_row X _ 0 _ _ _ hs1).trans (wc_get _ 0 (by omega))
      have c1 := (cell_of_row X _ 1 _ _ _ hs1).trans (wc_get _ 1 (by omega))
      have c2 := (cell_of_row X _ 2 _ _ _ hs1).trans (wc_get _ 2 (by omega))
      have c3 := (cell_of_row X _ 3 _ _ _ hs1).trans (wc_get _ 3 (by omega))
      have f0 := frozen_of_row X _ 0 _ _ hs1
      have f1 := frozen_of_row X _ 1 _ _ hs1
      have f2 := frozen_of_row X _ 2 _ _ hs1
      have f3 := frozen_of_row X _ 3 _ _ hs1
      have HS := Lib.hid hs1
      have HR := Lib.hid hr1
      have HB := Lib.hid hb1
      clear hs1 hr1 hb1
      refine wp_loop_rounds 5 ?_
      iterate 5 (rw [rounds_succ]; go_wp2_with (with_reducible refine (hF (foN op a f k) (f k) _ _).mono ?_; rintro e w1 ⟨rfl, rfl⟩))
      have hG := grown_set4 X w.heap.size (.int .u64 (lb (op (foN op a f k) (f k)) 0)) (.int .u64 (lb (op (foN op a f k) (f k)) 1)) (.int .u64 (lb (op (foN op a f k) (f k)) 2)) (.int .u64 (lb (op (foN op a f k) (f k)) 3))
      go_roundw
      case rel => exact ⟨k + 1, by omega, by go_num, HS.out.set4 _, HR.out.kept hG (by intro e; injection e; omega), step_world HB.out hG (Nat.le_refl _) (Nat.le_refl _)⟩
      case measure => simp [intOf]; omega
    · obtain rfl : k = n := by omega
      have hg1 := hr.lt
      have c0 := (cell_of_row wr _ 0 _ _ _ hs).trans (wc_get _ 0 (by omega))
      have c1 := (cell_of_row wr _ 1 _ _ _ hs).trans (wc_get _ 1 (by omega))
      have c2 := (cell_of_row wr _ 2 _ _ _ hs).trans (wc_get _ 2 (by omega))
      have c3 := (cell_of_row wr _ 3 _ _ _ hs).trans (wc_get _ 3 (by omega))
      have r0 := cell_of_row wr _ 0 _ _ _ hr
      have r1 := cell_of_row wr _ 1 _ _ _ hr
      have r2 := cell_of_row wr _ 2 _ _ _ hr
      have r3 := cell_of_row wr _ 3 _ _ _ hr
      have f0 := frozen_of_row wr _ 0 _ _ hr
      have f1 := frozen_of_row wr _ 1 _ _ hr
      have f2 := frozen_of_row wr _ 2 _ _ hr
      have f3 := frozen_of_row wr _ 3 _ _ hr
      have HB := Lib.hid hB
      clear hs hr hf hB
      go_wp2
      have hG := grown_set4 wr (w.heap.size + 1) (.int .u64 (lb (foN op a f k) 0)) (.int .u64 (lb (foN op a f k) 1)) (.int .u64 (lb (foN op a f k) 2)) (.int .u64 (lb (foN op a f k) 3))
      exact bodyPost_ret (v := W (foN op a f k)) (by simp [results, Tryd.results45, go_sem, r0, r1, r2, r3]) rfl ⟨rfl, step_world HB.out hG (Nat.le_refl _) (by omega)⟩

set_option maxHeartbeats 2000000 in
theorem bfold_nil (F : FuncId) (a : Nat) (w : World) :
    Calls Tryd.prog 45 #[W a, .func (.func F) #[] #[], .slice none 0 0] w fun e w' => e = .returned (W a) ∧ Below w.heap.size w w' := by
  go_enter Tryd.func45, Tryd.ntmps45
  go_wp2
  refine wp_loop_rounds 1 ?_
  rw [rounds_succ]; go_wp2
  exact bodyPost_ret (v := W a) (by simp [results, Tryd.results45, go_sem]) rfl ⟨rfl, balloc (balloc (Below.refl _ _) _) _⟩

section
variable (b o n cap : Nat) (f : Nat → Nat) (w : World) (hn : n ≤ 9223372036854775807) (hb : b < w.heap.size) (hf : WordsAt w b o n f)
include hn hb hf
theorem bfold_and (a : Nat) : Calls Tryd.prog 45 #[W a, .func (.func 47) #[] #[], .slice (some ⟨b, o, none⟩) n cap] w fun e w' => e = .returned (W (foN (· &&& ·) a f n)) ∧ Below w.heap.size w w' :=
  bfold_any _ _ (fun a b i w => (and1_any _ _ w).mono fun _ _ ⟨h1, h2⟩ => ⟨by rw [h1, lb_and], h2⟩) (enters_of Tryd.func47 (by kernel_rfl) rfl) a b o n cap f w hn hb hf
theorem bfold_or (a : Nat) : Calls Tryd.prog 45 #[W a, .func (.func 50) #[] #[], .slice (some ⟨b, o, none⟩) n cap] w fun e w' => e = .returned (W (foN (· ||| ·) a f n)) ∧ Below w.heap.size w w' :=
  bfold_any _ _ (fun a b i w => (or1_any _ _ w).mono fun _ _ ⟨h1, h2⟩ => ⟨by rw [h1, lb_or], h2⟩) (enters_of Tryd.func50 (by kernel_rfl) rfl) a b o n cap f w hn hb hf
theorem bfold_xor (a : Nat) : Calls Tryd.prog 45 #[W a, .func (.func 51) #[] #[], .slice (some ⟨b, o, none⟩) n cap] w fun e w' => e = .returned (W (foN (· ^^^ ·) a f n)) ∧ Below w.heap.size w w' :=
  bfold_any _ _ (fun a b i w => (xor1_any _ _ w).mono fun _ _ ⟨h1, h2⟩ => ⟨by rw [h1, lb_xor], h2⟩) (enters_of Tryd.func51 (by kernel_rfl) rfl) a b o n cap f w hn hb hf
end
end Go.Proofs.YthjbiojbmjgkbaaDoor
