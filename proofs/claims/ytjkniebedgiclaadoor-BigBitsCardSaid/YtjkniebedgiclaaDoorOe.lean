/- big: the longest of three; Len. -/
import Derived.Test.YtjkniebedgiclaaDoorOd
namespace Go.Proofs.YtjkniebedgiclaaDoor
open Go.RowKit Go.Shelf

set_option maxRecDepth 100000 in
theorem longest1_any (a n : Nat) (x : Option Addr) (c : Nat) (w : World) : Calls Tryd.prog 36 #[.int .i64 a, .slice x n c] w fun e w' => e = .returned (.int .i64 (max a n : Nat)) ∧ w = w' := by
  have h : max (a : Int) (n : Int) = ((max a n : Nat) : Int) := by omega
  go_enter Tryd.func36, Tryd.ntmps36
  go_wp2_with fail
  go_ret
  exact ⟨rfl, rfl⟩
set_option maxRecDepth 100000 in
set_option maxHeartbeats 2000000 in
theorem fold3_any (g n1 c1 n2 c2 n3 c3 : Nat) (x1 x2 x3 : Option Addr) (w : World) (hg : Blk w g 22 #[.slice x1 n1 c1, .slice x2 n2 c2, .slice x3 n3 c3]) :
    Calls Tryd.prog 35 #[.int .i64 0, .func (.func 36) #[] #[], .slice (some ⟨g, 0, none⟩) 3 3] w fun e w' => e = .returned (.int .i64 (max (max (max 0 n1) n2) n3 : Nat)) ∧ w = w' := by
  have k0 := cell_of_row _ _ 0 _ _ _ hg
  have k1 := cell_of_row _ _ 1 _ _ _ hg
  have k2 := cell_of_row _ _ 2 _ _ _ hg
  have h1 := Lib.hid (longest1_any 0 n1 x1 c1 w)
  have h2 := Lib.hid (longest1_any (max 0 n1) n2 x2 c2 w)
  have h3 := Lib.hid (longest1_any (max (max 0 n1) n2) n3 x3 c3 w)
  obtain ⟨m1, e1⟩ : ∃ m, max 0 n1 = m := ⟨_, rfl⟩
  rw [e1] at h1 h2 h3 ⊢
  obtain ⟨m2, e2⟩ : ∃ m, max m1 n2 = m := ⟨_, rfl⟩
  rw [e2] at h2 h3 ⊢
  obtain ⟨m3, e3⟩ : ∃ m, max m2 n3 = m := ⟨_, rfl⟩
  rw [e3] at h3 ⊢
  clear hg e1 e2 e3
  go_enter Tryd.func35, Tryd.ntmps35
  go_wp2_with fail
  refine wp_loop_rounds 4 ?_
  rw [rounds_succ]
  go_wp2_with (first | (go_at_call 36; refine h1.out.mono ?_; rintro e w1 ⟨rfl, rfl⟩) | fail)
  rw [rounds_succ]
  go_wp2_with (first | (go_at_call 36; refine h2.out.mono ?_; rintro e w1 ⟨rfl, rfl⟩) | fail)
  rw [rounds_succ]
  go_wp2_with (first | (go_at_call 36; refine h3.out.mono ?_; rintro e w1 ⟨rfl, rfl⟩) | fail)
  rw [rounds_succ]
  go_wp2_with fail
  go_ret
  exact ⟨rfl, rfl⟩
set_option maxRecDepth 100000 in
set_option maxHeartbeats 2000000 in
theorem longest_any (g n1 c1 n2 c2 n3 c3 : Nat) (x1 x2 x3 : Option Addr) (w : World) (hg : Blk w g 22 #[.slice x1 n1 c1, .slice x2 n2 c2, .slice x3 n3 c3]) :
    Calls Tryd.prog 21 #[.slice (some ⟨g, 0, none⟩) 3 3] w fun e w' => e = .returned (.int .i64 (max (max (max 0 n1) n2) n3 : Nat)) ∧ w = w' := by
  have h := Lib.hid (fold3_any g n1 c1 n2 c2 n3 c3 x1 x2 x3 w hg)
  obtain ⟨m, hm⟩ : ∃ m, max (max (max 0 n1) n2) n3 = m := ⟨_, rfl⟩
  rw [hm] at h ⊢
  clear hg hm
  go_enter Tryd.func21, Tryd.ntmps21
  go_wp2_with (first | (go_at_call 35; refine h.out.mono ?_; rintro e w1 ⟨rfl, rfl⟩) | fail)
  go_ret
  exact ⟨rfl, rfl⟩
/-- How many bits a byte has. -/
def l8 (b : Nat) : Nat := if b = 0 then 0 else b.log2 + 1
abbrev t8 : ByteArray := tab8
theorem t8_ok : ∀ y : Fin 256, (tab8[y.val]'(by rw [tab8_size]; exact y.isLt)).toNat = l8 y.val := by decide +kernel
set_option maxRecDepth 100000 in
theorem len8_any (b : Nat) (hb : b < 256) (w : World) : Calls Tryd.prog 34 #[.int .u8 b] w fun e w' => e = .returned (.int .i64 (l8 b : Nat)) ∧ w = w' := by
  have h := t8_ok ⟨b, hb⟩
  have h1 : (b : Int) < (tab8.size : Int) := by rw [tab8_size]; omega
  have h8 := (tab8_ok ⟨b, hb⟩).1
  rw [h] at h8
  have hw : wrap64 ((l8 b : Nat) : Int) = ((l8 b : Nat) : Int) := by
    have h9 : l8 b ≤ 8 := h8
    unfold wrap64
    omega
  clear h8
  go_enter Tryd.func34, Tryd.ntmps34
  go_wp2_with fail
  go_ret
  exact ⟨rfl, rfl⟩
end Go.Proofs.YtjkniebedgiclaaDoor
