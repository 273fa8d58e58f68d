/- The reference's Digit and Parse, by contracts. -/
import Derived.Test.YtenepkgjdoddgaaGreatDoorPb
namespace Go.Proofs.YtenepkgjdoddgaaGreatDoor
open Go.RowKit
attribute [local go_sem] ix0 ix1 ix2 ix3
set_option maxRecDepth 100000 in
theorem dig_ix64 (n : Nat) (h : n < 16) (w : World) : (Instr.index 9 (.string ⟨#[48, 49, 50, 51, 52, 53, 54, 55, 56, 57, 97, 98, 99, 100, 101, 102]⟩) (.int .i64 n)).run Tryz.prog w = .ok (.int .u8 (dgN n)) w := by
  match n, h with
  | 0, _ | 1, _ | 2, _ | 3, _ | 4, _ | 5, _ | 6, _ | 7, _ | 8, _ | 9, _ | 10, _ | 11, _ | 12, _ | 13, _ | 14, _ | 15, _ => rfl
  | n + 16, h => exact absurd h (by omega)
theorem dv_of (b : UInt8) (k : Nat) (h : k < 16) (e : dgN k = b.toNat) : dv b = k := by
  unfold dv dgN at *
  split at e <;> (split <;> (try split)) <;> omega
theorem dgN_dv (b : UInt8) (h : dv b < 16) : dgN (dv b) = b.toNat := by
  unfold dv dgN at *
  split at h
  · rename_i g; rw [if_pos g]; split <;> omega
  · rename_i g
    rw [if_neg g]
    split at h
    · rename_i g2; rw [if_pos g2]; split <;> omega
    · omega
set_option maxRecDepth 100000 in
theorem rdigit_any (b : UInt8) (w : World) :
    Calls Tryz.prog 66 #[.int .u8 b.toNat] w fun e w' => e = .returned (.int .i64 (if dv b < 16 then (dv b : Int) else -1)) ∧ w = w' := by
  obtain ⟨r, hr⟩ : ∃ r : Int, (if dv b < 16 then (dv b : Int) else -1) = r := ⟨_, rfl⟩
  rw [hr]
  have HR := Lib.hid hr
  clear hr
  go_enter Tryz.func66, Tryz.ntmps66
  go_wp2_with fail
  go_loopw [3] (fun i wr => ∃ k : Nat, k ≤ 16 ∧ i = .int .i64 k ∧ (∀ j, j < k → dgN j ≠ b.toNat) ∧ wr = w) (fun i _ => 16 - (intOf i).toNat)
  case atStart => exact ⟨0, by omega, rfl, fun j h => by omega, rfl⟩
  case round =>
    obtain ⟨k, hk, rfl, hno, rfl⟩ := hrel
    have HN := Lib.hid hno
    clear hno
    by_cases hlt : k < 16
    · have hix := dig_ix64 k hlt wr
      by_cases he : dgN k = b.toNat
      · have E : Hid ((k : Int) = r) := by show _ = _; rw [← HR.out, dv_of b k hlt he, if_pos hlt]
        have he' : ((dgN k : Nat) : Int) = (b.toNat : Int) := by rw [he]
        rw [he'] at hix
        clear he he'
        go_wp2
        go_ret
        rw [E.out]
        exact ⟨rfl, rfl⟩
      · have he' : (((dgN k : Nat) : Int) == (b.toNat : Int)) = false := by simp; omega
        have HE := Lib.hid he
        clear he
        go_wp2
        exact ⟨⟨k + 1, by omega, by go_num, fun j hj => by
          rcases Nat.lt_succ_iff_lt_or_eq.1 hj with h | h
          · exact HN.out j h
          · subst h; exact HE.out, trivial⟩, by simp [intOf]; omega⟩
    · obtain rfl : k = 16 := by omega
      have E : Hid (-1 = r) := by
        show _ = _
        rw [← HR.out, if_neg (fun h => HN.out (dv b) h (dgN_dv b h))]
      go_wp2
      go_ret
      rw [← E.out]
      exact ⟨rfl, rfl⟩

theorem blk_set4 {w : World} {g : Nat} {t : TypeId} {s : Nat} (h : Blk w g t (Wc s)) (a b c d : Int) :
    Blk ((((w.setCell ⟨g, 0, none⟩ (.int .u64 a)).setCell ⟨g, 1, none⟩ (.int .u64 b)).setCell ⟨g, 2, none⟩ (.int .u64 c)).setCell ⟨g, 3, none⟩ (.int .u64 d)) g t #[.int .u64 a, .int .u64 b, .int .u64 c, .int .u64 d] :=
  heap_setCell_same _ g 3 _ _ _ (heap_setCell_same _ g 2 _ _ _ (heap_setCell_same _ g 1 _ _ _ (heap_setCell_same w g 0 _ _ _ h)))
theorem blk_set4_far {w : World} {p g : Nat} {t : TypeId} {cs : Array Value} (h : Blk w p t cs) (hne : p ≠ g) (a b c d : Int) :
    Blk ((((w.setCell ⟨g, 0, none⟩ (.int .u64 a)).setCell ⟨g, 1, none⟩ (.int .u64 b)).setCell ⟨g, 2, none⟩ (.int .u64 c)).setCell ⟨g, 3, none⟩ (.int .u64 d)) p t cs :=
  (Below.heap_setCell _ ⟨g, 3, none⟩ _ p hne).trans ((Below.heap_setCell _ ⟨g, 2, none⟩ _ p hne).trans ((Below.heap_setCell _ ⟨g, 1, none⟩ _ p hne).trans ((Below.heap_setCell _ ⟨g, 0, none⟩ _ p hne).trans h)))
theorem below_set4 {n : Nat} {w w' : World} (h : Below n w w') {g : Nat} (hg : n ≤ g) (a b c d : Int) :
    Below n w ((((w'.setCell ⟨g, 0, none⟩ (.int .u64 a)).setCell ⟨g, 1, none⟩ (.int .u64 b)).setCell ⟨g, 2, none⟩ (.int .u64 c)).setCell ⟨g, 3, none⟩ (.int .u64 d)) :=
  (((h.setCell (p := ⟨g, 0, none⟩) hg _).setCell (p := ⟨g, 1, none⟩) hg _).setCell (p := ⟨g, 2, none⟩) hg _).setCell (p := ⟨g, 3, none⟩) hg _

end Go.Proofs.YtenepkgjdoddgaaGreatDoor
