/- policy's laws: the reader's words. -/
import Derived.Test.YtenepkgjdoddgaaGreatDoorSy
namespace Go.Proofs.YtenepkgjdoddgaaGreatDoor
open Go.RowKit Go.Shelf

/-- The words that are left: of a block of texts those from the k-th on. -/
def Wd (X : World) (b : Nat) (cs : List ByteArray) (k : Nat) (v : Value) : Prop :=
  Blk X b 9 (cs.map Value.string).toArray ∧ k ≤ cs.length ∧ cs.length ≤ 4294967290 ∧ ∃ x c, v = .slice x (cs.length - k) c ∧ (k < cs.length → x = some ⟨b, k, none⟩ ∧ c = cs.length - k)
/-- A reader under way. -/
def Rd (X : World) (R : Nat) (v : Value) (num df : Int) (vc vr : Value) : Prop := Blk X R 141 #[v, .int .i64 num, .int .u64 df, vc, vr]
theorem Wd.kept {X Y : World} {b k : Nat} {cs : List ByteArray} {v : Value} {row : Option Nat} (h : Wd X b cs k v) (hg : X.grownBy Y row) (hr : row ≠ some b) : Wd Y b cs k v := ⟨h.1.kept hg (fun e => hr e.symm), h.2⟩
theorem Rd.kept {X Y : World} {R : Nat} {v : Value} {num df : Int} {vc vr : Value} {row : Option Nat} (h : Rd X R v num df vc vr) (hg : X.grownBy Y row) (hr : row ≠ some R) : Rd Y R v num df vc vr := Blk.kept h hg (fun e => hr e.symm)
theorem Rd.ne {X : World} {R b k : Nat} {v v2 : Value} {num df : Int} {vc vr : Value} {cs : List ByteArray} (h : Rd X R v num df vc vr) (hb : Wd X b cs k v2) : b ≠ R := fun e => by
  have h1 : X.heap[b]? = some (.cells (cs.map Value.string).toArray 9 (0, 0)) := hb.1
  have h2 : X.heap[R]? = some (.cells #[v, .int .i64 num, .int .u64 df, vc, vr] 141 (0, 0)) := h
  rw [e, h2] at h1
  injection h1 with h1
  injection h1 with _ h1
  exact absurd h1 (by decide)
theorem need_true (w : World) : Calls Tryz.prog 92 #[.bool true] w fun e w' => e = .returned (.tuple #[]) ∧ w = w' := by
  go_enter Tryz.func92, Tryz.ntmps92
  go_wp2
  go_end0
  exact ⟨rfl, rfl⟩
theorem need_b (b : Bool) (h : b = true) (w : World) : Calls Tryz.prog 92 #[.bool b] w fun e w' => e = .returned (.tuple #[]) ∧ w = w' := by subst h; exact need_true w
theorem cutWords (x : Option Addr) (m c : Nat) (hm : 1 ≤ m) (w : World) : (Instr.slice 139 (.slice x m c) (some (.int .i64 1)) none none).run Tryz.prog w = .ok (sliced x 1 m c 1) w := by
  have h := run_slice_l (P := Tryz.prog) (w := w) (t := 139) (a := x) (len := m) (cap := c) (ht := by kernel_rfl) .i64 (1 : Int) (by omega) (by omega)
  rw [h, show Tryz.prog.elem 139 = 9 by kernel_rfl, show (sizeOf 9).run Tryz.prog w = .ok 1 w by kernel_rfl]
  rfl
set_option maxRecDepth 100000 in
set_option maxHeartbeats 2000000 in
theorem next_ok (R b k : Nat) (cs : List ByteArray) (u : ByteArray) (v : Value) (num df : Int) (vc vr : Value) (w : World) (hR : Rd w R v num df vc vr) (hb : Wd w b cs k v) (hk : cs[k]? = some u) :
    Calls Tryz.prog 94 #[.pointer (some ⟨R, 0, none⟩)] w fun e w' => e = .returned (.string u) ∧ ∃ v', Rd w' R v' num df vc vr ∧ Wd w' b cs (k + 1) v' ∧ w.grownBy w' (some R) := by
  have hne := hR.ne hb
  obtain ⟨h1, h2, h3, x, c, rfl, h4⟩ := hb
  have hlt : k < cs.length := (List.getElem?_eq_some_iff.1 hk).1
  obtain ⟨rfl, rfl⟩ := h4 hlt
  have kb : w.cell? ⟨b, k, none⟩ = some (.string u) := by
    rw [cell_of_row w b k _ _ _ h1]
    simp [hk]
  have k0 : w.cell? ⟨R, 0, none⟩ = some (.slice (some ⟨b, k, none⟩) (cs.length - k) (cs.length - k)) := cell_of_row w R 0 _ _ _ hR
  have f0 := frozen_of_row w R 0 _ _ hR
  obtain ⟨m, hm⟩ : ∃ m, cs.length - k = m := ⟨_, rfl⟩
  rw [hm] at hR k0
  have hmp : (0 : Int) < (m : Int) := by omega
  have HN := Lib.hid (show decide (0 < m) = true by simp; omega)
  have hct := cutWords (some ⟨b, k, none⟩) m m (by omega)
  obtain ⟨y, l2, c2, hsd⟩ : ∃ y l2 c2, sliced (some ⟨b, k, none⟩) 1 m m 1 = .slice y l2 c2 := ⟨_, _, _, rfl⟩
  have hl2 : l2 = cs.length - (k + 1) ∧ (k + 1 < cs.length → y = some ⟨b, k + 1, none⟩ ∧ c2 = cs.length - (k + 1)) := by
    unfold sliced at hsd
    injection hsd with e1 e2 e3
    refine ⟨by omega, fun h => ?_⟩
    rw [if_neg (by omega)] at e1
    refine ⟨?_, by omega⟩
    rw [← e1]
    show some (Addr.add ⟨b, k, none⟩ (1 * 1)) = _
    rw [Go.WideShapes.add_plain]
  rw [hsd] at hct
  have HH := Lib.hid (And.intro hR (And.intro h1 (And.intro h2 (And.intro h3 (And.intro hne (And.intro hlt hl2))))))
  clear hR h1 h2 h3 h4 hne hlt hl2 hk hm hsd
  go_enter Tryz.func94, Tryz.ntmps94
  go_wp2_with (go_at_call 92; refine (need_b _ HN.out _).mono ?_; rintro e w' ⟨rfl, rfl⟩)
  go_ret
  obtain ⟨hR, h1, h2, h3, hne, hlt, hl2, hy⟩ := HH.out
  have hG := grown_set' (grown_refl w R) 0 (.slice y l2 c2)
  refine ⟨rfl, .slice y l2 c2, heap_setCell_same w R 0 _ _ _ hR, ⟨h1.kept hG (fun e => hne (Option.some.inj e)), by omega, h3, y, c2, by rw [hl2], hy⟩, hG⟩
end Go.Proofs.YtenepkgjdoddgaaGreatDoor
