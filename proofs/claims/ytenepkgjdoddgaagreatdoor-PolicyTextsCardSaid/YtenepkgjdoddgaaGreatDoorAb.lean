/- policy's laws: the reader's entry, where the word is right. -/
import Derived.Test.YtenepkgjdoddgaaGreatDoorAa
import Derived.Lib.AtoiErrMem
namespace Go.Proofs.YtenepkgjdoddgaaGreatDoor
open Go.RowKit Go.Shelf

set_option maxRecDepth 100000 in
set_option maxHeartbeats 2000000 in
theorem entry_ok (R b k n : Nat) (cs : List ByteArray) (u : ByteArray) (v : Value) (num df : Int) (vc vr : Value) (w : World) (hR : Rd w R v num df vc vr) (hb : Wd w b cs k v) (hk : cs[k]? = some u) (hs : u.size ≤ 400) (hn : n < 4294967296)
    (hP : Lib.parseUintB 32 u.data.toList = .ok n) (hF : ∀ X, Calls Tryz.prog 51 #[.int .u32 (n : Nat)] X fun e w' => e = .returned (.string u) ∧ Below X.heap.size X w') :
    Calls Tryz.prog 143 #[.pointer (some ⟨R, 0, none⟩)] w fun e w' => e = .returned (.int .u32 (n : Nat)) ∧ ∃ v', Rd w' R v' num df vc vr ∧ Wd w' b cs (k + 1) v' ∧ w.grownBy w' (some R) := by
  have HN := Lib.hid (next_ok R b k cs u v num df vc vr w hR hb hk)
  have HP := Lib.hid (fun X => parseUint_ok u (by omega) n hP X)
  have HF := Lib.hid hF
  have g1 : IntKind.u32.wrap (n : Int) = (n : Int) := IntWalk.u32_in _ (by omega)
  have hq : (u.toList == u.toList) = true := by simp
  clear hR hb hk hs hP hF
  go_enter Tryz.func143, Tryz.ntmps143
  go_wp2_with (first
    | (go_at_call 94; refine (HN.out).mono ?_; rintro e w1 ⟨rfl, v', hR, hb, hg⟩; have H1 := Lib.hid (And.intro hR (And.intro hb hg)); clear hR hb hg)
    | (go_at_call 158; refine (HP.out _).mono ?_; rintro e w2 ⟨rfl, h2⟩; have H2 := Lib.hid h2; clear h2)
    | (go_at_call 51; refine (HF.out _).mono ?_; rintro e w3 ⟨rfl, h3⟩; have H3 := Lib.hid h3; clear h3)
    | (go_at_call 92; refine (need_b _ rfl _).mono ?_; rintro e w' ⟨rfl, rfl⟩)
    | fail)
  go_ret
  obtain ⟨hR, hb, hg⟩ := H1.out
  have h2 : Below w1.heap.size w1 w2 := by
    rcases H2.out with h | h
    · rw [h]; exact Below.refl _ _
    · rw [h]; exact Lib.bytesWorld_below _ _ _
  have h3 := h2.trans (H3.out.mono h2.size)
  exact ⟨rfl, v', Rd.kept hR (grown_new h3) (by simp), Wd.kept hb (grown_new h3) (by simp), grown_stp hg (h3.mono hg.size)⟩
end Go.Proofs.YtenepkgjdoddgaaGreatDoor
