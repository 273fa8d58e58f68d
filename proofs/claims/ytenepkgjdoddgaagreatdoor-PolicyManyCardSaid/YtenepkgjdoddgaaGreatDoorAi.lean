/- policy's laws: the text of works. -/
import Derived.Test.YtenepkgjdoddgaaGreatDoorAh
namespace Go.Proofs.YtenepkgjdoddgaaGreatDoor
open Go.RowKit Go.Shelf

theorem pcs_of {c : UInt8} {s : ByteArray} {L : List (List UInt8)} (h : Lib.split s.data.toList [c] = L) : pcs c s = L.map fun l => ⟨l.toArray⟩ := by
  have h1 := pcs_data c s
  rw [h] at h1
  subst h1
  rw [List.map_map]
  exact (List.map_id _).symm.trans (List.map_congr_left fun x _ => rfl)
set_option maxRecDepth 100000 in
set_option maxHeartbeats 1000000 in
theorem number_small (k : Nat) (hk : k < 64) (w : World) :
    Calls Tryz.prog 51 #[.int .u32 (k : Nat)] w fun e w' => e = .returned (.string ⟨(dec k).toArray⟩) ∧ Below w.heap.size w w' := by
  have h2 : (k : Int) < 100 := by omega
  have g1 : IntKind.u64.wrap (k : Int) = (k : Int) := IntWalk.u64_in _ (by omega)
  have g2 : wrap64 (k : Int) = (k : Int) := IntWalk.wrap64_in _ (by omega)
  have hI : ∀ w, Calls Tryz.prog 117 #[.int .u64 k, .int .i64 10] w fun e w' => e = .returned (.string ⟨(dec k).toArray⟩) ∧ w = w' := fun w => by
    go_enter Tryz.func117, Tryz.ntmps117
    go_wp2_with (first | (go_at_call 135; refine (small_any k hk _).mono ?_; rintro e w' ⟨rfl, rfl⟩) | fail)
    go_ret
    exact ⟨rfl, rfl⟩
  have hF : ∀ w, Calls Tryz.prog 85 #[.int .u64 k, .int .i64 10] w fun e w' => e = .returned (.string ⟨(dec k).toArray⟩) ∧ w = w' := fun w => by
    go_enter Tryz.func85, Tryz.ntmps85
    go_wp2_with (first | (go_at_call 117; refine (hI _).mono ?_; rintro e w' ⟨rfl, rfl⟩) | fail)
    go_ret
    exact ⟨rfl, rfl⟩
  go_enter Tryz.func51, Tryz.ntmps51
  go_wp2_with (first | (go_at_call 85; refine (hF _).mono ?_; rintro e w' ⟨rfl, rfl⟩) | fail)
  go_ret
  exact ⟨rfl, Below.refl _ _⟩
/-- The text of works, with its lines. -/
def wT : List UInt8 := [48, 48, 48, 48, 48, 48, 48, 48, 48, 48, 48, 48, 48, 48, 48, 48, 48, 48, 48, 48, 48, 48, 48, 48, 48, 48, 48, 48, 48, 48, 48, 48, 48, 48, 48, 48, 48, 48, 48, 49]
def wL0 : List UInt8 := [100, 101, 102, 97, 117, 108, 116, 32, 45]
def wL1 : List UInt8 := [99, 108, 101, 97, 114, 32] ++ (48 :: 120 :: wT) ++ [32, 48, 44, 49]
def wL2 : List UInt8 := [114, 101, 108, 101, 97, 115, 101, 32] ++ (48 :: 120 :: wT) ++ [32, 55, 32, 49]
def wLs : List UInt8 := wL0 ++ [10] ++ wL1 ++ [10] ++ wL2
def wS : List UInt8 := wLs ++ [10]
theorem nm_one : nmL (ofL 1) = 48 :: 120 :: wT := by unfold nmL hdg; decide +kernel
theorem low_one : lowA (valL wT) = ofL 1 := by decide +kernel
theorem split_w : Lib.split wLs [10] = [wL0, wL1, wL2] := by decide +kernel
theorem split_0 : Lib.split wL0 [32] = [[100, 101, 102, 97, 117, 108, 116], [45]] := by decide +kernel
theorem split_1 : Lib.split wL1 [32] = [[99, 108, 101, 97, 114], 48 :: 120 :: wT, [48, 44, 49]] := by decide +kernel
theorem split_2 : Lib.split wL2 [32] = [[114, 101, 108, 101, 97, 115, 101], 48 :: 120 :: wT, [55], [49]] := by decide +kernel
theorem trim_w : Lib.trimSuffix wS [10] = wLs ∧ Lib.hasSuffix wS [10] = true := by decide +kernel
theorem tx_3 : txL 3 = [48, 44, 49] := by decide +kernel
theorem tx_2 : txL 2 = [49] := by decide +kernel
theorem dec_7 : dec 7 = [55] := by decide +kernel
theorem pu_7 : Lib.parseUintB 32 [55] = .ok 7 := by rfl
theorem dv_wT : ∀ y ∈ wT, dv y < 16 := by decide +kernel
end Go.Proofs.YtenepkgjdoddgaaGreatDoor
