/- policy's laws: read: what is deferred, where nothing gives up; what lines do. -/
import Derived.Test.YtenepkgjdoddgaaGreatDoorAe
import Derived.Defers
import Derived.Recover
import Derived.RecoverIn
namespace Go.Proofs.YtenepkgjdoddgaaGreatDoor
open Go.RowKit Go.Shelf

theorem idle_in (n : Nat) (p : Addr) (w : World) :
    CallsDIn Fence.wide n Tryz.prog 89 #[.pointer (some p)] .returning w fun e u' w' => e = .returned (.tuple #[]) ∧ u' = .returning ∧ w' = w := by
  refine callsDIn_of_wpSIn Tryz.func89 rfl trivial fun c₀ cs hu => ?_
  apply wpSIn_seq
  apply wpSIn_region
  simp [wpOpsSIn, go_sem, recoverD, hu, Tryz.ntmps89, Exit.thenS]
  rw [show (#[Value.pointer (some p)] ++ ((Array.replicate 15 undef).setIfInBounds 3 .nilIface).setIfInBounds 0 .nilIface : Array Value) = #[.pointer (some p), .nilIface, undef, undef, .nilIface, undef, undef, undef, undef, undef, undef, undef, undef, undef, undef, undef] from rfl]
  refine wpSIn_of_wpIn rfl ?_
  gi_wp2_with fail
  cases c₀
  simp_all [bodyPostS, results, Tryz.results89]

/-- A policy under way. -/
structure St where
  df : Nat
  ls : List (List Nat × Nat)
  rs : List (List Nat × Nat × Nat)
/-- What a line does. -/
inductive StepOk : Nat → ByteArray → St → St → Prop
  | dflt (x u : ByteArray) (df : Nat) (ls : List (List Nat × Nat)) (rs : List (List Nat × Nat × Nat)) : pcs 32 x = [sDef, u] → u.size ≤ 400 → labE u.data.toList = 0 → StepOk 0 x ⟨df, ls, rs⟩ ⟨labV u.data.toList, ls, rs⟩
  | clear (i : Nat) (x : ByteArray) (T : List UInt8) (u : ByteArray) (df : Nat) (ls : List (List Nat × Nat)) : 0 < i → pcs 32 x = [sClr, ⟨(48 :: 120 :: T).toArray⟩, u] → T.length = 40 → (∀ y ∈ T, dv y < 16) → u.size ≤ 400 → labE u.data.toList = 0 → StepOk i x ⟨df, ls, []⟩ ⟨df, ls ++ [(lowA (valL T), labV u.data.toList)], []⟩
  | release (i : Nat) (x : ByteArray) (T : List UInt8) (ue u : ByteArray) (e0 df : Nat) (ls : List (List Nat × Nat)) (rs : List (List Nat × Nat × Nat)) : 0 < i → pcs 32 x = [sRel, ⟨(48 :: 120 :: T).toArray⟩, ue, u] → T.length = 40 → (∀ y ∈ T, dv y < 16) → ue.size ≤ 400 → e0 < 4294967296 → Lib.parseUintB 32 ue.data.toList = .ok e0 →
      (∀ X, Calls Tryz.prog 51 #[.int .u32 (e0 : Nat)] X fun e w' => e = .returned (.string ue) ∧ Below X.heap.size X w') → u.size ≤ 400 → labE u.data.toList = 0 → StepOk i x ⟨df, ls, rs⟩ ⟨df, ls, rs ++ [(lowA (valL T), e0, labV u.data.toList)]⟩
theorem labV_lt (l : List UInt8) : labV l < 18446744073709551616 := by
  unfold labV
  split
  · rename_i h; exact h.choose_spec.1
  · decide
end Go.Proofs.YtenepkgjdoddgaaGreatDoor
