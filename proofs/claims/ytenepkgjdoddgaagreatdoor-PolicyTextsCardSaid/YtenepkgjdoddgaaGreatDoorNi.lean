/- policy's laws: PolicyHolds: the walk. -/
import Derived.Test.YtenepkgjdoddgaaGreatDoorNf
import Derived.Test.YtenepkgjdoddgaaGreatDoorPl
import Derived.Test.YtenepkgjdoddgaaGreatDoorRm
namespace Go.Proofs.YtenepkgjdoddgaaGreatDoor
open Go.RowKit Go.Shelf

/-- A policy's text, or none. -/
def txE (d : Nat) (cs : List (List Nat × Nat)) (rs : List (List Nat × Nat × Nat)) : List UInt8 := if chk d cs rs = 0 then txP d cs rs else []
theorem ptext_any (d : Nat) (cv rv : Value) (cs : List (List Nat × Nat)) (rs : List (List Nat × Nat × Nat)) (w : World) (hd : d < 18446744073709551616) (hcs : ClA w cv cs) (hrs : RlA w rv rs) (hT : TZ w) (h10 : T10 w) :
    Calls Tryz.prog 18 #[.agg #[.int .u64 d, cv, rv]] w fun e w' => e = .returned (.tuple #[.string ⟨(txE d cs rs).toArray⟩, .int .i64 (chk d cs rs : Nat)]) ∧ Below w.heap.size w w' := by
  unfold txE
  by_cases h : chk d cs rs = 0
  · rw [if_pos h, h]
    exact text_ok d cv rv cs rs w hd hcs hrs h hT h10
  · rw [if_neg h]
    exact text_bad d cv rv cs rs w hd hcs hrs h
end Go.Proofs.YtenepkgjdoddgaaGreatDoor
