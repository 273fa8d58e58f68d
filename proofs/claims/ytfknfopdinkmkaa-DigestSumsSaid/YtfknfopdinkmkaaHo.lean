/- digest's law: DigestSums' walk, all bytes, all cuts. -/
import Derived.Test.YtfknfopdinkmkaaHm
import Derived.Test.YtfknfopdinkmkaaHh
namespace Go.Proofs.Ytfknfopdinkmkaa
open Go.RowKit Go.ChangeShapes Go.WideShapes Go.ChangeAt

set_option maxRecDepth 100000 in
set_option maxHeartbeats 2000000 in
theorem sums_out (x : Option Addr) (n cap : Nat) (c : Int) (h : 500 < n ∨ c < 0 ∨ (n : Int) < c) (w : World) :
    Calls Try.prog 3 #[.slice x n cap, .int .i64 c] w fun e w' => e = .returned (.bool true) ∧ Below w.heap.size w w' := by
  by_cases h1 : 500 < n
  · have hnI : (500 : Int) < (n : Int) := by omega
    go_enter Try.func3, Try.ntmps3
    go_wp2_with fail
    refine (works_anyK _).mono ?_
    rintro e X ⟨rfl, h4⟩
    go_wp2_with fail
    go_ret
    exact ⟨rfl, h4⟩
  · have hnI : ¬ ((500 : Int) < (n : Int)) := by omega
    by_cases h2 : c < 0
    · go_enter Try.func3, Try.ntmps3
      go_wp2_with fail
      refine (works_anyK _).mono ?_
      rintro e X ⟨rfl, h4⟩
      go_wp2_with fail
      go_ret
      exact ⟨rfl, h4⟩
    · have h3 : (n : Int) < c := by omega
      go_enter Try.func3, Try.ntmps3
      go_wp2_with fail
      refine (works_anyK _).mono ?_
      rintro e X ⟨rfl, h4⟩
      go_wp2_with fail
      go_ret
      exact ⟨rfl, h4⟩
theorem sums_all {H : Type} {enc : TypeId × Value → H} {W₀ : World} {base : Nat} {sp : Nat → Bool} {held : Bool} {r : Reach} {b0 : Nat} {v : Value} {d : DataW H} {p : List MemPlace} (c : Int) (hv : Value.okWide Try.prog W₀ r b0 22 v) (h : DataW.Trod enc Try.prog W₀ base sp held 22 v d p) :
    Calls Try.prog 3 #[v, .int .i64 c] W₀ fun e w' => e = .returned (.bool true) ∧ Below W₀.heap.size W₀ w' := by
  obtain ⟨x, n, cap, f, rfl, hv2, hs⟩ := open_sl hv h
  by_cases hn : 500 < n ∨ c < 0 ∨ (n : Int) < c
  · exact sums_out x n cap c hn W₀
  · obtain ⟨k, rfl⟩ : ∃ k : Nat, c = (k : Int) := ⟨c.toNat, by omega⟩
    exact sums_walk x n cap k f (by omega) (by omega) W₀ hv2 hs
end Go.Proofs.Ytfknfopdinkmkaa
