/- digest: a round, all rounds. -/
import Derived.Test.YtfknfopdinkmkaaKe
namespace Go.Proofs.Ytfknfopdinkmkaa
open Go.RowKit
attribute [local irreducible] ln rot
/-- A round as the program does it, the mark lying behind the state. -/
def rdP (f : Nat → Ln) : Nat → Ln := upd (chF (plF (thF f 5) 24) 25) 0 (chF (plF (thF f 5) 24) 25 0 ^^^ chF (plF (thF f 5) 24) 25 25)
theorem rdP_mark (f : Nat → Ln) : rdP f 25 = f 25 := by
  unfold rdP upd
  rw [if_neg (by omega)]
  unfold chF
  rw [if_neg (by omega), plF_mark]
  unfold thF
  rw [if_neg (by omega)]
theorem thF_on (f : Nat → Ln) : EqOn (thF f 5) (theta f) := fun i hi => by unfold thF; rw [if_pos (by omega)]
theorem chF_on (f : Nat → Ln) : EqOn (chF f 25) (chi f) := fun i hi => by unfold chF; rw [if_pos hi]
theorem rdP_on (r : Nat) (f : Nat → Ln) (h : f 25 = rcv r) : EqOn (rdP f) (rnd r f) := by
  have h1 : EqOn (chF (plF (thF f 5) 24) 25) (chi (rhopi (theta f))) := (chF_on _).trans (chi_on ((plF_all _).trans (rhopi_on (thF_on f))))
  have h2 : chF (plF (thF f 5) 24) 25 25 = rcv r := by
    unfold chF; rw [if_neg (by omega), plF_mark]; unfold thF; rw [if_neg (by omega), h]
  intro i hi
  unfold rdP rnd iota upd
  rw [h2]
  by_cases e : i = 0
  · subst e; rw [if_pos rfl, if_pos rfl, h1 0 (by omega)]
  · rw [if_neg e, if_neg e, h1 i hi]

theorem ixm0 (x0 x1 x2 x3 : Value) (w : World) : (Instr.index 60 (.agg #[x0, x1, x2, x3]) (.int .i64 0)).run Try.prog w = .ok x0 w := by kernel_rfl
theorem ixm1 (x0 x1 x2 x3 : Value) (w : World) : (Instr.index 60 (.agg #[x0, x1, x2, x3]) (.int .i64 1)).run Try.prog w = .ok x1 w := by kernel_rfl
theorem ixm2 (x0 x1 x2 x3 : Value) (w : World) : (Instr.index 60 (.agg #[x0, x1, x2, x3]) (.int .i64 2)).run Try.prog w = .ok x2 w := by kernel_rfl
theorem ixm3 (x0 x1 x2 x3 : Value) (w : World) : (Instr.index 60 (.agg #[x0, x1, x2, x3]) (.int .i64 3)).run Try.prog w = .ok x3 w := by kernel_rfl
attribute [local go_sem] ixm0 ixm1 ixm2 ixm3
theorem meth_columns (g : Nat) (w : World) : (method 208 58 (.pointer (some ⟨g, 0, none⟩)) "excise/digest.columns").run Try.prog w = .ok (25, .pointer (some ⟨g, 0, none⟩)) w := by kernel_rfl
theorem meth_places (g : Nat) (w : World) : (method 208 58 (.pointer (some ⟨g, 0, none⟩)) "excise/digest.places").run Try.prog w = .ok (26, .pointer (some ⟨g, 0, none⟩)) w := by kernel_rfl
theorem meth_rows (g : Nat) (w : World) : (method 208 58 (.pointer (some ⟨g, 0, none⟩)) "excise/digest.rows").run Try.prog w = .ok (27, .pointer (some ⟨g, 0, none⟩)) w := by kernel_rfl
attribute [local go_sem] meth_columns meth_places meth_rows
set_option maxRecDepth 100000 in
set_option maxHeartbeats 4000000 in
theorem order_anyK (g : Nat) (f : Nat → Ln) (w : World) (hB : Blk w g 48 (Fc 26 f)) :
    Calls Try.prog 29 #[.pointer (some ⟨g, 0, none⟩), .agg #[.func (.methodOf 58 "excise/digest.columns") #[] #[], .func (.methodOf 58 "excise/digest.places") #[] #[], .func (.methodOf 58 "excise/digest.rows") #[] #[], .func (.func 28) #[] #[]]] w fun e w' => e = .returned (.tuple #[]) ∧ Blk w' g 48 (Fc 26 (rdP f)) ∧ w.grownBy w' (some g) := by
  have HB := Lib.hid hB
  clear hB
  go_enter Try.func29, Try.ntmps29
  go_wp2_with fail
  have hX := HB.out.alloc (.cells #[.func (.methodOf 58 "excise/digest.columns") #[] #[], .func (.methodOf 58 "excise/digest.places") #[] #[], .func (.methodOf 58 "excise/digest.rows") #[] #[], .func (.func 28) #[] #[]] 60)
  have hG := grownSome (g := g) (grownNone (balloc (Below.refl _ w) (.cells #[.func (.methodOf 58 "excise/digest.columns") #[] #[], .func (.methodOf 58 "excise/digest.places") #[] #[], .func (.methodOf 58 "excise/digest.rows") #[] #[], .func (.func 28) #[] #[]] 60)))
  obtain ⟨w1, hw1⟩ : ∃ w1, w.alloc (.cells #[.func (.methodOf 58 "excise/digest.columns") #[] #[], .func (.methodOf 58 "excise/digest.places") #[] #[], .func (.methodOf 58 "excise/digest.rows") #[] #[], .func (.func 28) #[] #[]] 60) = w1 := ⟨_, rfl⟩
  rw [hw1] at hX hG ⊢
  have HX := Lib.hid (And.intro hX hG)
  clear hX hG HB hw1
  refine wp_loop_rounds 5 ?_
  rw [rounds_succ]
  go_wp2_with fail
  refine (columns_any g f _ HX.out.1).mono ?_
  rintro e wk ⟨rfl, hX, hG⟩
  have HY := Lib.hid (And.intro hX (grown_trans HX.out.2 hG))
  clear hX hG HX
  go_wp2_with fail
  rw [rounds_succ]
  go_wp2_with fail
  refine (places_any g _ _ HY.out.1).mono ?_
  rintro e wk ⟨rfl, hX, hG⟩
  have HX := Lib.hid (And.intro hX (grown_trans HY.out.2 hG))
  clear hX hG HY
  go_wp2_with fail
  rw [rounds_succ]
  go_wp2_with fail
  refine (rows_any g _ _ HX.out.1).mono ?_
  rintro e wk ⟨rfl, hX, hG⟩
  have HY := Lib.hid (And.intro hX (grown_trans HX.out.2 hG))
  clear hX hG HX
  go_wp2_with fail
  rw [rounds_succ]
  go_wp2_with fail
  refine (marked_any g _ _ HY.out.1).mono ?_
  rintro e wk ⟨rfl, hX, hG⟩
  have HX := Lib.hid (And.intro hX (grown_trans HY.out.2 hG))
  clear hX hG HY
  go_wp2_with fail
  rw [rounds_succ]
  go_wp2_with fail
  go_end0
  exact ⟨rfl, HX.out⟩
end Go.Proofs.Ytfknfopdinkmkaa
