/- label's law: LabelHolds: the walk. -/
import Derived.Test.YtmcfccbaogjblaaDoorGk
namespace Go.Proofs.YtmcfccbaogjblaaDoor
open Go.RowKit Go.Shelf

set_option maxRecDepth 100000 in
set_option maxHeartbeats 4000000 in
theorem holds_way0 (a b c j m : Nat) (r v eq : Bool) (w : World)
    (HBaa : Hid (∀ X, Below w.heap.size w X → Calls Tryd.prog 13 #[.int .u64 (a : Nat), .int .u64 (a : Nat)] X fun e w' => e = .returned (.bool true) ∧ Below w.heap.size w w'))
    (HBab : Hid (∀ X, Below w.heap.size w X → Calls Tryd.prog 13 #[.int .u64 (a : Nat), .int .u64 (b : Nat)] X fun e w' => e = .returned (.bool false) ∧ Below w.heap.size w w'))
    (HBac : Hid (∀ X, Below w.heap.size w X → Calls Tryd.prog 13 #[.int .u64 (a : Nat), .int .u64 (c : Nat)] X fun e w' => e = .returned (.bool false) ∧ Below w.heap.size w w'))
    (HBaj : Hid (∀ X, Below w.heap.size w X → Calls Tryd.prog 13 #[.int .u64 (a : Nat), .int .u64 (j : Nat)] X fun e w' => e = .returned (.bool true) ∧ Below w.heap.size w w'))
    (HBbj : Hid (∀ X, Below w.heap.size w X → Calls Tryd.prog 13 #[.int .u64 (b : Nat), .int .u64 (j : Nat)] X fun e w' => e = .returned (.bool true) ∧ Below w.heap.size w w'))
    (HBma : Hid (∀ X, Below w.heap.size w X → Calls Tryd.prog 13 #[.int .u64 (m : Nat), .int .u64 (a : Nat)] X fun e w' => e = .returned (.bool true) ∧ Below w.heap.size w w'))
    (HBmb : Hid (∀ X, Below w.heap.size w X → Calls Tryd.prog 13 #[.int .u64 (m : Nat), .int .u64 (b : Nat)] X fun e w' => e = .returned (.bool true) ∧ Below w.heap.size w w'))
    (HBjc : Hid (∀ X, Below w.heap.size w X → Calls Tryd.prog 13 #[.int .u64 (j : Nat), .int .u64 (c : Nat)] X fun e w' => e = .returned (.bool (false && r)) ∧ Below w.heap.size w w'))
    (HBca : Hid (∀ X, Below w.heap.size w X → Calls Tryd.prog 13 #[.int .u64 (c : Nat), .int .u64 (a : Nat)] X fun e w' => e = .returned (.bool false) ∧ Below w.heap.size w w'))
    (HBcm : Hid (∀ X, Below w.heap.size w X → Calls Tryd.prog 13 #[.int .u64 (c : Nat), .int .u64 (m : Nat)] X fun e w' => e = .returned (.bool (false && v)) ∧ Below w.heap.size w w'))
    (HJ : Hid (∀ X, Below w.heap.size w X → Calls Tryd.prog 11 #[.slice (some ⟨X.heap.size, 0, none⟩) 2 2] (X.alloc (.cells #[.int .u64 (a : Nat), .int .u64 (b : Nat)] 24)) fun e w' => e = .returned (.int .u64 (j : Nat)) ∧ Below w.heap.size w w'))
    (HM : Hid (∀ X, Below w.heap.size w X → Calls Tryd.prog 12 #[.slice (some ⟨X.heap.size, 0, none⟩) 2 2] (X.alloc (.cells #[.int .u64 (a : Nat), .int .u64 (b : Nat)] 24)) fun e w' => e = .returned (.int .u64 (m : Nat)) ∧ Below w.heap.size w w'))
    (HTA : Hid (∀ X, Below w.heap.size w X → Calls Tryd.prog 15 #[.int .u64 (a : Nat)] X fun e w' => e = .returned (.string ⟨(txL a).toArray⟩) ∧ Below w.heap.size w w'))
    (HTB : Hid (∀ X, Below w.heap.size w X → Calls Tryd.prog 15 #[.int .u64 (b : Nat)] X fun e w' => e = .returned (.string ⟨(txL b).toArray⟩) ∧ Below w.heap.size w w'))
    (HW : Hid (∀ X, Below w.heap.size w X → Calls Tryd.prog 7 #[] X fun e w' => e = .returned (.bool true) ∧ Below w.heap.size w w'))
    (he1 : ((a : Int) == (b : Int)) = eq) (he2 : (txL a == txL b) = eq) :
    Calls Tryd.prog 6 #[.int .u64 (a : Nat), .int .u64 (b : Nat), .int .u64 (c : Nat)] w fun e w' => e = .returned (.bool true) ∧ Below w.heap.size w w' := by
  have h0 : Below w.heap.size w w := Below.refl _ _
  go_enter Tryd.func6, Tryd.ntmps6
  go_wp2_with (first
    | (go_at_call 11; refine (HJ.out _ (by assumption)).mono ?_; rintro e wk ⟨rfl, hk⟩)
    | (go_at_call 12; refine (HM.out _ (by assumption)).mono ?_; rintro e wk ⟨rfl, hk⟩)
    | (go_at_call 13; ((with_reducible refine (HBaa.out _ (by assumption)).mono ?_)); rintro e wk ⟨rfl, hk⟩)
    | (go_at_call 13; ((with_reducible refine (HBab.out _ (by assumption)).mono ?_)); rintro e wk ⟨rfl, hk⟩)
    | (go_at_call 13; ((with_reducible refine (HBac.out _ (by assumption)).mono ?_)); rintro e wk ⟨rfl, hk⟩)
    | (go_at_call 13; ((with_reducible refine (HBaj.out _ (by assumption)).mono ?_)); rintro e wk ⟨rfl, hk⟩)
    | (go_at_call 13; ((with_reducible refine (HBbj.out _ (by assumption)).mono ?_)); rintro e wk ⟨rfl, hk⟩)
    | (go_at_call 13; ((with_reducible refine (HBma.out _ (by assumption)).mono ?_)); rintro e wk ⟨rfl, hk⟩)
    | (go_at_call 13; ((with_reducible refine (HBmb.out _ (by assumption)).mono ?_)); rintro e wk ⟨rfl, hk⟩)
    | (go_at_call 13; ((with_reducible refine (HBjc.out _ (by assumption)).mono ?_)); rintro e wk ⟨rfl, hk⟩)
    | (go_at_call 13; ((with_reducible refine (HBca.out _ (by assumption)).mono ?_)); rintro e wk ⟨rfl, hk⟩)
    | (go_at_call 13; ((with_reducible refine (HBcm.out _ (by assumption)).mono ?_)); rintro e wk ⟨rfl, hk⟩)
    | (go_at_call 15; ((with_reducible refine (HTA.out _ (by assumption)).mono ?_)); rintro e wk ⟨rfl, hk⟩)
    | (go_at_call 15; ((with_reducible refine (HTB.out _ (by assumption)).mono ?_)); rintro e wk ⟨rfl, hk⟩)
    | (go_at_call 7; refine (HW.out _ (by assumption)).mono ?_; rintro e wk ⟨rfl, hk⟩)
    | fail)
  go_ret
  exact ⟨by rfl, by assumption⟩

set_option maxRecDepth 100000 in
set_option maxHeartbeats 4000000 in
theorem holds_way1 (a b c j m : Nat) (r v eq : Bool) (w : World)
    (HBaa : Hid (∀ X, Below w.heap.size w X → Calls Tryd.prog 13 #[.int .u64 (a : Nat), .int .u64 (a : Nat)] X fun e w' => e = .returned (.bool true) ∧ Below w.heap.size w w'))
    (HBab : Hid (∀ X, Below w.heap.size w X → Calls Tryd.prog 13 #[.int .u64 (a : Nat), .int .u64 (b : Nat)] X fun e w' => e = .returned (.bool false) ∧ Below w.heap.size w w'))
    (HBac : Hid (∀ X, Below w.heap.size w X → Calls Tryd.prog 13 #[.int .u64 (a : Nat), .int .u64 (c : Nat)] X fun e w' => e = .returned (.bool false) ∧ Below w.heap.size w w'))
    (HBaj : Hid (∀ X, Below w.heap.size w X → Calls Tryd.prog 13 #[.int .u64 (a : Nat), .int .u64 (j : Nat)] X fun e w' => e = .returned (.bool true) ∧ Below w.heap.size w w'))
    (HBbj : Hid (∀ X, Below w.heap.size w X → Calls Tryd.prog 13 #[.int .u64 (b : Nat), .int .u64 (j : Nat)] X fun e w' => e = .returned (.bool true) ∧ Below w.heap.size w w'))
    (HBma : Hid (∀ X, Below w.heap.size w X → Calls Tryd.prog 13 #[.int .u64 (m : Nat), .int .u64 (a : Nat)] X fun e w' => e = .returned (.bool true) ∧ Below w.heap.size w w'))
    (HBmb : Hid (∀ X, Below w.heap.size w X → Calls Tryd.prog 13 #[.int .u64 (m : Nat), .int .u64 (b : Nat)] X fun e w' => e = .returned (.bool true) ∧ Below w.heap.size w w'))
    (HBjc : Hid (∀ X, Below w.heap.size w X → Calls Tryd.prog 13 #[.int .u64 (j : Nat), .int .u64 (c : Nat)] X fun e w' => e = .returned (.bool (false && r)) ∧ Below w.heap.size w w'))
    (HBca : Hid (∀ X, Below w.heap.size w X → Calls Tryd.prog 13 #[.int .u64 (c : Nat), .int .u64 (a : Nat)] X fun e w' => e = .returned (.bool true) ∧ Below w.heap.size w w'))
    (HBcb : Hid (∀ X, Below w.heap.size w X → Calls Tryd.prog 13 #[.int .u64 (c : Nat), .int .u64 (b : Nat)] X fun e w' => e = .returned (.bool v) ∧ Below w.heap.size w w'))
    (HBcm : Hid (∀ X, Below w.heap.size w X → Calls Tryd.prog 13 #[.int .u64 (c : Nat), .int .u64 (m : Nat)] X fun e w' => e = .returned (.bool (true && v)) ∧ Below w.heap.size w w'))
    (HJ : Hid (∀ X, Below w.heap.size w X → Calls Tryd.prog 11 #[.slice (some ⟨X.heap.size, 0, none⟩) 2 2] (X.alloc (.cells #[.int .u64 (a : Nat), .int .u64 (b : Nat)] 24)) fun e w' => e = .returned (.int .u64 (j : Nat)) ∧ Below w.heap.size w w'))
    (HM : Hid (∀ X, Below w.heap.size w X → Calls Tryd.prog 12 #[.slice (some ⟨X.heap.size, 0, none⟩) 2 2] (X.alloc (.cells #[.int .u64 (a : Nat), .int .u64 (b : Nat)] 24)) fun e w' => e = .returned (.int .u64 (m : Nat)) ∧ Below w.heap.size w w'))
    (HTA : Hid (∀ X, Below w.heap.size w X → Calls Tryd.prog 15 #[.int .u64 (a : Nat)] X fun e w' => e = .returned (.string ⟨(txL a).toArray⟩) ∧ Below w.heap.size w w'))
    (HTB : Hid (∀ X, Below w.heap.size w X → Calls Tryd.prog 15 #[.int .u64 (b : Nat)] X fun e w' => e = .returned (.string ⟨(txL b).toArray⟩) ∧ Below w.heap.size w w'))
    (HW : Hid (∀ X, Below w.heap.size w X → Calls Tryd.prog 7 #[] X fun e w' => e = .returned (.bool true) ∧ Below w.heap.size w w'))
    (he1 : ((a : Int) == (b : Int)) = eq) (he2 : (txL a == txL b) = eq) :
    Calls Tryd.prog 6 #[.int .u64 (a : Nat), .int .u64 (b : Nat), .int .u64 (c : Nat)] w fun e w' => e = .returned (.bool true) ∧ Below w.heap.size w w' := by
  have h0 : Below w.heap.size w w := Below.refl _ _
  go_enter Tryd.func6, Tryd.ntmps6
  go_wp2_with (first
    | (go_at_call 11; refine (HJ.out _ (by assumption)).mono ?_; rintro e wk ⟨rfl, hk⟩)
    | (go_at_call 12; refine (HM.out _ (by assumption)).mono ?_; rintro e wk ⟨rfl, hk⟩)
    | (go_at_call 13; ((with_reducible refine (HBaa.out _ (by assumption)).mono ?_)); rintro e wk ⟨rfl, hk⟩)
    | (go_at_call 13; ((with_reducible refine (HBab.out _ (by assumption)).mono ?_)); rintro e wk ⟨rfl, hk⟩)
    | (go_at_call 13; ((with_reducible refine (HBac.out _ (by assumption)).mono ?_)); rintro e wk ⟨rfl, hk⟩)
    | (go_at_call 13; ((with_reducible refine (HBaj.out _ (by assumption)).mono ?_)); rintro e wk ⟨rfl, hk⟩)
    | (go_at_call 13; ((with_reducible refine (HBbj.out _ (by assumption)).mono ?_)); rintro e wk ⟨rfl, hk⟩)
    | (go_at_call 13; ((with_reducible refine (HBma.out _ (by assumption)).mono ?_)); rintro e wk ⟨rfl, hk⟩)
    | (go_at_call 13; ((with_reducible refine (HBmb.out _ (by assumption)).mono ?_)); rintro e wk ⟨rfl, hk⟩)
    | (go_at_call 13; ((with_reducible refine (HBjc.out _ (by assumption)).mono ?_)); rintro e wk ⟨rfl, hk⟩)
    | (go_at_call 13; ((with_reducible refine (HBca.out _ (by assumption)).mono ?_)); rintro e wk ⟨rfl, hk⟩)
    | (go_at_call 13; ((with_reducible refine (HBcb.out _ (by assumption)).mono ?_)); rintro e wk ⟨rfl, hk⟩)
    | (go_at_call 13; ((with_reducible refine (HBcm.out _ (by assumption)).mono ?_)); rintro e wk ⟨rfl, hk⟩)
    | (go_at_call 15; ((with_reducible refine (HTA.out _ (by assumption)).mono ?_)); rintro e wk ⟨rfl, hk⟩)
    | (go_at_call 15; ((with_reducible refine (HTB.out _ (by assumption)).mono ?_)); rintro e wk ⟨rfl, hk⟩)
    | (go_at_call 7; refine (HW.out _ (by assumption)).mono ?_; rintro e wk ⟨rfl, hk⟩)
    | fail)
  go_ret
  exact ⟨by rfl, by assumption⟩

set_option maxRecDepth 100000 in
set_option maxHeartbeats 4000000 in
theorem holds_way2 (a b c j m : Nat) (r v eq : Bool) (w : World)
    (HBaa : Hid (∀ X, Below w.heap.size w X → Calls Tryd.prog 13 #[.int .u64 (a : Nat), .int .u64 (a : Nat)] X fun e w' => e = .returned (.bool true) ∧ Below w.heap.size w w'))
    (HBab : Hid (∀ X, Below w.heap.size w X → Calls Tryd.prog 13 #[.int .u64 (a : Nat), .int .u64 (b : Nat)] X fun e w' => e = .returned (.bool false) ∧ Below w.heap.size w w'))
    (HBbc : Hid (∀ X, Below w.heap.size w X → Calls Tryd.prog 13 #[.int .u64 (b : Nat), .int .u64 (c : Nat)] X fun e w' => e = .returned (.bool r) ∧ Below w.heap.size w w'))
    (HBac : Hid (∀ X, Below w.heap.size w X → Calls Tryd.prog 13 #[.int .u64 (a : Nat), .int .u64 (c : Nat)] X fun e w' => e = .returned (.bool true) ∧ Below w.heap.size w w'))
    (HBaj : Hid (∀ X, Below w.heap.size w X → Calls Tryd.prog 13 #[.int .u64 (a : Nat), .int .u64 (j : Nat)] X fun e w' => e = .returned (.bool true) ∧ Below w.heap.size w w'))
    (HBbj : Hid (∀ X, Below w.heap.size w X → Calls Tryd.prog 13 #[.int .u64 (b : Nat), .int .u64 (j : Nat)] X fun e w' => e = .returned (.bool true) ∧ Below w.heap.size w w'))
    (HBma : Hid (∀ X, Below w.heap.size w X → Calls Tryd.prog 13 #[.int .u64 (m : Nat), .int .u64 (a : Nat)] X fun e w' => e = .returned (.bool true) ∧ Below w.heap.size w w'))
    (HBmb : Hid (∀ X, Below w.heap.size w X → Calls Tryd.prog 13 #[.int .u64 (m : Nat), .int .u64 (b : Nat)] X fun e w' => e = .returned (.bool true) ∧ Below w.heap.size w w'))
    (HBjc : Hid (∀ X, Below w.heap.size w X → Calls Tryd.prog 13 #[.int .u64 (j : Nat), .int .u64 (c : Nat)] X fun e w' => e = .returned (.bool (true && r)) ∧ Below w.heap.size w w'))
    (HBca : Hid (∀ X, Below w.heap.size w X → Calls Tryd.prog 13 #[.int .u64 (c : Nat), .int .u64 (a : Nat)] X fun e w' => e = .returned (.bool false) ∧ Below w.heap.size w w'))
    (HBcm : Hid (∀ X, Below w.heap.size w X → Calls Tryd.prog 13 #[.int .u64 (c : Nat), .int .u64 (m : Nat)] X fun e w' => e = .returned (.bool (false && v)) ∧ Below w.heap.size w w'))
    (HJ : Hid (∀ X, Below w.heap.size w X → Calls Tryd.prog 11 #[.slice (some ⟨X.heap.size, 0, none⟩) 2 2] (X.alloc (.cells #[.int .u64 (a : Nat), .int .u64 (b : Nat)] 24)) fun e w' => e = .returned (.int .u64 (j : Nat)) ∧ Below w.heap.size w w'))
    (HM : Hid (∀ X, Below w.heap.size w X → Calls Tryd.prog 12 #[.slice (some ⟨X.heap.size, 0, none⟩) 2 2] (X.alloc (.cells #[.int .u64 (a : Nat), .int .u64 (b : Nat)] 24)) fun e w' => e = .returned (.int .u64 (m : Nat)) ∧ Below w.heap.size w w'))
    (HTA : Hid (∀ X, Below w.heap.size w X → Calls Tryd.prog 15 #[.int .u64 (a : Nat)] X fun e w' => e = .returned (.string ⟨(txL a).toArray⟩) ∧ Below w.heap.size w w'))
    (HTB : Hid (∀ X, Below w.heap.size w X → Calls Tryd.prog 15 #[.int .u64 (b : Nat)] X fun e w' => e = .returned (.string ⟨(txL b).toArray⟩) ∧ Below w.heap.size w w'))
    (HW : Hid (∀ X, Below w.heap.size w X → Calls Tryd.prog 7 #[] X fun e w' => e = .returned (.bool true) ∧ Below w.heap.size w w'))
    (he1 : ((a : Int) == (b : Int)) = eq) (he2 : (txL a == txL b) = eq) :
    Calls Tryd.prog 6 #[.int .u64 (a : Nat), .int .u64 (b : Nat), .int .u64 (c : Nat)] w fun e w' => e = .returned (.bool true) ∧ Below w.heap.size w w' := by
  have h0 : Below w.heap.size w w := Below.refl _ _
  go_enter Tryd.func6, Tryd.ntmps6
  go_wp2_with (first
    | (go_at_call 11; refine (HJ.out _ (by assumption)).mono ?_; rintro e wk ⟨rfl, hk⟩)
    | (go_at_call 12; refine (HM.out _ (by assumption)).mono ?_; rintro e wk ⟨rfl, hk⟩)
    | (go_at_call 13; ((with_reducible refine (HBaa.out _ (by assumption)).mono ?_)); rintro e wk ⟨rfl, hk⟩)
    | (go_at_call 13; ((with_reducible refine (HBab.out _ (by assumption)).mono ?_)); rintro e wk ⟨rfl, hk⟩)
    | (go_at_call 13; ((with_reducible refine (HBbc.out _ (by assumption)).mono ?_)); rintro e wk ⟨rfl, hk⟩)
    | (go_at_call 13; ((with_reducible refine (HBac.out _ (by assumption)).mono ?_)); rintro e wk ⟨rfl, hk⟩)
    | (go_at_call 13; ((with_reducible refine (HBaj.out _ (by assumption)).mono ?_)); rintro e wk ⟨rfl, hk⟩)
    | (go_at_call 13; ((with_reducible refine (HBbj.out _ (by assumption)).mono ?_)); rintro e wk ⟨rfl, hk⟩)
    | (go_at_call 13; ((with_reducible refine (HBma.out _ (by assumption)).mono ?_)); rintro e wk ⟨rfl, hk⟩)
    | (go_at_call 13; ((with_reducible refine (HBmb.out _ (by assumption)).mono ?_)); rintro e wk ⟨rfl, hk⟩)
    | (go_at_call 13; ((with_reducible refine (HBjc.out _ (by assumption)).mono ?_)); rintro e wk ⟨rfl, hk⟩)
    | (go_at_call 13; ((with_reducible refine (HBca.out _ (by assumption)).mono ?_)); rintro e wk ⟨rfl, hk⟩)
    | (go_at_call 13; ((with_reducible refine (HBcm.out _ (by assumption)).mono ?_)); rintro e wk ⟨rfl, hk⟩)
    | (go_at_call 15; ((with_reducible refine (HTA.out _ (by assumption)).mono ?_)); rintro e wk ⟨rfl, hk⟩)
    | (go_at_call 15; ((with_reducible refine (HTB.out _ (by assumption)).mono ?_)); rintro e wk ⟨rfl, hk⟩)
    | (go_at_call 7; refine (HW.out _ (by assumption)).mono ?_; rintro e wk ⟨rfl, hk⟩)
    | fail)
  go_ret
  exact ⟨by rfl, by assumption⟩

set_option maxRecDepth 100000 in
set_option maxHeartbeats 4000000 in
theorem holds_way3 (a b c j m : Nat) (r v eq : Bool) (w : World)
    (HBaa : Hid (∀ X, Below w.heap.size w X → Calls Tryd.prog 13 #[.int .u64 (a : Nat), .int .u64 (a : Nat)] X fun e w' => e = .returned (.bool true) ∧ Below w.heap.size w w'))
    (HBab : Hid (∀ X, Below w.heap.size w X → Calls Tryd.prog 13 #[.int .u64 (a : Nat), .int .u64 (b : Nat)] X fun e w' => e = .returned (.bool false) ∧ Below w.heap.size w w'))
    (HBbc : Hid (∀ X, Below w.heap.size w X → Calls Tryd.prog 13 #[.int .u64 (b : Nat), .int .u64 (c : Nat)] X fun e w' => e = .returned (.bool r) ∧ Below w.heap.size w w'))
    (HBac : Hid (∀ X, Below w.heap.size w X → Calls Tryd.prog 13 #[.int .u64 (a : Nat), .int .u64 (c : Nat)] X fun e w' => e = .returned (.bool true) ∧ Below w.heap.size w w'))
    (HBaj : Hid (∀ X, Below w.heap.size w X → Calls Tryd.prog 13 #[.int .u64 (a : Nat), .int .u64 (j : Nat)] X fun e w' => e = .returned (.bool true) ∧ Below w.heap.size w w'))
    (HBbj : Hid (∀ X, Below w.heap.size w X → Calls Tryd.prog 13 #[.int .u64 (b : Nat), .int .u64 (j : Nat)] X fun e w' => e = .returned (.bool true) ∧ Below w.heap.size w w'))
    (HBma : Hid (∀ X, Below w.heap.size w X → Calls Tryd.prog 13 #[.int .u64 (m : Nat), .int .u64 (a : Nat)] X fun e w' => e = .returned (.bool true) ∧ Below w.heap.size w w'))
    (HBmb : Hid (∀ X, Below w.heap.size w X → Calls Tryd.prog 13 #[.int .u64 (m : Nat), .int .u64 (b : Nat)] X fun e w' => e = .returned (.bool true) ∧ Below w.heap.size w w'))
    (HBjc : Hid (∀ X, Below w.heap.size w X → Calls Tryd.prog 13 #[.int .u64 (j : Nat), .int .u64 (c : Nat)] X fun e w' => e = .returned (.bool (true && r)) ∧ Below w.heap.size w w'))
    (HBca : Hid (∀ X, Below w.heap.size w X → Calls Tryd.prog 13 #[.int .u64 (c : Nat), .int .u64 (a : Nat)] X fun e w' => e = .returned (.bool true) ∧ Below w.heap.size w w'))
    (HBcb : Hid (∀ X, Below w.heap.size w X → Calls Tryd.prog 13 #[.int .u64 (c : Nat), .int .u64 (b : Nat)] X fun e w' => e = .returned (.bool v) ∧ Below w.heap.size w w'))
    (HBcm : Hid (∀ X, Below w.heap.size w X → Calls Tryd.prog 13 #[.int .u64 (c : Nat), .int .u64 (m : Nat)] X fun e w' => e = .returned (.bool (true && v)) ∧ Below w.heap.size w w'))
    (HJ : Hid (∀ X, Below w.heap.size w X → Calls Tryd.prog 11 #[.slice (some ⟨X.heap.size, 0, none⟩) 2 2] (X.alloc (.cells #[.int .u64 (a : Nat), .int .u64 (b : Nat)] 24)) fun e w' => e = .returned (.int .u64 (j : Nat)) ∧ Below w.heap.size w w'))
    (HM : Hid (∀ X, Below w.heap.size w X → Calls Tryd.prog 12 #[.slice (some ⟨X.heap.size, 0, none⟩) 2 2] (X.alloc (.cells #[.int .u64 (a : Nat), .int .u64 (b : Nat)] 24)) fun e w' => e = .returned (.int .u64 (m : Nat)) ∧ Below w.heap.size w w'))
    (HTA : Hid (∀ X, Below w.heap.size w X → Calls Tryd.prog 15 #[.int .u64 (a : Nat)] X fun e w' => e = .returned (.string ⟨(txL a).toArray⟩) ∧ Below w.heap.size w w'))
    (HTB : Hid (∀ X, Below w.heap.size w X → Calls Tryd.prog 15 #[.int .u64 (b : Nat)] X fun e w' => e = .returned (.string ⟨(txL b).toArray⟩) ∧ Below w.heap.size w w'))
    (HW : Hid (∀ X, Below w.heap.size w X → Calls Tryd.prog 7 #[] X fun e w' => e = .returned (.bool true) ∧ Below w.heap.size w w'))
    (he1 : ((a : Int) == (b : Int)) = eq) (he2 : (txL a == txL b) = eq) :
    Calls Tryd.prog 6 #[.int .u64 (a : Nat), .int .u64 (b : Nat), .int .u64 (c : Nat)] w fun e w' => e = .returned (.bool true) ∧ Below w.heap.size w w' := by
  have h0 : Below w.heap.size w w := Below.refl _ _
  go_enter Tryd.func6, Tryd.ntmps6
  go_wp2_with (first
    | (go_at_call 11; refine (HJ.out _ (by assumption)).mono ?_; rintro e wk ⟨rfl, hk⟩)
    | (go_at_call 12; refine (HM.out _ (by assumption)).mono ?_; rintro e wk ⟨rfl, hk⟩)
    | (go_at_call 13; ((with_reducible refine (HBaa.out _ (by assumption)).mono ?_)); rintro e wk ⟨rfl, hk⟩)
    | (go_at_call 13; ((with_reducible refine (HBab.out _ (by assumption)).mono ?_)); rintro e wk ⟨rfl, hk⟩)
    | (go_at_call 13; ((with_reducible refine (HBbc.out _ (by assumption)).mono ?_)); rintro e wk ⟨rfl, hk⟩)
    | (go_at_call 13; ((with_reducible refine (HBac.out _ (by assumption)).mono ?_)); rintro e wk ⟨rfl, hk⟩)
    | (go_at_call 13; ((with_reducible refine (HBaj.out _ (by assumption)).mono ?_)); rintro e wk ⟨rfl, hk⟩)
    | (go_at_call 13; ((with_reducible refine (HBbj.out _ (by assumption)).mono ?_)); rintro e wk ⟨rfl, hk⟩)
    | (go_at_call 13; ((with_reducible refine (HBma.out _ (by assumption)).mono ?_)); rintro e wk ⟨rfl, hk⟩)
    | (go_at_call 13; ((with_reducible refine (HBmb.out _ (by assumption)).mono ?_)); rintro e wk ⟨rfl, hk⟩)
    | (go_at_call 13; ((with_reducible refine (HBjc.out _ (by assumption)).mono ?_)); rintro e wk ⟨rfl, hk⟩)
    | (go_at_call 13; ((with_reducible refine (HBca.out _ (by assumption)).mono ?_)); rintro e wk ⟨rfl, hk⟩)
    | (go_at_call 13; ((with_reducible refine (HBcb.out _ (by assumption)).mono ?_)); rintro e wk ⟨rfl, hk⟩)
    | (go_at_call 13; ((with_reducible refine (HBcm.out _ (by assumption)).mono ?_)); rintro e wk ⟨rfl, hk⟩)
    | (go_at_call 15; ((with_reducible refine (HTA.out _ (by assumption)).mono ?_)); rintro e wk ⟨rfl, hk⟩)
    | (go_at_call 15; ((with_reducible refine (HTB.out _ (by assumption)).mono ?_)); rintro e wk ⟨rfl, hk⟩)
    | (go_at_call 7; refine (HW.out _ (by assumption)).mono ?_; rintro e wk ⟨rfl, hk⟩)
    | fail)
  go_ret
  exact ⟨by rfl, by assumption⟩

set_option maxRecDepth 100000 in
set_option maxHeartbeats 4000000 in
theorem holds_way4 (a b c j m : Nat) (v eq : Bool) (w : World)
    (HBaa : Hid (∀ X, Below w.heap.size w X → Calls Tryd.prog 13 #[.int .u64 (a : Nat), .int .u64 (a : Nat)] X fun e w' => e = .returned (.bool true) ∧ Below w.heap.size w w'))
    (HBab : Hid (∀ X, Below w.heap.size w X → Calls Tryd.prog 13 #[.int .u64 (a : Nat), .int .u64 (b : Nat)] X fun e w' => e = .returned (.bool true) ∧ Below w.heap.size w w'))
    (HBba : Hid (∀ X, Below w.heap.size w X → Calls Tryd.prog 13 #[.int .u64 (b : Nat), .int .u64 (a : Nat)] X fun e w' => e = .returned (.bool eq) ∧ Below w.heap.size w w'))
    (HBbc : Hid (∀ X, Below w.heap.size w X → Calls Tryd.prog 13 #[.int .u64 (b : Nat), .int .u64 (c : Nat)] X fun e w' => e = .returned (.bool false) ∧ Below w.heap.size w w'))
    (HBac : Hid (∀ X, Below w.heap.size w X → Calls Tryd.prog 13 #[.int .u64 (a : Nat), .int .u64 (c : Nat)] X fun e w' => e = .returned (.bool false) ∧ Below w.heap.size w w'))
    (HBaj : Hid (∀ X, Below w.heap.size w X → Calls Tryd.prog 13 #[.int .u64 (a : Nat), .int .u64 (j : Nat)] X fun e w' => e = .returned (.bool true) ∧ Below w.heap.size w w'))
    (HBbj : Hid (∀ X, Below w.heap.size w X → Calls Tryd.prog 13 #[.int .u64 (b : Nat), .int .u64 (j : Nat)] X fun e w' => e = .returned (.bool true) ∧ Below w.heap.size w w'))
    (HBma : Hid (∀ X, Below w.heap.size w X → Calls Tryd.prog 13 #[.int .u64 (m : Nat), .int .u64 (a : Nat)] X fun e w' => e = .returned (.bool true) ∧ Below w.heap.size w w'))
    (HBmb : Hid (∀ X, Below w.heap.size w X → Calls Tryd.prog 13 #[.int .u64 (m : Nat), .int .u64 (b : Nat)] X fun e w' => e = .returned (.bool true) ∧ Below w.heap.size w w'))
    (HBjc : Hid (∀ X, Below w.heap.size w X → Calls Tryd.prog 13 #[.int .u64 (j : Nat), .int .u64 (c : Nat)] X fun e w' => e = .returned (.bool (false && false)) ∧ Below w.heap.size w w'))
    (HBca : Hid (∀ X, Below w.heap.size w X → Calls Tryd.prog 13 #[.int .u64 (c : Nat), .int .u64 (a : Nat)] X fun e w' => e = .returned (.bool false) ∧ Below w.heap.size w w'))
    (HBcm : Hid (∀ X, Below w.heap.size w X → Calls Tryd.prog 13 #[.int .u64 (c : Nat), .int .u64 (m : Nat)] X fun e w' => e = .returned (.bool (false && v)) ∧ Below w.heap.size w w'))
    (HJ : Hid (∀ X, Below w.heap.size w X → Calls Tryd.prog 11 #[.slice (some ⟨X.heap.size, 0, none⟩) 2 2] (X.alloc (.cells #[.int .u64 (a : Nat), .int .u64 (b : Nat)] 24)) fun e w' => e = .returned (.int .u64 (j : Nat)) ∧ Below w.heap.size w w'))
    (HM : Hid (∀ X, Below w.heap.size w X → Calls Tryd.prog 12 #[.slice (some ⟨X.heap.size, 0, none⟩) 2 2] (X.alloc (.cells #[.int .u64 (a : Nat), .int .u64 (b : Nat)] 24)) fun e w' => e = .returned (.int .u64 (m : Nat)) ∧ Below w.heap.size w w'))
    (HTA : Hid (∀ X, Below w.heap.size w X → Calls Tryd.prog 15 #[.int .u64 (a : Nat)] X fun e w' => e = .returned (.string ⟨(txL a).toArray⟩) ∧ Below w.heap.size w w'))
    (HTB : Hid (∀ X, Below w.heap.size w X → Calls Tryd.prog 15 #[.int .u64 (b : Nat)] X fun e w' => e = .returned (.string ⟨(txL b).toArray⟩) ∧ Below w.heap.size w w'))
    (HW : Hid (∀ X, Below w.heap.size w X → Calls Tryd.prog 7 #[] X fun e w' => e = .returned (.bool true) ∧ Below w.heap.size w w'))
    (he1 : ((a : Int) == (b : Int)) = eq) (he2 : (txL a == txL b) = eq) :
    Calls Tryd.prog 6 #[.int .u64 (a : Nat), .int .u64 (b : Nat), .int .u64 (c : Nat)] w fun e w' => e = .returned (.bool true) ∧ Below w.heap.size w w' := by
  have h0 : Below w.heap.size w w := Below.refl _ _
  go_enter Tryd.func6, Tryd.ntmps6
  go_wp2_with (first
    | (go_at_call 11; refine (HJ.out _ (by assumption)).mono ?_; rintro e wk ⟨rfl, hk⟩)
    | (go_at_call 12; refine (HM.out _ (by assumption)).mono ?_; rintro e wk ⟨rfl, hk⟩)
    | (go_at_call 13; ((with_reducible refine (HBaa.out _ (by assumption)).mono ?_)); rintro e wk ⟨rfl, hk⟩)
    | (go_at_call 13; ((with_reducible refine (HBab.out _ (by assumption)).mono ?_)); rintro e wk ⟨rfl, hk⟩)
    | (go_at_call 13; ((with_reducible refine (HBba.out _ (by assumption)).mono ?_)); rintro e wk ⟨rfl, hk⟩)
    | (go_at_call 13; ((with_reducible refine (HBbc.out _ (by assumption)).mono ?_)); rintro e wk ⟨rfl, hk⟩)
    | (go_at_call 13; ((with_reducible refine (HBac.out _ (by assumption)).mono ?_)); rintro e wk ⟨rfl, hk⟩)
    | (go_at_call 13; ((with_reducible refine (HBaj.out _ (by assumption)).mono ?_)); rintro e wk ⟨rfl, hk⟩)
    | (go_at_call 13; ((with_reducible refine (HBbj.out _ (by assumption)).mono ?_)); rintro e wk ⟨rfl, hk⟩)
    | (go_at_call 13; ((with_reducible refine (HBma.out _ (by assumption)).mono ?_)); rintro e wk ⟨rfl, hk⟩)
    | (go_at_call 13; ((with_reducible refine (HBmb.out _ (by assumption)).mono ?_)); rintro e wk ⟨rfl, hk⟩)
    | (go_at_call 13; ((with_reducible refine (HBjc.out _ (by assumption)).mono ?_)); rintro e wk ⟨rfl, hk⟩)
    | (go_at_call 13; ((with_reducible refine (HBca.out _ (by assumption)).mono ?_)); rintro e wk ⟨rfl, hk⟩)
    | (go_at_call 13; ((with_reducible refine (HBcm.out _ (by assumption)).mono ?_)); rintro e wk ⟨rfl, hk⟩)
    | (go_at_call 15; ((with_reducible refine (HTA.out _ (by assumption)).mono ?_)); rintro e wk ⟨rfl, hk⟩)
    | (go_at_call 15; ((with_reducible refine (HTB.out _ (by assumption)).mono ?_)); rintro e wk ⟨rfl, hk⟩)
    | (go_at_call 7; refine (HW.out _ (by assumption)).mono ?_; rintro e wk ⟨rfl, hk⟩)
    | fail)
  go_ret
  exact ⟨by rfl, by assumption⟩

set_option maxRecDepth 100000 in
set_option maxHeartbeats 4000000 in
theorem holds_way5 (a b c j m : Nat) (v eq : Bool) (w : World)
    (HBaa : Hid (∀ X, Below w.heap.size w X → Calls Tryd.prog 13 #[.int .u64 (a : Nat), .int .u64 (a : Nat)] X fun e w' => e = .returned (.bool true) ∧ Below w.heap.size w w'))
    (HBab : Hid (∀ X, Below w.heap.size w X → Calls Tryd.prog 13 #[.int .u64 (a : Nat), .int .u64 (b : Nat)] X fun e w' => e = .returned (.bool true) ∧ Below w.heap.size w w'))
    (HBba : Hid (∀ X, Below w.heap.size w X → Calls Tryd.prog 13 #[.int .u64 (b : Nat), .int .u64 (a : Nat)] X fun e w' => e = .returned (.bool eq) ∧ Below w.heap.size w w'))
    (HBbc : Hid (∀ X, Below w.heap.size w X → Calls Tryd.prog 13 #[.int .u64 (b : Nat), .int .u64 (c : Nat)] X fun e w' => e = .returned (.bool false) ∧ Below w.heap.size w w'))
    (HBac : Hid (∀ X, Below w.heap.size w X → Calls Tryd.prog 13 #[.int .u64 (a : Nat), .int .u64 (c : Nat)] X fun e w' => e = .returned (.bool false) ∧ Below w.heap.size w w'))
    (HBaj : Hid (∀ X, Below w.heap.size w X → Calls Tryd.prog 13 #[.int .u64 (a : Nat), .int .u64 (j : Nat)] X fun e w' => e = .returned (.bool true) ∧ Below w.heap.size w w'))
    (HBbj : Hid (∀ X, Below w.heap.size w X → Calls Tryd.prog 13 #[.int .u64 (b : Nat), .int .u64 (j : Nat)] X fun e w' => e = .returned (.bool true) ∧ Below w.heap.size w w'))
    (HBma : Hid (∀ X, Below w.heap.size w X → Calls Tryd.prog 13 #[.int .u64 (m : Nat), .int .u64 (a : Nat)] X fun e w' => e = .returned (.bool true) ∧ Below w.heap.size w w'))
    (HBmb : Hid (∀ X, Below w.heap.size w X → Calls Tryd.prog 13 #[.int .u64 (m : Nat), .int .u64 (b : Nat)] X fun e w' => e = .returned (.bool true) ∧ Below w.heap.size w w'))
    (HBjc : Hid (∀ X, Below w.heap.size w X → Calls Tryd.prog 13 #[.int .u64 (j : Nat), .int .u64 (c : Nat)] X fun e w' => e = .returned (.bool (false && false)) ∧ Below w.heap.size w w'))
    (HBca : Hid (∀ X, Below w.heap.size w X → Calls Tryd.prog 13 #[.int .u64 (c : Nat), .int .u64 (a : Nat)] X fun e w' => e = .returned (.bool true) ∧ Below w.heap.size w w'))
    (HBcb : Hid (∀ X, Below w.heap.size w X → Calls Tryd.prog 13 #[.int .u64 (c : Nat), .int .u64 (b : Nat)] X fun e w' => e = .returned (.bool v) ∧ Below w.heap.size w w'))
    (HBcm : Hid (∀ X, Below w.heap.size w X → Calls Tryd.prog 13 #[.int .u64 (c : Nat), .int .u64 (m : Nat)] X fun e w' => e = .returned (.bool (true && v)) ∧ Below w.heap.size w w'))
    (HJ : Hid (∀ X, Below w.heap.size w X → Calls Tryd.prog 11 #[.slice (some ⟨X.heap.size, 0, none⟩) 2 2] (X.alloc (.cells #[.int .u64 (a : Nat), .int .u64 (b : Nat)] 24)) fun e w' => e = .returned (.int .u64 (j : Nat)) ∧ Below w.heap.size w w'))
    (HM : Hid (∀ X, Below w.heap.size w X → Calls Tryd.prog 12 #[.slice (some ⟨X.heap.size, 0, none⟩) 2 2] (X.alloc (.cells #[.int .u64 (a : Nat), .int .u64 (b : Nat)] 24)) fun e w' => e = .returned (.int .u64 (m : Nat)) ∧ Below w.heap.size w w'))
    (HTA : Hid (∀ X, Below w.heap.size w X → Calls Tryd.prog 15 #[.int .u64 (a : Nat)] X fun e w' => e = .returned (.string ⟨(txL a).toArray⟩) ∧ Below w.heap.size w w'))
    (HTB : Hid (∀ X, Below w.heap.size w X → Calls Tryd.prog 15 #[.int .u64 (b : Nat)] X fun e w' => e = .returned (.string ⟨(txL b).toArray⟩) ∧ Below w.heap.size w w'))
    (HW : Hid (∀ X, Below w.heap.size w X → Calls Tryd.prog 7 #[] X fun e w' => e = .returned (.bool true) ∧ Below w.heap.size w w'))
    (he1 : ((a : Int) == (b : Int)) = eq) (he2 : (txL a == txL b) = eq) :
    Calls Tryd.prog 6 #[.int .u64 (a : Nat), .int .u64 (b : Nat), .int .u64 (c : Nat)] w fun e w' => e = .returned (.bool true) ∧ Below w.heap.size w w' := by
  have h0 : Below w.heap.size w w := Below.refl _ _
  go_enter Tryd.func6, Tryd.ntmps6
  go_wp2_with (first
    | (go_at_call 11; refine (HJ.out _ (by assumption)).mono ?_; rintro e wk ⟨rfl, hk⟩)
    | (go_at_call 12; refine (HM.out _ (by assumption)).mono ?_; rintro e wk ⟨rfl, hk⟩)
    | (go_at_call 13; ((with_reducible refine (HBaa.out _ (by assumption)).mono ?_)); rintro e wk ⟨rfl, hk⟩)
    | (go_at_call 13; ((with_reducible refine (HBab.out _ (by assumption)).mono ?_)); rintro e wk ⟨rfl, hk⟩)
    | (go_at_call 13; ((with_reducible refine (HBba.out _ (by assumption)).mono ?_)); rintro e wk ⟨rfl, hk⟩)
    | (go_at_call 13; ((with_reducible refine (HBbc.out _ (by assumption)).mono ?_)); rintro e wk ⟨rfl, hk⟩)
    | (go_at_call 13; ((with_reducible refine (HBac.out _ (by assumption)).mono ?_)); rintro e wk ⟨rfl, hk⟩)
    | (go_at_call 13; ((with_reducible refine (HBaj.out _ (by assumption)).mono ?_)); rintro e wk ⟨rfl, hk⟩)
    | (go_at_call 13; ((with_reducible refine (HBbj.out _ (by assumption)).mono ?_)); rintro e wk ⟨rfl, hk⟩)
    | (go_at_call 13; ((with_reducible refine (HBma.out _ (by assumption)).mono ?_)); rintro e wk ⟨rfl, hk⟩)
    | (go_at_call 13; ((with_reducible refine (HBmb.out _ (by assumption)).mono ?_)); rintro e wk ⟨rfl, hk⟩)
    | (go_at_call 13; ((with_reducible refine (HBjc.out _ (by assumption)).mono ?_)); rintro e wk ⟨rfl, hk⟩)
    | (go_at_call 13; ((with_reducible refine (HBca.out _ (by assumption)).mono ?_)); rintro e wk ⟨rfl, hk⟩)
    | (go_at_call 13; ((with_reducible refine (HBcb.out _ (by assumption)).mono ?_)); rintro e wk ⟨rfl, hk⟩)
    | (go_at_call 13; ((with_reducible refine (HBcm.out _ (by assumption)).mono ?_)); rintro e wk ⟨rfl, hk⟩)
    | (go_at_call 15; ((with_reducible refine (HTA.out _ (by assumption)).mono ?_)); rintro e wk ⟨rfl, hk⟩)
    | (go_at_call 15; ((with_reducible refine (HTB.out _ (by assumption)).mono ?_)); rintro e wk ⟨rfl, hk⟩)
    | (go_at_call 7; refine (HW.out _ (by assumption)).mono ?_; rintro e wk ⟨rfl, hk⟩)
    | fail)
  go_ret
  exact ⟨by rfl, by assumption⟩

set_option maxRecDepth 100000 in
set_option maxHeartbeats 4000000 in
theorem holds_way6 (a b c j m : Nat) (v eq : Bool) (w : World)
    (HBaa : Hid (∀ X, Below w.heap.size w X → Calls Tryd.prog 13 #[.int .u64 (a : Nat), .int .u64 (a : Nat)] X fun e w' => e = .returned (.bool true) ∧ Below w.heap.size w w'))
    (HBab : Hid (∀ X, Below w.heap.size w X → Calls Tryd.prog 13 #[.int .u64 (a : Nat), .int .u64 (b : Nat)] X fun e w' => e = .returned (.bool true) ∧ Below w.heap.size w w'))
    (HBba : Hid (∀ X, Below w.heap.size w X → Calls Tryd.prog 13 #[.int .u64 (b : Nat), .int .u64 (a : Nat)] X fun e w' => e = .returned (.bool eq) ∧ Below w.heap.size w w'))
    (HBbc : Hid (∀ X, Below w.heap.size w X → Calls Tryd.prog 13 #[.int .u64 (b : Nat), .int .u64 (c : Nat)] X fun e w' => e = .returned (.bool false) ∧ Below w.heap.size w w'))
    (HBac : Hid (∀ X, Below w.heap.size w X → Calls Tryd.prog 13 #[.int .u64 (a : Nat), .int .u64 (c : Nat)] X fun e w' => e = .returned (.bool true) ∧ Below w.heap.size w w'))
    (HBaj : Hid (∀ X, Below w.heap.size w X → Calls Tryd.prog 13 #[.int .u64 (a : Nat), .int .u64 (j : Nat)] X fun e w' => e = .returned (.bool true) ∧ Below w.heap.size w w'))
    (HBbj : Hid (∀ X, Below w.heap.size w X → Calls Tryd.prog 13 #[.int .u64 (b : Nat), .int .u64 (j : Nat)] X fun e w' => e = .returned (.bool true) ∧ Below w.heap.size w w'))
    (HBma : Hid (∀ X, Below w.heap.size w X → Calls Tryd.prog 13 #[.int .u64 (m : Nat), .int .u64 (a : Nat)] X fun e w' => e = .returned (.bool true) ∧ Below w.heap.size w w'))
    (HBmb : Hid (∀ X, Below w.heap.size w X → Calls Tryd.prog 13 #[.int .u64 (m : Nat), .int .u64 (b : Nat)] X fun e w' => e = .returned (.bool true) ∧ Below w.heap.size w w'))
    (HBjc : Hid (∀ X, Below w.heap.size w X → Calls Tryd.prog 13 #[.int .u64 (j : Nat), .int .u64 (c : Nat)] X fun e w' => e = .returned (.bool (true && false)) ∧ Below w.heap.size w w'))
    (HBca : Hid (∀ X, Below w.heap.size w X → Calls Tryd.prog 13 #[.int .u64 (c : Nat), .int .u64 (a : Nat)] X fun e w' => e = .returned (.bool false) ∧ Below w.heap.size w w'))
    (HBcm : Hid (∀ X, Below w.heap.size w X → Calls Tryd.prog 13 #[.int .u64 (c : Nat), .int .u64 (m : Nat)] X fun e w' => e = .returned (.bool (false && v)) ∧ Below w.heap.size w w'))
    (HJ : Hid (∀ X, Below w.heap.size w X → Calls Tryd.prog 11 #[.slice (some ⟨X.heap.size, 0, none⟩) 2 2] (X.alloc (.cells #[.int .u64 (a : Nat), .int .u64 (b : Nat)] 24)) fun e w' => e = .returned (.int .u64 (j : Nat)) ∧ Below w.heap.size w w'))
    (HM : Hid (∀ X, Below w.heap.size w X → Calls Tryd.prog 12 #[.slice (some ⟨X.heap.size, 0, none⟩) 2 2] (X.alloc (.cells #[.int .u64 (a : Nat), .int .u64 (b : Nat)] 24)) fun e w' => e = .returned (.int .u64 (m : Nat)) ∧ Below w.heap.size w w'))
    (HTA : Hid (∀ X, Below w.heap.size w X → Calls Tryd.prog 15 #[.int .u64 (a : Nat)] X fun e w' => e = .returned (.string ⟨(txL a).toArray⟩) ∧ Below w.heap.size w w'))
    (HTB : Hid (∀ X, Below w.heap.size w X → Calls Tryd.prog 15 #[.int .u64 (b : Nat)] X fun e w' => e = .returned (.string ⟨(txL b).toArray⟩) ∧ Below w.heap.size w w'))
    (HW : Hid (∀ X, Below w.heap.size w X → Calls Tryd.prog 7 #[] X fun e w' => e = .returned (.bool true) ∧ Below w.heap.size w w'))
    (he1 : ((a : Int) == (b : Int)) = eq) (he2 : (txL a == txL b) = eq) :
    Calls Tryd.prog 6 #[.int .u64 (a : Nat), .int .u64 (b : Nat), .int .u64 (c : Nat)] w fun e w' => e = .returned (.bool true) ∧ Below w.heap.size w w' := by
  have h0 : Below w.heap.size w w := Below.refl _ _
  go_enter Tryd.func6, Tryd.ntmps6
  go_wp2_with (first
    | (go_at_call 11; refine (HJ.out _ (by assumption)).mono ?_; rintro e wk ⟨rfl, hk⟩)
    | (go_at_call 12; refine (HM.out _ (by assumption)).mono ?_; rintro e wk ⟨rfl, hk⟩)
    | (go_at_call 13; ((with_reducible refine (HBaa.out _ (by assumption)).mono ?_)); rintro e wk ⟨rfl, hk⟩)
    | (go_at_call 13; ((with_reducible refine (HBab.out _ (by assumption)).mono ?_)); rintro e wk ⟨rfl, hk⟩)
    | (go_at_call 13; ((with_reducible refine (HBba.out _ (by assumption)).mono ?_)); rintro e wk ⟨rfl, hk⟩)
    | (go_at_call 13; ((with_reducible refine (HBbc.out _ (by assumption)).mono ?_)); rintro e wk ⟨rfl, hk⟩)
    | (go_at_call 13; ((with_reducible refine (HBac.out _ (by assumption)).mono ?_)); rintro e wk ⟨rfl, hk⟩)
    | (go_at_call 13; ((with_reducible refine (HBaj.out _ (by assumption)).mono ?_)); rintro e wk ⟨rfl, hk⟩)
    | (go_at_call 13; ((with_reducible refine (HBbj.out _ (by assumption)).mono ?_)); rintro e wk ⟨rfl, hk⟩)
    | (go_at_call 13; ((with_reducible refine (HBma.out _ (by assumption)).mono ?_)); rintro e wk ⟨rfl, hk⟩)
    | (go_at_call 13; ((with_reducible refine (HBmb.out _ (by assumption)).mono ?_)); rintro e wk ⟨rfl, hk⟩)
    | (go_at_call 13; ((with_reducible refine (HBjc.out _ (by assumption)).mono ?_)); rintro e wk ⟨rfl, hk⟩)
    | (go_at_call 13; ((with_reducible refine (HBca.out _ (by assumption)).mono ?_)); rintro e wk ⟨rfl, hk⟩)
    | (go_at_call 13; ((with_reducible refine (HBcm.out _ (by assumption)).mono ?_)); rintro e wk ⟨rfl, hk⟩)
    | (go_at_call 15; ((with_reducible refine (HTA.out _ (by assumption)).mono ?_)); rintro e wk ⟨rfl, hk⟩)
    | (go_at_call 15; ((with_reducible refine (HTB.out _ (by assumption)).mono ?_)); rintro e wk ⟨rfl, hk⟩)
    | (go_at_call 7; refine (HW.out _ (by assumption)).mono ?_; rintro e wk ⟨rfl, hk⟩)
    | fail)
  go_ret
  exact ⟨by rfl, by assumption⟩

set_option maxRecDepth 100000 in
set_option maxHeartbeats 4000000 in
theorem holds_way7 (a b c j m : Nat) (v eq : Bool) (w : World)
    (HBaa : Hid (∀ X, Below w.heap.size w X → Calls Tryd.prog 13 #[.int .u64 (a : Nat), .int .u64 (a : Nat)] X fun e w' => e = .returned (.bool true) ∧ Below w.heap.size w w'))
    (HBab : Hid (∀ X, Below w.heap.size w X → Calls Tryd.prog 13 #[.int .u64 (a : Nat), .int .u64 (b : Nat)] X fun e w' => e = .returned (.bool true) ∧ Below w.heap.size w w'))
    (HBba : Hid (∀ X, Below w.heap.size w X → Calls Tryd.prog 13 #[.int .u64 (b : Nat), .int .u64 (a : Nat)] X fun e w' => e = .returned (.bool eq) ∧ Below w.heap.size w w'))
    (HBbc : Hid (∀ X, Below w.heap.size w X → Calls Tryd.prog 13 #[.int .u64 (b : Nat), .int .u64 (c : Nat)] X fun e w' => e = .returned (.bool false) ∧ Below w.heap.size w w'))
    (HBac : Hid (∀ X, Below w.heap.size w X → Calls Tryd.prog 13 #[.int .u64 (a : Nat), .int .u64 (c : Nat)] X fun e w' => e = .returned (.bool true) ∧ Below w.heap.size w w'))
    (HBaj : Hid (∀ X, Below w.heap.size w X → Calls Tryd.prog 13 #[.int .u64 (a : Nat), .int .u64 (j : Nat)] X fun e w' => e = .returned (.bool true) ∧ Below w.heap.size w w'))
    (HBbj : Hid (∀ X, Below w.heap.size w X → Calls Tryd.prog 13 #[.int .u64 (b : Nat), .int .u64 (j : Nat)] X fun e w' => e = .returned (.bool true) ∧ Below w.heap.size w w'))
    (HBma : Hid (∀ X, Below w.heap.size w X → Calls Tryd.prog 13 #[.int .u64 (m : Nat), .int .u64 (a : Nat)] X fun e w' => e = .returned (.bool true) ∧ Below w.heap.size w w'))
    (HBmb : Hid (∀ X, Below w.heap.size w X → Calls Tryd.prog 13 #[.int .u64 (m : Nat), .int .u64 (b : Nat)] X fun e w' => e = .returned (.bool true) ∧ Below w.heap.size w w'))
    (HBjc : Hid (∀ X, Below w.heap.size w X → Calls Tryd.prog 13 #[.int .u64 (j : Nat), .int .u64 (c : Nat)] X fun e w' => e = .returned (.bool (true && false)) ∧ Below w.heap.size w w'))
    (HBca : Hid (∀ X, Below w.heap.size w X → Calls Tryd.prog 13 #[.int .u64 (c : Nat), .int .u64 (a : Nat)] X fun e w' => e = .returned (.bool true) ∧ Below w.heap.size w w'))
    (HBcb : Hid (∀ X, Below w.heap.size w X → Calls Tryd.prog 13 #[.int .u64 (c : Nat), .int .u64 (b : Nat)] X fun e w' => e = .returned (.bool v) ∧ Below w.heap.size w w'))
    (HBcm : Hid (∀ X, Below w.heap.size w X → Calls Tryd.prog 13 #[.int .u64 (c : Nat), .int .u64 (m : Nat)] X fun e w' => e = .returned (.bool (true && v)) ∧ Below w.heap.size w w'))
    (HJ : Hid (∀ X, Below w.heap.size w X → Calls Tryd.prog 11 #[.slice (some ⟨X.heap.size, 0, none⟩) 2 2] (X.alloc (.cells #[.int .u64 (a : Nat), .int .u64 (b : Nat)] 24)) fun e w' => e = .returned (.int .u64 (j : Nat)) ∧ Below w.heap.size w w'))
    (HM : Hid (∀ X, Below w.heap.size w X → Calls Tryd.prog 12 #[.slice (some ⟨X.heap.size, 0, none⟩) 2 2] (X.alloc (.cells #[.int .u64 (a : Nat), .int .u64 (b : Nat)] 24)) fun e w' => e = .returned (.int .u64 (m : Nat)) ∧ Below w.heap.size w w'))
    (HTA : Hid (∀ X, Below w.heap.size w X → Calls Tryd.prog 15 #[.int .u64 (a : Nat)] X fun e w' => e = .returned (.string ⟨(txL a).toArray⟩) ∧ Below w.heap.size w w'))
    (HTB : Hid (∀ X, Below w.heap.size w X → Calls Tryd.prog 15 #[.int .u64 (b : Nat)] X fun e w' => e = .returned (.string ⟨(txL b).toArray⟩) ∧ Below w.heap.size w w'))
    (HW : Hid (∀ X, Below w.heap.size w X → Calls Tryd.prog 7 #[] X fun e w' => e = .returned (.bool true) ∧ Below w.heap.size w w'))
    (he1 : ((a : Int) == (b : Int)) = eq) (he2 : (txL a == txL b) = eq) :
    Calls Tryd.prog 6 #[.int .u64 (a : Nat), .int .u64 (b : Nat), .int .u64 (c : Nat)] w fun e w' => e = .returned (.bool true) ∧ Below w.heap.size w w' := by
  have h0 : Below w.heap.size w w := Below.refl _ _
  go_enter Tryd.func6, Tryd.ntmps6
  go_wp2_with (first
    | (go_at_call 11; refine (HJ.out _ (by assumption)).mono ?_; rintro e wk ⟨rfl, hk⟩)
    | (go_at_call 12; refine (HM.out _ (by assumption)).mono ?_; rintro e wk ⟨rfl, hk⟩)
    | (go_at_call 13; ((with_reducible refine (HBaa.out _ (by assumption)).mono ?_)); rintro e wk ⟨rfl, hk⟩)
    | (go_at_call 13; ((with_reducible refine (HBab.out _ (by assumption)).mono ?_)); rintro e wk ⟨rfl, hk⟩)
    | (go_at_call 13; ((with_reducible refine (HBba.out _ (by assumption)).mono ?_)); rintro e wk ⟨rfl, hk⟩)
    | (go_at_call 13; ((with_reducible refine (HBbc.out _ (by assumption)).mono ?_)); rintro e wk ⟨rfl, hk⟩)
    | (go_at_call 13; ((with_reducible refine (HBac.out _ (by assumption)).mono ?_)); rintro e wk ⟨rfl, hk⟩)
    | (go_at_call 13; ((with_reducible refine (HBaj.out _ (by assumption)).mono ?_)); rintro e wk ⟨rfl, hk⟩)
    | (go_at_call 13; ((with_reducible refine (HBbj.out _ (by assumption)).mono ?_)); rintro e wk ⟨rfl, hk⟩)
    | (go_at_call 13; ((with_reducible refine (HBma.out _ (by assumption)).mono ?_)); rintro e wk ⟨rfl, hk⟩)
    | (go_at_call 13; ((with_reducible refine (HBmb.out _ (by assumption)).mono ?_)); rintro e wk ⟨rfl, hk⟩)
    | (go_at_call 13; ((with_reducible refine (HBjc.out _ (by assumption)).mono ?_)); rintro e wk ⟨rfl, hk⟩)
    | (go_at_call 13; ((with_reducible refine (HBca.out _ (by assumption)).mono ?_)); rintro e wk ⟨rfl, hk⟩)
    | (go_at_call 13; ((with_reducible refine (HBcb.out _ (by assumption)).mono ?_)); rintro e wk ⟨rfl, hk⟩)
    | (go_at_call 13; ((with_reducible refine (HBcm.out _ (by assumption)).mono ?_)); rintro e wk ⟨rfl, hk⟩)
    | (go_at_call 15; ((with_reducible refine (HTA.out _ (by assumption)).mono ?_)); rintro e wk ⟨rfl, hk⟩)
    | (go_at_call 15; ((with_reducible refine (HTB.out _ (by assumption)).mono ?_)); rintro e wk ⟨rfl, hk⟩)
    | (go_at_call 7; refine (HW.out _ (by assumption)).mono ?_; rintro e wk ⟨rfl, hk⟩)
    | fail)
  go_ret
  exact ⟨by rfl, by assumption⟩

set_option maxRecDepth 100000 in
set_option maxHeartbeats 4000000 in
theorem holds_way8 (a b c j m : Nat) (v eq : Bool) (w : World)
    (HBaa : Hid (∀ X, Below w.heap.size w X → Calls Tryd.prog 13 #[.int .u64 (a : Nat), .int .u64 (a : Nat)] X fun e w' => e = .returned (.bool true) ∧ Below w.heap.size w w'))
    (HBab : Hid (∀ X, Below w.heap.size w X → Calls Tryd.prog 13 #[.int .u64 (a : Nat), .int .u64 (b : Nat)] X fun e w' => e = .returned (.bool true) ∧ Below w.heap.size w w'))
    (HBba : Hid (∀ X, Below w.heap.size w X → Calls Tryd.prog 13 #[.int .u64 (b : Nat), .int .u64 (a : Nat)] X fun e w' => e = .returned (.bool eq) ∧ Below w.heap.size w w'))
    (HBbc : Hid (∀ X, Below w.heap.size w X → Calls Tryd.prog 13 #[.int .u64 (b : Nat), .int .u64 (c : Nat)] X fun e w' => e = .returned (.bool true) ∧ Below w.heap.size w w'))
    (HBac : Hid (∀ X, Below w.heap.size w X → Calls Tryd.prog 13 #[.int .u64 (a : Nat), .int .u64 (c : Nat)] X fun e w' => e = .returned (.bool true) ∧ Below w.heap.size w w'))
    (HBaj : Hid (∀ X, Below w.heap.size w X → Calls Tryd.prog 13 #[.int .u64 (a : Nat), .int .u64 (j : Nat)] X fun e w' => e = .returned (.bool true) ∧ Below w.heap.size w w'))
    (HBbj : Hid (∀ X, Below w.heap.size w X → Calls Tryd.prog 13 #[.int .u64 (b : Nat), .int .u64 (j : Nat)] X fun e w' => e = .returned (.bool true) ∧ Below w.heap.size w w'))
    (HBma : Hid (∀ X, Below w.heap.size w X → Calls Tryd.prog 13 #[.int .u64 (m : Nat), .int .u64 (a : Nat)] X fun e w' => e = .returned (.bool true) ∧ Below w.heap.size w w'))
    (HBmb : Hid (∀ X, Below w.heap.size w X → Calls Tryd.prog 13 #[.int .u64 (m : Nat), .int .u64 (b : Nat)] X fun e w' => e = .returned (.bool true) ∧ Below w.heap.size w w'))
    (HBjc : Hid (∀ X, Below w.heap.size w X → Calls Tryd.prog 13 #[.int .u64 (j : Nat), .int .u64 (c : Nat)] X fun e w' => e = .returned (.bool (true && true)) ∧ Below w.heap.size w w'))
    (HBca : Hid (∀ X, Below w.heap.size w X → Calls Tryd.prog 13 #[.int .u64 (c : Nat), .int .u64 (a : Nat)] X fun e w' => e = .returned (.bool false) ∧ Below w.heap.size w w'))
    (HBcm : Hid (∀ X, Below w.heap.size w X → Calls Tryd.prog 13 #[.int .u64 (c : Nat), .int .u64 (m : Nat)] X fun e w' => e = .returned (.bool (false && v)) ∧ Below w.heap.size w w'))
    (HJ : Hid (∀ X, Below w.heap.size w X → Calls Tryd.prog 11 #[.slice (some ⟨X.heap.size, 0, none⟩) 2 2] (X.alloc (.cells #[.int .u64 (a : Nat), .int .u64 (b : Nat)] 24)) fun e w' => e = .returned (.int .u64 (j : Nat)) ∧ Below w.heap.size w w'))
    (HM : Hid (∀ X, Below w.heap.size w X → Calls Tryd.prog 12 #[.slice (some ⟨X.heap.size, 0, none⟩) 2 2] (X.alloc (.cells #[.int .u64 (a : Nat), .int .u64 (b : Nat)] 24)) fun e w' => e = .returned (.int .u64 (m : Nat)) ∧ Below w.heap.size w w'))
    (HTA : Hid (∀ X, Below w.heap.size w X → Calls Tryd.prog 15 #[.int .u64 (a : Nat)] X fun e w' => e = .returned (.string ⟨(txL a).toArray⟩) ∧ Below w.heap.size w w'))
    (HTB : Hid (∀ X, Below w.heap.size w X → Calls Tryd.prog 15 #[.int .u64 (b : Nat)] X fun e w' => e = .returned (.string ⟨(txL b).toArray⟩) ∧ Below w.heap.size w w'))
    (HW : Hid (∀ X, Below w.heap.size w X → Calls Tryd.prog 7 #[] X fun e w' => e = .returned (.bool true) ∧ Below w.heap.size w w'))
    (he1 : ((a : Int) == (b : Int)) = eq) (he2 : (txL a == txL b) = eq) :
    Calls Tryd.prog 6 #[.int .u64 (a : Nat), .int .u64 (b : Nat), .int .u64 (c : Nat)] w fun e w' => e = .returned (.bool true) ∧ Below w.heap.size w w' := by
  have h0 : Below w.heap.size w w := Below.refl _ _
  go_enter Tryd.func6, Tryd.ntmps6
  go_wp2_with (first
    | (go_at_call 11; refine (HJ.out _ (by assumption)).mono ?_; rintro e wk ⟨rfl, hk⟩)
    | (go_at_call 12; refine (HM.out _ (by assumption)).mono ?_; rintro e wk ⟨rfl, hk⟩)
    | (go_at_call 13; ((with_reducible refine (HBaa.out _ (by assumption)).mono ?_)); rintro e wk ⟨rfl, hk⟩)
    | (go_at_call 13; ((with_reducible refine (HBab.out _ (by assumption)).mono ?_)); rintro e wk ⟨rfl, hk⟩)
    | (go_at_call 13; ((with_reducible refine (HBba.out _ (by assumption)).mono ?_)); rintro e wk ⟨rfl, hk⟩)
    | (go_at_call 13; ((with_reducible refine (HBbc.out _ (by assumption)).mono ?_)); rintro e wk ⟨rfl, hk⟩)
    | (go_at_call 13; ((with_reducible refine (HBac.out _ (by assumption)).mono ?_)); rintro e wk ⟨rfl, hk⟩)
    | (go_at_call 13; ((with_reducible refine (HBaj.out _ (by assumption)).mono ?_)); rintro e wk ⟨rfl, hk⟩)
    | (go_at_call 13; ((with_reducible refine (HBbj.out _ (by assumption)).mono ?_)); rintro e wk ⟨rfl, hk⟩)
    | (go_at_call 13; ((with_reducible refine (HBma.out _ (by assumption)).mono ?_)); rintro e wk ⟨rfl, hk⟩)
    | (go_at_call 13; ((with_reducible refine (HBmb.out _ (by assumption)).mono ?_)); rintro e wk ⟨rfl, hk⟩)
    | (go_at_call 13; ((with_reducible refine (HBjc.out _ (by assumption)).mono ?_)); rintro e wk ⟨rfl, hk⟩)
    | (go_at_call 13; ((with_reducible refine (HBca.out _ (by assumption)).mono ?_)); rintro e wk ⟨rfl, hk⟩)
    | (go_at_call 13; ((with_reducible refine (HBcm.out _ (by assumption)).mono ?_)); rintro e wk ⟨rfl, hk⟩)
    | (go_at_call 15; ((with_reducible refine (HTA.out _ (by assumption)).mono ?_)); rintro e wk ⟨rfl, hk⟩)
    | (go_at_call 15; ((with_reducible refine (HTB.out _ (by assumption)).mono ?_)); rintro e wk ⟨rfl, hk⟩)
    | (go_at_call 7; refine (HW.out _ (by assumption)).mono ?_; rintro e wk ⟨rfl, hk⟩)
    | fail)
  go_ret
  exact ⟨by rfl, by assumption⟩

set_option maxRecDepth 100000 in
set_option maxHeartbeats 4000000 in
theorem holds_way9 (a b c j m : Nat) (v eq : Bool) (w : World)
    (HBaa : Hid (∀ X, Below w.heap.size w X → Calls Tryd.prog 13 #[.int .u64 (a : Nat), .int .u64 (a : Nat)] X fun e w' => e = .returned (.bool true) ∧ Below w.heap.size w w'))
    (HBab : Hid (∀ X, Below w.heap.size w X → Calls Tryd.prog 13 #[.int .u64 (a : Nat), .int .u64 (b : Nat)] X fun e w' => e = .returned (.bool true) ∧ Below w.heap.size w w'))
    (HBba : Hid (∀ X, Below w.heap.size w X → Calls Tryd.prog 13 #[.int .u64 (b : Nat), .int .u64 (a : Nat)] X fun e w' => e = .returned (.bool eq) ∧ Below w.heap.size w w'))
    (HBbc : Hid (∀ X, Below w.heap.size w X → Calls Tryd.prog 13 #[.int .u64 (b : Nat), .int .u64 (c : Nat)] X fun e w' => e = .returned (.bool true) ∧ Below w.heap.size w w'))
    (HBac : Hid (∀ X, Below w.heap.size w X → Calls Tryd.prog 13 #[.int .u64 (a : Nat), .int .u64 (c : Nat)] X fun e w' => e = .returned (.bool true) ∧ Below w.heap.size w w'))
    (HBaj : Hid (∀ X, Below w.heap.size w X → Calls Tryd.prog 13 #[.int .u64 (a : Nat), .int .u64 (j : Nat)] X fun e w' => e = .returned (.bool true) ∧ Below w.heap.size w w'))
    (HBbj : Hid (∀ X, Below w.heap.size w X → Calls Tryd.prog 13 #[.int .u64 (b : Nat), .int .u64 (j : Nat)] X fun e w' => e = .returned (.bool true) ∧ Below w.heap.size w w'))
    (HBma : Hid (∀ X, Below w.heap.size w X → Calls Tryd.prog 13 #[.int .u64 (m : Nat), .int .u64 (a : Nat)] X fun e w' => e = .returned (.bool true) ∧ Below w.heap.size w w'))
    (HBmb : Hid (∀ X, Below w.heap.size w X → Calls Tryd.prog 13 #[.int .u64 (m : Nat), .int .u64 (b : Nat)] X fun e w' => e = .returned (.bool true) ∧ Below w.heap.size w w'))
    (HBjc : Hid (∀ X, Below w.heap.size w X → Calls Tryd.prog 13 #[.int .u64 (j : Nat), .int .u64 (c : Nat)] X fun e w' => e = .returned (.bool (true && true)) ∧ Below w.heap.size w w'))
    (HBca : Hid (∀ X, Below w.heap.size w X → Calls Tryd.prog 13 #[.int .u64 (c : Nat), .int .u64 (a : Nat)] X fun e w' => e = .returned (.bool true) ∧ Below w.heap.size w w'))
    (HBcb : Hid (∀ X, Below w.heap.size w X → Calls Tryd.prog 13 #[.int .u64 (c : Nat), .int .u64 (b : Nat)] X fun e w' => e = .returned (.bool v) ∧ Below w.heap.size w w'))
    (HBcm : Hid (∀ X, Below w.heap.size w X → Calls Tryd.prog 13 #[.int .u64 (c : Nat), .int .u64 (m : Nat)] X fun e w' => e = .returned (.bool (true && v)) ∧ Below w.heap.size w w'))
    (HJ : Hid (∀ X, Below w.heap.size w X → Calls Tryd.prog 11 #[.slice (some ⟨X.heap.size, 0, none⟩) 2 2] (X.alloc (.cells #[.int .u64 (a : Nat), .int .u64 (b : Nat)] 24)) fun e w' => e = .returned (.int .u64 (j : Nat)) ∧ Below w.heap.size w w'))
    (HM : Hid (∀ X, Below w.heap.size w X → Calls Tryd.prog 12 #[.slice (some ⟨X.heap.size, 0, none⟩) 2 2] (X.alloc (.cells #[.int .u64 (a : Nat), .int .u64 (b : Nat)] 24)) fun e w' => e = .returned (.int .u64 (m : Nat)) ∧ Below w.heap.size w w'))
    (HTA : Hid (∀ X, Below w.heap.size w X → Calls Tryd.prog 15 #[.int .u64 (a : Nat)] X fun e w' => e = .returned (.string ⟨(txL a).toArray⟩) ∧ Below w.heap.size w w'))
    (HTB : Hid (∀ X, Below w.heap.size w X → Calls Tryd.prog 15 #[.int .u64 (b : Nat)] X fun e w' => e = .returned (.string ⟨(txL b).toArray⟩) ∧ Below w.heap.size w w'))
    (HW : Hid (∀ X, Below w.heap.size w X → Calls Tryd.prog 7 #[] X fun e w' => e = .returned (.bool true) ∧ Below w.heap.size w w'))
    (he1 : ((a : Int) == (b : Int)) = eq) (he2 : (txL a == txL b) = eq) :
    Calls Tryd.prog 6 #[.int .u64 (a : Nat), .int .u64 (b : Nat), .int .u64 (c : Nat)] w fun e w' => e = .returned (.bool true) ∧ Below w.heap.size w w' := by
  have h0 : Below w.heap.size w w := Below.refl _ _
  go_enter Tryd.func6, Tryd.ntmps6
  go_wp2_with (first
    | (go_at_call 11; refine (HJ.out _ (by assumption)).mono ?_; rintro e wk ⟨rfl, hk⟩)
    | (go_at_call 12; refine (HM.out _ (by assumption)).mono ?_; rintro e wk ⟨rfl, hk⟩)
    | (go_at_call 13; ((with_reducible refine (HBaa.out _ (by assumption)).mono ?_)); rintro e wk ⟨rfl, hk⟩)
    | (go_at_call 13; ((with_reducible refine (HBab.out _ (by assumption)).mono ?_)); rintro e wk ⟨rfl, hk⟩)
    | (go_at_call 13; ((with_reducible refine (HBba.out _ (by assumption)).mono ?_)); rintro e wk ⟨rfl, hk⟩)
    | (go_at_call 13; ((with_reducible refine (HBbc.out _ (by assumption)).mono ?_)); rintro e wk ⟨rfl, hk⟩)
    | (go_at_call 13; ((with_reducible refine (HBac.out _ (by assumption)).mono ?_)); rintro e wk ⟨rfl, hk⟩)
    | (go_at_call 13; ((with_reducible refine (HBaj.out _ (by assumption)).mono ?_)); rintro e wk ⟨rfl, hk⟩)
    | (go_at_call 13; ((with_reducible refine (HBbj.out _ (by assumption)).mono ?_)); rintro e wk ⟨rfl, hk⟩)
    | (go_at_call 13; ((with_reducible refine (HBma.out _ (by assumption)).mono ?_)); rintro e wk ⟨rfl, hk⟩)
    | (go_at_call 13; ((with_reducible refine (HBmb.out _ (by assumption)).mono ?_)); rintro e wk ⟨rfl, hk⟩)
    | (go_at_call 13; ((with_reducible refine (HBjc.out _ (by assumption)).mono ?_)); rintro e wk ⟨rfl, hk⟩)
    | (go_at_call 13; ((with_reducible refine (HBca.out _ (by assumption)).mono ?_)); rintro e wk ⟨rfl, hk⟩)
    | (go_at_call 13; ((with_reducible refine (HBcb.out _ (by assumption)).mono ?_)); rintro e wk ⟨rfl, hk⟩)
    | (go_at_call 13; ((with_reducible refine (HBcm.out _ (by assumption)).mono ?_)); rintro e wk ⟨rfl, hk⟩)
    | (go_at_call 15; ((with_reducible refine (HTA.out _ (by assumption)).mono ?_)); rintro e wk ⟨rfl, hk⟩)
    | (go_at_call 15; ((with_reducible refine (HTB.out _ (by assumption)).mono ?_)); rintro e wk ⟨rfl, hk⟩)
    | (go_at_call 7; refine (HW.out _ (by assumption)).mono ?_; rintro e wk ⟨rfl, hk⟩)
    | fail)
  go_ret
  exact ⟨by rfl, by assumption⟩

set_option maxHeartbeats 1000000 in
theorem holds_walk (a b c : Nat) (ha : a < 2 ^ 64) (hb : b < 2 ^ 64) (hc : c < 2 ^ 64) (w : World) (hT : TZ w) :
    Calls Tryd.prog 6 #[.int .u64 (a : Nat), .int .u64 (b : Nat), .int .u64 (c : Nat)] w fun e w' => e = .returned (.bool true) ∧ Below w.heap.size w w' := by
  have hj0 := sub_left a b
  have hj1 := sub_right a b
  have hm0 := and_left a b
  have hm1 := and_right a b
  have hjc := sub_or a b c
  have hcm := sub_and a b c
  have hjb : a ||| b < 2 ^ 64 := Nat.or_lt_two_pow ha hb
  have hmb : a &&& b < 2 ^ 64 := Nat.lt_of_le_of_lt Nat.and_le_left ha
  have HJ : Hid (∀ X, Below w.heap.size w X → Calls Tryd.prog 11 #[.slice (some ⟨X.heap.size, 0, none⟩) 2 2] (X.alloc (.cells #[.int .u64 (a : Nat), .int .u64 (b : Nat)] 24)) fun e w' => e = .returned (.int .u64 (a ||| b : Nat)) ∧ Below w.heap.size w w') := fun X hX => (join_any [a, b] _ _ (LsA.two X a b ha hb 24)).mono fun e w' ⟨h1, h2⟩ => ⟨by rw [h1, joinL_two], h2 ▸ balloc hX _⟩
  have HM : Hid (∀ X, Below w.heap.size w X → Calls Tryd.prog 12 #[.slice (some ⟨X.heap.size, 0, none⟩) 2 2] (X.alloc (.cells #[.int .u64 (a : Nat), .int .u64 (b : Nat)] 24)) fun e w' => e = .returned (.int .u64 (a &&& b : Nat)) ∧ Below w.heap.size w w') := fun X hX => (meet_any [a, b] _ _ (LsA.two X a b ha hb 24)).mono fun e w' ⟨h1, h2⟩ => ⟨by rw [h1, meetL_two a b ha], h2 ▸ balloc hX _⟩
  generalize a ||| b = j at *
  generalize a &&& b = m at *
  have HTA : Hid (∀ X, Below w.heap.size w X → Calls Tryd.prog 15 #[.int .u64 (a : Nat)] X fun e w' => e = .returned (.string ⟨(txL a).toArray⟩) ∧ Below w.heap.size w w') := fun X hX => (text_any a ha X (hT.keep hX)).mono fun e w' ⟨h1, h2⟩ => ⟨h1, bstep hX h2⟩
  have HTB : Hid (∀ X, Below w.heap.size w X → Calls Tryd.prog 15 #[.int .u64 (b : Nat)] X fun e w' => e = .returned (.string ⟨(txL b).toArray⟩) ∧ Below w.heap.size w w') := fun X hX => (text_any b hb X (hT.keep hX)).mono fun e w' ⟨h1, h2⟩ => ⟨h1, bstep hX h2⟩
  have HW : Hid (∀ X, Below w.heap.size w X → Calls Tryd.prog 7 #[] X fun e w' => e = .returned (.bool true) ∧ Below w.heap.size w w') := fun X hX => (works_any X (hT.keep hX)).mono fun e w' ⟨h1, h2⟩ => ⟨h1, bstep hX h2⟩
  obtain ⟨eq, heq⟩ : ∃ eq, decide (a = b) = eq := ⟨_, rfl⟩
  have he1 : ((a : Int) == (b : Int)) = eq := by rw [← heq, Bool.eq_iff_iff, beq_iff_eq, decide_eq_true_iff]; omega
  have he2 : (txL a == txL b) = eq := by rw [← heq, Bool.eq_iff_iff, beq_iff_eq, decide_eq_true_iff]; exact ⟨fun h => txL_inj ha hb h, fun h => by rw [h]⟩
  have haa := sub_refl a
  obtain ⟨p, hp⟩ : ∃ p, sub a b = p := ⟨_, rfl⟩
  obtain ⟨q, hq⟩ : ∃ q, sub b a = q := ⟨_, rfl⟩
  obtain ⟨r, hr⟩ : ∃ r, sub b c = r := ⟨_, rfl⟩
  obtain ⟨t, ht⟩ : ∃ t, sub a c = t := ⟨_, rfl⟩
  obtain ⟨u, hu⟩ : ∃ u, sub c a = u := ⟨_, rfl⟩
  obtain ⟨v, hv⟩ : ∃ v, sub c b = v := ⟨_, rfl⟩
  have h1 : p = true → q = eq := fun h => by
    rw [← heq, Bool.eq_iff_iff, decide_eq_true_iff]
    subst h
    exact ⟨fun h => sub_anti hp (hq.trans h), fun h => by rw [← hq, h]; exact sub_refl b⟩
  have h2 : p = true → r = true → t = true := fun h k => by
    rw [← ht]; exact sub_trans (hp.trans h) (hr.trans k)
  rw [ht, hr] at hjc
  rw [hu, hv] at hcm
  have HBaa : Hid (∀ X, Below w.heap.size w X → Calls Tryd.prog 13 #[.int .u64 (a : Nat), .int .u64 (a : Nat)] X fun e w' => e = .returned (.bool true) ∧ Below w.heap.size w w') := fun X hX => (below_any a a (by assumption) (by assumption) X).mono fun e w' ⟨h1, h2⟩ => ⟨by rw [h1, haa], bstep hX h2⟩
  have HBab : Hid (∀ X, Below w.heap.size w X → Calls Tryd.prog 13 #[.int .u64 (a : Nat), .int .u64 (b : Nat)] X fun e w' => e = .returned (.bool p) ∧ Below w.heap.size w w') := fun X hX => (below_any a b (by assumption) (by assumption) X).mono fun e w' ⟨h1, h2⟩ => ⟨by rw [h1, hp], bstep hX h2⟩
  have HBba : Hid (∀ X, Below w.heap.size w X → Calls Tryd.prog 13 #[.int .u64 (b : Nat), .int .u64 (a : Nat)] X fun e w' => e = .returned (.bool q) ∧ Below w.heap.size w w') := fun X hX => (below_any b a (by assumption) (by assumption) X).mono fun e w' ⟨h1, h2⟩ => ⟨by rw [h1, hq], bstep hX h2⟩
  have HBbc : Hid (∀ X, Below w.heap.size w X → Calls Tryd.prog 13 #[.int .u64 (b : Nat), .int .u64 (c : Nat)] X fun e w' => e = .returned (.bool r) ∧ Below w.heap.size w w') := fun X hX => (below_any b c (by assumption) (by assumption) X).mono fun e w' ⟨h1, h2⟩ => ⟨by rw [h1, hr], bstep hX h2⟩
  have HBac : Hid (∀ X, Below w.heap.size w X → Calls Tryd.prog 13 #[.int .u64 (a : Nat), .int .u64 (c : Nat)] X fun e w' => e = .returned (.bool t) ∧ Below w.heap.size w w') := fun X hX => (below_any a c (by assumption) (by assumption) X).mono fun e w' ⟨h1, h2⟩ => ⟨by rw [h1, ht], bstep hX h2⟩
  have HBaj : Hid (∀ X, Below w.heap.size w X → Calls Tryd.prog 13 #[.int .u64 (a : Nat), .int .u64 (j : Nat)] X fun e w' => e = .returned (.bool true) ∧ Below w.heap.size w w') := fun X hX => (below_any a j (by assumption) (by assumption) X).mono fun e w' ⟨h1, h2⟩ => ⟨by rw [h1, hj0], bstep hX h2⟩
  have HBbj : Hid (∀ X, Below w.heap.size w X → Calls Tryd.prog 13 #[.int .u64 (b : Nat), .int .u64 (j : Nat)] X fun e w' => e = .returned (.bool true) ∧ Below w.heap.size w w') := fun X hX => (below_any b j (by assumption) (by assumption) X).mono fun e w' ⟨h1, h2⟩ => ⟨by rw [h1, hj1], bstep hX h2⟩
  have HBma : Hid (∀ X, Below w.heap.size w X → Calls Tryd.prog 13 #[.int .u64 (m : Nat), .int .u64 (a : Nat)] X fun e w' => e = .returned (.bool true) ∧ Below w.heap.size w w') := fun X hX => (below_any m a (by assumption) (by assumption) X).mono fun e w' ⟨h1, h2⟩ => ⟨by rw [h1, hm0], bstep hX h2⟩
  have HBmb : Hid (∀ X, Below w.heap.size w X → Calls Tryd.prog 13 #[.int .u64 (m : Nat), .int .u64 (b : Nat)] X fun e w' => e = .returned (.bool true) ∧ Below w.heap.size w w') := fun X hX => (below_any m b (by assumption) (by assumption) X).mono fun e w' ⟨h1, h2⟩ => ⟨by rw [h1, hm1], bstep hX h2⟩
  have HBjc : Hid (∀ X, Below w.heap.size w X → Calls Tryd.prog 13 #[.int .u64 (j : Nat), .int .u64 (c : Nat)] X fun e w' => e = .returned (.bool (t && r)) ∧ Below w.heap.size w w') := fun X hX => (below_any j c (by assumption) (by assumption) X).mono fun e w' ⟨h1, h2⟩ => ⟨by rw [h1, hjc], bstep hX h2⟩
  have HBca : Hid (∀ X, Below w.heap.size w X → Calls Tryd.prog 13 #[.int .u64 (c : Nat), .int .u64 (a : Nat)] X fun e w' => e = .returned (.bool u) ∧ Below w.heap.size w w') := fun X hX => (below_any c a (by assumption) (by assumption) X).mono fun e w' ⟨h1, h2⟩ => ⟨by rw [h1, hu], bstep hX h2⟩
  have HBcb : Hid (∀ X, Below w.heap.size w X → Calls Tryd.prog 13 #[.int .u64 (c : Nat), .int .u64 (b : Nat)] X fun e w' => e = .returned (.bool v) ∧ Below w.heap.size w w') := fun X hX => (below_any c b (by assumption) (by assumption) X).mono fun e w' ⟨h1, h2⟩ => ⟨by rw [h1, hv], bstep hX h2⟩
  have HBcm : Hid (∀ X, Below w.heap.size w X → Calls Tryd.prog 13 #[.int .u64 (c : Nat), .int .u64 (m : Nat)] X fun e w' => e = .returned (.bool (u && v)) ∧ Below w.heap.size w w') := fun X hX => (below_any c m (by assumption) (by assumption) X).mono fun e w' ⟨h1, h2⟩ => ⟨by rw [h1, hcm], bstep hX h2⟩
  clear hp hq hr ht hu hv haa hj0 hj1 hm0 hm1 hjc hcm heq
  cases p with
  | false =>
    cases t <;> cases u
    · exact holds_way0 a b c j m r v eq w HBaa HBab HBac HBaj HBbj HBma HBmb HBjc HBca HBcm HJ HM HTA HTB HW he1 he2
    · exact holds_way1 a b c j m r v eq w HBaa HBab HBac HBaj HBbj HBma HBmb HBjc HBca HBcb HBcm HJ HM HTA HTB HW he1 he2
    · exact holds_way2 a b c j m r v eq w HBaa HBab HBbc HBac HBaj HBbj HBma HBmb HBjc HBca HBcm HJ HM HTA HTB HW he1 he2
    · exact holds_way3 a b c j m r v eq w HBaa HBab HBbc HBac HBaj HBbj HBma HBmb HBjc HBca HBcb HBcm HJ HM HTA HTB HW he1 he2
  | true =>
    obtain rfl := h1 rfl
    cases r with
    | false =>
      cases t <;> cases u
      · exact holds_way4 a b c j m v q w HBaa HBab HBba HBbc HBac HBaj HBbj HBma HBmb HBjc HBca HBcm HJ HM HTA HTB HW he1 he2
      · exact holds_way5 a b c j m v q w HBaa HBab HBba HBbc HBac HBaj HBbj HBma HBmb HBjc HBca HBcb HBcm HJ HM HTA HTB HW he1 he2
      · exact holds_way6 a b c j m v q w HBaa HBab HBba HBbc HBac HBaj HBbj HBma HBmb HBjc HBca HBcm HJ HM HTA HTB HW he1 he2
      · exact holds_way7 a b c j m v q w HBaa HBab HBba HBbc HBac HBaj HBbj HBma HBmb HBjc HBca HBcb HBcm HJ HM HTA HTB HW he1 he2
    | true =>
      obtain rfl := h2 rfl rfl
      cases u
      · exact holds_way8 a b c j m v q w HBaa HBab HBba HBbc HBac HBaj HBbj HBma HBmb HBjc HBca HBcm HJ HM HTA HTB HW he1 he2
      · exact holds_way9 a b c j m v q w HBaa HBab HBba HBbc HBac HBaj HBbj HBma HBmb HBjc HBca HBcb HBcm HJ HM HTA HTB HW he1 he2
end Go.Proofs.YtmcfccbaogjblaaDoor
