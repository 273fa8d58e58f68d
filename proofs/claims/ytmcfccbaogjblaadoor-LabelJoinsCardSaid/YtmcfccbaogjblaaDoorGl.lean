/- label's law: LabelTexts: the walk. -/
import Derived.Test.YtmcfccbaogjblaaDoorGk
namespace Go.Proofs.YtmcfccbaogjblaaDoor
open Go.RowKit Go.Shelf

set_option maxRecDepth 100000 in
set_option maxHeartbeats 4000000 in
theorem texts_walk (a : Nat) (s : ByteArray) (ha : a < 2 ^ 64) (hs : s.size ≤ 9223372036854775807) (w : World) (hT : TZ w) :
    Calls Tryd.prog 4 #[.int .u64 (a : Nat), .string s] w fun e w' => e = .returned (.bool true) ∧ Below w.heap.size w w' := by
  have HT := Lib.hid hT
  clear hT
  by_cases h300 : s.size ≤ 300
  · have hsI : ¬ (300 : Int) < (s.size : Int) := by omega
    have HA := Lib.hid ha
    have HS := Lib.hid h300
    obtain ⟨e1, e2⟩ := lab_of ha rfl
    have hl := txL_len a
    have HP1 : Hid (∀ X, TZ X → Calls Tryd.prog 16 #[.string ⟨(txL a).toArray⟩] X fun e w' => e = .returned (.tuple #[.int .u64 (a : Nat), .int .i64 ((0 : Nat) : Int)]) ∧ Below X.heap.size X w') := fun X hX => by
      have h := parse_any ⟨(txL a).toArray⟩ (by have : (ByteArray.mk (txL a).toArray).size = (txL a).length := (by simp [ByteArray.size]); omega) X hX
      rw [show (ByteArray.mk (txL a).toArray).data.toList = txL a by simp, e1, e2] at h
      exact h
    clear e1 e2 hl ha h300
    obtain ⟨v, hv⟩ : ∃ v, labV s.data.toList = v := ⟨_, rfl⟩
    have hE : labE s.data.toList = 0 ∨ labE s.data.toList = 180 := by unfold labE; split <;> simp
    obtain ⟨x, hx⟩ : ∃ x, labE s.data.toList = x := ⟨_, rfl⟩
    have HP2 : Hid (∀ X, TZ X → Calls Tryd.prog 16 #[.string s] X fun e w' => e = .returned (.tuple #[.int .u64 (v : Nat), .int .i64 (x : Nat)]) ∧ Below X.heap.size X w') := fun X hX => by
      have h := parse_any s (by have := HS.out; omega) X hX
      rw [hv, hx] at h
      exact h
    have HP3 : Hid (∀ X, Calls Tryd.prog 17 #[.string s] X fun e w' => e = .returned (.tuple #[.int .u64 (v : Nat), .bool (decide (x = 0))]) ∧ Below X.heap.size X w') := fun X => by
      have h := rparse_any s (by have := HS.out; omega) X
      rw [hv, hx] at h
      exact h
    rw [hx] at hE
    clear hv hx hs
    rcases hE with rfl | rfl
    all_goals
      go_enter Tryd.func4, Tryd.ntmps4
      go_wp2_with fail
      refine (text_any a HA.out _ HT.out).mono ?_
      rintro e w1 ⟨rfl, h1⟩
      have H1 := Lib.hid (And.intro (HT.out.keep h1) h1)
      clear h1
      go_wp2_with fail
      refine (HP1.out _ H1.out.1).mono ?_
      rintro e w2 ⟨rfl, h2⟩
      have H2 := Lib.hid (And.intro (H1.out.1.keep h2) (bstep H1.out.2 h2))
      clear h2
      go_wp2_with fail
      refine (HP2.out _ H2.out.1).mono ?_
      rintro e w3 ⟨rfl, h3⟩
      have H3 := Lib.hid (And.intro (H2.out.1.keep h3) (bstep H2.out.2 h3))
      clear h3
      go_wp2_with fail
      refine (HP3.out _).mono ?_
      rintro e w4 ⟨rfl, h4⟩
      have H4 := Lib.hid (And.intro (H3.out.1.keep h4) (bstep H3.out.2 h4))
      clear h4
      go_wp2_with fail
      refine (rtext_any a HA.out _).mono ?_
      rintro e w5 ⟨rfl, h5⟩
      have H5 := Lib.hid (And.intro (H4.out.1.keep h5) (bstep H4.out.2 h5))
      clear h5
      go_wp2_with (first
        | (go_at_call 19; refine (num_any _ _).mono ?_; rintro e _ ⟨rfl, rfl⟩)
        | (go_at_call 7; refine (works_any _ H5.out.1).mono ?_; rintro e w6 ⟨rfl, h6⟩) | fail)
      go_ret
      exact ⟨rfl, bstep H5.out.2 h6⟩
  · have hsI : (300 : Int) < (s.size : Int) := by omega
    go_enter Tryd.func4, Tryd.ntmps4
    go_wp2_with (first
      | (go_at_call 7; refine (works_any _ HT.out).mono ?_; rintro e w6 ⟨rfl, h6⟩) | fail)
    go_ret
    exact ⟨rfl, h6⟩
end Go.Proofs.YtmcfccbaogjblaaDoor
