/- policy's laws: the text of works is read. -/
import Derived.Test.YtenepkgjdoddgaaGreatDoorAi
namespace Go.Proofs.YtenepkgjdoddgaaGreatDoor
open Go.RowKit Go.Shelf

def wSt (i : Nat) : St := if i < 2 then ⟨0, [], []⟩ else if i = 2 then ⟨0, [(ofL 1, 3)], []⟩ else ⟨0, [(ofL 1, 3)], [(ofL 1, 7, 2)]⟩
theorem chk_w : chk 0 [(ofL 1, 3)] [(ofL 1, 7, 2)] = 0 := by decide +kernel
theorem ba_data (l : List UInt8) : (ByteArray.mk l.toArray).data.toList = l := rfl
theorem lab_0 : labV [45] = 0 ∧ labE [45] = 0 := lab_of (a := 0) (by decide) txL_zero
theorem lab_3 : labV [48, 44, 49] = 3 ∧ labE [48, 44, 49] = 0 := lab_of (a := 3) (by decide) tx_3
theorem lab_2 : labV [49] = 2 ∧ labE [49] = 0 := lab_of (a := 2) (by decide) tx_2
theorem pcs_w : pcs 10 ⟨wLs.toArray⟩ = [⟨wL0.toArray⟩, ⟨wL1.toArray⟩, ⟨wL2.toArray⟩] := pcs_of (s := ⟨wLs.toArray⟩) split_w
theorem step_w : ∀ i x, (pcs 10 ⟨wLs.toArray⟩)[i]? = some x → x.size ≤ 100000 ∧ StepOk i x (wSt i) (wSt (i + 1)) ∧ (wSt i).ls.length ≤ 100000 ∧ (wSt i).rs.length ≤ 100000 := by
  intro i x h
  rw [pcs_w] at h
  match i, h with
  | 0, h =>
    simp only [List.getElem?_cons_zero, Option.some.injEq] at h
    subst h
    refine ⟨by decide, ?_, by decide, by decide⟩
    have h1 := StepOk.dflt ⟨wL0.toArray⟩ ⟨[45].toArray⟩ 0 [] [] (pcs_of (s := ⟨wL0.toArray⟩) split_0) (by decide) lab_0.2
    rw [ba_data, lab_0.1] at h1
    exact h1
  | 1, h =>
    simp only [List.getElem?_cons_succ, List.getElem?_cons_zero, Option.some.injEq] at h
    subst h
    refine ⟨by decide, ?_, by decide, by decide⟩
    have h1 := StepOk.clear 1 ⟨wL1.toArray⟩ wT ⟨[48, 44, 49].toArray⟩ 0 [] (by decide) (pcs_of (s := ⟨wL1.toArray⟩) split_1) (by decide) dv_wT (by decide) lab_3.2
    rw [ba_data, lab_3.1, low_one] at h1
    exact h1
  | 2, h =>
    simp only [List.getElem?_cons_succ, List.getElem?_cons_zero, Option.some.injEq] at h
    subst h
    refine ⟨by decide, ?_, by decide, by decide⟩
    have h1 := StepOk.release 2 ⟨wL2.toArray⟩ wT ⟨[55].toArray⟩ ⟨[49].toArray⟩ 7 0 [(ofL 1, 3)] [] (by decide) (pcs_of (s := ⟨wL2.toArray⟩) split_2) (by decide) dv_wT (by decide) (by decide) pu_7 (fun X => by have := number_small 7 (by decide) X; rwa [dec_7] at this) (by decide) lab_2.2
    rw [ba_data, lab_2.1, low_one] at h1
    exact h1
  | i + 3, h => simp at h
theorem wparse_any (w : World) (hT : TZ w) :
    Calls Tryz.prog 22 #[.string ⟨wS.toArray⟩] w fun e w' => ∃ vc vr, e = .returned (.tuple #[.agg #[.int .u64 0, vc, vr], .int .i64 0]) ∧ ClA w' vc [(ofL 1, 3)] ∧ RlA w' vr [(ofL 1, 7, 2)] ∧ Below w.heap.size w w' := by
  refine pparse_ok ⟨wS.toArray⟩ ⟨0, [(ofL 1, 3)], [(ofL 1, 7, 2)]⟩ w (by decide) (by decide) chk_w (fun X hX => ?_)
  have hTX : TZ X := hT.keep hX
  have hc : ∀ Y, Calls Tryz.prog 91 #[.string ⟨wS.toArray⟩, .string ⟨#[10]⟩] Y fun e w' => e = .returned (.tuple #[.string ⟨wLs.toArray⟩, .bool true]) ∧ w' = Y := fun Y => by
    have h := cutSuffix_any ⟨wS.toArray⟩ ⟨#[10]⟩ (by decide) Y
    rw [ba_data, show (ByteArray.mk #[10]).data.toList = [10] from rfl, trim_w.1, trim_w.2] at h
    exact h
  have h := read_ok ⟨wS.toArray⟩ ⟨wLs.toArray⟩ wSt X (by decide) hc rfl step_w hTX (fun w' h => hTX.keep h)
  rw [pcs_w] at h
  exact h
end Go.Proofs.YtenepkgjdoddgaaGreatDoor
