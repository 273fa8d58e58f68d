/- digest: an array of 25 numbers as an argument: opened, and shut again. -/
import Derived.Test.YtfpkogklhigkfaaKa
import Derived.Test.YtfpkogklhigkfaaTm
namespace Go.Proofs.Ytfpkogklhigkfaa
open Go.ChangeShapes Go.WideShapes Go.ChangeAt Go.RowKit

theorem arr25 : WideMaps.ArrKey Try.prog 23 22 25 := ⟨by kernel_rfl, by kernel_rfl, by kernel_rfl, by kernel_rfl⟩
/-- The datum of 25 numbers. -/
def dat25 {H : Type} (f : Nat → Ln) : DataW H := .agg ((List.range 25).map fun i => .lit (.int .u64 (ln (f i))))
theorem ln_wf (x : Ln) : (Lit.int .u64 (ln x)).wf = true := WalkArith.wf_u64 (by have := ln_lo x; have := ln_hi x; omega)
def intAt (xs : List Value) (i : Nat) : Int := match xs[i]? with | some (.int _ z) => z | _ => 0
section
variable {H : Type} {enc : TypeId × Value → H} {X : World} {base : Nat} {sp : Nat → Bool} {held : Bool}
theorem trod_each (fuel : Nat) (xs : List Value) : ∀ (is : List Nat) (ys : List (DataW H × List MemPlace)), (∀ i, i ∈ is → i < xs.length) →
    is.mapM (fun i => DataW.trod enc Try.prog X base sp held fuel 22 ((xs.drop (i * 1)).take 1)) = some ys →
    ys = is.map (fun i => ((.lit (.int .u64 (intAt xs i)), []) : DataW H × List MemPlace)) ∧ ∀ i, i ∈ is → xs[i]? = some (.int .u64 (intAt xs i)) ∧ (Lit.int .u64 (intAt xs i)).wf = true
  | [], ys, _, h => by simp at h; subst h; exact ⟨rfl, fun i hi => by cases hi⟩
  | i :: is, ys, hl, h => by
    rw [List.mapM_cons] at h
    have hi := hl i (by simp)
    have e1 : (xs.drop (i * 1)).take 1 = [xs[i]] := by
      rw [Nat.mul_one, List.drop_eq_getElem_cons hi]; rfl
    rw [e1] at h
    cases h0 : DataW.trod enc Try.prog X base sp held fuel 22 [xs[i]] with
    | none => rw [h0] at h; simp at h
    | some y =>
      rw [h0] at h
      cases h2 : is.mapM (fun i => DataW.trod enc Try.prog X base sp held fuel 22 ((xs.drop (i * 1)).take 1)) with
      | none => rw [h2] at h; simp at h
      | some zs =>
        rw [h2] at h
        simp at h
        obtain ⟨r1, r2⟩ := trod_each fuel xs is zs (fun j hj => hl j (by simp [hj])) h2
        obtain ⟨a, e, rfl, w⟩ := DataW.trod_int Try.underlying22 h0
        simp at e
        have hx : xs[i]? = some (.int .u64 a) := by rw [List.getElem?_eq_getElem hi, e]
        have ha : intAt xs i = a := by unfold intAt; rw [hx]
        subst h
        refine ⟨by rw [r1]; simp [ha], fun j hj => ?_⟩
        rcases List.mem_cons.1 hj with rfl | hj
        · rw [ha]; exact ⟨hx, w⟩
        · exact r2 j hj
theorem open_25 {r : Reach} {b0 : Nat} {v : Value} {d : DataW H} {p : List MemPlace} (hv : Value.okWide Try.prog X r b0 23 v) (h : DataW.Trod enc Try.prog X base sp held 23 v d p) :
    ∃ f : Nat → Ln, v = .agg (Fc 25 f) ∧ d = dat25 f ∧ p = [] := by
  obtain ⟨xs, rfl, hn⟩ := WideMaps.okWide_arr arr25 hv
  obtain ⟨fuel, hf⟩ := h
  cases fuel with
  | zero => simp [DataW.trod] at hf
  | succ m =>
    unfold DataW.trod at hf
    simp only [arr25.hu, Value.cells] at hf
    rw [if_pos (by rw [arr25.size]; simpa using hn)] at hf
    simp only [Option.map_eq_some_iff, arr25.one] at hf
    obtain ⟨ys, hy, e1⟩ := hf
    obtain ⟨r1, r2⟩ := trod_each m xs.toList (List.range 25) ys (fun i hi => by have := List.mem_range.1 hi; simp; omega) hy
    simp only [Prod.mk.injEq] at e1
    let f : Nat → Ln := fun i => BitVec.ofNat 64 (intAt xs.toList i).toNat
    have hg : ∀ i, i < 25 → xs[i]? = some (uv (f i)) ∧ ln (f i) = intAt xs.toList i := fun i hi => by
      obtain ⟨g1, g2⟩ := r2 i (List.mem_range.2 hi)
      have gb := bounds_u64 g2
      have e : ln (f i) = intAt xs.toList i := by
        show ln (BitVec.ofNat 64 (intAt xs.toList i).toNat) = _
        rw [ln_of _ (by omega)]; omega
      refine ⟨?_, e⟩
      rw [uv, e]
      simpa using g1
    refine ⟨f, ?_, ?_, ?_⟩
    · congr 1
      apply Array.ext_getElem?
      intro i
      by_cases hi : i < 25
      · rw [(hg i hi).1, Fc_get 25 f i hi]
      · rw [Array.getElem?_eq_none (by omega), Array.getElem?_eq_none (by rw [Fc_size]; omega)]
    · rw [← e1.1, r1]
      unfold dat25
      congr 1
      rw [List.map_map]
      apply List.map_congr_left
      intro i hi
      simp only [Function.comp]
      rw [(hg i (List.mem_range.1 hi)).2]
    · rw [← e1.2, r1]
      simp [List.flatMap_eq_nil_iff]
theorem shut_each (fuel : Nat) (f : Nat → Ln) : ∀ (is : List Nat), (∀ i, i ∈ is → i < 25) →
    is.mapM (fun i => DataW.trod enc Try.prog X base sp held (fuel + 1) 22 (((Fc 25 f).toList.drop (i * 1)).take 1)) = some (is.map (fun i => ((.lit (.int .u64 (ln (f i))), []) : DataW H × List MemPlace)))
  | [], _ => rfl
  | i :: is, hl => by
    have hi := hl i (by simp)
    have e1 : ((Fc 25 f).toList.drop (i * 1)).take 1 = [.int .u64 (ln (f i))] := by
      have hlen : i < (Fc 25 f).toList.length := by rw [Array.length_toList, Fc_size]; exact hi
      rw [Nat.mul_one, List.drop_eq_getElem_cons hlen]
      have h2 := Fc_get 25 f i hi
      have h3 : (Fc 25 f).toList[i]? = some (uv (f i)) := by simpa using h2
      rw [List.getElem?_eq_getElem hlen] at h3
      rw [Option.some.inj h3]; rfl
    rw [List.mapM_cons, e1, trod_int_mk fuel Try.underlying22 (ln_wf _), shut_each fuel f is (fun j hj => hl j (by simp [hj]))]
    rfl
theorem shut_25 (f : Nat → Ln) : DataW.Trod enc Try.prog X base sp held 23 (.agg (Fc 25 f)) (dat25 f) [] := by
  refine ⟨2, ?_⟩
  unfold DataW.trod
  simp only [arr25.hu, Value.cells]
  rw [if_pos (by rw [arr25.size, Array.length_toList, Fc_size])]
  simp only [arr25.one]
  rw [shut_each 0 f (List.range 25) (fun i hi => List.mem_range.1 hi)]
  simp [dat25, List.flatMap_eq_nil_iff]
end
end Go.Proofs.Ytfpkogklhigkfaa
