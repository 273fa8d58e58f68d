/- slot's laws: arguments opened. -/
import Derived.Test.YtcfnhilcpfiocaaSto
import Derived.Test.YtcfnhilcpfiocaaRows
import Derived.WalkKit
import Derived.ProofKit
import Derived.OpenShut
import Derived.Deep.DeepHandedRow
import Derived.Deep.Slices
import Derived.Carry
import Derived.Lib.SmallJoins
import Derived.Laws.IdiomArrays
import Derived.WideShapes
namespace Go.Proofs.Ytcfnhilcpfiocaa
open Go.RowKit Go.ChangeShapes Go.WideShapes Go.ChangeAt

theorem own : ownKnob Try.prog.godebug = none := by kernel_rfl
theorem cofL : Try.prog.cellsOf 34 = 1 := by kernel_rfl
theorem cof64 : Try.prog.cellsOf 23 = 1 := by kernel_rfl
theorem cofW : Try.prog.cellsOf 25 = 4 := by kernel_rfl
theorem cofV : Try.prog.cellsOf 36 = 5 := by kernel_rfl
theorem take1 {α : Type} {cs : List α} {i : Nat} {v : α} (h : (cs.drop i).take 1 = [v]) : cs[i]? = some v := by
  have := congrArg (fun l : List α => l[0]?) h
  simpa [List.getElem?_take, List.getElem?_drop] using this
theorem cofI : Try.prog.cellsOf 3 = 1 := by kernel_rfl
theorem cofAc : Try.prog.cellsOf 38 = 10 := by kernel_rfl
noncomputable def acF (i : Nat) : Field := match Try.prog.underlying 38 with
  | some (.struct fs) => (fs[i]?).getD default
  | _ => default
theorem undac : Try.prog.underlying 38 = some (.struct #[acF 0, acF 1, acF 2]) := by kernel_rfl
theorem acF0 : (acF 0).type = 3 ∧ (acF 0).offset = 0 := ⟨by kernel_rfl, by kernel_rfl⟩
theorem acF1 : (acF 1).type = 25 ∧ (acF 1).offset = 1 := ⟨by kernel_rfl, by kernel_rfl⟩
theorem acF2 : (acF 2).type = 36 ∧ (acF 2).offset = 5 := ⟨by kernel_rfl, by kernel_rfl⟩
/-- A call as it is drawn: what it is, a key, a value. -/
def okA (a : Int × Nat × Nat × Nat) : Prop := (-9223372036854775808 ≤ a.1 ∧ a.1 < 9223372036854775808) ∧ a.2.1 < MM ∧ okP a.2.2
def acC (a : Int × Nat × Nat × Nat) : List Value := [.int .i64 a.1, .int .u64 (lb a.2.1 0), .int .u64 (lb a.2.1 1), .int .u64 (lb a.2.1 2), .int .u64 (lb a.2.1 3), .int .u64 (lb a.2.2.1 0), .int .u64 (lb a.2.2.1 1), .int .u64 (lb a.2.2.1 2), .int .u64 (lb a.2.2.1 3), .int .u64 (a.2.2.2 : Nat)]
/-- A slice of calls. -/
def As (B : Nat) (X : World) (v : Value) (l : List (Int × Nat × Nat × Nat)) : Prop := (∀ a ∈ l, okA a) ∧ ∃ x cap, v = .slice x l.length cap ∧ l.length ≤ cap ∧ l.length ≤ 9223372036854775807 ∧ (l ≠ [] → ∃ b o, x = some ⟨b, o, none⟩ ∧ b < B ∧ b < X.heap.size ∧ ∀ k a, l[k]? = some a → ∀ j, j < 10 → X.cell? ⟨b, o + k * 10 + j, none⟩ = (acC a)[j]?)
section
variable {H : Type} {enc : TypeId × Value → H} {X : World} {base : Nat} {sp : Nat → Bool} {held : Bool}
set_option maxRecDepth 100000 in
theorem label_open {fuel : Nat} {cs : List Value} {y : DataW H × List MemPlace} (h : DataW.trod enc Try.prog X base sp held fuel 34 cs = some y) : ∃ q : Nat, q < 18446744073709551616 ∧ cs = [.int .u64 (q : Nat)] := by
  obtain ⟨z, e, _, hw⟩ := DataW.trod_int (k := .u64) (by kernel_rfl) h
  have hz := bounds_u64 hw
  obtain ⟨q, rfl⟩ := Int.eq_ofNat_of_zero_le hz.1
  exact ⟨q, by omega, e⟩
theorem u64_open {fuel : Nat} {cs : List Value} {y : DataW H × List MemPlace} (h : DataW.trod enc Try.prog X base sp held fuel 23 cs = some y) : ∃ q : Int, (0 ≤ q ∧ q < 18446744073709551616) ∧ cs = [.int .u64 q] := by
  obtain ⟨z, e, _, hw⟩ := DataW.trod_int (k := .u64) (by kernel_rfl) h
  have hz := bounds_u64 hw
  exact ⟨z, by omega, e⟩
set_option maxRecDepth 100000 in
theorem word_open {fuel : Nat} {cs : List Value} {y : DataW H × List MemPlace} (h : DataW.trod enc Try.prog X base sp held fuel 25 cs = some y) : ∃ n, n < MM ∧ cs = [.int .u64 (lb n 0), .int .u64 (lb n 1), .int .u64 (lb n 2), .int .u64 (lb n 3)] := by
  obtain ⟨xs, m, _, _, hl, hx, hf⟩ := DataW.trod_array und_word h
  rw [cofW] at hl
  have hel : ∀ i, i < 4 → ∃ q : Int, (0 ≤ q ∧ q < 18446744073709551616) ∧ cs[i]? = some (.int .u64 q) := fun i hi => by
    have h2 := hf i hi
    rw [cof64, Nat.mul_one, List.getElem?_eq_getElem (by omega)] at h2
    obtain ⟨q, hq, e⟩ := u64_open h2
    exact ⟨q, hq, take1 e⟩
  obtain ⟨a0, g0, e0⟩ := hel 0 (by omega)
  obtain ⟨a1, g1, e1⟩ := hel 1 (by omega)
  obtain ⟨a2, g2, e2⟩ := hel 2 (by omega)
  obtain ⟨a3, g3, e3⟩ := hel 3 (by omega)
  obtain ⟨n, hM, rfl, rfl, rfl, rfl⟩ := word_of ⟨g0.1, by omega⟩ ⟨g1.1, by omega⟩ ⟨g2.1, by omega⟩ ⟨g3.1, by omega⟩
  refine ⟨n, hM, ?_⟩
  obtain ⟨c0, c1, c2, c3, rfl⟩ : ∃ c0 c1 c2 c3, cs = [c0, c1, c2, c3] := by
    match cs, hl with
    | [c0, c1, c2, c3], _ => exact ⟨c0, c1, c2, c3, rfl⟩
  have e0 : c0 = _ := Option.some.inj e0
  have e1 : c1 = _ := Option.some.inj e1
  have e2 : c2 = _ := Option.some.inj e2
  have e3 : c3 = _ := Option.some.inj e3
  rw [e0, e1, e2, e3]
set_option maxRecDepth 100000 in
theorem val_open {fuel : Nat} {cs : List Value} {y : DataW H × List MemPlace} (h : DataW.trod enc Try.prog X base sp held fuel 36 cs = some y) : ∃ n a, n < MM ∧ a < 18446744073709551616 ∧ cs = (vA n a).toList := by
  obtain ⟨xs, n, _, _, hlen, hsz, hf⟩ := DataW.trod_struct undva h
  rw [cofV] at hlen
  obtain ⟨y0, y1, rfl⟩ : ∃ v0 v1, xs = [v0, v1] := by
    match xs, hsz with
    | [v0, v1], _ => exact ⟨v0, v1, rfl⟩
  have h0 := hf 0 (vaF 0) rfl
  have h1 := hf 1 (vaF 1) rfl
  rw [vaFn0.1, vaFn0.2.1, cofW] at h0
  rw [vaFn1.1, vaFn1.2.1, cofL] at h1
  replace h0 : DataW.trod enc Try.prog X base sp held n 25 ((cs.drop 0).take 4) = some y0 := h0
  replace h1 : DataW.trod enc Try.prog X base sp held n 34 ((cs.drop 4).take 1) = some y1 := h1
  obtain ⟨k, hk, e0⟩ := word_open h0
  obtain ⟨q, hq, e1⟩ := label_open h1
  refine ⟨k, q, hk, hq, ?_⟩
  match cs, hlen with
  | [c0, c1, c2, c3, c4], _ =>
    simp at e0 e1
    obtain ⟨r0, r1, r2, r3⟩ := e0
    rw [r0, r1, r2, r3, e1]
set_option maxRecDepth 100000 in
theorem arg_val {r : Reach} {b0 : Nat} {v : Value} {d : DataW H} {p : List MemPlace} (hv : Value.okWide Try.prog X r b0 36 v) (h : DataW.Trod enc Try.prog X base sp held 36 v d p) : ∃ n a, n < MM ∧ a < 18446744073709551616 ∧ v = vV n a := by
  obtain ⟨cs, rfl, hn⟩ := okWide_struct undva hv
  obtain ⟨fuel, hf⟩ := h
  obtain ⟨n, a, hn, ha, e⟩ := val_open hf
  have e' : cs.toList = (vA n a).toList := by simpa [Value.cells] using e
  exact ⟨n, a, hn, ha, by rw [show cs = vA n a from Array.toList_inj.1 e']⟩
set_option maxRecDepth 100000 in
theorem act_open {fuel : Nat} {cs : List Value} {y : DataW H × List MemPlace} (h : DataW.trod enc Try.prog X base sp held fuel 38 cs = some y) : ∃ a, okA a ∧ cs = acC a := by
  obtain ⟨xs, n, _, _, hlen, hsz, hf⟩ := DataW.trod_struct undac h
  rw [cofAc] at hlen
  obtain ⟨y0, y1, y2, rfl⟩ : ∃ v0 v1 v2, xs = [v0, v1, v2] := by
    match xs, hsz with
    | [v0, v1, v2], _ => exact ⟨v0, v1, v2, rfl⟩
  have h0 := hf 0 (acF 0) rfl
  have h1 := hf 1 (acF 1) rfl
  have h2 := hf 2 (acF 2) rfl
  rw [acF0.1, acF0.2, cofI] at h0
  rw [acF1.1, acF1.2, cofW] at h1
  rw [acF2.1, acF2.2, cofV] at h2
  replace h0 : DataW.trod enc Try.prog X base sp held n 3 ((cs.drop 0).take 1) = some y0 := h0
  replace h1 : DataW.trod enc Try.prog X base sp held n 25 ((cs.drop 1).take 4) = some y1 := h1
  replace h2 : DataW.trod enc Try.prog X base sp held n 36 ((cs.drop 5).take 5) = some y2 := h2
  obtain ⟨z, e0, _, hw⟩ := DataW.trod_int (k := .i64) (by kernel_rfl) h0
  have hz := bounds_i64 hw
  obtain ⟨k, hk, e1⟩ := word_open h1
  obtain ⟨p, q, hp, hq, e2⟩ := val_open h2
  refine ⟨(z, k, p, q), ⟨by omega, hk, hp, hq⟩, ?_⟩
  match cs, hlen with
  | [c0, c1, c2, c3, c4, c5, c6, c7, c8, c9], _ =>
    simp at e0 e1 e2
    obtain ⟨r0, r1, r2, r3⟩ := e1
    obtain ⟨t0, t1, t2, t3, t4⟩ := e2
    rw [e0, r0, r1, r2, r3, t0, t1, t2, t3, t4]; rfl
set_option maxRecDepth 100000 in
theorem acts_open {fuel : Nat} {v : Value} {y : DataW H × List MemPlace} (h : DataW.trod enc Try.prog X base sp held fuel 22 [v] = some y) : ∃ l, As X.heap.size X v l := by
  have hu : Try.prog.underlying 22 = some (.slice 38) := by kernel_rfl
  rcases Go.Deep.open_slice hu h with ⟨h0, _⟩ | ⟨a, len, cap, m, n, D, Pl, h0, hb, hl, hm, hmm, hx, hall⟩
  · simp at h0
    subst h0
    exact ⟨[], by simp, none, 0, rfl, by simp, by simp, fun h => (h rfl).elim⟩
  · simp at h0
    subst h0
    have hlm : len ≤ m := by rw [hmm]; split <;> omega
    rw [cofAc] at hall
    have hel : ∀ i, i < len → ∃ q : Int × Nat × Nat × Nat, okA q ∧ ∀ j, j < 10 → X.cell? ((a.add (i * 10)).add j) = (acC q)[j]? := fun i hi => by
      obtain ⟨cs', h1, h2⟩ := hall i (by omega)
      obtain ⟨q, hq, rfl⟩ := act_open h2
      obtain ⟨_, _, h7⟩ := World.cells?_some h1
      exact ⟨q, hq, h7⟩
    obtain ⟨f, hF⟩ := Go.Deep.choose_lt (α := Int × Nat × Nat × Nat) (p := fun i q => okA q ∧ ∀ j, j < 10 → X.cell? ((a.add (i * 10)).add j) = (acC q)[j]?) hel
    have hL : ((List.range len).map f).length = len := by simp
    refine ⟨(List.range len).map f, fun c hc => ?_, some a, cap, by rw [hL], by rw [hL]; exact hl, by rw [hL]; unfold maxLen at hm; omega, fun hne => ?_⟩
    · obtain ⟨i, hi, rfl⟩ := List.mem_map.1 hc
      exact (hF i (by simpa using hi)).1
    · obtain ⟨b, o, spot⟩ := a
      have h0' : 0 < len := by rw [← hL]; exact List.length_pos_iff.2 hne
      have g0 : X.cell? (((⟨b, o, spot⟩ : Addr).add (0 * 10)).add 0) = some (.int .i64 (f 0).1) := (hF 0 h0').2 0 (by omega)
      have hspot : spot = none := by simpa [Addr.add] using World.cell?_spot g0
      subst hspot
      have hlt : b < X.heap.size := by
        have := World.block_lt_of_cell? X _ g0
        simpa [add_plain] using this
      refine ⟨b, o, rfl, hlt, hlt, fun k c hc j hj => ?_⟩
      have hk : k < len := by have := (List.getElem?_eq_some_iff.1 hc).1; rwa [hL] at this
      rw [List.getElem?_map, List.getElem?_range hk] at hc
      have e : f k = c := Option.some.inj hc
      have e0 := (hF k hk).2 j hj
      rw [add_plain, add_plain] at e0
      rw [e] at e0
      exact e0
set_option maxRecDepth 100000 in
theorem arg_acts {r : Reach} {b0 : Nat} {v : Value} {d : DataW H} {p : List MemPlace} (_hv : Value.okWide Try.prog X r b0 22 v) (h : DataW.Trod enc Try.prog X base sp held 22 v d p) : ∃ l, As X.heap.size X v l := by
  obtain ⟨x0, l0, c0, rfl⟩ := okWide_slice (show Try.prog.underlying 22 = some (.slice 38) by kernel_rfl) _hv
  obtain ⟨fuel, hf⟩ := h
  exact acts_open (v := .slice x0 l0 c0) hf
set_option maxRecDepth 100000 in
theorem arg_wordS {r : Reach} {b0 : Nat} {v : Value} {d : DataW H} {p : List MemPlace} (hv : Value.okWide Try.prog X r b0 25 v) (h : DataW.Trod enc Try.prog X base sp held 25 v d p) : ∃ n, n < MM ∧ v = W n := by
  simp only [Value.okWide, und_word] at hv
  obtain ⟨cs, rfl, h2, _⟩ := hv
  obtain ⟨fuel, hf⟩ := h
  obtain ⟨n, hn, e⟩ := word_open hf
  have e' : cs.toList = (Wc n).toList := by simpa [Value.cells] using e
  exact ⟨n, hn, by rw [show cs = Wc n from Array.toList_inj.1 e']⟩
end
/-- What a call that only makes memory owes its row, where an argument lies in memory. -/
theorem post_of_kept {H : Type} {enc : TypeId × Value → H} {P : Program} {f : Func} {s : ChangeSpec} {apart fresh handsOn : Bool} {W W' : World} {args : Array Value} {v : Value} {ds gs : List (DataW H)} {before : List MemPlace}
    (hW : DataW.Whole enc P f.params.toList s.vars apart W args.toList ds gs before)
    (hres : ∀ (b : Nat) (sp : Nat → Bool) (hd : Bool), DataW.TrodAll enc P W' b sp hd f.resultTypes.toList (v.resultList f.resultTypes.size) (s.fn H (ds ++ gs)).results [])
    (hargs : DataW.TrodAll enc P W' 0 (fun b => decide (b < W.heap.size)) true f.params.toList args.toList (s.fn H (ds ++ gs)).args before)
    (hvars : DataW.TrodVars enc P W' (fun b => decide (b < W.heap.size)) s.vars (s.fn H (ds ++ gs)).vars [])
    (hk : W.keptBut W' (· ∈ before)) : s.post enc P f apart fresh handsOn false W args v W' := by
  refine ⟨ds, gs, before, [], before, [], hW, hres _ _ _, hargs, hvars, World.keptBut_mono (fun p hp => ⟨hp, ?_⟩) hk, fun h => by cases h⟩
  exact Or.inr (Or.inl hp)

theorem As.is {B : Nat} {X : World} {v : Value} {l : List (Int × Nat × Nat × Nat)} (h : As B X v l) : ∃ x c, v = .slice x l.length c := by obtain ⟨_, x, c, e, _⟩ := h; exact ⟨x, c, e⟩
end Go.Proofs.Ytcfnhilcpfiocaa
