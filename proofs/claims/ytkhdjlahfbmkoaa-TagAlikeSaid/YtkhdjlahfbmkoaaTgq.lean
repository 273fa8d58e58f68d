/- tag's laws: arguments opened. -/
import Derived.Test.YtkhdjlahfbmkoaaTgp
import Derived.Test.YtkhdjlahfbmkoaaRows
import Derived.WalkKit
import Derived.ProofKit
import Derived.OpenShut
import Derived.Deep.DeepHandedRow
import Derived.Deep.Slices
import Derived.Carry
import Derived.Lib.SmallJoins
import Derived.Laws.IdiomArrays
import Derived.WideKeyArr2
import Derived.WideShapes
namespace Go.Proofs.Ytkhdjlahfbmkoaa
open Go.RowKit Go.ChangeShapes Go.WideShapes Go.ChangeAt

theorem own : ownKnob Try.prog.godebug = none := by kernel_rfl
theorem cof8 : Try.prog.cellsOf 5 = 1 := by kernel_rfl
theorem cofL : Try.prog.cellsOf 27 = 1 := by kernel_rfl
theorem cof64 : Try.prog.cellsOf 24 = 1 := by kernel_rfl
theorem cofW : Try.prog.cellsOf 26 = 4 := by kernel_rfl
theorem cofC : Try.prog.cellsOf 53 = 2 := by kernel_rfl
theorem cofV : Try.prog.cellsOf 29 = 5 := by kernel_rfl
theorem take1 {α : Type} {cs : List α} {i : Nat} {v : α} (h : (cs.drop i).take 1 = [v]) : cs[i]? = some v := by
  have := congrArg (fun l : List α => l[0]?) h
  simpa [List.getElem?_take, List.getElem?_drop] using this
section
variable {H : Type} {enc : TypeId × Value → H} {X : World} {base : Nat} {sp : Nat → Bool} {held : Bool}
set_option maxRecDepth 100000 in
theorem bytes_open {fuel : Nat} {v : Value} {y : DataW H × List MemPlace} (h : DataW.trod enc Try.prog X base sp held fuel 23 [v] = some y) :
    ∃ l x c, v = .slice x l.length c ∧ Bto X.heap.size X v l ∧ ∀ n c, v = .slice none n c → c = 0 := by
  have hu : Try.prog.underlying 23 = some (.slice 5) := by kernel_rfl
  have hc : Try.prog.cellsOf 5 = 1 := by kernel_rfl
  have h8 : Try.prog.underlying 5 = some (.int .u8) := by kernel_rfl
  rcases Go.Deep.open_slice1 hu hc h with ⟨h0, _⟩ | ⟨a, len, cap, m, n, V, D, Pl, h0, hb, hl, hm, hmm, hx, hall⟩
  · simp at h0
    subst h0
    exact ⟨[], none, 0, rfl, ⟨by simp, none, 0, rfl, Nat.le_refl _, by simp, fun h => (h rfl).elim⟩, fun n c e => by cases e; rfl⟩
  · simp at h0
    subst h0
    have hlm : len ≤ m := by rw [hmm]; split <;> omega
    have hel : ∀ i, i < len → ∃ q : Nat, q < 256 ∧ X.cell? (a.add i) = some (.int .u8 q) := fun i hi => by
      obtain ⟨h1, h2⟩ := hall i (by omega)
      obtain ⟨z, e, _, hw⟩ := DataW.trod_int h8 h2
      simp at e
      have hz := bounds_u8 hw
      obtain ⟨q, rfl⟩ := Int.eq_ofNat_of_zero_le hz.1
      exact ⟨q, by omega, by rw [h1, e]⟩
    obtain ⟨f, hF⟩ := Go.Deep.choose_lt (α := Nat) (p := fun i q => q < 256 ∧ X.cell? (a.add i) = some (.int .u8 q)) hel
    have hL : ((List.range len).map f).length = len := by simp
    refine ⟨(List.range len).map f, some a, cap, by rw [hL], ⟨fun x hx => ?_, some a, cap, by rw [hL], by rw [hL]; exact hl, by rw [hL]; unfold maxLen at hm; omega, fun hne => ?_⟩, fun n c e => by cases e⟩
    · simp only [List.mem_map, List.mem_range] at hx
      obtain ⟨i, hi, rfl⟩ := hx
      exact (hF i hi).1
    · obtain ⟨b, o, spot⟩ := a
      have h0' : 0 < len := by rw [← hL]; exact List.length_pos_iff.2 hne
      have hspot : spot = none := by simpa [Addr.add] using World.cell?_spot (hF 0 h0').2
      subst hspot
      have hlt : b < X.heap.size := by
        have := World.block_lt_of_cell? X _ (hF 0 h0').2
        simpa [add_plain] using this
      refine ⟨b, o, rfl, hlt, hlt, fun k u hu => ?_⟩
      have hk : k < len := by have := (List.getElem?_eq_some_iff.1 hu).1; rwa [hL] at this
      rw [List.getElem?_map, List.getElem?_range hk] at hu
      cases hu
      have e1 := (hF k hk).2
      rwa [add_plain] at e1
set_option maxRecDepth 100000 in
theorem arg_bytes {r : Reach} {b0 : Nat} {v : Value} {d : DataW H} {p : List MemPlace} (_hv : Value.okWide Try.prog X r b0 23 v) (h : DataW.Trod enc Try.prog X base sp held 23 v d p) : ∃ l x c, v = .slice x l.length c ∧ Bto X.heap.size X v l ∧ ∀ n c, v = .slice none n c → c = 0 := by
  obtain ⟨x0, l0, c0, rfl⟩ := okWide_slice (show Try.prog.underlying 23 = some (.slice 5) by kernel_rfl) _hv
  obtain ⟨fuel, hf⟩ := h
  exact bytes_open (v := .slice x0 l0 c0) hf

set_option maxRecDepth 100000 in
theorem label_open {fuel : Nat} {cs : List Value} {y : DataW H × List MemPlace} (h : DataW.trod enc Try.prog X base sp held fuel 27 cs = some y) : ∃ q : Nat, q < 18446744073709551616 ∧ cs = [.int .u64 (q : Nat)] := by
  obtain ⟨z, e, _, hw⟩ := DataW.trod_int (k := .u64) (by kernel_rfl) h
  have hz := bounds_u64 hw
  obtain ⟨q, rfl⟩ := Int.eq_ofNat_of_zero_le hz.1
  exact ⟨q, by omega, e⟩
theorem byte_open {fuel : Nat} {cs : List Value} {y : DataW H × List MemPlace} (h : DataW.trod enc Try.prog X base sp held fuel 5 cs = some y) : ∃ q : Nat, q < 256 ∧ cs = [.int .u8 (q : Nat)] := by
  obtain ⟨z, e, _, hw⟩ := DataW.trod_int (k := .u8) (by kernel_rfl) h
  have hz := bounds_u8 hw
  obtain ⟨q, rfl⟩ := Int.eq_ofNat_of_zero_le hz.1
  exact ⟨q, by omega, e⟩
theorem u64_open {fuel : Nat} {cs : List Value} {y : DataW H × List MemPlace} (h : DataW.trod enc Try.prog X base sp held fuel 24 cs = some y) : ∃ q : Int, (0 ≤ q ∧ q < 18446744073709551616) ∧ cs = [.int .u64 q] := by
  obtain ⟨z, e, _, hw⟩ := DataW.trod_int (k := .u64) (by kernel_rfl) h
  have hz := bounds_u64 hw
  exact ⟨z, by omega, e⟩
set_option maxRecDepth 100000 in
theorem cell_open {fuel : Nat} {cs : List Value} {y : DataW H × List MemPlace} (h : DataW.trod enc Try.prog X base sp held fuel 53 cs = some y) : ∃ c : Nat × Nat, okC c ∧ cs = [.int .u8 (c.1 : Nat), .int .u64 (c.2 : Nat)] := by
  obtain ⟨xs, n, _, _, hlen, hsz, hf⟩ := DataW.trod_struct undce h
  rw [cofC] at hlen
  obtain ⟨y0, y1, rfl⟩ : ∃ v0 v1, xs = [v0, v1] := by
    match xs, hsz with
    | [v0, v1], _ => exact ⟨v0, v1, rfl⟩
  have h0 := hf 0 (ceF 0) rfl
  have h1 := hf 1 (ceF 1) rfl
  rw [ceF0.1, ceF0.2, cof8] at h0
  rw [ceF1.1, ceF1.2, cofL] at h1
  replace h0 : DataW.trod enc Try.prog X base sp held n 5 ((cs.drop 0).take 1) = some y0 := h0
  replace h1 : DataW.trod enc Try.prog X base sp held n 27 ((cs.drop 1).take 1) = some y1 := h1
  obtain ⟨a, ha, e0⟩ := byte_open h0
  obtain ⟨q, hq, e1⟩ := label_open h1
  refine ⟨(a, q), ⟨ha, hq⟩, ?_⟩
  match cs, hlen with
  | [c0, c1], _ =>
    simp at e0 e1
    rw [e0, e1]
set_option maxRecDepth 100000 in
theorem cells_open {fuel : Nat} {v : Value} {y : DataW H × List MemPlace} (h : DataW.trod enc Try.prog X base sp held fuel 22 [v] = some y) : ∃ l, Cs X.heap.size X v l := by
  have hu : Try.prog.underlying 22 = some (.slice 53) := by kernel_rfl
  rcases Go.Deep.open_slice hu h with ⟨h0, _⟩ | ⟨a, len, cap, m, n, D, Pl, h0, hb, hl, hm, hmm, hx, hall⟩
  · simp at h0
    subst h0
    exact ⟨[], by simp, none, 0, rfl, by simp, by simp, fun h => (h rfl).elim⟩
  · simp at h0
    subst h0
    have hlm : len ≤ m := by rw [hmm]; split <;> omega
    rw [cofC] at hall
    have hel : ∀ i, i < len → ∃ q : Nat × Nat, okC q ∧ ∀ j, j < 2 → X.cell? ((a.add (i * 2)).add j) = ([.int .u8 (q.1 : Nat), .int .u64 (q.2 : Nat)] : List Value)[j]? := fun i hi => by
      obtain ⟨cs', h1, h2⟩ := hall i (by omega)
      obtain ⟨q, hq, rfl⟩ := cell_open h2
      obtain ⟨_, _, h7⟩ := World.cells?_some h1
      exact ⟨q, hq, h7⟩
    obtain ⟨f, hF⟩ := Go.Deep.choose_lt (α := Nat × Nat) (p := fun i q => okC q ∧ ∀ j, j < 2 → X.cell? ((a.add (i * 2)).add j) = ([.int .u8 (q.1 : Nat), .int .u64 (q.2 : Nat)] : List Value)[j]?) hel
    have hL : ((List.range len).map f).length = len := by simp
    refine ⟨(List.range len).map f, fun c hc => ?_, some a, cap, by rw [hL], by rw [hL]; exact hl, by rw [hL]; unfold maxLen at hm; omega, fun hne => ?_⟩
    · obtain ⟨i, hi, rfl⟩ := List.mem_map.1 hc
      exact (hF i (by simpa using hi)).1
    · obtain ⟨b, o, spot⟩ := a
      have h0' : 0 < len := by rw [← hL]; exact List.length_pos_iff.2 hne
      have g0 : X.cell? (((⟨b, o, spot⟩ : Addr).add (0 * 2)).add 0) = some (.int .u8 ((f 0).1 : Nat)) := (hF 0 h0').2 0 (by omega)
      have hspot : spot = none := by simpa [Addr.add] using World.cell?_spot g0
      subst hspot
      have hlt : b < X.heap.size := by
        have := World.block_lt_of_cell? X _ g0
        simpa [add_plain] using this
      refine ⟨b, o, rfl, hlt, hlt, fun k c hc => ?_⟩
      have hk : k < len := by have := (List.getElem?_eq_some_iff.1 hc).1; rwa [hL] at this
      rw [List.getElem?_map, List.getElem?_range hk] at hc
      have e : f k = c := Option.some.inj hc
      have e0 := (hF k hk).2 0 (by omega)
      have e1 := (hF k hk).2 1 (by omega)
      rw [add_plain, add_plain] at e0 e1
      rw [e] at e0 e1
      exact ⟨e0, e1⟩
theorem arg_cells {r : Reach} {b0 : Nat} {v : Value} {d : DataW H} {p : List MemPlace} (_hv : Value.okWide Try.prog X r b0 22 v) (h : DataW.Trod enc Try.prog X base sp held 22 v d p) : ∃ l, Cs X.heap.size X v l := by
  obtain ⟨x0, l0, c0, rfl⟩ := okWide_slice (show Try.prog.underlying 22 = some (.slice 53) by kernel_rfl) _hv
  obtain ⟨fuel, hf⟩ := h
  exact cells_open (v := .slice x0 l0 c0) hf
set_option maxRecDepth 100000 in
theorem word_open {fuel : Nat} {cs : List Value} {y : DataW H × List MemPlace} (h : DataW.trod enc Try.prog X base sp held fuel 26 cs = some y) : ∃ n, n < MM ∧ cs = [.int .u64 (lb n 0), .int .u64 (lb n 1), .int .u64 (lb n 2), .int .u64 (lb n 3)] := by
  obtain ⟨xs, m, _, _, hl, hx, hf⟩ := DataW.trod_array und_word h
  rw [cofW] at hl
  have hel : ∀ i, i < 4 → ∃ q : Int, (0 ≤ q ∧ q < 18446744073709551616) ∧ cs[i]? = some (.int .u64 q) := fun i hi => by
    have h2 := hf i hi
    rw [cof64, Nat.mul_one, List.getElem?_eq_getElem (by omega)] at h2
    obtain ⟨q, hq, e⟩ := u64_open h2
    exact ⟨q, hq, take1 e⟩
  obtain ⟨a0, g0, e0⟩ := hel 0 (by omega)
  obtain ⟨a1, g1, e1⟩ := hel 1 (by omega)
  obtain ⟨a2, g2, e2⟩ := hel 2 (by omega)
  obtain ⟨a3, g3, e3⟩ := hel 3 (by omega)
  obtain ⟨n, hM, rfl, rfl, rfl, rfl⟩ := word_of ⟨g0.1, by omega⟩ ⟨g1.1, by omega⟩ ⟨g2.1, by omega⟩ ⟨g3.1, by omega⟩
  refine ⟨n, hM, ?_⟩
  obtain ⟨c0, c1, c2, c3, rfl⟩ : ∃ c0 c1 c2 c3, cs = [c0, c1, c2, c3] := by
    match cs, hl with
    | [c0, c1, c2, c3], _ => exact ⟨c0, c1, c2, c3, rfl⟩
  have e0 : c0 = _ := Option.some.inj e0
  have e1 : c1 = _ := Option.some.inj e1
  have e2 : c2 = _ := Option.some.inj e2
  have e3 : c3 = _ := Option.some.inj e3
  rw [e0, e1, e2, e3]
set_option maxRecDepth 100000 in
theorem val_open {fuel : Nat} {cs : List Value} {y : DataW H × List MemPlace} (h : DataW.trod enc Try.prog X base sp held fuel 29 cs = some y) : ∃ n a, n < MM ∧ a < 18446744073709551616 ∧ cs = (vA n a).toList := by
  obtain ⟨xs, n, _, _, hlen, hsz, hf⟩ := DataW.trod_struct undva h
  rw [cofV] at hlen
  obtain ⟨y0, y1, rfl⟩ : ∃ v0 v1, xs = [v0, v1] := by
    match xs, hsz with
    | [v0, v1], _ => exact ⟨v0, v1, rfl⟩
  have h0 := hf 0 (vaF 0) rfl
  have h1 := hf 1 (vaF 1) rfl
  rw [vaFn0.1, vaFn0.2.1, cofW] at h0
  rw [vaFn1.1, vaFn1.2.1, cofL] at h1
  replace h0 : DataW.trod enc Try.prog X base sp held n 26 ((cs.drop 0).take 4) = some y0 := h0
  replace h1 : DataW.trod enc Try.prog X base sp held n 27 ((cs.drop 4).take 1) = some y1 := h1
  obtain ⟨k, hk, e0⟩ := word_open h0
  obtain ⟨q, hq, e1⟩ := label_open h1
  refine ⟨k, q, hk, hq, ?_⟩
  match cs, hlen with
  | [c0, c1, c2, c3, c4], _ =>
    simp at e0 e1
    obtain ⟨r0, r1, r2, r3⟩ := e0
    rw [r0, r1, r2, r3, e1]
theorem arg_val {r : Reach} {b0 : Nat} {v : Value} {d : DataW H} {p : List MemPlace} (hv : Value.okWide Try.prog X r b0 29 v) (h : DataW.Trod enc Try.prog X base sp held 29 v d p) : ∃ n a, n < MM ∧ a < 18446744073709551616 ∧ v = vV n a := by
  obtain ⟨cs, rfl, hn⟩ := okWide_struct undva hv
  obtain ⟨fuel, hf⟩ := h
  obtain ⟨n, a, hn, ha, e⟩ := val_open hf
  have e' : cs.toList = (vA n a).toList := by simpa [Value.cells] using e
  exact ⟨n, a, hn, ha, by rw [show cs = vA n a from Array.toList_inj.1 e']⟩
set_option maxRecDepth 100000 in
theorem arg_vals {r : Reach} {b0 : Nat} {v : Value} {d : DataW H} {p : List MemPlace} (hv : Value.okWide Try.prog X r b0 45 v) (h : DataW.Trod enc Try.prog X base sp held 45 v d p) : ∃ n a m b, (n < MM ∧ a < 18446744073709551616) ∧ (m < MM ∧ b < 18446744073709551616) ∧ v = .agg (vA n a ++ vA m b) := by
  have hu : Try.prog.underlying 45 = some (.array 2 29) := by kernel_rfl
  have hc : Try.prog.cellsOf 45 = 10 := by kernel_rfl
  simp only [Value.okWide, hu] at hv
  obtain ⟨cs, rfl, h2, _⟩ := hv
  rw [hc] at h2
  obtain ⟨fuel, hf⟩ := h
  obtain ⟨xs, m, _, _, hl, hx, hg⟩ := DataW.trod_array hu hf
  rw [cofV] at hg
  have e0 := hg 0 (by omega)
  have e1 := hg 1 (by omega)
  rw [List.getElem?_eq_getElem (by omega)] at e0 e1
  obtain ⟨n, a, hn, ha, q0⟩ := val_open e0
  obtain ⟨m2, b, hm, hb, q1⟩ := val_open e1
  refine ⟨n, a, m2, b, ⟨hn, ha⟩, ⟨hm, hb⟩, ?_⟩
  simp only [Value.cells, Nat.zero_mul, Nat.one_mul, List.drop_zero] at q0 q1
  rw [List.take_of_length_le (i := 5) (by rw [List.length_drop]; simp [h2])] at q1
  have q : cs.toList = (vA n a ++ vA m2 b).toList := by
    have h9 := List.take_append_drop 5 cs.toList
    rw [q0, q1] at h9
    exact h9.symm
  rw [show cs = vA n a ++ vA m2 b from Array.toList_inj.1 q]
set_option maxRecDepth 100000 in
theorem arg_ints {r : Reach} {b0 : Nat} {v : Value} {d : DataW H} {p : List MemPlace} (hv : Value.okWide Try.prog X r b0 55 v) (h : DataW.Trod enc Try.prog X base sp held 55 v d p) : ∃ x0 x1 x2 x3 x4 : Int, (∀ x ∈ [x0, x1, x2, x3, x4], -9223372036854775808 ≤ x ∧ x < 9223372036854775808) ∧ v = .agg #[.int .i64 x0, .int .i64 x1, .int .i64 x2, .int .i64 x3, .int .i64 x4] := by
  have hu : Try.prog.underlying 55 = some (.array 5 3) := by kernel_rfl
  have hc : Try.prog.cellsOf 55 = 5 := by kernel_rfl
  have hci : Try.prog.cellsOf 3 = 1 := by kernel_rfl
  simp only [Value.okWide, hu] at hv
  obtain ⟨cs, rfl, h2, _⟩ := hv
  rw [hc] at h2
  obtain ⟨fuel, hf⟩ := h
  obtain ⟨xs, m, _, _, hl, hx, hg⟩ := DataW.trod_array hu hf
  have hel : ∀ i, i < 5 → ∃ q : Int, (-9223372036854775808 ≤ q ∧ q < 9223372036854775808) ∧ cs[i]? = some (.int .i64 q) := fun i hi => by
    have h2 := hg i hi
    rw [hci, Nat.mul_one, List.getElem?_eq_getElem (by omega)] at h2
    obtain ⟨z, e, _, hw⟩ := DataW.trod_int (k := .i64) (by kernel_rfl) h2
    have hz := bounds_i64 hw
    have e2 := take1 e
    simp only [Value.cells] at e2
    rw [Array.getElem?_toList] at e2
    exact ⟨z, by omega, e2⟩
  obtain ⟨x0, g0, e0⟩ := hel 0 (by omega)
  obtain ⟨x1, g1, e1⟩ := hel 1 (by omega)
  obtain ⟨x2, g2, e2⟩ := hel 2 (by omega)
  obtain ⟨x3, g3, e3⟩ := hel 3 (by omega)
  obtain ⟨x4, g4, e4⟩ := hel 4 (by omega)
  refine ⟨x0, x1, x2, x3, x4, fun x hx => by simp at hx; rcases hx with rfl | rfl | rfl | rfl | rfl <;> assumption, ?_⟩
  obtain ⟨L⟩ := cs
  obtain ⟨c0, c1, c2, c3, c4, rfl⟩ : ∃ c0 c1 c2 c3 c4, L = [c0, c1, c2, c3, c4] := by
    match L, h2 with
    | [c0, c1, c2, c3, c4], _ => exact ⟨c0, c1, c2, c3, c4, rfl⟩
  have e0 : c0 = _ := Option.some.inj e0
  have e1 : c1 = _ := Option.some.inj e1
  have e2 : c2 = _ := Option.some.inj e2
  have e3 : c3 = _ := Option.some.inj e3
  have e4 : c4 = _ := Option.some.inj e4
  rw [e0, e1, e2, e3, e4]
end
/-- What a call that only makes memory owes its row, where an argument lies in memory. -/
theorem post_of_kept {H : Type} {enc : TypeId × Value → H} {P : Program} {f : Func} {s : ChangeSpec} {apart fresh handsOn : Bool} {W W' : World} {args : Array Value} {v : Value} {ds gs : List (DataW H)} {before : List MemPlace}
    (hW : DataW.Whole enc P f.params.toList s.vars apart W args.toList ds gs before)
    (hres : ∀ (b : Nat) (sp : Nat → Bool) (hd : Bool), DataW.TrodAll enc P W' b sp hd f.resultTypes.toList (v.resultList f.resultTypes.size) (s.fn H (ds ++ gs)).results [])
    (hargs : DataW.TrodAll enc P W' 0 (fun b => decide (b < W.heap.size)) true f.params.toList args.toList (s.fn H (ds ++ gs)).args before)
    (hvars : DataW.TrodVars enc P W' (fun b => decide (b < W.heap.size)) s.vars (s.fn H (ds ++ gs)).vars [])
    (hk : W.keptBut W' (· ∈ before)) : s.post enc P f apart fresh handsOn false W args v W' := by
  refine ⟨ds, gs, before, [], before, [], hW, hres _ _ _, hargs, hvars, World.keptBut_mono (fun p hp => ⟨hp, ?_⟩) hk, fun h => by cases h⟩
  exact Or.inr (Or.inl hp)

end Go.Proofs.Ytkhdjlahfbmkoaa
