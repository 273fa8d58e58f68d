/- digest's law: bytes as an argument; DigestBlocks' walk, all lengths. -/
import Derived.Test.YtfknfopdinkmkaaHg
import Derived.Test.YtfknfopdinkmkaaTm
import Derived.Deep.Slices
import Derived.Carry
namespace Go.Proofs.Ytfknfopdinkmkaa
open Go.RowKit Go.ChangeShapes Go.WideShapes Go.ChangeAt

set_option maxRecDepth 100000 in
set_option maxHeartbeats 2000000 in
theorem blocks5_long (x : Option Addr) (n cap : Nat) (many : Int) (hn : 500 < n) (w : World) :
    Calls Try.prog 4 #[.slice x n cap, .int .i64 many] w fun e w' => e = .returned (.bool true) ∧ Below w.heap.size w w' := by
  have hnI : (500 : Int) < (n : Int) := by omega
  have k1 : Blk ((w.alloc (.cells #[.int .i64 many] 3)).alloc (.cells #[.bool false] 4)) (w.heap.size + 1) 4 #[.bool false] := Blk.newS w _ _ _
  have hW : Below w.heap.size w ((w.alloc (.cells #[.int .i64 many] 3)).alloc (.cells #[.bool false] 4)) := balloc (balloc (Below.refl _ _) _) _
  have H := Lib.hid (And.intro k1 hW)
  clear k1 hW
  refine (callsIn_wide (n := 20)).1 ?_
  refine callsIn_of_wp_marks Try.func4 rfl trivial ?_ rfl
  simp only [Try.ntmps4, List.size_toArray, List.length_cons, List.length_nil, Nat.reduceAdd, Nat.reduceSub, Array.replicate_succ, Array.replicate_zero, List.push_toArray, List.append_toArray, List.nil_append, List.cons_append]
  refine (wpIn_wide (n := 20)).2 ?_
  go_wp2_with fail
  refine (works_anyK _).mono ?_
  rintro e X ⟨rfl, h4⟩
  have kR := H.out.1.keep h4
  have hX := bstep H.out.2 h4
  have cR := cell_of_row _ _ 0 _ _ _ kR
  have fR := frozen_of_row _ _ 0 _ _ kR
  have bY : Blk (X.setCell ⟨w.heap.size + 1, 0, none⟩ (.bool true)) (w.heap.size + 1) 4 #[.bool true] := heap_setCell_same X (w.heap.size + 1) 0 _ _ (.bool true) kR
  have q0 := cell_of_row _ _ 0 _ _ _ bY
  have HE := Lib.hid (hX.setCell (p := ⟨w.heap.size + 1, 0, none⟩) (by simp) (.bool true))
  clear kR hX h4 bY H
  go_wp2_with fail
  exact ⟨.bool true, by simp [results, Try.results4, go_sem, q0], rfl, HE.out⟩
section
variable {H : Type} {enc : TypeId × Value → H} {X : World} {base : Nat} {sp : Nat → Bool} {held : Bool}
set_option maxRecDepth 100000 in
theorem open_sl {r : Reach} {b0 : Nat} {v : Value} {d : DataW H} {p : List MemPlace} (hv : Value.okWide Try.prog X r b0 22 v) (h : DataW.Trod enc Try.prog X base sp held 22 v d p) :
    ∃ x n cap f, v = .slice x n cap ∧ ((Value.slice x n cap = .slice none 0 0 ∧ n = 0) ∨ ∃ a c, Value.slice x n cap = .slice (some a) n c) ∧ SlAt X ⟨.slice x n cap, n, f⟩ := by
  have hu : Try.prog.underlying 22 = some (.slice 5) := by kernel_rfl
  have hc : Try.prog.cellsOf 5 = 1 := by kernel_rfl
  have h8 : Try.prog.underlying 5 = some (.int .u8) := by kernel_rfl
  obtain ⟨x, l, c, rfl⟩ := okWide_slice hu hv
  obtain ⟨fuel, hf⟩ := h
  rcases Go.Deep.open_slice1 hu hc hf with ⟨h0, _⟩ | ⟨a, len, cap, m, n, V, D, Pl, h0, hb, hl, hm, hmm, hx, hall⟩
  · simp [Value.cells] at h0
    obtain ⟨rfl, rfl, rfl⟩ := h0
    exact ⟨none, 0, 0, fun _ => 0, rfl, .inl ⟨rfl, rfl⟩, none, 0, rfl, Nat.le_refl _, by omega, fun h => by simp at h⟩
  · simp [Value.cells] at h0
    obtain ⟨rfl, rfl, rfl⟩ := h0
    have hlm : l ≤ m := by rw [hmm]; split <;> omega
    have hel : ∀ i, i < l → ∃ q : Nat, q < 256 ∧ X.cell? (a.add i) = some (.int .u8 q) := fun i hi => by
      obtain ⟨h1, h2⟩ := hall i (by omega)
      obtain ⟨z, e, _, hw⟩ := DataW.trod_int h8 h2
      simp at e
      have hz := bounds_u8 hw
      obtain ⟨q, rfl⟩ := Int.eq_ofNat_of_zero_le hz.1
      exact ⟨q, by omega, by rw [h1, e]⟩
    obtain ⟨f, hF⟩ := Go.Deep.choose_lt (α := Nat) (p := fun i q => q < 256 ∧ X.cell? (a.add i) = some (.int .u8 q)) hel
    refine ⟨some a, l, c, f, rfl, .inr ⟨a, c, rfl⟩, some a, c, rfl, hl, by unfold maxLen at hm; omega, fun h0 => ?_⟩
    obtain ⟨b, o, spot⟩ := a
    have h0' : 0 < l := h0
    have hspot : spot = none := by simpa [Addr.add] using World.cell?_spot (hF 0 h0').2
    subst hspot
    have hlt : b < X.heap.size := by
      have := World.block_lt_of_cell? X _ (hF 0 h0').2
      simpa [add_plain] using this
    refine ⟨b, o, rfl, hlt, fun k hk => ?_⟩
    have e1 := hF k hk
    rw [add_plain] at e1
    exact e1
end
theorem blocks5_all {H : Type} {enc : TypeId × Value → H} {W₀ : World} {base : Nat} {sp : Nat → Bool} {held : Bool} {r : Reach} {b0 : Nat} {v : Value} {d : DataW H} {p : List MemPlace} (many : Int) (hv : Value.okWide Try.prog W₀ r b0 22 v) (h : DataW.Trod enc Try.prog W₀ base sp held 22 v d p) :
    Calls Try.prog 4 #[v, .int .i64 many] W₀ fun e w' => e = .returned (.bool true) ∧ Below W₀.heap.size W₀ w' := by
  obtain ⟨x, n, cap, f, rfl, hv2, hs⟩ := open_sl hv h
  by_cases hn : n ≤ 500
  · exact blocks5_walk x n cap f many hn W₀ hv2 hs
  · exact blocks5_long x n cap many (by omega) W₀
/-- What a call that only makes memory owes its row, where an argument lies in memory. -/
theorem post_of_kept {H : Type} {enc : TypeId × Value → H} {P : Program} {f : Func} {s : ChangeSpec} {apart fresh handsOn : Bool} {W W' : World} {args : Array Value} {v : Value} {ds gs : List (DataW H)} {before : List MemPlace}
    (hW : DataW.Whole enc P f.params.toList s.vars apart W args.toList ds gs before)
    (hres : ∀ (b : Nat) (sp : Nat → Bool) (hd : Bool), DataW.TrodAll enc P W' b sp hd f.resultTypes.toList (v.resultList f.resultTypes.size) (s.fn H (ds ++ gs)).results [])
    (hargs : DataW.TrodAll enc P W' 0 (fun b => decide (b < W.heap.size)) true f.params.toList args.toList (s.fn H (ds ++ gs)).args before)
    (hvars : DataW.TrodVars enc P W' (fun b => decide (b < W.heap.size)) s.vars (s.fn H (ds ++ gs)).vars [])
    (hk : W.keptBut W' (· ∈ before)) : s.post enc P f apart fresh handsOn false W args v W' := by
  refine ⟨ds, gs, before, [], before, [], hW, hres _ _ _, hargs, hvars, World.keptBut_mono (fun p hp => ⟨hp, ?_⟩) hk, fun h => by cases h⟩
  exact Or.inr (Or.inl hp)
end Go.Proofs.Ytfknfopdinkmkaa
