/- The sum of many (WordAdds): of none, and the opening of a slice of words. -/
import Derived.Test.YtimmcljpfpimbaaDoorLw
import Derived.Test.YtimmcljpfpimbaaDoorWo
import Derived.Deep.Slices
import Derived.Carry
namespace Go.Proofs.YtimmcljpfpimbaaDoor
open Go.RowKit Go.ChangeShapes Go.WideShapes Go.ChangeAt

/-- The sum of none. -/
theorem add_empty (x : Option Addr) (cap : Nat) (w : World) :
    Calls Tryd.prog 11 #[.slice x 0 cap] w fun e w' => e = .returned (W 0) ∧ Below w.heap.size w w' := by
  have e : W 0 = .agg #[.int .u64 0, .int .u64 0, .int .u64 0, .int .u64 0] := by unfold W; simp only [lb_zero]
  rw [e]; clear e
  go_enter Tryd.func11, Tryd.ntmps11
  go_wp2
  refine wp_loop_rounds 1 ?_
  rw [rounds_succ]; go_wp2
  exact bodyPost_ret (v := .agg #[.int .u64 0, .int .u64 0, .int .u64 0, .int .u64 0]) (by simp [results, Tryd.results11, go_sem]) rfl ⟨rfl, balloc (balloc (Below.refl _ _) _) _⟩

set_option maxRecDepth 100000 in
set_option maxHeartbeats 4000000 in
theorem adds_empty (x : Option Addr) (cap : Nat) (w : World) :
    Calls Tryd.prog 4 #[.slice x 0 cap] w fun e w' => e = .returned (.bool true) ∧ Below w.heap.size w w' := by
  go_enter Tryd.func4, Tryd.ntmps4
  go_wp2_with fail
  have hs := Blk.new w 24 (Wc 0)
  have hB : Below w.heap.size w (w.alloc (.cells (Wc 0) 24)) := balloc (Below.refl _ _) _
  have e0 : Wc 0 = #[.int .u64 0, .int .u64 0, .int .u64 0, .int .u64 0] := by unfold Wc; simp only [lb_zero]
  obtain ⟨wr, hw⟩ : ∃ wr, w.alloc (.cells (Wc 0) 24) = wr := ⟨_, rfl⟩
  rw [hw] at hs hB
  rw [e0] at hw
  rw [hw]
  clear hw e0
  have HB := Lib.hid hB
  refine wp_loop_rounds 1 ?_
  rw [rounds_succ]
  have c0 : ∀ w', Below wr.heap.size wr w' → w'.cell? ⟨w.heap.size, 0, none⟩ = some (.int .u64 (lb 0 0)) := fun w' h => (h.cell (p := ⟨w.heap.size, 0, none⟩) hs.lt).trans ((cell_of_row wr _ 0 _ _ _ hs).trans (wc_get _ 0 (by omega)))
  have c1 : ∀ w', Below wr.heap.size wr w' → w'.cell? ⟨w.heap.size, 1, none⟩ = some (.int .u64 (lb 0 1)) := fun w' h => (h.cell (p := ⟨w.heap.size, 1, none⟩) hs.lt).trans ((cell_of_row wr _ 1 _ _ _ hs).trans (wc_get _ 1 (by omega)))
  have c2 : ∀ w', Below wr.heap.size wr w' → w'.cell? ⟨w.heap.size, 2, none⟩ = some (.int .u64 (lb 0 2)) := fun w' h => (h.cell (p := ⟨w.heap.size, 2, none⟩) hs.lt).trans ((cell_of_row wr _ 2 _ _ _ hs).trans (wc_get _ 2 (by omega)))
  have c3 : ∀ w', Below wr.heap.size wr w' → w'.cell? ⟨w.heap.size, 3, none⟩ = some (.int .u64 (lb 0 3)) := fun w' h => (h.cell (p := ⟨w.heap.size, 3, none⟩) hs.lt).trans ((cell_of_row wr _ 3 _ _ _ hs).trans (wc_get _ 3 (by omega)))
  have h1 : ∀ w, (binOp .eql 24 (W 0) (W 0)).run Tryd.prog w = .ok (.bool true) w := fun w => by rw [eqW]; simp
  clear hs hB
  go_wp2_with fail
  go_region_held3 (fun w' => Below wr.heap.size wr w') (first | assumption | exact (Below.refl _ _).drew | exact bstep' (by assumption) (by assumption))
    (first
      | (go_at_call 11; refine (add_empty _ _ _).mono ?_; rintro e wk ⟨rfl, hk2⟩)
      | (go_at_call 21; refine (works_any _).mono ?_; rintro e wk ⟨rfl, hk2⟩))
  all_goals (go_wp2; go_ret; exact ⟨rfl, bstep HB.out (by assumption)⟩)

section
variable {H : Type} {enc : TypeId × Value → H} {X : World} {base : Nat} {sp : Nat → Bool} {held : Bool}
/-- Four cells that read as a word. -/
theorem word_cells {m : Nat} {cs : List Value} {x : DataW H × List MemPlace} (h : DataW.trod enc Tryd.prog X base sp held m 24 cs = some x) (hl : cs.length = 4) :
    ∃ n, n < MM ∧ cs = [.int .u64 (lb n 0), .int .u64 (lb n 1), .int .u64 (lb n 2), .int .u64 (lb n 3)] := by
  obtain ⟨c0, c1, c2, c3, rfl⟩ : ∃ c0 c1 c2 c3, cs = [c0, c1, c2, c3] := by
    match cs, hl with
    | [a, b, c, d], _ => exact ⟨a, b, c, d, rfl⟩
  obtain ⟨y0, y1, y2, y3, m, hx, h0, h1, h2, h3⟩ := trod_array4 arrW.hu arrW.one h
  obtain ⟨a0, e0, rfl, w0⟩ := DataW.trod_int Tryd.underlying22 h0
  obtain ⟨a1, e1, rfl, w1⟩ := DataW.trod_int Tryd.underlying22 h1
  obtain ⟨a2, e2, rfl, w2⟩ := DataW.trod_int Tryd.underlying22 h2
  obtain ⟨a3, e3, rfl, w3⟩ := DataW.trod_int Tryd.underlying22 h3
  simp at e0 e1 e2 e3
  subst e0 e1 e2 e3
  have g0 := bounds_u64 w0
  have g1 := bounds_u64 w1
  have g2 := bounds_u64 w2
  have g3 := bounds_u64 w3
  obtain ⟨n, hM, rfl, rfl, rfl, rfl⟩ := word_of ⟨g0.1, g0.2⟩ ⟨g1.1, g1.2⟩ ⟨g2.1, g2.2⟩ ⟨g3.1, g3.2⟩
  exact ⟨n, hM, rfl⟩
/-- A slice of words as an argument: empty, or its words lie there. -/
theorem open_words {r : Reach} {b0 : Nat} {v : Value} {d : DataW H} {p : List MemPlace} (hv : Value.okWide Tryd.prog X r b0 33 v) (h : DataW.Trod enc Tryd.prog X base sp held 33 v d p) :
    (∃ x cap, v = .slice x 0 cap) ∨ ∃ b o n cap f, v = .slice (some ⟨b, o, none⟩) n cap ∧ n ≤ 9223372036854775807 ∧ b < X.heap.size ∧ WordsAt X b o n f := by
  have hu : Tryd.prog.underlying 33 = some (.slice 24) := by kernel_rfl
  have hc : Tryd.prog.cellsOf 24 = 4 := by kernel_rfl
  obtain ⟨x, l, c, rfl⟩ := okWide_slice hu hv
  obtain ⟨fuel, hf⟩ := h
  rcases Go.Deep.open_slice hu hf with ⟨h0, _⟩ | ⟨a, len, cap, m, n, D, Pl, h0, hb, hl, hm, hmm, hx, hall⟩
  · simp [Value.cells] at h0
    obtain ⟨rfl, rfl, rfl⟩ := h0
    exact .inl ⟨_, _, rfl⟩
  · simp [Value.cells] at h0
    obtain ⟨rfl, rfl, rfl⟩ := h0
    by_cases h0 : l = 0
    · subst h0; exact .inl ⟨_, _, rfl⟩
    · right
      have hlm : l ≤ m := by rw [hmm]; split <;> omega
      rw [hc] at hall
      have hel : ∀ i, i < l → ∃ q, q < MM ∧ X.cell? ((a.add (i * 4)).add 0) = some (.int .u64 (lb q 0)) ∧ X.cell? ((a.add (i * 4)).add 1) = some (.int .u64 (lb q 1)) ∧ X.cell? ((a.add (i * 4)).add 2) = some (.int .u64 (lb q 2)) ∧ X.cell? ((a.add (i * 4)).add 3) = some (.int .u64 (lb q 3)) := fun i hi => by
        obtain ⟨cs, h1, h2⟩ := hall i (by omega)
        obtain ⟨_, h3, h4⟩ := World.cells?_some h1
        obtain ⟨q, hq, rfl⟩ := word_cells h2 h3
        exact ⟨q, hq, h4 0 (by omega), h4 1 (by omega), h4 2 (by omega), h4 3 (by omega)⟩
      obtain ⟨b, o, spot⟩ := a
      obtain ⟨q0, _, g0, _⟩ := hel 0 (by omega)
      have hspot : spot = none := by simpa [Addr.add] using World.cell?_spot g0
      subst hspot
      obtain ⟨f, hF⟩ := Go.Deep.choose_lt (α := Nat) (p := fun i q => q < MM ∧ X.cell? (((⟨b, o, none⟩ : Addr).add (i * 4)).add 0) = some (.int .u64 (lb q 0)) ∧ X.cell? (((⟨b, o, none⟩ : Addr).add (i * 4)).add 1) = some (.int .u64 (lb q 1)) ∧ X.cell? (((⟨b, o, none⟩ : Addr).add (i * 4)).add 2) = some (.int .u64 (lb q 2)) ∧ X.cell? (((⟨b, o, none⟩ : Addr).add (i * 4)).add 3) = some (.int .u64 (lb q 3))) hel
      have hlt : b < X.heap.size := by
        have := World.block_lt_of_cell? X _ g0
        simpa [add_plain] using this
      refine ⟨b, o, l, c, f, rfl, by unfold maxLen at hm; omega, hlt, fun k hk => ?_⟩
      obtain ⟨_, e0, e1, e2, e3⟩ := hF k hk
      simp only [add_plain, Nat.add_zero] at e0 e1 e2 e3
      exact ⟨e0, e1, e2, e3⟩
end
end Go.Proofs.YtimmcljpfpimbaaDoor
