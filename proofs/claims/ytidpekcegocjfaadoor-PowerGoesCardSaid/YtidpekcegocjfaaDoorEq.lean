/- power's law: PowerGoes: its arguments opened. -/
import Derived.Test.YtidpekcegocjfaaDoorEp
import Derived.Test.YtidpekcegocjfaaDoorBv
namespace Go.Proofs.YtidpekcegocjfaaDoor
open Go.RowKit Go.ChangeShapes Go.WideShapes Go.ChangeAt
attribute [local go_sem] ix0 ix1 ix2 ix3
attribute [local irreducible] sqF sq1
set_option maxHeartbeats 2000000 in
theorem sfold_emp (x g : Nat) (y : Option Addr) (cap : Nat) (w : World) :
    Calls Tryd.prog 27 #[W x, .func (.func 28) #[] #[.pointer (some ⟨g, 0, none⟩)], .slice y 0 cap] w fun e w' => e = .returned (W x) ∧ Below w.heap.size w w' := by
  go_enter Tryd.func27, Tryd.ntmps27
  go_wp2
  refine wp_scope_jumps 0 (fun _ _ => False) (fun _ _ => 0) rfl ?first ?pass
  case first =>
    go_wp2
    refine wp_loop_rounds 1 ?_
    rw [rounds_succ]; go_wp2
    exact bodyPost_ret (R := fun e w' => e = .returned (W x) ∧ Below w.heap.size w w') (v := W x) (by simp [results, Tryd.results27, go_sem]) rfl ⟨rfl, balloc (balloc (Below.refl _ _) _) _⟩
  case pass =>
    rintro _ _ h
    exact h.elim

theorem squares_emp (a : Nat) (x : Option Addr) (cap : Nat) (w : World) : Calls Tryd.prog 14 #[W a, .slice x 0 cap] w fun e w' => e = .returned (W 1) ∧ Below w.heap.size w w' :=
  squares_gen a _ _ w fun g X _ _ => sfold_emp 1 g x cap X
set_option maxRecDepth 100000 in
set_option maxHeartbeats 2000000 in
theorem rsquares_emp (a : Nat) (x : Option Addr) (cap : Nat) (w : World) :
    Calls Tryd.prog 15 #[W a, .slice x 0 cap] w fun e w' => e = .returned (W 1) ∧ Below w.heap.size w w' := by
  have k2 : Blk ((w.alloc (.cells (Wc a) 24)).alloc (.cells Zc4 24)) (w.heap.size + 1) 24 Zc4 := Blk.newS w _ _ _
  have hW : Below w.heap.size w ((w.alloc (.cells (Wc a) 24)).alloc (.cells Zc4 24)) := balloc (balloc (Below.refl _ _) _) _
  have HX := Lib.hid (And.intro k2 hW)
  clear k2 hW
  go_enter Tryd.func15, Tryd.ntmps15
  go_wp2_with fail
  refine (rof_any 1 (by decide) _).mono ?_
  rintro e w1 ⟨rfl, h1⟩
  have k2 := (HX.out.1.keep h1).alloc (.cells (Wc 1) 24)
  have hW := balloc (bstep HX.out.2 h1) (.cells (Wc 1) 24)
  clear HX h1
  go_upto_region 2 with fail
  have k3 := Blk.new w1 24 (Wc 1)
  obtain ⟨W2, hW2⟩ : ∃ W2, w1.alloc (.cells (Wc 1) 24) = W2 := ⟨_, rfl⟩
  rw [hW2] at k2 k3 hW ⊢
  clear hW2
  generalize w1.heap.size = gs at k3 ⊢
  have c0 := (cell_of_row _ _ 0 _ _ _ k3).trans (wc_get 1 0 (by omega))
  have c1 := (cell_of_row _ _ 1 _ _ _ k3).trans (wc_get 1 1 (by omega))
  have c2 := (cell_of_row _ _ 2 _ _ _ k3).trans (wc_get 1 2 (by omega))
  have c3 := (cell_of_row _ _ 3 _ _ _ k3).trans (wc_get 1 3 (by omega))
  have f0 := frozen_of_row _ _ 0 _ _ k2
  have f1 := frozen_of_row _ _ 1 _ _ k2
  have f2 := frozen_of_row _ _ 2 _ _ k2
  have f3 := frozen_of_row _ _ 3 _ _ k2
  have r0 := cell_of_row _ _ 0 _ _ _ k2
  have r1 := cell_of_row _ _ 1 _ _ _ k2
  have r2 := cell_of_row _ _ 2 _ _ _ k2
  have r3 := cell_of_row _ _ 3 _ _ _ k2
  have hG := grown_set4 W2 (w.heap.size + 1) (.int .u64 (lb (1) 0)) (.int .u64 (lb (1) 1)) (.int .u64 (lb (1) 2)) (.int .u64 (lb (1) 3))
  have HE := Lib.hid (step_world hW hG (Nat.le_refl _) (by omega))
  clear k2 k3 hW hG
  go_wp2_with fail
  refine wp_loop_rounds 1 ?_
  rw [rounds_succ]
  go_wp2_with fail
  exact bodyPost_ret (v := W 1) (by simp [results, Tryd.results15, go_sem, r0, r1, r2, r3]) rfl ⟨rfl, HE.out⟩

set_option maxRecDepth 100000 in
set_option maxHeartbeats 4000000 in
theorem goes_long (a : Nat) (n0 n1 : Int) (x : Option Addr) (L cap : Nat) (hL : 300 < L) (w : World) (hT : TZ w) :
    Calls Tryd.prog 4 #[W a, .agg #[.int .i64 n0, .int .i64 n1], .slice x L cap] w fun e w' => e = .returned (.bool true) ∧ Below w.heap.size w w' := by
  have hLi : (300 : Int) < (L : Int) := by omega
  have k2 : Blk (((w.alloc (.cells (Wc a) 24)).alloc (.cells #[.int .i64 n0, .int .i64 n1] 29)).alloc (.cells #[.bool false] 4)) (w.heap.size + 2) 4 #[.bool false] := by
    have h := Blk.newS (w.alloc (.cells (Wc a) 24)) (.cells #[.int .i64 n0, .int .i64 n1] 29) 4 #[.bool false]
    rwa [World.size_alloc] at h
  have hW : Below w.heap.size w (((w.alloc (.cells (Wc a) 24)).alloc (.cells #[.int .i64 n0, .int .i64 n1] 29)).alloc (.cells #[.bool false] 4)) := balloc (balloc (balloc (Below.refl _ _) _) _) _
  have HT := Lib.hid hT
  have H := Lib.hid (And.intro k2 hW)
  clear k2 hW hT
  refine (callsIn_wide (n := 20)).1 ?_
  refine callsIn_of_wp_marks Tryd.func4 rfl trivial ?_ rfl
  simp only [Tryd.ntmps4, List.size_toArray, List.length_cons, List.length_nil, Nat.reduceAdd, Nat.reduceSub, Array.replicate_succ, Array.replicate_zero, List.push_toArray, List.append_toArray, List.nil_append, List.cons_append]
  refine (wpIn_wide (n := 20)).2 ?_
  go_wp2_with fail
  refine (pworks_any _ (HT.out.below HT.out.lt H.out.2)).mono ?_
  rintro e X ⟨rfl, h4⟩
  have kR := H.out.1.keep h4
  have hX := bstep H.out.2 h4
  have cR := cell_of_row _ _ 0 _ _ _ kR
  have fR := frozen_of_row _ _ 0 _ _ kR
  have bY : Blk (X.setCell ⟨w.heap.size + 2, 0, none⟩ (.bool true)) (w.heap.size + 2) 4 #[.bool true] := heap_setCell_same X (w.heap.size + 2) 0 _ _ (.bool true) kR
  have q0 := cell_of_row _ _ 0 _ _ _ bY
  have HE := Lib.hid (hX.setCell (p := ⟨w.heap.size + 2, 0, none⟩) (by simp) (.bool true))
  clear kR hX h4 bY H
  go_wp2_with fail
  exact ⟨.bool true, by simp [results, Tryd.results4, go_sem, q0], rfl, HE.out⟩

theorem arrI2 : WideMaps.ArrKey Tryd.prog 29 3 2 := ⟨by kernel_rfl, by kernel_rfl, by kernel_rfl, by kernel_rfl⟩
def datI2 {H : Type} (x y : Int) : DataW H := .agg [.lit (.int .i64 x), .lit (.int .i64 y)]
theorem trod_array2 {H : Type} {enc : TypeId × Value → H} {P : Program} {w : World} {base : Nat} {spare : Nat → Bool} {held : Bool} {t e : TypeId} {fuel : Nat} {c0 c1 : Value} {x : DataW H × List MemPlace} (ht : P.underlying t = some (.array 2 e)) (hce : P.cellsOf e = 1)
    (h : DataW.trod enc P w base spare held fuel t [c0, c1] = some x) :
    ∃ y0 y1 n, x = (.agg [y0.1, y1.1], y0.2 ++ y1.2) ∧ DataW.trod enc P w base spare held n e [c0] = some y0 ∧ DataW.trod enc P w base spare held n e [c1] = some y1 := by
  cases fuel with
  | zero => simp [DataW.trod] at h
  | succ n =>
    unfold DataW.trod at h
    rw [ht] at h
    have r2 : List.range 2 = [0, 1] := rfl
    simp [r2, hce] at h
    obtain ⟨_, h⟩ := h
    cases h0 : DataW.trod enc P w base spare held n e [c0] with
    | none => simp [h0] at h
    | some y0 =>
      cases h1 : DataW.trod enc P w base spare held n e [c1] with
      | none => simp [h0, h1] at h
      | some y1 =>
        simp [h0, h1] at h
        exact ⟨y0, y1, n, h.symm, h0, h1⟩
section
variable {H : Type} {enc : TypeId × Value → H} {X : World} {base : Nat} {sp : Nat → Bool} {held : Bool}
set_option maxRecDepth 100000 in
theorem open_two {r : Reach} {b0 : Nat} {v : Value} {d : DataW H} {p : List MemPlace} (hv : Value.okWide Tryd.prog X r b0 29 v) (h : DataW.Trod enc Tryd.prog X base sp held 29 v d p) :
    ∃ x y : Int, ((Lit.int .i64 x).wf = true ∧ (Lit.int .i64 y).wf = true) ∧ v = .agg #[.int .i64 x, .int .i64 y] ∧ d = datI2 x y ∧ p = [] := by
  obtain ⟨xs, rfl, hn⟩ := WideMaps.okWide_arr arrI2 hv
  obtain ⟨c0, c1, rfl⟩ := Joins.array2 hn
  obtain ⟨fuel, hf⟩ := h
  obtain ⟨y0, y1, m, hx, h0, h1⟩ := trod_array2 arrI2.hu arrI2.one (by simpa [Value.cells] using hf)
  obtain ⟨a0, e0, rfl, w0⟩ := DataW.trod_int Tryd.underlying3 h0
  obtain ⟨a1, e1, rfl, w1⟩ := DataW.trod_int Tryd.underlying3 h1
  simp at e0 e1
  subst e0 e1
  simp only [Prod.mk.injEq] at hx
  exact ⟨_, _, ⟨w0, w1⟩, rfl, hx.1, by simpa using hx.2⟩
set_option maxRecDepth 100000 in
theorem shut_two {x y : Int} (h : (Lit.int .i64 x).wf = true ∧ (Lit.int .i64 y).wf = true) : DataW.Trod enc Tryd.prog X base sp held 29 (.agg #[.int .i64 x, .int .i64 y]) (datI2 x y) [] := by
  have r2 : List.range 2 = [0, 1] := rfl
  refine ⟨2, ?_⟩
  simp [DataW.trod, Value.cells, arrI2.hu, arrI2.one, arrI2.size, Tryd.underlying3, r2, h.1, h.2, datI2]
set_option maxRecDepth 100000 in
theorem open_truths {r : Reach} {b0 : Nat} {v : Value} {d : DataW H} {p : List MemPlace} (hv : Value.okWide Tryd.prog X r b0 30 v) (h : DataW.Trod enc Tryd.prog X base sp held 30 v d p) :
    (∃ x cap, v = .slice x 0 cap) ∨ ∃ (b o n cap : Nat) (f : Nat → Bool), v = .slice (some ⟨b, o, none⟩) n cap ∧ n ≤ 9223372036854775807 ∧ b < X.heap.size ∧ ∀ k, k < n → X.cell? ⟨b, o + k, none⟩ = some (.bool (f k)) := by
  have hu : Tryd.prog.underlying 30 = some (.slice 4) := by kernel_rfl
  have hc : Tryd.prog.cellsOf 4 = 1 := by kernel_rfl
  have h8 : Tryd.prog.underlying 4 = some .bool := by kernel_rfl
  obtain ⟨x, l, c, rfl⟩ := okWide_slice hu hv
  obtain ⟨fuel, hf⟩ := h
  rcases Go.Deep.open_slice1 hu hc hf with ⟨h0, _⟩ | ⟨a, len, cap, m, n, V, D, Pl, h0, hb, hl, hm, hmm, hx, hall⟩
  · simp [Value.cells] at h0
    obtain ⟨rfl, rfl, rfl⟩ := h0
    exact .inl ⟨_, _, rfl⟩
  · simp [Value.cells] at h0
    obtain ⟨rfl, rfl, rfl⟩ := h0
    by_cases h0 : l = 0
    · subst h0; exact .inl ⟨_, _, rfl⟩
    · right
      have hlm : l ≤ m := by rw [hmm]; split <;> omega
      have hel : ∀ i, i < l → ∃ q : Bool, X.cell? (a.add i) = some (.bool q) := fun i hi => by
        obtain ⟨h1, h2⟩ := hall i (by omega)
        obtain ⟨z, e, _⟩ := DataW.trod_bool h8 h2
        simp at e
        exact ⟨z, by rw [h1, e]⟩
      obtain ⟨b, o, spot⟩ := a
      obtain ⟨q0, g0⟩ := hel 0 (by omega)
      have hspot : spot = none := by simpa [Addr.add] using World.cell?_spot g0
      subst hspot
      obtain ⟨f, hF⟩ := Go.Deep.choose_lt (α := Bool) (p := fun i q => X.cell? ((⟨b, o, none⟩ : Addr).add i) = some (.bool q)) hel
      have hlt : b < X.heap.size := by
        have := World.block_lt_of_cell? X _ g0
        simpa [add_plain] using this
      refine ⟨b, o, l, c, f, rfl, by unfold maxLen at hm; omega, hlt, fun k hk => ?_⟩
      have e1 := hF k hk
      rwa [add_plain] at e1
end
theorem goes_all {H : Type} {enc : TypeId × Value → H} {W₀ : World} {base : Nat} {sp : Nat → Bool} {held : Bool} {r : Reach} {b0 : Nat} {v : Value} {d : DataW H} {p : List MemPlace} (a : Nat) (n0 n1 : Int) (hv : Value.okWide Tryd.prog W₀ r b0 30 v) (h : DataW.Trod enc Tryd.prog W₀ base sp held 30 v d p) (hT : TZ W₀) :
    Calls Tryd.prog 4 #[W a, .agg #[.int .i64 n0, .int .i64 n1], v] W₀ fun e w' => e = .returned (.bool true) ∧ Below W₀.heap.size W₀ w' := by
  rcases open_truths hv h with ⟨x, cap, rfl⟩ | ⟨b, o, n, cap, f, rfl, hn, hb, hf⟩
  · exact goes_walk a 1 n0 n1 x 0 cap (by omega) W₀ hT (fun X _ => squares_emp a x cap X) (fun X _ => rsquares_emp a x cap X)
  · by_cases hL : n ≤ 300
    · exact goes_walk a (sqF a f 1 n) n0 n1 _ n cap hL W₀ hT
        (fun X hX => squares_any a b o n cap f X hn (Nat.lt_of_lt_of_le hb hX.size) fun j hj => (hX.cell (p := ⟨b, o + j, none⟩) hb).trans (hf j hj))
        (fun X hX => rsquares_any a b o n cap f X (by omega) (Nat.lt_of_lt_of_le hb hX.size) fun j hj => (hX.cell (p := ⟨b, o + j, none⟩) hb).trans (hf j hj))
    · exact goes_long a n0 n1 _ n cap (by omega) W₀ hT
end Go.Proofs.YtidpekcegocjfaaDoor
