/- policy's laws: PolicyMany for all arguments. -/
import Derived.Test.YtenepkgjdoddgaaGreatDoorNj
import Derived.Test.YtenepkgjdoddgaaGreatDoorNl
namespace Go.Proofs.YtenepkgjdoddgaaGreatDoor
open Go.RowKit Go.ChangeShapes Go.WideShapes Go.ChangeAt

theorem arrI2 : WideMaps.ArrKey Tryz.prog 69 3 2 := ⟨by kernel_rfl, by kernel_rfl, by kernel_rfl, by kernel_rfl⟩
def datI2 {H : Type} (x y : Int) : DataW H := .agg [.lit (.int .i64 x), .lit (.int .i64 y)]
theorem trod_array2 {H : Type} {enc : TypeId × Value → H} {P : Program} {w : World} {base : Nat} {spare : Nat → Bool} {held : Bool} {t e : TypeId} {fuel : Nat} {c0 c1 : Value} {x : DataW H × List MemPlace} (ht : P.underlying t = some (.array 2 e)) (hce : P.cellsOf e = 1)
    (h : DataW.trod enc P w base spare held fuel t [c0, c1] = some x) :
    ∃ y0 y1 n, x = (.agg [y0.1, y1.1], y0.2 ++ y1.2) ∧ DataW.trod enc P w base spare held n e [c0] = some y0 ∧ DataW.trod enc P w base spare held n e [c1] = some y1 := by
  cases fuel with
  | zero => simp [DataW.trod] at h
  | succ n =>
    unfold DataW.trod at h
    rw [ht] at h
    have r2 : List.range 2 = [0, 1] := rfl
    simp [r2, hce] at h
    obtain ⟨_, h⟩ := h
    cases h0 : DataW.trod enc P w base spare held n e [c0] with
    | none => simp [h0] at h
    | some y0 =>
      cases h1 : DataW.trod enc P w base spare held n e [c1] with
      | none => simp [h0, h1] at h
      | some y1 =>
        simp [h0, h1] at h
        exact ⟨y0, y1, n, h.symm, h0, h1⟩
section
variable {H : Type} {enc : TypeId × Value → H} {X : World} {base : Nat} {sp : Nat → Bool} {held : Bool}
set_option maxRecDepth 100000 in
theorem open_two {r : Reach} {b0 : Nat} {v : Value} {d : DataW H} {p : List MemPlace} (hv : Value.okWide Tryz.prog X r b0 69 v) (h : DataW.Trod enc Tryz.prog X base sp held 69 v d p) :
    ∃ x y : Int, ((Lit.int .i64 x).wf = true ∧ (Lit.int .i64 y).wf = true) ∧ v = .agg #[.int .i64 x, .int .i64 y] ∧ d = datI2 x y ∧ p = [] := by
  obtain ⟨xs, rfl, hn⟩ := WideMaps.okWide_arr arrI2 hv
  obtain ⟨c0, c1, rfl⟩ := Joins.array2 hn
  obtain ⟨fuel, hf⟩ := h
  obtain ⟨y0, y1, m, hx, h0, h1⟩ := trod_array2 arrI2.hu arrI2.one (by simpa [Value.cells] using hf)
  obtain ⟨a0, e0, rfl, w0⟩ := DataW.trod_int Tryz.underlying3 h0
  obtain ⟨a1, e1, rfl, w1⟩ := DataW.trod_int Tryz.underlying3 h1
  simp at e0 e1
  subst e0 e1
  simp only [Prod.mk.injEq] at hx
  exact ⟨_, _, ⟨w0, w1⟩, rfl, hx.1, by simpa using hx.2⟩
set_option maxRecDepth 100000 in
theorem shut_two {x y : Int} (h : (Lit.int .i64 x).wf = true ∧ (Lit.int .i64 y).wf = true) : DataW.Trod enc Tryz.prog X base sp held 69 (.agg #[.int .i64 x, .int .i64 y]) (datI2 x y) [] := by
  have r2 : List.range 2 = [0, 1] := rfl
  refine ⟨2, ?_⟩
  simp [DataW.trod, Value.cells, arrI2.hu, arrI2.one, arrI2.size, Tryz.underlying3, r2, h.1, h.2, datI2]
end
set_option maxRecDepth 100000 in
set_option maxHeartbeats 4000000 in
theorem many_long (a b : Int) (w : World) (h : ¬ ((-1 ≤ a ∧ a ≤ 1) ∧ -1 ≤ b ∧ b ≤ 1)) (hWk : ∀ Y, Below w.heap.size w Y → Calls Tryz.prog 10 #[] Y fun e w' => e = .returned (.bool true) ∧ Below Y.heap.size Y w') :
    Calls Tryz.prog 7 #[.agg #[.int .i64 a, .int .i64 b]] w fun r w' => r = .returned (.bool true) ∧ Below w.heap.size w w' := by
  obtain ⟨X, hX⟩ : ∃ X, w.alloc (.cells #[.int .i64 a, .int .i64 b] 69) = X := ⟨_, rfl⟩
  have hW : Below w.heap.size w X := by rw [← hX]; exact balloc (Below.refl _ _) _
  have HX := Lib.hid hX
  have HWk := Lib.hid (fun (Y : World) (hY : Below X.heap.size X Y) => hWk Y (hW.trans (hY.mono hW.size)))
  have H0 := Lib.hid hW
  clear hX hW hWk
  by_cases h1 : a < -1
  · clear h
    go_enter Tryz.func7, Tryz.ntmps7
    go_wp2_with (first | (go_at_call 10; rw [HX.out]; refine (HWk.out _ (Below.refl _ _)).mono ?_; rintro r w9 ⟨rfl, h9⟩; have H9 := Lib.hid h9; clear h9) | fail)
    go_ret
    exact ⟨rfl, H0.out.trans (H9.out.mono H0.out.size)⟩
  · by_cases h2 : 1 < a
    · clear h
      go_enter Tryz.func7, Tryz.ntmps7
      go_wp2_with (first | (go_at_call 10; rw [HX.out]; refine (HWk.out _ (Below.refl _ _)).mono ?_; rintro r w9 ⟨rfl, h9⟩; have H9 := Lib.hid h9; clear h9) | fail)
      go_ret
      exact ⟨rfl, H0.out.trans (H9.out.mono H0.out.size)⟩
    · by_cases h3 : b < -1
      · clear h
        go_enter Tryz.func7, Tryz.ntmps7
        go_wp2_with (first | (go_at_call 10; rw [HX.out]; refine (HWk.out _ (Below.refl _ _)).mono ?_; rintro r w9 ⟨rfl, h9⟩; have H9 := Lib.hid h9; clear h9) | fail)
        go_ret
        exact ⟨rfl, H0.out.trans (H9.out.mono H0.out.size)⟩
      · have h4 : 1 < b := by omega
        clear h
        go_enter Tryz.func7, Tryz.ntmps7
        go_wp2_with (first | (go_at_call 10; rw [HX.out]; refine (HWk.out _ (Below.refl _ _)).mono ?_; rintro r w9 ⟨rfl, h9⟩; have H9 := Lib.hid h9; clear h9) | fail)
        go_ret
        exact ⟨rfl, H0.out.trans (H9.out.mono H0.out.size)⟩
theorem many_all (a b : Int) (W : World) (hT : TZ W ∧ T10 W) : Calls Tryz.prog 7 #[.agg #[.int .i64 a, .int .i64 b]] W fun r w' => r = .returned (.bool true) ∧ Below W.heap.size W w' := by
  by_cases h : (-1 ≤ a ∧ a ≤ 1) ∧ -1 ≤ b ∧ b ≤ 1
  · obtain ⟨m0, hm0⟩ := Int.eq_ofNat_of_zero_le (show (0 : Int) ≤ 64 + a by omega)
    obtain ⟨m1, hm1⟩ := Int.eq_ofNat_of_zero_le (show (0 : Int) ≤ 64 + b by omega)
    exact many_walk a b m0 m1 W hm0 hm1 (by omega) (by omega) hT.1 hT.2 fun Y hY => pworks_any Y (hT.1.keep hY)
  · exact many_long a b W h fun Y hY => pworks_any Y (hT.1.keep hY)
end Go.Proofs.YtenepkgjdoddgaaGreatDoor
