/- Three bytes as an argument: opened to three numbers, and shut again. -/
import Derived.Test.YthjbiojbmjgkbaaDoorWo
namespace Go.Proofs.YthjbiojbmjgkbaaDoor
open Go.ChangeShapes Go.WideShapes Go.ChangeAt Go.RowKit

theorem arrB3 : WideMaps.ArrKey Tryd.prog 42 5 3 := ⟨by kernel_rfl, by kernel_rfl, by kernel_rfl, by kernel_rfl⟩
def datB3 {H : Type} (x y z : Nat) : DataW H := .agg [.lit (.int .u8 x), .lit (.int .u8 y), .lit (.int .u8 z)]
theorem u8_wf (n : Nat) (h : n < 256) : (Lit.int .u8 n).wf = true := WalkArith.wf_u8 (by omega)

section
variable {H : Type} {enc : TypeId × Value → H} {X : World} {base : Nat} {sp : Nat → Bool} {held : Bool}
set_option maxRecDepth 100000 in
theorem open_three {r : Reach} {b0 : Nat} {v : Value} {d : DataW H} {p : List MemPlace} (hv : Value.okWide Tryd.prog X r b0 42 v) (h : DataW.Trod enc Tryd.prog X base sp held 42 v d p) :
    ∃ x y z : Nat, (x < 256 ∧ y < 256 ∧ z < 256) ∧ v = .agg #[.int .u8 x, .int .u8 y, .int .u8 z] ∧ d = datB3 x y z ∧ p = [] := by
  obtain ⟨xs, rfl, hn⟩ := WideMaps.okWide_arr arrB3 hv
  obtain ⟨c0, c1, c2, rfl⟩ := Joins.array3 hn
  obtain ⟨fuel, hf⟩ := h
  obtain ⟨y0, y1, y2, m, hx, h0, h1, h2⟩ := trod_array3 arrB3.hu arrB3.one (by simpa [Value.cells] using hf)
  obtain ⟨a0, e0, rfl, w0⟩ := DataW.trod_int Tryd.underlying5 h0
  obtain ⟨a1, e1, rfl, w1⟩ := DataW.trod_int Tryd.underlying5 h1
  obtain ⟨a2, e2, rfl, w2⟩ := DataW.trod_int Tryd.underlying5 h2
  simp at e0 e1 e2
  subst e0 e1 e2
  have g0 := bounds_u8 w0
  have g1 := bounds_u8 w1
  have g2 := bounds_u8 w2
  simp only [Prod.mk.injEq] at hx
  obtain ⟨x, rfl⟩ := Int.eq_ofNat_of_zero_le g0.1
  obtain ⟨y, rfl⟩ := Int.eq_ofNat_of_zero_le g1.1
  obtain ⟨z, rfl⟩ := Int.eq_ofNat_of_zero_le g2.1
  exact ⟨x, y, z, ⟨by omega, by omega, by omega⟩, rfl, hx.1, by simpa using hx.2⟩
set_option maxRecDepth 100000 in
theorem shut_three {x y z : Nat} (h : x < 256 ∧ y < 256 ∧ z < 256) : DataW.Trod enc Tryd.prog X base sp held 42 (.agg #[.int .u8 x, .int .u8 y, .int .u8 z]) (datB3 x y z) [] := by
  have r3 : List.range 3 = [0, 1, 2] := rfl
  refine ⟨2, ?_⟩
  simp [DataW.trod, Value.cells, arrB3.hu, arrB3.one, arrB3.size, Tryd.underlying5, r3, u8_wf _ h.1, u8_wf _ h.2.1, u8_wf _ h.2.2, datB3]
end
end Go.Proofs.YthjbiojbmjgkbaaDoor
