/- policy's cards: the powers of ten as laid; PolicyHolds for all arguments. -/
import Derived.Test.YtenepkgjdoddgaaGreatDoorAm
import Derived.Test.YtenepkgjdoddgaaGreatDoorNi
namespace Go.Proofs.YtenepkgjdoddgaaGreatDoor
open Go.RowKit Go.ChangeShapes Go.WideShapes Go.ChangeAt

theorem t10_of_laid {W : World} (h : laidMet Tryz.prog [("math/bits.deBruijn32tab", Rows.laid_math_bits_deBruijn32tab), ("math/bits.deBruijn64tab", Rows.laid_math_bits_deBruijn64tab), ("internal/strconv.uint64pow10", Rows.laid_internal_strconv_uint64pow10), ("unicode/utf8.acceptRanges", Rows.laid_unicode_utf8_acceptRanges), ("strconv.ErrRange", Rows.laid_strconv_ErrRange), ("strconv.ErrSyntax", Rows.laid_strconv_ErrSyntax), ("unicode/utf8.first", Rows.laid_unicode_utf8_first)] W) : T10 W := by
  obtain ⟨ps, ⟨g0, t0, cs0, fuel0, p0, q0, _, _, _, _, hrest0, _⟩, _⟩ := h
  obtain ⟨g1, t1, cs1, fuel1, p1, q1, _, _, _, _, hrest, _⟩ := hrest0
  obtain ⟨g', t', cs, fuel, p, q, hg', ht', hvar, hd, _, _⟩ := hrest
  have hty : (Tryz.prog.globals[2]?).map (·.type) = some 206 := by kernel_rfl
  obtain rfl := Option.some.inj (named10.symm.trans hg')
  obtain rfl := Option.some.inj (hty.symm.trans ht')
  have hcs := Lib.cells_of_tab (P := Tryz.prog) (k := .u64) (zs := Lib.pow10Tab) (t := 206) (e := 22) (n := 20) (by kernel_rfl) (by kernel_rfl) (by kernel_rfl) (by kernel_rfl) hd
  unfold T10 Lib.TabIs
  rw [hvar, ← hcs]
theorem tt_of_laid {W : World} (h : laidMet Tryz.prog [("math/bits.deBruijn32tab", Rows.laid_math_bits_deBruijn32tab), ("math/bits.deBruijn64tab", Rows.laid_math_bits_deBruijn64tab), ("internal/strconv.uint64pow10", Rows.laid_internal_strconv_uint64pow10), ("unicode/utf8.acceptRanges", Rows.laid_unicode_utf8_acceptRanges), ("strconv.ErrRange", Rows.laid_strconv_ErrRange), ("strconv.ErrSyntax", Rows.laid_strconv_ErrSyntax), ("unicode/utf8.first", Rows.laid_unicode_utf8_first)] W) : TZ W ∧ T10 W := ⟨tz_of_laid h, t10_of_laid h⟩
set_option maxRecDepth 100000 in
theorem holds9_all {H : Type} {enc : TypeId × Value → H} {X : World} {base base2 : Nat} {sp sp2 : Nat → Bool} {held held2 : Bool} {r r2 : Reach} {b0 b2 : Nat} {v0 v1 : Value} {d0 d1 : DataW H} {p0 p1 : List MemPlace} (hv0 : Value.okWide Tryz.prog X r b0 27 v0) (h0 : DataW.Trod enc Tryz.prog X base sp held 27 v0 d0 p0) (hv1 : Value.okWide Tryz.prog X r2 b2 27 v1) (h1 : DataW.Trod enc Tryz.prog X base2 sp2 held2 27 v1 d1 p1) (hT : TZ X ∧ T10 X) :
    Calls Tryz.prog 8 #[v0, v1] X fun e w' => e = .returned (.bool true) ∧ Below X.heap.size X w' := by
  obtain ⟨df, cs, rs, x1, x2, c1, c2, hd, rfl, hcs, hrs⟩ := arg_policy hv0 h0
  obtain ⟨de, es, ts, x3, x4, c3, c4, he, rfl, hes, hts⟩ := arg_policy hv1 h1
  by_cases hl : (cs.length ≤ 20 ∧ rs.length ≤ 20) ∧ es.length ≤ 20 ∧ ts.length ≤ 20
  · exact holds9_walk df de x1 x2 x3 x4 cs.length c1 rs.length c2 es.length c3 ts.length c4 X cs es rs ts hd he hcs hrs hes hts hl hT.1 hT.2 fun Y hY => pworks_any Y (hT.1.keep hY)
  · exact holds9_long df de x1 x2 x3 x4 cs.length c1 rs.length c2 es.length c3 ts.length c4 X hl fun Y hY => pworks_any Y (hT.1.keep hY)
end Go.Proofs.YtenepkgjdoddgaaGreatDoor
