/- Texts laid into one: Qa. -/
import Derived.Test.YtcfnhilcpfiocaaChecked
import Derived.Shelf.SlSortCmp.NoneTotal
import Derived.Test.YtcfnhilcpfiocaaSte
import Derived.Test.YtcfnhilcpfiocaaStj
import Derived.Test.YtcfnhilcpfiocaaIo
import Derived.Test.YtcfnhilcpfiocaaRa
/- the shelf's contracts, laid at this program. -/
namespace Go.Proofs.Ytcfnhilcpfiocaa
open Go.RowKit Go.Shelf

def laysSort_ren : Go.Shelf.Ren := ⟨fun | 6 => 49 | 15 => 57 | 14 => 56 | 28 => 67 | 29 => 68 | 20 => 59 | 21 => 60 | 22 => 61 | 23 => 62 | 24 => 63 | 25 => 64 | 26 => 65 | 27 => 66 | 46 => 71 | 47 => 72 | 48 => 73 | 49 => 74 | 50 => 75 | 57 => 76 | n => n, fun | 22 => 68 | 24 => 25 | 25 => 70 | 3 => 3 | 39 => 95 | 0 => 0 | 53 => 106 | 55 => 23 | 4 => 4 | 46 => 99 | 45 => 98 | 50 => 103 | 5 => 5 | 9 => 9 | 66 => 111 | 70 => 115 | 76 => 117 | 77 => 118 | n => n, fun | n => n⟩
theorem laysSort : Go.Proofs.SlLaysF0.n6 Try.prog laysSort_ren where
  mixed := by kernel_rfl
  f6 := ⟨"slices.SortFunc[[]excise/api.Word,excise/api.Word]", by decide, Try.func49.trans (congrArg some (by kernel_rfl))⟩
  f14 := ⟨"slices.pdqsortCmpFunc[excise/api.Word]", by decide, Try.func56.trans (congrArg some (by kernel_rfl))⟩
  f15 := Try.func57.trans (congrArg some (by kernel_rfl))
  f20 := ⟨"slices.insertionSortCmpFunc[excise/api.Word]", by decide, Try.func59.trans (congrArg some (by kernel_rfl))⟩
  f21 := ⟨"slices.heapSortCmpFunc[excise/api.Word]", by decide, Try.func60.trans (congrArg some (by kernel_rfl))⟩
  f22 := ⟨"slices.breakPatternsCmpFunc[excise/api.Word]", by decide, Try.func61.trans (congrArg some (by kernel_rfl))⟩
  f23 := ⟨"slices.choosePivotCmpFunc[excise/api.Word]", by decide, Try.func62.trans (congrArg some (by kernel_rfl))⟩
  f24 := ⟨"slices.reverseRangeCmpFunc[excise/api.Word]", by decide, Try.func63.trans (congrArg some (by kernel_rfl))⟩
  f25 := ⟨"slices.partialInsertionSortCmpFunc[excise/api.Word]", by decide, Try.func64.trans (congrArg some (by kernel_rfl))⟩
  f26 := ⟨"slices.partitionEqualCmpFunc[excise/api.Word]", by decide, Try.func65.trans (congrArg some (by kernel_rfl))⟩
  f27 := ⟨"slices.partitionCmpFunc[excise/api.Word]", by decide, Try.func66.trans (congrArg some (by kernel_rfl))⟩
  f28 := Try.func67.trans (congrArg some (by kernel_rfl))
  f29 := Try.func68.trans (congrArg some (by kernel_rfl))
  f46 := ⟨"slices.siftDownCmpFunc[excise/api.Word]", by decide, Try.func71.trans (congrArg some (by kernel_rfl))⟩
  f47 := Try.func72.trans (congrArg some (by kernel_rfl))
  f48 := Try.func73.trans (congrArg some (by kernel_rfl))
  f49 := ⟨"slices.medianAdjacentCmpFunc[excise/api.Word]", by decide, Try.func74.trans (congrArg some (by kernel_rfl))⟩
  f50 := ⟨"slices.medianCmpFunc[excise/api.Word]", by decide, Try.func75.trans (congrArg some (by kernel_rfl))⟩
  f57 := ⟨"slices.order2CmpFunc[excise/api.Word]", by decide, Try.func76.trans (congrArg some (by kernel_rfl))⟩
  t0 := Try.underlying0
  a0 := Try.isAgg0
  z0 := Try.sizeOf0
  v0 := Try.zeroValue0
  t3 := Try.underlying3
  a3 := Try.isAgg3
  z3 := Try.sizeOf3
  v3 := Try.zeroValue3
  t4 := Try.underlying4
  a4 := Try.isAgg4
  z4 := Try.sizeOf4
  v4 := Try.zeroValue4
  t5 := Try.underlying5
  a5 := Try.isAgg5
  z5 := Try.sizeOf5
  v5 := Try.zeroValue5
  t9 := Try.underlying9
  a9 := Try.isAgg9
  z9 := Try.sizeOf9
  v9 := Try.zeroValue9
  t22 := Try.underlying68
  a22 := Try.isAgg68
  z22 := Try.sizeOf68
  v22 := Try.zeroValue68
  t25 := Try.underlying70
  a25 := Try.isAgg70
  z25 := Try.sizeOf70
  v25 := Try.zeroValue70
  t39 := Try.underlying95
  a39 := Try.isAgg95
  z39 := Try.sizeOf95
  v39 := Try.zeroValue95
  t45 := Try.underlying98
  a45 := Try.isAgg98
  z45 := Try.sizeOf98
  v45 := Try.zeroValue98
  t46 := Try.underlying99
  a46 := Try.isAgg99
  z46 := Try.sizeOf99
  v46 := Try.zeroValue99
  t50 := Try.underlying103
  a50 := Try.isAgg103
  z50 := Try.sizeOf103
  v50 := Try.zeroValue103
  t53 := Try.underlying106
  a53 := Try.isAgg106
  z53 := Try.sizeOf106
  v53 := Try.zeroValue106
  t55 := Try.underlying23
  a55 := Try.isAgg23
  z55 := Try.sizeOf23
  v55 := Try.zeroValue23
  t66 := Try.underlying111
  a66 := Try.isAgg111
  z66 := Try.sizeOf111
  v66 := Try.zeroValue111
  t70 := Try.underlying115
  a70 := Try.isAgg115
  z70 := Try.sizeOf115
  v70 := Try.zeroValue115
  t76 := Try.underlying117
  a76 := Try.isAgg117
  z76 := Try.sizeOf117
  v76 := Try.zeroValue117
  t77 := Try.underlying118
  a77 := Try.isAgg118
  z77 := Try.sizeOf118
  v77 := Try.zeroValue118
end Go.Proofs.Ytcfnhilcpfiocaa

/- slot: the order of words as a sort's comparison: what it leaves of the world. -/
namespace Go.Proofs.Ytcfnhilcpfiocaa
open Go.RowKit Go.Shelf Go.Sort

/-- Only draws and new blocks. -/
def BelD (w w' : World) : Prop := Below w.heap.size w w' ∧ w.drawn ≤ w'.drawn
theorem BelD.refl (w : World) : BelD w w := ⟨Below.refl _ _, Nat.le_refl _⟩
theorem BelD.alloc {w w' : World} (h : BelD w w') (o : Obj) : BelD w (w'.alloc o) := ⟨balloc h.1 _, h.2⟩
theorem BelD.drewN {w w' : World} (h : BelD w w') (n : Nat) : BelD w (w'.drewN n) := ⟨below_drewN h.1 n, Nat.le_trans h.2 (by simp [World.drewN])⟩
theorem BelD.trans {w w' w'' : World} (h : BelD w w') (k : BelD w' w'') : BelD w w'' := ⟨bstep h.1 k.1, Nat.le_trans h.2 k.2⟩
theorem BelD.isGrown {w w' : World} (h : BelD w w') : ∃ q os, w' = grow (w.drewN q) os := by
  obtain ⟨hb, hd⟩ := h
  refine ⟨w'.drawn - w.drawn, w'.heap.extract w.heap.size w'.heap.size, ?_⟩
  obtain ⟨heap, tape, drawn, os, output⟩ := w'
  have e1 := hb.os
  have e2 := hb.tape
  have e3 := hb.output
  have e4 := hb.size
  have e5 := hb.block
  simp only at e1 e2 e3 e4 e5 hd
  subst e1 e2 e3
  have hh : heap = w.heap ++ heap.extract w.heap.size heap.size := by
    apply Array.ext_getElem?
    intro i
    by_cases hi : i < w.heap.size
    · rw [Array.getElem?_append_left hi]; exact e5 i hi
    · rw [Array.getElem?_append_right (by omega), Array.getElem?_extract]
      by_cases hj : i < heap.size
      · rw [if_pos (by omega), show w.heap.size + (i - w.heap.size) = i by omega]
      · rw [if_neg (by omega)]; exact Array.getElem?_eq_none (by omega)
  have hw : drawn = w.drawn + (drawn - w.drawn) := by omega
  unfold grow World.drewN
  simp only [World.mk.injEq]
  exact ⟨hh, trivial, hw, trivial, trivial⟩
theorem compare_anyD (a b : Int) (w : World) :
    Calls Try.prog 43 #[.int .u64 a, .int .u64 b] w fun e w' => e = .returned (.int .i64 (cmpI a b)) ∧ BelD w w' := by
  rcases Int.lt_trichotomy a b with h | h | h
  · have E : Hid (cmpI a b = -1) := by unfold cmpI; exact if_pos h
    go_enter Try.func43, Try.ntmps43
    go_wp2
    go_ret
    rw [E.out]; exact ⟨rfl, BelD.refl _⟩
  · subst h
    have E : Hid (cmpI a a = 0) := by unfold cmpI; rw [if_neg (by omega), if_neg (by omega)]; rfl
    go_enter Try.func43, Try.ntmps43
    go_wp2
    go_ret
    rw [E.out]; exact ⟨rfl, BelD.refl _⟩
  · have h' : ¬ a < b := by omega
    have E : Hid (cmpI a b = 1) := by unfold cmpI; rw [if_neg h', if_pos h]; rfl
    go_enter Try.func43, Try.ntmps43
    go_wp2
    go_ret
    rw [E.out]; exact ⟨rfl, BelD.refl _⟩
theorem fu_3D (a b : Nat) (h3 : lb a 3 ≠ lb b 3) (w : World) :
    Calls Try.prog 42 #[W a, W b] w fun e w' => e = .returned (.tuple #[.int .u64 (fuN a b), .int .u64 (fuN b a)]) ∧ BelD w w' := by
  have E1 : Hid (fuN a b = _) := fuN_3 h3
  have E2 : Hid (fuN b a = _) := fuN_3 (Ne.symm h3)
  have g3 : (lb a 3 != lb b 3) = true := by simpa using h3
  have e3 : (lb a 3 == lb b 3) = false := by simpa using h3
  clear h3
  go_enter Try.func42, Try.ntmps42
  go_wp2_with fail
  refine wp_loop_rounds 5 ?_
  rw [rounds_succ]; go_wp2_with fail; go_quiet (fail); go_wp2_with fail; go_quiet (fail); go_wp2
  go_ret2
  rw [E1.out, E2.out]
  exact ⟨rfl, by repeat (first | exact ((BelD.refl _).alloc _).alloc _ | refine BelD.drewN ?_ _)⟩
theorem fu_2D (a b : Nat) (h3 : lb a 3 = lb b 3) (h2 : lb a 2 ≠ lb b 2) (w : World) :
    Calls Try.prog 42 #[W a, W b] w fun e w' => e = .returned (.tuple #[.int .u64 (fuN a b), .int .u64 (fuN b a)]) ∧ BelD w w' := by
  have E1 : Hid (fuN a b = _) := fuN_2 h3 h2
  have E2 : Hid (fuN b a = _) := fuN_2 h3.symm (Ne.symm h2)
  have g3 : (lb a 3 != lb b 3) = false := by rw [h3]; simp
  have e3 : (lb a 3 == lb b 3) = true := by rw [h3]; simp
  have g2 : (lb a 2 != lb b 2) = true := by simpa using h2
  have e2 : (lb a 2 == lb b 2) = false := by simpa using h2
  clear h3 h2
  go_enter Try.func42, Try.ntmps42
  go_wp2_with fail
  refine wp_loop_rounds 5 ?_
  rw [rounds_succ]; go_wp2_with fail; go_quiet (fail); go_wp2
  rw [rounds_succ]; go_wp2_with fail; go_quiet (fail); go_wp2_with fail; go_quiet (fail); go_wp2
  go_ret2
  rw [E1.out, E2.out]
  exact ⟨rfl, by repeat (first | exact ((BelD.refl _).alloc _).alloc _ | refine BelD.drewN ?_ _)⟩
theorem fu_1D (a b : Nat) (h3 : lb a 3 = lb b 3) (h2 : lb a 2 = lb b 2) (h1 : lb a 1 ≠ lb b 1) (w : World) :
    Calls Try.prog 42 #[W a, W b] w fun e w' => e = .returned (.tuple #[.int .u64 (fuN a b), .int .u64 (fuN b a)]) ∧ BelD w w' := by
  have E1 : Hid (fuN a b = _) := fuN_1 h3 h2 h1
  have E2 : Hid (fuN b a = _) := fuN_1 h3.symm h2.symm (Ne.symm h1)
  have g3 : (lb a 3 != lb b 3) = false := by rw [h3]; simp
  have e3 : (lb a 3 == lb b 3) = true := by rw [h3]; simp
  have g2 : (lb a 2 != lb b 2) = false := by rw [h2]; simp
  have e2 : (lb a 2 == lb b 2) = true := by rw [h2]; simp
  have g1 : (lb a 1 != lb b 1) = true := by simpa using h1
  have e1 : (lb a 1 == lb b 1) = false := by simpa using h1
  clear h3 h2 h1
  go_enter Try.func42, Try.ntmps42
  go_wp2_with fail
  refine wp_loop_rounds 5 ?_
  rw [rounds_succ]; go_wp2_with fail; go_quiet (fail); go_wp2
  rw [rounds_succ]; go_wp2_with fail; go_quiet (fail); go_wp2
  rw [rounds_succ]; go_wp2_with fail; go_quiet (fail); go_wp2_with fail; go_quiet (fail); go_wp2
  go_ret2
  rw [E1.out, E2.out]
  exact ⟨rfl, by repeat (first | exact ((BelD.refl _).alloc _).alloc _ | refine BelD.drewN ?_ _)⟩
theorem fu_0D (a b : Nat) (h3 : lb a 3 = lb b 3) (h2 : lb a 2 = lb b 2) (h1 : lb a 1 = lb b 1) (h0 : lb a 0 ≠ lb b 0) (w : World) :
    Calls Try.prog 42 #[W a, W b] w fun e w' => e = .returned (.tuple #[.int .u64 (fuN a b), .int .u64 (fuN b a)]) ∧ BelD w w' := by
  have E1 : Hid (fuN a b = _) := fuN_0 h3 h2 h1 h0
  have E2 : Hid (fuN b a = _) := fuN_0 h3.symm h2.symm h1.symm (Ne.symm h0)
  have g3 : (lb a 3 != lb b 3) = false := by rw [h3]; simp
  have e3 : (lb a 3 == lb b 3) = true := by rw [h3]; simp
  have g2 : (lb a 2 != lb b 2) = false := by rw [h2]; simp
  have e2 : (lb a 2 == lb b 2) = true := by rw [h2]; simp
  have g1 : (lb a 1 != lb b 1) = false := by rw [h1]; simp
  have e1 : (lb a 1 == lb b 1) = true := by rw [h1]; simp
  have g0 : (lb a 0 != lb b 0) = true := by simpa using h0
  have e0 : (lb a 0 == lb b 0) = false := by simpa using h0
  clear h3 h2 h1 h0
  go_enter Try.func42, Try.ntmps42
  go_wp2_with fail
  refine wp_loop_rounds 5 ?_
  rw [rounds_succ]; go_wp2_with fail; go_quiet (fail); go_wp2
  rw [rounds_succ]; go_wp2_with fail; go_quiet (fail); go_wp2
  rw [rounds_succ]; go_wp2_with fail; go_quiet (fail); go_wp2
  rw [rounds_succ]; go_wp2_with fail; go_quiet (fail); go_wp2_with fail; go_quiet (fail); go_wp2
  go_ret2
  rw [E1.out, E2.out]
  exact ⟨rfl, by repeat (first | exact ((BelD.refl _).alloc _).alloc _ | refine BelD.drewN ?_ _)⟩
theorem fu_nD (a b : Nat) (h3 : lb a 3 = lb b 3) (h2 : lb a 2 = lb b 2) (h1 : lb a 1 = lb b 1) (h0 : lb a 0 = lb b 0) (w : World) :
    Calls Try.prog 42 #[W a, W b] w fun e w' => e = .returned (.tuple #[.int .u64 (fuN a b), .int .u64 (fuN b a)]) ∧ BelD w w' := by
  have E1 : Hid (fuN a b = _) := fuN_n h3 h2 h1 h0
  have E2 : Hid (fuN b a = _) := fuN_n h3.symm h2.symm h1.symm h0.symm
  have g3 : (lb a 3 != lb b 3) = false := by rw [h3]; simp
  have e3 : (lb a 3 == lb b 3) = true := by rw [h3]; simp
  have g2 : (lb a 2 != lb b 2) = false := by rw [h2]; simp
  have e2 : (lb a 2 == lb b 2) = true := by rw [h2]; simp
  have g1 : (lb a 1 != lb b 1) = false := by rw [h1]; simp
  have e1 : (lb a 1 == lb b 1) = true := by rw [h1]; simp
  have g0 : (lb a 0 != lb b 0) = false := by rw [h0]; simp
  have e0 : (lb a 0 == lb b 0) = true := by rw [h0]; simp
  clear h3 h2 h1 h0
  go_enter Try.func42, Try.ntmps42
  go_wp2_with fail
  refine wp_loop_rounds 5 ?_
  rw [rounds_succ]; go_wp2_with fail; go_quiet (fail); go_wp2
  rw [rounds_succ]; go_wp2_with fail; go_quiet (fail); go_wp2
  rw [rounds_succ]; go_wp2_with fail; go_quiet (fail); go_wp2
  rw [rounds_succ]; go_wp2_with fail; go_quiet (fail); go_wp2
  rw [rounds_succ]; go_wp2
  go_ret2
  rw [E1.out, E2.out]
  exact ⟨rfl, by repeat (first | exact ((BelD.refl _).alloc _).alloc _ | refine BelD.drewN ?_ _)⟩
theorem fu_anyD (a b : Nat) (w : World) :
    Calls Try.prog 42 #[W a, W b] w fun e w' => e = .returned (.tuple #[.int .u64 (fuN a b), .int .u64 (fuN b a)]) ∧ BelD w w' := by
  by_cases h3 : lb a 3 = lb b 3
  · by_cases h2 : lb a 2 = lb b 2
    · by_cases h1 : lb a 1 = lb b 1
      · by_cases h0 : lb a 0 = lb b 0
        · exact fu_nD a b h3 h2 h1 h0 w
        · exact fu_0D a b h3 h2 h1 h0 w
      · exact fu_1D a b h3 h2 h1 w
    · exact fu_2D a b h3 h2 w
  · exact fu_3D a b h3 w
theorem order_anyD (a b : Nat) (ha : a < MM) (hb : b < MM) (w : World) :
    Calls Try.prog 31 #[W a, W b] w fun e w' => e = .returned (.int .i64 (cmpN a b)) ∧ BelD w w' := by
  have he := eqW a b
  by_cases h : a = b
  · subst h
    have h' : (a % MM == a % MM) = true := by simp
    have E : Hid (cmpN a a = 0) := cmpN_eq a
    go_enter Try.func31, Try.ntmps31
    go_wp2
    go_ret
    rw [E.out]
    exact ⟨rfl, ((BelD.refl _).alloc _).alloc _⟩
  · have h' : (a % MM == b % MM) = false := by rw [Nat.mod_eq_of_lt ha, Nat.mod_eq_of_lt hb]; simpa using h
    have E : Hid (cmpI (fuN a b) (fuN b a) = cmpN a b) := cmp_fu ha hb
    clear ha hb h
    go_enter Try.func31, Try.ntmps31
    go_wp2_with (first | (go_at_call 42; refine (fu_anyD a b _).mono ?_; rintro e w1 ⟨rfl, hb1⟩) | (go_at_call 43; refine (compare_anyD _ _ _).mono ?_; rintro e w2 ⟨rfl, hb2⟩))
    go_ret
    rw [E.out]
    exact ⟨rfl, ((((BelD.refl _).alloc _).alloc _).trans hb1).trans hb2⟩


end Go.Proofs.Ytcfnhilcpfiocaa

/- slot: slices.SortFunc of words by their order. -/
namespace Go.Proofs.Ytcfnhilcpfiocaa
open Go.RowKit Go.Shelf Go.Sort

def wvs (l : List Nat) : List Value := l.flatMap fun n => [.int .u64 (lb n 0), .int .u64 (lb n 1), .int .u64 (lb n 2), .int .u64 (lb n 3)]
theorem wvs_len (l : List Nat) : (wvs l).length = l.length * 4 := by
  induction l with
  | nil => rfl
  | cons a l ih => show (_ :: _ :: _ :: _ :: wvs l).length = _; simp only [List.length_cons, ih]; omega
theorem wvs_app (l m : List Nat) : wvs l ++ wvs m = wvs (l ++ m) := by unfold wvs; rw [List.flatMap_append]
theorem wvs_get (l : List Nat) : ∀ k j, j < 4 → (wvs l)[k * 4 + j]? = (l[k]?).bind fun n => (Wc n)[j]? := by
  induction l with
  | nil => intro k j _; simp [wvs]
  | cons a l ih =>
    intro k j hj
    cases k with
    | zero =>
      rcases j with _ | _ | _ | _ | j
      · rfl
      · rfl
      · rfl
      · rfl
      · omega
    | succ k =>
      show (_ :: _ :: _ :: _ :: wvs l)[(k + 1) * 4 + j]? = _
      rw [show (k + 1) * 4 + j = (k * 4 + j) + 1 + 1 + 1 + 1 by omega]
      simp only [List.getElem?_cons_succ]
      exact ih k j hj
/-- A word as an element of a sorted row. -/
abbrev Wd := { n : Nat // n < MM }
instance : Inhabited Wd := ⟨⟨0, by decide⟩⟩
def wE (x : Wd) : List Value := [.int .u64 (lb x.1 0), .int .u64 (lb x.1 1), .int .u64 (lb x.1 2), .int .u64 (lb x.1 3)]
theorem wE_len (x : Wd) : (wE x).length = 4 := rfl
theorem flat_wE (d : Array Wd) : (flatK wE 4 d).toList = wvs (d.toList.map (·.1)) := by
  apply List.ext_getElem?
  intro t
  have hs : (flatK wE 4 d).toList.length = d.size * 4 := by rw [Array.length_toList, size_flatK]
  by_cases ht : t < d.size * 4
  · have h1 : (flatK wE 4 d).toList[t]? = some (flatK wE 4 d)[t]! := by
      rw [Array.getElem?_toList, getElem!_pos _ t (by rw [size_flatK]; exact ht), Array.getElem?_eq_getElem (by rw [size_flatK]; exact ht)]
    rw [h1, get_flatK _ _ _ t ht]
    have h2 := wvs_get (d.toList.map (·.1)) (t / 4) (t % 4) (Nat.mod_lt _ (by decide))
    rw [show t / 4 * 4 + t % 4 = t by omega] at h2
    rw [h2, List.getElem?_map, Array.getElem?_toList, Array.getElem?_eq_getElem (by omega), getElem!_pos d (t / 4) (by omega)]
    generalize d[t / 4] = x
    have h3 : t % 4 < 4 := Nat.mod_lt _ (by decide)
    generalize t % 4 = j at h3
    rcases j with _ | _ | _ | _ | j
    · rfl
    · rfl
    · rfl
    · rfl
    · omega
  · rw [List.getElem?_eq_none (by omega), List.getElem?_eq_none (by rw [wvs_len, List.length_map, Array.length_toList]; omega)]
def wcmp (x y : Wd) : Int := cmpN x.1 y.1
theorem wcmp_lt (x y : Wd) : ltOf wcmp x y = decide (x.1 < y.1) := by
  unfold ltOf wcmp
  congr 1
  rcases Nat.lt_trichotomy x.1 y.1 with h | h | h
  · rw [cmpN_lt h]; simp [h]
  · rw [h, cmpN_eq]; simp
  · rw [cmpN_gt h]; simp; omega
theorem wcmp_swo : SWO (ltOf wcmp) where
  irrefl := fun x => by rw [wcmp_lt]; simp
  trans := fun x y z h k => by rw [wcmp_lt] at *; simp at *; omega
  ntrans := fun x y z h k => by rw [wcmp_lt] at *; simp at *; omega
/-- A slice's words in rising order. -/
def risen (d : List Wd) : List Wd := d.mergeSort fun x y => !(ltOf wcmp) y x
theorem enters_order (args : Array Value) (w : World) : (callFunc 31 args).run Try.prog w = .ok (.enter 31 args) w := enters_of Try.func31 (by kernel_rfl) rfl args w
theorem word_agg (w : World) : (isAgg (laysSort_ren.t 24)).run Try.prog w = .ok true w := Try.isAgg25 w
theorem word_size (w : World) : (Go.sizeOf (laysSort_ren.t 24)).run Try.prog w = .ok 4 w := Try.sizeOf25 w
theorem sort_any (g cap : Nat) (d : List Wd) (w : World) (base : Nat) (hd : d.length < 4611686018427387904) (h : w.ownsRow base 25 4 (.slice (some ⟨g, 0, none⟩) d.length cap) d.length (wvs (d.map (·.1)))) :
    Calls Try.prog 49 #[.slice (some ⟨g, 0, none⟩) d.length cap, .func (.func 31) #[] #[]] w fun e w' => e = .returned (.tuple #[]) ∧ w'.ownsRow base 25 4 (.slice (some ⟨g, 0, none⟩) d.length cap) d.length (wvs ((risen d).map (·.1))) ∧ w.grownBy w' (some g) := by
  obtain ⟨g', cap', cur, hv, hb, hg, hn, hc, hcs, htk⟩ : ∃ g' cap' cur, Value.slice (some ⟨g, 0, none⟩) d.length cap = .slice (some ⟨g', 0, none⟩) d.length cap' ∧ base ≤ g' ∧ w.heap[g']? = some (.cells cur 25 (0, 0)) ∧ d.length ≤ cap' ∧ cap' ≤ maxLen ∧ cur.size = cap' * 4 ∧ cur.toList.take (d.length * 4) = wvs (d.map (·.1)) := by
    rcases h.2 with ⟨h1, _⟩ | h1
    · cases h1
    · exact h1
  obtain ⟨rfl, rfl⟩ : g = g' ∧ cap = cap' := by injection hv with h1 _ h3; injection h1 with h1; injection h1 with h1; exact ⟨h1, h3⟩
  have hlt : g < w.heap.size := (Array.getElem?_eq_some_iff.1 hg).1
  have hH : HoldsK wE 4 w g 0 d.toArray := by
    intro j hj
    rw [size_flatK] at hj
    have hj' : j < d.length * 4 := by simpa using hj
    refine ⟨?_, frozen_of_row _ _ _ _ _ hg⟩
    have h1 : cur[j]? = some (flatK wE 4 d.toArray)[j]! := by
      have h2 : (cur.toList.take (d.length * 4))[j]? = (flatK wE 4 d.toArray).toList[j]? := by rw [htk, flat_wE]
      rw [List.getElem?_take, if_pos hj', Array.getElem?_toList, Array.getElem?_toList] at h2
      rw [h2, getElem!_pos _ j (by rw [size_flatK]; exact hj), Array.getElem?_eq_getElem (by rw [size_flatK]; exact hj)]
    rw [Nat.zero_add]
    exact cell_of_row _ _ j _ _ _ hg |>.trans h1
  have hcmp : CmpLays Try.prog 31 #[] wE 4 wcmp g 0 d.toArray.size w := fun m os dk _ x y => by
    refine (order_anyD x.1 y.1 x.2 y.2 _).mono ?_
    rintro e w' ⟨rfl, hw⟩
    exact ⟨rfl, hw.isGrown⟩
  have hs := AnyQ.slices_SortFunc_total laysSort 4 word_agg word_size wE wE_len (fun x v hv => by simp [wE] at hv; rcases hv with rfl | rfl | rfl | rfl <;> rfl) wcmp wcmp_swo 31 #[] g 0 cap d.toArray w enters_order hcmp hH hlt (by simpa using hd) (fun x y h1 h2 => by rw [wcmp_lt] at h1 h2; simp at h1 h2; exact Subtype.ext (by omega))
  rw [show d.toArray.size = d.length by simp] at hs
  refine Calls.mono (show Calls Try.prog 49 _ w _ from hs) ?_
  rintro e w' ⟨rfl, n, os, rfl⟩
  have hperm : (risen d).length = d.length := List.length_mergeSort _
  have hF : (flatK wE 4 (risen d).toArray).size = d.length * 4 := by rw [size_flatK]; simp [hperm]
  have hFl := flat_wE (risen d).toArray
  change (flatK wE 4 (risen d).toArray).toList = wvs ((risen d).map (·.1)) at hFl
  show Ending.returned (.tuple #[]) = .returned (.tuple #[]) ∧ (grow (putRow id (Sort.ahead w n) g 0 (flatK wE 4 (risen d).toArray)) os).ownsRow base 25 4 (.slice (some ⟨g, 0, none⟩) d.length cap) d.length (wvs ((risen d).map (·.1))) ∧ w.grownBy (grow (putRow id (Sort.ahead w n) g 0 (flatK wE 4 (risen d).toArray)) os) (some g)
  generalize flatK wE 4 (risen d).toArray = F at hF hFl
  have hblk : (grow (putRow id (Sort.ahead w n) g 0 F) os).heap[g]? = some (.cells (putCells id 0 F cur) 25 (0, 0)) := by
    show ((w.heap.modify g (onCells (putCells id 0 F))) ++ os)[g]? = _
    rw [Array.getElem?_append_left (by rw [Array.size_modify]; exact hlt), Array.getElem?_modify, if_pos rfl, hg]
    rfl
  refine ⟨rfl, ⟨by rw [wvs_len, List.length_map, hperm], .inr ⟨g, cap, putCells id 0 F cur, rfl, hb, hblk, hn, hc, by rw [putCells, Array.size_mapIdx]; exact hcs, ?_⟩⟩, ⟨rfl, rfl, rfl, ?_, ?_⟩⟩
  · rw [← hFl]
    apply List.ext_getElem?
    intro t
    by_cases ht : t < d.length * 4
    · have h1 : t < cur.size := by rw [hcs]; omega
      rw [List.getElem?_take, if_pos ht, Array.getElem?_toList, Array.getElem?_toList, putCells, Array.getElem?_mapIdx, Array.getElem?_eq_getElem h1, Option.map_some, if_pos ⟨Nat.zero_le _, by omega⟩, Array.getElem?_eq_getElem (by omega), ← getElem!_pos F t (by omega)]
      rfl
    · rw [List.getElem?_eq_none (by rw [List.length_take]; omega), List.getElem?_eq_none (by rw [Array.length_toList]; omega)]
  · show w.heap.size ≤ ((w.heap.modify g (onCells (putCells id 0 F))) ++ os).size
    rw [Array.size_append, Array.size_modify]; omega
  · intro k hk hne
    show ((w.heap.modify g (onCells (putCells id 0 F))) ++ os)[k]? = _
    rw [Array.getElem?_append_left (by rw [Array.size_modify]; exact hk), Array.getElem?_modify, if_neg (fun e => hne (by rw [e]))]

end Go.Proofs.Ytcfnhilcpfiocaa

/- slot: the keys of a map, as an iterator. -/
namespace Go.Proofs.Ytcfnhilcpfiocaa
open Go.RowKit Go.Shelf Go.ChangeMaps Go.MapKept

/-- What an iterator owes in one world that writes blocks in M and new ones alone. -/
def SeqAt {α : Type} (n : Nat) (P : Program) (g : Nat) (lb : Array Value) (encs : α → Array Value) (n₀ : Nat) (M : Nat → Prop) (Gd : List α → α → Prop) (S Sp : List α → Prop) (W : World) : Prop :=
  ∀ (l : Nat) (J Jx : List α → World → Prop), StayM M J → StayM M Jx →
    (∀ pre x X, Gd pre x → J pre X → YieldAt Fence.wide 0 P l (encs x) X fun e Y => (e = .returned (.bool true) ∧ J (pre ++ [x]) Y ∧ KeptM M X Y ∧ Below n₀ X Y) ∨ (e = .returned (.bool false) ∧ Jx (pre ++ [x]) Y ∧ KeptM M X Y)) →
    J [] W →
    CallsIn Fence.wide n P g (#[.func (.yield l) #[] #[]] ++ lb) W fun e Y => (∃ v, e = .returned v) ∧ ((∃ xs, S xs ∧ J xs Y) ∨ (∃ pre, Sp pre ∧ Jx pre Y))
theorem wpIn_rangeR {P : Program} {α : Type} {n : Nat} {g : Operand} {ps : Array Tmp} {assign body : Code} {Q : Exit → Act → World → Prop} {a : Act} {w : World}
    (h1 : 1 ≤ n) {gf : Nat} {lb : Array Value} (hg : a.eval g = .func (.func gf) #[] lb) (eg : ∀ args w, (callFunc gf args).run P w = .ok (.enter gf args) w)
    {encs : α → Array Value} {n₀ : Nat} {M : Nat → Prop} {Gd : List α → α → Prop} {S Sp : List α → Prop} (hseq : ∀ W, Below w.heap.size w W → W.heap.size = w.heap.size + 2 → SeqAt (n - 1) P gf lb encs n₀ M Gd S Sp W) (hn₀ : n₀ ≤ w.heap.size) (hM : ∀ k, M k → k ≠ w.heap.size ∧ k ≠ w.heap.size + 1) (hps : ∀ x, (encs x).size = ps.size)
    (I : List α → World → Prop) (Ix : Code → List α → World → Prop) (hI : StayM (fun k => M k ∨ k = w.heap.size ∨ k = w.heap.size + 1) I) (hIx : ∀ c, StayM (fun k => M k ∨ k = w.heap.size ∨ k = w.heap.size + 1) (Ix c)) (h0 : I [] w)
    (Ax : α → Act → World → Prop) (hAx : ∀ x a', StayM (fun k => k = w.heap.size + 1) (fun (_ : Unit) X => Ax x a' X))
    (hassign : ∀ (l : Nat) (pre : List α) (x : α) (X : World) (K : Act → World → Prop), Gd pre x → w.heap.size + 1 < X.heap.size → I pre X → (∀ a' Y, KeptM (fun k => M k ∨ k = w.heap.size ∨ k = w.heap.size + 1) X Y → Below n₀ X Y → I pre Y → Ax x a' Y → K a' Y) →
      assign.wpIn (Fence.wide.inRound l) (n - 1 - 1) P (Exit.then K (fun _ _ _ => False)) { tmps := (ps.zip (encs x)).foldl (fun t (p, v) => t.setIfInBounds p v) a.tmps, defers := [] } X)
    (hbody : ∀ (l : Nat) (pre : List α) (x : α) (a' : Act) (X : World), l = w.heap.size + 1 → Gd pre x → (∃ r, X.heap[l]? = some (.loop r)) → I pre X → Ax x a' X → body.wpIn (Fence.wide.inRound l) (n - 1 - 1) P (postM (fun k => M k ∨ k = w.heap.size ∨ k = w.heap.size + 1) n₀ I Ix (pre ++ [x]) X) a' X)
    (hdone : ∀ (D : Nat) (xs : List α) (X : World), D = w.heap.size → S xs → I xs X → X.heap[D]? = some (.deferred (some [])) → Q .normal { a with defers := { target := .collected D, args := #[] } :: a.defers } X)
    (hstop : ∀ (D : Nat) (c : Code) (pre : List α) (X : World), D = w.heap.size → Sp pre → Ix c pre X → X.heap[D]? = some (.deferred (some [])) → c.wpIn Fence.wide n P Q { a with defers := { target := .collected D, args := #[] } :: a.defers } X) :
    (Code.rangeFunc g ps assign body).wpIn Fence.wide n P Q a w := by
  refine wpIn_rangeFunc (fun fn hfn => ?_)
  have hro : Fence.wide.round = none := rfl
  rw [hro]
  let R : LoopState → Option Code → Loop := fun st pe => { state := st, pending := pe, fn, tmps := a.tmps, params := ps, assign, body, defers := w.heap.size }
  obtain ⟨V, hV⟩ : ∃ V, (w.alloc (.deferred (some []))).alloc (.loop (R .ready none)) = V := ⟨_, rfl⟩
  have hVs : V.heap.size = w.heap.size + 2 := by rw [← hV]; simp
  have hwV : Below w.heap.size w V := by rw [← hV]; exact ((Below.refl _ w).alloc (Nat.le_refl _) _).alloc (by simp) _
  have hVl : V.heap[w.heap.size + 1]? = some (.loop (R .ready none)) := by
    rw [← hV]; have := World.alloc_heap_new (w.alloc (.deferred (some []))) (.loop (R .ready none)); rwa [World.size_alloc] at this
  have hVd : V.heap[w.heap.size]? = some (.deferred (some [])) := by
    rw [← hV]; exact (Below.heap_alloc _ _ _ (by simp)).trans (World.alloc_heap_new w _)
  have hVI : I [] V := hI.new h0 hwV
  refine ⟨w.heap.size + 1, [{ target := .collected w.heap.size, args := #[] }], V, { target := .fn (.func gf) lb, args := #[.func (.yield (w.heap.size + 1)) #[] #[]] }, V, gf, #[.func (.yield (w.heap.size + 1)) #[] #[]] ++ lb, V, ?_, ?_, fun _ _ => trivial, ?_, fun _ => h1, ?_⟩
  · rw [← hV]; exact run_enterLoop_outer _ _ _ _ _
  · simp only [resolve, hg]; simp [go_sem]
  · simp [invoke, go_sem, eg]
  refine (hseq V hwV hVs (w.heap.size + 1)
    (fun pre X => (I pre X ∧ X.heap[w.heap.size + 1]? = some (.loop (R .ready none))) ∧ X.heap[w.heap.size]? = some (.deferred (some [])))
    (fun pre X => ∃ c, (Ix c pre X ∧ X.heap[w.heap.size + 1]? = some (.loop (R .done (some c)))) ∧ X.heap[w.heap.size]? = some (.deferred (some [])))
    (((hI.mono (fun k h => .inl h)).and (StayM.heap (fun h => by have := hM _ h; omega) (fun _ => _))).and (StayM.heap (fun h => by have := hM _ h; omega) (fun _ => _)))
    (StayM.ex fun c => (((hIx c).mono (fun k h => .inl h)).and (StayM.heap (fun h => by have := hM _ h; omega) (fun _ => _))).and (StayM.heap (fun h => by have := hM _ h; omega) (fun _ => _)))
    ?_ ⟨⟨hVI, hVl⟩, hVd⟩).mono ?_
  · rintro pre x X hgd ⟨⟨hi, hl⟩, hk⟩
    have hll : w.heap.size + 1 < X.heap.size := (Array.getElem?_eq_some_iff.1 hl).1
    refine ⟨fn, _, assign, body, run_yield hl (hps x), ?_⟩
    refine RoundIn.mono (R := _) ?_ (fun _ _ h => h)
    suffices h : RoundIn Fence.wide (n - 1 - 1) P (w.heap.size + 1) fn ((ps.zip (encs x)).foldl (fun t (p, v) => t.setIfInBounds p v) a.tmps) assign body X _ from ⟨h.1, fun c cs _ => h.2 c cs (room_of_none rfl _)⟩
    refine roundIn_of_wpIn hfn (hassign _ pre x X _ hgd hll hi (fun a' Y hkY hbY hiY hax => ?_))
    have hlY : Y.heap[w.heap.size + 1]? = some (.loop (R .ready none)) := (hkY.2 _ (.inr (.inr rfl)) hll).trans hl
    have hkY2 : Y.heap[w.heap.size]? = some (.deferred (some [])) := (hkY.2 _ (.inr (.inl rfl)) (by omega)).trans hk
    refine ⟨_, run_beginRound hlY rfl, ?_⟩
    have hYl : w.heap.size + 1 < Y.heap.size := Nat.lt_of_lt_of_le hll hkY.1
    obtain ⟨Z, hZ⟩ : ∃ Z, Y.putObj (w.heap.size + 1) (.loop (R .busy none)) = Z := ⟨_, rfl⟩
    have hZ' : Y.putObj (w.heap.size + 1) (.loop { R .ready none with state := .busy }) = Z := hZ
    rw [hZ']
    have hZl : Z.heap[w.heap.size + 1]? = some (.loop (R .busy none)) := by rw [← hZ]; exact World.putObj_heap_same hYl
    have hZd : Z.heap[w.heap.size]? = some (.deferred (some [])) := by rw [← hZ]; exact (World.putObj_heap_other (by omega)).trans hkY2
    have hZI : I pre Z := by rw [← hZ]; exact hI.put _ hiY (.inr (.inr rfl))
    have hZA : Ax x a' Z := by rw [← hZ]; exact (hAx x a').put (s := ()) _ hax rfl
    have hZb : Below n₀ Y Z := by rw [← hZ]; exact below_put Y _ (by omega)
    have hZk : KeptM M Y Z := by rw [← hZ]; exact KeptM.put Y _ (fun h => by have := hM _ h; omega)
    have hZs : Z.heap.size = Y.heap.size := by rw [← hZ]; simp
    have fin : ∀ (jump : Option Code) (T : World), KeptM (fun k => M k ∨ k = w.heap.size ∨ k = w.heap.size + 1) Z T → ∃ U, (Instr.endRound (w.heap.size + 1) jump).run P T = .ok (.bool jump.isNone) U ∧ U = T.putObj (w.heap.size + 1) (.loop (R (if jump.isNone then .ready else .done) jump)) ∧
        U.heap[w.heap.size + 1]? = some (.loop (R (if jump.isNone then .ready else .done) jump)) ∧ U.heap[w.heap.size]? = some (.deferred (some [])) := fun jump T hT => by
      have hTl : T.heap[w.heap.size + 1]? = some (.loop (R .busy none)) := (hT.2 _ (.inr (.inr rfl)) (by omega)).trans hZl
      have hTd : T.heap[w.heap.size]? = some (.deferred (some [])) := (hT.2 _ (.inr (.inl rfl)) (by omega)).trans hZd
      refine ⟨_, run_endRound jump hTl, rfl, World.putObj_heap_same (Array.getElem?_eq_some_iff.1 hTl).1, (World.putObj_heap_other (by omega)).trans hTd⟩
    refine wpIn_mono (hbody _ pre x a' Z rfl hgd ⟨_, hZl⟩ hZI hZA) ?_
    rintro e a3 T hp
    cases e with
    | normal =>
      obtain ⟨hkT, hbT, hiT⟩ := hp
      obtain ⟨U, hr, hU, hUl, hUd⟩ := fin none T hkT
      refine ⟨_, _, hr, .inl ⟨rfl, ⟨⟨by rw [hU]; exact hI.put _ hiT (.inr (.inr rfl)), hUl⟩, hUd⟩, ?_, ?_⟩⟩
      · exact (hkY.mono (fun k h => .inl h)).trans (hZk.trans ((hkT.mono (fun k h => .inl h)).trans (by rw [hU]; exact KeptM.put T _ (fun h => by have := hM _ h; omega))))
      · exact hbY.trans (hZb.trans (hbT.trans (by rw [hU]; exact below_put T _ (by omega))))
    | ret =>
      obtain ⟨U, hr, hU, hUl, hUd⟩ := fin (some .ret) T hp.1
      exact ⟨_, _, hr, .inr ⟨rfl, ⟨.ret, ⟨by rw [hU]; exact (hIx _).put _ hp.2 (.inr (.inr rfl)), hUl⟩, hUd⟩, (hkY.mono (fun k h => .inl h)).trans (hZk.trans ((hp.1.mono (fun k h => .inl h)).trans (by rw [hU]; exact KeptM.put T _ (fun h => by have := hM _ h; omega))))⟩⟩
    | exit id =>
      obtain ⟨U, hr, hU, hUl, hUd⟩ := fin (some (.exit id)) T hp.1
      exact ⟨_, _, hr, .inr ⟨rfl, ⟨.exit id, ⟨by rw [hU]; exact (hIx _).put _ hp.2 (.inr (.inr rfl)), hUl⟩, hUd⟩, (hkY.mono (fun k h => .inl h)).trans (hZk.trans ((hp.1.mono (fun k h => .inl h)).trans (by rw [hU]; exact KeptM.put T _ (fun h => by have := hM _ h; omega))))⟩⟩
    | goto t =>
      obtain ⟨U, hr, hU, hUl, hUd⟩ := fin (some (.goto t)) T hp.1
      exact ⟨_, _, hr, .inr ⟨rfl, ⟨.goto t, ⟨by rw [hU]; exact (hIx _).put _ hp.2 (.inr (.inr rfl)), hUl⟩, hUd⟩, (hkY.mono (fun k h => .inl h)).trans (hZk.trans ((hp.1.mono (fun k h => .inl h)).trans (by rw [hU]; exact KeptM.put T _ (fun h => by have := hM _ h; omega))))⟩⟩
    | panic ch => exact hp.elim
    | outgrown => exact hp.elim
  · rintro e X ⟨⟨v, rfl⟩, (⟨xs, hS, ⟨hi, hl⟩, hk⟩ | ⟨pre, hSp, c, ⟨hi, hl⟩, hk⟩)⟩
    · exact ⟨none, _, run_endLoop hl (by simp [R]), hdone _ xs _ rfl hS (hI.put _ hi (.inr (.inr rfl))) ((World.putObj_heap_other (by omega)).trans hk)⟩
    · exact ⟨some c, _, run_endLoop hl (by simp [R]), hstop _ c pre _ rfl hSp ((hIx c).put _ hi (.inr (.inr rfl))) ((World.putObj_heap_other (by omega)).trans hk)⟩

/-- How a yield ends, in one way. -/
def YMut (R0 : Nat) (n₀ : Nat) (J Jx : List Nat → World → Prop) (pre : List Nat) (X : World) (b : Bool) (Y : World) : Prop := (b = true → J pre Y ∧ KeptM (fun k => k = R0) X Y ∧ Below n₀ X Y) ∧ (b = false → Jx pre Y ∧ KeptM (fun k => k = R0) X Y)
theorem yMut {X : World} {R0 n₀ : Nat} {J Jx : List Nat → World → Prop} {pre : List Nat} {e : Ending} {Y : World} (h : (e = .returned (.bool true) ∧ J pre Y ∧ KeptM (fun k => k = R0) X Y ∧ Below n₀ X Y) ∨ (e = .returned (.bool false) ∧ Jx pre Y ∧ KeptM (fun k => k = R0) X Y)) : ∃ b, e = .returned (.bool b) ∧ YMut R0 n₀ J Jx pre X b Y := by
  rcases h with ⟨h1, h2⟩ | ⟨h1, h2⟩
  · exact ⟨true, h1, fun _ => h2, fun h => (by cases h)⟩
  · exact ⟨false, h1, fun h => (by cases h), fun _ => h2⟩
/-- Between two keys. -/
def KeL (b R0 : Nat) (m : Nat → Option (Nat × Nat)) (J : List Nat → World → Prop) (w2 : World) : Prop := ∃ left c pre, Rg w2 b R0 m left c ∧ J pre w2 ∧ (∀ x, x ∈ pre ↔ m x ≠ none ∧ left x = false) ∧ pre.Nodup ∧ R0 + 1 ≤ w2.heap.size
set_option maxRecDepth 100000 in
set_option maxHeartbeats 4000000 in
theorem keys1_in (n : Nat) (hn : 6 ≤ n) (L A1 b n₀ : Nat) (m : Nat → Option (Nat × Nat)) (J Jx : List Nat → World → Prop) (w : World) (hn₀ : n₀ ≤ w.heap.size) (hb : b < n₀) (hA : Blk w A1 41 #[.map (some b)]) (hm : Mp w b m) (hJ : StayM (fun k => k = w.heap.size) J)
    (hY : ∀ pre (x : Nat) X, (x < MM ∧ m x ≠ none ∧ x ∉ pre) → J pre X → YieldAt Fence.wide 0 Try.prog L #[W x] X fun e Y => (e = .returned (.bool true) ∧ J (pre ++ [x]) Y ∧ KeptM (fun k => k = w.heap.size) X Y ∧ Below n₀ X Y) ∨ (e = .returned (.bool false) ∧ Jx (pre ++ [x]) Y ∧ KeptM (fun k => k = w.heap.size) X Y))
    (h0 : J [] w) :
    CallsIn Fence.wide n Try.prog 50 #[.func (.yield L) #[] #[], .pointer (some ⟨A1, 0, none⟩)] w fun e Y => (∃ v, e = .returned v) ∧
      ((∃ xs, ((∀ k, k ∈ xs ↔ m k ≠ none) ∧ xs.Nodup) ∧ J xs Y) ∨ (∃ pre, True ∧ Jx pre Y)) := by
  have cA1 := cell_of_row _ _ 0 _ _ _ hA
  have HJ := Lib.hid (And.intro hJ (And.intro hn₀ hb))
  have HY := Lib.hid hY
  have HM := Lib.hid (And.intro hm h0)
  clear hJ hn₀ hb hY hA hm h0
  refine callsIn_of_wp Try.func50 rfl trivial ?_ rfl
  simp only [Try.ntmps50, List.size_toArray, List.length_cons, List.length_nil, Nat.reduceAdd, Nat.reduceSub, Array.replicate_succ, Array.replicate_zero, List.push_toArray, List.append_toArray, List.nil_append, List.cons_append]
  obtain ⟨Y, cnt, hrun, hR, hB, hs⟩ := HM.out.1.range und_mq
  have hjY : J [] Y := HJ.out.1.new HM.out.2 hB
  have HR := Lib.hid (And.intro hR (And.intro hjY (And.intro hB hs)))
  clear hR hB hs hjY
  gi_wp2_with fail
  obtain ⟨R0, hR0⟩ : ∃ R0, w.heap.size = R0 := ⟨_, rfl⟩
  rw [hR0] at HR HJ HY ⊢
  clear hR0 hrun cA1
  gi_loopw [] (fun w2 => KeL b R0 m J w2) (fun w2 => w2.rangeLeft b R0)
  case atStart => exact ⟨_, _, [], HR.out.1, HR.out.2.1, fun x => ⟨fun h => (by cases h), fun h => (by have h1 := h.1; have h2 := h.2; cases hv : m x with | none => exact absurd hv h1 | some v => rw [hv] at h2; cases h2)⟩, List.nodup_nil, by rw [HR.out.2.2.2]; exact Nat.le_refl _⟩
  case round =>
    obtain ⟨left, c2, pre2, hR, hj, hcov, hnd, hsz⟩ := hrel
    rcases hR.next with ⟨hc, hdone, hrun⟩ | ⟨x, v, Y1, c3, hx, hv, hxv, hleft, hrun, hR1, hlt, hC1, hs1, hen⟩
    · have HX := Lib.hid (And.intro hj (And.intro hcov (And.intro hdone hnd)))
      clear hR hj hcov hdone hnd
      gi_wp2_with fail
      go_end0
      exact ⟨⟨_, rfl⟩, .inl ⟨pre2, ⟨fun k => ⟨fun h => ((HX.out.2.1 k).1 h).1, fun h => (HX.out.2.1 k).2 ⟨h, by cases hv : m k with | none => exact absurd hv h | some v => exact HX.out.2.2.1 k v hv⟩⟩, HX.out.2.2.2⟩, HX.out.1⟩⟩
    · have hj1 : J pre2 Y1 := HJ.out.1 _ _ _ (some R0) hj hC1.grown (fun r e => by cases e; rfl)
      have hal := balloc (Below.refl Y1.heap.size Y1) (.cells (Wc x) 25)
      obtain ⟨W2, hW2⟩ : ∃ W2, Y1.alloc (.cells (Wc x) 25) = W2 := ⟨_, rfl⟩
      have hN : Blk W2 Y1.heap.size 25 (Wc x) := by rw [← hW2]; exact Blk.new _ _ _
      rw [hW2] at hal
      rw [hs1] at hN
      have hj2 : J pre2 W2 := HJ.out.1.new hj1 hal
      have hR2 := hR1.keep hal
      have hnx : x ∉ pre2 := fun h => by have := ((hcov x).1 h).2; rw [hleft] at this; cases this
      obtain ⟨fn, tmps, assign, body, hy, hRd⟩ := YieldAt.wide (m' := n - 1) (HY.out pre2 x W2 ⟨hx, by rw [hxv]; simp, hnx⟩ hj2)
      have k0 := cell_of_row _ _ 0 _ _ _ hN
      have k1 := cell_of_row _ _ 1 _ _ _ hN
      have k2 := cell_of_row _ _ 2 _ _ _ hN
      have k3 := cell_of_row _ _ 3 _ _ _ hN
      have hlft := hR.left_eq
      have HX := Lib.hid (And.intro hR2 (And.intro hcov (And.intro hnd (And.intro (And.intro hx (And.intro hxv hnx)) (And.intro hlt (And.intro hsz (And.intro hs1 (And.intro hal (And.intro hleft hlft)))))))))
      have HRD := Lib.hid hRd
      have HW2 := Lib.hid hW2
      rw [← hW2] at hy
      clear hR hj hcov hnd hv hxv hleft hR1 hlt hC1 hN hj1 hj2 hR2 hal hW2 hRd hnx hlft
      gi_wp2_with fail
      rw [HW2.out]
      refine ⟨fun _ => by omega, HRD.out.mono ?_⟩
      rintro e Y2 hye
      obtain ⟨bb, rfl, hYb⟩ := yMut hye
      clear hye hy HRD
      have hR2 := HX.out.1
      have hs2 := HX.out.2.2.2.2.2.2.2.1.size
      have hs3 := HX.out.2.2.2.2.2.2.1
      have hs4 := HX.out.2.2.2.2.2.1
      have hszz : R0 + 1 ≤ W2.heap.size := by omega
      clear hs2 hs3 hs4
      cases bb with
      | true =>
        obtain ⟨hjY, hkY, hbY⟩ := hYb.1 rfl
        have hRY : Rg Y2 b R0 m (fun i => left i && decide (i ≠ x)) c3 := hR2.of_blocks (hbY.block _ HJ.out.2.2) (hkY.2 R0 rfl (by omega))
        have HE := Lib.hid (show KeL b R0 m J Y2 ∧ Y2.rangeLeft b R0 < wr.rangeLeft b R0 from ⟨⟨_, _, _, hRY, hjY, fun y => by
            rw [List.mem_append, List.mem_singleton, HX.out.2.1 y]
            by_cases e : y = x
            · subst e; simp [HX.out.2.2.2.1.2.1]
            · simp [e], List.nodup_append.2 ⟨HX.out.2.2.1, by simp, fun a ha c hc => by simp at hc; subst hc; exact fun e => HX.out.2.2.2.1.2.2 (e ▸ ha)⟩, Nat.le_trans hszz hkY.1⟩, by rw [hRY.left_eq, HX.out.2.2.2.2.2.2.2.2.2]; exact HX.out.2.2.2.2.1⟩)
        clear hjY hkY hbY hRY hR2 hYb hszz k0 k1 k2 k3
        gi_wp2_with fail
        exact ⟨HE.out.1, HE.out.2⟩
      | false =>
        have HF := Lib.hid (hYb.2 rfl).1
        clear hYb hR2 hszz k0 k1 k2 k3
        gi_wp2_with fail
        exact bodyPost_ret (v := .tuple #[]) (results_none rfl _ _ _) rfl ⟨⟨_, rfl⟩, .inr ⟨_, trivial, HF.out⟩⟩

end Go.Proofs.Ytcfnhilcpfiocaa

/- slot: a map's keys, collected. -/
namespace Go.Proofs.Ytcfnhilcpfiocaa
open Go.RowKit Go.Shelf Go.ChangeMaps Go.MapKept

/-- A row of words that the call owns. -/
def OwW (X : World) (base : Nat) (v : Value) (l : List Nat) : Prop := X.ownsRow base 25 4 v l.length (wvs l)
theorem und_sw : Try.prog.underlying 68 = some (.slice 25) := by kernel_rfl
theorem infoWd : (Try.prog.info? 25).map (fun i => (i.zero, i.size, i.bytes)) = some (some (.agg #[.int .u64 0, .int .u64 0, .int .u64 0, .int .u64 0]), 4, 32) := by kernel_rfl
theorem OwW.is {X : World} {base : Nat} {v : Value} {l : List Nat} (h : OwW X base v l) : ∃ x c, v = .slice x l.length c := by
  rcases h.2 with ⟨rfl, hn⟩ | ⟨g, cap, cur, rfl, _⟩
  · exact ⟨none, 0, by rw [hn]⟩
  · exact ⟨_, _, rfl⟩
theorem OwW.far {X : World} {base k : Nat} {v : Value} {l : List Nat} (h : OwW X base v l) (hk : k < base) : v.ownBlock ≠ some k := fun e => by have := (h.lt k e).1; omega
theorem OwW.kept {X Y : World} {base : Nat} {v : Value} {l : List Nat} {row : Option Nat} (h : OwW X base v l) (hg : X.grownBy Y row) (hne : ∀ r, row = some r → r < base) : OwW Y base v l := by
  refine World.ownsRow.kept h hg ?_
  cases hv : v.ownBlock with
  | none => exact .inl rfl
  | some k => exact .inr fun e => by have := (h.lt k hv).1; have := hne k e.symm; omega
theorem app_word (X : World) (base : Nat) (v : Value) (l : List Nat) (n : Nat) (ty : Nat) (h : OwW X base v l) (hb : base ≤ X.heap.size) (hl : l.length ≤ 1000000) :
    ∃ y c w', (Builtin.append_ #[68, 68] ty #[v, .slice (some ⟨X.heap.size, 0, none⟩) 1 1]).run Try.prog (X.alloc (.cells (Wc n) 25)) = .ok (.slice y (l.length + 1 : Nat) c) w' ∧ OwW w' base (.slice y (l.length + 1 : Nat) c) (l ++ [n]) ∧ (X.alloc (.cells (Wc n) 25)).grownBy w' v.ownBlock := by
  obtain ⟨i0, hi, hz0, hz1, hz2⟩ := info_parts' infoWd
  have hN := Blk.new X 25 (Wc n)
  obtain ⟨v', w', h1, h2, h3, _⟩ := run_append_own (P := Try.prog) (X.alloc (.cells (Wc n) 25)) base 68 ty 25 i0 (.agg #[.int .u64 0, .int .u64 0, .int .u64 0, .int .u64 0]) 4 32 und_sw hi hz0 hz1 hz2 rfl (by decide) v l.length (wvs l) (World.ownsRow.alloc h _) ⟨X.heap.size, 0, none⟩ 1 1 [.int .u64 (lb n 0), .int .u64 (lb n 1), .int .u64 (lb n 2), .int .u64 (lb n 3)] rfl
    (by
      intro j u hj
      rcases j with _ | _ | _ | _ | j
      · simp at hj; subst hj; exact cell_of_row _ _ 0 _ _ _ hN
      · simp at hj; subst hj; exact cell_of_row _ _ 1 _ _ _ hN
      · simp at hj; subst hj; exact cell_of_row _ _ 2 _ _ _ hN
      · simp at hj; subst hj; exact cell_of_row _ _ 3 _ _ _ hN
      · simp at hj)
    (fun u hu => by simp at hu; rcases hu with rfl | rfl | rfl | rfl <;> rfl) (by unfold maxLen; omega) (by omega) (by rw [World.size_alloc]; omega)
  have h2' : OwW w' base v' (l ++ [n]) := by
    unfold OwW
    rw [List.length_append, ← wvs_app]
    exact h2
  obtain ⟨y, c, e⟩ := h2'.is
  rw [List.length_append] at e
  subst e
  exact ⟨y, c, w', h1, h2', h3⟩
/-- An append inside a fence, its run at hand. -/
theorem wpIn_append_run {F : Fence} {nF : Nat} {P : Program} {w : World} {o : Oper} {a : Act} {K : Act → World → Prop} {Q : Exit → Act → World → Prop} (s x : Operand) (t : TypeId)
    (ho : o.op = .call { callee := .builtin .append, args := #[s, x], argTypes := #[t, t] }) {v u v' : Value} {w' : World} (hs : a.eval s = v) (hx : a.eval x = u)
    (hr : (Builtin.append_ #[t, t] o.type #[v, u]).run P w = .ok v' w') (hK : K (a.put o.dst v') w') : Oper.wpIn F nF P o a w K Q := by
  unfold Oper.wpIn
  refine ⟨by simp [Oper.about, ho, resolve, Target.leads, Sem.run_pure], ?_⟩
  rw [Oper.semAt_plain F _ _ (by rw [ho]; intro c hc'; cases hc')]
  simp [execOp, ho, resolve, invoke, builtin, hs, hx, hr, Result.andThen]
  exact hK
/-- The keys' iterator in one world. -/
theorem keys_at (n : Nat) (hn : 6 ≤ n) (A1 b n₀ R : Nat) (m : Nat → Option (Nat × Nat)) (Wo : World) (hR : Wo.heap.size = R) (hn₀ : n₀ ≤ R) (hb : b < n₀) (hA : Blk Wo A1 41 #[.map (some b)]) (hm : Mp Wo b m) :
    SeqAt n Try.prog 50 #[.pointer (some ⟨A1, 0, none⟩)] (fun x : Nat => #[W x]) n₀ (fun k => k = R) (fun pre x => x < MM ∧ m x ≠ none ∧ x ∉ pre) (fun xs => (∀ k, k ∈ xs ↔ m k ≠ none) ∧ xs.Nodup) (fun _ => True) Wo := fun l J Jx hJ _ hY h0 => by
  subst hR
  exact keys1_in n hn l A1 b n₀ m J Jx Wo hn₀ hb hA hm hJ hY h0
/-- What stands between two rounds. -/
def ApI (O : Nat) (m : Nat → Option (Nat × Nat)) (w : World) (pre : List Nat) (X : World) : Prop :=
  (∃ v, Blk X O 68 #[v] ∧ OwW X (O + 4) v pre) ∧ pre.Nodup ∧ (∀ x ∈ pre, x < MM ∧ m x ≠ none) ∧ Below O w X ∧ O + 1 ≤ X.heap.size
theorem ApI.stay {O : Nat} {m : Nat → Option (Nat × Nat)} {w : World} : StayM (fun k => k = O + 3 ∨ k = O + 1 ∨ k = O + 1 + 1) (ApI O m w) := fun pre X Y row h hg hr => by
  obtain ⟨⟨v, h1, h2⟩, h3, h4, h5, h6⟩ := h
  have hne : ∀ r, row = some r → O + 1 ≤ r ∧ r ≤ O + 3 := fun r e => by rcases hr r e with h | h | h <;> omega
  exact ⟨⟨v, h1.kept hg (fun e => by have := hne _ e.symm; omega), h2.kept hg (fun r e => by have := hne r e; omega)⟩, h3, h4, h5.grown hg (by omega) (fun r e => by have := hne r e; omega), Nat.le_trans h6 hg.size⟩
attribute [local go_sem] Oper.semAt_some
set_option maxRecDepth 100000 in
set_option maxHeartbeats 400000 in
theorem appendSeq_any (A1 b : Nat) (m : Nat → Option (Nat × Nat)) (w : World) (hA : Blk w A1 41 #[.map (some b)]) (hm : Mp w b m) (hmany : ∀ xs : List Nat, xs.Nodup → (∀ x ∈ xs, x < MM ∧ m x ≠ none) → xs.length ≤ 1000000) :
    Calls Try.prog 55 #[.slice none 0 0, .func (.func 50) #[] #[.pointer (some ⟨A1, 0, none⟩)]] w fun e w' => ∃ v xs, e = .returned v ∧ OwW w' w.heap.size v xs ∧ xs.Nodup ∧ (∀ k, k ∈ xs ↔ m k ≠ none) ∧ (∀ k ∈ xs, k < MM) ∧ Below w.heap.size w w' := by
  refine (callsIn_wide (n := 20)).1 ?_
  refine callsIn_of_wp_marks Try.func55 rfl trivial ?_ rfl
  simp only [Try.ntmps55, List.size_toArray, List.length_cons, List.length_nil, Nat.reduceAdd, Nat.reduceSub, Array.replicate_succ, Array.replicate_zero, List.push_toArray, List.append_toArray, List.nil_append, List.cons_append]
  refine (wpIn_wide (n := 20)).2 ?_
  go_wp2_with fail
  refine (wpIn_wide (n := 20)).1 ?_
  obtain ⟨W0, hW0⟩ : ∃ W0, w.alloc (.cells #[.slice none 0 0] 68) = W0 := ⟨_, rfl⟩
  have hB0 : Below w.heap.size w W0 := by rw [← hW0]; exact balloc (Below.refl _ _) _
  have hO0 : Blk W0 w.heap.size 68 #[.slice none 0 0] := by rw [← hW0]; exact Blk.new _ _ _
  have hs0 : W0.heap.size = w.heap.size + 1 := by rw [← hW0]; simp
  have hA0 := hA.keep hB0
  have hm0 := hm.keep hB0
  have hbl := hm.lt
  rw [hW0]
  clear hW0 hA hm
  obtain ⟨O, hO⟩ : ∃ O, w.heap.size = O := ⟨_, rfl⟩
  rw [hO] at hB0 hO0 hs0 hbl ⊢
  have hI0 : ApI O m w [] W0 := ⟨⟨_, hO0, World.ownsRow_nil _ _ _ _⟩, List.nodup_nil, fun x h => (by cases h), hB0, by omega⟩
  have hstay : StayM (fun k => k = O + 3 ∨ k = W0.heap.size ∨ k = W0.heap.size + 1) (ApI O m w) := by rw [hs0]; exact ApI.stay
  have HS := Lib.hid (And.intro hs0 (And.intro hO hmany))
  have HST := Lib.hid hstay
  clear hO hmany
  refine wpIn_rangeR (n := 20) (by omega) (gf := 50) (lb := #[.pointer (some ⟨A1, 0, none⟩)]) (M := fun k => k = O + 3) rfl (enters_of Try.func50 (by kernel_rfl) rfl)
    (fun Wo hbel hsz => keys_at (20 - 1) (by omega) A1 b O (O + 3) m Wo (by rw [hsz, hs0]) (by omega) hbl (hA0.keep hbel) (hm0.keep hbel)) (by omega) (fun k h => by omega) (fun _ => rfl)
    (ApI O m w) (fun _ _ _ => False) hstay (fun _ _ _ _ _ h _ _ => h) hI0
    (fun x a' X => ∃ g, (O + 2 < g ∧ a' = { tmps := #[.slice none 0 0, .func (.func 50) #[] #[.pointer (some ⟨A1, 0, none⟩)], .pointer (some ⟨O, 0, none⟩), undef, .slice none 0 0, .pointer (some ⟨g, 0, none⟩), .func (.func 50) #[] #[.pointer (some ⟨A1, 0, none⟩)], W x, undef, undef, undef, undef, undef], defers := [] }) ∧ Blk X g 25 (Wc x))
    (fun x a' _ X Y row h hg hr => by obtain ⟨g, h1, h2⟩ := h; exact ⟨g, h1, h2.kept hg (fun e => by have := hr _ e.symm; omega)⟩)
    ?assign ?body ?done ?stop
  case assign =>
    rintro l2 pre x X K _ hll hi hK
    have HK := Lib.hid (And.intro hll hK)
    clear hll hK hstay hI0
    gi_wp2_with fail
    exact HK.out.2 _ _ (KeptM.alloc _ _ _) ((Below.refl O X).alloc (by have := hi.2.2.2.2; omega) _) (HST.out.alloc _ hi) ⟨X.heap.size, ⟨by have := HK.out.1; have := HS.out.1; omega, rfl⟩, Blk.new _ _ _⟩
  case done =>
    rintro D xs X rfl hS hi hK
    obtain ⟨⟨v, h1, h2⟩, hnd, hmem, hbw, hsz⟩ := hi
    have hgD : X.grownBy (X.putObj W0.heap.size (.deferred none)) (some W0.heap.size) := grownBy_putObj' X _ _
    have hYo : OwW (X.putObj W0.heap.size (.deferred none)) O v xs := (World.ownsRow.mono h2 (show O ≤ O + 4 by omega)).kept hgD (.inr (h2.far (by have := HS.out.1; omega)))
    have hBD : Below O w (X.putObj W0.heap.size (.deferred none)) := hbw.trans (below_put X _ (by have := HS.out.1; omega))
    have cL := cell_of_row X _ 0 _ _ _ h1
    have HE := Lib.hid (And.intro hYo (And.intro hBD (And.intro hS hmem)))
    clear hYo hBD h1 h2 hnd hmem hbw hgD hS hstay hI0
    go_wp2_with fail
    refine ⟨by simp, .inl ⟨_, _, rfl, run_takeDeferred hK, ?_⟩⟩
    exact ⟨_, by simp [results, Try.results55, go_sem], v, xs, rfl, by rw [HS.out.2.1]; exact HE.out.1, HE.out.2.2.1.2, HE.out.2.2.1.1, fun k hk => (HE.out.2.2.2 k hk).1, by rw [HS.out.2.1]; exact HE.out.2.1⟩
  case stop =>
    rintro D c pre X hD _ h hK
    exact h.elim
  case body =>
    rintro l2 pre x a' X hl2 hgd hlo hi ⟨g, ⟨hg3, rfl⟩, hG⟩
    obtain ⟨⟨v, h1, h2⟩, hnd, hmem, hbw, hsz⟩ := hi
    have hgl := hG.lt
    obtain ⟨xl, cl, rfl⟩ := h2.is
    obtain ⟨y, c, w', hr, ho, hgr⟩ := app_word X (O + 4) _ pre x 68 h2 (by omega) (HS.out.2.2 pre hnd hmem)
    have hfar := h2.far (show O < O + 4 by omega)
    have h3 : Blk w' O 68 #[.slice xl pre.length cl] := (h1.alloc _).kept hgr (fun e => hfar e.symm)
    have cL := cell_of_row X _ 0 _ _ _ h1
    have k0 := cell_of_row X _ 0 _ _ _ hG
    have k1 := cell_of_row X _ 1 _ _ _ hG
    have k2 := cell_of_row X _ 2 _ _ _ hG
    have k3 := cell_of_row X _ 3 _ _ _ hG
    have c3 := cell_of_row w' _ 0 _ _ _ h3
    have f3 := frozen_of_row w' _ 0 _ _ h3
    have hk : KeptM (fun k => k = O + 3 ∨ k = W0.heap.size ∨ k = W0.heap.size + 1) X (w'.setCell ⟨O, 0, none⟩ (.slice y (pre.length + 1 : Nat) c)) := by
      have q1 : KeptM (fun k => k = O + 3 ∨ k = W0.heap.size ∨ k = W0.heap.size + 1) X (X.alloc (.cells (Wc x) 25)) := KeptM.alloc _ _ _
      refine (q1.trans (KeptM.grown hgr (fun r e h => ?_))).trans (KeptM.grown (grown_set' (grown_refl w' O) 0 _) (fun r e h => ?_))
      · have := (h2.lt r e).1; have := HS.out.1; rcases h with h | h | h <;> omega
      · cases e; have := HS.out.1; rcases h with h | h | h <;> omega
    have hbz : Below O X (w'.setCell ⟨O, 0, none⟩ (.slice y (pre.length + 1 : Nat) c)) := (((Below.refl O X).alloc (by omega) _).grown hgr (by simp; omega) (fun r e => by have := (h2.lt r e).1; omega)).grown (grown_set' (grown_refl w' O) 0 _) (by have := h3.lt; omega) (fun r e => by cases e; omega)
    have hoz : OwW (w'.setCell ⟨O, 0, none⟩ (.slice y (pre.length + 1 : Nat) c)) (O + 4) (.slice y (pre.length + 1 : Nat) c) (pre ++ [x]) := ho.kept (grown_set' (grown_refl w' O) 0 _) (fun r e => by cases e; omega)
    have hIz : ApI O m w (pre ++ [x]) (w'.setCell ⟨O, 0, none⟩ (.slice y (pre.length + 1 : Nat) c)) := ⟨⟨_, heap_setCell_same w' O 0 _ _ _ h3, hoz⟩, List.nodup_append.2 ⟨hnd, by simp, fun a ha d hc => by simp at hc; subst hc; exact fun e => hgd.2.2 (e ▸ ha)⟩, fun a ha => by
      rcases List.mem_append.1 ha with h | h
      · exact hmem a h
      · simp at h; subst h; exact ⟨hgd.1, hgd.2.1⟩, hbw.trans hbz, Nat.le_trans hsz hk.1⟩
    have HE := Lib.hid (And.intro hk (And.intro hbz hIz))
    clear hk hbz hIz hoz h1 h2 h3 hnd hmem hbw hsz hgl ho hgr hfar hgd hlo hl2 hG hstay hI0
    have HR := Lib.hid hr
    clear hr
    gi_wp2_with (first | (refine wpIn_append_run (.tmp 8) (.tmp 10) 68 rfl (v := .slice xl pre.length cl) (u := .slice (some ⟨X.heap.size, 0, none⟩) 1 1) rfl rfl HR.out ?_) | fail)
    exact HE.out

/-- Words below the bound, as a sorted row's elements. -/
theorem as_Wd (xs : List Nat) (h : ∀ k ∈ xs, k < MM) : ∃ d : List Wd, d.map (·.1) = xs := by
  induction xs with
  | nil => exact ⟨[], rfl⟩
  | cons a l ih =>
    obtain ⟨d, hd⟩ := ih fun k hk => h k (List.mem_cons_of_mem _ hk)
    exact ⟨⟨a, h a (List.mem_cons_self ..)⟩ :: d, by rw [List.map_cons, hd]⟩
set_option maxRecDepth 100000 in
theorem collect_any (A1 b : Nat) (m : Nat → Option (Nat × Nat)) (w : World) (hA : Blk w A1 41 #[.map (some b)]) (hm : Mp w b m) (hmany : ∀ xs : List Nat, xs.Nodup → (∀ x ∈ xs, x < MM ∧ m x ≠ none) → xs.length ≤ 1000000) :
    Calls Try.prog 48 #[.func (.func 50) #[] #[.pointer (some ⟨A1, 0, none⟩)]] w fun e w' => ∃ v xs, e = .returned v ∧ OwW w' w.heap.size v xs ∧ xs.Nodup ∧ (∀ k, k ∈ xs ↔ m k ≠ none) ∧ (∀ k ∈ xs, k < MM) ∧ Below w.heap.size w w' := by
  have HC := Lib.hid (appendSeq_any A1 b m w hA hm hmany)
  clear hA hm hmany
  go_enter Try.func48, Try.ntmps48
  go_wp2_with (first | (go_at_call 55; refine (HC.out).mono ?_; rintro e w1 ⟨v, xs, rfl, h⟩; have H1 := Lib.hid h; clear h) | fail)
  go_ret
  exact ⟨v, xs, rfl, H1.out⟩
theorem risen_perm (d : List Wd) : (risen d).Perm d := List.mergeSort_perm _ _
theorem risen_pair (d : List Wd) : (risen d).Pairwise fun x y => x.1 ≤ y.1 := by
  have h : (risen d).Pairwise fun x y => (!(ltOf wcmp) y x) = true := List.pairwise_mergeSort (fun a b c h1 h2 => by simp [wcmp_lt] at *; omega) (fun a b => by simp [wcmp_lt]; omega) d
  exact h.imp fun {a b} hab => by simpa [wcmp_lt] using hab
/-- The keys of a map, each once, rising. -/
def Rise (m : Nat → Option (Nat × Nat)) (l : List Nat) : Prop := l.Pairwise (· < ·) ∧ (∀ k, k ∈ l ↔ m k ≠ none) ∧ ∀ k ∈ l, k < MM
set_option maxRecDepth 100000 in
theorem sortedFunc_any (A1 b : Nat) (m : Nat → Option (Nat × Nat)) (w : World) (hA : Blk w A1 41 #[.map (some b)]) (hm : Mp w b m) (hmany : ∀ xs : List Nat, xs.Nodup → (∀ x ∈ xs, x < MM ∧ m x ≠ none) → xs.length ≤ 1000000) :
    Calls Try.prog 40 #[.func (.func 50) #[] #[.pointer (some ⟨A1, 0, none⟩)], .func (.func 31) #[] #[]] w fun e w' => ∃ v l, e = .returned v ∧ OwW w' w.heap.size v l ∧ Rise m l ∧ Below w.heap.size w w' := by
  have HC := Lib.hid (collect_any A1 b m w hA hm hmany)
  have HM := Lib.hid hmany
  clear hA hm hmany
  go_enter Try.func40, Try.ntmps40
  go_upto_region 2 with (first | (go_at_call 48; refine (HC.out).mono ?_; rintro e w1 ⟨v, xs, rfl, ho, h2, h3, h4, h5⟩; have H1 := Lib.hid (And.intro ho (And.intro h2 (And.intro h3 (And.intro h4 h5)))); clear ho h2 h3 h4 h5) | fail)
  obtain ⟨ho, h2, h3, h4, h5⟩ := H1.out
  obtain ⟨d, rfl⟩ := as_Wd xs h4
  have hlen := HM.out _ h2 fun x hx => ⟨h4 x hx, (h3 x).1 hx⟩
  rw [List.length_map] at hlen
  have hq : Calls Try.prog 49 #[v, .func (.func 31) #[] #[]] w1 fun e w' => e = .returned (.tuple #[]) ∧ OwW w' w.heap.size v ((risen d).map (·.1)) ∧ Below w.heap.size w w' := by
    have hl : (d.map (·.1)).length = d.length := List.length_map ..
    have hl2 : ((risen d).map (·.1)).length = d.length := by rw [List.length_map]; exact List.length_mergeSort _
    unfold OwW at ho
    rw [hl] at ho
    rcases ho.2 with ⟨rfl, hn⟩ | ⟨g, cap, cur, rfl, hb, _⟩
    · refine (AnyF.slices_SortFunc_none laysSort none 0 (.func (.func 31) #[] #[]) w1).mono ?_
      rintro e w' ⟨rfl, rfl⟩
      obtain rfl : d = [] := List.eq_nil_of_length_eq_zero hn
      have e0 : risen [] = [] := List.eq_nil_of_length_eq_zero (List.length_mergeSort _)
      refine ⟨rfl, ?_, h5⟩
      rw [e0]
      exact World.ownsRow_nil _ _ _ _
    · refine (sort_any g cap d w1 w.heap.size (by omega) ho).mono ?_
      rintro e w' ⟨rfl, q1, q2⟩
      refine ⟨rfl, by unfold OwW; rw [hl2]; exact q1, h5.grown q2 h5.size (fun r e => by cases e; exact hb)⟩
  have HQ := Lib.hid hq
  have hrise : Rise m ((risen d).map (·.1)) := by
    have hp := (risen_perm d).map (·.1)
    refine ⟨?_, fun k => (hp.mem_iff).trans (h3 k), fun k hk => h4 k ((hp.mem_iff).1 hk)⟩
    have h6 : ((risen d).map (·.1)).Nodup := hp.nodup_iff.2 h2
    have h7 : ((risen d).map (·.1)).Pairwise (· ≤ ·) := List.pairwise_map.2 (risen_pair d)
    exact (h7.and h6).imp fun {a b} h => by omega
  have HR := Lib.hid hrise
  clear ho h2 h3 h4 h5 hlen hq hrise H1
  go_wp2_with (first | (go_at_call 49; refine (HQ.out).mono ?_; rintro e w2 ⟨rfl, h⟩; have H2 := Lib.hid h; clear h) | fail)
  go_ret
  exact ⟨v, _, rfl, H2.out.1, HR.out, H2.out.2⟩
set_option maxRecDepth 100000 in
theorem sorted_any (b : Nat) (m : Nat → Option (Nat × Nat)) (w : World) (hm : Mp w b m) (hmany : ∀ xs : List Nat, xs.Nodup → (∀ x ∈ xs, x < MM ∧ m x ≠ none) → xs.length ≤ 1000000) :
    Calls Try.prog 30 #[.map (some b), .func (.func 31) #[] #[]] w fun e w' => ∃ v l, e = .returned v ∧ OwW w' w.heap.size v l ∧ Rise m l ∧ Below w.heap.size w w' := by
  have hmf : ∀ (fn : Fn) (first cap : Array Value) (w : World), (Instr.makeFunc fn first cap).run Try.prog w = .ok (.func fn first cap) w := fun _ _ _ _ => rfl
  have hal := balloc (Below.refl w.heap.size w) (.cells #[.map (some b)] 41)
  have HK : Hid (Calls Try.prog 41 #[.map (some b)] w fun e w' => e = .returned (.func (.func 50) #[] #[.pointer (some ⟨w.heap.size, 0, none⟩)]) ∧ w' = w.alloc (.cells #[.map (some b)] 41)) := Lib.hid (by
    clear hm hmany hal
    go_enter Try.func41, Try.ntmps41
    go_wp2_with fail
    go_ret
    exact ⟨rfl, rfl⟩)
  have HS := Lib.hid (sortedFunc_any w.heap.size b m (w.alloc (.cells #[.map (some b)] 41)) (Blk.new _ _ _) (hm.keep hal) hmany)
  have HB := Lib.hid hal
  clear hm hmany hal
  go_enter Try.func30, Try.ntmps30
  go_wp2_with (first
    | (go_at_call 41; refine (HK.out).mono ?_; rintro e w1 ⟨rfl, rfl⟩)
    | (go_at_call 40; refine (HS.out).mono ?_; rintro e w2 ⟨v, l, rfl, h⟩; have H2 := Lib.hid h; clear h)
    | fail)
  go_ret
  exact ⟨v, l, rfl, World.ownsRow.mono H2.out.1 (by simp), H2.out.2.1, bstep HB.out H2.out.2.2⟩

end Go.Proofs.Ytcfnhilcpfiocaa

