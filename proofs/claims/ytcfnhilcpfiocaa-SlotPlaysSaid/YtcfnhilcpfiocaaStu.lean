/- slot: the order of words as a sort's comparison: what it leaves of the world. -/
import Derived.Test.YtcfnhilcpfiocaaStt
import Derived.Test.YtcfnhilcpfiocaaSte
namespace Go.Proofs.Ytcfnhilcpfiocaa
open Go.RowKit Go.Shelf Go.Sort

/-- Only draws and new blocks. -/
def BelD (w w' : World) : Prop := Below w.heap.size w w' ∧ w.drawn ≤ w'.drawn
theorem BelD.refl (w : World) : BelD w w := ⟨Below.refl _ _, Nat.le_refl _⟩
theorem BelD.alloc {w w' : World} (h : BelD w w') (o : Obj) : BelD w (w'.alloc o) := ⟨balloc h.1 _, h.2⟩
theorem BelD.drewN {w w' : World} (h : BelD w w') (n : Nat) : BelD w (w'.drewN n) := ⟨below_drewN h.1 n, Nat.le_trans h.2 (by simp [World.drewN])⟩
theorem BelD.trans {w w' w'' : World} (h : BelD w w') (k : BelD w' w'') : BelD w w'' := ⟨bstep h.1 k.1, Nat.le_trans h.2 k.2⟩
theorem BelD.isGrown {w w' : World} (h : BelD w w') : ∃ q os, w' = grow (w.drewN q) os := by
  obtain ⟨hb, hd⟩ := h
  refine ⟨w'.drawn - w.drawn, w'.heap.extract w.heap.size w'.heap.size, ?_⟩
  obtain ⟨heap, tape, drawn, os, output⟩ := w'
  have e1 := hb.os
  have e2 := hb.tape
  have e3 := hb.output
  have e4 := hb.size
  have e5 := hb.block
  simp only at e1 e2 e3 e4 e5 hd
  subst e1 e2 e3
  have hh : heap = w.heap ++ heap.extract w.heap.size heap.size := by
    apply Array.ext_getElem?
    intro i
    by_cases hi : i < w.heap.size
    · rw [Array.getElem?_append_left hi]; exact e5 i hi
    · rw [Array.getElem?_append_right (by omega), Array.getElem?_extract]
      by_cases hj : i < heap.size
      · rw [if_pos (by omega), show w.heap.size + (i - w.heap.size) = i by omega]
      · rw [if_neg (by omega)]; exact Array.getElem?_eq_none (by omega)
  have hw : drawn = w.drawn + (drawn - w.drawn) := by omega
  unfold grow World.drewN
  simp only [World.mk.injEq]
  exact ⟨hh, trivial, hw, trivial, trivial⟩
theorem compare_anyD (a b : Int) (w : World) :
    Calls Try.prog 43 #[.int .u64 a, .int .u64 b] w fun e w' => e = .returned (.int .i64 (cmpI a b)) ∧ BelD w w' := by
  rcases Int.lt_trichotomy a b with h | h | h
  · have E : Hid (cmpI a b = -1) := by unfold cmpI; exact if_pos h
    go_enter Try.func43, Try.ntmps43
    go_wp2
    go_ret
    rw [E.out]; exact ⟨rfl, BelD.refl _⟩
  · subst h
    have E : Hid (cmpI a a = 0) := by unfold cmpI; rw [if_neg (by omega), if_neg (by omega)]; rfl
    go_enter Try.func43, Try.ntmps43
    go_wp2
    go_ret
    rw [E.out]; exact ⟨rfl, BelD.refl _⟩
  · have h' : ¬ a < b := by omega
    have E : Hid (cmpI a b = 1) := by unfold cmpI; rw [if_neg h', if_pos h]; rfl
    go_enter Try.func43, Try.ntmps43
    go_wp2
    go_ret
    rw [E.out]; exact ⟨rfl, BelD.refl _⟩
theorem fu_3D (a b : Nat) (h3 : lb a 3 ≠ lb b 3) (w : World) :
    Calls Try.prog 42 #[W a, W b] w fun e w' => e = .returned (.tuple #[.int .u64 (fuN a b), .int .u64 (fuN b a)]) ∧ BelD w w' := by
  have E1 : Hid (fuN a b = _) := fuN_3 h3
  have E2 : Hid (fuN b a = _) := fuN_3 (Ne.symm h3)
  have g3 : (lb a 3 != lb b 3) = true := by simpa using h3
  have e3 : (lb a 3 == lb b 3) = false := by simpa using h3
  clear h3
  go_enter Try.func42, Try.ntmps42
  go_wp2_with fail
  refine wp_loop_rounds 5 ?_
  rw [rounds_succ]; go_wp2_with fail; go_quiet (fail); go_wp2_with fail; go_quiet (fail); go_wp2
  go_ret2
  rw [E1.out, E2.out]
  exact ⟨rfl, by repeat (first | exact ((BelD.refl _).alloc _).alloc _ | refine BelD.drewN ?_ _)⟩
theorem fu_2D (a b : Nat) (h3 : lb a 3 = lb b 3) (h2 : lb a 2 ≠ lb b 2) (w : World) :
    Calls Try.prog 42 #[W a, W b] w fun e w' => e = .returned (.tuple #[.int .u64 (fuN a b), .int .u64 (fuN b a)]) ∧ BelD w w' := by
  have E1 : Hid (fuN a b = _) := fuN_2 h3 h2
  have E2 : Hid (fuN b a = _) := fuN_2 h3.symm (Ne.symm h2)
  have g3 : (lb a 3 != lb b 3) = false := by rw [h3]; simp
  have e3 : (lb a 3 == lb b 3) = true := by rw [h3]; simp
  have g2 : (lb a 2 != lb b 2) = true := by simpa using h2
  have e2 : (lb a 2 == lb b 2) = false := by simpa using h2
  clear h3 h2
  go_enter Try.func42, Try.ntmps42
  go_wp2_with fail
  refine wp_loop_rounds 5 ?_
  rw [rounds_succ]; go_wp2_with fail; go_quiet (fail); go_wp2
  rw [rounds_succ]; go_wp2_with fail; go_quiet (fail); go_wp2_with fail; go_quiet (fail); go_wp2
  go_ret2
  rw [E1.out, E2.out]
  exact ⟨rfl, by repeat (first | exact ((BelD.refl _).alloc _).alloc _ | refine BelD.drewN ?_ _)⟩
theorem fu_1D (a b : Nat) (h3 : lb a 3 = lb b 3) (h2 : lb a 2 = lb b 2) (h1 : lb a 1 ≠ lb b 1) (w : World) :
    Calls Try.prog 42 #[W a, W b] w fun e w' => e = .returned (.tuple #[.int .u64 (fuN a b), .int .u64 (fuN b a)]) ∧ BelD w w' := by
  have E1 : Hid (fuN a b = _) := fuN_1 h3 h2 h1
  have E2 : Hid (fuN b a = _) := fuN_1 h3.symm h2.symm (Ne.symm h1)
  have g3 : (lb a 3 != lb b 3) = false := by rw [h3]; simp
  have e3 : (lb a 3 == lb b 3) = true := by rw [h3]; simp
  have g2 : (lb a 2 != lb b 2) = false := by rw [h2]; simp
  have e2 : (lb a 2 == lb b 2) = true := by rw [h2]; simp
  have g1 : (lb a 1 != lb b 1) = true := by simpa using h1
  have e1 : (lb a 1 == lb b 1) = false := by simpa using h1
  clear h3 h2 h1
  go_enter Try.func42, Try.ntmps42
  go_wp2_with fail
  refine wp_loop_rounds 5 ?_
  rw [rounds_succ]; go_wp2_with fail; go_quiet (fail); go_wp2
  rw [rounds_succ]; go_wp2_with fail; go_quiet (fail); go_wp2
  rw [rounds_succ]; go_wp2_with fail; go_quiet (fail); go_wp2_with fail; go_quiet (fail); go_wp2
  go_ret2
  rw [E1.out, E2.out]
  exact ⟨rfl, by repeat (first | exact ((BelD.refl _).alloc _).alloc _ | refine BelD.drewN ?_ _)⟩
theorem fu_0D (a b : Nat) (h3 : lb a 3 = lb b 3) (h2 : lb a 2 = lb b 2) (h1 : lb a 1 = lb b 1) (h0 : lb a 0 ≠ lb b 0) (w : World) :
    Calls Try.prog 42 #[W a, W b] w fun e w' => e = .returned (.tuple #[.int .u64 (fuN a b), .int .u64 (fuN b a)]) ∧ BelD w w' := by
  have E1 : Hid (fuN a b = _) := fuN_0 h3 h2 h1 h0
  have E2 : Hid (fuN b a = _) := fuN_0 h3.symm h2.symm h1.symm (Ne.symm h0)
  have g3 : (lb a 3 != lb b 3) = false := by rw [h3]; simp
  have e3 : (lb a 3 == lb b 3) = true := by rw [h3]; simp
  have g2 : (lb a 2 != lb b 2) = false := by rw [h2]; simp
  have e2 : (lb a 2 == lb b 2) = true := by rw [h2]; simp
  have g1 : (lb a 1 != lb b 1) = false := by rw [h1]; simp
  have e1 : (lb a 1 == lb b 1) = true := by rw [h1]; simp
  have g0 : (lb a 0 != lb b 0) = true := by simpa using h0
  have e0 : (lb a 0 == lb b 0) = false := by simpa using h0
  clear h3 h2 h1 h0
  go_enter Try.func42, Try.ntmps42
  go_wp2_with fail
  refine wp_loop_rounds 5 ?_
  rw [rounds_succ]; go_wp2_with fail; go_quiet (fail); go_wp2
  rw [rounds_succ]; go_wp2_with fail; go_quiet (fail); go_wp2
  rw [rounds_succ]; go_wp2_with fail; go_quiet (fail); go_wp2
  rw [rounds_succ]; go_wp2_with fail; go_quiet (fail); go_wp2_with fail; go_quiet (fail); go_wp2
  go_ret2
  rw [E1.out, E2.out]
  exact ⟨rfl, by repeat (first | exact ((BelD.refl _).alloc _).alloc _ | refine BelD.drewN ?_ _)⟩
theorem fu_nD (a b : Nat) (h3 : lb a 3 = lb b 3) (h2 : lb a 2 = lb b 2) (h1 : lb a 1 = lb b 1) (h0 : lb a 0 = lb b 0) (w : World) :
    Calls Try.prog 42 #[W a, W b] w fun e w' => e = .returned (.tuple #[.int .u64 (fuN a b), .int .u64 (fuN b a)]) ∧ BelD w w' := by
  have E1 : Hid (fuN a b = _) := fuN_n h3 h2 h1 h0
  have E2 : Hid (fuN b a = _) := fuN_n h3.symm h2.symm h1.symm h0.symm
  have g3 : (lb a 3 != lb b 3) = false := by rw [h3]; simp
  have e3 : (lb a 3 == lb b 3) = true := by rw [h3]; simp
  have g2 : (lb a 2 != lb b 2) = false := by rw [h2]; simp
  have e2 : (lb a 2 == lb b 2) = true := by rw [h2]; simp
  have g1 : (lb a 1 != lb b 1) = false := by rw [h1]; simp
  have e1 : (lb a 1 == lb b 1) = true := by rw [h1]; simp
  have g0 : (lb a 0 != lb b 0) = false := by rw [h0]; simp
  have e0 : (lb a 0 == lb b 0) = true := by rw [h0]; simp
  clear h3 h2 h1 h0
  go_enter Try.func42, Try.ntmps42
  go_wp2_with fail
  refine wp_loop_rounds 5 ?_
  rw [rounds_succ]; go_wp2_with fail; go_quiet (fail); go_wp2
  rw [rounds_succ]; go_wp2_with fail; go_quiet (fail); go_wp2
  rw [rounds_succ]; go_wp2_with fail; go_quiet (fail); go_wp2
  rw [rounds_succ]; go_wp2_with fail; go_quiet (fail); go_wp2
  rw [rounds_succ]; go_wp2
  go_ret2
  rw [E1.out, E2.out]
  exact ⟨rfl, by repeat (first | exact ((BelD.refl _).alloc _).alloc _ | refine BelD.drewN ?_ _)⟩
theorem fu_anyD (a b : Nat) (w : World) :
    Calls Try.prog 42 #[W a, W b] w fun e w' => e = .returned (.tuple #[.int .u64 (fuN a b), .int .u64 (fuN b a)]) ∧ BelD w w' := by
  by_cases h3 : lb a 3 = lb b 3
  · by_cases h2 : lb a 2 = lb b 2
    · by_cases h1 : lb a 1 = lb b 1
      · by_cases h0 : lb a 0 = lb b 0
        · exact fu_nD a b h3 h2 h1 h0 w
        · exact fu_0D a b h3 h2 h1 h0 w
      · exact fu_1D a b h3 h2 h1 w
    · exact fu_2D a b h3 h2 w
  · exact fu_3D a b h3 w
theorem order_anyD (a b : Nat) (ha : a < MM) (hb : b < MM) (w : World) :
    Calls Try.prog 31 #[W a, W b] w fun e w' => e = .returned (.int .i64 (cmpN a b)) ∧ BelD w w' := by
  have he := eqW a b
  by_cases h : a = b
  · subst h
    have h' : (a % MM == a % MM) = true := by simp
    have E : Hid (cmpN a a = 0) := cmpN_eq a
    go_enter Try.func31, Try.ntmps31
    go_wp2
    go_ret
    rw [E.out]
    exact ⟨rfl, ((BelD.refl _).alloc _).alloc _⟩
  · have h' : (a % MM == b % MM) = false := by rw [Nat.mod_eq_of_lt ha, Nat.mod_eq_of_lt hb]; simpa using h
    have E : Hid (cmpI (fuN a b) (fuN b a) = cmpN a b) := cmp_fu ha hb
    clear ha hb h
    go_enter Try.func31, Try.ntmps31
    go_wp2_with (first | (go_at_call 42; refine (fu_anyD a b _).mono ?_; rintro e w1 ⟨rfl, hb1⟩) | (go_at_call 43; refine (compare_anyD _ _ _).mono ?_; rintro e w2 ⟨rfl, hb2⟩))
    go_ret
    rw [E.out]
    exact ⟨rfl, ((((BelD.refl _).alloc _).alloc _).trans hb1).trans hb2⟩


end Go.Proofs.Ytcfnhilcpfiocaa
