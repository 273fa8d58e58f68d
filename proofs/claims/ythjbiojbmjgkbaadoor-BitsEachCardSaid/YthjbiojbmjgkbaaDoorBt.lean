/- bits' law: works: the walk. -/
import Derived.Test.YthjbiojbmjgkbaaDoorBs
import Derived.Deep.RegionHeld3
namespace Go.Proofs.YthjbiojbmjgkbaaDoor
open Go.RowKit Go.Shelf
attribute [local go_sem] ix0 ix1 ix2 ix3
attribute [local go_sem] Oper.semAt_some
theorem eb_10 : eb 10 256 = [1, 3] := by decide +kernel
/-- The digits so far. -/
def dgN (pre : List Nat) : Nat := pre.foldl (fun n i => 10 * n + i) 0
theorem dgN_snoc (pre : List Nat) (i : Nat) : dgN (pre ++ [i]) = 10 * dgN pre + i := by unfold dgN; rw [List.foldl_append]; rfl
theorem bit_10 (x : Nat) (hx : x < 256) (h : (10 : Nat).testBit x = true) : (x = 1 ∧ eb 10 x = []) ∨ (x = 3 ∧ eb 10 x = [1]) := by
  have hm : x ∈ eb 10 256 := (eb_mem _ _ _).2 ⟨hx, h⟩
  rw [eb_10] at hm
  simp only [List.mem_cons, List.not_mem_nil, or_false] at hm
  rcases hm with rfl | rfl
  · exact .inl ⟨rfl, by decide +kernel⟩
  · exact .inr ⟨rfl, by decide +kernel⟩
attribute [local irreducible] lb
set_option maxRecDepth 100000 in
set_option maxHeartbeats 4000000 in
theorem works_any (w : World) (hT : TZ w) :
    Calls Tryd.prog 11 #[] w fun e w' => e = .returned (.bool true) ∧ Below w.heap.size w w' := by
  have hnil : ∀ (p : Value) w, (binOp .eql 38 (.func (.func 60) #[] #[p]) .nilFunc).run Tryd.prog w = .ok (.bool false) w := fun _ _ => by kernel_rfl
  have HT := Lib.hid hT
  clear hT
  refine (callsIn_wide (n := 20)).1 ?_
  refine callsIn_of_wp_marks Tryd.func11 rfl trivial ?_ rfl
  simp only [Tryd.ntmps11, List.size_toArray, List.length_nil, Nat.reduceSub, Array.replicate_succ, Array.replicate_zero, List.push_toArray, List.append_toArray, List.nil_append, List.cons_append]
  refine (wpIn_wide (n := 20)).2 ?_
  have bN := Lib.hid (Blk.new w 3 #[.int .i64 0])
  have hW0 := Lib.hid (balloc (Below.refl w.heap.size w) (.cells #[.int .i64 0] 3))
  go_wp2_with fail
  refine (rof_int 10 _).mono ?_
  rintro e w1 ⟨rfl, h1⟩
  have bN1 := Lib.hid (bN.out.keep h1)
  have hB1 := Lib.hid (bstep hW0.out h1)
  clear bN hW0 h1
  go_wp2_with fail
  refine (each_works _).mono ?_
  rintro e V ⟨rfl, rfl⟩
  have bN2 := bN1.out.alloc (.cells (Wc 10) 25)
  have bA := Blk.new w1 25 (Wc 10)
  have hB2 := balloc hB1.out (.cells (Wc 10) 25)
  clear bN1 hB1
  have HX := Lib.hid (And.intro bN2 (And.intro bA hB2))
  clear bN2 bA hB2
  go_wp2_with fail
  obtain ⟨bN, bA, hW⟩ := HX.out
  clear HX hnil
  obtain ⟨W0, hW0⟩ : ∃ W0, w1.alloc (.cells (Wc 10) 25) = W0 := ⟨_, rfl⟩
  rw [hW0] at bN bA hW ⊢
  clear hW0
  generalize w1.heap.size = ga at bA ⊢
  have hT0 : TZ W0 := HT.out.below HT.out.lt hW
  have hGL := HT.out.lt
  clear HT
  refine (wpIn_wide (n := 20)).1 ?_
  refine wpIn_rangeB (n := 20) (by omega) (gf := 60) (lb := #[.pointer (some ⟨ga, 0, none⟩)]) rfl (enters_of Tryd.func60 (by kernel_rfl) rfl)
    (each_seq (20 - 1) w.heap.size ga 10 (by omega) W0 hW.size hGL hT0 bA) (Below.refl _ _) hW.size (fun _ => rfl)
    (fun pre X => Blk X w.heap.size 3 #[.int .i64 (dgN pre : Nat)] ∧ Below w.heap.size w X)
    (fun _ _ _ => False)
    ((Abide.blk bN.lt _ (fun pre => #[Value.int .i64 (dgN pre : Nat)])).and (Abide.below (Nat.le_refl _) hW.size))
    (fun _ _ _ _ _ hs _ _ => hs) (fun _ _ _ => trivial)
    ⟨bN, hW⟩
    (fun x a' _ => a' = { tmps := #[.bool false, .pointer (some ⟨w.heap.size, 0, none⟩), .func (.func 60) #[] #[.pointer (some ⟨ga, 0, none⟩)], .int .i64 x, .agg #[.int .u64 10, .int .u64 0, .int .u64 0, .int .u64 0], .func (.func 60) #[] #[.pointer (some ⟨ga, 0, none⟩)], .func (.func 60) #[] #[.pointer (some ⟨ga, 0, none⟩)], .bool false, .func (.func 60) #[] #[.pointer (some ⟨ga, 0, none⟩)], .int .i64 x, undef, undef, undef, undef, undef, undef, undef, undef, undef, undef, undef, undef, undef, undef, undef, undef, undef, undef, undef, undef, undef, undef, undef, undef, undef, undef, undef, undef, undef, undef, undef, undef, undef, undef, undef, undef, undef, undef, undef, undef, undef, undef, undef, undef, undef, undef, undef, undef, undef, undef, undef, undef, undef, undef, undef, undef, undef, undef, undef, undef, undef, undef, undef, undef, undef, undef, undef, undef, undef, undef, undef, undef, undef, undef, undef, undef, undef, undef, undef, undef], defers := [] })
    (fun x a' _ _ _ _ hs _ _ => hs)
    ?assign ?body ?done ?stop
  case assign =>
    rintro l2 pre x X K _ hi hK
    gi_wp2
    exact hK _ _ (Kept.refl _ _) (Below.refl _ _) hi rfl
  case body =>
    rintro l2 pre x a' X hl2 ⟨hpre, hx1, hx2⟩ hlo ⟨hbn, hB⟩ rfl
    clear hlo
    have hcase : (x = 1 ∧ dgN pre = 0) ∨ (x = 3 ∧ dgN pre = 1) := by
      rcases bit_10 x hx2 hx1 with ⟨h1, h2⟩ | ⟨h1, h2⟩
      · exact .inl ⟨h1, by rw [hpre, h2]; rfl⟩
      · exact .inr ⟨h1, by rw [hpre, h2]; rfl⟩
    have hcn := cell_of_row X _ 0 _ _ _ hbn
    have hfn := frozen_of_row X _ 0 _ _ hbn
    have hN := bN.lt
    have hsn := dgN_snoc pre x
    have HX := Lib.hid (And.intro hbn (And.intro hB (And.intro hsn (And.intro hN hW.size))))
    clear hbn hB hsn hpre hx1 hx2 hT0 hGL hW bN bA hN
    rcases hcase with ⟨rfl, hd⟩ | ⟨rfl, hd⟩
    · rw [hd] at hcn HX
      clear hd
      gi_wp2_with fail
      obtain ⟨hbn, hB, hsn, hN, hWs⟩ := HX.out
      have hS := heap_setCell_same X w.heap.size 0 _ _ (.int .i64 1) hbn
      exact ⟨Kept.set X (p := ⟨w.heap.size, 0, none⟩) hN _, (Below.refl _ X).setCell (p := ⟨w.heap.size, 0, none⟩) (Nat.le_refl _) _, by rw [hsn]; exact hS, hB.setCell (p := ⟨w.heap.size, 0, none⟩) (Nat.le_refl _) _⟩
    · rw [hd] at hcn HX
      clear hd
      gi_wp2_with fail
      obtain ⟨hbn, hB, hsn, hN, hWs⟩ := HX.out
      have hS := heap_setCell_same X w.heap.size 0 _ _ (.int .i64 13) hbn
      exact ⟨Kept.set X (p := ⟨w.heap.size, 0, none⟩) hN _, (Below.refl _ X).setCell (p := ⟨w.heap.size, 0, none⟩) (Nat.le_refl _) _, by rw [hsn]; exact hS, hB.setCell (p := ⟨w.heap.size, 0, none⟩) (Nat.le_refl _) _⟩
  case done =>
    rintro D xs X hD rfl ⟨hbn, hB⟩ hK
    rw [show dgN (eb 10 256) = 13 by rw [eb_10]; rfl] at hbn
    rename_i K1 hK1
    refine hK1 _ _ ?_
    have hWD : w.heap.size ≤ D := Nat.le_trans hW.size hD
    have heq := eq_sameW
    have HS0 := Lib.hid (And.intro hbn (And.intro hB hK))
    clear hK1 K1 hbn hB hK bN bA hW hT0 hGL
    go_wp2_with fail
    refine (and_works _).mono ?_
    rintro e y0 ⟨rfl, h0⟩
    have HS1 := Lib.hid (And.intro (HS0.out.1.keep h0) (And.intro (bstep HS0.out.2.1 h0) ((h0.block D (Array.getElem?_eq_some_iff.1 HS0.out.2.2).1).trans HS0.out.2.2)))
    clear HS0 h0
    go_wp2_with fail
    refine (below3_1 _).mono ?_
    rintro e y1 ⟨rfl, h1⟩
    have HS2 := Lib.hid (And.intro (HS1.out.1.keep h1) (And.intro (bstep HS1.out.2.1 h1) ((h1.block D (Array.getElem?_eq_some_iff.1 HS1.out.2.2).1).trans HS1.out.2.2)))
    clear HS1 h1
    go_wp2_with fail
    refine (rof_int 6 _).mono ?_
    rintro e y2 ⟨rfl, h2⟩
    have HS3 := Lib.hid (And.intro (HS2.out.1.keep h2) (And.intro (bstep HS2.out.2.1 h2) ((h2.block D (Array.getElem?_eq_some_iff.1 HS2.out.2.2).1).trans HS2.out.2.2)))
    clear HS2 h2
    go_wp2_with fail
    refine (rof_int 3 _).mono ?_
    rintro e y3 ⟨rfl, h3⟩
    have HS4 := Lib.hid (And.intro (HS3.out.1.keep h3) (And.intro (bstep HS3.out.2.1 h3) ((h3.block D (Array.getElem?_eq_some_iff.1 HS3.out.2.2).1).trans HS3.out.2.2)))
    clear HS3 h3
    go_wp2_with fail
    refine (xor_works _).mono ?_
    rintro e y4 ⟨rfl, h4⟩
    have HS5 := Lib.hid (And.intro (HS4.out.1.keep h4) (And.intro (bstep HS4.out.2.1 h4) ((h4.block D (Array.getElem?_eq_some_iff.1 HS4.out.2.2).1).trans HS4.out.2.2)))
    clear HS4 h4
    go_wp2_with fail
    refine (rof_int 5 _).mono ?_
    rintro e y5 ⟨rfl, h5⟩
    have HS6 := Lib.hid (And.intro (HS5.out.1.keep h5) (And.intro (bstep HS5.out.2.1 h5) ((h5.block D (Array.getElem?_eq_some_iff.1 HS5.out.2.2).1).trans HS5.out.2.2)))
    clear HS5 h5
    go_wp2_with fail
    refine (rof_int 255 _).mono ?_
    rintro e y6 ⟨rfl, h6⟩
    have HS7 := Lib.hid (And.intro (HS6.out.1.keep h6) (And.intro (bstep HS6.out.2.1 h6) ((h6.block D (Array.getElem?_eq_some_iff.1 HS6.out.2.2).1).trans HS6.out.2.2)))
    clear HS6 h6
    go_wp2_with fail
    refine (rof_int 3 _).mono ?_
    rintro e y7 ⟨rfl, h7⟩
    have HS8 := Lib.hid (And.intro (HS7.out.1.keep h7) (And.intro (bstep HS7.out.2.1 h7) ((h7.block D (Array.getElem?_eq_some_iff.1 HS7.out.2.2).1).trans HS7.out.2.2)))
    clear HS7 h7
    go_wp2_with fail
    refine (shl_works _).mono ?_
    rintro e y8 ⟨rfl, h8⟩
    have HS9 := Lib.hid (And.intro (HS8.out.1.keep h8) (And.intro (bstep HS8.out.2.1 h8) ((h8.block D (Array.getElem?_eq_some_iff.1 HS8.out.2.2).1).trans HS8.out.2.2)))
    clear HS8 h8
    go_wp2_with fail
    refine (rof_int 1 _).mono ?_
    rintro e y9 ⟨rfl, h9⟩
    have HS10 := Lib.hid (And.intro (HS9.out.1.keep h9) (And.intro (bstep HS9.out.2.1 h9) ((h9.block D (Array.getElem?_eq_some_iff.1 HS9.out.2.2).1).trans HS9.out.2.2)))
    clear HS9 h9
    go_wp2_with fail
    refine (rof_int 5 _).mono ?_
    rintro e y10 ⟨rfl, h10⟩
    have HS11 := Lib.hid (And.intro (HS10.out.1.keep h10) (And.intro (bstep HS10.out.2.1 h10) ((h10.block D (Array.getElem?_eq_some_iff.1 HS10.out.2.2).1).trans HS10.out.2.2)))
    clear HS10 h10
    go_wp2_with fail
    refine (shr_works _).mono ?_
    rintro e y11 ⟨rfl, h11⟩
    have HS12 := Lib.hid (And.intro (HS11.out.1.keep h11) (And.intro (bstep HS11.out.2.1 h11) ((h11.block D (Array.getElem?_eq_some_iff.1 HS11.out.2.2).1).trans HS11.out.2.2)))
    clear HS11 h11
    go_wp2_with fail
    refine (rof_int 2 _).mono ?_
    rintro e y12 ⟨rfl, h12⟩
    have HS13 := Lib.hid (And.intro (HS12.out.1.keep h12) (And.intro (bstep HS12.out.2.1 h12) ((h12.block D (Array.getElem?_eq_some_iff.1 HS12.out.2.2).1).trans HS12.out.2.2)))
    clear HS12 h12
    go_wp2_with fail
    refine (rof_int 300 _).mono ?_
    rintro e y13 ⟨rfl, h13⟩
    have HS14 := Lib.hid (And.intro (HS13.out.1.keep h13) (And.intro (bstep HS13.out.2.1 h13) ((h13.block D (Array.getElem?_eq_some_iff.1 HS13.out.2.2).1).trans HS13.out.2.2)))
    clear HS13 h13
    go_wp2_with fail
    refine (below3_1 _).mono ?_
    rintro e y14 ⟨rfl, h14⟩
    have HS15 := Lib.hid (And.intro (HS14.out.1.keep h14) (And.intro (bstep HS14.out.2.1 h14) ((h14.block D (Array.getElem?_eq_some_iff.1 HS14.out.2.2).1).trans HS14.out.2.2)))
    clear HS14 h14
    go_wp2_with fail
    refine (sar_works1 _).mono ?_
    rintro e y15 ⟨rfl, h15⟩
    have HS16 := Lib.hid (And.intro (HS15.out.1.keep h15) (And.intro (bstep HS15.out.2.1 h15) ((h15.block D (Array.getElem?_eq_some_iff.1 HS15.out.2.2).1).trans HS15.out.2.2)))
    clear HS15 h15
    go_wp2_with fail
    refine (below3_1 _).mono ?_
    rintro e y16 ⟨rfl, h16⟩
    have HS17 := Lib.hid (And.intro (HS16.out.1.keep h16) (And.intro (bstep HS16.out.2.1 h16) ((h16.block D (Array.getElem?_eq_some_iff.1 HS16.out.2.2).1).trans HS16.out.2.2)))
    clear HS16 h16
    go_wp2_with fail
    refine (rof_int 1 _).mono ?_
    rintro e y17 ⟨rfl, h17⟩
    have HS18 := Lib.hid (And.intro (HS17.out.1.keep h17) (And.intro (bstep HS17.out.2.1 h17) ((h17.block D (Array.getElem?_eq_some_iff.1 HS17.out.2.2).1).trans HS17.out.2.2)))
    clear HS17 h17
    go_wp2_with fail
    refine (below3_3 _).mono ?_
    rintro e y18 ⟨rfl, h18⟩
    have HS19 := Lib.hid (And.intro (HS18.out.1.keep h18) (And.intro (bstep HS18.out.2.1 h18) ((h18.block D (Array.getElem?_eq_some_iff.1 HS18.out.2.2).1).trans HS18.out.2.2)))
    clear HS18 h18
    go_wp2_with fail
    refine (sar_works2 _).mono ?_
    rintro e y19 ⟨rfl, h19⟩
    have HS20 := Lib.hid (And.intro (HS19.out.1.keep h19) (And.intro (bstep HS19.out.2.1 h19) ((h19.block D (Array.getElem?_eq_some_iff.1 HS19.out.2.2).1).trans HS19.out.2.2)))
    clear HS19 h19
    go_wp2_with fail
    refine (below3_2 _).mono ?_
    rintro e y20 ⟨rfl, h20⟩
    have HS21 := Lib.hid (And.intro (HS20.out.1.keep h20) (And.intro (bstep HS20.out.2.1 h20) ((h20.block D (Array.getElem?_eq_some_iff.1 HS20.out.2.2).1).trans HS20.out.2.2)))
    clear HS20 h20
    go_wp2_with fail
    refine (rof_int 31 _).mono ?_
    rintro e y21 ⟨rfl, h21⟩
    have HS22 := Lib.hid (And.intro (HS21.out.1.keep h21) (And.intro (bstep HS21.out.2.1 h21) ((h21.block D (Array.getElem?_eq_some_iff.1 HS21.out.2.2).1).trans HS21.out.2.2)))
    clear HS21 h21
    go_wp2_with fail
    refine (rof_int 4660 _).mono ?_
    rintro e y22 ⟨rfl, h22⟩
    have HS23 := Lib.hid (And.intro (HS22.out.1.keep h22) (And.intro (bstep HS22.out.2.1 h22) ((h22.block D (Array.getElem?_eq_some_iff.1 HS22.out.2.2).1).trans HS22.out.2.2)))
    clear HS22 h22
    go_wp2_with fail
    refine (byte_works1 _).mono ?_
    rintro e y23 ⟨rfl, h23⟩
    have HS24 := Lib.hid (And.intro (HS23.out.1.keep h23) (And.intro (bstep HS23.out.2.1 h23) ((h23.block D (Array.getElem?_eq_some_iff.1 HS23.out.2.2).1).trans HS23.out.2.2)))
    clear HS23 h23
    go_wp2_with fail
    refine (rof_int 52 _).mono ?_
    rintro e y24 ⟨rfl, h24⟩
    have HS25 := Lib.hid (And.intro (HS24.out.1.keep h24) (And.intro (bstep HS24.out.2.1 h24) ((h24.block D (Array.getElem?_eq_some_iff.1 HS24.out.2.2).1).trans HS24.out.2.2)))
    clear HS24 h24
    go_wp2_with fail
    refine (rof_int 32 _).mono ?_
    rintro e y25 ⟨rfl, h25⟩
    have HS26 := Lib.hid (And.intro (HS25.out.1.keep h25) (And.intro (bstep HS25.out.2.1 h25) ((h25.block D (Array.getElem?_eq_some_iff.1 HS25.out.2.2).1).trans HS25.out.2.2)))
    clear HS25 h25
    go_wp2_with fail
    refine (rof_int 1 _).mono ?_
    rintro e y26 ⟨rfl, h26⟩
    have HS27 := Lib.hid (And.intro (HS26.out.1.keep h26) (And.intro (bstep HS26.out.2.1 h26) ((h26.block D (Array.getElem?_eq_some_iff.1 HS26.out.2.2).1).trans HS26.out.2.2)))
    clear HS26 h26
    go_wp2_with fail
    refine (byte_works2 _).mono ?_
    rintro e y27 ⟨rfl, h27⟩
    have HS28 := Lib.hid (And.intro (HS27.out.1.keep h27) (And.intro (bstep HS27.out.2.1 h27) ((h27.block D (Array.getElem?_eq_some_iff.1 HS27.out.2.2).1).trans HS27.out.2.2)))
    clear HS27 h27
    go_wp2_with fail
    refine (rof_int 255 _).mono ?_
    rintro e y28 ⟨rfl, h28⟩
    have HS29 := Lib.hid (And.intro (HS28.out.1.keep h28) (And.intro (bstep HS28.out.2.1 h28) ((h28.block D (Array.getElem?_eq_some_iff.1 HS28.out.2.2).1).trans HS28.out.2.2)))
    clear HS28 h28
    go_wp2_with fail
    refine (ext_works1 _).mono ?_
    rintro e y29 ⟨rfl, h29⟩
    have HS30 := Lib.hid (And.intro (HS29.out.1.keep h29) (And.intro (bstep HS29.out.2.1 h29) ((h29.block D (Array.getElem?_eq_some_iff.1 HS29.out.2.2).1).trans HS29.out.2.2)))
    clear HS29 h29
    go_wp2_with fail
    refine (below3_1 _).mono ?_
    rintro e y30 ⟨rfl, h30⟩
    have HS31 := Lib.hid (And.intro (HS30.out.1.keep h30) (And.intro (bstep HS30.out.2.1 h30) ((h30.block D (Array.getElem?_eq_some_iff.1 HS30.out.2.2).1).trans HS30.out.2.2)))
    clear HS30 h30
    go_wp2_with fail
    refine (rof_int 31 _).mono ?_
    rintro e y31 ⟨rfl, h31⟩
    have HS32 := Lib.hid (And.intro (HS31.out.1.keep h31) (And.intro (bstep HS31.out.2.1 h31) ((h31.block D (Array.getElem?_eq_some_iff.1 HS31.out.2.2).1).trans HS31.out.2.2)))
    clear HS31 h31
    go_wp2_with fail
    refine (rof_int 5 _).mono ?_
    rintro e y32 ⟨rfl, h32⟩
    have HS33 := Lib.hid (And.intro (HS32.out.1.keep h32) (And.intro (bstep HS32.out.2.1 h32) ((h32.block D (Array.getElem?_eq_some_iff.1 HS32.out.2.2).1).trans HS32.out.2.2)))
    clear HS32 h32
    go_wp2_with fail
    refine (ext_works2 _).mono ?_
    rintro e y33 ⟨rfl, h33⟩
    have HS34 := Lib.hid (And.intro (HS33.out.1.keep h33) (And.intro (bstep HS33.out.2.1 h33) ((h33.block D (Array.getElem?_eq_some_iff.1 HS33.out.2.2).1).trans HS33.out.2.2)))
    clear HS33 h33
    go_wp2_with fail
    refine (rof_int 5 _).mono ?_
    rintro e y34 ⟨rfl, h34⟩
    have HS35 := Lib.hid (And.intro (HS34.out.1.keep h34) (And.intro (bstep HS34.out.2.1 h34) ((h34.block D (Array.getElem?_eq_some_iff.1 HS34.out.2.2).1).trans HS34.out.2.2)))
    clear HS34 h34
    go_wp2_with fail
    refine (rof_int 255 _).mono ?_
    rintro e y35 ⟨rfl, h35⟩
    have HS36 := Lib.hid (And.intro (HS35.out.1.keep h35) (And.intro (bstep HS35.out.2.1 h35) ((h35.block D (Array.getElem?_eq_some_iff.1 HS35.out.2.2).1).trans HS35.out.2.2)))
    clear HS35 h35
    go_wp2_with fail
    refine (len_works _).mono ?_
    rintro e y36 ⟨rfl, h36⟩
    have HS37 := Lib.hid (And.intro (HS36.out.1.keep h36) (And.intro (bstep HS36.out.2.1 h36) ((h36.block D (Array.getElem?_eq_some_iff.1 HS36.out.2.2).1).trans HS36.out.2.2)))
    clear HS36 h36
    have hcn := cell_of_row _ _ 0 _ _ _ HS37.out.1
    go_wp2
    refine ⟨by simp, .inl ⟨_, _, rfl, run_takeDeferred HS37.out.2.2, ?_⟩⟩
    exact ⟨_, results_tmp rfl _ _ _, rfl, HS37.out.2.1.trans (below_put _ _ hWD)⟩
  case stop =>
    rintro D c pre X _ _ h _
    exact h.elim
end Go.Proofs.YthjbiojbmjgkbaaDoor
