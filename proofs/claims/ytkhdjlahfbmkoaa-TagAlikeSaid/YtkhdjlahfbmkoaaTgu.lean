/- tag: TagHolds' walk. -/
import Derived.Test.YtkhdjlahfbmkoaaTgt
namespace Go.Proofs.Ytkhdjlahfbmkoaa
open Go.RowKit Go.Shelf

set_option maxRecDepth 100000 in
set_option maxHeartbeats 4000000 in
theorem tholds_walk (B C : Nat) (va vb : Value) (a b : List (Nat × Nat)) (x0 x1 x2 x3 x4 : Int) (hx : ∀ x ∈ [x0, x1, x2, x3, x4], -9223372036854775808 ≤ x ∧ x < 9223372036854775808) (w : World) (hB : B ≤ w.heap.size) (hC : C ≤ w.heap.size) (hv : Cs B w va a) (hu : Cs C w vb b) :
    Calls Try.prog 6 #[va, vb, .agg #[.int .i64 x0, .int .i64 x1, .int .i64 x2, .int .i64 x3, .int .i64 x4]] w fun e w' => e = .returned (.bool true) ∧ Below w.heap.size w w' := by
  obtain ⟨xa, ca, rfl⟩ := hv.is
  obtain ⟨xb, cb, rfl⟩ := hu.is
  have HW0 := Lib.hid (balloc (Below.refl w.heap.size w) (.cells #[.int .i64 x0, .int .i64 x1, .int .i64 x2, .int .i64 x3, .int .i64 x4] 55))
  by_cases h1 : 100 < a.length
  · have h1I : (100 : Int) < (a.length : Int) := by omega
    clear h1
    clear hv hu hB hC hx
    go_enter Try.func6, Try.ntmps6
    go_wp2_with (first | (go_at_call 7; refine (tworks_any _).mono ?_; rintro e wz ⟨rfl, hz⟩; have HZ := Lib.hid hz; clear hz) | fail)
    go_ret
    exact ⟨rfl, bstep HW0.out HZ.out⟩
  have h1I : ¬ (100 : Int) < (a.length : Int) := by omega
  by_cases h2 : 100 < b.length
  · have h2I : (100 : Int) < (b.length : Int) := by omega
    clear h1 h2
    clear hv hu hB hC hx
    go_enter Try.func6, Try.ntmps6
    go_wp2_with (first | (go_at_call 7; refine (tworks_any _).mono ?_; rintro e wz ⟨rfl, hz⟩; have HZ := Lib.hid hz; clear hz) | fail)
    go_ret
    exact ⟨rfl, bstep HW0.out HZ.out⟩
  have h2I : ¬ (100 : Int) < (b.length : Int) := by omega
  by_cases h3 : x3 < 0
  · clear h1 h2
    clear hv hu hB hC hx
    go_enter Try.func6, Try.ntmps6
    go_wp2_with (first | (go_at_call 7; refine (tworks_any _).mono ?_; rintro e wz ⟨rfl, hz⟩; have HZ := Lib.hid hz; clear hz) | fail)
    go_ret
    exact ⟨rfl, bstep HW0.out HZ.out⟩
  by_cases h4 : 100 < x3
  · clear h1 h2
    clear hv hu hB hC hx
    go_enter Try.func6, Try.ntmps6
    go_wp2_with (first | (go_at_call 7; refine (tworks_any _).mono ?_; rintro e wz ⟨rfl, hz⟩; have HZ := Lib.hid hz; clear hz) | fail)
    go_ret
    exact ⟨rfl, bstep HW0.out HZ.out⟩
  by_cases h5 : x4 < 0
  · clear h1 h2
    clear hv hu hB hC hx
    go_enter Try.func6, Try.ntmps6
    go_wp2_with (first | (go_at_call 7; refine (tworks_any _).mono ?_; rintro e wz ⟨rfl, hz⟩; have HZ := Lib.hid hz; clear hz) | fail)
    go_ret
    exact ⟨rfl, bstep HW0.out HZ.out⟩
  by_cases h6 : 100 < x4
  · clear h1 h2
    clear hv hu hB hC hx
    go_enter Try.func6, Try.ntmps6
    go_wp2_with (first | (go_at_call 7; refine (tworks_any _).mono ?_; rintro e wz ⟨rfl, hz⟩; have HZ := Lib.hid hz; clear hz) | fail)
    go_ret
    exact ⟨rfl, bstep HW0.out HZ.out⟩
  obtain ⟨p, rfl⟩ := Int.eq_ofNat_of_zero_le (show 0 ≤ x3 by omega)
  obtain ⟨q, rfl⟩ := Int.eq_ofNat_of_zero_le (show 0 ≤ x4 by omega)
  have ww0 := uU_wrap x0
  have ww1 := uU_and x0 x1
  have ww2 := uU_wrap x2
  have HUU := Lib.hid (And.intro (uU_lt x0) (And.intro (uU_lt x2) (And.intro (sub_and9 (uU x0) (uU x1)) (Nat.lt_of_le_of_lt (Nat.and_le_left (n := uU x0) (m := uU x1)) (uU_lt x0)))))
  generalize uU x0 &&& uU x1 = less at *
  generalize uU x0 = up at *
  generalize uU x2 = more at *
  obtain ⟨V, hV⟩ : ∃ V, w.alloc (.cells #[.int .i64 x0, .int .i64 x1, .int .i64 x2, .int .i64 (p : Nat), .int .i64 (q : Nat)] 55) = V := ⟨_, rfl⟩
  have hN : Blk V w.heap.size 55 #[.int .i64 x0, .int .i64 x1, .int .i64 x2, .int .i64 (p : Nat), .int .i64 (q : Nat)] := by rw [← hV]; exact Blk.new w _ _
  have HV := Lib.hid hV
  have hw0 := HW0.out
  rw [hV] at hw0
  have hvV := hv.new hw0
  have huV := hu.new hw0
  have hBV : B ≤ V.heap.size := Nat.le_trans hB hw0.size
  have hCV : C ≤ V.heap.size := Nat.le_trans hC hw0.size
  have HC := Lib.hid (And.intro hvV (And.intro huV (And.intro hBV (And.intro hCV (And.intro (show a.length ≤ 100 by omega) (And.intro (show b.length ≤ 100 by omega) (And.intro (show p ≤ 100 by omega) (show q ≤ 100 by omega))))))))
  have HAL := Lib.hid (fun (Z : World) (h : Below V.heap.size V Z) => talike_any B C up HUU.out.1 _ _ a b Z (Nat.le_trans hBV h.size) (Nat.le_trans hCV h.size) (hvV.new h) (huV.new h))
  have HALL := Lib.hid (fun (Z : World) (h : Below V.heap.size V Z) => talike_any B C less HUU.out.2.2.2 _ _ a b Z (Nat.le_trans hBV h.size) (Nat.le_trans hCV h.size) (hvV.new h) (huV.new h))
  have HPA := Lib.hid (fun (Z : World) (h : Below V.heap.size V Z) => part_any B _ a p q (by omega) Z (Nat.le_trans hBV h.size) (hvV.new h))
  have HPB := Lib.hid (fun (Z : World) (h : Below V.heap.size V Z) => part_any C _ b p q (by omega) Z (Nat.le_trans hCV h.size) (huV.new h))
  have HWA := Lib.hid (fun (Z : World) (h : Below V.heap.size V Z) => tword_any B _ a Z (Nat.le_trans hBV h.size) (hvV.new h))
  have HWB := Lib.hid (fun (Z : World) (h : Below V.heap.size V Z) => tword_any C _ b Z (Nat.le_trans hCV h.size) (huV.new h))
  have HJA := Lib.hid (fun (Z : World) (h : Below V.heap.size V Z) => tjoin_any B more HUU.out.2.1 _ a (by omega) Z (hvV.new h))
  have HJB := Lib.hid (fun (Z : World) (h : Below V.heap.size V Z) => tjoin_any C more HUU.out.2.1 _ b (by omega) Z (huV.new h))
  have HN := Lib.hid hN
  have HW := Lib.hid hw0
  have c0 : V.cell? ⟨w.heap.size, 0, none⟩ = some (.int .i64 x0) := cell_of_row _ _ 0 _ _ _ hN
  have c1 : V.cell? ⟨w.heap.size, 1, none⟩ = some (.int .i64 x1) := cell_of_row _ _ 1 _ _ _ hN
  have c2 : V.cell? ⟨w.heap.size, 2, none⟩ = some (.int .i64 x2) := cell_of_row _ _ 2 _ _ _ hN
  have c3 : V.cell? ⟨w.heap.size, 3, none⟩ = some (.int .i64 (p : Nat)) := cell_of_row _ _ 3 _ _ _ hN
  have c4 : V.cell? ⟨w.heap.size, 4, none⟩ = some (.int .i64 (q : Nat)) := cell_of_row _ _ 4 _ _ _ hN
  clear hV hv hu hB hC hx hN hw0 hvV huV hBV hCV HW0 h1 h2
  go_enter Try.func6, Try.ntmps6
  go_upto_region 3 with fail
  rw [HV.out]
  go_quiet (fail)
  have hq3 : Below V.heap.size V (V.drewN nq) := below_drewN (Below.refl _ _) _
  obtain ⟨t, ht⟩ : ∃ t, alB a b up = t := ⟨_, rfl⟩
  have HT := Lib.hid ht
  rw [ht] at HAL
  clear ht c0 c1 c2 c3 c4 ww0 ww1 ww2
  cases t with
  | false =>
    go_wp2_with (first
      | (go_at_call 25; refine (HAL.out _ hq3).mono ?_; rintro e u4 ⟨rfl, hu4⟩; have H4 := Lib.hid (rstep hu4 hq3); clear hu4)
      | (go_at_call 7; refine (tworks_any _).mono ?_; rintro e wz ⟨rfl, hz⟩; have HZ := Lib.hid hz; clear hz)
      | fail)
    go_ret
    exact ⟨rfl, bstep (bstep HW.out H4.out) HZ.out⟩
  | true =>
    have HCK := Lib.hid (fun (Z : World) (h : Below V.heap.size V Z) => (And.intro (cell_of_row _ _ 3 _ _ _ (HN.out.keep h)) (cell_of_row _ _ 4 _ _ _ (HN.out.keep h)) : Z.cell? ⟨w.heap.size, 3, none⟩ = some (.int .i64 (p : Nat)) ∧ Z.cell? ⟨w.heap.size, 4, none⟩ = some (.int .i64 (q : Nat))))
    have HSM := Lib.hid (smB_like HT.out)
    have HNL := Lib.hid (And.intro (nuC_lt a HC.out.1.1) (And.intro (nuC_lt b HC.out.2.1.1) (And.intro (jl_lt (paL_ok HC.out.1.1 0 32)) (jl_lt (paL_ok HC.out.2.1.1 0 32)))))
    have hvb := vV_back (nuC a) (jl (fiL a))
    have HVB := Lib.hid (fun (Z : World) (g : Nat) (h : Blk Z g 53 (cvs (ceL (nuC a) (jl (fiL a)))).toArray) => by
      have h1 := Cs.of_blk h (ceL_ok _ _ HNL.out.2.2.1) (by rw [ceL_len]; omega)
      rw [ceL_len] at h1
      have h2 := tword_any Z.heap.size _ (ceL (nuC a) (jl (fiL a))) Z (Nat.le_refl _) h1
      rw [hvb] at h2
      exact h2)
    clear hvb
    change Hid (smB (nuC a) (jl (fiL a)) (nuC b) (jl (fiL b)) up = true) at HSM
    change Hid (nuC a < MM ∧ nuC b < MM ∧ jl (fiL a) < 2 ^ 64 ∧ jl (fiL b) < 2 ^ 64) at HNL
    generalize nuC a = na at *
    generalize nuC b = nb at *
    generalize jl (fiL a) = ja at *
    generalize jl (fiL b) = jb at *
    go_upto_region 9 with (first
      | (go_at_call 25; refine (HAL.out _ hq3).mono ?_; rintro e u4 ⟨rfl, hu4⟩; have hS4 := rstep hu4 hq3; have H4 := Lib.hid hS4; obtain ⟨c3, c4⟩ := HCK.out _ hS4; clear hu4 hS4)
      | (go_at_call 21; (with_reducible refine (HPA.out _ H4.out).mono ?_); rintro e u6 ⟨g6, rfl, hg6, hb6, hu6⟩; have hS6 := rstep hu6 H4.out; have H6 := Lib.hid (And.intro hb6 hS6); clear c3 c4; obtain ⟨c3, c4⟩ := HCK.out _ hS6; clear hu6 hS6 hb6 hg6)
      | (go_at_call 21; (with_reducible refine (HPB.out _ H6.out.2).mono ?_); rintro e u7 ⟨g7, rfl, hg7, hb7, hu7⟩; have hS7 := rstep hu7 H6.out.2; have H7 := Lib.hid (And.intro (H6.out.1.keep hu7) (And.intro hb7 hS7)); clear c3 c4 hu7 hS7 hb7 hg7)
      | (go_at_call 19; (with_reducible refine (HWA.out _ H7.out.2.2).mono ?_); rintro e u8 ⟨rfl, hu8⟩; have H8 := Lib.hid (And.intro (H7.out.1.keep hu8) (And.intro (H7.out.2.1.keep hu8) (rstep hu8 H7.out.2.2))); clear hu8)
      | (go_at_call 19; (with_reducible refine (HWB.out _ H8.out.2.2).mono ?_); rintro e u9 ⟨rfl, hu9⟩; have H9 := Lib.hid (And.intro (H8.out.1.keep hu9) (And.intro (H8.out.2.1.keep hu9) (rstep hu9 H8.out.2.2))); clear hu9)
      | fail)
    obtain ⟨R, hR⟩ : ∃ R, (u9.alloc (.cells (vA na ja) 29)).alloc (.cells (vA nb jb) 29) = R := ⟨_, rfl⟩
    have hb9 : Below u9.heap.size u9 R := by rw [← hR]; exact balloc (balloc (Below.refl _ _) _) _
    have hr1 : Blk R u9.heap.size 29 (vA na ja) := by rw [← hR]; exact (Blk.new u9 _ _).alloc _
    have hr2 : Blk R (u9.heap.size + 1) 29 (vA nb jb) := by rw [← hR]; exact Blk.newS u9 _ _ _
    have hg6 : Blk R g6 53 (cvs (paL a p q)).toArray := H9.out.1.keep hb9
    have hg7 : Blk R g7 53 (cvs (paL b p q)).toArray := H9.out.2.1.keep hb9
    have hRV : Below V.heap.size V R := bstep H9.out.2.2 hb9
    rw [hR]
    clear hR hb9 H4 H6 H7 H8 H9 hq3 HAL HPA HPB HWA HWB HCK
    have l0 : ∀ Z, Below R.heap.size R Z → Z.cell? ⟨u9.heap.size, 0, none⟩ = some (.int .u64 (lb na 0)) := fun Z h => cell_of_row _ _ 0 _ _ _ (hr1.keep h)
    have m0 : ∀ Z, Below R.heap.size R Z → Z.cell? ⟨u9.heap.size + 1, 0, none⟩ = some (.int .u64 (lb nb 0)) := fun Z h => cell_of_row _ _ 0 _ _ _ (hr2.keep h)
    have l1 : ∀ Z, Below R.heap.size R Z → Z.cell? ⟨u9.heap.size, 1, none⟩ = some (.int .u64 (lb na 1)) := fun Z h => cell_of_row _ _ 1 _ _ _ (hr1.keep h)
    have m1 : ∀ Z, Below R.heap.size R Z → Z.cell? ⟨u9.heap.size + 1, 1, none⟩ = some (.int .u64 (lb nb 1)) := fun Z h => cell_of_row _ _ 1 _ _ _ (hr2.keep h)
    have l2 : ∀ Z, Below R.heap.size R Z → Z.cell? ⟨u9.heap.size, 2, none⟩ = some (.int .u64 (lb na 2)) := fun Z h => cell_of_row _ _ 2 _ _ _ (hr1.keep h)
    have m2 : ∀ Z, Below R.heap.size R Z → Z.cell? ⟨u9.heap.size + 1, 2, none⟩ = some (.int .u64 (lb nb 2)) := fun Z h => cell_of_row _ _ 2 _ _ _ (hr2.keep h)
    have l3 : ∀ Z, Below R.heap.size R Z → Z.cell? ⟨u9.heap.size, 3, none⟩ = some (.int .u64 (lb na 3)) := fun Z h => cell_of_row _ _ 3 _ _ _ (hr1.keep h)
    have m3 : ∀ Z, Below R.heap.size R Z → Z.cell? ⟨u9.heap.size + 1, 3, none⟩ = some (.int .u64 (lb nb 3)) := fun Z h => cell_of_row _ _ 3 _ _ _ (hr2.keep h)
    have l4 : ∀ Z, Below R.heap.size R Z → Z.cell? ⟨u9.heap.size, 4, none⟩ = some (.int .u64 (ja : Nat)) := fun Z h => cell_of_row _ _ 4 _ _ _ (hr1.keep h)
    have m4 : ∀ Z, Below R.heap.size R Z → Z.cell? ⟨u9.heap.size + 1, 4, none⟩ = some (.int .u64 (jb : Nat)) := fun Z h => cell_of_row _ _ 4 _ _ _ (hr2.keep h)
    have HLS := Lib.hid (alB_less HT.out HUU.out.2.2.1)
    rw [HLS.out] at HALL
    have HPQ := Lib.hid (fun (Z : World) (h : Below R.heap.size R Z) => by
      have h1 := Cs.of_blk (hg6.keep h) (paL_ok HC.out.1.1 p q) (by rw [paL_len]; have := HC.out; omega)
      have h2 := Cs.of_blk (hg7.keep h) (paL_ok HC.out.2.1.1 p q) (by rw [paL_len]; have := HC.out; omega)
      rw [paL_len] at h1 h2
      have h3 := talike_any _ _ up HUU.out.1 _ _ _ _ Z (Nat.le_refl _) (Nat.le_refl _) h1 h2
      rw [alB_pa HT.out p q] at h3
      exact h3)
    have HJQ := Lib.hid (fun (Z : World) (g1 g2 : Nat) (k1 : Blk Z g1 53 (cvs (a.map fun x => (x.1, x.2 ||| more))).toArray) (k2 : Blk Z g2 53 (cvs (b.map fun x => (x.1, x.2 ||| more))).toArray) => by
      have hm : ∀ l : List (Nat × Nat), (∀ c ∈ l, okC c) → ∀ c ∈ l.map (fun x => (x.1, x.2 ||| more)), okC c := fun l hl c hc => by
        obtain ⟨z, hz, rfl⟩ := List.mem_map.1 hc
        exact ⟨(hl z hz).1, Nat.or_lt_two_pow (n := 64) (hl z hz).2 HUU.out.2.1⟩
      have h1 := Cs.of_blk k1 (hm a HC.out.1.1) (by rw [List.length_map]; have := HC.out; omega)
      have h2 := Cs.of_blk k2 (hm b HC.out.2.1.1) (by rw [List.length_map]; have := HC.out; omega)
      rw [List.length_map] at h1 h2
      have h3 := talike_any _ _ up HUU.out.1 _ _ _ _ Z (Nat.le_refl _) (Nat.le_refl _) h1 h2
      rw [alB_join HT.out more] at h3
      exact h3)
    have HSS := Lib.hid (fun (Z : World) => by
      have h3 := same_any9 na ja nb jb up HNL.out.2.2.1 HUU.out.1 HNL.out.1 HNL.out.2.1 Z
      rw [HSM.out] at h3
      exact h3)
    have HCQ := Lib.hid (fun (Z : World) (g1 g2 : Nat) (k1 : Blk Z g1 53 (cvs (ceL na ja)).toArray) (k2 : Blk Z g2 53 (cvs (ceL nb jb)).toArray) => by
      have h1 := Cs.of_blk k1 (ceL_ok na ja HNL.out.2.2.1) (by rw [ceL_len]; omega)
      have h2 := Cs.of_blk k2 (ceL_ok nb jb HNL.out.2.2.2) (by rw [ceL_len]; omega)
      rw [ceL_len] at h1 h2
      have h3 := talike_any _ _ up HUU.out.1 _ _ _ _ Z (Nat.le_refl _) (Nat.le_refl _) h1 h2
      rw [alB_cells HSM.out] at h3
      exact h3)
    have heq := eqVal_refl na ja
    have hR0 : Below R.heap.size R R.drew := (Below.refl _ _).drew
    have HRV := Lib.hid hRV
    have HNA := Lib.hid (And.intro HNL.out.2.2.1 HNL.out.2.2.2)
    clear hr1 hr2 hg6 hg7 hRV HC HN HV HLS HNL HSM HT
    refine wp_region_held_drew (S := fun Z => Below R.heap.size R Z) (by as_aux_lemma => kernel_rfl) hR0 (fun hHeld => ?_)
    simp only [List.size_toArray, List.length_cons, List.length_nil, Nat.reduceAdd, Array.replicate_succ, Array.replicate_zero, List.push_toArray, List.nil_append, List.cons_append]
    refine wpAnyH_take (i := 0) (oi := { dst := some 85, op := Op.move (Operand.tmp 0), type := 22, pos := "law.go:90", after := #[], guard := none }) (v := ?vq0) rfl (by as_aux_lemma => kernel_rfl) (by as_aux_lemma => kernel_rfl) (by as_aux_lemma => kernel_rfl) (fun _ _ _ h => h) (Or.inl ⟨by rfl, ?yq0⟩) (by assumption) ?rq0
    case yq0 => (intro wS hSw; (try dsimp only at hSw); have q0 := l0 wS hSw; have r0 := m0 wS hSw; have q1 := l1 wS hSw; have r1 := m1 wS hSw; have q2 := l2 wS hSw; have r2 := m2 wS hSw; have q3 := l3 wS hSw; have r3 := m3 wS hSw; have q4 := l4 wS hSw; have r4 := m4 wS hSw; go_simp <;> with_reducible rfl)
    simp only [Act.put, List.setIfInBounds_toArray, List.set_cons_zero, List.set_cons_succ]
    refine wpAnyH_take (i := 1) (oi := { dst := some 86, op := Op.move (Operand.tmp 1), type := 22, pos := "law.go:90", after := #[], guard := none }) (v := ?vq1) rfl (by as_aux_lemma => kernel_rfl) (by as_aux_lemma => kernel_rfl) (by as_aux_lemma => kernel_rfl) (fun _ _ _ h => h) (Or.inl ⟨by rfl, ?yq1⟩) (by assumption) ?rq1
    case yq1 => (intro wS hSw; (try dsimp only at hSw); have q0 := l0 wS hSw; have r0 := m0 wS hSw; have q1 := l1 wS hSw; have r1 := m1 wS hSw; have q2 := l2 wS hSw; have r2 := m2 wS hSw; have q3 := l3 wS hSw; have r3 := m3 wS hSw; have q4 := l4 wS hSw; have r4 := m4 wS hSw; go_simp <;> with_reducible rfl)
    simp only [Act.put, List.setIfInBounds_toArray, List.set_cons_zero, List.set_cons_succ]
    refine wpAnyH_take (i := 2) (oi := { dst := some 87, op := Op.move (Operand.tmp 8), type := 27, pos := "law.go:90", after := #[], guard := none }) (v := ?vq2) rfl (by as_aux_lemma => kernel_rfl) (by as_aux_lemma => kernel_rfl) (by as_aux_lemma => kernel_rfl) (fun _ _ _ h => h) (Or.inl ⟨by rfl, ?yq2⟩) (by assumption) ?rq2
    case yq2 => (intro wS hSw; (try dsimp only at hSw); have q0 := l0 wS hSw; have r0 := m0 wS hSw; have q1 := l1 wS hSw; have r1 := m1 wS hSw; have q2 := l2 wS hSw; have r2 := m2 wS hSw; have q3 := l3 wS hSw; have r3 := m3 wS hSw; have q4 := l4 wS hSw; have r4 := m4 wS hSw; go_simp <;> with_reducible rfl)
    simp only [Act.put, List.setIfInBounds_toArray, List.set_cons_zero, List.set_cons_succ]
    refine wpAnyH_ready (rs := [3]) (by as_aux_lemma => kernel_rfl) (by simp) ?_
    refine AllReadyH.cons (o := { dst := some 88, op := Op.call { callee := Callee.value (Operand.func 25), args := #[Operand.tmp 85, Operand.tmp 86, Operand.tmp 87], argTypes := #[22, 22, 27] }, type := 4, pos := "law.go:90", after := #[{ on := 0, ground := Ground.data }, { on := 1, ground := Ground.data }, { on := 2, ground := Ground.data }], guard := none }) rfl (fun K hK => ?_) (by exact AllReadyH.nil)
    rw [if_pos (by rfl)]
    go_simp
    refine (HALL.out _ (bstep HRV.out hR0)).mono ?_
    rintro e v3 ⟨rfl, hv3⟩
    have hS3 : Below R.heap.size R v3 := rstep hv3 hR0
    refine hK.out _ _ (by (try dsimp only); (first | exact hS50 | exact hS45 | exact hS44 | exact hS40 | exact hS38 | exact hS36 | exact hS32 | exact hS26 | exact hS24 | exact hS21 | exact hS16 | exact hS3)) (fun hHeld => ?_)
    clear hK K
    simp only [List.setIfInBounds_toArray, List.set_cons_zero, List.set_cons_succ]
    refine wpAnyH_take (i := 4) (oi := { dst := some 89, op := Op.move (Operand.tmp 88), type := 4, pos := "law.go:90", after := #[{ on := 3, ground := Ground.data }, { on := 3, ground := Ground.chain }], guard := none }) (v := ?vq4) rfl (by as_aux_lemma => kernel_rfl) (by as_aux_lemma => kernel_rfl) (by as_aux_lemma => kernel_rfl) (fun _ _ _ h => h) (Or.inl ⟨by rfl, ?yq4⟩) (by assumption) ?rq4
    case yq4 => (intro wS hSw; (try dsimp only at hSw); have q0 := l0 wS hSw; have r0 := m0 wS hSw; have q1 := l1 wS hSw; have r1 := m1 wS hSw; have q2 := l2 wS hSw; have r2 := m2 wS hSw; have q3 := l3 wS hSw; have r3 := m3 wS hSw; have q4 := l4 wS hSw; have r4 := m4 wS hSw; go_simp <;> with_reducible rfl)
    simp only [Act.put, List.setIfInBounds_toArray, List.set_cons_zero, List.set_cons_succ]
    refine wpAnyH_take (i := 5) (oi := { dst := some 90, op := Op.move (Operand.tmp 11), type := 39, pos := "law.go:90", after := #[{ on := 4, ground := Ground.guard }], guard := some (4, true) }) (v := ?vq5) rfl (by as_aux_lemma => kernel_rfl) (by as_aux_lemma => kernel_rfl) (by as_aux_lemma => kernel_rfl) (fun _ _ _ h => h) (Or.inl ⟨by rfl, ?yq5⟩) (by assumption) ?rq5
    case yq5 => (intro wS hSw; (try dsimp only at hSw); have q0 := l0 wS hSw; have r0 := m0 wS hSw; have q1 := l1 wS hSw; have r1 := m1 wS hSw; have q2 := l2 wS hSw; have r2 := m2 wS hSw; have q3 := l3 wS hSw; have r3 := m3 wS hSw; have q4 := l4 wS hSw; have r4 := m4 wS hSw; go_simp <;> with_reducible rfl)
    simp only [Act.put, List.setIfInBounds_toArray, List.set_cons_zero, List.set_cons_succ]
    refine wpAnyH_take (i := 7) (oi := { dst := some 92, op := Op.move (Operand.tmp 13), type := 39, pos := "law.go:90", after := #[{ on := 4, ground := Ground.guard }], guard := some (4, true) }) (v := ?vq6) rfl (by as_aux_lemma => kernel_rfl) (by as_aux_lemma => kernel_rfl) (by as_aux_lemma => kernel_rfl) (fun _ _ _ h => h) (Or.inl ⟨by rfl, ?yq6⟩) (by assumption) ?rq6
    case yq6 => (intro wS hSw; (try dsimp only at hSw); have q0 := l0 wS hSw; have r0 := m0 wS hSw; have q1 := l1 wS hSw; have r1 := m1 wS hSw; have q2 := l2 wS hSw; have r2 := m2 wS hSw; have q3 := l3 wS hSw; have r3 := m3 wS hSw; have q4 := l4 wS hSw; have r4 := m4 wS hSw; go_simp <;> with_reducible rfl)
    simp only [Act.put, List.setIfInBounds_toArray, List.set_cons_zero, List.set_cons_succ]
    refine wpAnyH_ready (rs := [6]) (by as_aux_lemma => kernel_rfl) (by simp) ?_
    refine AllReadyH.cons (o := { dst := some 91, op := Op.call { callee := Callee.value (Operand.func 22), args := #[Operand.tmp 90], argTypes := #[39] }, type := 3, pos := "law.go:90", after := #[{ on := 5, ground := Ground.data }, { on := 4, ground := Ground.chain }, { on := 4, ground := Ground.guard }], guard := some (4, true) }) rfl (fun K hK => ?_) (by exact AllReadyH.nil)
    rw [if_pos (by rfl)]
    go_simp
    refine (num_any9 0 _).mono ?_
    rintro e v6 ⟨rfl, rfl⟩
    refine hK.out _ _ (by (try dsimp only); (first | exact hS50 | exact hS45 | exact hS44 | exact hS40 | exact hS38 | exact hS36 | exact hS32 | exact hS26 | exact hS24 | exact hS21 | exact hS16 | exact hS3)) (fun hHeld => ?_)
    clear hK K
    simp only [List.setIfInBounds_toArray, List.set_cons_zero, List.set_cons_succ]
    refine wpAnyH_ready (rs := [8]) (by as_aux_lemma => kernel_rfl) (by simp) ?_
    refine AllReadyH.cons (o := { dst := some 93, op := Op.call { callee := Callee.value (Operand.func 22), args := #[Operand.tmp 92], argTypes := #[39] }, type := 3, pos := "law.go:90", after := #[{ on := 7, ground := Ground.data }, { on := 6, ground := Ground.chain }, { on := 4, ground := Ground.guard }], guard := some (4, true) }) rfl (fun K hK => ?_) (by exact AllReadyH.nil)
    rw [if_pos (by rfl)]
    go_simp
    refine (num_any9 0 _).mono ?_
    rintro e v8 ⟨rfl, rfl⟩
    refine hK.out _ _ (by (try dsimp only); (first | exact hS50 | exact hS45 | exact hS44 | exact hS40 | exact hS38 | exact hS36 | exact hS32 | exact hS26 | exact hS24 | exact hS21 | exact hS16 | exact hS3)) (fun hHeld => ?_)
    clear hK K
    simp only [List.setIfInBounds_toArray, List.set_cons_zero, List.set_cons_succ]
    refine wpAnyH_take (i := 9) (oi := { dst := some 94, op := Op.binOp BinOp.add 3 (Operand.tmp 91) (Operand.tmp 93) 3, type := 3, pos := "law.go:90", after := #[{ on := 6, ground := Ground.data }, { on := 8, ground := Ground.data }, { on := 4, ground := Ground.guard }], guard := some (4, true) }) (v := ?vq9) rfl (by as_aux_lemma => kernel_rfl) (by as_aux_lemma => kernel_rfl) (by as_aux_lemma => kernel_rfl) (fun _ _ _ h => h) (Or.inl ⟨by rfl, ?yq9⟩) (by assumption) ?rq9
    case yq9 => (intro wS hSw; (try dsimp only at hSw); have q0 := l0 wS hSw; have r0 := m0 wS hSw; have q1 := l1 wS hSw; have r1 := m1 wS hSw; have q2 := l2 wS hSw; have r2 := m2 wS hSw; have q3 := l3 wS hSw; have r3 := m3 wS hSw; have q4 := l4 wS hSw; have r4 := m4 wS hSw; go_simp <;> with_reducible rfl)
    simp only [Act.put, List.setIfInBounds_toArray, List.set_cons_zero, List.set_cons_succ]
    refine wpAnyH_take (i := 10) (oi := { dst := some 95, op := Op.binOp BinOp.eql 3 (Operand.tmp 94) (Operand.const (Value.int IntKind.i64 0)) 3, type := 4, pos := "law.go:90", after := #[{ on := 9, ground := Ground.data }, { on := 4, ground := Ground.guard }], guard := some (4, true) }) (v := ?vq10) rfl (by as_aux_lemma => kernel_rfl) (by as_aux_lemma => kernel_rfl) (by as_aux_lemma => kernel_rfl) (fun _ _ _ h => h) (Or.inl ⟨by rfl, ?yq10⟩) (by assumption) ?rq10
    case yq10 => (intro wS hSw; (try dsimp only at hSw); have q0 := l0 wS hSw; have r0 := m0 wS hSw; have q1 := l1 wS hSw; have r1 := m1 wS hSw; have q2 := l2 wS hSw; have r2 := m2 wS hSw; have q3 := l3 wS hSw; have r3 := m3 wS hSw; have q4 := l4 wS hSw; have r4 := m4 wS hSw; go_simp <;> with_reducible rfl)
    simp only [Act.put, List.setIfInBounds_toArray, List.set_cons_zero, List.set_cons_succ]
    refine wpAnyH_take (i := 11) (oi := { dst := some 96, op := Op.pick (Operand.tmp 89) (Operand.tmp 95) (Operand.const (Value.bool false)), type := 4, pos := "law.go:90", after := #[{ on := 4, ground := Ground.data }, { on := 10, ground := Ground.data }], guard := none }) (v := ?vq11) rfl (by as_aux_lemma => kernel_rfl) (by as_aux_lemma => kernel_rfl) (by as_aux_lemma => kernel_rfl) (fun _ _ _ h => h) (Or.inl ⟨by rfl, ?yq11⟩) (by assumption) ?rq11
    case yq11 => (intro wS hSw; (try dsimp only at hSw); have q0 := l0 wS hSw; have r0 := m0 wS hSw; have q1 := l1 wS hSw; have r1 := m1 wS hSw; have q2 := l2 wS hSw; have r2 := m2 wS hSw; have q3 := l3 wS hSw; have r3 := m3 wS hSw; have q4 := l4 wS hSw; have r4 := m4 wS hSw; go_simp <;> with_reducible rfl)
    simp only [Act.put, List.setIfInBounds_toArray, List.set_cons_zero, List.set_cons_succ]
    refine wpAnyH_take (i := 12) (oi := { dst := some 97, op := Op.move (Operand.tmp 96), type := 4, pos := "law.go:90", after := #[{ on := 11, ground := Ground.data }, { on := 8, ground := Ground.chain }], guard := none }) (v := ?vq12) rfl (by as_aux_lemma => kernel_rfl) (by as_aux_lemma => kernel_rfl) (by as_aux_lemma => kernel_rfl) (fun _ _ _ h => h) (Or.inl ⟨by rfl, ?yq12⟩) (by assumption) ?rq12
    case yq12 => (intro wS hSw; (try dsimp only at hSw); have q0 := l0 wS hSw; have r0 := m0 wS hSw; have q1 := l1 wS hSw; have r1 := m1 wS hSw; have q2 := l2 wS hSw; have r2 := m2 wS hSw; have q3 := l3 wS hSw; have r3 := m3 wS hSw; have q4 := l4 wS hSw; have r4 := m4 wS hSw; go_simp <;> with_reducible rfl)
    simp only [Act.put, List.setIfInBounds_toArray, List.set_cons_zero, List.set_cons_succ]
    refine wpAnyH_take (i := 13) (oi := { dst := some 98, op := Op.move (Operand.tmp 10), type := 22, pos := "law.go:90", after := #[{ on := 12, ground := Ground.guard }], guard := some (12, true) }) (v := ?vq13) rfl (by as_aux_lemma => kernel_rfl) (by as_aux_lemma => kernel_rfl) (by as_aux_lemma => kernel_rfl) (fun _ _ _ h => h) (Or.inl ⟨by rfl, ?yq13⟩) (by assumption) ?rq13
    case yq13 => (intro wS hSw; (try dsimp only at hSw); have q0 := l0 wS hSw; have r0 := m0 wS hSw; have q1 := l1 wS hSw; have r1 := m1 wS hSw; have q2 := l2 wS hSw; have r2 := m2 wS hSw; have q3 := l3 wS hSw; have r3 := m3 wS hSw; have q4 := l4 wS hSw; have r4 := m4 wS hSw; go_simp <;> with_reducible rfl)
    simp only [Act.put, List.setIfInBounds_toArray, List.set_cons_zero, List.set_cons_succ]
    refine wpAnyH_take (i := 14) (oi := { dst := some 99, op := Op.move (Operand.tmp 12), type := 22, pos := "law.go:90", after := #[{ on := 12, ground := Ground.guard }], guard := some (12, true) }) (v := ?vq14) rfl (by as_aux_lemma => kernel_rfl) (by as_aux_lemma => kernel_rfl) (by as_aux_lemma => kernel_rfl) (fun _ _ _ h => h) (Or.inl ⟨by rfl, ?yq14⟩) (by assumption) ?rq14
    case yq14 => (intro wS hSw; (try dsimp only at hSw); have q0 := l0 wS hSw; have r0 := m0 wS hSw; have q1 := l1 wS hSw; have r1 := m1 wS hSw; have q2 := l2 wS hSw; have r2 := m2 wS hSw; have q3 := l3 wS hSw; have r3 := m3 wS hSw; have q4 := l4 wS hSw; have r4 := m4 wS hSw; go_simp <;> with_reducible rfl)
    simp only [Act.put, List.setIfInBounds_toArray, List.set_cons_zero, List.set_cons_succ]
    refine wpAnyH_take (i := 15) (oi := { dst := some 100, op := Op.move (Operand.tmp 7), type := 27, pos := "law.go:90", after := #[{ on := 12, ground := Ground.guard }], guard := some (12, true) }) (v := ?vq15) rfl (by as_aux_lemma => kernel_rfl) (by as_aux_lemma => kernel_rfl) (by as_aux_lemma => kernel_rfl) (fun _ _ _ h => h) (Or.inl ⟨by rfl, ?yq15⟩) (by assumption) ?rq15
    case yq15 => (intro wS hSw; (try dsimp only at hSw); have q0 := l0 wS hSw; have r0 := m0 wS hSw; have q1 := l1 wS hSw; have r1 := m1 wS hSw; have q2 := l2 wS hSw; have r2 := m2 wS hSw; have q3 := l3 wS hSw; have r3 := m3 wS hSw; have q4 := l4 wS hSw; have r4 := m4 wS hSw; go_simp <;> with_reducible rfl)
    simp only [Act.put, List.setIfInBounds_toArray, List.set_cons_zero, List.set_cons_succ]
    refine wpAnyH_ready (rs := [16]) (by as_aux_lemma => kernel_rfl) (by simp) ?_
    refine AllReadyH.cons (o := { dst := some 101, op := Op.call { callee := Callee.value (Operand.func 25), args := #[Operand.tmp 98, Operand.tmp 99, Operand.tmp 100], argTypes := #[22, 22, 27] }, type := 4, pos := "law.go:90", after := #[{ on := 13, ground := Ground.data }, { on := 14, ground := Ground.data }, { on := 15, ground := Ground.data }, { on := 12, ground := Ground.chain }, { on := 12, ground := Ground.guard }], guard := some (12, true) }) rfl (fun K hK => ?_) (by exact AllReadyH.nil)
    rw [if_pos (by rfl)]
    go_simp
    refine (HPQ.out _ hS3).mono ?_
    rintro e v16 ⟨rfl, hv16⟩
    have hS16 := rstep hv16 hS3
    refine hK.out _ _ (by (try dsimp only); (first | exact hS50 | exact hS45 | exact hS44 | exact hS40 | exact hS38 | exact hS36 | exact hS32 | exact hS26 | exact hS24 | exact hS21 | exact hS16 | exact hS3)) (fun hHeld => ?_)
    clear hK K
    simp only [List.setIfInBounds_toArray, List.set_cons_zero, List.set_cons_succ]
    refine wpAnyH_take (i := 17) (oi := { dst := some 102, op := Op.pick (Operand.tmp 97) (Operand.tmp 101) (Operand.const (Value.bool false)), type := 4, pos := "law.go:90", after := #[{ on := 12, ground := Ground.data }, { on := 16, ground := Ground.data }], guard := none }) (v := ?vq17) rfl (by as_aux_lemma => kernel_rfl) (by as_aux_lemma => kernel_rfl) (by as_aux_lemma => kernel_rfl) (fun _ _ _ h => h) (Or.inl ⟨by rfl, ?yq17⟩) (by assumption) ?rq17
    case yq17 => (intro wS hSw; (try dsimp only at hSw); have q0 := l0 wS hSw; have r0 := m0 wS hSw; have q1 := l1 wS hSw; have r1 := m1 wS hSw; have q2 := l2 wS hSw; have r2 := m2 wS hSw; have q3 := l3 wS hSw; have r3 := m3 wS hSw; have q4 := l4 wS hSw; have r4 := m4 wS hSw; go_simp <;> with_reducible rfl)
    simp only [Act.put, List.setIfInBounds_toArray, List.set_cons_zero, List.set_cons_succ]
    refine wpAnyH_take (i := 18) (oi := { dst := some 103, op := Op.move (Operand.tmp 102), type := 4, pos := "law.go:90", after := #[{ on := 17, ground := Ground.data }, { on := 16, ground := Ground.chain }], guard := none }) (v := ?vq18) rfl (by as_aux_lemma => kernel_rfl) (by as_aux_lemma => kernel_rfl) (by as_aux_lemma => kernel_rfl) (fun _ _ _ h => h) (Or.inl ⟨by rfl, ?yq18⟩) (by assumption) ?rq18
    case yq18 => (intro wS hSw; (try dsimp only at hSw); have q0 := l0 wS hSw; have r0 := m0 wS hSw; have q1 := l1 wS hSw; have r1 := m1 wS hSw; have q2 := l2 wS hSw; have r2 := m2 wS hSw; have q3 := l3 wS hSw; have r3 := m3 wS hSw; have q4 := l4 wS hSw; have r4 := m4 wS hSw; go_simp <;> with_reducible rfl)
    simp only [Act.put, List.setIfInBounds_toArray, List.set_cons_zero, List.set_cons_succ]
    refine wpAnyH_take (i := 19) (oi := { dst := some 104, op := Op.move (Operand.tmp 9), type := 27, pos := "law.go:90", after := #[{ on := 18, ground := Ground.guard }], guard := some (18, true) }) (v := ?vq19) rfl (by as_aux_lemma => kernel_rfl) (by as_aux_lemma => kernel_rfl) (by as_aux_lemma => kernel_rfl) (fun _ _ _ h => h) (Or.inl ⟨by rfl, ?yq19⟩) (by assumption) ?rq19
    case yq19 => (intro wS hSw; (try dsimp only at hSw); have q0 := l0 wS hSw; have r0 := m0 wS hSw; have q1 := l1 wS hSw; have r1 := m1 wS hSw; have q2 := l2 wS hSw; have r2 := m2 wS hSw; have q3 := l3 wS hSw; have r3 := m3 wS hSw; have q4 := l4 wS hSw; have r4 := m4 wS hSw; go_simp <;> with_reducible rfl)
    simp only [Act.put, List.setIfInBounds_toArray, List.set_cons_zero, List.set_cons_succ]
    refine wpAnyH_take (i := 20) (oi := { dst := some 105, op := Op.move (Operand.tmp 0), type := 22, pos := "law.go:90", after := #[{ on := 18, ground := Ground.guard }], guard := some (18, true) }) (v := ?vq20) rfl (by as_aux_lemma => kernel_rfl) (by as_aux_lemma => kernel_rfl) (by as_aux_lemma => kernel_rfl) (fun _ _ _ h => h) (Or.inl ⟨by rfl, ?yq20⟩) (by assumption) ?rq20
    case yq20 => (intro wS hSw; (try dsimp only at hSw); have q0 := l0 wS hSw; have r0 := m0 wS hSw; have q1 := l1 wS hSw; have r1 := m1 wS hSw; have q2 := l2 wS hSw; have r2 := m2 wS hSw; have q3 := l3 wS hSw; have r3 := m3 wS hSw; have q4 := l4 wS hSw; have r4 := m4 wS hSw; go_simp <;> with_reducible rfl)
    simp only [Act.put, List.setIfInBounds_toArray, List.set_cons_zero, List.set_cons_succ]
    refine wpAnyH_take (i := 22) (oi := { dst := some 107, op := Op.move (Operand.tmp 9), type := 27, pos := "law.go:90", after := #[{ on := 18, ground := Ground.guard }], guard := some (18, true) }) (v := ?vq21) rfl (by as_aux_lemma => kernel_rfl) (by as_aux_lemma => kernel_rfl) (by as_aux_lemma => kernel_rfl) (fun _ _ _ h => h) (Or.inl ⟨by rfl, ?yq21⟩) (by assumption) ?rq21
    case yq21 => (intro wS hSw; (try dsimp only at hSw); have q0 := l0 wS hSw; have r0 := m0 wS hSw; have q1 := l1 wS hSw; have r1 := m1 wS hSw; have q2 := l2 wS hSw; have r2 := m2 wS hSw; have q3 := l3 wS hSw; have r3 := m3 wS hSw; have q4 := l4 wS hSw; have r4 := m4 wS hSw; go_simp <;> with_reducible rfl)
    simp only [Act.put, List.setIfInBounds_toArray, List.set_cons_zero, List.set_cons_succ]
    refine wpAnyH_take (i := 23) (oi := { dst := some 108, op := Op.move (Operand.tmp 1), type := 22, pos := "law.go:90", after := #[{ on := 18, ground := Ground.guard }], guard := some (18, true) }) (v := ?vq22) rfl (by as_aux_lemma => kernel_rfl) (by as_aux_lemma => kernel_rfl) (by as_aux_lemma => kernel_rfl) (fun _ _ _ h => h) (Or.inl ⟨by rfl, ?yq22⟩) (by assumption) ?rq22
    case yq22 => (intro wS hSw; (try dsimp only at hSw); have q0 := l0 wS hSw; have r0 := m0 wS hSw; have q1 := l1 wS hSw; have r1 := m1 wS hSw; have q2 := l2 wS hSw; have r2 := m2 wS hSw; have q3 := l3 wS hSw; have r3 := m3 wS hSw; have q4 := l4 wS hSw; have r4 := m4 wS hSw; go_simp <;> with_reducible rfl)
    simp only [Act.put, List.setIfInBounds_toArray, List.set_cons_zero, List.set_cons_succ]
    refine wpAnyH_take (i := 25) (oi := { dst := some 110, op := Op.move (Operand.tmp 7), type := 27, pos := "law.go:90", after := #[{ on := 18, ground := Ground.guard }], guard := some (18, true) }) (v := ?vq23) rfl (by as_aux_lemma => kernel_rfl) (by as_aux_lemma => kernel_rfl) (by as_aux_lemma => kernel_rfl) (fun _ _ _ h => h) (Or.inl ⟨by rfl, ?yq23⟩) (by assumption) ?rq23
    case yq23 => (intro wS hSw; (try dsimp only at hSw); have q0 := l0 wS hSw; have r0 := m0 wS hSw; have q1 := l1 wS hSw; have r1 := m1 wS hSw; have q2 := l2 wS hSw; have r2 := m2 wS hSw; have q3 := l3 wS hSw; have r3 := m3 wS hSw; have q4 := l4 wS hSw; have r4 := m4 wS hSw; go_simp <;> with_reducible rfl)
    simp only [Act.put, List.setIfInBounds_toArray, List.set_cons_zero, List.set_cons_succ]
    refine wpAnyH_ready (rs := [21]) (by as_aux_lemma => kernel_rfl) (by simp) ?_
    refine AllReadyH.cons (o := { dst := some 106, op := Op.call { callee := Callee.value (Operand.func 15), args := #[Operand.tmp 104, Operand.tmp 105], argTypes := #[27, 22] }, type := 22, pos := "law.go:90", after := #[{ on := 19, ground := Ground.data }, { on := 20, ground := Ground.data }, { on := 18, ground := Ground.chain }, { on := 18, ground := Ground.guard }], guard := some (18, true) }) rfl (fun K hK => ?_) (by exact AllReadyH.nil)
    rw [if_pos (by rfl)]
    go_simp
    refine (HJA.out _ (bstep HRV.out hS16)).mono ?_
    rintro e v21 ⟨g21, rfl, hg21, hb21, hv21⟩
    have hS21 := rstep hv21 hS16
    refine hK.out _ _ (by (try dsimp only); (first | exact hS50 | exact hS45 | exact hS44 | exact hS40 | exact hS38 | exact hS36 | exact hS32 | exact hS26 | exact hS24 | exact hS21 | exact hS16 | exact hS3)) (fun hHeld => ?_)
    clear hK K
    simp only [List.setIfInBounds_toArray, List.set_cons_zero, List.set_cons_succ]
    refine wpAnyH_ready (rs := [24]) (by as_aux_lemma => kernel_rfl) (by simp) ?_
    refine AllReadyH.cons (o := { dst := some 109, op := Op.call { callee := Callee.value (Operand.func 15), args := #[Operand.tmp 107, Operand.tmp 108], argTypes := #[27, 22] }, type := 22, pos := "law.go:90", after := #[{ on := 22, ground := Ground.data }, { on := 23, ground := Ground.data }, { on := 21, ground := Ground.chain }, { on := 18, ground := Ground.guard }], guard := some (18, true) }) rfl (fun K hK => ?_) (by exact AllReadyH.nil)
    rw [if_pos (by rfl)]
    go_simp
    refine (HJB.out _ (bstep HRV.out hS21)).mono ?_
    rintro e v24 ⟨g24, rfl, hg24, hb24, hv24⟩
    have hS24 := rstep hv24 hS21
    refine hK.out _ _ (by (try dsimp only); (first | exact hS50 | exact hS45 | exact hS44 | exact hS40 | exact hS38 | exact hS36 | exact hS32 | exact hS26 | exact hS24 | exact hS21 | exact hS16 | exact hS3)) (fun hHeld => ?_)
    clear hK K
    simp only [List.setIfInBounds_toArray, List.set_cons_zero, List.set_cons_succ]
    refine wpAnyH_ready (rs := [26]) (by as_aux_lemma => kernel_rfl) (by simp) ?_
    refine AllReadyH.cons (o := { dst := some 111, op := Op.call { callee := Callee.value (Operand.func 25), args := #[Operand.tmp 106, Operand.tmp 109, Operand.tmp 110], argTypes := #[22, 22, 27] }, type := 4, pos := "law.go:90", after := #[{ on := 21, ground := Ground.data }, { on := 24, ground := Ground.data }, { on := 25, ground := Ground.data }, { on := 24, ground := Ground.chain }, { on := 18, ground := Ground.guard }], guard := some (18, true) }) rfl (fun K hK => ?_) (by exact AllReadyH.nil)
    rw [if_pos (by rfl)]
    go_simp
    refine (HJQ.out _ _ _ (hb21.keep hv24) hb24).mono ?_
    rintro e v26 ⟨rfl, hv26⟩
    have hS26 := rstep hv26 hS24
    clear hg21 hb21 hg24 hb24
    refine hK.out _ _ (by (try dsimp only); (first | exact hS50 | exact hS45 | exact hS44 | exact hS40 | exact hS38 | exact hS36 | exact hS32 | exact hS26 | exact hS24 | exact hS21 | exact hS16 | exact hS3)) (fun hHeld => ?_)
    clear hK K
    simp only [List.setIfInBounds_toArray, List.set_cons_zero, List.set_cons_succ]
    refine wpAnyH_take (i := 27) (oi := { dst := some 112, op := Op.pick (Operand.tmp 103) (Operand.tmp 111) (Operand.const (Value.bool false)), type := 4, pos := "law.go:90", after := #[{ on := 18, ground := Ground.data }, { on := 26, ground := Ground.data }], guard := none }) (v := ?vq27) rfl (by as_aux_lemma => kernel_rfl) (by as_aux_lemma => kernel_rfl) (by as_aux_lemma => kernel_rfl) (fun _ _ _ h => h) (Or.inl ⟨by rfl, ?yq27⟩) (by assumption) ?rq27
    case yq27 => (intro wS hSw; (try dsimp only at hSw); have q0 := l0 wS hSw; have r0 := m0 wS hSw; have q1 := l1 wS hSw; have r1 := m1 wS hSw; have q2 := l2 wS hSw; have r2 := m2 wS hSw; have q3 := l3 wS hSw; have r3 := m3 wS hSw; have q4 := l4 wS hSw; have r4 := m4 wS hSw; go_simp <;> with_reducible rfl)
    simp only [Act.put, List.setIfInBounds_toArray, List.set_cons_zero, List.set_cons_succ]
    refine wpAnyH_take (i := 28) (oi := { dst := some 113, op := Op.move (Operand.tmp 112), type := 4, pos := "law.go:90", after := #[{ on := 27, ground := Ground.data }, { on := 26, ground := Ground.chain }], guard := none }) (v := ?vq28) rfl (by as_aux_lemma => kernel_rfl) (by as_aux_lemma => kernel_rfl) (by as_aux_lemma => kernel_rfl) (fun _ _ _ h => h) (Or.inl ⟨by rfl, ?yq28⟩) (by assumption) ?rq28
    case yq28 => (intro wS hSw; (try dsimp only at hSw); have q0 := l0 wS hSw; have r0 := m0 wS hSw; have q1 := l1 wS hSw; have r1 := m1 wS hSw; have q2 := l2 wS hSw; have r2 := m2 wS hSw; have q3 := l3 wS hSw; have r3 := m3 wS hSw; have q4 := l4 wS hSw; have r4 := m4 wS hSw; go_simp <;> with_reducible rfl)
    simp only [Act.put, List.setIfInBounds_toArray, List.set_cons_zero, List.set_cons_succ]
    refine wpAnyH_take (i := 29) (oi := { dst := some 114, op := Op.load 29 (Operand.tmp 14), type := 29, pos := "law.go:90", after := #[{ on := 28, ground := Ground.guard }], guard := some (28, true) }) (v := ?vq29) rfl (by as_aux_lemma => kernel_rfl) (by as_aux_lemma => kernel_rfl) (by as_aux_lemma => kernel_rfl) (fun _ _ _ h => h) (Or.inl ⟨by rfl, ?yq29⟩) (by assumption) ?rq29
    case yq29 => (intro wS hSw; (try dsimp only at hSw); have q0 := l0 wS hSw; have r0 := m0 wS hSw; have q1 := l1 wS hSw; have r1 := m1 wS hSw; have q2 := l2 wS hSw; have r2 := m2 wS hSw; have q3 := l3 wS hSw; have r3 := m3 wS hSw; have q4 := l4 wS hSw; have r4 := m4 wS hSw; go_simp <;> with_reducible rfl)
    simp only [Act.put, List.setIfInBounds_toArray, List.set_cons_zero, List.set_cons_succ]
    refine wpAnyH_take (i := 30) (oi := { dst := some 115, op := Op.load 29 (Operand.tmp 15), type := 29, pos := "law.go:90", after := #[{ on := 28, ground := Ground.guard }], guard := some (28, true) }) (v := ?vq30) rfl (by as_aux_lemma => kernel_rfl) (by as_aux_lemma => kernel_rfl) (by as_aux_lemma => kernel_rfl) (fun _ _ _ h => h) (Or.inl ⟨by rfl, ?yq30⟩) (by assumption) ?rq30
    case yq30 => (intro wS hSw; (try dsimp only at hSw); have q0 := l0 wS hSw; have r0 := m0 wS hSw; have q1 := l1 wS hSw; have r1 := m1 wS hSw; have q2 := l2 wS hSw; have r2 := m2 wS hSw; have q3 := l3 wS hSw; have r3 := m3 wS hSw; have q4 := l4 wS hSw; have r4 := m4 wS hSw; go_simp <;> with_reducible rfl)
    simp only [Act.put, List.setIfInBounds_toArray, List.set_cons_zero, List.set_cons_succ]
    refine wpAnyH_take (i := 31) (oi := { dst := some 116, op := Op.move (Operand.tmp 7), type := 27, pos := "law.go:90", after := #[{ on := 28, ground := Ground.guard }], guard := some (28, true) }) (v := ?vq31) rfl (by as_aux_lemma => kernel_rfl) (by as_aux_lemma => kernel_rfl) (by as_aux_lemma => kernel_rfl) (fun _ _ _ h => h) (Or.inl ⟨by rfl, ?yq31⟩) (by assumption) ?rq31
    case yq31 => (intro wS hSw; (try dsimp only at hSw); have q0 := l0 wS hSw; have r0 := m0 wS hSw; have q1 := l1 wS hSw; have r1 := m1 wS hSw; have q2 := l2 wS hSw; have r2 := m2 wS hSw; have q3 := l3 wS hSw; have r3 := m3 wS hSw; have q4 := l4 wS hSw; have r4 := m4 wS hSw; go_simp <;> with_reducible rfl)
    simp only [Act.put, List.setIfInBounds_toArray, List.set_cons_zero, List.set_cons_succ]
    refine wpAnyH_ready (rs := [32]) (by as_aux_lemma => kernel_rfl) (by simp) ?_
    refine AllReadyH.cons (o := { dst := some 117, op := Op.call { callee := Callee.value (Operand.func 27), args := #[Operand.tmp 114, Operand.tmp 115, Operand.tmp 116], argTypes := #[29, 29, 27] }, type := 4, pos := "law.go:90", after := #[{ on := 29, ground := Ground.data }, { on := 30, ground := Ground.data }, { on := 31, ground := Ground.data }, { on := 28, ground := Ground.chain }, { on := 28, ground := Ground.guard }], guard := some (28, true) }) rfl (fun K hK => ?_) (by exact AllReadyH.nil)
    rw [if_pos (by rfl)]
    go_simp
    refine (HSS.out _).mono ?_
    rintro e v32 ⟨rfl, hv32⟩
    have hS32 := rstep hv32 hS26
    refine hK.out _ _ (by (try dsimp only); (first | exact hS50 | exact hS45 | exact hS44 | exact hS40 | exact hS38 | exact hS36 | exact hS32 | exact hS26 | exact hS24 | exact hS21 | exact hS16 | exact hS3)) (fun hHeld => ?_)
    clear hK K
    simp only [List.setIfInBounds_toArray, List.set_cons_zero, List.set_cons_succ]
    refine wpAnyH_take (i := 33) (oi := { dst := some 118, op := Op.pick (Operand.tmp 113) (Operand.tmp 117) (Operand.const (Value.bool false)), type := 4, pos := "law.go:90", after := #[{ on := 28, ground := Ground.data }, { on := 32, ground := Ground.data }], guard := none }) (v := ?vq33) rfl (by as_aux_lemma => kernel_rfl) (by as_aux_lemma => kernel_rfl) (by as_aux_lemma => kernel_rfl) (fun _ _ _ h => h) (Or.inl ⟨by rfl, ?yq33⟩) (by assumption) ?rq33
    case yq33 => (intro wS hSw; (try dsimp only at hSw); have q0 := l0 wS hSw; have r0 := m0 wS hSw; have q1 := l1 wS hSw; have r1 := m1 wS hSw; have q2 := l2 wS hSw; have r2 := m2 wS hSw; have q3 := l3 wS hSw; have r3 := m3 wS hSw; have q4 := l4 wS hSw; have r4 := m4 wS hSw; go_simp <;> with_reducible rfl)
    simp only [Act.put, List.setIfInBounds_toArray, List.set_cons_zero, List.set_cons_succ]
    refine wpAnyH_take (i := 34) (oi := { dst := some 119, op := Op.move (Operand.tmp 118), type := 4, pos := "law.go:90", after := #[{ on := 33, ground := Ground.data }, { on := 32, ground := Ground.chain }], guard := none }) (v := ?vq34) rfl (by as_aux_lemma => kernel_rfl) (by as_aux_lemma => kernel_rfl) (by as_aux_lemma => kernel_rfl) (fun _ _ _ h => h) (Or.inl ⟨by rfl, ?yq34⟩) (by assumption) ?rq34
    case yq34 => (intro wS hSw; (try dsimp only at hSw); have q0 := l0 wS hSw; have r0 := m0 wS hSw; have q1 := l1 wS hSw; have r1 := m1 wS hSw; have q2 := l2 wS hSw; have r2 := m2 wS hSw; have q3 := l3 wS hSw; have r3 := m3 wS hSw; have q4 := l4 wS hSw; have r4 := m4 wS hSw; go_simp <;> with_reducible rfl)
    simp only [Act.put, List.setIfInBounds_toArray, List.set_cons_zero, List.set_cons_succ]
    refine wpAnyH_take (i := 35) (oi := { dst := some 120, op := Op.load 29 (Operand.tmp 14), type := 29, pos := "law.go:90", after := #[{ on := 34, ground := Ground.guard }], guard := some (34, true) }) (v := ?vq35) rfl (by as_aux_lemma => kernel_rfl) (by as_aux_lemma => kernel_rfl) (by as_aux_lemma => kernel_rfl) (fun _ _ _ h => h) (Or.inl ⟨by rfl, ?yq35⟩) (by assumption) ?rq35
    case yq35 => (intro wS hSw; (try dsimp only at hSw); have q0 := l0 wS hSw; have r0 := m0 wS hSw; have q1 := l1 wS hSw; have r1 := m1 wS hSw; have q2 := l2 wS hSw; have r2 := m2 wS hSw; have q3 := l3 wS hSw; have r3 := m3 wS hSw; have q4 := l4 wS hSw; have r4 := m4 wS hSw; go_simp <;> with_reducible rfl)
    simp only [Act.put, List.setIfInBounds_toArray, List.set_cons_zero, List.set_cons_succ]
    refine wpAnyH_take (i := 37) (oi := { dst := some 122, op := Op.load 29 (Operand.tmp 15), type := 29, pos := "law.go:90", after := #[{ on := 34, ground := Ground.guard }], guard := some (34, true) }) (v := ?vq36) rfl (by as_aux_lemma => kernel_rfl) (by as_aux_lemma => kernel_rfl) (by as_aux_lemma => kernel_rfl) (fun _ _ _ h => h) (Or.inl ⟨by rfl, ?yq36⟩) (by assumption) ?rq36
    case yq36 => (intro wS hSw; (try dsimp only at hSw); have q0 := l0 wS hSw; have r0 := m0 wS hSw; have q1 := l1 wS hSw; have r1 := m1 wS hSw; have q2 := l2 wS hSw; have r2 := m2 wS hSw; have q3 := l3 wS hSw; have r3 := m3 wS hSw; have q4 := l4 wS hSw; have r4 := m4 wS hSw; go_simp <;> with_reducible rfl)
    simp only [Act.put, List.setIfInBounds_toArray, List.set_cons_zero, List.set_cons_succ]
    refine wpAnyH_take (i := 39) (oi := { dst := some 124, op := Op.move (Operand.tmp 7), type := 27, pos := "law.go:90", after := #[{ on := 34, ground := Ground.guard }], guard := some (34, true) }) (v := ?vq37) rfl (by as_aux_lemma => kernel_rfl) (by as_aux_lemma => kernel_rfl) (by as_aux_lemma => kernel_rfl) (fun _ _ _ h => h) (Or.inl ⟨by rfl, ?yq37⟩) (by assumption) ?rq37
    case yq37 => (intro wS hSw; (try dsimp only at hSw); have q0 := l0 wS hSw; have r0 := m0 wS hSw; have q1 := l1 wS hSw; have r1 := m1 wS hSw; have q2 := l2 wS hSw; have r2 := m2 wS hSw; have q3 := l3 wS hSw; have r3 := m3 wS hSw; have q4 := l4 wS hSw; have r4 := m4 wS hSw; go_simp <;> with_reducible rfl)
    simp only [Act.put, List.setIfInBounds_toArray, List.set_cons_zero, List.set_cons_succ]
    refine wpAnyH_ready (rs := [36]) (by as_aux_lemma => kernel_rfl) (by simp) ?_
    refine AllReadyH.cons (o := { dst := some 121, op := Op.call { callee := Callee.value (Operand.func 17), args := #[Operand.tmp 120], argTypes := #[29] }, type := 22, pos := "law.go:90", after := #[{ on := 35, ground := Ground.data }, { on := 34, ground := Ground.chain }, { on := 34, ground := Ground.guard }], guard := some (34, true) }) rfl (fun K hK => ?_) (by exact AllReadyH.nil)
    rw [if_pos (by rfl)]
    go_simp
    refine (tcells_any na ja HNA.out.1 _).mono ?_
    rintro e v36 ⟨g36, rfl, hg36, hb36, hv36⟩
    have hS36 := rstep hv36 hS32
    refine hK.out _ _ (by (try dsimp only); (first | exact hS50 | exact hS45 | exact hS44 | exact hS40 | exact hS38 | exact hS36 | exact hS32 | exact hS26 | exact hS24 | exact hS21 | exact hS16 | exact hS3)) (fun hHeld => ?_)
    clear hK K
    simp only [List.setIfInBounds_toArray, List.set_cons_zero, List.set_cons_succ]
    refine wpAnyH_ready (rs := [38]) (by as_aux_lemma => kernel_rfl) (by simp) ?_
    refine AllReadyH.cons (o := { dst := some 123, op := Op.call { callee := Callee.value (Operand.func 17), args := #[Operand.tmp 122], argTypes := #[29] }, type := 22, pos := "law.go:90", after := #[{ on := 37, ground := Ground.data }, { on := 36, ground := Ground.chain }, { on := 34, ground := Ground.guard }], guard := some (34, true) }) rfl (fun K hK => ?_) (by exact AllReadyH.nil)
    rw [if_pos (by rfl)]
    go_simp
    refine (tcells_any nb jb HNA.out.2 _).mono ?_
    rintro e v38 ⟨g38, rfl, hg38, hb38, hv38⟩
    have hS38 := rstep hv38 hS36
    refine hK.out _ _ (by (try dsimp only); (first | exact hS50 | exact hS45 | exact hS44 | exact hS40 | exact hS38 | exact hS36 | exact hS32 | exact hS26 | exact hS24 | exact hS21 | exact hS16 | exact hS3)) (fun hHeld => ?_)
    clear hK K
    simp only [List.setIfInBounds_toArray, List.set_cons_zero, List.set_cons_succ]
    refine wpAnyH_ready (rs := [40]) (by as_aux_lemma => kernel_rfl) (by simp) ?_
    refine AllReadyH.cons (o := { dst := some 125, op := Op.call { callee := Callee.value (Operand.func 25), args := #[Operand.tmp 121, Operand.tmp 123, Operand.tmp 124], argTypes := #[22, 22, 27] }, type := 4, pos := "law.go:90", after := #[{ on := 36, ground := Ground.data }, { on := 38, ground := Ground.data }, { on := 39, ground := Ground.data }, { on := 38, ground := Ground.chain }, { on := 34, ground := Ground.guard }], guard := some (34, true) }) rfl (fun K hK => ?_) (by exact AllReadyH.nil)
    rw [if_pos (by rfl)]
    go_simp
    refine (HCQ.out _ _ _ (hb36.keep hv38) hb38).mono ?_
    rintro e v40 ⟨rfl, hv40⟩
    have hS40 := rstep hv40 hS38
    clear hg36 hb36 hg38 hb38
    refine hK.out _ _ (by (try dsimp only); (first | exact hS50 | exact hS45 | exact hS44 | exact hS40 | exact hS38 | exact hS36 | exact hS32 | exact hS26 | exact hS24 | exact hS21 | exact hS16 | exact hS3)) (fun hHeld => ?_)
    clear hK K
    simp only [List.setIfInBounds_toArray, List.set_cons_zero, List.set_cons_succ]
    refine wpAnyH_take (i := 41) (oi := { dst := some 126, op := Op.pick (Operand.tmp 119) (Operand.tmp 125) (Operand.const (Value.bool false)), type := 4, pos := "law.go:90", after := #[{ on := 34, ground := Ground.data }, { on := 40, ground := Ground.data }], guard := none }) (v := ?vq41) rfl (by as_aux_lemma => kernel_rfl) (by as_aux_lemma => kernel_rfl) (by as_aux_lemma => kernel_rfl) (fun _ _ _ h => h) (Or.inl ⟨by rfl, ?yq41⟩) (by assumption) ?rq41
    case yq41 => (intro wS hSw; (try dsimp only at hSw); have q0 := l0 wS hSw; have r0 := m0 wS hSw; have q1 := l1 wS hSw; have r1 := m1 wS hSw; have q2 := l2 wS hSw; have r2 := m2 wS hSw; have q3 := l3 wS hSw; have r3 := m3 wS hSw; have q4 := l4 wS hSw; have r4 := m4 wS hSw; go_simp <;> with_reducible rfl)
    simp only [Act.put, List.setIfInBounds_toArray, List.set_cons_zero, List.set_cons_succ]
    refine wpAnyH_take (i := 42) (oi := { dst := some 127, op := Op.move (Operand.tmp 126), type := 4, pos := "law.go:90", after := #[{ on := 41, ground := Ground.data }, { on := 40, ground := Ground.chain }], guard := none }) (v := ?vq42) rfl (by as_aux_lemma => kernel_rfl) (by as_aux_lemma => kernel_rfl) (by as_aux_lemma => kernel_rfl) (fun _ _ _ h => h) (Or.inl ⟨by rfl, ?yq42⟩) (by assumption) ?rq42
    case yq42 => (intro wS hSw; (try dsimp only at hSw); have q0 := l0 wS hSw; have r0 := m0 wS hSw; have q1 := l1 wS hSw; have r1 := m1 wS hSw; have q2 := l2 wS hSw; have r2 := m2 wS hSw; have q3 := l3 wS hSw; have r3 := m3 wS hSw; have q4 := l4 wS hSw; have r4 := m4 wS hSw; go_simp <;> with_reducible rfl)
    simp only [Act.put, List.setIfInBounds_toArray, List.set_cons_zero, List.set_cons_succ]
    refine wpAnyH_take (i := 43) (oi := { dst := some 128, op := Op.load 29 (Operand.tmp 14), type := 29, pos := "law.go:90", after := #[{ on := 42, ground := Ground.guard }], guard := some (42, true) }) (v := ?vq43) rfl (by as_aux_lemma => kernel_rfl) (by as_aux_lemma => kernel_rfl) (by as_aux_lemma => kernel_rfl) (fun _ _ _ h => h) (Or.inl ⟨by rfl, ?yq43⟩) (by assumption) ?rq43
    case yq43 => (intro wS hSw; (try dsimp only at hSw); have q0 := l0 wS hSw; have r0 := m0 wS hSw; have q1 := l1 wS hSw; have r1 := m1 wS hSw; have q2 := l2 wS hSw; have r2 := m2 wS hSw; have q3 := l3 wS hSw; have r3 := m3 wS hSw; have q4 := l4 wS hSw; have r4 := m4 wS hSw; go_simp <;> with_reducible rfl)
    simp only [Act.put, List.setIfInBounds_toArray, List.set_cons_zero, List.set_cons_succ]
    refine wpAnyH_take (i := 46) (oi := { dst := some 131, op := Op.load 29 (Operand.tmp 14), type := 29, pos := "law.go:90", after := #[{ on := 42, ground := Ground.guard }], guard := some (42, true) }) (v := ?vq44) rfl (by as_aux_lemma => kernel_rfl) (by as_aux_lemma => kernel_rfl) (by as_aux_lemma => kernel_rfl) (fun _ _ _ h => h) (Or.inl ⟨by rfl, ?yq44⟩) (by assumption) ?rq44
    case yq44 => (intro wS hSw; (try dsimp only at hSw); have q0 := l0 wS hSw; have r0 := m0 wS hSw; have q1 := l1 wS hSw; have r1 := m1 wS hSw; have q2 := l2 wS hSw; have r2 := m2 wS hSw; have q3 := l3 wS hSw; have r3 := m3 wS hSw; have q4 := l4 wS hSw; have r4 := m4 wS hSw; go_simp <;> with_reducible rfl)
    simp only [Act.put, List.setIfInBounds_toArray, List.set_cons_zero, List.set_cons_succ]
    refine wpAnyH_ready (rs := [44]) (by as_aux_lemma => kernel_rfl) (by simp) ?_
    refine AllReadyH.cons (o := { dst := some 129, op := Op.call { callee := Callee.value (Operand.func 17), args := #[Operand.tmp 128], argTypes := #[29] }, type := 22, pos := "law.go:90", after := #[{ on := 43, ground := Ground.data }, { on := 42, ground := Ground.chain }, { on := 42, ground := Ground.guard }], guard := some (42, true) }) rfl (fun K hK => ?_) (by exact AllReadyH.nil)
    rw [if_pos (by rfl)]
    go_simp
    refine (tcells_any na ja HNA.out.1 _).mono ?_
    rintro e v44 ⟨g44, rfl, hg44, hb44, hv44⟩
    have hS44 := rstep hv44 hS40
    refine hK.out _ _ (by (try dsimp only); (first | exact hS50 | exact hS45 | exact hS44 | exact hS40 | exact hS38 | exact hS36 | exact hS32 | exact hS26 | exact hS24 | exact hS21 | exact hS16 | exact hS3)) (fun hHeld => ?_)
    clear hK K
    simp only [List.setIfInBounds_toArray, List.set_cons_zero, List.set_cons_succ]
    refine wpAnyH_ready (rs := [45]) (by as_aux_lemma => kernel_rfl) (by simp) ?_
    refine AllReadyH.cons (o := { dst := some 130, op := Op.call { callee := Callee.value (Operand.func 19), args := #[Operand.tmp 129], argTypes := #[22] }, type := 29, pos := "law.go:90", after := #[{ on := 44, ground := Ground.data }, { on := 44, ground := Ground.chain }, { on := 42, ground := Ground.guard }], guard := some (42, true) }) rfl (fun K hK => ?_) (by exact AllReadyH.nil)
    rw [if_pos (by rfl)]
    go_simp
    refine (HVB.out _ _ hb44).mono ?_
    rintro e v45 ⟨rfl, hv45⟩
    have hS45 := rstep hv45 hS44
    refine hK.out _ _ (by (try dsimp only); (first | exact hS50 | exact hS45 | exact hS44 | exact hS40 | exact hS38 | exact hS36 | exact hS32 | exact hS26 | exact hS24 | exact hS21 | exact hS16 | exact hS3)) (fun hHeld => ?_)
    clear hK K
    simp only [List.setIfInBounds_toArray, List.set_cons_zero, List.set_cons_succ]
    refine wpAnyH_take (i := 47) (oi := { dst := some 132, op := Op.binOp BinOp.eql 29 (Operand.tmp 130) (Operand.tmp 131) 29, type := 4, pos := "law.go:90", after := #[{ on := 45, ground := Ground.data }, { on := 46, ground := Ground.data }, { on := 42, ground := Ground.guard }], guard := some (42, true) }) (v := ?vq47) rfl (by as_aux_lemma => kernel_rfl) (by as_aux_lemma => kernel_rfl) (by as_aux_lemma => kernel_rfl) (fun _ _ _ h => h) (Or.inl ⟨by rfl, ?yq47⟩) (by assumption) ?rq47
    case yq47 => (intro wS hSw; (try dsimp only at hSw); have q0 := l0 wS hSw; have r0 := m0 wS hSw; have q1 := l1 wS hSw; have r1 := m1 wS hSw; have q2 := l2 wS hSw; have r2 := m2 wS hSw; have q3 := l3 wS hSw; have r3 := m3 wS hSw; have q4 := l4 wS hSw; have r4 := m4 wS hSw; go_simp <;> with_reducible rfl)
    simp only [Act.put, List.setIfInBounds_toArray, List.set_cons_zero, List.set_cons_succ]
    refine wpAnyH_take (i := 48) (oi := { dst := some 133, op := Op.pick (Operand.tmp 127) (Operand.tmp 132) (Operand.const (Value.bool false)), type := 4, pos := "law.go:90", after := #[{ on := 42, ground := Ground.data }, { on := 47, ground := Ground.data }], guard := none }) (v := ?vq48) rfl (by as_aux_lemma => kernel_rfl) (by as_aux_lemma => kernel_rfl) (by as_aux_lemma => kernel_rfl) (fun _ _ _ h => h) (Or.inl ⟨by rfl, ?yq48⟩) (by assumption) ?rq48
    case yq48 => (intro wS hSw; (try dsimp only at hSw); have q0 := l0 wS hSw; have r0 := m0 wS hSw; have q1 := l1 wS hSw; have r1 := m1 wS hSw; have q2 := l2 wS hSw; have r2 := m2 wS hSw; have q3 := l3 wS hSw; have r3 := m3 wS hSw; have q4 := l4 wS hSw; have r4 := m4 wS hSw; go_simp <;> with_reducible rfl)
    simp only [Act.put, List.setIfInBounds_toArray, List.set_cons_zero, List.set_cons_succ]
    refine wpAnyH_take (i := 49) (oi := { dst := some 134, op := Op.move (Operand.tmp 133), type := 4, pos := "law.go:90", after := #[{ on := 48, ground := Ground.data }, { on := 45, ground := Ground.chain }], guard := none }) (v := ?vq49) rfl (by as_aux_lemma => kernel_rfl) (by as_aux_lemma => kernel_rfl) (by as_aux_lemma => kernel_rfl) (fun _ _ _ h => h) (Or.inl ⟨by rfl, ?yq49⟩) (by assumption) ?rq49
    case yq49 => (intro wS hSw; (try dsimp only at hSw); have q0 := l0 wS hSw; have r0 := m0 wS hSw; have q1 := l1 wS hSw; have r1 := m1 wS hSw; have q2 := l2 wS hSw; have r2 := m2 wS hSw; have q3 := l3 wS hSw; have r3 := m3 wS hSw; have q4 := l4 wS hSw; have r4 := m4 wS hSw; go_simp <;> with_reducible rfl)
    simp only [Act.put, List.setIfInBounds_toArray, List.set_cons_zero, List.set_cons_succ]
    refine wpAnyH_ready (rs := [50]) (by as_aux_lemma => kernel_rfl) (by simp) ?_
    refine AllReadyH.cons (o := { dst := some 135, op := Op.call { callee := Callee.value (Operand.func 7), args := #[], argTypes := #[] }, type := 4, pos := "law.go:90", after := #[{ on := 49, ground := Ground.chain }, { on := 49, ground := Ground.guard }], guard := some (49, true) }) rfl (fun K hK => ?_) (by exact AllReadyH.nil)
    rw [if_pos (by rfl)]
    go_simp
    refine (tworks_any _).mono ?_
    rintro e v50 ⟨rfl, hv50⟩
    have hS50 := rstep hv50 hS45
    refine hK.out _ _ (by (try dsimp only); (first | exact hS50 | exact hS45 | exact hS44 | exact hS40 | exact hS38 | exact hS36 | exact hS32 | exact hS26 | exact hS24 | exact hS21 | exact hS16 | exact hS3)) (fun hHeld => ?_)
    clear hK K
    simp only [List.setIfInBounds_toArray, List.set_cons_zero, List.set_cons_succ]
    refine wpAnyH_take (i := 51) (oi := { dst := some 136, op := Op.pick (Operand.tmp 134) (Operand.tmp 135) (Operand.const (Value.bool false)), type := 4, pos := "law.go:90", after := #[{ on := 49, ground := Ground.data }, { on := 50, ground := Ground.data }], guard := none }) (v := ?vq51) rfl (by as_aux_lemma => kernel_rfl) (by as_aux_lemma => kernel_rfl) (by as_aux_lemma => kernel_rfl) (fun _ _ _ h => h) (Or.inl ⟨by rfl, ?yq51⟩) (by assumption) ?rq51
    case yq51 => (intro wS hSw; (try dsimp only at hSw); have q0 := l0 wS hSw; have r0 := m0 wS hSw; have q1 := l1 wS hSw; have r1 := m1 wS hSw; have q2 := l2 wS hSw; have r2 := m2 wS hSw; have q3 := l3 wS hSw; have r3 := m3 wS hSw; have q4 := l4 wS hSw; have r4 := m4 wS hSw; go_simp <;> with_reducible rfl)
    simp only [Act.put, List.setIfInBounds_toArray, List.set_cons_zero, List.set_cons_succ]
    refine wpAnyH_take (i := 52) (oi := { dst := some 6, op := Op.assign (Operand.tmp 136), type := 4, pos := "law.go:90", after := #[{ on := 51, ground := Ground.data }, { on := 50, ground := Ground.chain }, { on := 0, ground := Ground.phase }, { on := 1, ground := Ground.phase }, { on := 2, ground := Ground.phase }, { on := 3, ground := Ground.phase }, { on := 4, ground := Ground.phase }, { on := 5, ground := Ground.phase }, { on := 6, ground := Ground.phase }, { on := 7, ground := Ground.phase }, { on := 8, ground := Ground.phase }, { on := 9, ground := Ground.phase }, { on := 10, ground := Ground.phase }, { on := 11, ground := Ground.phase }, { on := 12, ground := Ground.phase }, { on := 13, ground := Ground.phase }, { on := 14, ground := Ground.phase }, { on := 15, ground := Ground.phase }, { on := 16, ground := Ground.phase }, { on := 17, ground := Ground.phase }, { on := 18, ground := Ground.phase }, { on := 19, ground := Ground.phase }, { on := 20, ground := Ground.phase }, { on := 21, ground := Ground.phase }, { on := 22, ground := Ground.phase }, { on := 23, ground := Ground.phase }, { on := 24, ground := Ground.phase }, { on := 25, ground := Ground.phase }, { on := 26, ground := Ground.phase }, { on := 27, ground := Ground.phase }, { on := 28, ground := Ground.phase }, { on := 29, ground := Ground.phase }, { on := 30, ground := Ground.phase }, { on := 31, ground := Ground.phase }, { on := 32, ground := Ground.phase }, { on := 33, ground := Ground.phase }, { on := 34, ground := Ground.phase }, { on := 35, ground := Ground.phase }, { on := 36, ground := Ground.phase }, { on := 37, ground := Ground.phase }, { on := 38, ground := Ground.phase }, { on := 39, ground := Ground.phase }, { on := 40, ground := Ground.phase }, { on := 41, ground := Ground.phase }, { on := 42, ground := Ground.phase }, { on := 43, ground := Ground.phase }, { on := 44, ground := Ground.phase }, { on := 45, ground := Ground.phase }, { on := 46, ground := Ground.phase }, { on := 47, ground := Ground.phase }, { on := 48, ground := Ground.phase }, { on := 49, ground := Ground.phase }, { on := 50, ground := Ground.phase }, { on := 51, ground := Ground.phase }], guard := none }) (v := ?vq52) rfl (by as_aux_lemma => kernel_rfl) (by as_aux_lemma => kernel_rfl) (by as_aux_lemma => kernel_rfl) (fun _ _ _ h => h) (Or.inl ⟨by rfl, ?yq52⟩) (by assumption) ?rq52
    case yq52 => (intro wS hSw; (try dsimp only at hSw); have q0 := l0 wS hSw; have r0 := m0 wS hSw; have q1 := l1 wS hSw; have r1 := m1 wS hSw; have q2 := l2 wS hSw; have r2 := m2 wS hSw; have q3 := l3 wS hSw; have r3 := m3 wS hSw; have q4 := l4 wS hSw; have r4 := m4 wS hSw; go_simp <;> with_reducible rfl)
    simp only [Act.put, List.setIfInBounds_toArray, List.set_cons_zero, List.set_cons_succ]
    refine wpAnyH_done (by as_aux_lemma => kernel_rfl) ?_ _
    go_wp2_with fail
    go_ret
    exact ⟨rfl, bstep (bstep HW.out HRV.out) hS50⟩
end Go.Proofs.Ytkhdjlahfbmkoaa
