/- tag: the reference: Part, Cells, Word. -/
import Derived.Test.YtkhdjlahfbmkoaaTgh
namespace Go.Proofs.Ytkhdjlahfbmkoaa
open Go.RowKit Go.Shelf

theorem stL_end (l : List (Nat × Nat)) (at_ many k : Nat) (h : k = many ∨ l.length ≤ at_ + k) : stL (0, 0) many (fun i => cg l (at_ + i)) k = paL l at_ many := by
  unfold stL paL
  refine List.map_congr_left fun i hi => ?_
  have := List.mem_range.1 hi
  by_cases hik : i < k
  · rw [if_pos hik]
  · rw [if_neg hik, cg_ge (by omega)]
set_option maxRecDepth 100000 in
set_option maxHeartbeats 2000000 in
theorem rtpart_any (B : Nat) (v : Value) (l : List (Nat × Nat)) (at_ many : Nat) (hat : at_ < 9223372036854775808) (hn : many ≤ 1000000) (w : World) (hv : Cs B w v l) :
    Calls Try.prog 23 #[v, .int .i64 at_, .int .i64 many] w fun e w' => e = .returned (.slice (some ⟨w.heap.size, 0, none⟩) many many) ∧ Blk w' w.heap.size 53 (cvs (paL l at_ many)).toArray ∧ Below w.heap.size w w' := by
  have hmk := make_cells many hn
  obtain ⟨X, hX⟩ : ∃ X, w.alloc (.cells (cvs (List.replicate many (0, 0))).toArray 53) = X := ⟨_, rfl⟩
  have hal : Below w.heap.size w X := by rw [← hX]; exact balloc (Below.refl w.heap.size w) _
  have hN : Blk X w.heap.size 53 (cvs (stL (0, 0) many (fun i => cg l (at_ + i)) 0)).toArray := by rw [← hX, stL_zero]; exact Blk.new w _ _
  have hll : l.length ≤ 9223372036854775807 := by obtain ⟨_, _, _, _, _, h, _⟩ := hv; exact h
  have HX := Lib.hid hX
  have HS := Lib.hid (And.intro hal hN)
  have HV := Lib.hid hv
  obtain ⟨x, c, rfl⟩ := hv.is
  have g1 : IntKind.i64.wrap ((l.length : Int) - (at_ : Int)) = (l.length : Int) - (at_ : Int) := IntWalk.i64_in _ (by omega)
  have HN := Lib.hid hn
  have HAT := Lib.hid (And.intro hat hll)
  clear hX hal hN hv hn hat hll
  go_enter Try.func23, Try.ntmps23
  go_wp2_with fail
  rw [HX.out]
  clear hmk
  go_loopw [8] (fun t wr => ∃ k : Nat, t = .int .i64 k ∧ k ≤ many ∧ Blk wr w.heap.size 53 (cvs (stL (0, 0) many (fun i => cg l (at_ + i)) k)).toArray ∧ Below w.heap.size w wr) (fun t _ => many - (intOf t).toNat)
  case atStart => exact ⟨0, rfl, Nat.zero_le _, HS.out.2, HS.out.1⟩
  case round =>
    obtain ⟨k, rfl, hk, hblk, hw⟩ := hrel
    have hnn := HN.out
    have hat := HAT.out.1
    have hll := HAT.out.2
    by_cases hlt : k < many
    · have c1 : (k : Int) < (many : Int) := by omega
      by_cases hin : at_ + k < l.length
      · have c2 : (k : Int) < (l.length : Int) - (at_ : Int) := by omega
        obtain ⟨b, o, c', e, hbX, d0, d1⟩ := Cs.at HV.out hin
        injection e with e1 e2 e3
        subst e1 e3
        have hbw := (hw.cell (p := ⟨b, o + (at_ + k) * 2, none⟩) hbX).trans d0
        have hbw1 := (hw.cell (p := ⟨b, o + (at_ + k) * 2 + 1, none⟩) hbX).trans d1
        have g2 : IntKind.i64.wrap ((at_ : Int) + (k : Int)) = ((at_ + k : Nat) : Int) := by rw [IntWalk.i64_in _ (by omega)]; omega
        have g3 : ((at_ + k : Nat) : Int) < (l.length : Int) := by omega
        have f0 := frozen_of_row _ _ (k * 2) _ _ hblk
        have f1 := frozen_of_row _ _ (k * 2 + 1) _ _ hblk
        have z0 := (cell_of_row _ _ (k * 2) _ _ _ hblk).trans ((List.getElem?_toArray ..).trans ((cvs_get0 _ k).trans (congrArg _ (stL_get (0, 0) many (fun i => cg l (at_ + i)) k hlt))))
        have z1 := (cell_of_row _ _ (k * 2 + 1) _ _ _ hblk).trans ((List.getElem?_toArray ..).trans ((cvs_get1 _ k).trans (congrArg _ (stL_get (0, 0) many (fun i => cg l (at_ + i)) k hlt))))
        simp only [Option.map_some] at z0 z1
        have HB := Lib.hid (And.intro hblk hw)
        have HQ := Lib.hid (show stL (0, 0) many (fun i => cg l (at_ + i)) (k + 1) = (stL (0, 0) many (fun i => cg l (at_ + i)) k).set k (cg l (at_ + k)) from (stL_set _ _ (fun i => cg l (at_ + i)) k hlt).symm)
        clear hblk hw hk hin hbX d0 d1 e2 hat hll
        generalize hp : cg l (at_ + k) = p at *
        generalize hq : at_ + k = q at *
        clear hp hq
        go_wp2_with fail
        go_round
        case rel =>
          refine ⟨k + 1, by go_num, by omega, ?_, ((HB.out.2.setCell (p := ⟨w.heap.size, k * 2, none⟩) (Nat.le_refl _) _).setCell (p := ⟨w.heap.size, k * 2 + 1, none⟩) (Nat.le_refl _) _)⟩
          have h1 := heap_setCell_same _ w.heap.size (k * 2 + 1) _ _ (.int .u64 (p.2 : Nat)) (heap_setCell_same wr w.heap.size (k * 2) _ _ (.int .u8 (p.1 : Nat)) HB.out.1)
          rw [List.setIfInBounds_toArray, List.setIfInBounds_toArray, cvs_set, ← HQ.out] at h1
          exact h1
        case measure => simp [intOf]; omega
      · have c2 : ¬ (k : Int) < (l.length : Int) - (at_ : Int) := by omega
        have HE := Lib.hid (stL_end l at_ many k (.inr (by omega)))
        have HB := Lib.hid (And.intro hblk hw)
        clear hblk hw hk hin hat hll hnn
        go_wp2_with fail
        go_ret
        refine ⟨rfl, ?_, HB.out.2⟩
        rw [← HE.out]
        exact HB.out.1
    · have c1 : ¬ (k : Int) < (many : Int) := by omega
      have HE := Lib.hid (stL_end l at_ many k (.inl (by omega)))
      have HB := Lib.hid (And.intro hblk hw)
      clear hblk hw hk hat hll hnn
      go_wp2_with fail
      go_ret
      refine ⟨rfl, ?_, HB.out.2⟩
      rw [← HE.out]
      exact HB.out.1
theorem info32 : (Try.prog.info? 69).map (·.size) = some 32 := by kernel_rfl
set_option maxRecDepth 100000 in
set_option maxHeartbeats 2000000 in
theorem rtcells_any (n a : Nat) (ha : a < 2 ^ 64) (w : World) :
    Calls Try.prog 18 #[vV n a] w fun e w' => ∃ v', e = .returned v' ∧ OwT w' w.heap.size v' (ceL n a) ∧ Below w.heap.size w w' := by
  have hN := Blk.new w 29 (vA n a)
  have hal := balloc (Below.refl w.heap.size w) (.cells (vA n a) 29)
  have HN := Lib.hid (And.intro hN hal)
  have HR := Lib.hid (fun Y => rbytes_any n Y)
  have HA := Lib.hid ha
  clear hN hal ha
  go_enter Try.func18, Try.ntmps18
  go_upto_region 1 with fail
  refine wp_region_lit ?_
  refine wpList_plain rfl fun K hK => ?_
  go_simp
  refine hK _ _ ?_
  clear hK K
  refine wpList_plain rfl fun K hK => ?_
  go_simp
  refine hK _ _ ?_
  clear hK K
  refine wpList_plain rfl fun K hK => ?_
  go_simp
  refine (HR.out _).mono ?_
  rintro e w1 ⟨rfl, hw1⟩
  refine hK _ _ ?_
  clear hK K
  refine wpList_plain rfl fun K hK => ?_
  go_simp
  refine hK _ _ ?_
  clear hK K
  rw [← byC_zero 0]
  refine wpList_store_row rfl 69 (.tmp 3) (.tmp 6) rfl w1.heap.size (byC n 32) rfl rfl 69 (byC 0 0) (Blk.new w1 _ _) (by rw [info32, byC_size]) (by rw [byC_size, byC_size]) (byC_one _ _) ?_
  rw [World.setRow_alloc_new]
  refine wpList_nil ?_
  simp only [Act.put]
  obtain ⟨W9, hW9⟩ : ∃ W9, w1.alloc (.cells (byC n 32) 69) = W9 := ⟨_, rfl⟩
  have hal9 : Below w1.heap.size w1 W9 := by rw [← hW9]; exact balloc (Below.refl w1.heap.size w1) _
  have hA9 : Blk W9 w1.heap.size 69 (byC n 32) := by rw [← hW9]; exact Blk.new w1 _ _
  have hV9 : Blk W9 w.heap.size 29 (vA n a) := (HN.out.1.keep hw1).keep hal9
  have hw9 : Below w.heap.size w W9 := bstep (bstep HN.out.2 hw1) hal9
  rw [hW9]
  clear hW9 hw1 hal9
  have l4 : ∀ w', Below W9.heap.size W9 w' → w'.cell? ⟨w.heap.size, 4, none⟩ = some (.int .u64 (a : Nat)) := fun w' h => cell_of_row _ _ 4 _ _ _ (hV9.keep h)
  have hsl : ∀ w', (Instr.sliceAt 69 (.pointer (some ⟨w1.heap.size, 0, none⟩)) none none none).run Try.prog w' = .ok (.slice (some ⟨w1.heap.size, 0, none⟩) 32 32) w' := fun w' => by kernel_rfl
  have HO := Lib.hid (fun (Y : World) (h : Below W9.heap.size W9 Y) => by
    have h1 := hA9.keep h
    rw [byL_cells] at h1
    have h2 := Bto.of_row h1 (byL_lt n) (by rw [byL_len]; omega)
    rw [byL_len] at h2
    exact rtof_any Y.heap.size a HA.out (.slice (some ⟨w1.heap.size, 0, none⟩) 32 32) (byL n) (by rw [byL_len]; omega) Y h2)
  have h0 : Below W9.heap.size W9 W9.drew := (Below.refl _ _).drew
  have HW := Lib.hid hw9
  clear hA9 hV9 hw9 HA HR HN
  go_wp2_with fail
  go_region_held3 (fun w' => Below W9.heap.size W9 w') (first | assumption | exact rstep (by assumption) (by assumption)) (first
    | (go_at_call 10; refine (HO.out _ (by assumption)).mono ?_; rintro e w2 ⟨v2, rfl, hv2, hw2⟩; have HS := Lib.hid (And.intro hv2 hw2); have hS2 : Below W9.heap.size W9 w2 := rstep hw2 (by assumption)))
  all_goals
    go_wp2_with fail
    go_ret
    refine ⟨_, rfl, ⟨HS.out.1.1, HS.out.1.2.mono ?_⟩, bstep HW.out (by assumption)⟩
    have := HW.out.size
    show w.heap.size ≤ W9.heap.size
    exact this
set_option maxRecDepth 100000 in
set_option maxHeartbeats 2000000 in
theorem rtword_any (B : Nat) (v : Value) (l : List (Nat × Nat)) (w : World) (hv : Cs B w v l) :
    Calls Try.prog 20 #[v] w fun e w' => e = .returned (vV (nuC l) (jl (fiL l))) ∧ Below w.heap.size w w' := by
  obtain ⟨W1, hW⟩ : ∃ W1, w.alloc (.cells z5 29) = W1 := ⟨_, rfl⟩
  have hal : Below w.heap.size w W1 := by rw [← hW]; exact balloc (Below.refl w.heap.size w) _
  have hN : Blk W1 w.heap.size 29 z5 := by rw [← hW]; exact Blk.new w _ _
  have hs1 : w.heap.size < W1.heap.size := hN.lt
  have hF : Calls Try.prog 23 #[v, .int .i64 0, .int .i64 32] W1 fun e w' => e = .returned (.slice (some ⟨W1.heap.size, 0, none⟩) 32 32) ∧ Blk w' W1.heap.size 53 (cvs (fiL l)).toArray ∧ Below W1.heap.size W1 w' := rtpart_any B v l 0 32 (by omega) (by omega) W1 (hv.new hal)
  have HF := Lib.hid hF
  have HFI := Lib.hid (And.intro (paL_ok hv.1 0 32) (And.intro (fiB_lt hv.1) (fiB_len l)))
  have HW := Lib.hid (And.intro hW (And.intro hal (And.intro hN hs1)))
  have HB := Lib.hid (fun (Y : World) (h : Blk Y W1.heap.size 53 (cvs (fiL l)).toArray) => by
    have h2 := Cs.of_blk h HFI.out.1 (by rw [paL_len]; omega)
    rw [paL_len] at h2
    exact rtbytes_any Y.heap.size (.slice (some ⟨W1.heap.size, 0, none⟩) 32 32) (fiL l) (by rw [paL_len]; omega) Y h2)
  obtain ⟨x, c, rfl⟩ := hv.is
  clear hv hW hal hN hs1 hF
  go_enter Try.func20, Try.ntmps20
  go_upto_region 3 with (first
    | (rw [HW.out.1]; go_at_call 23; refine (HF.out).mono ?_; rintro e w1 ⟨rfl, hb, hw⟩; have H1 := Lib.hid (And.intro hb hw); clear hb hw)
    | (go_at_call 12; refine (HB.out _ H1.out.1).mono ?_; rintro e w2 ⟨v2, rfl, ho, hw⟩; have HR := Lib.hid (rread_fitso w2.heap.size v2 _ w2 ho.bt.bto (by rw [HFI.out.2.2]; omega)); have H2 := Lib.hid hw; obtain ⟨yb, cb, rfl⟩ := ho.is; clear ho hw)
    | (go_at_call 45; refine (HR.out).mono ?_; rintro e w5 ⟨rfl, hw⟩; have H5 := Lib.hid hw; clear hw))
  obtain ⟨nb, hnb⟩ : ∃ nb, nuL ((fiL l).map (·.1)) = nb := ⟨_, rfl⟩
  have HNU := Lib.hid (show nuC l = nb from hnb)
  rw [hnb]
  clear hnb
  obtain ⟨W6, hW6⟩ : ∃ W6, w5.alloc (.cells (Wc nb) 26) = W6 := ⟨_, rfl⟩
  have hal6 : Below w5.heap.size w5 W6 := by rw [← hW6]; exact balloc (Below.refl w5.heap.size w5) _
  have hN6 : Blk W6 w5.heap.size 26 (Wc nb) := by rw [← hW6]; exact Blk.new w5 _ _
  rw [hW6]
  clear hW6
  have hb16 : Below w1.heap.size w1 W6 := bstep (bstep H2.out H5.out) hal6
  have hR6 : Blk W6 w.heap.size 29 z5 := (HW.out.2.2.1.keep H1.out.2).keep hb16
  have hs15 : w1.heap.size ≤ w5.heap.size := Nat.le_trans H2.out.size H5.out.size
  have hs11 : W1.heap.size ≤ w1.heap.size := H1.out.2.size
  have hs01 : w.heap.size < W1.heap.size := HW.out.2.2.2
  have hne5 : w5.heap.size ≠ w.heap.size := by omega
  have hg6 : Blk W6 W1.heap.size 53 (cvs (fiL l)).toArray := H1.out.1.keep hb16
  have hneg : W1.heap.size ≠ w.heap.size := by omega
  have hbel : Below w.heap.size w W6 := bstep (bstep HW.out.2.1 H1.out.2) hb16
  have l0 : ∀ w', HelN 5 29 W6 w.heap.size w' → w'.cell? ⟨w5.heap.size, 0, none⟩ = some (.int .u64 (lb nb 0)) := fun w' h => cell_of_row _ _ 0 _ _ _ (h.blk hN6 hne5)
  have l1 : ∀ w', HelN 5 29 W6 w.heap.size w' → w'.cell? ⟨w5.heap.size, 1, none⟩ = some (.int .u64 (lb nb 1)) := fun w' h => cell_of_row _ _ 1 _ _ _ (h.blk hN6 hne5)
  have l2 : ∀ w', HelN 5 29 W6 w.heap.size w' → w'.cell? ⟨w5.heap.size, 2, none⟩ = some (.int .u64 (lb nb 2)) := fun w' h => cell_of_row _ _ 2 _ _ _ (h.blk hN6 hne5)
  have l3 : ∀ w', HelN 5 29 W6 w.heap.size w' → w'.cell? ⟨w5.heap.size, 3, none⟩ = some (.int .u64 (lb nb 3)) := fun w' h => cell_of_row _ _ 3 _ _ _ (h.blk hN6 hne5)
  have c0 : ∀ w', HelN 5 29 W6 w.heap.size w' → w'.cell? ⟨w.heap.size, 0, none⟩ = some (cellV w' ⟨w.heap.size, 0, none⟩) := fun w' h => h.cell 0 (by omega)
  have f0 : ∀ w', HelN 5 29 W6 w.heap.size w' → w'.frozen? ⟨w.heap.size, 0, none⟩ = false := fun w' h => h.frozen 0
  have c1 : ∀ w', HelN 5 29 W6 w.heap.size w' → w'.cell? ⟨w.heap.size, 1, none⟩ = some (cellV w' ⟨w.heap.size, 1, none⟩) := fun w' h => h.cell 1 (by omega)
  have f1 : ∀ w', HelN 5 29 W6 w.heap.size w' → w'.frozen? ⟨w.heap.size, 1, none⟩ = false := fun w' h => h.frozen 1
  have c2 : ∀ w', HelN 5 29 W6 w.heap.size w' → w'.cell? ⟨w.heap.size, 2, none⟩ = some (cellV w' ⟨w.heap.size, 2, none⟩) := fun w' h => h.cell 2 (by omega)
  have f2 : ∀ w', HelN 5 29 W6 w.heap.size w' → w'.frozen? ⟨w.heap.size, 2, none⟩ = false := fun w' h => h.frozen 2
  have c3 : ∀ w', HelN 5 29 W6 w.heap.size w' → w'.cell? ⟨w.heap.size, 3, none⟩ = some (cellV w' ⟨w.heap.size, 3, none⟩) := fun w' h => h.cell 3 (by omega)
  have f3 : ∀ w', HelN 5 29 W6 w.heap.size w' → w'.frozen? ⟨w.heap.size, 3, none⟩ = false := fun w' h => h.frozen 3
  have c4 : ∀ w', HelN 5 29 W6 w.heap.size w' → w'.cell? ⟨w.heap.size, 4, none⟩ = some (cellV w' ⟨w.heap.size, 4, none⟩) := fun w' h => h.cell 4 (by omega)
  have f4 : ∀ w', HelN 5 29 W6 w.heap.size w' → w'.frozen? ⟨w.heap.size, 4, none⟩ = false := fun w' h => h.frozen 4
  have h0 : HelN 5 29 W6 w.heap.size W6.drew := HelN.start rfl hR6
  have HL := Lib.hid (fun (Y : World) (h : HelN 5 29 W6 w.heap.size Y) => by
    have h2 := Cs.of_blk (h.blk hg6 hneg) HFI.out.1 (by rw [paL_len]; omega)
    rw [paL_len] at h2
    have h3 : Calls Try.prog 14 #[.slice (some ⟨W1.heap.size, 0, none⟩) 32 32] Y fun e w' => e = .returned (.int .u64 (jl (fiL l) : Nat)) ∧ Below Y.heap.size Y w' := (rtlabel_any Y.heap.size (.slice (some ⟨W1.heap.size, 0, none⟩) 32 32) (fiL l) (by rw [paL_len]; omega) Y h2).mono fun e w' hh => ⟨hh.1, by rw [← hh.2]; exact Below.refl _ _⟩
    exact h3)
  have H6 := Lib.hid hbel
  clear hal6 hN6 hb16 hR6 hs15 hs11 hs01 hne5 hg6 hneg hbel
  go_region_held3 (fun w' => HelN 5 29 W6 w.heap.size w') (first | assumption | exact HelN.call (by assumption) (by assumption) | exact HelN.set (HelN.set (HelN.set (HelN.set (HelN.set (by assumption) _ _) _ _) _ _) _ _) _ _) (first
    | (go_at_call 14; refine (HL.out _ (by assumption)).mono ?_; rintro e w7 ⟨rfl, hw7⟩; have hH : HelN 5 29 W6 w.heap.size w7 := HelN.call hw7 (by assumption)))
  all_goals
    go_wp2_with fail
    (try simp only [Exit.inBlock, Exit.then])
    refine bodyPost_ret (ret_val rfl rfl (HelN.five (by assumption) _ _ _ _ _)) rfl ⟨by rw [HNU.out], HelN.below (by assumption) H6.out (Nat.le_refl _) (Nat.le_refl _)⟩
end Go.Proofs.Ytkhdjlahfbmkoaa
