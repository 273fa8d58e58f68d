/- digest: Sum of no bytes. -/
import Derived.Test.YtfknfopdinkmkaaKm
namespace Go.Proofs.Ytfknfopdinkmkaa
open Go.RowKit Go.Shelf
attribute [local go_sem] Oper.semAt_some uv_xor
attribute [local irreducible] ln rot
def xoF (f h : Nat → Ln) (k : Nat) : Nat → Ln := fun i => if i < k then f i ^^^ h i else f i
theorem xoF_zero (f h : Nat → Ln) : xoF f h 0 = f := by funext i; unfold xoF; rw [if_neg (by omega)]
theorem xoF_step (f h : Nat → Ln) (k : Nat) : upd (xoF f h k) k (f k ^^^ h k) = xoF f h (k + 1) := by
  funext i; unfold upd xoF
  by_cases e : i = k
  · subst e; rw [if_pos rfl, if_pos (by omega)]
  · rw [if_neg e]
    by_cases h2 : i < k
    · rw [if_pos h2, if_pos (by omega)]
    · rw [if_neg h2, if_neg (by omega)]
set_option maxRecDepth 100000 in
set_option maxHeartbeats 4000000 in
theorem lay_any (g gm : Nat) (f h : Nat → Ln) (w : World) (hne : gm ≠ g) (hB : Blk w g 48 (Fc 26 f)) (hM : Blk w gm 38 (Fc 24 rcv)) :
    Calls Try.prog 17 #[.agg (Fc 17 h), .pointer (some ⟨g, 0, none⟩), .pointer (some ⟨gm, 0, none⟩)] w fun e w' => e = .returned (.tuple #[]) ∧ Blk w' g 48 (Fc 26 (tnP (xoF f h 17) 24)) ∧ w.grownBy w' (some g) := by
  have HX := Lib.hid (And.intro hB hM)
  clear hB hM
  go_enter Try.func17, Try.ntmps17
  go_upto_region 1 with fail
  have hX := HX.out.1.alloc (.cells (Fc 17 h) 36)
  have hM := HX.out.2.alloc (.cells (Fc 17 h) 36)
  have hH := Blk.new w 36 (Fc 17 h)
  have hG := grownSome (g := g) (grownNone (balloc (Below.refl _ w) (.cells (Fc 17 h) 36)))
  obtain ⟨w1, hw1⟩ : ∃ w1, w.alloc (.cells (Fc 17 h) 36) = w1 := ⟨_, rfl⟩
  rw [hw1] at hX hM hH hG ⊢
  refine wp_region_lit (wpList_load_mid rfl 36 (.tmp 3) rfl w.heap.size 0 rfl (Fc 17 h).toList _ hH.rangeAt und42 rfl (by rw [info42]; show some 17 = some (Fc 17 h).size; rw [Fc_size]) ?_)
  have HY := Lib.hid (And.intro hX (And.intro hM hG))
  clear hX hM hG hH hw1 HX
  go_wp2_with fail
  go_loopw [7] (fun i wr => ∃ k : Nat, k ≤ 17 ∧ i = .int .i64 (k : Int) ∧ Blk wr g 48 (Fc 26 (xoF f h k)) ∧ Blk wr gm 38 (Fc 24 rcv) ∧ w.grownBy wr (some g)) (fun i _ => 17 - (intOf i).toNat)
  case atStart => exact ⟨0, by omega, rfl, by rw [xoF_zero]; exact HY.out.1, HY.out.2⟩
  case round =>
    clear HY
    obtain ⟨k, hk, rfl, hX, hM, hG⟩ := hrel
    by_cases hlt : k < 17
    · have hix := ix42 h k hlt wr
      have hC := (cell_of_row _ _ k _ _ _ hX).trans (Fc_get 26 _ k (by omega))
      have hv : xoF f h k k = f k := by unfold xoF; rw [if_neg (by omega)]
      rw [hv] at hC
      have hF := frozen_of_row _ _ k _ _ hX
      have h25 : (k : Int) < 25 := by omega
      have hS := heap_setCell_same wr g k _ _ (uv (f k ^^^ h k)) hX
      rw [Fc_set _ _ _ _ (by omega), xoF_step] at hS
      have HX := Lib.hid (And.intro (show Blk (wr.setCell ⟨g, k, none⟩ (uv (f k ^^^ h k))) g 48 (Fc 26 (xoF f h (k + 1))) from hS) (And.intro (hM.kept (grown_set' (grown_refl wr g) k (uv (f k ^^^ h k))) (fun e => hne (Option.some.inj e))) (grown_set' hG k (uv (f k ^^^ h k)))))
      clear hX hM hG hS hv
      go_wp2_with fail
      exact ⟨⟨k + 1, by omega, by go_num, HX.out⟩, by simp [intOf]; omega⟩
    · obtain rfl : k = 17 := by omega
      have HX := Lib.hid (And.intro hX (And.intro hM hG))
      clear hX hM hG
      go_upto_region 6 with fail
      refine wp_region_lit (wpList_load_mid rfl 38 (.tmp 2) rfl gm 0 rfl (Fc 24 rcv).toList _ HX.out.2.1.rangeAt und24 rfl (by rw [info24]; show some 24 = some (Fc 24 rcv).size; rw [Fc_size]) ?_)
      go_wp2_with fail
      refine (turn_any g _ _ HX.out.1).mono ?_
      rintro e wk ⟨rfl, hX, hG⟩
      have HZ := Lib.hid (And.intro hX (grown_trans HX.out.2.2 hG))
      clear hX hG HX
      go_wp2_with fail
      go_end0
      exact ⟨rfl, HZ.out⟩
/-- The state behind the block of no bytes. -/
def finF : Nat → Ln := tnP (xoF (fun _ => 0#64) (blP padB 136) 17) 24
def stF : Nat → Nat → Ln
  | 0 => fun _ => 0#64
  | _ + 1 => finF
set_option maxRecDepth 100000 in
set_option maxHeartbeats 4000000 in
theorem Sum0_any (w : World) : Calls Try.prog 7 #[.slice none 0 0] w fun e w' => e = .returned (.agg (byC (numB (dgB finF) 32) 32)) ∧ Below w.heap.size w w' := by
  have z26 : Fc 26 (fun _ => 0#64) = #[.int .u64 0, .int .u64 0, .int .u64 0, .int .u64 0, .int .u64 0, .int .u64 0, .int .u64 0, .int .u64 0, .int .u64 0, .int .u64 0, .int .u64 0, .int .u64 0, .int .u64 0, .int .u64 0, .int .u64 0, .int .u64 0, .int .u64 0, .int .u64 0, .int .u64 0, .int .u64 0, .int .u64 0, .int .u64 0, .int .u64 0, .int .u64 0, .int .u64 0, .int .u64 0] := by kernel_rfl
  have Z26 := Lib.hid z26
  clear z26
  refine (callsIn_wide (n := 20)).1 ?_
  refine callsIn_of_wp_marks Try.func7 rfl trivial ?_ rfl
  simp only [Try.ntmps7, List.size_toArray, List.length_cons, List.length_nil, Nat.reduceAdd, Nat.reduceSub, Array.replicate_succ, Array.replicate_zero, List.push_toArray, List.append_toArray, List.nil_append, List.cons_append]
  refine (wpIn_wide (n := 20)).2 ?_
  go_wp2_with fail
  rw [← byC_zero 0, ← Z26.out]
  clear Z26
  have hR := (Blk.new w 24 (byC 0 0)).alloc (.cells (Fc 26 (fun _ => 0#64)) 48)
  have hU := Blk.newS w (.cells (byC 0 0) 24) 48 (Fc 26 (fun _ => 0#64))
  have hW := balloc (balloc (Below.refl w.heap.size w) (.cells (byC 0 0) 24)) (.cells (Fc 26 (fun _ => 0#64)) 48)
  have HX := Lib.hid (And.intro hR (And.intro hU hW))
  clear hR hU hW
  refine (Constants_any _).mono ?_
  rintro e w1 ⟨rfl, h1⟩
  rename_i K hK
  refine hK _ _ ?_
  clear hK K
  obtain ⟨hR, hU, hW⟩ := HX.out
  refine wpList_plain rfl fun K hK => ?_
  go_simp
  refine hK _ _ ?_
  clear hK K
  rw [← z24]
  refine wpList_store_row rfl 38 (.tmp 4) (.tmp 8) rfl w1.heap.size (Fc 24 rcv) rfl rfl 38 (Fc 24 (fun _ => 0#64)) (Blk.new w1 _ _) (by rw [info24, Fc_size]) (by rw [Fc_size, Fc_size]) (Fc_one _ _) (wpList_nil ?_)
  rw [World.setRow_alloc_new]
  have hR1 := (hR.keep h1).alloc (.cells (Fc 24 rcv) 38)
  have hU1 := (hU.keep h1).alloc (.cells (Fc 24 rcv) 38)
  have hM1 := Blk.new w1 38 (Fc 24 rcv)
  have hW1 := balloc (bstep hW h1) (.cells (Fc 24 rcv) 38)
  have hlM := (hU.keep h1).lt
  obtain ⟨w2, hw2⟩ : ∃ w2, w1.alloc (.cells (Fc 24 rcv) 38) = w2 := ⟨_, rfl⟩
  rw [hw2] at hR1 hU1 hM1 hW1 ⊢
  clear hw2 hR hU hW HX h1
  generalize w1.heap.size = gm at hM1 hlM ⊢
  have HX := Lib.hid (And.intro hR1 (And.intro hU1 (And.intro hM1 hW1)))
  clear hR1 hU1 hW1
  have hlm := hM1.lt
  clear hM1
  go_wp2_with fail
  refine (padded_any none 0 0 _).mono ?_
  rintro e w3 ⟨rfl, rfl⟩
  obtain ⟨hR, hU, hM, hW⟩ := HX.out
  clear HX
  have hR0 := (hR.alloc (.cells #[.func (.func 17) #[] #[.pointer (some ⟨w.heap.size + 1, 0, none⟩), .pointer (some ⟨gm, 0, none⟩)]] 50)).alloc (.cells #[.slice none 0 0] 45)
  have hU0 := (hU.alloc (.cells #[.func (.func 17) #[] #[.pointer (some ⟨w.heap.size + 1, 0, none⟩), .pointer (some ⟨gm, 0, none⟩)]] 50)).alloc (.cells #[.slice none 0 0] 45)
  have hM0 := (hM.alloc (.cells #[.func (.func 17) #[] #[.pointer (some ⟨w.heap.size + 1, 0, none⟩), .pointer (some ⟨gm, 0, none⟩)]] 50)).alloc (.cells #[.slice none 0 0] 45)
  have hF0 := (Blk.new w2 50 #[.func (.func 17) #[] #[.pointer (some ⟨w.heap.size + 1, 0, none⟩), .pointer (some ⟨gm, 0, none⟩)]]).alloc (.cells #[.slice none 0 0] 45)
  have hS0 := Blk.newS w2 (.cells #[.func (.func 17) #[] #[.pointer (some ⟨w.heap.size + 1, 0, none⟩), .pointer (some ⟨gm, 0, none⟩)]] 50) 45 #[.slice none 0 0]
  have hW0 := balloc (balloc hW (.cells #[.func (.func 17) #[] #[.pointer (some ⟨w.heap.size + 1, 0, none⟩), .pointer (some ⟨gm, 0, none⟩)]] 50)) (.cells #[.slice none 0 0] 45)
  clear hR hU hM hW
  rw [World.size_alloc]
  obtain ⟨W0, hWW⟩ : ∃ W0, (w2.alloc (.cells #[.func (.func 17) #[] #[.pointer (some ⟨w.heap.size + 1, 0, none⟩), .pointer (some ⟨gm, 0, none⟩)]] 50)).alloc (.cells #[.slice none 0 0] 45) = W0 := ⟨_, rfl⟩
  rw [hWW] at hR0 hU0 hM0 hF0 hS0 hW0 ⊢
  clear hWW
  generalize w2.heap.size = gf at hF0 hS0 hlm ⊢
  go_wp2_with fail
  refine (wpIn_wide (n := 20)).1 ?_
  refine wpIn_rangeB (n := 20) (by omega) (gf := 30) (lb := #[.pointer (some ⟨gf + 1, 0, none⟩)]) rfl (enters_of Try.func30 (by kernel_rfl) rfl)
    (padded0_seq (20 - 1) w.heap.size (gf + 1) (by omega) W0 hW0.size hS0) (Below.refl _ _) hW0.size (fun _ => rfl)
    (fun pre X => ((((Blk X (w.heap.size + 1) 48 (Fc 26 (stF pre.length)) ∧ Blk X gm 38 (Fc 24 rcv)) ∧ Blk X gf 50 #[.func (.func 17) #[] #[.pointer (some ⟨w.heap.size + 1, 0, none⟩), .pointer (some ⟨gm, 0, none⟩)]]) ∧ Blk X w.heap.size 24 (byC 0 0)) ∧ Below w.heap.size w X))
    (fun _ _ _ => False)
    (((((Abide.blk hU0.lt _ (fun pre : List Unit => Fc 26 (stF pre.length))).and (Abide.blk hM0.lt _ (fun _ => _))).and (Abide.blk hF0.lt _ (fun _ => _))).and (Abide.blk hR0.lt _ (fun _ => _))).and (Abide.below (Nat.le_refl _) hW0.size))
    (fun _ _ _ _ _ hs _ _ => hs)
    (fun _ _ _ => trivial)
    ⟨⟨⟨⟨hU0, hM0⟩, hF0⟩, hR0⟩, hW0⟩
    (fun x a' X => ∃ gp, Blk X gp 36 (Fc 17 (blP padB 136)) ∧ a' = { tmps := #[.slice none 0 0, undef, .pointer (some ⟨w.heap.size, 0, none⟩), .pointer (some ⟨w.heap.size + 1, 0, none⟩), .pointer (some ⟨gm, 0, none⟩), .pointer (some ⟨gf, 0, none⟩), undef, .pointer (some ⟨gp, 0, none⟩), .agg (Fc 24 rcv), .func (.func 17) #[] #[.pointer (some ⟨w.heap.size + 1, 0, none⟩), .pointer (some ⟨gm, 0, none⟩)], .slice none 0 0, .func (.func 30) #[] #[.pointer (some ⟨gf + 1, 0, none⟩)], .int .i64 0, .agg (Fc 17 (blP padB 136)), undef, undef, undef, undef, undef], defers := [] })
    (fun x a' _ X Y row hs hg hr => by obtain ⟨gp, h1, h2⟩ := hs; exact ⟨gp, blk_cells' h1 hg (fun r e => (hr r e).2), h2⟩)
    ?assign ?body ?done ?stop
  case stop => exact fun _ _ _ _ _ _ h _ => h.elim
  case assign =>
    rintro l2 pre x X K hpre hi hK
    have hsz : (Fc 17 (blP padB 136)).size = 17 := Fc_size _ _
    have hst := run_storeCells_new (P := Try.prog) X 36 #[.int .u64 0, .int .u64 0, .int .u64 0, .int .u64 0, .int .u64 0, .int .u64 0, .int .u64 0, .int .u64 0, .int .u64 0, .int .u64 0, .int .u64 0, .int .u64 0, .int .u64 0, .int .u64 0, .int .u64 0, .int .u64 0, .int .u64 0] (Fc 17 (blP padB 136)) (by rw [info42, Fc_size]) (by rw [Fc_size]; rfl) (Fc_one _ _)
    gi_wp2_with fail
    exact hK _ _ (Kept.alloc _ _ _) ((Below.refl _ X).alloc hi.2.size _) ⟨⟨⟨⟨hi.1.1.1.1.alloc _, hi.1.1.1.2.alloc _⟩, hi.1.1.2.alloc _⟩, hi.1.2.alloc _⟩, balloc hi.2 _⟩ ⟨X.heap.size, Blk.new X _ _, rfl⟩
  case body =>
    rintro l2 pre x a' X hl2 rfl hlo ⟨⟨⟨⟨hU, hM⟩, hF⟩, hR⟩, hW⟩ ⟨gp, hP, rfl⟩
    have cf : X.cell? ⟨gf, 0, none⟩ = some (.func (.func 17) #[] #[.pointer (some ⟨w.heap.size + 1, 0, none⟩), .pointer (some ⟨gm, 0, none⟩)]) := cell_of_row _ _ 0 _ _ _ hF
    refine wpIn_block ?_
    refine wpIn_region_lit (wpListIn_plain rfl fun K hK => ?_)
    go_simp
    refine hK _ _ ?_
    clear hK K
    refine wpListIn_plain rfl fun K hK => ?_
    refine wpIn_load_rowA (fun _ => trivial) 36 (.tmp 7) rfl gp 0 rfl (Fc 17 (blP padB 136)) _ hP.rangeAt und42 rfl (by rw [info42, Fc_size]) ?_
    refine hK _ _ ?_
    clear hK K
    refine wpListIn_plain rfl fun K hK => ?_
    go_simp
    refine ⟨trivial, CallsIn.mono (F := Fence.wide.inRound l2) (show CallsIn (Fence.wide.inRound l2) _ _ _ _ _ _ from callsIn_wide.2 (lay_any (w.heap.size + 1) gm _ (blP padB 136) X (by omega) hU hM)) ?_⟩
    rintro e Y ⟨rfl, hU2, hG⟩
    refine hK _ _ ?_
    clear hK K
    refine wpListIn_nil ?_
    have hl1 := hU0.lt
    exact ⟨Kept.grown hG (fun r e => by cases e; exact hl1), (Below.refl _ X).grown hG hW.size (fun k e => by cases e; omega), ⟨⟨⟨hU2, hM.kept hG (fun e => by injection e; omega)⟩, hF.kept hG (fun e => by injection e; omega)⟩, hR.kept hG (fun e => by injection e; omega)⟩, step_world hW hG (Nat.le_refl _) (by omega)⟩
  case done =>
    rintro D xs X hD rfl ⟨⟨⟨⟨hU, hM⟩, hF⟩, hR⟩, hW⟩ hDD
    have hf : Fc 26 (stF ([()] : List Unit).length) = Fc 26 finF := rfl
    rw [hf] at hU
    have HX := Lib.hid (And.intro hU (And.intro hR (And.intro hW (And.intro hDD hD))))
    clear hU hM hF hR hW hDD hD hf hU0 hM0 hF0 hS0 hR0
    go_wp2_with fail
    refine (first_any (w.heap.size + 1) finF _ HX.out.1).mono ?_
    rintro e w5 ⟨rfl, h5⟩
    rename_i K hK
    refine hK _ _ ?_
    clear hK K
    obtain ⟨N, hN⟩ : ∃ N, numB (dgB finF) 32 = N := ⟨_, rfl⟩
    rw [hN]
    obtain ⟨_, hR, hW, hDD, hD⟩ := HX.out
    have hR5 := hR.keep h5
    have hW5 := bstep hW h5
    have hD5 := (h5.block D (Array.getElem?_eq_some_iff.1 hDD).1).trans hDD
    have hne : w.heap.size ≠ D := by have := hW0.size; have := hR.lt; intro e; subst e; unfold Blk at hR; rw [hR] at hDD; cases hDD
    have hi : (Try.prog.info? 24).map (·.size) = some (byC N 32).size := by rw [byC_size]; kernel_rfl
    have hu : Try.prog.underlying 24 = some (.array 32 5) := by kernel_rfl
    have ht : w5.there w.heap.size 0 (byC N 32).size := hR5.there _ (by rw [byC_size, byC_size]; exact Nat.le_refl _)
    have hRz : Blk (w5.setCells w.heap.size 0 (byC N 32).toList) w.heap.size 24 (byC N 32) := blk_setCells hR5 _ (by rw [byC_size, byC_size]) (byC_one N 32)
    have hDz : (w5.setCells w.heap.size 0 (byC N 32).toList).heap[D]? = some (.deferred (some [])) := ((grown_setCells w.heap.size (byC N 32).toList 0 w5 w5 (grown_refl _ _)).block D (Array.getElem?_eq_some_iff.1 hD5).1 (fun e => hne (Option.some.inj e).symm)).trans hD5
    have hBz := below_setCells' (B := w.heap.size) (b := w.heap.size) (by omega) (byC N 32).toList 0 w5 hW5
    refine wpList_store_mid rfl 24 (.tmp 2) (.tmp 18) rfl w.heap.size 0 (byC N 32) rfl rfl ht hi (byC_one N 32) (wpList_nil ?_)
    clear hR hW hDD hR5 hW5 hD5 h5 HX ht
    generalize w5.setCells w.heap.size 0 (byC N 32).toList = wz at hRz hDz hBz ⊢
    have hRy : Blk (wz.putObj D (.deferred none)) w.heap.size 24 (byC N 32) := hRz.kept (grownBy_putObj' wz D _) (fun e => hne (Option.some.inj e))
    have hr : (loadVar 24 ⟨w.heap.size, 0, none⟩).run Try.prog (wz.putObj D (.deferred none)) = .ok (.agg (byC N 32)) (wz.putObj D (.deferred none)) := by
      have h := run_loadVar_mid (P := Try.prog) (wz.putObj D (.deferred none)) w.heap.size 0 24 (byC N 32).toList _ hRy.rangeAt hu rfl hi
      rwa [Array.toArray_toList] at h
    have HE := Lib.hid (And.intro hDz (And.intro hBz (And.intro hr hD)))
    have HN := Lib.hid hN
    clear hRy hr hRz hDz hBz hi hu hN hD hne
    go_wp2_with fail
    obtain ⟨hDz, hBz, hr, hD⟩ := HE.out
    refine ⟨by simp, .inl ⟨_, _, rfl, run_takeDeferred hDz, ?_⟩⟩
    exact ⟨.agg (byC N 32), by simp [results, Try.results7, Act.put, asAddr, hr], by rw [HN.out], hBz.trans (below_put _ _ (Nat.le_trans hW0.size hD))⟩
end Go.Proofs.Ytfknfopdinkmkaa
