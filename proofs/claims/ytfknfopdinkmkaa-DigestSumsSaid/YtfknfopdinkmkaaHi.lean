/- digest: Sum, of any bytes. -/
import Derived.Test.YtfknfopdinkmkaaHd
import Derived.Test.YtfknfopdinkmkaaKq
namespace Go.Proofs.Ytfknfopdinkmkaa
open Go.RowKit Go.Shelf
/-- The x-th block of joined bytes; the state behind so many. -/
def bkL (ls : List Sl) (x : Nat) : Nat → Ln := blP (fun p => pdB (tot ls) (jn ls) (136 * x + p)) 136
def stN (N : Nat) (g : Nat → Nat) : Nat → Nat → Ln
  | 0 => fun _ => 0#64
  | k + 1 => tnP (xoF (stN N g k) (blP (fun p => pdB N g (136 * k + p)) 136) 17) 24
theorem stN_succ (ls : List Sl) (x : Nat) : stN (tot ls) (jn ls) (x + 1) = tnP (xoF (stN (tot ls) (jn ls) x) (bkL ls x) 17) 24 := rfl
theorem stN_zero (N : Nat) (g : Nat → Nat) : stN N g 0 = fun _ => 0#64 := rfl
theorem padded_seqL (n n₀ A : Nat) (ls : List Sl) (x0 : Option Addr) (cap0 : Nat) (hn : 4 ≤ n) (hls : ls.length ≤ 1000000) (hT : tot ls ≤ 4611686018427387904) (hg8 : ∀ i, jn ls i < 256) (w : World) (hn₀ : n₀ ≤ w.heap.size) (hA : Blk w A 45 #[.slice x0 ls.length cap0]) :
    SeqW n Try.prog 30 #[.pointer (some ⟨A, 0, none⟩)] (fun x : Nat => #[.int .i64 (x : Nat), .agg (Fc 17 (bkL ls x))]) n₀ (fun _ X => LsAt X x0 ls) (fun pre x => pre = List.range x ∧ x ≤ tot ls / 136) (fun xs => xs = List.range (tot ls / 136 + 1)) (fun pre => ∃ k, pre = List.range (k + 1) ∧ k ≤ tot ls / 136) w :=
  padded_seq n n₀ A ls x0 cap0 hn hls hT hg8 w hn₀ hA
attribute [local go_sem] Oper.semAt_some
attribute [local irreducible] Fc Bc jn tot pdB blP bkL ln rot stN tnP
theorem SlsB {X : World} {x0 : Option Addr} {ls : List Sl} (h : LsAt X x0 ls) : LsB X.heap.size X x0 ls := h
set_option maxRecDepth 100000 in
set_option maxHeartbeats 4000000 in
theorem Sum_any (ls : List Sl) (x0 : Option Addr) (cap0 : Nat) (hls : ls.length ≤ 1000000) (hT : tot ls ≤ 1000000) (w : World) (hA : LsAt w x0 ls) : Calls Try.prog 7 #[.slice x0 ls.length cap0] w fun e w' => e = .returned (.agg (byC (numB (dgB (stN (tot ls) (jn ls) (tot ls / 136 + 1))) 32) 32)) ∧ Below w.heap.size w w' := by
  have z26 : Fc 26 (fun _ => 0#64) = #[.int .u64 0, .int .u64 0, .int .u64 0, .int .u64 0, .int .u64 0, .int .u64 0, .int .u64 0, .int .u64 0, .int .u64 0, .int .u64 0, .int .u64 0, .int .u64 0, .int .u64 0, .int .u64 0, .int .u64 0, .int .u64 0, .int .u64 0, .int .u64 0, .int .u64 0, .int .u64 0, .int .u64 0, .int .u64 0, .int .u64 0, .int .u64 0, .int .u64 0, .int .u64 0] := by kernel_rfl
  have Z26 := Lib.hid z26
  have HA := Lib.hid hA
  have hg8 : ∀ i, jn ls i < 256 := jn_lt w x0 ls hA.small
  clear hA
  clear z26
  refine (callsIn_wide (n := 20)).1 ?_
  refine callsIn_of_wp_marks Try.func7 rfl trivial ?_ rfl
  simp only [Try.ntmps7, List.size_toArray, List.length_cons, List.length_nil, Nat.reduceAdd, Nat.reduceSub, Array.replicate_succ, Array.replicate_zero, List.push_toArray, List.append_toArray, List.nil_append, List.cons_append]
  refine (wpIn_wide (n := 20)).2 ?_
  go_wp2_with fail
  rw [← byC_zero 0, ← Z26.out]
  clear Z26
  have hR := (Blk.new w 24 (byC 0 0)).alloc (.cells (Fc 26 (fun _ => 0#64)) 48)
  have hU := Blk.newS w (.cells (byC 0 0) 24) 48 (Fc 26 (fun _ => 0#64))
  have hW := balloc (balloc (Below.refl w.heap.size w) (.cells (byC 0 0) 24)) (.cells (Fc 26 (fun _ => 0#64)) 48)
  have HX := Lib.hid (And.intro hR (And.intro hU hW))
  clear hR hU hW
  refine (Constants_any _).mono ?_
  rintro e w1 ⟨rfl, h1⟩
  rename_i K hK
  refine hK _ _ ?_
  clear hK K
  obtain ⟨hR, hU, hW⟩ := HX.out
  refine wpList_plain rfl fun K hK => ?_
  go_simp
  refine hK _ _ ?_
  clear hK K
  rw [← z24]
  refine wpList_store_row rfl 38 (.tmp 4) (.tmp 8) rfl w1.heap.size (Fc 24 rcv) rfl rfl 38 (Fc 24 (fun _ => 0#64)) (Blk.new w1 _ _) (by rw [info24, Fc_size]) (by rw [Fc_size, Fc_size]) (Fc_one _ _) (wpList_nil ?_)
  rw [World.setRow_alloc_new]
  have hR1 := (hR.keep h1).alloc (.cells (Fc 24 rcv) 38)
  have hU1 := (hU.keep h1).alloc (.cells (Fc 24 rcv) 38)
  have hM1 := Blk.new w1 38 (Fc 24 rcv)
  have hW1 := balloc (bstep hW h1) (.cells (Fc 24 rcv) 38)
  have hlM := (hU.keep h1).lt
  obtain ⟨w2, hw2⟩ : ∃ w2, w1.alloc (.cells (Fc 24 rcv) 38) = w2 := ⟨_, rfl⟩
  rw [hw2] at hR1 hU1 hM1 hW1 ⊢
  clear hw2 hR hU hW HX h1
  generalize w1.heap.size = gm at hM1 hlM ⊢
  have HX := Lib.hid (And.intro hR1 (And.intro hU1 (And.intro hM1 hW1)))
  clear hR1 hU1 hW1
  have hlm := hM1.lt
  clear hM1
  go_wp2_with fail
  refine (padded_any x0 ls.length cap0 _).mono ?_
  rintro e w3 ⟨rfl, rfl⟩
  obtain ⟨hR, hU, hM, hW⟩ := HX.out
  clear HX
  have hR0 := (hR.alloc (.cells #[.func (.func 17) #[] #[.pointer (some ⟨w.heap.size + 1, 0, none⟩), .pointer (some ⟨gm, 0, none⟩)]] 50)).alloc (.cells #[.slice x0 ls.length cap0] 45)
  have hU0 := (hU.alloc (.cells #[.func (.func 17) #[] #[.pointer (some ⟨w.heap.size + 1, 0, none⟩), .pointer (some ⟨gm, 0, none⟩)]] 50)).alloc (.cells #[.slice x0 ls.length cap0] 45)
  have hM0 := (hM.alloc (.cells #[.func (.func 17) #[] #[.pointer (some ⟨w.heap.size + 1, 0, none⟩), .pointer (some ⟨gm, 0, none⟩)]] 50)).alloc (.cells #[.slice x0 ls.length cap0] 45)
  have hF0 := (Blk.new w2 50 #[.func (.func 17) #[] #[.pointer (some ⟨w.heap.size + 1, 0, none⟩), .pointer (some ⟨gm, 0, none⟩)]]).alloc (.cells #[.slice x0 ls.length cap0] 45)
  have hS0 := Blk.newS w2 (.cells #[.func (.func 17) #[] #[.pointer (some ⟨w.heap.size + 1, 0, none⟩), .pointer (some ⟨gm, 0, none⟩)]] 50) 45 #[.slice x0 ls.length cap0]
  have hW0 := balloc (balloc hW (.cells #[.func (.func 17) #[] #[.pointer (some ⟨w.heap.size + 1, 0, none⟩), .pointer (some ⟨gm, 0, none⟩)]] 50)) (.cells #[.slice x0 ls.length cap0] 45)
  clear hR hU hM hW
  rw [World.size_alloc]
  obtain ⟨W0, hWW⟩ : ∃ W0, (w2.alloc (.cells #[.func (.func 17) #[] #[.pointer (some ⟨w.heap.size + 1, 0, none⟩), .pointer (some ⟨gm, 0, none⟩)]] 50)).alloc (.cells #[.slice x0 ls.length cap0] 45) = W0 := ⟨_, rfl⟩
  rw [hWW] at hR0 hU0 hM0 hF0 hS0 hW0 ⊢
  clear hWW
  generalize w2.heap.size = gf at hF0 hS0 hlm ⊢
  go_wp2_with fail
  refine (wpIn_wide (n := 20)).1 ?_
  refine wpIn_rangeW (n := 20) (by omega) (gf := 30) (lb := #[.pointer (some ⟨gf + 1, 0, none⟩)]) rfl (enters_of Try.func30 (by kernel_rfl) rfl)
    (padded_seqL (20 - 1) w.heap.size (gf + 1) ls x0 cap0 (by omega) hls (by omega) hg8 W0 hW0.size hS0) (Below.refl _ _) hW0.size (fun _ => rfl)
    (fun pre X => ((((Blk X (w.heap.size + 1) 48 (Fc 26 (stN (tot ls) (jn ls) (List.length pre))) ∧ Blk X gm 38 (Fc 24 rcv)) ∧ Blk X gf 50 #[.func (.func 17) #[] #[.pointer (some ⟨w.heap.size + 1, 0, none⟩), .pointer (some ⟨gm, 0, none⟩)]]) ∧ Blk X w.heap.size 24 (byC 0 0)) ∧ Below w.heap.size w X))
    (fun _ _ _ => False)
    (((((Abide.blk hU0.lt _ (fun pre : List Nat => Fc 26 (stN (tot ls) (jn ls) (List.length pre)))).and (Abide.blk hM0.lt _ (fun _ => _))).and (Abide.blk hF0.lt _ (fun _ => _))).and (Abide.blk hR0.lt _ (fun _ => _))).and (Abide.below (Nat.le_refl _) hW0.size))
    (fun _ _ _ _ _ hs _ _ => hs)
    (fun pre X h => ((SlsB HA.out).new h.2).at (Nat.le_trans (Nat.le_refl _) h.2.size))
    ⟨⟨⟨⟨(by rw [List.length_nil, stN_zero]; exact hU0), hM0⟩, hF0⟩, hR0⟩, hW0⟩
    (fun x a' X => ∃ gp, Blk X gp 36 (Fc 17 (bkL ls x)) ∧ a' = { tmps := #[.slice x0 ls.length cap0, undef, .pointer (some ⟨w.heap.size, 0, none⟩), .pointer (some ⟨w.heap.size + 1, 0, none⟩), .pointer (some ⟨gm, 0, none⟩), .pointer (some ⟨gf, 0, none⟩), undef, .pointer (some ⟨gp, 0, none⟩), .agg (Fc 24 rcv), .func (.func 17) #[] #[.pointer (some ⟨w.heap.size + 1, 0, none⟩), .pointer (some ⟨gm, 0, none⟩)], .slice x0 ls.length cap0, .func (.func 30) #[] #[.pointer (some ⟨gf + 1, 0, none⟩)], .int .i64 (x : Nat), .agg (Fc 17 (bkL ls x)), undef, undef, undef, undef, undef], defers := [] })
    (fun x a' _ X Y row hs hg hr => by obtain ⟨gp, h1, h2⟩ := hs; exact ⟨gp, blk_cells' h1 hg (fun r e => (hr r e).2), h2⟩)
    ?assign ?body ?done ?stop
  case stop => exact fun _ _ _ _ _ _ h _ => h.elim
  case assign =>
    rintro l2 pre x X K hpre hi hK
    have hsz : (Fc 17 (bkL ls x)).size = 17 := Fc_size _ _
    have hst := run_storeCells_new (P := Try.prog) X 36 #[.int .u64 0, .int .u64 0, .int .u64 0, .int .u64 0, .int .u64 0, .int .u64 0, .int .u64 0, .int .u64 0, .int .u64 0, .int .u64 0, .int .u64 0, .int .u64 0, .int .u64 0, .int .u64 0, .int .u64 0, .int .u64 0, .int .u64 0] (Fc 17 (bkL ls x)) (by rw [info42, Fc_size]) (by rw [Fc_size]; rfl) (Fc_one _ _)
    gi_wp2_with fail
    exact hK _ _ (Kept.alloc _ _ _) ((Below.refl _ X).alloc hi.2.size _) ⟨⟨⟨⟨hi.1.1.1.1.alloc _, hi.1.1.1.2.alloc _⟩, hi.1.1.2.alloc _⟩, hi.1.2.alloc _⟩, balloc hi.2 _⟩ ⟨X.heap.size, Blk.new X _ _, rfl⟩
  case body =>
    rintro l2 pre x a' X hl2 ⟨rfl, hxK⟩ hlo ⟨⟨⟨⟨hU, hM⟩, hF⟩, hR⟩, hW⟩ ⟨gp, hP, rfl⟩
    rw [List.length_range] at hU
    have cf : X.cell? ⟨gf, 0, none⟩ = some (.func (.func 17) #[] #[.pointer (some ⟨w.heap.size + 1, 0, none⟩), .pointer (some ⟨gm, 0, none⟩)]) := cell_of_row _ _ 0 _ _ _ hF
    refine wpIn_block ?_
    refine wpIn_region_lit (wpListIn_plain rfl fun K hK => ?_)
    go_simp
    refine hK _ _ ?_
    clear hK K
    refine wpListIn_plain rfl fun K hK => ?_
    refine wpIn_load_rowA (fun _ => trivial) 36 (.tmp 7) rfl gp 0 rfl (Fc 17 (bkL ls x)) _ hP.rangeAt und42 rfl (by rw [info42, Fc_size]) ?_
    refine hK _ _ ?_
    clear hK K
    refine wpListIn_plain rfl fun K hK => ?_
    go_simp
    refine ⟨trivial, CallsIn.mono (F := Fence.wide.inRound l2) (show CallsIn (Fence.wide.inRound l2) _ _ _ _ _ _ from callsIn_wide.2 (lay_any (w.heap.size + 1) gm _ (bkL ls x) X (by omega) hU hM)) ?_⟩
    rintro e Y ⟨rfl, hU2, hG⟩
    rw [← stN_succ ls x] at hU2
    refine hK _ _ ?_
    clear hK K
    refine wpListIn_nil ?_
    have hl1 := hU0.lt
    exact ⟨Kept.grown hG (fun r e => by cases e; exact hl1), (Below.refl _ X).grown hG hW.size (fun k e => by cases e; omega), ⟨⟨⟨(by rw [List.length_append, List.length_range]; exact hU2), hM.kept hG (fun e => by injection e; omega)⟩, hF.kept hG (fun e => by injection e; omega)⟩, hR.kept hG (fun e => by injection e; omega)⟩, step_world hW hG (Nat.le_refl _) (by omega)⟩
  case done =>
    rintro D xs X hD rfl ⟨⟨⟨⟨hU, hM⟩, hF⟩, hR⟩, hW⟩ hDD
    rw [List.length_range] at hU
    have HX := Lib.hid (And.intro hU (And.intro hR (And.intro hW (And.intro hDD hD))))
    clear hU hM hF hR hW hDD hD hU0 hM0 hF0 hS0 hR0
    go_wp2_with fail
    refine (first_any (w.heap.size + 1) (stN (tot ls) (jn ls) (tot ls / 136 + 1)) _ HX.out.1).mono ?_
    rintro e w5 ⟨rfl, h5⟩
    rename_i K hK
    refine hK _ _ ?_
    clear hK K
    obtain ⟨N, hN⟩ : ∃ N, numB (dgB (stN (tot ls) (jn ls) (tot ls / 136 + 1))) 32 = N := ⟨_, rfl⟩
    rw [hN]
    obtain ⟨_, hR, hW, hDD, hD⟩ := HX.out
    have hR5 := hR.keep h5
    have hW5 := bstep hW h5
    have hD5 := (h5.block D (Array.getElem?_eq_some_iff.1 hDD).1).trans hDD
    have hne : w.heap.size ≠ D := by have := hW0.size; have := hR.lt; intro e; subst e; unfold Blk at hR; rw [hR] at hDD; cases hDD
    have hi : (Try.prog.info? 24).map (·.size) = some (byC N 32).size := by rw [byC_size]; kernel_rfl
    have hu : Try.prog.underlying 24 = some (.array 32 5) := by kernel_rfl
    have ht : w5.there w.heap.size 0 (byC N 32).size := hR5.there _ (by rw [byC_size, byC_size]; exact Nat.le_refl _)
    have hRz : Blk (w5.setCells w.heap.size 0 (byC N 32).toList) w.heap.size 24 (byC N 32) := blk_setCells hR5 _ (by rw [byC_size, byC_size]) (byC_one N 32)
    have hDz : (w5.setCells w.heap.size 0 (byC N 32).toList).heap[D]? = some (.deferred (some [])) := ((grown_setCells w.heap.size (byC N 32).toList 0 w5 w5 (grown_refl _ _)).block D (Array.getElem?_eq_some_iff.1 hD5).1 (fun e => hne (Option.some.inj e).symm)).trans hD5
    have hBz := below_setCells' (B := w.heap.size) (b := w.heap.size) (by omega) (byC N 32).toList 0 w5 hW5
    refine wpList_store_mid rfl 24 (.tmp 2) (.tmp 18) rfl w.heap.size 0 (byC N 32) rfl rfl ht hi (byC_one N 32) (wpList_nil ?_)
    clear hR hW hDD hR5 hW5 hD5 h5 HX ht
    generalize w5.setCells w.heap.size 0 (byC N 32).toList = wz at hRz hDz hBz ⊢
    have hRy : Blk (wz.putObj D (.deferred none)) w.heap.size 24 (byC N 32) := hRz.kept (grownBy_putObj' wz D _) (fun e => hne (Option.some.inj e))
    have hr : (loadVar 24 ⟨w.heap.size, 0, none⟩).run Try.prog (wz.putObj D (.deferred none)) = .ok (.agg (byC N 32)) (wz.putObj D (.deferred none)) := by
      have h := run_loadVar_mid (P := Try.prog) (wz.putObj D (.deferred none)) w.heap.size 0 24 (byC N 32).toList _ hRy.rangeAt hu rfl hi
      rwa [Array.toArray_toList] at h
    have HE := Lib.hid (And.intro hDz (And.intro hBz (And.intro hr hD)))
    have HN := Lib.hid hN
    clear hRy hr hRz hDz hBz hi hu hN hD hne
    go_wp2_with fail
    obtain ⟨hDz, hBz, hr, hD⟩ := HE.out
    refine ⟨by simp, .inl ⟨_, _, rfl, run_takeDeferred hDz, ?_⟩⟩
    exact ⟨.agg (byC N 32), by simp [results, Try.results7, Act.put, asAddr, hr], by rw [HN.out], hBz.trans (below_put _ _ (Nat.le_trans hW0.size hD))⟩
end Go.Proofs.Ytfknfopdinkmkaa
