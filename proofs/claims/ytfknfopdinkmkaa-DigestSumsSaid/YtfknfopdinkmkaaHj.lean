/- digest's reference: Sum. -/
import Derived.Test.YtfknfopdinkmkaaHf
import Derived.Test.YtfknfopdinkmkaaHi
import Derived.Test.YtfknfopdinkmkaaKw
namespace Go.Proofs.Ytfknfopdinkmkaa
open Go.RowKit Go.Shelf
/-- The reference's state behind so many blocks. -/
def rsN (N : Nat) (g : Nat → Nat) : Nat → Nat → Ln
  | 0 => fun _ => 0#64
  | k + 1 => rnds (xoF (rsN N g k) (blP (fun p => pdB N g (136 * k + p)) 136) 17) 24
theorem rsN_zero (N : Nat) (g : Nat → Nat) : rsN N g 0 = fun _ => 0#64 := rfl
theorem rsN_succ (N : Nat) (g : Nat → Nat) (k : Nat) : rsN N g (k + 1) = rnds (xoF (rsN N g k) (blP (fun p => pdB N g (136 * k + p)) 136) 17) 24 := rfl
attribute [local go_sem] uv_xor
attribute [local irreducible] Fc Bc jn tot pdB pq pqC blP bkL ln rot stN tnP rsN rnds
set_option maxRecDepth 100000 in
set_option maxHeartbeats 4000000 in
theorem rsum_any (x : Option Addr) (n cap : Nat) (f : Nat → Nat) (hn : n ≤ 1000000) (w : World)
    (hv : (Value.slice x n cap = .slice none 0 0 ∧ n = 0) ∨ ∃ a c, Value.slice x n cap = .slice (some a) n c) (hs : SlAt w ⟨.slice x n cap, n, f⟩) :
    Calls Try.prog 6 #[.slice x n cap] w fun e w' => e = .returned (.agg (byC (numB (dgB (rsN n f (n / 136 + 1))) 32) 32)) ∧ Below w.heap.size w w' := by
  have Z25 := Lib.hid z25'
  obtain ⟨L, hL⟩ : ∃ L, 136 * (n / 136 + 1) = L := ⟨_, rfl⟩
  obtain ⟨M, hM⟩ : ∃ M, n / 136 + 1 = M := ⟨_, rfl⟩
  have hd : (L : Int).tdiv 136 = (M : Int) := by rw [← hL, ← hM]; rw [Int.tdiv_eq_ediv_of_nonneg (by omega)]; omega
  have hMb : M ≤ 10000 := by omega
  have hwM : IntKind.i64.wrap (M : Int) = (M : Int) := IntWalk.i64_in _ (by omega)
  rw [hM]
  have HLM := Lib.hid (show 136 * M = L ∧ L ≤ 2000000 by omega)
  have HPAD := Lib.hid (show ∀ X, SlAt X ⟨.slice x n cap, n, f⟩ → Calls Try.prog 10 #[.slice x n cap] X fun e w' => ∃ g c, e = .returned (.slice (some ⟨g, 0, none⟩) L c) ∧ SlB w'.heap.size w' ⟨.slice (some ⟨g, 0, none⟩) L c, L, pdB n f⟩ ∧ Below X.heap.size X w' from fun X hX =>
    (rpad_any ⟨.slice x n cap, n, f⟩ hv (by show n ≤ 1000000; omega) X hX).mono fun e w' h => by
      obtain ⟨v', h1, h2, ⟨g, c, rfl⟩, h3⟩ := h
      rw [← hL]
      exact ⟨g, c, h1, h2, h3⟩)
  have hR := Blk.new w 24 (byC 0 0)
  have hW := balloc (Below.refl w.heap.size w) (.cells (byC 0 0) 24)
  have hsl := SlB.new (B := w.heap.size) hs hW
  have HX := Lib.hid (And.intro hR (And.intro hW hsl))
  clear hv hs hL hM hR hW hsl hn
  go_enter Try.func6, Try.ntmps6
  go_wp2_with fail
  rw [← byC_zero 0]
  refine (HPAD.out _ (HX.out.2.2.at HX.out.2.1.size)).mono ?_
  rintro e w1 ⟨gp, cp, rfl, hs1, h1⟩
  have hR := (HX.out.1.keep h1).alloc (.cells (Fc 25 (fun _ => 0#64)) 42)
  have hS := Blk.new w1 42 (Fc 25 (fun _ => 0#64))
  have hW := balloc (bstep HX.out.2.1 h1) (.cells (Fc 25 (fun _ => 0#64)) 42)
  have hs2 := hs1.new (balloc (Below.refl _ _) (.cells (Fc 25 (fun _ => 0#64)) 42))
  have hg4 : w.heap.size < w1.heap.size := (HX.out.1.keep h1).lt
  clear HX hs1 h1 HPAD
  go_upto_region 3 with fail
  rw [← Z25.out]
  obtain ⟨w2, hw2⟩ : ∃ w2, w1.alloc (.cells (Fc 25 (fun _ => 0#64)) 42) = w2 := ⟨_, rfl⟩
  rw [hw2] at hR hS hW hs2 ⊢
  have hsz : w1.heap.size + 1 = w2.heap.size := by rw [← hw2]; simp
  clear hw2 Z25
  generalize w1.heap.size = g4 at hS hs2 hg4 hsz ⊢
  have HX := Lib.hid (And.intro hR (And.intro hS (And.intro hs2 (And.intro hW hsz))))
  clear hR hS hs2 hW hsz
  go_wp2_with fail
  go_loopw [5] (fun i wr => ∃ k : Nat, k ≤ M ∧ i = .int .i64 (k : Int) ∧ Blk wr w.heap.size 24 (byC 0 0) ∧ Blk wr g4 42 (Fc 25 (rsN n f k)) ∧ SlB g4 wr ⟨.slice (some ⟨gp, 0, none⟩) L cp, L, pdB n f⟩ ∧ Below w.heap.size w wr) (fun i _ => M - (intOf i).toNat)
  case atStart => exact ⟨0, by omega, rfl, HX.out.1, by rw [rsN_zero]; exact HX.out.2.1, HX.out.2.2.1, HX.out.2.2.2.1⟩
  case round =>
    clear HX
    obtain ⟨k, hk, rfl, hR, hS, hs, hW⟩ := hrel
    by_cases hlt : k < M
    · have hkI : (k : Int) < (M : Int) := by omega
      have hLM := HLM.out
      have hgl := hS.lt
      have HBK := Lib.hid (rblock_any ⟨.slice (some ⟨gp, 0, none⟩) L cp, L, pdB n f⟩ (some ⟨gp, 0, none⟩) cp k rfl hLM.2 (by show 136 * k + 136 ≤ L; omega) wr (hs.at (by omega)))
      have HX := Lib.hid (And.intro hR (And.intro hS (And.intro hs hW)))
      clear hR hS hs hW hLM
      go_wp2_with fail
      refine HBK.out.mono ?_
      rintro e w3 ⟨rfl, h3⟩
      clear HBK
      obtain ⟨h, hh⟩ : ∃ h, blP (fun p => pdB n f (136 * k + p)) 136 = h := ⟨_, rfl⟩
      obtain ⟨F, hF⟩ : ∃ F, rsN n f k = F := ⟨_, rfl⟩
      have HST := Lib.hid (show rsN n f (k + 1) = rnds (xoF F h 17) 24 by rw [rsN_succ, hh, hF])
      obtain ⟨hR, hS, hs, hW⟩ := HX.out
      rw [hF] at hS
      show _
      rw [hh]
      rename_i K hK
      refine hK _ _ ?_
      clear hK K
      refine wpList_plain rfl fun K hK => ?_
      go_simp
      refine hK _ _ ?_
      clear hK K
      rw [← z17]
      refine wpList_store_row rfl 36 (.tmp 6) (.tmp 21) rfl w3.heap.size (Fc 17 h) rfl rfl 36 (Fc 17 (fun _ => 0#64)) (Blk.new w3 _ _) (by rw [info42, Fc_size]) (by rw [Fc_size, Fc_size]) (Fc_one _ _) (wpList_nil ?_)
      rw [World.setRow_alloc_new]
      have hR1 := (hR.keep h3).alloc (.cells (Fc 17 h) 36)
      have hS1 := (hS.keep h3).alloc (.cells (Fc 17 h) 36)
      have hs1 := (hs.new h3).new (balloc (Below.refl _ _) (.cells (Fc 17 h) 36))
      have hW1 := balloc (bstep hW h3) (.cells (Fc 17 h) 36)
      have h6 := Blk.new w3 36 (Fc 17 h)
      have hg6 : g4 < w3.heap.size := (hS.keep h3).lt
      obtain ⟨w4, hw4⟩ : ∃ w4, w3.alloc (.cells (Fc 17 h) 36) = w4 := ⟨_, rfl⟩
      rw [hw4] at hR1 hS1 hs1 hW1 h6 ⊢
      clear hw4 hR hS hs hW HX h3 hh hF
      generalize w3.heap.size = g6 at h6 hg6 ⊢
      have HY := Lib.hid (And.intro hR1 (And.intro hS1 (And.intro hs1 (And.intro hW1 h6))))
      clear hR1 hS1 hs1 hW1 h6
      go_wp2_with fail
      go_loopw [7] (fun i wr => ∃ j : Nat, j ≤ 17 ∧ i = .int .i64 (j : Int) ∧ Blk wr w.heap.size 24 (byC 0 0) ∧ Blk wr g4 42 (Fc 25 (xoF F h j)) ∧ Blk wr g6 36 (Fc 17 h) ∧ SlB g4 wr ⟨.slice (some ⟨gp, 0, none⟩) L cp, L, pdB n f⟩ ∧ Below w.heap.size w wr) (fun i _ => 17 - (intOf i).toNat)
      case atStart => exact ⟨0, by omega, rfl, HY.out.1, by rw [xoF_zero]; exact HY.out.2.1, HY.out.2.2.2.2, HY.out.2.2.1, HY.out.2.2.2.1⟩
      case round =>
        clear HY
        obtain ⟨j, hj, rfl, hR, hS, h6, hs, hW⟩ := hrel
        by_cases hjl : j < 17
        · have hjI : (j : Int) < 17 := by omega
          have hjI2 : (j : Int) < 25 := by omega
          have hC := (cell_of_row _ _ j _ _ _ hS).trans (Fc_get 25 _ j (by omega))
          have hv : xoF F h j j = F j := by unfold xoF; rw [if_neg (by omega)]
          rw [hv] at hC
          have hC6 := (cell_of_row _ _ j _ _ _ h6).trans (Fc_get 17 _ j (by omega))
          have hF := frozen_of_row _ _ j _ _ hS
          have HX := Lib.hid (And.intro hR (And.intro hS (And.intro h6 (And.intro hs hW))))
          clear hR hS h6 hs hW hv
          go_wp2_with fail
          refine region_tail 9 (by kernel_rfl) (by kernel_rfl) (fun wd hwd => ?_)
          simp only [List.take_succ_cons, List.take_zero, List.drop_succ_cons, List.drop_zero]
          have HY : Hid (Blk wd w.heap.size 24 (byC 0 0) ∧ Blk wd g4 42 (Fc 25 (xoF F h j)) ∧ Blk wd g6 36 (Fc 17 h) ∧ SlB g4 wd ⟨.slice (some ⟨gp, 0, none⟩) L cp, L, pdB n f⟩ ∧ Below w.heap.size w wd) := Lib.hid (by rw [hwd]; exact ⟨HX.out.1, HX.out.2.1, HX.out.2.2.1, HX.out.2.2.2.1, below_drew' HX.out.2.2.2.2⟩)
          have hC2 : wd.cell? ⟨g4, j, none⟩ = some (uv (F j)) := by rw [hwd]; exact hC
          have hC62 : wd.cell? ⟨g6, j, none⟩ = some (uv (h j)) := by rw [hwd]; exact hC6
          have hF2 : wd.frozen? ⟨g4, j, none⟩ = false := by rw [hwd]; exact hF
          clear hwd HX hC hC6 hF
          repeat still_step
          refine wpStill_nil ?_
          go_wp2_with fail
          obtain ⟨hR, hS, h6, hs, hW⟩ := HY.out
          have hS2 := heap_setCell_same wd g4 j _ _ (uv (F j ^^^ h j)) hS
          rw [Fc_set _ _ _ _ (by omega), xoF_step] at hS2
          have hG := grown_set' (grown_refl wd g4) j (uv (F j ^^^ h j))
          exact ⟨⟨j + 1, by omega, by go_num, hR.kept hG (fun e => by injection e; omega), hS2, h6.kept hG (fun e => by injection e; omega), (Abide.slB (β := Unit) (Nat.le_refl g4) _) () _ _ _ hs hG (fun r e => by cases e; exact Nat.le_refl _), step_world hW hG (Nat.le_refl _) (by omega)⟩, by simp [intOf]; omega⟩
        · have hj17 : j = 17 := by omega
          subst hj17
          rw [show ((17 : Nat) : Int) = 17 from rfl]
          obtain ⟨G, hG⟩ : ∃ G, xoF F h 17 = G := ⟨_, rfl⟩
          rw [hG] at hS
          have HGG := Lib.hid hG
          have HX := Lib.hid (And.intro hR (And.intro hS (And.intro hs hW)))
          have hi : (Try.prog.info? 42).map (·.size) = some (Fc 25 G).size := by rw [info25, Fc_size]
          have HI := Lib.hid hi
          clear hR hS h6 hs hW hG hi
          go_upto_region 11 with fail
          refine wp_region_lit (wpList_load_mid rfl 42 (.tmp 4) rfl g4 0 rfl (Fc 25 G).toList _ HX.out.2.1.rangeAt und25 rfl HI.out ?_)
          rw [Array.toArray_toList]
          refine wpList_plain rfl fun K hK => ?_
          go_simp
          go_at_call 16
          refine (rturn_any G _).mono ?_
          rintro e w5 ⟨rfl, h5⟩
          refine hK _ _ ?_
          clear hK K
          obtain ⟨hR, hS, hs, hW⟩ := HX.out
          have hR := hR.keep h5
          have hS := hS.keep h5
          have hs := hs.new h5
          have hW := bstep hW h5
          clear HX
          refine wpList_store_row rfl 42 (.tmp 4) (.tmp 36) rfl g4 (Fc 25 (rnds G 24)) rfl rfl 42 (Fc 25 G) hS (by rw [info25, Fc_size]) (by rw [Fc_size, Fc_size]) (Fc_one _ _) (wpList_nil ?_)
          have hgr := grown_setRow w5 g4 (Fc 25 (rnds G 24))
          have hS2 : Blk (w5.setRow g4 (Fc 25 (rnds G 24))) g4 42 (Fc 25 (rnds G 24)) := setRow_heap _ _ _ _ _ _ hS
          have hR2 := hR.kept hgr (fun e => by injection e; omega)
          have hs2 := (Abide.slB (β := Unit) (Nat.le_refl g4) _) () _ _ _ hs hgr (fun r e => by cases e; exact Nat.le_refl _)
          have hW2 := below_setRow hW (show w.heap.size ≤ g4 by omega) (Fc 25 (rnds G 24))
          generalize w5.setRow g4 (Fc 25 (rnds G 24)) = wz at hS2 hR2 hs2 hW2 ⊢
          have HX := Lib.hid (And.intro hR2 (And.intro hS2 (And.intro hs2 hW2)))
          clear hR hS hs hW hR2 hS2 hs2 hW2 hgr h5
          go_wp2_with fail
          exact ⟨⟨k + 1, by omega, by go_num, HX.out.1, by rw [HST.out, HGG.out]; exact HX.out.2.1, HX.out.2.2⟩, by simp [intOf]; omega⟩
    · have hkM : k = M := by omega
      subst hkM
      have hkI : ¬ ((k : Int) < (k : Int)) := by omega
      obtain ⟨F, hF⟩ : ∃ F, rsN n f k = F := ⟨_, rfl⟩
      rw [hF] at hS
      have HF := Lib.hid hF
      have h8 := Blk.new wr 24 (rdC (dgB F) 32 0)
      have hR8 := hR.alloc (.cells (rdC (dgB F) 32 0) 24)
      have hS8 := hS.alloc (.cells (rdC (dgB F) 32 0) 24)
      have hW8 := balloc hW (.cells (rdC (dgB F) 32 0) 24)
      have hgw : w.heap.size < wr.heap.size := hR.lt
      have hg4' : g4 < wr.heap.size := hS.lt
      clear hR hS hs hW hF
      have HX := Lib.hid (And.intro h8 (And.intro hR8 (And.intro hS8 hW8)))
      clear h8 hR8 hS8 hW8
      go_wp2_with fail
      rw [← byC_zero 0, ← rdC_zero (dgB F) 32]
      obtain ⟨w8, hw8⟩ : ∃ w8, wr.alloc (.cells (rdC (dgB F) 32 0) 24) = w8 := ⟨_, rfl⟩
      rw [hw8] at HX ⊢
      clear hw8
      generalize wr.heap.size = g8 at HX hgw hg4' ⊢
      go_loopw [9] (fun i wx => ∃ j : Nat, j ≤ 32 ∧ i = .int .i64 (j : Int) ∧ Blk wx g8 24 (rdC (dgB F) 32 j) ∧ Blk wx w.heap.size 24 (byC 0 0) ∧ Blk wx g4 42 (Fc 25 F) ∧ Below w.heap.size w wx) (fun i _ => 32 - (intOf i).toNat)
      case atStart => exact ⟨0, by omega, rfl, HX.out⟩
      case round =>
        clear HX
        obtain ⟨j, hj, rfl, hL, hZ, hX, hW⟩ := hrel
        by_cases hjl : j < 32
        · have e1 := dgB_wrap F j
          have hC := (cell_of_row _ _ (j / 8) _ _ _ hX).trans (Fc_get 25 F _ (by omega))
          have hD := (cell_of_row _ _ j _ _ _ hL).trans (rdC_get (dgB F) 32 j j hjl)
          have hFz := frozen_of_row _ _ j _ _ hL
          obtain ⟨q, hq⟩ : ∃ q, j / 8 = q := ⟨_, rfl⟩
          obtain ⟨r, hr⟩ : ∃ r, j % 8 = r := ⟨_, rfl⟩
          obtain ⟨s, hs⟩ : ∃ s, r * 8 = s := ⟨_, rfl⟩
          rw [hq, hr, hs] at e1
          rw [hq] at hC
          have d1 : (j : Int).tdiv 8 = (q : Int) := by rw [← hq]; rfl
          have d2 : (j : Int).tmod 8 = (r : Int) := by rw [← hr]; rfl
          have d3 : IntKind.i64.wrap (q : Int) = (q : Int) := IntWalk.i64_in _ (by omega)
          have d4 : IntKind.i64.wrap (8 * (r : Int)) = (s : Int) := by rw [show 8 * (r : Int) = (s : Int) by omega]; exact IntWalk.i64_in _ (by omega)
          have d9 : IntKind.u64.wrap (s : Int) = (s : Int) := IntWalk.u64_in _ (by omega)
          have d7 : (q : Int) < 25 := by omega
          have d8 : (s : Int) < 64 := by omega
          have hjI : (j : Int) < 32 := by omega
          obtain ⟨v, hv⟩ : ∃ v, dgB F j = v := ⟨_, rfl⟩
          rw [hv] at e1
          have HX := Lib.hid (And.intro hL (And.intro hZ (And.intro hX hW)))
          have HVV := Lib.hid hv
          clear hL hZ hX hW hq hr hs hv
          go_wp2_with fail
          rw [← HVV.out]
          have hS := heap_setCell_same wr g8 j _ _ (.int .u8 (dgB F j : Nat)) HX.out.1
          have hst := rdC_set (dgB F) 32 j (by omega) hjl
          rw [show 32 - 32 + j = j by omega] at hst
          rw [hst] at hS
          have hG := grown_set' (grown_refl wr g8) j (.int .u8 (dgB F j : Nat))
          exact ⟨⟨j + 1, by omega, by go_num, hS, HX.out.2.1.kept hG (fun e => by injection e; omega), HX.out.2.2.1.kept hG (fun e => by injection e; omega), step_world HX.out.2.2.2 hG (Nat.le_refl _) (by omega)⟩, by simp [intOf]; omega⟩
        · have hj32 : j = 32 := by omega
          subst hj32
          rw [rdC_all (dgB F) 32 (by omega) (fun k _ => dgB_lt F k)] at hL
          obtain ⟨N, hN⟩ : ∃ N, numB (dgB F) 32 = N := ⟨_, rfl⟩
          rw [hN] at hL
          have HN := Lib.hid hN
          have hi : (Try.prog.info? 24).map (·.size) = some (byC N 32).size := by rw [byC_size]; kernel_rfl
          have hu : Try.prog.underlying 24 = some (.array 32 5) := by kernel_rfl
          have ht : wr.there w.heap.size 0 (byC N 32).size := hZ.there _ (by rw [byC_size, byC_size]; exact Nat.le_refl _)
          have hrr : (loadVar 24 ⟨w.heap.size, 0, none⟩).run Try.prog (wr.setCells w.heap.size 0 (byC N 32).toList) = .ok (.agg (byC N 32)) (wr.setCells w.heap.size 0 (byC N 32).toList) :=
            run_loadVar_mid _ _ _ _ (byC N 32).toList _ (World.rangeAt_setCells_same _ _ _ _ ht) hu rfl hi
          have hB' := below_setCells' (B := w.heap.size) (b := w.heap.size) (by omega) (byC N 32).toList 0 wr hW
          have HL := Lib.hid hL
          have HI := Lib.hid hi
          have HU := Lib.hid hu
          have HRR := Lib.hid (And.intro hrr hB')
          have HT := Lib.hid ht
          clear hL hZ hW hi hrr hB' ht hu hX hN
          go_upto_region 17 with fail
          refine wp_region_lit (wpList_load_mid rfl 24 (.tmp 8) rfl g8 0 rfl (byC N 32).toList _ HL.out.rangeAt HU.out rfl HI.out ?_)
          refine wpList_store_mid rfl 24 (.tmp 2) (.tmp 53) rfl w.heap.size 0 (byC N 32) rfl rfl HT.out HI.out (byC_one N 32) (wpList_nil ?_)
          obtain ⟨hrr, hB'⟩ := HRR.out
          generalize wr.setCells w.heap.size 0 (byC N 32).toList = wz at *
          go_wp2_with fail
          exact bodyPost_ret (v := .agg (byC N 32)) (by simp [results, Try.results6, Act.put, asAddr, hrr]) rfl ⟨by rw [HF.out, HN.out], hB'⟩
end Go.Proofs.Ytfknfopdinkmkaa
