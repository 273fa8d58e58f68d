/- digest's reference: Block. -/
import Derived.Test.YtfknfopdinkmkaaHe
namespace Go.Proofs.Ytfknfopdinkmkaa
open Go.RowKit Go.Shelf
theorem blP_succ (b : Nat → Nat) (k : Nat) : blP b (k + 1) = upd (blP b k) (k / 8) (blP b k (k / 8) ||| BitVec.ofNat 64 (b k * 2 ^ (k % 8 * 8))) := rfl
theorem blP_zero (b : Nat → Nat) : blP b 0 = fun _ => 0#64 := rfl
attribute [local go_sem] uv_or
attribute [local irreducible] Bc pqC pdB pq blP ln Fc
set_option maxRecDepth 100000 in
set_option maxHeartbeats 4000000 in
theorem rblock_any (s : Sl) (x : Option Addr) (cap at_ : Nat) (hv : s.v = .slice x s.n cap) (hn : s.n ≤ 2000000) (hat : 136 * at_ + 136 ≤ s.n) (w : World) (hs : SlAt w s) :
    Calls Try.prog 12 #[s.v, .int .i64 (at_ : Nat)] w fun e w' => e = .returned (.agg (Fc 17 (blP (fun p => s.f (136 * at_ + p)) 136))) ∧ Below w.heap.size w w' := by
  obtain ⟨b0, o0, hx, hb0, hbytes⟩ := hs.cut hv (by omega)
  obtain ⟨b, hbf⟩ : ∃ b, (fun p => s.f (136 * at_ + p)) = b := ⟨_, rfl⟩
  have HBB := Lib.hid (show ∀ k, k < 136 → b k < 256 ∧ ∀ w', Below w.heap.size w w' → w'.cell? ⟨b0, o0 + (136 * at_ + k), none⟩ = some (.int .u8 (b k : Nat)) from fun k hk => by
    rw [← hbf]
    exact ⟨(hbytes _ (by omega)).1, fun w' h => (h.cell (p := ⟨b0, o0 + (136 * at_ + k), none⟩) hb0).trans (hbytes _ (by omega)).2⟩)
  rw [hbf, hv, hx]
  obtain ⟨n, hnn⟩ : ∃ n, s.n = n := ⟨_, rfl⟩
  rw [hnn] at hn hat ⊢
  clear hs hv hx hbytes hbf hnn
  have HAT := Lib.hid (And.intro hn hat)
  have hz := z17
  go_enter Try.func12, Try.ntmps12
  go_upto_region 2 with fail
  rw [← hz]
  have hR : Blk ((w.alloc (.cells (Fc 17 (fun _ => 0#64)) 36)).alloc (.cells (Fc 17 (fun _ => 0#64)) 36)) w.heap.size 36 (Fc 17 (fun _ => 0#64)) := (Blk.new w _ _).alloc _
  have hL : Blk ((w.alloc (.cells (Fc 17 (fun _ => 0#64)) 36)).alloc (.cells (Fc 17 (fun _ => 0#64)) 36)) (w.heap.size + 1) 36 (Fc 17 (fun _ => 0#64)) := Blk.newS w _ _ _
  have hW := balloc (balloc (Below.refl w.heap.size w) (.cells (Fc 17 (fun _ => 0#64)) 36)) (.cells (Fc 17 (fun _ => 0#64)) 36)
  obtain ⟨w1, hw1⟩ : ∃ w1, (w.alloc (.cells (Fc 17 (fun _ => 0#64)) 36)).alloc (.cells (Fc 17 (fun _ => 0#64)) 36) = w1 := ⟨_, rfl⟩
  rw [hw1] at hR hL hW ⊢
  have HX := Lib.hid (And.intro hL (And.intro hR hW))
  clear hR hL hW hw1 hz hn hat
  go_wp2_with fail
  go_loopw [6] (fun i wr => ∃ k : Nat, k ≤ 136 ∧ i = .int .i64 (k : Int) ∧ Blk wr (w.heap.size + 1) 36 (Fc 17 (blP b k)) ∧ Blk wr w.heap.size 36 (Fc 17 (fun _ => 0#64)) ∧ Below w.heap.size w wr) (fun i _ => 136 - (intOf i).toNat)
  case atStart => exact ⟨0, by omega, rfl, by rw [blP_zero]; exact HX.out.1, HX.out.2⟩
  case round =>
    clear HX
    obtain ⟨k, hk, rfl, hL, hR, hW⟩ := hrel
    by_cases hlt : k < 136
    · obtain ⟨hbk, hcb⟩ := HBB.out k hlt
      have hcb := hcb wr hW
      have hstep := blP_succ b k
      obtain ⟨q, hq⟩ : ∃ q, k / 8 = q := ⟨_, rfl⟩
      obtain ⟨s, hs⟩ : ∃ s, k % 8 * 8 = s := ⟨_, rfl⟩
      obtain ⟨r, hr⟩ : ∃ r, k % 8 = r := ⟨_, rfl⟩
      obtain ⟨i, hi⟩ : ∃ i, 136 * at_ + k = i := ⟨_, rfl⟩
      rw [hq, hs] at hstep
      rw [hi] at hcb
      have hq2 : q < 17 := by omega
      have hs2 : s < 64 := by omega
      have hpb : b k * 2 ^ s < 18446744073709551616 := by
        have h1 : (2 : Nat) ^ s ≤ 2 ^ 56 := Nat.pow_le_pow_right (by omega) (by omega)
        have h2 : b k * 2 ^ s ≤ 255 * 2 ^ 56 := Nat.mul_le_mul (by omega) h1
        omega
      obtain ⟨v, hv⟩ : ∃ v, b k = v := ⟨_, rfl⟩
      rw [hv] at hbk hcb hstep hpb
      have hin := HAT.out
      have d1 : (k : Int).tdiv 8 = (q : Int) := by rw [← hq]; rfl
      have d2 : (k : Int).tmod 8 = (r : Int) := by rw [← hr]; rfl
      have d3 : IntKind.i64.wrap (q : Int) = (q : Int) := IntWalk.i64_in _ (by omega)
      have d4 : IntKind.i64.wrap (8 * (r : Int)) = (s : Int) := by rw [show 8 * (r : Int) = (s : Int) by omega]; exact IntWalk.i64_in _ (by omega)
      have d5 : IntKind.u64.wrap (v : Int) = (v : Int) := IntWalk.u64_in _ (by omega)
      have d9 : IntKind.u64.wrap (s : Int) = (s : Int) := IntWalk.u64_in _ (by omega)
      have d6 : IntKind.u64.wrap ((v : Int) * 2 ^ s) = ln (BitVec.ofNat 64 (v * 2 ^ s)) := by
        rw [ln_of _ hpb, show (v : Int) * 2 ^ s = ((v * 2 ^ s : Nat) : Int) by simp]; exact IntWalk.u64_in _ (by omega)
      have d7 : (q : Int) < 17 := by omega
      have d8 : (s : Int) < 64 := by omega
      have e1 : IntKind.i64.wrap (136 * (at_ : Int)) = 136 * (at_ : Int) := IntWalk.i64_in _ (by omega)
      have e2 : IntKind.i64.wrap (136 * (at_ : Int) + (k : Int)) = (i : Int) := by rw [show 136 * (at_ : Int) + (k : Int) = (i : Int) by omega]; exact IntWalk.i64_in _ (by omega)
      have e3 : (i : Int) < (n : Int) := by omega
      have hC := (cell_of_row _ _ q _ _ _ hL).trans (Fc_get 17 _ q hq2)
      have hF := frozen_of_row _ _ q _ _ hL
      have HX := Lib.hid (And.intro hL (And.intro hR hW))
      have HS := Lib.hid hstep
      clear hL hR hW hstep hq hs hr hv hpb hq2 hi hin
      go_wp2_with fail
      refine region_tail 21 (by kernel_rfl) (by kernel_rfl) (fun wd hwd => ?_)
      simp only [List.take_succ_cons, List.take_zero, List.drop_succ_cons, List.drop_zero]
      have HY : Hid (Blk wd (w.heap.size + 1) 36 (Fc 17 (blP b k)) ∧ Blk wd w.heap.size 36 (Fc 17 (fun _ => 0#64)) ∧ Below w.heap.size w wd) := Lib.hid (by rw [hwd]; exact ⟨HX.out.1, HX.out.2.1, below_drew' HX.out.2.2⟩)
      have hC2 : wd.cell? ⟨w.heap.size + 1, q, none⟩ = some (uv (blP b k q)) := by rw [hwd]; exact hC
      have hF2 : wd.frozen? ⟨w.heap.size + 1, q, none⟩ = false := by rw [hwd]; exact hF
      have hcb2 : wd.cell? ⟨b0, o0 + i, none⟩ = some (.int .u8 (v : Nat)) := by rw [hwd]; exact hcb
      clear hwd HX hC hF hcb
      repeat still_step
      refine wpStill_nil ?_
      go_wp2_with fail
      have hS := heap_setCell_same wd (w.heap.size + 1) q _ _ (uv (blP b k q ||| BitVec.ofNat 64 (v * 2 ^ s))) HY.out.1
      rw [Fc_set _ _ _ _ (by omega), ← HS.out] at hS
      have hG := grown_set' (grown_refl wd (w.heap.size + 1)) q (uv (blP b k q ||| BitVec.ofNat 64 (v * 2 ^ s)))
      exact ⟨⟨k + 1, by omega, by go_num, hS, HY.out.2.1.kept hG (fun e => by injection e; omega), step_world HY.out.2.2 hG (Nat.le_refl _) (by omega)⟩, by simp [intOf]; omega⟩
    · obtain rfl : k = 136 := by omega
      obtain ⟨res, hres⟩ : ∃ res, blP b 136 = res := ⟨_, rfl⟩
      rw [hres] at hL
      have HN := Lib.hid hres
      have hi : (Try.prog.info? 36).map (·.size) = some (Fc 17 res).size := by rw [info42, Fc_size]
      have ht : wr.there w.heap.size 0 (Fc 17 res).size := hR.there _ (by rw [Fc_size, Fc_size]; exact Nat.le_refl _)
      have hr : (loadVar 36 ⟨w.heap.size, 0, none⟩).run Try.prog (wr.setCells w.heap.size 0 (Fc 17 res).toList) = .ok (.agg (Fc 17 res)) (wr.setCells w.heap.size 0 (Fc 17 res).toList) :=
        run_loadVar_mid _ _ _ _ (Fc 17 res).toList _ (World.rangeAt_setCells_same _ _ _ _ ht) und42 rfl hi
      have hB' := below_setCells' (B := w.heap.size) (b := w.heap.size) (by omega) (Fc 17 res).toList 0 wr hW
      have HLL := Lib.hid hL
      have HI := Lib.hid hi
      have HRR := Lib.hid (And.intro hr hB')
      have HT := Lib.hid ht
      clear hL hR hW hi hr hB' ht hres
      go_upto_region 6 with fail
      refine wp_region_lit (wpList_load_mid rfl 36 (.tmp 5) rfl (w.heap.size + 1) 0 rfl (Fc 17 res).toList _ HLL.out.rangeAt und42 rfl HI.out ?_)
      refine wpList_store_mid rfl 36 (.tmp 4) (.tmp 32) rfl w.heap.size 0 (Fc 17 res) rfl rfl HT.out HI.out (Fc_one _ _) (wpList_nil ?_)
      obtain ⟨hr, hB'⟩ := HRR.out
      generalize wr.setCells w.heap.size 0 (Fc 17 res).toList = wz at *
      go_wp2_with fail
      exact bodyPost_ret (v := .agg (Fc 17 res)) (by simp [results, Try.results12, Act.put, asAddr, hr]) rfl ⟨by rw [HN.out], hB'⟩
end Go.Proofs.Ytfknfopdinkmkaa
