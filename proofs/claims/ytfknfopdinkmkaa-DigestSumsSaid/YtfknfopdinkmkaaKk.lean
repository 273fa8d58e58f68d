/- digest: read. -/
import Derived.Test.YtfknfopdinkmkaaKj
namespace Go.Proofs.Ytfknfopdinkmkaa
open Go.RowKit
attribute [local irreducible] ln rot
/-- Bytes as cells. -/
def Bc (n : Nat) (b : Nat → Nat) : Array Value := ((List.range n).map fun p => Value.int .u8 (b p : Nat)).toArray
theorem Bc_size (n : Nat) (b : Nat → Nat) : (Bc n b).size = n := by unfold Bc; simp
theorem Bc_get (n : Nat) (b : Nat → Nat) (p : Nat) (hp : p < n) : (Bc n b)[p]? = some (.int .u8 (b p : Nat)) := by unfold Bc; simp [hp]
theorem Bc_one (n : Nat) (b : Nat → Nat) : (Bc n b).all (·.oneCell') = true := by
  rw [Array.all_eq_true_iff_forall_mem]
  intro v hv
  unfold Bc at hv
  simp only [List.mem_toArray, List.mem_map] at hv
  obtain ⟨p, _, rfl⟩ := hv
  rfl
/-- One of a row's cells, each of which has one. -/
theorem index_any {P : Program} (T e : TypeId) (n : Nat) (cs : Array Value) (k : Nat) (v : Value) (hk : k < n) (hv : cs[k]? = some v)
    (hu : P.underlying T = some (.array n e)) (hs : ∀ w, (sizeOf e).run P w = .ok 1 w) (hag : ∀ w, (isAgg e).run P w = .ok false w) (w : World) :
    (Instr.index T (.agg cs) (.int .i64 k)).run P w = .ok v w := by
  unfold Instr.index
  simp only [asIntOf, Sem.run_bind, Sem.run_pure, Result.andThen_ok, run_underlying hu]
  rw [if_pos ⟨by omega, by omega⟩]
  simp only [Sem.run_bind, hs, Result.andThen_ok]
  unfold part
  simp [hag, hv]
theorem und71 : Try.prog.underlying 66 = some (.array 136 5) := by kernel_rfl
theorem info71 : (Try.prog.info? 66).map (·.size) = some 136 := by kernel_rfl
theorem und42 : Try.prog.underlying 36 = some (.array 17 27) := by kernel_rfl
theorem info42 : (Try.prog.info? 36).map (·.size) = some 17 := by kernel_rfl
theorem ix71 (b : Nat → Nat) (k : Nat) (hk : k < 136) (w : World) : (Instr.index 66 (.agg (Bc 136 b)) (.int .i64 k)).run Try.prog w = .ok (.int .u8 (b k : Nat)) w :=
  index_any _ 5 136 _ k _ hk (Bc_get 136 b k hk) und71 (fun w => by kernel_rfl) (fun w => by kernel_rfl) w
theorem ix42 (f : Nat → Ln) (k : Nat) (hk : k < 17) (w : World) : (Instr.index 36 (.agg (Fc 17 f)) (.int .i64 k)).run Try.prog w = .ok (uv (f k)) w :=
  index_any _ 27 17 _ k _ hk (Fc_get 17 f k hk) und42 (fun w => by kernel_rfl) (fun w => by kernel_rfl) w
/-- Numbers of bytes, the first k of which are laid on. -/
def blP (b : Nat → Nat) : Nat → Nat → Ln
  | 0 => fun _ => 0#64
  | k + 1 => upd (blP b k) (k / 8) (blP b k (k / 8) ||| BitVec.ofNat 64 (b k * 2 ^ (k % 8 * 8)))
theorem z17 : Fc 17 (fun _ => 0#64) = #[.int .u64 0, .int .u64 0, .int .u64 0, .int .u64 0, .int .u64 0, .int .u64 0, .int .u64 0, .int .u64 0, .int .u64 0, .int .u64 0, .int .u64 0, .int .u64 0, .int .u64 0, .int .u64 0, .int .u64 0, .int .u64 0, .int .u64 0] := by kernel_rfl
attribute [local go_sem] uv_or
set_option maxRecDepth 100000 in
set_option maxHeartbeats 4000000 in
theorem dread_any (b : Nat → Nat) (hb : ∀ k, k < 136 → b k < 256) (w : World) :
    Calls Try.prog 32 #[.agg (Bc 136 b)] w fun e w' => e = .returned (.agg (Fc 17 (blP b 136))) ∧ Below w.heap.size w w' := by
  have HBB := Lib.hid hb
  clear hb
  go_enter Try.func32, Try.ntmps32
  go_upto_region 2 with fail
  rw [← z17]
  have hA : Blk (((w.alloc (.cells (Bc 136 b) 66)).alloc (.cells (Fc 17 (fun _ => 0#64)) 36)).alloc (.cells (Fc 17 (fun _ => 0#64)) 36)) w.heap.size 66 (Bc 136 b) := ((Blk.new w _ _).alloc _).alloc _
  have hR : Blk (((w.alloc (.cells (Bc 136 b) 66)).alloc (.cells (Fc 17 (fun _ => 0#64)) 36)).alloc (.cells (Fc 17 (fun _ => 0#64)) 36)) (w.heap.size + 1) 36 (Fc 17 (fun _ => 0#64)) := (Blk.newS w _ _ _).alloc _
  have hL : Blk (((w.alloc (.cells (Bc 136 b) 66)).alloc (.cells (Fc 17 (fun _ => 0#64)) 36)).alloc (.cells (Fc 17 (fun _ => 0#64)) 36)) (w.heap.size + 1 + 1) 36 (Fc 17 (fun _ => 0#64)) := by
    have h := Blk.newS (w.alloc (.cells (Bc 136 b) 66)) (.cells (Fc 17 (fun _ => 0#64)) 36) 36 (Fc 17 (fun _ => 0#64))
    rwa [World.size_alloc] at h
  have hW := balloc (balloc (balloc (Below.refl w.heap.size w) (.cells (Bc 136 b) 66)) (.cells (Fc 17 (fun _ => 0#64)) 36)) (.cells (Fc 17 (fun _ => 0#64)) 36)
  obtain ⟨w1, hw1⟩ : ∃ w1, ((w.alloc (.cells (Bc 136 b) 66)).alloc (.cells (Fc 17 (fun _ => 0#64)) 36)).alloc (.cells (Fc 17 (fun _ => 0#64)) 36) = w1 := ⟨_, rfl⟩
  rw [hw1] at hA hR hL hW ⊢
  have HX := Lib.hid (And.intro hL (And.intro hR hW))
  refine wp_region_lit (wpList_load_mid rfl 66 (.tmp 1) rfl w.heap.size 0 rfl (Bc 136 b).toList _ hA.rangeAt und71 rfl (by rw [info71]; show some 136 = some (Bc 136 b).size; rw [Bc_size]) ?_)
  rw [Array.toArray_toList]
  clear hA hR hL hW hw1
  go_wp2_with fail
  go_loopw [7] (fun i wr => ∃ k : Nat, k ≤ 136 ∧ i = .int .i64 (k : Int) ∧ Blk wr (w.heap.size + 1 + 1) 36 (Fc 17 (blP b k)) ∧ Blk wr (w.heap.size + 1) 36 (Fc 17 (fun _ => 0#64)) ∧ Below w.heap.size w wr) (fun i _ => 136 - (intOf i).toNat)
  case atStart => exact ⟨0, by omega, rfl, HX.out⟩
  case round =>
    clear HX
    obtain ⟨k, hk, rfl, hL, hR, hW⟩ := hrel
    by_cases hlt : k < 136
    · have hbk := HBB.out k hlt
      have hix := ix71 b k hlt wr
      have hstep : blP b (k + 1) = upd (blP b k) (k / 8) (blP b k (k / 8) ||| BitVec.ofNat 64 (b k * 2 ^ (k % 8 * 8))) := rfl
      obtain ⟨q, hq⟩ : ∃ q, k / 8 = q := ⟨_, rfl⟩
      obtain ⟨s, hs⟩ : ∃ s, k % 8 * 8 = s := ⟨_, rfl⟩
      obtain ⟨r, hr⟩ : ∃ r, k % 8 = r := ⟨_, rfl⟩
      rw [hq, hs] at hstep
      have hq2 : q < 17 := by omega
      have hs2 : s < 64 := by omega
      have hpb : b k * 2 ^ s < 18446744073709551616 := by
        have h1 : (2 : Nat) ^ s ≤ 2 ^ 56 := Nat.pow_le_pow_right (by omega) (by omega)
        have h2 : b k * 2 ^ s ≤ 255 * 2 ^ 56 := Nat.mul_le_mul (by omega) h1
        omega
      obtain ⟨v, hv⟩ : ∃ v, b k = v := ⟨_, rfl⟩
      rw [hv] at hbk hix hstep hpb
      have d1 : (k : Int).tdiv 8 = (q : Int) := by rw [← hq]; rfl
      have d2 : (k : Int).tmod 8 = (r : Int) := by rw [← hr]; rfl
      have d3 : IntKind.i64.wrap (q : Int) = (q : Int) := IntWalk.i64_in _ (by omega)
      have d4 : IntKind.i64.wrap ((r : Int) * 8) = (s : Int) := by rw [show (r : Int) * 8 = (s : Int) by omega]; exact IntWalk.i64_in _ (by omega)
      have d5 : IntKind.u64.wrap (v : Int) = (v : Int) := IntWalk.u64_in _ (by omega)
      have d6 : IntKind.u64.wrap ((v : Int) * 2 ^ s) = ln (BitVec.ofNat 64 (v * 2 ^ s)) := by
        rw [ln_of _ hpb, show (v : Int) * 2 ^ s = ((v * 2 ^ s : Nat) : Int) by simp]; exact IntWalk.u64_in _ (by omega)
      have d7 : (q : Int) < 17 := by omega
      have d8 : (s : Int) < 64 := by omega
      have hC := (cell_of_row _ _ q _ _ _ hL).trans (Fc_get 17 _ q hq2)
      have hF := frozen_of_row _ _ q _ _ hL
      have HX := Lib.hid (And.intro hL (And.intro hR hW))
      have HS := Lib.hid hstep
      clear hL hR hW hstep hq hs hr hv hpb hq2
      go_wp2_with fail
      refine region_tail 12 (by kernel_rfl) (by kernel_rfl) (fun wd hwd => ?_)
      simp only [List.take_succ_cons, List.take_zero, List.drop_succ_cons, List.drop_zero]
      have HY : Hid (Blk wd (w.heap.size + 1 + 1) 36 (Fc 17 (blP b k)) ∧ Blk wd (w.heap.size + 1) 36 (Fc 17 (fun _ => 0#64)) ∧ Below w.heap.size w wd) := Lib.hid (by rw [hwd]; exact ⟨HX.out.1, HX.out.2.1, below_drew' HX.out.2.2⟩)
      have hC2 : wd.cell? ⟨w.heap.size + 1 + 1, q, none⟩ = some (uv (blP b k q)) := by rw [hwd]; exact hC
      have hF2 : wd.frozen? ⟨w.heap.size + 1 + 1, q, none⟩ = false := by rw [hwd]; exact hF
      clear hwd HX hC hF hix
      repeat still_step
      refine wpStill_nil ?_
      go_wp2_with fail
      have hS := heap_setCell_same wd (w.heap.size + 1 + 1) q _ _ (uv (blP b k q ||| BitVec.ofNat 64 (v * 2 ^ s))) HY.out.1
      rw [Fc_set _ _ _ _ (by omega), ← HS.out] at hS
      have hG := grown_set' (grown_refl wd (w.heap.size + 1 + 1)) q (uv (blP b k q ||| BitVec.ofNat 64 (v * 2 ^ s)))
      exact ⟨⟨k + 1, by omega, by go_num, hS, HY.out.2.1.kept hG (fun e => by injection e; omega), step_world HY.out.2.2 hG (Nat.le_refl _) (by omega)⟩, by simp [intOf]; omega⟩
    · obtain rfl : k = 136 := by omega
      obtain ⟨res, hres⟩ : ∃ res, blP b 136 = res := ⟨_, rfl⟩
      rw [hres] at hL
      have HN := Lib.hid hres
      have hi : (Try.prog.info? 36).map (·.size) = some (Fc 17 res).size := by rw [info42, Fc_size]
      have ht : wr.there (w.heap.size + 1) 0 (Fc 17 res).size := hR.there _ (by rw [Fc_size, Fc_size]; exact Nat.le_refl _)
      have hr : (loadVar 36 ⟨w.heap.size + 1, 0, none⟩).run Try.prog (wr.setCells (w.heap.size + 1) 0 (Fc 17 res).toList) = .ok (.agg (Fc 17 res)) (wr.setCells (w.heap.size + 1) 0 (Fc 17 res).toList) :=
        run_loadVar_mid _ _ _ _ (Fc 17 res).toList _ (World.rangeAt_setCells_same _ _ _ _ ht) und42 rfl hi
      have hB' := below_setCells' (B := w.heap.size) (b := w.heap.size + 1) (by omega) (Fc 17 res).toList 0 wr hW
      have HL := Lib.hid hL
      have HI := Lib.hid hi
      have HRR := Lib.hid (And.intro hr hB')
      have HT := Lib.hid ht
      clear hL hR hW hi hr hB' ht hres
      go_upto_region 7 with fail
      refine wp_region_lit (wpList_load_mid rfl 36 (.tmp 3) rfl (w.heap.size + 1 + 1) 0 rfl (Fc 17 res).toList _ HL.out.rangeAt und42 rfl HI.out ?_)
      refine wpList_store_mid rfl 36 (.tmp 2) (.tmp 24) rfl (w.heap.size + 1) 0 (Fc 17 res) rfl rfl HT.out HI.out (Fc_one _ _) (wpList_nil ?_)
      obtain ⟨hr, hB'⟩ := HRR.out
      generalize wr.setCells (w.heap.size + 1) 0 (Fc 17 res).toList = wz at *
      go_wp2_with fail
      exact bodyPost_ret (v := .agg (Fc 17 res)) (by simp [results, Try.results32, Act.put, asAddr, hr]) rfl ⟨by rw [HN.out], hB'⟩
end Go.Proofs.Ytfknfopdinkmkaa
