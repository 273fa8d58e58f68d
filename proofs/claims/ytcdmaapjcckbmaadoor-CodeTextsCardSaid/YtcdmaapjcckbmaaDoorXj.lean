/- code: the reference's Info. -/
import Derived.Test.YtcdmaapjcckbmaaDoorXg
import Derived.Test.YtcdmaapjcckbmaaDoorXh
import Derived.Test.YtcdmaapjcckbmaaDoorXi
import Derived.Test.YtcdmaapjcckbmaaDoorXk
import Derived.Laws.IdiomStrings
namespace Go.Proofs.YtcdmaapjcckbmaaDoor
open Go.RowKit Go.Shelf

theorem conv1 (c : UInt8) (w : World) : (convert 32 9 (.slice (some ⟨w.heap.size, 0, none⟩) 1 1)).run Tryd.prog (w.alloc (.cells #[.int .u8 c.toNat] 5)) = .ok (.string ⟨#[c]⟩) (w.alloc (.cells #[.int .u8 c.toNat] 5)) := by
  exact run_convert_bytes_back (P := Tryd.prog) (w.alloc (.cells #[.int .u8 c.toNat] 5)) 32 9 5 ⟨w.heap.size, 0, none⟩ 1 [c] (by kernel_rfl) (by kernel_rfl) (by kernel_rfl) (fun j hj => by
    have e : j = 0 := by simpa using hj
    subst e
    exact cell_of_row _ _ 0 _ _ _ (Blk.new w 5 #[.int .u8 c.toNat]))
theorem conv10 (n : Nat) (hn : n < 10) (w : World) : (convert 32 9 (.slice (some ⟨w.heap.size, 0, none⟩) 1 1)).run Tryd.prog (w.alloc (.cells #[.int .u8 (48 + (n : Int))] 5)) = .ok (.string ⟨#[UInt8.ofNat (48 + n)]⟩) (w.alloc (.cells #[.int .u8 (48 + (n : Int))] 5)) := by
  have h := conv1 (UInt8.ofNat (48 + n)) w
  rw [show ((UInt8.ofNat (48 + n)).toNat : Int) = 48 + (n : Int) by simp [UInt8.toNat_ofNat']; omega] at h
  exact h
set_option maxRecDepth 100000 in
set_option maxHeartbeats 1000000 in
theorem rnumber_any (k : Nat) (hk : k < 64) (w : World) :
    Calls Tryd.prog 32 #[.int .u64 (k : Nat)] w fun e w' => e = .returned (.string ⟨(dec k).toArray⟩) ∧ Below w.heap.size w w' := by
  have m1 : (k : Int) % 10 = ((k % 10 : Nat) : Int) := by omega
  have q1 : (k : Int) / 10 = ((k / 10 : Nat) : Int) := by omega
  have c1 := conv10 (k % 10) (by omega)
  by_cases h : k < 10
  · have hq : (((k / 10 : Nat) : Int) == 0) = true := by simp; omega
    have HD := Lib.hid (show dec k = [UInt8.ofNat (48 + k % 10)] by unfold dec; rw [if_pos h, Nat.mod_eq_of_lt h])
    have hr : k % 10 < 10 := by omega
    generalize k % 10 = r at *
    generalize k / 10 = q at *
    generalize UInt8.ofNat (48 + r) = c at *
    clear h
    go_enter Tryd.func32, Tryd.ntmps32
    go_wp2
    refine wp_loop_rounds 1 ?_
    rw [rounds_succ]
    go_wp2
    go_ret
    rw [HD.out]
    exact ⟨rfl, balloc (Below.refl _ _) _⟩
  · have hq : (((k / 10 : Nat) : Int) == 0) = false := by simp; omega
    have m2 : ((k / 10 : Nat) : Int) % 10 = ((k / 10 : Nat) : Int) := by omega
    have q2 : ((k / 10 : Nat) : Int) / 10 = 0 := by omega
    have c2 := conv10 (k / 10) (by omega)
    have HD := Lib.hid (show dec k = [UInt8.ofNat (48 + k / 10), UInt8.ofNat (48 + k % 10)] by unfold dec; rw [if_neg h])
    have hr : k % 10 < 10 := by omega
    have hr2 : k / 10 < 10 := by omega
    generalize k % 10 = r at *
    generalize k / 10 = q at *
    generalize UInt8.ofNat (48 + r) = c at *
    generalize UInt8.ofNat (48 + q) = d at *
    have c2' := c2 (w.alloc (.cells #[.int .u8 (48 + (r : Int))] 5))
    rw [World.size_alloc] at c2'
    clear h c2
    go_enter Tryd.func32, Tryd.ntmps32
    go_wp2
    refine wp_loop_rounds 2 ?_
    rw [rounds_succ]
    go_wp2
    rw [rounds_succ]
    go_wp2
    go_ret
    rw [HD.out]
    exact ⟨rfl, balloc (balloc (Below.refl _ _) _) _⟩

/-- An op of no family, by the document: low, else middle, else high. -/
def rlO (n : Nat) : OI := if (lwO n).nm.isEmpty then (if (miO n).nm.isEmpty then hiO n else miO n) else lwO n
theorem fm_lim1 : ∀ n : Fin 256, fmK n.val = 1 → 96 ≤ n.val ∧ n.val ≤ 127 := by decide +kernel
theorem fm_lim2 : ∀ n : Fin 256, fmK n.val = 2 → 128 ≤ n.val ∧ n.val ≤ 143 := by decide +kernel
theorem fm_lim3 : ∀ n : Fin 256, fmK n.val = 3 → 144 ≤ n.val ∧ n.val ≤ 159 := by decide +kernel
theorem fm_lim4 : ∀ n : Fin 256, fmK n.val = 4 → 160 ≤ n.val ∧ n.val ≤ 164 := by decide +kernel
theorem rl_al : ∀ n : Fin 256, fmK n.val = 0 → rlO n.val = alO n.val := by decide +kernel
theorem nm_toList (x : OI) : ((ByteArray.mk x.nm.toArray).toList == []) = x.nm.isEmpty := by cases x.nm <;> simp
set_option maxRecDepth 100000 in
set_option maxHeartbeats 2000000 in
theorem rinfo_fam1 (n : Nat) (N : Nat) (hN : n = N + 95) (hl : 96 ≤ n) (hh : n ≤ 127) (w : World) : Calls Tryd.prog 11 #[.int .u8 n] w fun e w' => e = .returned (.agg #[.string (sPush ++ ⟨(dec N).toArray⟩), .int .i64 0, .int .i64 1, .int .u64 3, .bool true, .int .i64 N]) ∧ Below w.heap.size w w' := by
  have HR := Lib.hid (rnumber_any N (by omega))
  have p1 : (96 : Int) ≤ n := by omega
  have q1 : (n : Int) ≤ 127 := by omega
  have g0 : IntKind.i64.wrap (n : Int) = (n : Int) := IntWalk.i64_in _ (by omega)
  have g1 : IntKind.i64.wrap ((n : Int) - 95) = (N : Int) := by rw [IntWalk.i64_in _ (by omega)]; omega
  have g2 : IntKind.u64.wrap (N : Int) = (N : Int) := IntWalk.u64_in _ (by omega)
  have hz : (ByteArray.mk (dec N).toArray).size ≤ 20 := dec_size N (by omega)
  have hc : ¬ 9223372036854775807 < 4 + (ByteArray.mk (dec N).toArray).size := by omega
  clear hz hN hl hh
  generalize (ByteArray.mk (dec N).toArray) = D at *
  generalize hR : sPush ++ D = R at *
  go_enter Tryd.func11, Tryd.ntmps11
  go_wp2_with (first
    | (go_at_call 32; refine (HR.out _).mono ?_; rintro e w3 ⟨rfl, hw3⟩; have hd := (oi_call hw3).1
       have d0 := cell_of_row w3 _ 0 _ _ _ hd
       have d1 := cell_of_row w3 _ 1 _ _ _ hd
       have d2 := cell_of_row w3 _ 2 _ _ _ hd
       have d3 := cell_of_row w3 _ 3 _ _ _ hd
       have d4 := cell_of_row w3 _ 4 _ _ _ hd
       have d5 := cell_of_row w3 _ 5 _ _ _ hd
       have fd0 := frozen_of_row w3 _ 0 _ _ hd
       have fd1 := frozen_of_row w3 _ 1 _ _ hd
       have fd2 := frozen_of_row w3 _ 2 _ _ hd
       have fd3 := frozen_of_row w3 _ 3 _ _ hd
       have fd4 := frozen_of_row w3 _ 4 _ _ hd
       have fd5 := frozen_of_row w3 _ 5 _ _ hd
       have H3 := Lib.hid (oi_call hw3); clear hd hw3)
    | fail)
  (try simp only [Exit.inBlock, Exit.then])
  refine bodyPost_ret (ret_oi rfl rfl (Blk.set6 H3.out.1 _ _ _ _ _ _) rfl) rfl ?_
  exact ⟨rfl, below_set6 H3.out.2 (Nat.le_refl _) _ _ _ _ _ _⟩
set_option maxRecDepth 100000 in
set_option maxHeartbeats 2000000 in
theorem rinfo_fam2 (n : Nat) (N M : Nat) (hN : n = N + 127) (hM : M = N + 1) (hl : 128 ≤ n) (hh : n ≤ 143) (w : World) : Calls Tryd.prog 11 #[.int .u8 n] w fun e w' => e = .returned (.agg #[.string (sDup ++ ⟨(dec N).toArray⟩), .int .i64 N, .int .i64 M, .int .u64 3, .bool true, .int .i64 0]) ∧ Below w.heap.size w w' := by
  have HR := Lib.hid (rnumber_any N (by omega))
  have p1 : (96 : Int) ≤ n := by omega
  have q1 : ¬ (n : Int) ≤ 127 := by omega
  have p2 : (128 : Int) ≤ n := by omega
  have q2 : (n : Int) ≤ 143 := by omega
  have g0 : IntKind.i64.wrap (n : Int) = (n : Int) := IntWalk.i64_in _ (by omega)
  have g1 : IntKind.i64.wrap ((n : Int) - 127) = (N : Int) := by rw [IntWalk.i64_in _ (by omega)]; omega
  have g2 : IntKind.u64.wrap (N : Int) = (N : Int) := IntWalk.u64_in _ (by omega)
  have g3 : IntKind.i64.wrap ((n : Int) - 126) = (M : Int) := by rw [IntWalk.i64_in _ (by omega)]; omega
  have hz : (ByteArray.mk (dec N).toArray).size ≤ 20 := dec_size N (by omega)
  have hc : ¬ 9223372036854775807 < 3 + (ByteArray.mk (dec N).toArray).size := by omega
  clear hz hN hM hl hh
  generalize (ByteArray.mk (dec N).toArray) = D at *
  generalize hR : sDup ++ D = R at *
  go_enter Tryd.func11, Tryd.ntmps11
  go_wp2_with (first
    | (go_at_call 32; refine (HR.out _).mono ?_; rintro e w3 ⟨rfl, hw3⟩; have hd := (oi_call hw3).1
       have d0 := cell_of_row w3 _ 0 _ _ _ hd
       have d1 := cell_of_row w3 _ 1 _ _ _ hd
       have d2 := cell_of_row w3 _ 2 _ _ _ hd
       have d3 := cell_of_row w3 _ 3 _ _ _ hd
       have d4 := cell_of_row w3 _ 4 _ _ _ hd
       have d5 := cell_of_row w3 _ 5 _ _ _ hd
       have fd0 := frozen_of_row w3 _ 0 _ _ hd
       have fd1 := frozen_of_row w3 _ 1 _ _ hd
       have fd2 := frozen_of_row w3 _ 2 _ _ hd
       have fd3 := frozen_of_row w3 _ 3 _ _ hd
       have fd4 := frozen_of_row w3 _ 4 _ _ hd
       have fd5 := frozen_of_row w3 _ 5 _ _ hd
       have H3 := Lib.hid (oi_call hw3); clear hd hw3)
    | fail)
  (try simp only [Exit.inBlock, Exit.then])
  refine bodyPost_ret (ret_oi rfl rfl (Blk.set6 H3.out.1 _ _ _ _ _ _) rfl) rfl ?_
  exact ⟨rfl, below_set6 H3.out.2 (Nat.le_refl _) _ _ _ _ _ _⟩
set_option maxRecDepth 100000 in
set_option maxHeartbeats 2000000 in
theorem rinfo_fam3 (n : Nat) (N M : Nat) (hN : n = N + 143) (hM : M = N + 1) (hl : 144 ≤ n) (hh : n ≤ 159) (w : World) : Calls Tryd.prog 11 #[.int .u8 n] w fun e w' => e = .returned (.agg #[.string (sSwap ++ ⟨(dec N).toArray⟩), .int .i64 M, .int .i64 M, .int .u64 3, .bool true, .int .i64 0]) ∧ Below w.heap.size w w' := by
  have HR := Lib.hid (rnumber_any N (by omega))
  have p1 : (96 : Int) ≤ n := by omega
  have q1 : ¬ (n : Int) ≤ 127 := by omega
  have p2 : (128 : Int) ≤ n := by omega
  have q2 : ¬ (n : Int) ≤ 143 := by omega
  have p3 : (144 : Int) ≤ n := by omega
  have q3 : (n : Int) ≤ 159 := by omega
  have g0 : IntKind.i64.wrap (n : Int) = (n : Int) := IntWalk.i64_in _ (by omega)
  have g1 : IntKind.i64.wrap ((n : Int) - 143) = (N : Int) := by rw [IntWalk.i64_in _ (by omega)]; omega
  have g2 : IntKind.u64.wrap (N : Int) = (N : Int) := IntWalk.u64_in _ (by omega)
  have g3 : IntKind.i64.wrap ((n : Int) - 142) = (M : Int) := by rw [IntWalk.i64_in _ (by omega)]; omega
  have hz : (ByteArray.mk (dec N).toArray).size ≤ 20 := dec_size N (by omega)
  have hc : ¬ 9223372036854775807 < 4 + (ByteArray.mk (dec N).toArray).size := by omega
  clear hz hN hM hl hh
  generalize (ByteArray.mk (dec N).toArray) = D at *
  generalize hR : sSwap ++ D = R at *
  go_enter Tryd.func11, Tryd.ntmps11
  go_wp2_with (first
    | (go_at_call 32; refine (HR.out _).mono ?_; rintro e w3 ⟨rfl, hw3⟩; have hd := (oi_call hw3).1
       have d0 := cell_of_row w3 _ 0 _ _ _ hd
       have d1 := cell_of_row w3 _ 1 _ _ _ hd
       have d2 := cell_of_row w3 _ 2 _ _ _ hd
       have d3 := cell_of_row w3 _ 3 _ _ _ hd
       have d4 := cell_of_row w3 _ 4 _ _ _ hd
       have d5 := cell_of_row w3 _ 5 _ _ _ hd
       have fd0 := frozen_of_row w3 _ 0 _ _ hd
       have fd1 := frozen_of_row w3 _ 1 _ _ hd
       have fd2 := frozen_of_row w3 _ 2 _ _ hd
       have fd3 := frozen_of_row w3 _ 3 _ _ hd
       have fd4 := frozen_of_row w3 _ 4 _ _ hd
       have fd5 := frozen_of_row w3 _ 5 _ _ hd
       have H3 := Lib.hid (oi_call hw3); clear hd hw3)
    | fail)
  (try simp only [Exit.inBlock, Exit.then])
  refine bodyPost_ret (ret_oi rfl rfl (Blk.set6 H3.out.1 _ _ _ _ _ _) rfl) rfl ?_
  exact ⟨rfl, below_set6 H3.out.2 (Nat.le_refl _) _ _ _ _ _ _⟩
set_option maxRecDepth 100000 in
set_option maxHeartbeats 2000000 in
theorem rinfo_fam4 (n : Nat) (N M G : Nat) (hN : n = N + 160) (hM : M = N + 2) (hG : G = 375 * (N + 1)) (hh : n ≤ 164) (w : World) : Calls Tryd.prog 11 #[.int .u8 n] w fun e w' => e = .returned (.agg #[.string (sLog ++ ⟨(dec N).toArray⟩), .int .i64 M, .int .i64 0, .int .u64 G, .bool false, .int .i64 0]) ∧ Below w.heap.size w w' := by
  have HR := Lib.hid (rnumber_any N (by omega))
  have p1 : (96 : Int) ≤ n := by omega
  have q1 : ¬ (n : Int) ≤ 127 := by omega
  have p2 : (128 : Int) ≤ n := by omega
  have q2 : ¬ (n : Int) ≤ 143 := by omega
  have p3 : (144 : Int) ≤ n := by omega
  have q3 : ¬ (n : Int) ≤ 159 := by omega
  have p4 : (160 : Int) ≤ n := by omega
  have q4 : (n : Int) ≤ 164 := by omega
  have g0 : IntKind.i64.wrap (n : Int) = (n : Int) := IntWalk.i64_in _ (by omega)
  have g1 : IntKind.i64.wrap ((n : Int) - 160) = (N : Int) := by rw [IntWalk.i64_in _ (by omega)]; omega
  have g2 : IntKind.u64.wrap (N : Int) = (N : Int) := IntWalk.u64_in _ (by omega)
  have g3 : IntKind.i64.wrap ((n : Int) - 158) = (M : Int) := by rw [IntWalk.i64_in _ (by omega)]; omega
  obtain ⟨M1, hM1⟩ : ∃ M1 : Nat, M1 = N + 1 := ⟨_, rfl⟩
  have g4 : IntKind.i64.wrap ((n : Int) - 159) = (M1 : Int) := by rw [IntWalk.i64_in _ (by omega)]; omega
  have g5 : IntKind.u64.wrap (M1 : Int) = (M1 : Int) := IntWalk.u64_in _ (by omega)
  have g6 : IntKind.u64.wrap (375 * (M1 : Int)) = (G : Int) := by rw [IntWalk.u64_in _ (by omega)]; omega
  clear hM1
  have hz : (ByteArray.mk (dec N).toArray).size ≤ 20 := dec_size N (by omega)
  have hc : ¬ 9223372036854775807 < 3 + (ByteArray.mk (dec N).toArray).size := by omega
  clear hz hN hM hG hh
  generalize (ByteArray.mk (dec N).toArray) = D at *
  generalize hR : sLog ++ D = R at *
  go_enter Tryd.func11, Tryd.ntmps11
  go_wp2_with (first
    | (go_at_call 32; refine (HR.out _).mono ?_; rintro e w3 ⟨rfl, hw3⟩; have hd := (oi_call hw3).1
       have d0 := cell_of_row w3 _ 0 _ _ _ hd
       have d1 := cell_of_row w3 _ 1 _ _ _ hd
       have d2 := cell_of_row w3 _ 2 _ _ _ hd
       have d3 := cell_of_row w3 _ 3 _ _ _ hd
       have d4 := cell_of_row w3 _ 4 _ _ _ hd
       have d5 := cell_of_row w3 _ 5 _ _ _ hd
       have fd0 := frozen_of_row w3 _ 0 _ _ hd
       have fd1 := frozen_of_row w3 _ 1 _ _ hd
       have fd2 := frozen_of_row w3 _ 2 _ _ hd
       have fd3 := frozen_of_row w3 _ 3 _ _ hd
       have fd4 := frozen_of_row w3 _ 4 _ _ hd
       have fd5 := frozen_of_row w3 _ 5 _ _ hd
       have H3 := Lib.hid (oi_call hw3); clear hd hw3)
    | fail)
  (try simp only [Exit.inBlock, Exit.then])
  refine bodyPost_ret (ret_oi rfl rfl (Blk.set6 H3.out.1 _ _ _ _ _ _) rfl) rfl ?_
  exact ⟨rfl, below_set6 H3.out.2 (Nat.le_refl _) _ _ _ _ _ _⟩
theorem old_cells {w w0 w1 : World} {ds : Array Value} (hw : Below (w.alloc (.cells ds 25)).heap.size (w.alloc (.cells ds 25)) w0) {o : Obj} (he : w0.alloc o = w1) : Blk w1 w.heap.size 25 ds ∧ Below w.heap.size w w1 := by
  subst he
  have h1 : Blk w0 w.heap.size 25 ds := Blk.keep (Blk.new w _ _) hw
  exact ⟨h1.alloc _, balloc (bstep (balloc (Below.refl _ w) _) hw) _⟩
theorem step_cells {w w1 w2 w3 : World} {ds : Array Value} (h : Blk w1 w.heap.size 25 ds ∧ Below w.heap.size w w1) (hw : Below w1.heap.size w1 w2) {o : Obj} (he : w2.alloc o = w3) : Blk w3 w.heap.size 25 ds ∧ Below w.heap.size w w3 := by
  subst he
  exact ⟨(Blk.keep h.1 hw).alloc _, balloc (bstep h.2 hw) _⟩
set_option maxRecDepth 100000 in
set_option maxHeartbeats 2000000 in
theorem rinfo_A1 (n : Nat) (hn : n < 96) (h1 : (lwO n).nm.isEmpty = false) (w : World) : Calls Tryd.prog 11 #[.int .u8 n] w fun e w' => e = .returned (.agg (oiC (lwO n))) ∧ Below w.heap.size w w' := by
  have H1 := Lib.hid (low_any n)
  have q0 : IntKind.i64.wrap (n : Int) = (n : Int) := IntWalk.i64_in _ (by omega)
  have p1 : ¬ (96 : Int) ≤ n := by omega
  have p2 : ¬ (128 : Int) ≤ n := by omega
  have p3 : ¬ (144 : Int) ≤ n := by omega
  have p4 : ¬ (160 : Int) ≤ n := by omega
  have hq1 := nm_toList (lwO n)
  rw [h1] at hq1
  clear h1 hn
  generalize lwO n = X1 at *
  simp only [oiC] at H1 ⊢
  generalize (ByteArray.mk X1.nm.toArray) = x1 at *
  go_enter Tryd.func11, Tryd.ntmps11
  go_upto_region 11 with (first
    | (go_at_call 33; refine (H1.out _).mono ?_; rintro e w0 ⟨rfl, hw⟩; have HW := Lib.hid hw; clear hw)
    | fail)
  obtain ⟨w1, he⟩ : ∃ w1, w0.alloc (.cells #[.string x1, .int .i64 X1.i, .int .i64 X1.o, .int .u64 X1.g, .bool X1.q, .int .i64 X1.z] 25) = w1 := ⟨_, rfl⟩
  rw [he]
  have hd : Blk w1 w0.heap.size 25 #[.string x1, .int .i64 X1.i, .int .i64 X1.o, .int .u64 X1.g, .bool X1.q, .int .i64 X1.z] := by rw [← he]; exact Blk.new w0 _ _
  have HH := Lib.hid (old_cells HW.out he)
  clear HW he
  have d0 := cell_of_row w1 _ 0 _ _ _ hd
  have d1 := cell_of_row w1 _ 1 _ _ _ hd
  have d2 := cell_of_row w1 _ 2 _ _ _ hd
  have d3 := cell_of_row w1 _ 3 _ _ _ hd
  have d4 := cell_of_row w1 _ 4 _ _ _ hd
  have d5 := cell_of_row w1 _ 5 _ _ _ hd
  have hb := HH.out.1
  have c0 := cell_of_row w1 _ 0 _ _ _ hb
  have c1 := cell_of_row w1 _ 1 _ _ _ hb
  have c2 := cell_of_row w1 _ 2 _ _ _ hb
  have c3 := cell_of_row w1 _ 3 _ _ _ hb
  have c4 := cell_of_row w1 _ 4 _ _ _ hb
  have c5 := cell_of_row w1 _ 5 _ _ _ hb
  have fc0 := frozen_of_row w1 _ 0 _ _ hb
  have fc1 := frozen_of_row w1 _ 1 _ _ hb
  have fc2 := frozen_of_row w1 _ 2 _ _ hb
  have fc3 := frozen_of_row w1 _ 3 _ _ hb
  have fc4 := frozen_of_row w1 _ 4 _ _ hb
  have fc5 := frozen_of_row w1 _ 5 _ _ hb
  clear hb hd
  go_wp2_with fail
  (try simp only [Exit.inBlock, Exit.then])
  refine bodyPost_ret (ret_oi rfl rfl (Blk.set6 HH.out.1 _ _ _ _ _ _) rfl) rfl ?_
  exact ⟨rfl, below_set6 HH.out.2 (Nat.le_refl _) _ _ _ _ _ _⟩
set_option maxRecDepth 100000 in
set_option maxHeartbeats 2000000 in
theorem rinfo_A2 (n : Nat) (hn : n < 96) (h1 : (lwO n).nm.isEmpty = true) (h2 : (miO n).nm.isEmpty = false) (w : World) : Calls Tryd.prog 11 #[.int .u8 n] w fun e w' => e = .returned (.agg (oiC (miO n))) ∧ Below w.heap.size w w' := by
  have H1 := Lib.hid (low_any n)
  have q0 : IntKind.i64.wrap (n : Int) = (n : Int) := IntWalk.i64_in _ (by omega)
  have p1 : ¬ (96 : Int) ≤ n := by omega
  have p2 : ¬ (128 : Int) ≤ n := by omega
  have p3 : ¬ (144 : Int) ≤ n := by omega
  have p4 : ¬ (160 : Int) ≤ n := by omega
  have hq1 := nm_toList (lwO n)
  rw [h1] at hq1
  clear h1 hn
  generalize lwO n = X1 at *
  simp only [oiC] at H1 ⊢
  generalize (ByteArray.mk X1.nm.toArray) = x1 at *
  have H2 := Lib.hid (middle_any n)
  have hq2 := nm_toList (miO n)
  rw [h2] at hq2
  clear h2
  generalize miO n = X2 at *
  simp only [oiC] at H2
  generalize (ByteArray.mk X2.nm.toArray) = x2 at *
  go_enter Tryd.func11, Tryd.ntmps11
  go_upto_region 11 with (first
    | (go_at_call 33; refine (H1.out _).mono ?_; rintro e w0 ⟨rfl, hw⟩; have HW := Lib.hid hw; clear hw)
    | fail)
  obtain ⟨w1, he⟩ : ∃ w1, w0.alloc (.cells #[.string x1, .int .i64 X1.i, .int .i64 X1.o, .int .u64 X1.g, .bool X1.q, .int .i64 X1.z] 25) = w1 := ⟨_, rfl⟩
  rw [he]
  have hd : Blk w1 w0.heap.size 25 #[.string x1, .int .i64 X1.i, .int .i64 X1.o, .int .u64 X1.g, .bool X1.q, .int .i64 X1.z] := by rw [← he]; exact Blk.new w0 _ _
  have HH := Lib.hid (old_cells HW.out he)
  clear HW he
  have d0 := cell_of_row w1 _ 0 _ _ _ hd
  clear hd
  go_upto_region 14 with (first
    | (go_at_call 34; refine (H2.out _).mono ?_; rintro e w2 ⟨rfl, hw⟩; have HW := Lib.hid hw; clear hw)
    | fail)
  obtain ⟨w3, he⟩ : ∃ w3, w2.alloc (.cells #[.string x2, .int .i64 X2.i, .int .i64 X2.o, .int .u64 X2.g, .bool X2.q, .int .i64 X2.z] 25) = w3 := ⟨_, rfl⟩
  rw [he]
  have hd : Blk w3 w2.heap.size 25 #[.string x2, .int .i64 X2.i, .int .i64 X2.o, .int .u64 X2.g, .bool X2.q, .int .i64 X2.z] := by rw [← he]; exact Blk.new w2 _ _
  have HH2 := Lib.hid (step_cells HH.out HW.out he)
  clear HW he HH d0
  have d0 := cell_of_row w3 _ 0 _ _ _ hd
  have d1 := cell_of_row w3 _ 1 _ _ _ hd
  have d2 := cell_of_row w3 _ 2 _ _ _ hd
  have d3 := cell_of_row w3 _ 3 _ _ _ hd
  have d4 := cell_of_row w3 _ 4 _ _ _ hd
  have d5 := cell_of_row w3 _ 5 _ _ _ hd
  have hb := HH2.out.1
  have c0 := cell_of_row w3 _ 0 _ _ _ hb
  have c1 := cell_of_row w3 _ 1 _ _ _ hb
  have c2 := cell_of_row w3 _ 2 _ _ _ hb
  have c3 := cell_of_row w3 _ 3 _ _ _ hb
  have c4 := cell_of_row w3 _ 4 _ _ _ hb
  have c5 := cell_of_row w3 _ 5 _ _ _ hb
  have fc0 := frozen_of_row w3 _ 0 _ _ hb
  have fc1 := frozen_of_row w3 _ 1 _ _ hb
  have fc2 := frozen_of_row w3 _ 2 _ _ hb
  have fc3 := frozen_of_row w3 _ 3 _ _ hb
  have fc4 := frozen_of_row w3 _ 4 _ _ hb
  have fc5 := frozen_of_row w3 _ 5 _ _ hb
  clear hb hd
  go_wp2_with fail
  (try simp only [Exit.inBlock, Exit.then])
  refine bodyPost_ret (ret_oi rfl rfl (Blk.set6 HH2.out.1 _ _ _ _ _ _) rfl) rfl ?_
  exact ⟨rfl, below_set6 HH2.out.2 (Nat.le_refl _) _ _ _ _ _ _⟩
set_option maxRecDepth 100000 in
set_option maxHeartbeats 2000000 in
theorem rinfo_A3 (n : Nat) (hn : n < 96) (h1 : (lwO n).nm.isEmpty = true) (h2 : (miO n).nm.isEmpty = true) (w : World) : Calls Tryd.prog 11 #[.int .u8 n] w fun e w' => e = .returned (.agg (oiC (hiO n))) ∧ Below w.heap.size w w' := by
  have H1 := Lib.hid (low_any n)
  have q0 : IntKind.i64.wrap (n : Int) = (n : Int) := IntWalk.i64_in _ (by omega)
  have p1 : ¬ (96 : Int) ≤ n := by omega
  have p2 : ¬ (128 : Int) ≤ n := by omega
  have p3 : ¬ (144 : Int) ≤ n := by omega
  have p4 : ¬ (160 : Int) ≤ n := by omega
  have hq1 := nm_toList (lwO n)
  rw [h1] at hq1
  clear h1 hn
  generalize lwO n = X1 at *
  simp only [oiC] at H1 ⊢
  generalize (ByteArray.mk X1.nm.toArray) = x1 at *
  have H2 := Lib.hid (middle_any n)
  have hq2 := nm_toList (miO n)
  rw [h2] at hq2
  clear h2
  generalize miO n = X2 at *
  simp only [oiC] at H2
  generalize (ByteArray.mk X2.nm.toArray) = x2 at *
  have H3 := Lib.hid (high_any n)
  generalize hiO n = X3 at *
  simp only [oiC] at H3
  generalize (ByteArray.mk X3.nm.toArray) = x3 at *
  go_enter Tryd.func11, Tryd.ntmps11
  go_upto_region 11 with (first
    | (go_at_call 33; refine (H1.out _).mono ?_; rintro e w0 ⟨rfl, hw⟩; have HW := Lib.hid hw; clear hw)
    | fail)
  obtain ⟨w1, he⟩ : ∃ w1, w0.alloc (.cells #[.string x1, .int .i64 X1.i, .int .i64 X1.o, .int .u64 X1.g, .bool X1.q, .int .i64 X1.z] 25) = w1 := ⟨_, rfl⟩
  rw [he]
  have hd : Blk w1 w0.heap.size 25 #[.string x1, .int .i64 X1.i, .int .i64 X1.o, .int .u64 X1.g, .bool X1.q, .int .i64 X1.z] := by rw [← he]; exact Blk.new w0 _ _
  have HH := Lib.hid (old_cells HW.out he)
  clear HW he
  have d0 := cell_of_row w1 _ 0 _ _ _ hd
  clear hd
  go_upto_region 14 with (first
    | (go_at_call 34; refine (H2.out _).mono ?_; rintro e w2 ⟨rfl, hw⟩; have HW := Lib.hid hw; clear hw)
    | fail)
  obtain ⟨w3, he⟩ : ∃ w3, w2.alloc (.cells #[.string x2, .int .i64 X2.i, .int .i64 X2.o, .int .u64 X2.g, .bool X2.q, .int .i64 X2.z] 25) = w3 := ⟨_, rfl⟩
  rw [he]
  have hd : Blk w3 w2.heap.size 25 #[.string x2, .int .i64 X2.i, .int .i64 X2.o, .int .u64 X2.g, .bool X2.q, .int .i64 X2.z] := by rw [← he]; exact Blk.new w2 _ _
  have HH2 := Lib.hid (step_cells HH.out HW.out he)
  clear HW he HH d0
  have d0 := cell_of_row w3 _ 0 _ _ _ hd
  clear hd
  go_wp2_with (first
    | (go_at_call 35; refine (H3.out _).mono ?_; rintro e w4 ⟨rfl, hw⟩; have hb := Blk.keep HH2.out.1 hw
       have c0 := cell_of_row w4 _ 0 _ _ _ hb
       have c1 := cell_of_row w4 _ 1 _ _ _ hb
       have c2 := cell_of_row w4 _ 2 _ _ _ hb
       have c3 := cell_of_row w4 _ 3 _ _ _ hb
       have c4 := cell_of_row w4 _ 4 _ _ _ hb
       have c5 := cell_of_row w4 _ 5 _ _ _ hb
       have fc0 := frozen_of_row w4 _ 0 _ _ hb
       have fc1 := frozen_of_row w4 _ 1 _ _ hb
       have fc2 := frozen_of_row w4 _ 2 _ _ hb
       have fc3 := frozen_of_row w4 _ 3 _ _ hb
       have fc4 := frozen_of_row w4 _ 4 _ _ hb
       have fc5 := frozen_of_row w4 _ 5 _ _ hb
       have HW := Lib.hid (And.intro hb (bstep HH2.out.2 hw)); clear hw hb)
    | fail)
  (try simp only [Exit.inBlock, Exit.then])
  refine bodyPost_ret (ret_oi rfl rfl (Blk.set6 HW.out.1 _ _ _ _ _ _) rfl) rfl ?_
  exact ⟨rfl, below_set6 HW.out.2 (Nat.le_refl _) _ _ _ _ _ _⟩
set_option maxRecDepth 100000 in
set_option maxHeartbeats 2000000 in
theorem rinfo_B1 (n : Nat) (hm : 164 < n) (hn : n < 256) (h1 : (lwO n).nm.isEmpty = false) (w : World) : Calls Tryd.prog 11 #[.int .u8 n] w fun e w' => e = .returned (.agg (oiC (lwO n))) ∧ Below w.heap.size w w' := by
  have H1 := Lib.hid (low_any n)
  have q0 : IntKind.i64.wrap (n : Int) = (n : Int) := IntWalk.i64_in _ (by omega)
  have p1 : (96 : Int) ≤ n := by omega
  have q1 : ¬ (n : Int) ≤ 127 := by omega
  have p2 : (128 : Int) ≤ n := by omega
  have q2 : ¬ (n : Int) ≤ 143 := by omega
  have p3 : (144 : Int) ≤ n := by omega
  have q3 : ¬ (n : Int) ≤ 159 := by omega
  have p4 : (160 : Int) ≤ n := by omega
  have q4 : ¬ (n : Int) ≤ 164 := by omega
  have hq1 := nm_toList (lwO n)
  rw [h1] at hq1
  clear h1 hn hm
  generalize lwO n = X1 at *
  simp only [oiC] at H1 ⊢
  generalize (ByteArray.mk X1.nm.toArray) = x1 at *
  go_enter Tryd.func11, Tryd.ntmps11
  go_upto_region 11 with (first
    | (go_at_call 33; refine (H1.out _).mono ?_; rintro e w0 ⟨rfl, hw⟩; have HW := Lib.hid hw; clear hw)
    | fail)
  obtain ⟨w1, he⟩ : ∃ w1, w0.alloc (.cells #[.string x1, .int .i64 X1.i, .int .i64 X1.o, .int .u64 X1.g, .bool X1.q, .int .i64 X1.z] 25) = w1 := ⟨_, rfl⟩
  rw [he]
  have hd : Blk w1 w0.heap.size 25 #[.string x1, .int .i64 X1.i, .int .i64 X1.o, .int .u64 X1.g, .bool X1.q, .int .i64 X1.z] := by rw [← he]; exact Blk.new w0 _ _
  have HH := Lib.hid (old_cells HW.out he)
  clear HW he
  have d0 := cell_of_row w1 _ 0 _ _ _ hd
  have d1 := cell_of_row w1 _ 1 _ _ _ hd
  have d2 := cell_of_row w1 _ 2 _ _ _ hd
  have d3 := cell_of_row w1 _ 3 _ _ _ hd
  have d4 := cell_of_row w1 _ 4 _ _ _ hd
  have d5 := cell_of_row w1 _ 5 _ _ _ hd
  have hb := HH.out.1
  have c0 := cell_of_row w1 _ 0 _ _ _ hb
  have c1 := cell_of_row w1 _ 1 _ _ _ hb
  have c2 := cell_of_row w1 _ 2 _ _ _ hb
  have c3 := cell_of_row w1 _ 3 _ _ _ hb
  have c4 := cell_of_row w1 _ 4 _ _ _ hb
  have c5 := cell_of_row w1 _ 5 _ _ _ hb
  have fc0 := frozen_of_row w1 _ 0 _ _ hb
  have fc1 := frozen_of_row w1 _ 1 _ _ hb
  have fc2 := frozen_of_row w1 _ 2 _ _ hb
  have fc3 := frozen_of_row w1 _ 3 _ _ hb
  have fc4 := frozen_of_row w1 _ 4 _ _ hb
  have fc5 := frozen_of_row w1 _ 5 _ _ hb
  clear hb hd
  go_wp2_with fail
  (try simp only [Exit.inBlock, Exit.then])
  refine bodyPost_ret (ret_oi rfl rfl (Blk.set6 HH.out.1 _ _ _ _ _ _) rfl) rfl ?_
  exact ⟨rfl, below_set6 HH.out.2 (Nat.le_refl _) _ _ _ _ _ _⟩
set_option maxRecDepth 100000 in
set_option maxHeartbeats 2000000 in
theorem rinfo_B2 (n : Nat) (hm : 164 < n) (hn : n < 256) (h1 : (lwO n).nm.isEmpty = true) (h2 : (miO n).nm.isEmpty = false) (w : World) : Calls Tryd.prog 11 #[.int .u8 n] w fun e w' => e = .returned (.agg (oiC (miO n))) ∧ Below w.heap.size w w' := by
  have H1 := Lib.hid (low_any n)
  have q0 : IntKind.i64.wrap (n : Int) = (n : Int) := IntWalk.i64_in _ (by omega)
  have p1 : (96 : Int) ≤ n := by omega
  have q1 : ¬ (n : Int) ≤ 127 := by omega
  have p2 : (128 : Int) ≤ n := by omega
  have q2 : ¬ (n : Int) ≤ 143 := by omega
  have p3 : (144 : Int) ≤ n := by omega
  have q3 : ¬ (n : Int) ≤ 159 := by omega
  have p4 : (160 : Int) ≤ n := by omega
  have q4 : ¬ (n : Int) ≤ 164 := by omega
  have hq1 := nm_toList (lwO n)
  rw [h1] at hq1
  clear h1 hn hm
  generalize lwO n = X1 at *
  simp only [oiC] at H1 ⊢
  generalize (ByteArray.mk X1.nm.toArray) = x1 at *
  have H2 := Lib.hid (middle_any n)
  have hq2 := nm_toList (miO n)
  rw [h2] at hq2
  clear h2
  generalize miO n = X2 at *
  simp only [oiC] at H2
  generalize (ByteArray.mk X2.nm.toArray) = x2 at *
  go_enter Tryd.func11, Tryd.ntmps11
  go_upto_region 11 with (first
    | (go_at_call 33; refine (H1.out _).mono ?_; rintro e w0 ⟨rfl, hw⟩; have HW := Lib.hid hw; clear hw)
    | fail)
  obtain ⟨w1, he⟩ : ∃ w1, w0.alloc (.cells #[.string x1, .int .i64 X1.i, .int .i64 X1.o, .int .u64 X1.g, .bool X1.q, .int .i64 X1.z] 25) = w1 := ⟨_, rfl⟩
  rw [he]
  have hd : Blk w1 w0.heap.size 25 #[.string x1, .int .i64 X1.i, .int .i64 X1.o, .int .u64 X1.g, .bool X1.q, .int .i64 X1.z] := by rw [← he]; exact Blk.new w0 _ _
  have HH := Lib.hid (old_cells HW.out he)
  clear HW he
  have d0 := cell_of_row w1 _ 0 _ _ _ hd
  clear hd
  go_upto_region 14 with (first
    | (go_at_call 34; refine (H2.out _).mono ?_; rintro e w2 ⟨rfl, hw⟩; have HW := Lib.hid hw; clear hw)
    | fail)
  obtain ⟨w3, he⟩ : ∃ w3, w2.alloc (.cells #[.string x2, .int .i64 X2.i, .int .i64 X2.o, .int .u64 X2.g, .bool X2.q, .int .i64 X2.z] 25) = w3 := ⟨_, rfl⟩
  rw [he]
  have hd : Blk w3 w2.heap.size 25 #[.string x2, .int .i64 X2.i, .int .i64 X2.o, .int .u64 X2.g, .bool X2.q, .int .i64 X2.z] := by rw [← he]; exact Blk.new w2 _ _
  have HH2 := Lib.hid (step_cells HH.out HW.out he)
  clear HW he HH d0
  have d0 := cell_of_row w3 _ 0 _ _ _ hd
  have d1 := cell_of_row w3 _ 1 _ _ _ hd
  have d2 := cell_of_row w3 _ 2 _ _ _ hd
  have d3 := cell_of_row w3 _ 3 _ _ _ hd
  have d4 := cell_of_row w3 _ 4 _ _ _ hd
  have d5 := cell_of_row w3 _ 5 _ _ _ hd
  have hb := HH2.out.1
  have c0 := cell_of_row w3 _ 0 _ _ _ hb
  have c1 := cell_of_row w3 _ 1 _ _ _ hb
  have c2 := cell_of_row w3 _ 2 _ _ _ hb
  have c3 := cell_of_row w3 _ 3 _ _ _ hb
  have c4 := cell_of_row w3 _ 4 _ _ _ hb
  have c5 := cell_of_row w3 _ 5 _ _ _ hb
  have fc0 := frozen_of_row w3 _ 0 _ _ hb
  have fc1 := frozen_of_row w3 _ 1 _ _ hb
  have fc2 := frozen_of_row w3 _ 2 _ _ hb
  have fc3 := frozen_of_row w3 _ 3 _ _ hb
  have fc4 := frozen_of_row w3 _ 4 _ _ hb
  have fc5 := frozen_of_row w3 _ 5 _ _ hb
  clear hb hd
  go_wp2_with fail
  (try simp only [Exit.inBlock, Exit.then])
  refine bodyPost_ret (ret_oi rfl rfl (Blk.set6 HH2.out.1 _ _ _ _ _ _) rfl) rfl ?_
  exact ⟨rfl, below_set6 HH2.out.2 (Nat.le_refl _) _ _ _ _ _ _⟩
set_option maxRecDepth 100000 in
set_option maxHeartbeats 2000000 in
theorem rinfo_B3 (n : Nat) (hm : 164 < n) (hn : n < 256) (h1 : (lwO n).nm.isEmpty = true) (h2 : (miO n).nm.isEmpty = true) (w : World) : Calls Tryd.prog 11 #[.int .u8 n] w fun e w' => e = .returned (.agg (oiC (hiO n))) ∧ Below w.heap.size w w' := by
  have H1 := Lib.hid (low_any n)
  have q0 : IntKind.i64.wrap (n : Int) = (n : Int) := IntWalk.i64_in _ (by omega)
  have p1 : (96 : Int) ≤ n := by omega
  have q1 : ¬ (n : Int) ≤ 127 := by omega
  have p2 : (128 : Int) ≤ n := by omega
  have q2 : ¬ (n : Int) ≤ 143 := by omega
  have p3 : (144 : Int) ≤ n := by omega
  have q3 : ¬ (n : Int) ≤ 159 := by omega
  have p4 : (160 : Int) ≤ n := by omega
  have q4 : ¬ (n : Int) ≤ 164 := by omega
  have hq1 := nm_toList (lwO n)
  rw [h1] at hq1
  clear h1 hn hm
  generalize lwO n = X1 at *
  simp only [oiC] at H1 ⊢
  generalize (ByteArray.mk X1.nm.toArray) = x1 at *
  have H2 := Lib.hid (middle_any n)
  have hq2 := nm_toList (miO n)
  rw [h2] at hq2
  clear h2
  generalize miO n = X2 at *
  simp only [oiC] at H2
  generalize (ByteArray.mk X2.nm.toArray) = x2 at *
  have H3 := Lib.hid (high_any n)
  generalize hiO n = X3 at *
  simp only [oiC] at H3
  generalize (ByteArray.mk X3.nm.toArray) = x3 at *
  go_enter Tryd.func11, Tryd.ntmps11
  go_upto_region 11 with (first
    | (go_at_call 33; refine (H1.out _).mono ?_; rintro e w0 ⟨rfl, hw⟩; have HW := Lib.hid hw; clear hw)
    | fail)
  obtain ⟨w1, he⟩ : ∃ w1, w0.alloc (.cells #[.string x1, .int .i64 X1.i, .int .i64 X1.o, .int .u64 X1.g, .bool X1.q, .int .i64 X1.z] 25) = w1 := ⟨_, rfl⟩
  rw [he]
  have hd : Blk w1 w0.heap.size 25 #[.string x1, .int .i64 X1.i, .int .i64 X1.o, .int .u64 X1.g, .bool X1.q, .int .i64 X1.z] := by rw [← he]; exact Blk.new w0 _ _
  have HH := Lib.hid (old_cells HW.out he)
  clear HW he
  have d0 := cell_of_row w1 _ 0 _ _ _ hd
  clear hd
  go_upto_region 14 with (first
    | (go_at_call 34; refine (H2.out _).mono ?_; rintro e w2 ⟨rfl, hw⟩; have HW := Lib.hid hw; clear hw)
    | fail)
  obtain ⟨w3, he⟩ : ∃ w3, w2.alloc (.cells #[.string x2, .int .i64 X2.i, .int .i64 X2.o, .int .u64 X2.g, .bool X2.q, .int .i64 X2.z] 25) = w3 := ⟨_, rfl⟩
  rw [he]
  have hd : Blk w3 w2.heap.size 25 #[.string x2, .int .i64 X2.i, .int .i64 X2.o, .int .u64 X2.g, .bool X2.q, .int .i64 X2.z] := by rw [← he]; exact Blk.new w2 _ _
  have HH2 := Lib.hid (step_cells HH.out HW.out he)
  clear HW he HH d0
  have d0 := cell_of_row w3 _ 0 _ _ _ hd
  clear hd
  go_wp2_with (first
    | (go_at_call 35; refine (H3.out _).mono ?_; rintro e w4 ⟨rfl, hw⟩; have hb := Blk.keep HH2.out.1 hw
       have c0 := cell_of_row w4 _ 0 _ _ _ hb
       have c1 := cell_of_row w4 _ 1 _ _ _ hb
       have c2 := cell_of_row w4 _ 2 _ _ _ hb
       have c3 := cell_of_row w4 _ 3 _ _ _ hb
       have c4 := cell_of_row w4 _ 4 _ _ _ hb
       have c5 := cell_of_row w4 _ 5 _ _ _ hb
       have fc0 := frozen_of_row w4 _ 0 _ _ hb
       have fc1 := frozen_of_row w4 _ 1 _ _ hb
       have fc2 := frozen_of_row w4 _ 2 _ _ hb
       have fc3 := frozen_of_row w4 _ 3 _ _ hb
       have fc4 := frozen_of_row w4 _ 4 _ _ hb
       have fc5 := frozen_of_row w4 _ 5 _ _ hb
       have HW := Lib.hid (And.intro hb (bstep HH2.out.2 hw)); clear hw hb)
    | fail)
  (try simp only [Exit.inBlock, Exit.then])
  refine bodyPost_ret (ret_oi rfl rfl (Blk.set6 HW.out.1 _ _ _ _ _ _) rfl) rfl ?_
  exact ⟨rfl, below_set6 HW.out.2 (Nat.le_refl _) _ _ _ _ _ _⟩
theorem rinfo_alone (n : Nat) (hn : n < 256) (hk : fmK n = 0) (w : World) : Calls Tryd.prog 11 #[.int .u8 n] w fun e w' => e = .returned (.agg (oiC (alO n))) ∧ Below w.heap.size w w' := by
  rw [← rl_al ⟨n, hn⟩ hk]
  show Calls _ _ _ _ fun e w' => e = .returned (.agg (oiC (rlO n))) ∧ _
  have hN : n < 96 ∨ 164 < n := by
    unfold fmK at hk
    repeat' split at hk
    all_goals omega
  unfold rlO
  cases h1 : (lwO n).nm.isEmpty <;> cases h2 : (miO n).nm.isEmpty <;> rcases hN with h | h
  · exact rinfo_A1 n h h1 w
  · exact rinfo_B1 n h hn h1 w
  · exact rinfo_A1 n h h1 w
  · exact rinfo_B1 n h hn h1 w
  · exact rinfo_A2 n h h1 h2 w
  · exact rinfo_B2 n h hn h1 h2 w
  · exact rinfo_A3 n h h1 h2 w
  · exact rinfo_B3 n h hn h1 h2 w
theorem rinfo_any (n : Nat) (hn : n < 256) (w : World) : Calls Tryd.prog 11 #[.int .u8 n] w fun e w' => e = .returned (.agg (oiC (oi n))) ∧ Below w.heap.size w w' := by
  rcases fm_cases n with h | ⟨h, h1, h2⟩ | ⟨h, h1, h2⟩ | ⟨h, h1, h2⟩ | ⟨h, h1, h2⟩
  · rw [show oi n = alO n by unfold oi; rw [if_pos h]]
    exact rinfo_alone n hn h w
  · have hl := fm_lim1 ⟨n, hn⟩ h
    rw [show oi n = { famO 1 (fmN n) with nm := sPush.data.toList ++ dec (fmN n) } by unfold oi; rw [if_neg (by omega), h]; rfl]
    refine (rinfo_fam1 n (fmN n) h1 hl.1 hl.2 w).mono ?_
    rintro e w' ⟨rfl, hw⟩
    rw [str_app]
    exact ⟨rfl, hw⟩
  · have hl := fm_lim2 ⟨n, hn⟩ h
    rw [show oi n = { famO 2 (fmN n) with nm := sDup.data.toList ++ dec (fmN n) } by unfold oi; rw [if_neg (by omega), h]; rfl]
    refine (rinfo_fam2 n (fmN n) _ h1 rfl hl.1 hl.2 w).mono ?_
    rintro e w' ⟨rfl, hw⟩
    rw [str_app]
    exact ⟨rfl, hw⟩
  · have hl := fm_lim3 ⟨n, hn⟩ h
    rw [show oi n = { famO 3 (fmN n) with nm := sSwap.data.toList ++ dec (fmN n) } by unfold oi; rw [if_neg (by omega), h]; rfl]
    refine (rinfo_fam3 n (fmN n) _ h1 rfl hl.1 hl.2 w).mono ?_
    rintro e w' ⟨rfl, hw⟩
    rw [str_app]
    exact ⟨rfl, hw⟩
  · have hl := fm_lim4 ⟨n, hn⟩ h
    rw [show oi n = { famO 4 (fmN n) with nm := sLog.data.toList ++ dec (fmN n) } by unfold oi; rw [if_neg (by omega), h]; rfl]
    refine (rinfo_fam4 n (fmN n) _ _ h1 rfl rfl hl.2 w).mono ?_
    rintro e w' ⟨rfl, hw⟩
    rw [str_app]
    exact ⟨rfl, hw⟩
end Go.Proofs.YtcdmaapjcckbmaaDoor
