/- code: the reference's tables (middle). -/
import Derived.Test.YtcdmaapjcckbmaaDoorXf
namespace Go.Proofs.YtcdmaapjcckbmaaDoor
open Go.RowKit Go.Shelf

def miT : List (Nat × OI) := [(29, ⟨[83, 65, 82], 2, 1, 3, true, 0⟩), (32, ⟨[75, 69, 67, 67, 65, 75, 50, 53, 54], 2, 1, 30, false, 0⟩), (48, ⟨[65, 68, 68, 82, 69, 83, 83], 0, 1, 2, true, 0⟩), (49, ⟨[66, 65, 76, 65, 78, 67, 69], 1, 1, 0, false, 0⟩), (50, ⟨[79, 82, 73, 71, 73, 78], 0, 1, 2, true, 0⟩), (51, ⟨[67, 65, 76, 76, 69, 82], 0, 1, 2, true, 0⟩), (52, ⟨[67, 65, 76, 76, 86, 65, 76, 85, 69], 0, 1, 2, true, 0⟩), (53, ⟨[67, 65, 76, 76, 68, 65, 84, 65, 76, 79, 65, 68], 1, 1, 3, false, 0⟩), (54, ⟨[67, 65, 76, 76, 68, 65, 84, 65, 83, 73, 90, 69], 0, 1, 2, true, 0⟩), (55, ⟨[67, 65, 76, 76, 68, 65, 84, 65, 67, 79, 80, 89], 3, 0, 3, false, 0⟩), (56, ⟨[67, 79, 68, 69, 83, 73, 90, 69], 0, 1, 2, true, 0⟩), (57, ⟨[67, 79, 68, 69, 67, 79, 80, 89], 3, 0, 3, false, 0⟩), (58, ⟨[71, 65, 83, 80, 82, 73, 67, 69], 0, 1, 2, true, 0⟩), (59, ⟨[69, 88, 84, 67, 79, 68, 69, 83, 73, 90, 69], 1, 1, 0, false, 0⟩), (60, ⟨[69, 88, 84, 67, 79, 68, 69, 67, 79, 80, 89], 4, 0, 0, false, 0⟩), (61, ⟨[82, 69, 84, 85, 82, 78, 68, 65, 84, 65, 83, 73, 90, 69], 0, 1, 2, true, 0⟩), (62, ⟨[82, 69, 84, 85, 82, 78, 68, 65, 84, 65, 67, 79, 80, 89], 3, 0, 3, false, 0⟩), (63, ⟨[69, 88, 84, 67, 79, 68, 69, 72, 65, 83, 72], 1, 1, 0, false, 0⟩), (64, ⟨[66, 76, 79, 67, 75, 72, 65, 83, 72], 1, 1, 20, false, 0⟩), (65, ⟨[67, 79, 73, 78, 66, 65, 83, 69], 0, 1, 2, true, 0⟩), (66, ⟨[84, 73, 77, 69, 83, 84, 65, 77, 80], 0, 1, 2, true, 0⟩), (67, ⟨[78, 85, 77, 66, 69, 82], 0, 1, 2, true, 0⟩), (68, ⟨[80, 82, 69, 86, 82, 65, 78, 68, 65, 79], 0, 1, 2, true, 0⟩), (69, ⟨[71, 65, 83, 76, 73, 77, 73, 84], 0, 1, 2, true, 0⟩), (70, ⟨[67, 72, 65, 73, 78, 73, 68], 0, 1, 2, true, 0⟩)]
def miO (n : Nat) : OI := (miT.lookup n).getD noOp
theorem miO_none (n : Nat) (h0 : n ≠ 29) (h1 : n ≠ 32) (h2 : n ≠ 48) (h3 : n ≠ 49) (h4 : n ≠ 50) (h5 : n ≠ 51) (h6 : n ≠ 52) (h7 : n ≠ 53) (h8 : n ≠ 54) (h9 : n ≠ 55) (h10 : n ≠ 56) (h11 : n ≠ 57) (h12 : n ≠ 58) (h13 : n ≠ 59) (h14 : n ≠ 60) (h15 : n ≠ 61) (h16 : n ≠ 62) (h17 : n ≠ 63) (h18 : n ≠ 64) (h19 : n ≠ 65) (h20 : n ≠ 66) (h21 : n ≠ 67) (h22 : n ≠ 68) (h23 : n ≠ 69) (h24 : n ≠ 70) : miO n = noOp := by
  unfold miO miT
  simp only [List.lookup_cons, List.lookup_nil, beq_eq_false_iff_ne.2 h0, beq_eq_false_iff_ne.2 h1, beq_eq_false_iff_ne.2 h2, beq_eq_false_iff_ne.2 h3, beq_eq_false_iff_ne.2 h4, beq_eq_false_iff_ne.2 h5, beq_eq_false_iff_ne.2 h6, beq_eq_false_iff_ne.2 h7, beq_eq_false_iff_ne.2 h8, beq_eq_false_iff_ne.2 h9, beq_eq_false_iff_ne.2 h10, beq_eq_false_iff_ne.2 h11, beq_eq_false_iff_ne.2 h12, beq_eq_false_iff_ne.2 h13, beq_eq_false_iff_ne.2 h14, beq_eq_false_iff_ne.2 h15, beq_eq_false_iff_ne.2 h16, beq_eq_false_iff_ne.2 h17, beq_eq_false_iff_ne.2 h18, beq_eq_false_iff_ne.2 h19, beq_eq_false_iff_ne.2 h20, beq_eq_false_iff_ne.2 h21, beq_eq_false_iff_ne.2 h22, beq_eq_false_iff_ne.2 h23, beq_eq_false_iff_ne.2 h24]
  rfl
set_option maxRecDepth 100000 in
set_option maxHeartbeats 4000000 in
theorem middle_any (n : Nat) (w : World) : Calls Tryd.prog 34 #[.int .u8 n] w fun e w' => e = .returned (.agg (oiC (miO n))) ∧ Below w.heap.size w w' := by
  go_enter Tryd.func34, Tryd.ntmps34
  go_wp2_with fail
  · rename_i h
    have e := eq_of_beq h
    obtain rfl : n = 29 := by omega
    refine bodyPost_ret (ret_oi rfl rfl (Blk.new w _ _) rfl) rfl ?_
    exact ⟨rfl, balloc (Below.refl _ _) _⟩
  · rename_i h
    have e := eq_of_beq h
    obtain rfl : n = 32 := by omega
    refine bodyPost_ret (ret_oi rfl rfl (Blk.new w _ _) rfl) rfl ?_
    exact ⟨rfl, balloc (Below.refl _ _) _⟩
  · rename_i h
    have e := eq_of_beq h
    obtain rfl : n = 48 := by omega
    refine bodyPost_ret (ret_oi rfl rfl (Blk.new w _ _) rfl) rfl ?_
    exact ⟨rfl, balloc (Below.refl _ _) _⟩
  · rename_i h
    have e := eq_of_beq h
    obtain rfl : n = 49 := by omega
    refine bodyPost_ret (ret_oi rfl rfl (Blk.new w _ _) rfl) rfl ?_
    exact ⟨rfl, balloc (Below.refl _ _) _⟩
  · rename_i h
    have e := eq_of_beq h
    obtain rfl : n = 50 := by omega
    refine bodyPost_ret (ret_oi rfl rfl (Blk.new w _ _) rfl) rfl ?_
    exact ⟨rfl, balloc (Below.refl _ _) _⟩
  · rename_i h
    have e := eq_of_beq h
    obtain rfl : n = 51 := by omega
    refine bodyPost_ret (ret_oi rfl rfl (Blk.new w _ _) rfl) rfl ?_
    exact ⟨rfl, balloc (Below.refl _ _) _⟩
  · rename_i h
    have e := eq_of_beq h
    obtain rfl : n = 52 := by omega
    refine bodyPost_ret (ret_oi rfl rfl (Blk.new w _ _) rfl) rfl ?_
    exact ⟨rfl, balloc (Below.refl _ _) _⟩
  · rename_i h
    have e := eq_of_beq h
    obtain rfl : n = 53 := by omega
    refine bodyPost_ret (ret_oi rfl rfl (Blk.new w _ _) rfl) rfl ?_
    exact ⟨rfl, balloc (Below.refl _ _) _⟩
  · rename_i h
    have e := eq_of_beq h
    obtain rfl : n = 54 := by omega
    refine bodyPost_ret (ret_oi rfl rfl (Blk.new w _ _) rfl) rfl ?_
    exact ⟨rfl, balloc (Below.refl _ _) _⟩
  · rename_i h
    have e := eq_of_beq h
    obtain rfl : n = 55 := by omega
    refine bodyPost_ret (ret_oi rfl rfl (Blk.new w _ _) rfl) rfl ?_
    exact ⟨rfl, balloc (Below.refl _ _) _⟩
  · rename_i h
    have e := eq_of_beq h
    obtain rfl : n = 56 := by omega
    refine bodyPost_ret (ret_oi rfl rfl (Blk.new w _ _) rfl) rfl ?_
    exact ⟨rfl, balloc (Below.refl _ _) _⟩
  · rename_i h
    have e := eq_of_beq h
    obtain rfl : n = 57 := by omega
    refine bodyPost_ret (ret_oi rfl rfl (Blk.new w _ _) rfl) rfl ?_
    exact ⟨rfl, balloc (Below.refl _ _) _⟩
  · rename_i h
    have e := eq_of_beq h
    obtain rfl : n = 58 := by omega
    refine bodyPost_ret (ret_oi rfl rfl (Blk.new w _ _) rfl) rfl ?_
    exact ⟨rfl, balloc (Below.refl _ _) _⟩
  · rename_i h
    have e := eq_of_beq h
    obtain rfl : n = 59 := by omega
    refine bodyPost_ret (ret_oi rfl rfl (Blk.new w _ _) rfl) rfl ?_
    exact ⟨rfl, balloc (Below.refl _ _) _⟩
  · rename_i h
    have e := eq_of_beq h
    obtain rfl : n = 60 := by omega
    refine bodyPost_ret (ret_oi rfl rfl (Blk.new w _ _) rfl) rfl ?_
    exact ⟨rfl, balloc (Below.refl _ _) _⟩
  · rename_i h
    have e := eq_of_beq h
    obtain rfl : n = 61 := by omega
    refine bodyPost_ret (ret_oi rfl rfl (Blk.new w _ _) rfl) rfl ?_
    exact ⟨rfl, balloc (Below.refl _ _) _⟩
  · rename_i h
    have e := eq_of_beq h
    obtain rfl : n = 62 := by omega
    refine bodyPost_ret (ret_oi rfl rfl (Blk.new w _ _) rfl) rfl ?_
    exact ⟨rfl, balloc (Below.refl _ _) _⟩
  · rename_i h
    have e := eq_of_beq h
    obtain rfl : n = 63 := by omega
    refine bodyPost_ret (ret_oi rfl rfl (Blk.new w _ _) rfl) rfl ?_
    exact ⟨rfl, balloc (Below.refl _ _) _⟩
  · rename_i h
    have e := eq_of_beq h
    obtain rfl : n = 64 := by omega
    refine bodyPost_ret (ret_oi rfl rfl (Blk.new w _ _) rfl) rfl ?_
    exact ⟨rfl, balloc (Below.refl _ _) _⟩
  · rename_i h
    have e := eq_of_beq h
    obtain rfl : n = 65 := by omega
    refine bodyPost_ret (ret_oi rfl rfl (Blk.new w _ _) rfl) rfl ?_
    exact ⟨rfl, balloc (Below.refl _ _) _⟩
  · rename_i h
    have e := eq_of_beq h
    obtain rfl : n = 66 := by omega
    refine bodyPost_ret (ret_oi rfl rfl (Blk.new w _ _) rfl) rfl ?_
    exact ⟨rfl, balloc (Below.refl _ _) _⟩
  · rename_i h
    have e := eq_of_beq h
    obtain rfl : n = 67 := by omega
    refine bodyPost_ret (ret_oi rfl rfl (Blk.new w _ _) rfl) rfl ?_
    exact ⟨rfl, balloc (Below.refl _ _) _⟩
  · rename_i h
    have e := eq_of_beq h
    obtain rfl : n = 68 := by omega
    refine bodyPost_ret (ret_oi rfl rfl (Blk.new w _ _) rfl) rfl ?_
    exact ⟨rfl, balloc (Below.refl _ _) _⟩
  · rename_i h
    have e := eq_of_beq h
    obtain rfl : n = 69 := by omega
    refine bodyPost_ret (ret_oi rfl rfl (Blk.new w _ _) rfl) rfl ?_
    exact ⟨rfl, balloc (Below.refl _ _) _⟩
  · rename_i h
    have e := eq_of_beq h
    obtain rfl : n = 70 := by omega
    refine bodyPost_ret (ret_oi rfl rfl (Blk.new w _ _) rfl) rfl ?_
    exact ⟨rfl, balloc (Below.refl _ _) _⟩
  · (try simp only [beq_eq_false_iff_ne] at *)
    rw [miO_none n (by omega) (by omega) (by omega) (by omega) (by omega) (by omega) (by omega) (by omega) (by omega) (by omega) (by omega) (by omega) (by omega) (by omega) (by omega) (by omega) (by omega) (by omega) (by omega) (by omega) (by omega) (by omega) (by omega) (by omega) (by omega)]
    refine bodyPost_ret (ret_oi rfl rfl (Blk.new w _ _) rfl) rfl ?_
    exact ⟨rfl, balloc (Below.refl _ _) _⟩
end Go.Proofs.YtcdmaapjcckbmaaDoor
