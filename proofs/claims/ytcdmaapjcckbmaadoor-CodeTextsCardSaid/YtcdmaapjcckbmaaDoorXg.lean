/- code: the reference's tables (low). -/
import Derived.Test.YtcdmaapjcckbmaaDoorXf
namespace Go.Proofs.YtcdmaapjcckbmaaDoor
open Go.RowKit Go.Shelf

def lwT : List (Nat × OI) := [(0, ⟨[83, 84, 79, 80], 0, 0, 0, false, 0⟩), (1, ⟨[65, 68, 68], 2, 1, 3, true, 0⟩), (2, ⟨[77, 85, 76], 2, 1, 5, true, 0⟩), (3, ⟨[83, 85, 66], 2, 1, 3, true, 0⟩), (4, ⟨[68, 73, 86], 2, 1, 5, true, 0⟩), (5, ⟨[83, 68, 73, 86], 2, 1, 5, true, 0⟩), (6, ⟨[77, 79, 68], 2, 1, 5, true, 0⟩), (7, ⟨[83, 77, 79, 68], 2, 1, 5, true, 0⟩), (8, ⟨[65, 68, 68, 77, 79, 68], 3, 1, 8, true, 0⟩), (9, ⟨[77, 85, 76, 77, 79, 68], 3, 1, 8, true, 0⟩), (10, ⟨[69, 88, 80], 2, 1, 10, false, 0⟩), (11, ⟨[83, 73, 71, 78, 69, 88, 84, 69, 78, 68], 2, 1, 5, true, 0⟩), (16, ⟨[76, 84], 2, 1, 3, true, 0⟩), (17, ⟨[71, 84], 2, 1, 3, true, 0⟩), (18, ⟨[83, 76, 84], 2, 1, 3, true, 0⟩), (19, ⟨[83, 71, 84], 2, 1, 3, true, 0⟩), (20, ⟨[69, 81], 2, 1, 3, true, 0⟩), (21, ⟨[73, 83, 90, 69, 82, 79], 1, 1, 3, true, 0⟩), (22, ⟨[65, 78, 68], 2, 1, 3, true, 0⟩), (23, ⟨[79, 82], 2, 1, 3, true, 0⟩), (24, ⟨[88, 79, 82], 2, 1, 3, true, 0⟩), (25, ⟨[78, 79, 84], 1, 1, 3, true, 0⟩), (26, ⟨[66, 89, 84, 69], 2, 1, 3, true, 0⟩), (27, ⟨[83, 72, 76], 2, 1, 3, true, 0⟩), (28, ⟨[83, 72, 82], 2, 1, 3, true, 0⟩)]
def lwO (n : Nat) : OI := (lwT.lookup n).getD noOp
theorem lwO_none (n : Nat) (h0 : n ≠ 0) (h1 : n ≠ 1) (h2 : n ≠ 2) (h3 : n ≠ 3) (h4 : n ≠ 4) (h5 : n ≠ 5) (h6 : n ≠ 6) (h7 : n ≠ 7) (h8 : n ≠ 8) (h9 : n ≠ 9) (h10 : n ≠ 10) (h11 : n ≠ 11) (h12 : n ≠ 16) (h13 : n ≠ 17) (h14 : n ≠ 18) (h15 : n ≠ 19) (h16 : n ≠ 20) (h17 : n ≠ 21) (h18 : n ≠ 22) (h19 : n ≠ 23) (h20 : n ≠ 24) (h21 : n ≠ 25) (h22 : n ≠ 26) (h23 : n ≠ 27) (h24 : n ≠ 28) : lwO n = noOp := by
  unfold lwO lwT
  simp only [List.lookup_cons, List.lookup_nil, beq_eq_false_iff_ne.2 h0, beq_eq_false_iff_ne.2 h1, beq_eq_false_iff_ne.2 h2, beq_eq_false_iff_ne.2 h3, beq_eq_false_iff_ne.2 h4, beq_eq_false_iff_ne.2 h5, beq_eq_false_iff_ne.2 h6, beq_eq_false_iff_ne.2 h7, beq_eq_false_iff_ne.2 h8, beq_eq_false_iff_ne.2 h9, beq_eq_false_iff_ne.2 h10, beq_eq_false_iff_ne.2 h11, beq_eq_false_iff_ne.2 h12, beq_eq_false_iff_ne.2 h13, beq_eq_false_iff_ne.2 h14, beq_eq_false_iff_ne.2 h15, beq_eq_false_iff_ne.2 h16, beq_eq_false_iff_ne.2 h17, beq_eq_false_iff_ne.2 h18, beq_eq_false_iff_ne.2 h19, beq_eq_false_iff_ne.2 h20, beq_eq_false_iff_ne.2 h21, beq_eq_false_iff_ne.2 h22, beq_eq_false_iff_ne.2 h23, beq_eq_false_iff_ne.2 h24]
  rfl
set_option maxRecDepth 100000 in
set_option maxHeartbeats 4000000 in
theorem low_any (n : Nat) (w : World) : Calls Tryd.prog 33 #[.int .u8 n] w fun e w' => e = .returned (.agg (oiC (lwO n))) ∧ Below w.heap.size w w' := by
  go_enter Tryd.func33, Tryd.ntmps33
  go_wp2_with fail
  · rename_i h
    have e := eq_of_beq h
    obtain rfl : n = 0 := by omega
    refine bodyPost_ret (ret_oi rfl rfl (Blk.new w _ _) rfl) rfl ?_
    exact ⟨rfl, balloc (Below.refl _ _) _⟩
  · rename_i h
    have e := eq_of_beq h
    obtain rfl : n = 1 := by omega
    refine bodyPost_ret (ret_oi rfl rfl (Blk.new w _ _) rfl) rfl ?_
    exact ⟨rfl, balloc (Below.refl _ _) _⟩
  · rename_i h
    have e := eq_of_beq h
    obtain rfl : n = 2 := by omega
    refine bodyPost_ret (ret_oi rfl rfl (Blk.new w _ _) rfl) rfl ?_
    exact ⟨rfl, balloc (Below.refl _ _) _⟩
  · rename_i h
    have e := eq_of_beq h
    obtain rfl : n = 3 := by omega
    refine bodyPost_ret (ret_oi rfl rfl (Blk.new w _ _) rfl) rfl ?_
    exact ⟨rfl, balloc (Below.refl _ _) _⟩
  · rename_i h
    have e := eq_of_beq h
    obtain rfl : n = 4 := by omega
    refine bodyPost_ret (ret_oi rfl rfl (Blk.new w _ _) rfl) rfl ?_
    exact ⟨rfl, balloc (Below.refl _ _) _⟩
  · rename_i h
    have e := eq_of_beq h
    obtain rfl : n = 5 := by omega
    refine bodyPost_ret (ret_oi rfl rfl (Blk.new w _ _) rfl) rfl ?_
    exact ⟨rfl, balloc (Below.refl _ _) _⟩
  · rename_i h
    have e := eq_of_beq h
    obtain rfl : n = 6 := by omega
    refine bodyPost_ret (ret_oi rfl rfl (Blk.new w _ _) rfl) rfl ?_
    exact ⟨rfl, balloc (Below.refl _ _) _⟩
  · rename_i h
    have e := eq_of_beq h
    obtain rfl : n = 7 := by omega
    refine bodyPost_ret (ret_oi rfl rfl (Blk.new w _ _) rfl) rfl ?_
    exact ⟨rfl, balloc (Below.refl _ _) _⟩
  · rename_i h
    have e := eq_of_beq h
    obtain rfl : n = 8 := by omega
    refine bodyPost_ret (ret_oi rfl rfl (Blk.new w _ _) rfl) rfl ?_
    exact ⟨rfl, balloc (Below.refl _ _) _⟩
  · rename_i h
    have e := eq_of_beq h
    obtain rfl : n = 9 := by omega
    refine bodyPost_ret (ret_oi rfl rfl (Blk.new w _ _) rfl) rfl ?_
    exact ⟨rfl, balloc (Below.refl _ _) _⟩
  · rename_i h
    have e := eq_of_beq h
    obtain rfl : n = 10 := by omega
    refine bodyPost_ret (ret_oi rfl rfl (Blk.new w _ _) rfl) rfl ?_
    exact ⟨rfl, balloc (Below.refl _ _) _⟩
  · rename_i h
    have e := eq_of_beq h
    obtain rfl : n = 11 := by omega
    refine bodyPost_ret (ret_oi rfl rfl (Blk.new w _ _) rfl) rfl ?_
    exact ⟨rfl, balloc (Below.refl _ _) _⟩
  · rename_i h
    have e := eq_of_beq h
    obtain rfl : n = 16 := by omega
    refine bodyPost_ret (ret_oi rfl rfl (Blk.new w _ _) rfl) rfl ?_
    exact ⟨rfl, balloc (Below.refl _ _) _⟩
  · rename_i h
    have e := eq_of_beq h
    obtain rfl : n = 17 := by omega
    refine bodyPost_ret (ret_oi rfl rfl (Blk.new w _ _) rfl) rfl ?_
    exact ⟨rfl, balloc (Below.refl _ _) _⟩
  · rename_i h
    have e := eq_of_beq h
    obtain rfl : n = 18 := by omega
    refine bodyPost_ret (ret_oi rfl rfl (Blk.new w _ _) rfl) rfl ?_
    exact ⟨rfl, balloc (Below.refl _ _) _⟩
  · rename_i h
    have e := eq_of_beq h
    obtain rfl : n = 19 := by omega
    refine bodyPost_ret (ret_oi rfl rfl (Blk.new w _ _) rfl) rfl ?_
    exact ⟨rfl, balloc (Below.refl _ _) _⟩
  · rename_i h
    have e := eq_of_beq h
    obtain rfl : n = 20 := by omega
    refine bodyPost_ret (ret_oi rfl rfl (Blk.new w _ _) rfl) rfl ?_
    exact ⟨rfl, balloc (Below.refl _ _) _⟩
  · rename_i h
    have e := eq_of_beq h
    obtain rfl : n = 21 := by omega
    refine bodyPost_ret (ret_oi rfl rfl (Blk.new w _ _) rfl) rfl ?_
    exact ⟨rfl, balloc (Below.refl _ _) _⟩
  · rename_i h
    have e := eq_of_beq h
    obtain rfl : n = 22 := by omega
    refine bodyPost_ret (ret_oi rfl rfl (Blk.new w _ _) rfl) rfl ?_
    exact ⟨rfl, balloc (Below.refl _ _) _⟩
  · rename_i h
    have e := eq_of_beq h
    obtain rfl : n = 23 := by omega
    refine bodyPost_ret (ret_oi rfl rfl (Blk.new w _ _) rfl) rfl ?_
    exact ⟨rfl, balloc (Below.refl _ _) _⟩
  · rename_i h
    have e := eq_of_beq h
    obtain rfl : n = 24 := by omega
    refine bodyPost_ret (ret_oi rfl rfl (Blk.new w _ _) rfl) rfl ?_
    exact ⟨rfl, balloc (Below.refl _ _) _⟩
  · rename_i h
    have e := eq_of_beq h
    obtain rfl : n = 25 := by omega
    refine bodyPost_ret (ret_oi rfl rfl (Blk.new w _ _) rfl) rfl ?_
    exact ⟨rfl, balloc (Below.refl _ _) _⟩
  · rename_i h
    have e := eq_of_beq h
    obtain rfl : n = 26 := by omega
    refine bodyPost_ret (ret_oi rfl rfl (Blk.new w _ _) rfl) rfl ?_
    exact ⟨rfl, balloc (Below.refl _ _) _⟩
  · rename_i h
    have e := eq_of_beq h
    obtain rfl : n = 27 := by omega
    refine bodyPost_ret (ret_oi rfl rfl (Blk.new w _ _) rfl) rfl ?_
    exact ⟨rfl, balloc (Below.refl _ _) _⟩
  · rename_i h
    have e := eq_of_beq h
    obtain rfl : n = 28 := by omega
    refine bodyPost_ret (ret_oi rfl rfl (Blk.new w _ _) rfl) rfl ?_
    exact ⟨rfl, balloc (Below.refl _ _) _⟩
  · (try simp only [beq_eq_false_iff_ne] at *)
    rw [lwO_none n (by omega) (by omega) (by omega) (by omega) (by omega) (by omega) (by omega) (by omega) (by omega) (by omega) (by omega) (by omega) (by omega) (by omega) (by omega) (by omega) (by omega) (by omega) (by omega) (by omega) (by omega) (by omega) (by omega) (by omega) (by omega)]
    refine bodyPost_ret (ret_oi rfl rfl (Blk.new w _ _) rfl) rfl ?_
    exact ⟨rfl, balloc (Below.refl _ _) _⟩
end Go.Proofs.YtcdmaapjcckbmaaDoor
