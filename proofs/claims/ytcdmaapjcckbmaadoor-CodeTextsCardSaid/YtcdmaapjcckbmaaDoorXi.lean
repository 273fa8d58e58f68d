/- code: the reference's tables (high). -/
import Derived.Test.YtcdmaapjcckbmaaDoorXf
namespace Go.Proofs.YtcdmaapjcckbmaaDoor
open Go.RowKit Go.Shelf

def hiT : List (Nat × OI) := [(71, ⟨[83, 69, 76, 70, 66, 65, 76, 65, 78, 67, 69], 0, 1, 5, false, 0⟩), (72, ⟨[66, 65, 83, 69, 70, 69, 69], 0, 1, 2, true, 0⟩), (80, ⟨[80, 79, 80], 1, 0, 2, true, 0⟩), (81, ⟨[77, 76, 79, 65, 68], 1, 1, 3, false, 0⟩), (82, ⟨[77, 83, 84, 79, 82, 69], 2, 0, 3, false, 0⟩), (83, ⟨[77, 83, 84, 79, 82, 69, 56], 2, 0, 3, false, 0⟩), (84, ⟨[83, 76, 79, 65, 68], 1, 1, 0, false, 0⟩), (85, ⟨[83, 83, 84, 79, 82, 69], 2, 0, 0, false, 0⟩), (86, ⟨[74, 85, 77, 80], 1, 0, 8, false, 0⟩), (87, ⟨[74, 85, 77, 80, 73], 2, 0, 10, false, 0⟩), (88, ⟨[80, 67], 0, 1, 2, true, 0⟩), (89, ⟨[77, 83, 73, 90, 69], 0, 1, 2, true, 0⟩), (90, ⟨[71, 65, 83], 0, 1, 2, false, 0⟩), (91, ⟨[74, 85, 77, 80, 68, 69, 83, 84], 0, 0, 1, true, 0⟩), (95, ⟨[80, 85, 83, 72, 48], 0, 1, 2, true, 0⟩), (240, ⟨[67, 82, 69, 65, 84, 69], 3, 1, 32000, false, 0⟩), (241, ⟨[67, 65, 76, 76], 7, 1, 0, false, 0⟩), (242, ⟨[67, 65, 76, 76, 67, 79, 68, 69], 7, 1, 0, false, 0⟩), (243, ⟨[82, 69, 84, 85, 82, 78], 2, 0, 0, false, 0⟩), (244, ⟨[68, 69, 76, 69, 71, 65, 84, 69, 67, 65, 76, 76], 6, 1, 0, false, 0⟩), (245, ⟨[67, 82, 69, 65, 84, 69, 50], 4, 1, 32000, false, 0⟩), (250, ⟨[83, 84, 65, 84, 73, 67, 67, 65, 76, 76], 6, 1, 0, false, 0⟩), (253, ⟨[82, 69, 86, 69, 82, 84], 2, 0, 0, false, 0⟩), (254, ⟨[73, 78, 86, 65, 76, 73, 68], 0, 0, 0, false, 0⟩), (255, ⟨[83, 69, 76, 70, 68, 69, 83, 84, 82, 85, 67, 84], 1, 0, 5000, false, 0⟩)]
def hiO (n : Nat) : OI := (hiT.lookup n).getD noOp
theorem hiO_none (n : Nat) (h0 : n ≠ 71) (h1 : n ≠ 72) (h2 : n ≠ 80) (h3 : n ≠ 81) (h4 : n ≠ 82) (h5 : n ≠ 83) (h6 : n ≠ 84) (h7 : n ≠ 85) (h8 : n ≠ 86) (h9 : n ≠ 87) (h10 : n ≠ 88) (h11 : n ≠ 89) (h12 : n ≠ 90) (h13 : n ≠ 91) (h14 : n ≠ 95) (h15 : n ≠ 240) (h16 : n ≠ 241) (h17 : n ≠ 242) (h18 : n ≠ 243) (h19 : n ≠ 244) (h20 : n ≠ 245) (h21 : n ≠ 250) (h22 : n ≠ 253) (h23 : n ≠ 254) (h24 : n ≠ 255) : hiO n = noOp := by
  unfold hiO hiT
  simp only [List.lookup_cons, List.lookup_nil, beq_eq_false_iff_ne.2 h0, beq_eq_false_iff_ne.2 h1, beq_eq_false_iff_ne.2 h2, beq_eq_false_iff_ne.2 h3, beq_eq_false_iff_ne.2 h4, beq_eq_false_iff_ne.2 h5, beq_eq_false_iff_ne.2 h6, beq_eq_false_iff_ne.2 h7, beq_eq_false_iff_ne.2 h8, beq_eq_false_iff_ne.2 h9, beq_eq_false_iff_ne.2 h10, beq_eq_false_iff_ne.2 h11, beq_eq_false_iff_ne.2 h12, beq_eq_false_iff_ne.2 h13, beq_eq_false_iff_ne.2 h14, beq_eq_false_iff_ne.2 h15, beq_eq_false_iff_ne.2 h16, beq_eq_false_iff_ne.2 h17, beq_eq_false_iff_ne.2 h18, beq_eq_false_iff_ne.2 h19, beq_eq_false_iff_ne.2 h20, beq_eq_false_iff_ne.2 h21, beq_eq_false_iff_ne.2 h22, beq_eq_false_iff_ne.2 h23, beq_eq_false_iff_ne.2 h24]
  rfl
set_option maxRecDepth 100000 in
set_option maxHeartbeats 4000000 in
theorem high_any (n : Nat) (w : World) : Calls Tryd.prog 35 #[.int .u8 n] w fun e w' => e = .returned (.agg (oiC (hiO n))) ∧ Below w.heap.size w w' := by
  go_enter Tryd.func35, Tryd.ntmps35
  go_wp2_with fail
  · rename_i h
    have e := eq_of_beq h
    obtain rfl : n = 71 := by omega
    refine bodyPost_ret (ret_oi rfl rfl (Blk.new w _ _) rfl) rfl ?_
    exact ⟨rfl, balloc (Below.refl _ _) _⟩
  · rename_i h
    have e := eq_of_beq h
    obtain rfl : n = 72 := by omega
    refine bodyPost_ret (ret_oi rfl rfl (Blk.new w _ _) rfl) rfl ?_
    exact ⟨rfl, balloc (Below.refl _ _) _⟩
  · rename_i h
    have e := eq_of_beq h
    obtain rfl : n = 80 := by omega
    refine bodyPost_ret (ret_oi rfl rfl (Blk.new w _ _) rfl) rfl ?_
    exact ⟨rfl, balloc (Below.refl _ _) _⟩
  · rename_i h
    have e := eq_of_beq h
    obtain rfl : n = 81 := by omega
    refine bodyPost_ret (ret_oi rfl rfl (Blk.new w _ _) rfl) rfl ?_
    exact ⟨rfl, balloc (Below.refl _ _) _⟩
  · rename_i h
    have e := eq_of_beq h
    obtain rfl : n = 82 := by omega
    refine bodyPost_ret (ret_oi rfl rfl (Blk.new w _ _) rfl) rfl ?_
    exact ⟨rfl, balloc (Below.refl _ _) _⟩
  · rename_i h
    have e := eq_of_beq h
    obtain rfl : n = 83 := by omega
    refine bodyPost_ret (ret_oi rfl rfl (Blk.new w _ _) rfl) rfl ?_
    exact ⟨rfl, balloc (Below.refl _ _) _⟩
  · rename_i h
    have e := eq_of_beq h
    obtain rfl : n = 84 := by omega
    refine bodyPost_ret (ret_oi rfl rfl (Blk.new w _ _) rfl) rfl ?_
    exact ⟨rfl, balloc (Below.refl _ _) _⟩
  · rename_i h
    have e := eq_of_beq h
    obtain rfl : n = 85 := by omega
    refine bodyPost_ret (ret_oi rfl rfl (Blk.new w _ _) rfl) rfl ?_
    exact ⟨rfl, balloc (Below.refl _ _) _⟩
  · rename_i h
    have e := eq_of_beq h
    obtain rfl : n = 86 := by omega
    refine bodyPost_ret (ret_oi rfl rfl (Blk.new w _ _) rfl) rfl ?_
    exact ⟨rfl, balloc (Below.refl _ _) _⟩
  · rename_i h
    have e := eq_of_beq h
    obtain rfl : n = 87 := by omega
    refine bodyPost_ret (ret_oi rfl rfl (Blk.new w _ _) rfl) rfl ?_
    exact ⟨rfl, balloc (Below.refl _ _) _⟩
  · rename_i h
    have e := eq_of_beq h
    obtain rfl : n = 88 := by omega
    refine bodyPost_ret (ret_oi rfl rfl (Blk.new w _ _) rfl) rfl ?_
    exact ⟨rfl, balloc (Below.refl _ _) _⟩
  · rename_i h
    have e := eq_of_beq h
    obtain rfl : n = 89 := by omega
    refine bodyPost_ret (ret_oi rfl rfl (Blk.new w _ _) rfl) rfl ?_
    exact ⟨rfl, balloc (Below.refl _ _) _⟩
  · rename_i h
    have e := eq_of_beq h
    obtain rfl : n = 90 := by omega
    refine bodyPost_ret (ret_oi rfl rfl (Blk.new w _ _) rfl) rfl ?_
    exact ⟨rfl, balloc (Below.refl _ _) _⟩
  · rename_i h
    have e := eq_of_beq h
    obtain rfl : n = 91 := by omega
    refine bodyPost_ret (ret_oi rfl rfl (Blk.new w _ _) rfl) rfl ?_
    exact ⟨rfl, balloc (Below.refl _ _) _⟩
  · rename_i h
    have e := eq_of_beq h
    obtain rfl : n = 95 := by omega
    refine bodyPost_ret (ret_oi rfl rfl (Blk.new w _ _) rfl) rfl ?_
    exact ⟨rfl, balloc (Below.refl _ _) _⟩
  · rename_i h
    have e := eq_of_beq h
    obtain rfl : n = 240 := by omega
    refine bodyPost_ret (ret_oi rfl rfl (Blk.new w _ _) rfl) rfl ?_
    exact ⟨rfl, balloc (Below.refl _ _) _⟩
  · rename_i h
    have e := eq_of_beq h
    obtain rfl : n = 241 := by omega
    refine bodyPost_ret (ret_oi rfl rfl (Blk.new w _ _) rfl) rfl ?_
    exact ⟨rfl, balloc (Below.refl _ _) _⟩
  · rename_i h
    have e := eq_of_beq h
    obtain rfl : n = 242 := by omega
    refine bodyPost_ret (ret_oi rfl rfl (Blk.new w _ _) rfl) rfl ?_
    exact ⟨rfl, balloc (Below.refl _ _) _⟩
  · rename_i h
    have e := eq_of_beq h
    obtain rfl : n = 243 := by omega
    refine bodyPost_ret (ret_oi rfl rfl (Blk.new w _ _) rfl) rfl ?_
    exact ⟨rfl, balloc (Below.refl _ _) _⟩
  · rename_i h
    have e := eq_of_beq h
    obtain rfl : n = 244 := by omega
    refine bodyPost_ret (ret_oi rfl rfl (Blk.new w _ _) rfl) rfl ?_
    exact ⟨rfl, balloc (Below.refl _ _) _⟩
  · rename_i h
    have e := eq_of_beq h
    obtain rfl : n = 245 := by omega
    refine bodyPost_ret (ret_oi rfl rfl (Blk.new w _ _) rfl) rfl ?_
    exact ⟨rfl, balloc (Below.refl _ _) _⟩
  · rename_i h
    have e := eq_of_beq h
    obtain rfl : n = 250 := by omega
    refine bodyPost_ret (ret_oi rfl rfl (Blk.new w _ _) rfl) rfl ?_
    exact ⟨rfl, balloc (Below.refl _ _) _⟩
  · rename_i h
    have e := eq_of_beq h
    obtain rfl : n = 253 := by omega
    refine bodyPost_ret (ret_oi rfl rfl (Blk.new w _ _) rfl) rfl ?_
    exact ⟨rfl, balloc (Below.refl _ _) _⟩
  · rename_i h
    have e := eq_of_beq h
    obtain rfl : n = 254 := by omega
    refine bodyPost_ret (ret_oi rfl rfl (Blk.new w _ _) rfl) rfl ?_
    exact ⟨rfl, balloc (Below.refl _ _) _⟩
  · rename_i h
    have e := eq_of_beq h
    obtain rfl : n = 255 := by omega
    refine bodyPost_ret (ret_oi rfl rfl (Blk.new w _ _) rfl) rfl ?_
    exact ⟨rfl, balloc (Below.refl _ _) _⟩
  · (try simp only [beq_eq_false_iff_ne] at *)
    rw [hiO_none n (by omega) (by omega) (by omega) (by omega) (by omega) (by omega) (by omega) (by omega) (by omega) (by omega) (by omega) (by omega) (by omega) (by omega) (by omega) (by omega) (by omega) (by omega) (by omega) (by omega) (by omega) (by omega) (by omega) (by omega) (by omega)]
    refine bodyPost_ret (ret_oi rfl rfl (Blk.new w _ _) rfl) rfl ?_
    exact ⟨rfl, balloc (Below.refl _ _) _⟩
end Go.Proofs.YtcdmaapjcckbmaaDoor
