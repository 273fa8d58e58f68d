/- account: bare, dead. -/
import Derived.Test.YtcplhalgjjhmdaaAch
namespace Go.Proofs.Ytcplhalgjjhmdaa
open Go.RowKit Go.Shelf Go.ChangeMaps Go.MapKept

theorem aeqW (n m : Nat) (hn : n < MM) (hm : m < MM) (w : World) : (binOp .eql 33 (W n) (W m)).run Try.prog w = .ok (.bool (n == m)) w := by
  rw [run_eql_struct, show (10000 : Nat) = 9998 + 1 + 1 from rfl, equalIn_word, all4 n m hn hm]; rfl
theorem aeqW0 (n : Nat) (hn : n < MM) (w : World) : (binOp .eql 33 (.agg #[.int .u64 (lb n 0), .int .u64 (lb n 1), .int .u64 (lb n 2), .int .u64 (lb n 3)]) (.agg #[.int .u64 0, .int .u64 0, .int .u64 0, .int .u64 0])).run Try.prog w = .ok (.bool (n == 0)) w := by
  have h := aeqW n 0 hn (by decide) w
  simp only [W, lb0] at h
  exact h
/-- Is an account bare? -/
def baB (e : En) : Bool := e.2.1 == 0 && e.2.2.1.isEmpty
theorem coS_emp (l : List Nat) : (coS l).toList.isEmpty = l.isEmpty := by
  rw [coS_list]; cases l <;> rfl
set_option maxRecDepth 100000 in
set_option maxHeartbeats 4000000 in
theorem bare_any (e : En) (w : World) : Calls Try.prog 50 #[.agg (boC e)] w fun r w' => r = .returned (.bool (baB e)) ∧ Below w.heap.size w w' := by
  obtain ⟨v, n, l, o⟩ := e
  obtain ⟨S, hS⟩ : ∃ S, coS l = S := ⟨_, rfl⟩
  have hSe := coS_emp l
  rw [hS] at hSe
  obtain ⟨X, hX⟩ : ∃ X, w.alloc (.cells #[.int .u64 (lb v.1 0), .int .u64 (lb v.1 1), .int .u64 (lb v.1 2), .int .u64 (lb v.1 3), .int .u64 (v.2 : Nat), .int .u64 (n : Nat), .string S] 70) = X := ⟨_, rfl⟩
  have b1 : Blk X w.heap.size 70 #[.int .u64 (lb v.1 0), .int .u64 (lb v.1 1), .int .u64 (lb v.1 2), .int .u64 (lb v.1 3), .int .u64 (v.2 : Nat), .int .u64 (n : Nat), .string S] := by rw [← hX]; exact Blk.new w _ _
  have hW : Below w.heap.size w X := by rw [← hX]; exact balloc (Below.refl _ _) _
  have c5 : X.cell? ⟨w.heap.size, 5, none⟩ = some (.int .u64 (n : Nat)) := cell_of_row _ _ 5 _ _ _ b1
  have c6 : X.cell? ⟨w.heap.size, 6, none⟩ = some (.string S) := cell_of_row _ _ 6 _ _ _ b1
  have hb : boC (v, n, l, o) = #[.int .u64 (lb v.1 0), .int .u64 (lb v.1 1), .int .u64 (lb v.1 2), .int .u64 (lb v.1 3), .int .u64 (v.2 : Nat), .int .u64 (n : Nat), .string S] := by rw [← hS]
  have HR := Lib.hid (show baB (v, n, l, o) = (n == 0 && l.isEmpty) from rfl)
  rw [hb]
  have HX := Lib.hid (And.intro hX hW)
  obtain ⟨q, hq⟩ : ∃ q, l.isEmpty = q := ⟨_, rfl⟩
  rw [hq] at hSe HR
  clear hX b1 hW hb hS hq
  by_cases hn : n = 0
  · have hn1 : ((n : Int) == 0) = true := by rw [hn]; rfl
    have HN := Lib.hid hn
    clear hn
    go_enter Try.func50, Try.ntmps50
    go_upto_region 1 with fail
    rw [HX.out.1]
    go_wp2_with fail
    go_ret
    exact ⟨by rw [HR.out, HN.out]; cases q <;> rfl, HX.out.2⟩
  · have hn1 : ((n : Int) == 0) = false := by rw [beq_eq_false_iff_ne]; omega
    have hn2 : (n == 0) = false := by rw [beq_eq_false_iff_ne]; exact hn
    have HN := Lib.hid hn2
    clear hn hn2
    go_enter Try.func50, Try.ntmps50
    go_upto_region 1 with fail
    rw [HX.out.1]
    go_wp2_with (first | with_reducible refine And.intro (fun f h => (by cases h)) ?_ | fail)
    go_ret
    exact ⟨by rw [HR.out, HN.out]; rfl, HX.out.2⟩
set_option maxRecDepth 100000 in
set_option maxHeartbeats 4000000 in
theorem dead_any (e : En) (he : okP e.1) (w : World) : Calls Try.prog 34 #[.agg (boC e)] w fun r w' => r = .returned (.tuple #[.bool (baB e && e.1.1 == 0), .bool (baB e && !(e.1.2 == 0))]) ∧ Below w.heap.size w w' := by
  have HB0 := Lib.hid (fun Z => bare_any e Z)
  obtain ⟨v, n, l, o⟩ := e
  replace he : okP v := he
  show Calls _ _ _ w fun r w' => r = .returned (.tuple #[.bool (baB (v, n, l, o) && v.1 == 0), .bool (baB (v, n, l, o) && !(v.2 == 0))]) ∧ Below w.heap.size w w'
  obtain ⟨S, hS⟩ : ∃ S, coS l = S := ⟨_, rfl⟩
  obtain ⟨X, hX⟩ : ∃ X, w.alloc (.cells #[.int .u64 (lb v.1 0), .int .u64 (lb v.1 1), .int .u64 (lb v.1 2), .int .u64 (lb v.1 3), .int .u64 (v.2 : Nat), .int .u64 (n : Nat), .string S] 70) = X := ⟨_, rfl⟩
  have b1 : Blk X w.heap.size 70 #[.int .u64 (lb v.1 0), .int .u64 (lb v.1 1), .int .u64 (lb v.1 2), .int .u64 (lb v.1 3), .int .u64 (v.2 : Nat), .int .u64 (n : Nat), .string S] := by rw [← hX]; exact Blk.new w _ _
  have hW : Below w.heap.size w X := by rw [← hX]; exact balloc (Below.refl _ _) _
  have c0 : X.cell? ⟨w.heap.size, 0, none⟩ = some (.int .u64 (lb v.1 0)) := cell_of_row _ _ 0 _ _ _ b1
  have c1 : X.cell? ⟨w.heap.size, 1, none⟩ = some (.int .u64 (lb v.1 1)) := cell_of_row _ _ 1 _ _ _ b1
  have c2 : X.cell? ⟨w.heap.size, 2, none⟩ = some (.int .u64 (lb v.1 2)) := cell_of_row _ _ 2 _ _ _ b1
  have c3 : X.cell? ⟨w.heap.size, 3, none⟩ = some (.int .u64 (lb v.1 3)) := cell_of_row _ _ 3 _ _ _ b1
  have c4 : X.cell? ⟨w.heap.size, 4, none⟩ = some (.int .u64 (v.2 : Nat)) := cell_of_row _ _ 4 _ _ _ b1
  have c5 : X.cell? ⟨w.heap.size, 5, none⟩ = some (.int .u64 (n : Nat)) := cell_of_row _ _ 5 _ _ _ b1
  have c6 : X.cell? ⟨w.heap.size, 6, none⟩ = some (.string S) := cell_of_row _ _ 6 _ _ _ b1
  have hb : boC (v, n, l, o) = #[.int .u64 (lb v.1 0), .int .u64 (lb v.1 1), .int .u64 (lb v.1 2), .int .u64 (lb v.1 3), .int .u64 (v.2 : Nat), .int .u64 (n : Nat), .string S] := by rw [← hS]
  have HB := Lib.hid (fun Z => (by have h := HB0.out Z; rw [hb] at h; exact h : Calls Try.prog 50 #[.agg #[.int .u64 (lb v.1 0), .int .u64 (lb v.1 1), .int .u64 (lb v.1 2), .int .u64 (lb v.1 3), .int .u64 (v.2 : Nat), .int .u64 (n : Nat), .string S]] Z fun r w' => r = .returned (.bool (baB (v, n, l, o))) ∧ Below Z.heap.size Z w'))
  rw [hb]
  have HX := Lib.hid (And.intro hX (And.intro b1 hW))
  have hw0 := fun Z => aeqW0 v.1 he.1 Z
  have hv2 : ((v.2 : Int) == 0) = (v.2 == 0) := int_beq v.2 0
  have hv3 : ((v.2 : Int) != 0) = !(v.2 == 0) := by rw [← hv2]; rfl
  generalize baB (v, n, l, o) = t at *
  generalize (v.1 == 0) = q1 at *
  generalize (v.2 == 0) = q2 at *
  clear hX b1 hW hb hS he HB0
  cases t
  · go_enter Try.func34, Try.ntmps34
    go_upto_region 1 with fail
    rw [HX.out.1]
    go_upto_region 2 with (first
      | (go_at_call 50; refine (HB.out _).mono ?_; rintro e z1 ⟨rfl, hz1⟩; have f0 : z1.cell? ⟨w.heap.size, 0, none⟩ = some (.int .u64 (lb v.1 0)) := cell_of_row _ _ 0 _ _ _ (HX.out.2.1.keep hz1); have f1 : z1.cell? ⟨w.heap.size, 1, none⟩ = some (.int .u64 (lb v.1 1)) := cell_of_row _ _ 1 _ _ _ (HX.out.2.1.keep hz1); have f2 : z1.cell? ⟨w.heap.size, 2, none⟩ = some (.int .u64 (lb v.1 2)) := cell_of_row _ _ 2 _ _ _ (HX.out.2.1.keep hz1); have f3 : z1.cell? ⟨w.heap.size, 3, none⟩ = some (.int .u64 (lb v.1 3)) := cell_of_row _ _ 3 _ _ _ (HX.out.2.1.keep hz1); have f4 : z1.cell? ⟨w.heap.size, 4, none⟩ = some (.int .u64 (v.2 : Nat)) := cell_of_row _ _ 4 _ _ _ (HX.out.2.1.keep hz1); have f5 : z1.cell? ⟨w.heap.size, 5, none⟩ = some (.int .u64 (n : Nat)) := cell_of_row _ _ 5 _ _ _ (HX.out.2.1.keep hz1); have f6 : z1.cell? ⟨w.heap.size, 6, none⟩ = some (.string S) := cell_of_row _ _ 6 _ _ _ (HX.out.2.1.keep hz1))
      | with_reducible refine And.intro (fun f h => (by cases h)) ?_
      | fail)
    clear c0 c1 c2 c3 c4 c5 c6
    have H1 := Lib.hid hz1
    clear hz1
    go_wp2_with (first
      | (go_at_call 50; refine (HB.out _).mono ?_; rintro e z2 ⟨rfl, hz2⟩; have g0 : z2.cell? ⟨w.heap.size, 0, none⟩ = some (.int .u64 (lb v.1 0)) := cell_of_row _ _ 0 _ _ _ ((HX.out.2.1.keep H1.out).keep hz2); have g1 : z2.cell? ⟨w.heap.size, 1, none⟩ = some (.int .u64 (lb v.1 1)) := cell_of_row _ _ 1 _ _ _ ((HX.out.2.1.keep H1.out).keep hz2); have g2 : z2.cell? ⟨w.heap.size, 2, none⟩ = some (.int .u64 (lb v.1 2)) := cell_of_row _ _ 2 _ _ _ ((HX.out.2.1.keep H1.out).keep hz2); have g3 : z2.cell? ⟨w.heap.size, 3, none⟩ = some (.int .u64 (lb v.1 3)) := cell_of_row _ _ 3 _ _ _ ((HX.out.2.1.keep H1.out).keep hz2); have g4 : z2.cell? ⟨w.heap.size, 4, none⟩ = some (.int .u64 (v.2 : Nat)) := cell_of_row _ _ 4 _ _ _ ((HX.out.2.1.keep H1.out).keep hz2); have g5 : z2.cell? ⟨w.heap.size, 5, none⟩ = some (.int .u64 (n : Nat)) := cell_of_row _ _ 5 _ _ _ ((HX.out.2.1.keep H1.out).keep hz2); have g6 : z2.cell? ⟨w.heap.size, 6, none⟩ = some (.string S) := cell_of_row _ _ 6 _ _ _ ((HX.out.2.1.keep H1.out).keep hz2))
      | with_reducible refine And.intro (fun f h => (by cases h)) ?_
      | fail)
    go_ret2
    exact ⟨rfl, bstep (bstep HX.out.2.2 H1.out) hz2⟩
  · go_enter Try.func34, Try.ntmps34
    go_upto_region 1 with fail
    rw [HX.out.1]
    go_upto_region 2 with (first
      | (go_at_call 50; refine (HB.out _).mono ?_; rintro e z1 ⟨rfl, hz1⟩; have f0 : z1.cell? ⟨w.heap.size, 0, none⟩ = some (.int .u64 (lb v.1 0)) := cell_of_row _ _ 0 _ _ _ (HX.out.2.1.keep hz1); have f1 : z1.cell? ⟨w.heap.size, 1, none⟩ = some (.int .u64 (lb v.1 1)) := cell_of_row _ _ 1 _ _ _ (HX.out.2.1.keep hz1); have f2 : z1.cell? ⟨w.heap.size, 2, none⟩ = some (.int .u64 (lb v.1 2)) := cell_of_row _ _ 2 _ _ _ (HX.out.2.1.keep hz1); have f3 : z1.cell? ⟨w.heap.size, 3, none⟩ = some (.int .u64 (lb v.1 3)) := cell_of_row _ _ 3 _ _ _ (HX.out.2.1.keep hz1); have f4 : z1.cell? ⟨w.heap.size, 4, none⟩ = some (.int .u64 (v.2 : Nat)) := cell_of_row _ _ 4 _ _ _ (HX.out.2.1.keep hz1); have f5 : z1.cell? ⟨w.heap.size, 5, none⟩ = some (.int .u64 (n : Nat)) := cell_of_row _ _ 5 _ _ _ (HX.out.2.1.keep hz1); have f6 : z1.cell? ⟨w.heap.size, 6, none⟩ = some (.string S) := cell_of_row _ _ 6 _ _ _ (HX.out.2.1.keep hz1))
      | with_reducible refine And.intro (fun f h => (by cases h)) ?_
      | fail)
    clear c0 c1 c2 c3 c4 c5 c6
    have H1 := Lib.hid hz1
    clear hz1
    go_wp2_with (first
      | (go_at_call 50; refine (HB.out _).mono ?_; rintro e z2 ⟨rfl, hz2⟩; have g0 : z2.cell? ⟨w.heap.size, 0, none⟩ = some (.int .u64 (lb v.1 0)) := cell_of_row _ _ 0 _ _ _ ((HX.out.2.1.keep H1.out).keep hz2); have g1 : z2.cell? ⟨w.heap.size, 1, none⟩ = some (.int .u64 (lb v.1 1)) := cell_of_row _ _ 1 _ _ _ ((HX.out.2.1.keep H1.out).keep hz2); have g2 : z2.cell? ⟨w.heap.size, 2, none⟩ = some (.int .u64 (lb v.1 2)) := cell_of_row _ _ 2 _ _ _ ((HX.out.2.1.keep H1.out).keep hz2); have g3 : z2.cell? ⟨w.heap.size, 3, none⟩ = some (.int .u64 (lb v.1 3)) := cell_of_row _ _ 3 _ _ _ ((HX.out.2.1.keep H1.out).keep hz2); have g4 : z2.cell? ⟨w.heap.size, 4, none⟩ = some (.int .u64 (v.2 : Nat)) := cell_of_row _ _ 4 _ _ _ ((HX.out.2.1.keep H1.out).keep hz2); have g5 : z2.cell? ⟨w.heap.size, 5, none⟩ = some (.int .u64 (n : Nat)) := cell_of_row _ _ 5 _ _ _ ((HX.out.2.1.keep H1.out).keep hz2); have g6 : z2.cell? ⟨w.heap.size, 6, none⟩ = some (.string S) := cell_of_row _ _ 6 _ _ _ ((HX.out.2.1.keep H1.out).keep hz2))
      | with_reducible refine And.intro (fun f h => (by cases h)) ?_
      | fail)
    go_ret2
    exact ⟨rfl, bstep (bstep HX.out.2.2 H1.out) hz2⟩
end Go.Proofs.Ytcplhalgjjhmdaa
