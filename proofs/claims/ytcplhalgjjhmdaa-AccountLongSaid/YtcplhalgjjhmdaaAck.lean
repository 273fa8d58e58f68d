/- account: the reference's Same. -/
import Derived.Test.YtcplhalgjjhmdaaAcj
namespace Go.Proofs.Ytcplhalgjjhmdaa
open Go.RowKit Go.Shelf Go.ChangeMaps Go.MapKept

theorem coS_eq {l m : List Nat} (hl : ∀ x ∈ l, x < 256) (hm : ∀ x ∈ m, x < 256) : ((coS l).toList == (coS m).toList) = decide (l = m) := by
  rw [Bool.eq_iff_iff, beq_iff_eq, decide_eq_true_iff, coS_list, coS_list]
  exact ⟨fun h => coS_inj hl hm (by unfold coS; rw [h]), fun h => by rw [h]⟩
/-- Are two accounts the same? -/
def saB (v : Nat × Nat) (n : Nat) (l : List Nat) (u : Nat × Nat) (k : Nat) (m : List Nat) : Bool := decide (v = u) && (n == k) && decide (l = m)
set_option maxRecDepth 100000 in
set_option maxHeartbeats 4000000 in
theorem asame_any (v u : Nat × Nat) (hv : okP v) (hu : okP u) (n k : Nat) (c d : Value) (l m : List Nat) (B C : Nat) (w : World) (hc : Bto B w c l) (hd : Bto C w d m) (hl : l.length ≤ 100000) (hm : m.length ≤ 100000) :
    Calls Try.prog 15 #[.agg (acC v n c), .agg (acC u k d)] w fun r w' => r = .returned (.bool (saB v n l u k m)) ∧ Below w.heap.size w w' := by
  obtain ⟨x, cx, rfl⟩ : ∃ x cap, c = .slice x l.length cap := by obtain ⟨_, x, cap, h, _⟩ := hc; exact ⟨x, cap, h⟩
  obtain ⟨y, cy, rfl⟩ : ∃ x cap, d = .slice x m.length cap := by obtain ⟨_, x, cap, h, _⟩ := hd; exact ⟨x, cap, h⟩
  obtain ⟨N, hN⟩ : ∃ N, l.length = N := ⟨_, rfl⟩
  obtain ⟨K, hK⟩ : ∃ N, m.length = N := ⟨_, rfl⟩
  rw [hN] at hc ⊢
  rw [hK] at hd ⊢
  obtain ⟨X, hX⟩ : ∃ X, (w.alloc (.cells #[.int .u64 (lb v.1 0), .int .u64 (lb v.1 1), .int .u64 (lb v.1 2), .int .u64 (lb v.1 3), .int .u64 (v.2 : Nat), .int .u64 (n : Nat), .slice x N cx] 38)).alloc (.cells #[.int .u64 (lb u.1 0), .int .u64 (lb u.1 1), .int .u64 (lb u.1 2), .int .u64 (lb u.1 3), .int .u64 (u.2 : Nat), .int .u64 (k : Nat), .slice y K cy] 38) = X := ⟨_, rfl⟩
  have b1 : Blk X w.heap.size 38 #[.int .u64 (lb v.1 0), .int .u64 (lb v.1 1), .int .u64 (lb v.1 2), .int .u64 (lb v.1 3), .int .u64 (v.2 : Nat), .int .u64 (n : Nat), .slice x N cx] := by rw [← hX]; exact (Blk.new w _ _).alloc _
  have b2 : Blk X (w.heap.size + 1) 38 #[.int .u64 (lb u.1 0), .int .u64 (lb u.1 1), .int .u64 (lb u.1 2), .int .u64 (lb u.1 3), .int .u64 (u.2 : Nat), .int .u64 (k : Nat), .slice y K cy] := by rw [← hX]; exact Blk.newS w _ _ _
  have hW : Below w.heap.size w X := by rw [← hX]; exact balloc (balloc (Below.refl _ _) _) _
  have e1 := aconv B (.slice x N cx) l X (hc.new hW) hl
  have e2 := aconv C (.slice y K cy) m X (hd.new hW) hm
  have e3 := coS_eq hc.1 hd.1
  generalize coS l = s1 at e1 e3
  generalize coS m = s2 at e2 e3
  have e4 := fun Z => eqVal_any v u hv hu Z
  have e5 : ((n : Int) == (k : Int)) = (n == k) := int_beq n k
  have HR := Lib.hid (show saB v n l u k m = (decide (v = u) && (n == k) && decide (l = m)) from rfl)
  have c0 : X.cell? ⟨w.heap.size, 0, none⟩ = some (.int .u64 (lb v.1 0)) := cell_of_row _ _ 0 _ _ _ b1
  have c1 : X.cell? ⟨w.heap.size, 1, none⟩ = some (.int .u64 (lb v.1 1)) := cell_of_row _ _ 1 _ _ _ b1
  have c2 : X.cell? ⟨w.heap.size, 2, none⟩ = some (.int .u64 (lb v.1 2)) := cell_of_row _ _ 2 _ _ _ b1
  have c3 : X.cell? ⟨w.heap.size, 3, none⟩ = some (.int .u64 (lb v.1 3)) := cell_of_row _ _ 3 _ _ _ b1
  have c4 : X.cell? ⟨w.heap.size, 4, none⟩ = some (.int .u64 (v.2 : Nat)) := cell_of_row _ _ 4 _ _ _ b1
  have c5 : X.cell? ⟨w.heap.size, 5, none⟩ = some (.int .u64 (n : Nat)) := cell_of_row _ _ 5 _ _ _ b1
  have c6 : X.cell? ⟨w.heap.size, 6, none⟩ = some (.slice x N cx) := cell_of_row _ _ 6 _ _ _ b1
  have d0 : X.cell? ⟨w.heap.size + 1, 0, none⟩ = some (.int .u64 (lb u.1 0)) := cell_of_row _ _ 0 _ _ _ b2
  have d1 : X.cell? ⟨w.heap.size + 1, 1, none⟩ = some (.int .u64 (lb u.1 1)) := cell_of_row _ _ 1 _ _ _ b2
  have d2 : X.cell? ⟨w.heap.size + 1, 2, none⟩ = some (.int .u64 (lb u.1 2)) := cell_of_row _ _ 2 _ _ _ b2
  have d3 : X.cell? ⟨w.heap.size + 1, 3, none⟩ = some (.int .u64 (lb u.1 3)) := cell_of_row _ _ 3 _ _ _ b2
  have d4 : X.cell? ⟨w.heap.size + 1, 4, none⟩ = some (.int .u64 (u.2 : Nat)) := cell_of_row _ _ 4 _ _ _ b2
  have d5 : X.cell? ⟨w.heap.size + 1, 5, none⟩ = some (.int .u64 (k : Nat)) := cell_of_row _ _ 5 _ _ _ b2
  have d6 : X.cell? ⟨w.heap.size + 1, 6, none⟩ = some (.slice y K cy) := cell_of_row _ _ 6 _ _ _ b2
  have HX := Lib.hid (And.intro hX hW)
  rw [HR.out]
  generalize decide (v = u) = t1 at *
  generalize (n == k) = t2 at *
  generalize decide (l = m) = t3 at *
  clear hX b1 b2 hW hc hd hl hm hv hu hN hK HR
  cases t1
  · cases t2 <;> cases t3
    all_goals
      go_enter Try.func15, Try.ntmps15
      go_upto_region 1 with fail
      rw [HX.out.1]
      go_wp2_with (first | with_reducible refine And.intro (fun f h => (by cases h)) ?_ | fail)
      go_ret
      exact ⟨rfl, HX.out.2⟩
  · cases t2
    · cases t3
      all_goals
        go_enter Try.func15, Try.ntmps15
        go_upto_region 1 with fail
        rw [HX.out.1]
        go_wp2_with (first | with_reducible refine And.intro (fun f h => (by cases h)) ?_ | fail)
        go_ret
        exact ⟨rfl, HX.out.2⟩
    · cases t3
      all_goals
        go_enter Try.func15, Try.ntmps15
        go_upto_region 1 with fail
        rw [HX.out.1]
        go_wp2_with (first | with_reducible refine And.intro (fun f h => (by cases h)) ?_ | fail)
        go_ret
        exact ⟨rfl, HX.out.2⟩
end Go.Proofs.Ytcplhalgjjhmdaa
