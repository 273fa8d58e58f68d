/- policy's laws: Same. -/
import Derived.Test.YtenepkgjdoddgaaGreatDoorNg
namespace Go.Proofs.YtenepkgjdoddgaaGreatDoor
open Go.RowKit Go.Shelf

set_option maxRecDepth 100000 in
set_option maxHeartbeats 4000000 in
theorem psame_any (d e : Nat) (cv rv cu ru : Value) (cs es : List (List Nat × Nat)) (rs ts : List (List Nat × Nat × Nat)) (w : World) (hcs : ClA w cv cs) (hrs : RlA w rv rs) (hes : ClA w cu es) (hts : RlA w ru ts) :
    Calls Tryz.prog 24 #[.agg #[.int .u64 d, cv, rv], .agg #[.int .u64 e, cu, ru]] w fun r w' => r = .returned (.bool (decide (d = e ∧ cs = es ∧ rs = ts))) ∧ Below w.heap.size w w' := by
  obtain ⟨X, hX⟩ : ∃ X, (w.alloc (.cells #[.int .u64 d, cv, rv] 27)).alloc (.cells #[.int .u64 e, cu, ru] 27) = X := ⟨_, rfl⟩
  have b1 : Blk X w.heap.size 27 #[.int .u64 d, cv, rv] := by rw [← hX]; exact (Blk.new w _ _).alloc _
  have b2 : Blk X (w.heap.size + 1) 27 #[.int .u64 e, cu, ru] := by rw [← hX]; exact Blk.newS w _ _ _
  have hW : Below w.heap.size w X := by rw [← hX]; exact balloc (balloc (Below.refl _ _) _) _
  have HX := Lib.hid hX
  have HC := Lib.hid (fun (Y : World) (hY : Below X.heap.size X Y) => sequalC_any cs es cv cu Y (hcs.new (hW.trans (hY.mono hW.size))) (hes.new (hW.trans (hY.mono hW.size))))
  have HR := Lib.hid (fun (Y : World) (hY : Below X.heap.size X Y) => sequalR_any rs ts rv ru Y (hrs.new (hW.trans (hY.mono hW.size))) (hts.new (hW.trans (hY.mono hW.size))))
  have HP := Lib.hid (fun (Y : World) (hY : Below X.heap.size X Y) => (by
    have q := b1.keep hY
    have r := b2.keep hY
    exact ⟨cell_of_row _ _ 0 _ _ _ q, cell_of_row _ _ 1 _ _ _ q, cell_of_row _ _ 2 _ _ _ q, cell_of_row _ _ 0 _ _ _ r, cell_of_row _ _ 1 _ _ _ r, cell_of_row _ _ 2 _ _ _ r⟩ : Y.cell? ⟨w.heap.size, 0, none⟩ = some (.int .u64 d) ∧ Y.cell? ⟨w.heap.size, 1, none⟩ = some cv ∧ Y.cell? ⟨w.heap.size, 2, none⟩ = some rv ∧ Y.cell? ⟨w.heap.size + 1, 0, none⟩ = some (.int .u64 e) ∧ Y.cell? ⟨w.heap.size + 1, 1, none⟩ = some cu ∧ Y.cell? ⟨w.heap.size + 1, 2, none⟩ = some ru))
  obtain ⟨_, x1, c1, rfl, _⟩ := hcs
  obtain ⟨_, x2, c2, rfl, _⟩ := hrs
  obtain ⟨_, x3, c3, rfl, _⟩ := hes
  obtain ⟨_, x4, c4, rfl, _⟩ := hts
  have H0 := Lib.hid hW
  obtain ⟨k0, k1, k2, k3, k4, k5⟩ := HP.out X (Below.refl _ _)
  clear hX b1 b2 hW
  obtain ⟨n1, hn1⟩ : ∃ n, cs.length = n := ⟨_, rfl⟩
  obtain ⟨n2, hn2⟩ : ∃ n, rs.length = n := ⟨_, rfl⟩
  obtain ⟨n3, hn3⟩ : ∃ n, es.length = n := ⟨_, rfl⟩
  obtain ⟨n4, hn4⟩ : ∃ n, ts.length = n := ⟨_, rfl⟩
  rw [hn1] at HX HC HP k1 ⊢
  rw [hn2] at HX HR HP k2 ⊢
  rw [hn3] at HX HC HP k4 ⊢
  rw [hn4] at HX HR HP k5 ⊢
  obtain ⟨pc, hpc⟩ : ∃ p, decide (cs = es) = p := ⟨_, rfl⟩
  obtain ⟨pr, hpr⟩ : ∃ p, decide (rs = ts) = p := ⟨_, rfl⟩
  have hall : decide (d = e ∧ cs = es ∧ rs = ts) = (decide (d = e) && (pc && pr)) := by rw [← hpc, ← hpr, Bool.decide_and, Bool.decide_and]
  rw [hall]
  rw [hpc] at HC
  rw [hpr] at HR
  clear hn1 hn2 hn3 hn4 hpc hpr hall
  by_cases hd : d = e
  · rw [decide_eq_true hd, Bool.true_and]
    have g0 : ((d : Int) == (e : Int)) = true := by simp [hd]
    clear hd
    cases pc
    · rw [Bool.false_and]
      go_enter Tryz.func24, Tryz.ntmps24
      go_wp2_with fail
      rw [HX.out]
      go_wp2_with (first | (go_at_call 58; refine (HC.out _ (by first | exact Below.refl _ _ | exact ⟨rfl, rfl, rfl, Nat.le_refl _, fun _ _ => rfl⟩)).mono ?_; rintro r w1 ⟨rfl, h1⟩; have H1 := Lib.hid h1; clear h1) | fail)
      go_ret
      exact ⟨rfl, H0.out.trans (H1.out.mono H0.out.size)⟩
    · rw [Bool.true_and]
      go_enter Tryz.func24, Tryz.ntmps24
      go_wp2_with fail
      rw [HX.out]
      go_wp2_with (first | (go_at_call 58; refine (HC.out _ (by first | exact Below.refl _ _ | exact ⟨rfl, rfl, rfl, Nat.le_refl _, fun _ _ => rfl⟩)).mono ?_; rintro r w1 ⟨rfl, h1⟩; have H1 := Lib.hid h1; obtain ⟨q0, q1, q2, q3, q4, q5⟩ := HP.out w1 h1; clear h1) | (go_at_call 59; refine (HR.out _ H1.out).mono ?_; rintro r w2 ⟨rfl, h2⟩; have H2 := Lib.hid (H1.out.trans (h2.mono H1.out.size)); clear h2) | fail)
      go_ret
      exact ⟨rfl, H0.out.trans (H2.out.mono H0.out.size)⟩
  · rw [decide_eq_false hd, Bool.false_and]
    have g0 : ((d : Int) == (e : Int)) = false := by simp; omega
    clear hd
    go_enter Tryz.func24, Tryz.ntmps24
    go_wp2_with fail
    rw [HX.out]
    go_wp2_with fail
    go_ret
    exact ⟨rfl, H0.out⟩
end Go.Proofs.YtenepkgjdoddgaaGreatDoor
