/- tag: the closures' answers, a cell at a place, lists that are made. -/
import Derived.Test.YtkhdjlahfbmkoaaTga
import Derived.Deep.LoopGhost
namespace Go.Proofs.Ytkhdjlahfbmkoaa
open Go.RowKit Go.Shelf

set_option maxRecDepth 100000 in
set_option maxHeartbeats 1000000 in
theorem join1_any9 (a x y k pa pl g o n c : Nat) (w : World) (ha : a < 2 ^ 64) (hy : y < 2 ^ 64) (hk : k < n) (hpl : w.cell? ⟨pl, 0, none⟩ = some (.slice (some ⟨g, o, none⟩) n c)) (hpa : w.cell? ⟨pa, 0, none⟩ = some (.int .u64 (a : Nat))) (hx : w.cell? ⟨g, o + k * 2, none⟩ = some (.int .u8 (x : Nat))) (hx1 : w.cell? ⟨g, o + k * 2 + 1, none⟩ = some (.int .u64 (y : Nat))) :
    Calls Try.prog 40 #[.int .i64 k, .pointer (some ⟨pl, 0, none⟩), .pointer (some ⟨pa, 0, none⟩)] w fun e w' => e = .returned (cV x (y ||| a)) ∧ Below w.heap.size w w' := by
  have hkn : (k : Int) < (n : Int) := by omega
  obtain ⟨W, hW⟩ : ∃ W, w.alloc (.cells #[.int .u8 0, .int .u64 0] 53) = W := ⟨_, rfl⟩
  have hal : Below w.heap.size w W := by rw [← hW]; exact balloc (Below.refl w.heap.size w) _
  have hN : Blk W w.heap.size 53 #[.int .u8 0, .int .u64 0] := by rw [← hW]; exact Blk.new w _ _
  have l1 : ∀ w', HelN 2 53 W w.heap.size w' → w'.cell? ⟨pl, 0, none⟩ = some (.slice (some ⟨g, o, none⟩) n c) := fun w' h => h.at ((hal.cell (p := ⟨pl, 0, none⟩) (World.block_lt_of_cell? w _ hpl)).trans hpl) (Nat.ne_of_lt (World.block_lt_of_cell? w _ hpl))
  have l2 : ∀ w', HelN 2 53 W w.heap.size w' → w'.cell? ⟨pa, 0, none⟩ = some (.int .u64 (a : Nat)) := fun w' h => h.at ((hal.cell (p := ⟨pa, 0, none⟩) (World.block_lt_of_cell? w _ hpa)).trans hpa) (Nat.ne_of_lt (World.block_lt_of_cell? w _ hpa))
  have l3 : ∀ w', HelN 2 53 W w.heap.size w' → w'.cell? ⟨g, o + k * 2, none⟩ = some (.int .u8 (x : Nat)) := fun w' h => h.at ((hal.cell (p := ⟨g, o + k * 2, none⟩) (World.block_lt_of_cell? w _ hx)).trans hx) (Nat.ne_of_lt (World.block_lt_of_cell? w _ hx))
  have l8 : ∀ w', HelN 2 53 W w.heap.size w' → w'.cell? ⟨g, o + k * 2 + 1, none⟩ = some (.int .u64 (y : Nat)) := fun w' h => h.at ((hal.cell (p := ⟨g, o + k * 2 + 1, none⟩) (World.block_lt_of_cell? w _ hx1)).trans hx1) (Nat.ne_of_lt (World.block_lt_of_cell? w _ hx1))
  have l4 : ∀ w', HelN 2 53 W w.heap.size w' → w'.cell? ⟨w.heap.size, 0, none⟩ = some (cellV w' ⟨w.heap.size, 0, none⟩) := fun w' h => h.cell 0 (by omega)
  have l5 : ∀ w', HelN 2 53 W w.heap.size w' → w'.cell? ⟨w.heap.size, 1, none⟩ = some (cellV w' ⟨w.heap.size, 1, none⟩) := fun w' h => h.cell 1 (by omega)
  have l6 : ∀ w', HelN 2 53 W w.heap.size w' → w'.frozen? ⟨w.heap.size, 0, none⟩ = false := fun w' h => h.frozen 0
  have l7 : ∀ w', HelN 2 53 W w.heap.size w' → w'.frozen? ⟨w.heap.size, 1, none⟩ = false := fun w' h => h.frozen 1
  have h0 : HelN 2 53 W w.heap.size W.drew := HelN.start rfl hN
  have HW := Lib.hid (And.intro hW (And.intro hal hN))
  clear hpl hpa hx hx1 hW hal hN
  go_enter Try.func40, Try.ntmps40
  go_upto_region 1 with fail
  rw [HW.out.1]
  go_region_held3 (fun w' => HelN 2 53 W w.heap.size w') (first | assumption | exact HelN.call (by assumption) (by assumption) | exact HelN.call (balloc (Below.refl _ _) _) (by assumption) | exact HelN.set (HelN.set (by assumption) _ _) _ _) (first | (go_at_call 33; (first | refine (cell_any x [y, a] _ _ (LsA.two _ y a hy ha _)).mono ?_ | refine (cell_any x [y, a] _ _ (LsA.two _ y a hy ha _).drew').mono ?_); rintro e w1 ⟨rfl, hw1⟩; have hH : HelN 2 53 W w.heap.size w1 := HelN.call hw1 (by assumption)))
  all_goals
    go_wp2_with fail
    (try simp only [Exit.inBlock, Exit.then])
    refine bodyPost_ret (ret_cell (a := joinL [y, a]) rfl rfl (HelN.two (by assumption) _ _)) rfl ⟨by rw [joinL_two], HelN.below (by assumption) HW.out.2.1 (Nat.le_refl _) (Nat.le_refl _)⟩
theorem joinL_nil : joinL [] = 0 := rfl
/-- The cell at a place, a nought beyond the last. -/
def cg (l : List (Nat × Nat)) (k : Nat) : Nat × Nat := (l[k]?).getD (0, 0)
theorem cg_lt {l : List (Nat × Nat)} {k : Nat} (h : k < l.length) : l[k]? = some (cg l k) := by unfold cg; rw [List.getElem?_eq_getElem h]; rfl
theorem cg_ge {l : List (Nat × Nat)} {k : Nat} (h : l.length ≤ k) : cg l k = (0, 0) := by unfold cg; rw [List.getElem?_eq_none h]; rfl
theorem cg_ok {l : List (Nat × Nat)} (h : ∀ a ∈ l, okC a) (k : Nat) : okC (cg l k) := by
  by_cases hk : k < l.length
  · exact h _ (List.mem_of_getElem? (cg_lt hk))
  · rw [cg_ge (by omega)]; exact ⟨by decide, by decide⟩
/-- Two cells of a list, by their places. -/
theorem Cs.at {B : Nat} {X : World} {v : Value} {l : List (Nat × Nat)} (h : Cs B X v l) {k : Nat} (hk : k < l.length) : ∃ b o c, v = .slice (some ⟨b, o, none⟩) l.length c ∧ b < X.heap.size ∧ X.cell? ⟨b, o + k * 2, none⟩ = some (.int .u8 ((cg l k).1 : Nat)) ∧ X.cell? ⟨b, o + k * 2 + 1, none⟩ = some (.int .u64 ((cg l k).2 : Nat)) := by
  obtain ⟨h1, x, cap, h2, h3, h4, h5⟩ := h
  obtain ⟨b, o, e, hb, hbx, hc⟩ := h5 (by intro e; rw [e] at hk; simp at hk)
  subst e
  exact ⟨b, o, cap, h2, hbx, hc k _ (cg_lt hk)⟩
theorem Cs.is {B : Nat} {X : World} {v : Value} {l : List (Nat × Nat)} (h : Cs B X v l) : ∃ x c, v = .slice x l.length c := by
  obtain ⟨h1, x, cap, h2, h3, h4, h5⟩ := h
  exact ⟨x, cap, h2⟩
set_option maxRecDepth 100000 in
set_option maxHeartbeats 1000000 in
theorem at_any (B k : Nat) (v : Value) (l : List (Nat × Nat)) (w : World) (hv : Cs B w v l) :
    Calls Try.prog 56 #[v, .int .i64 k] w fun e w' => e = .returned (cV (cg l k).1 (cg l k).2) ∧ Below w.heap.size w w' := by
  have hal := balloc (Below.refl w.heap.size w) (.cells #[.int .u8 0, .int .u64 0] 53)
  by_cases hk : k < l.length
  · obtain ⟨b, o, c, rfl, hb, h0, h1⟩ := Cs.at (hv.new hal) hk
    have hkn : (k : Int) < (l.length : Int) := by omega
    have hkn2 : ¬ (l.length : Int) ≤ (k : Int) := by omega
    have HAL := Lib.hid hal
    clear hv hal hb hk
    go_enter Try.func56, Try.ntmps56
    go_wp2_with fail
    (try simp only [Exit.inBlock, Exit.then])
    exact bodyPost_ret (ret_cell rfl rfl (Blk.new w 53 (cA (cg l k).1 (cg l k).2))) rfl ⟨rfl, balloc (Below.refl _ _) _⟩
  · obtain ⟨x, c, rfl⟩ := hv.is
    have hkn2 : (l.length : Int) ≤ (k : Int) := by omega
    have HG := Lib.hid (cg_ge (l := l) (k := k) (by omega))
    have HAL := Lib.hid hal
    have HN := Lib.hid (Blk.new w 53 #[.int .u8 0, .int .u64 0])
    clear hv hal hk
    go_enter Try.func56, Try.ntmps56
    go_wp2_with (first | (go_at_call 33; refine (cell_any 0 [] _ _ (LsA.nil _)).mono ?_; rintro e w1 ⟨rfl, hw1⟩; have hb := HN.out.keep hw1; have c0 := cell_of_row _ _ 0 _ _ _ hb; have c1 := cell_of_row _ _ 1 _ _ _ hb; have f0 := frozen_of_row _ _ 0 _ _ hb; have f1 := frozen_of_row _ _ 1 _ _ hb; have H1 := Lib.hid hw1; have HB := Lib.hid hb; clear hw1 hb))
    (try simp only [Exit.inBlock, Exit.then])
    refine bodyPost_ret (ret_cell (a := joinL []) rfl rfl (HelN.two (W1 := w1) ⟨grown_refl _ _, _, rfl, HB.out⟩ _ _)) rfl ⟨by rw [HG.out, joinL_nil], ?_⟩
    exact ((bstep HAL.out H1.out).setCell (p := ⟨w.heap.size, 0, none⟩) (Nat.le_refl _) _).setCell (p := ⟨w.heap.size, 1, none⟩) (Nat.le_refl _) _
set_option maxRecDepth 100000 in
set_option maxHeartbeats 1000000 in
theorem from1_any (B k pd : Nat) (v : Value) (l : List (Nat × Nat)) (w : World) (hv : Cs B w v l) (hpd : w.cell? ⟨pd, 0, none⟩ = some v) :
    Calls Try.prog 55 #[.int .i64 k, .pointer (some ⟨pd, 0, none⟩)] w fun e w' => e = .returned (cV (cg l k).1 (cg l k).2) ∧ Below w.heap.size w w' := by
  have hal := balloc (Below.refl w.heap.size w) (.cells #[.int .u8 0, .int .u64 0] 53)
  have c9 := (hal.cell (p := ⟨pd, 0, none⟩) (World.block_lt_of_cell? w _ hpd)).trans hpd
  have HV := Lib.hid (hv.new hal)
  have HAL := Lib.hid hal
  have HN := Lib.hid (Blk.new w 53 #[.int .u8 0, .int .u64 0])
  obtain ⟨x, c, rfl⟩ := hv.is
  clear hv hal hpd
  go_enter Try.func55, Try.ntmps55
  go_wp2_with (first | (go_at_call 56; refine (at_any B k _ l _ HV.out).mono ?_; rintro e w1 ⟨rfl, hw1⟩; have hb := HN.out.keep hw1; have c0 := cell_of_row _ _ 0 _ _ _ hb; have c1 := cell_of_row _ _ 1 _ _ _ hb; have f0 := frozen_of_row _ _ 0 _ _ hb; have f1 := frozen_of_row _ _ 1 _ _ hb; have H1 := Lib.hid hw1; have HB := Lib.hid hb; clear hw1 hb))
  (try simp only [Exit.inBlock, Exit.then])
  refine bodyPost_ret (ret_cell rfl rfl (HelN.two (W1 := w1) ⟨grown_refl _ _, _, rfl, HB.out⟩ _ _)) rfl ⟨rfl, ?_⟩
  exact ((bstep HAL.out H1.out).setCell (p := ⟨w.heap.size, 0, none⟩) (Nat.le_refl _) _).setCell (p := ⟨w.heap.size, 1, none⟩) (Nat.le_refl _) _
set_option maxRecDepth 100000 in
set_option maxHeartbeats 1000000 in
theorem bytes1_any9 (B k pl : Nat) (v : Value) (l : List (Nat × Nat)) (w : World) (hk : k < l.length) (hv : Cs B w v l) (hpl : w.cell? ⟨pl, 0, none⟩ = some v) :
    Calls Try.prog 35 #[.int .i64 k, .pointer (some ⟨pl, 0, none⟩)] w fun e w' => e = .returned (.int .u8 ((cg l k).1 : Nat)) ∧ w = w' := by
  obtain ⟨b, o, c, rfl, hb, h0, h1⟩ := Cs.at hv hk
  have hkn : (k : Int) < (l.length : Int) := by omega
  clear hv hb hk
  go_enter Try.func35, Try.ntmps35
  go_wp2_with fail
  go_ret
  exact ⟨rfl, rfl⟩
set_option maxRecDepth 100000 in
set_option maxHeartbeats 1000000 in
theorem label1_any9 (B k pl : Nat) (v : Value) (l : List (Nat × Nat)) (w : World) (hk : k < l.length) (hv : Cs B w v l) (hpl : w.cell? ⟨pl, 0, none⟩ = some v) :
    Calls Try.prog 38 #[.int .i64 k, .pointer (some ⟨pl, 0, none⟩)] w fun e w' => e = .returned (.int .u64 ((cg l k).2 : Nat)) ∧ w = w' := by
  obtain ⟨b, o, c, rfl, hb, h0, h1⟩ := Cs.at hv hk
  have hkn : (k : Int) < (l.length : Int) := by omega
  clear hv hb hk
  go_enter Try.func38, Try.ntmps38
  go_wp2_with fail
  go_ret
  exact ⟨rfl, rfl⟩
end Go.Proofs.Ytkhdjlahfbmkoaa
