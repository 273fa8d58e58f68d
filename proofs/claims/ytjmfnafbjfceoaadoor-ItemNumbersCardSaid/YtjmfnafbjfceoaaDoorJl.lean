/- item's law: Same of items of bytes; the reference's reading of one byte; the chapter's list. -/
import Derived.Test.YtjmfnafbjfceoaaDoorJk
namespace Go.Proofs.YtjmfnafbjfceoaaDoor
open Go.RowKit Go.Shelf
attribute [local irreducible] lb wdG byA byC heL nuL
set_option maxRecDepth 100000 in
set_option maxHeartbeats 4000000 in
theorem rsame_bytes (B C : Nat) (v u : Value) (l m : List Nat) (w : World) (hv : Bt B w v l) (hu : Bt C w u m) (hl : l.length ≤ 100000) (hm : m.length ≤ 100000) :
    Calls Tryd.prog 14 #[itB v, itB u] w fun e w' => e = .returned (.bool (decide (l = m))) ∧ Below w.heap.size w w' := by
  obtain ⟨_, x, c, rfl, _⟩ := id hv
  obtain ⟨_, y, d, rfl, _⟩ := id hu
  have hW := balloc (balloc (Below.refl w.heap.size w) (.cells #[.bool false, .slice x l.length c, .slice none 0 0] 25)) (.cells #[.bool false, .slice y m.length d, .slice none 0 0] 25)
  have h1 := conv_bytes B _ l _ (hv.new hW) hl
  have h2 := conv_bytes C _ m _ (hu.new hW) hm
  have he : ((toS l).toList == (toS m).toList) = decide (l = m) := by
    rw [Bool.eq_iff_iff, beq_iff_eq, decide_eq_true_iff, toS_list, toS_list]
    exact ⟨fun h => toS_inj hv.1 hu.1 (by unfold toS; rw [h]), fun h => by rw [h]⟩
  have HW := Lib.hid hW
  clear hv hu hW
  obtain ⟨q, hq⟩ : ∃ q, decide (l = m) = q := ⟨_, rfl⟩
  rw [hq] at he ⊢
  generalize toS l = s1 at h1 he
  generalize toS m = s2 at h2 he
  obtain ⟨ll, hll⟩ : ∃ ll, l.length = ll := ⟨_, rfl⟩
  obtain ⟨ml, hml⟩ : ∃ ml, m.length = ml := ⟨_, rfl⟩
  rw [hll, hml] at h1 h2 HW ⊢
  clear hq hll hml hl hm
  cases q with
  | true =>
    have he2 : s1.toList = s2.toList := by simpa using he
    clear he
    go_enter Tryd.func14, Tryd.ntmps14
    go_wp2_with fail
    refine wp_loop_rounds 1 ?_
    rw [rounds_succ]; go_wp2_with fail
    go_ret
    exact ⟨rfl, HW.out⟩
  | false =>
    have he2 : ¬ s1.toList = s2.toList := by simpa using he
    clear he
    go_enter Tryd.func14, Tryd.ntmps14
    go_wp2_with fail
    go_ret
    exact ⟨rfl, HW.out⟩

theorem num_any (n : Int) (w : World) : Calls Tryd.prog 12 #[.int .i64 n] w fun e w' => e = .returned (.int .i64 n) ∧ w = w' := by
  go_enter Tryd.func12, Tryd.ntmps12
  go_wp2_with fail
  go_ret
  exact ⟨rfl, rfl⟩

set_option maxRecDepth 100000 in
set_option maxHeartbeats 4000000 in
/-- The reference's read of bytes that begin with one below the heads. -/
theorem rread_alone (B : Nat) (v : Value) (f : Nat) (r : List Nat) (w : World) (hv : Bt B w v (f :: r)) (hf : f < 128) :
    Calls Tryd.prog 38 #[v, .int .i64 8] w fun e w' => ∃ x c, e = .returned (.tuple #[itB (.slice x 1 c), .int .i64 1, .bool true]) ∧ Below w.heap.size w w' := by
  obtain ⟨_, x, c, rfl, _, _, h5⟩ := hv
  rcases h5 with ⟨_, h, _⟩ | ⟨b, o, rfl, hb, hc⟩
  · cases h
  · have c0 : w.cell? ⟨b, o, none⟩ = some (.int .u8 (f : Nat)) := by have := hc 0 f rfl; simpa using this
    have hbl := (hb (by simp)).2
    have hW := balloc (Below.refl w.heap.size w) (.cells #[.bool false, .slice none 0 0, .slice none 0 0] 25)
    have c1 := (hW.cell (p := ⟨b, o, none⟩) hbl).trans c0
    have g0 : (f : Int) < 128 := by omega
    have gl : ((r.length + 1 : Nat) : Int) = (r.length : Int) + 1 := by omega
    obtain ⟨q, hq⟩ : ∃ q, (f :: r).length = q := ⟨_, rfl⟩
    have hq0 : 0 < q := by rw [← hq]; simp
    have g1 : ((q : Int) == 0) = false := by simp; omega
    have g2 : (0 : Int) < (q : Int) := by omega
    rw [hq]
    have HW := Lib.hid hW
    clear hW hq hc hb gl
    go_enter Tryd.func38, Tryd.ntmps38
    go_wp2_with fail
    exact bodyPost_ret (v := .tuple #[itB (.slice (some ⟨w.heap.size + 1, 0, none⟩) 1 1), .int .i64 1, .bool true]) (by simp [results, Tryd.results38, go_sem]) rfl ⟨_, _, rfl, balloc (balloc (Below.refl _ _) _) _⟩

set_option maxRecDepth 100000 in
set_option maxHeartbeats 4000000 in
theorem rfirst_long (x : Option Addr) (n c : Nat) (hn : 4096 < n) (w : World) :
    Calls Tryd.prog 18 #[.slice x n c] w fun e w' => e = .returned (.tuple #[itW false none 0 0 none 0 0, .int .i64 0, .int .i64 3]) ∧ Below w.heap.size w w' := by
  have g : (4096 : Int) < (n : Int) := by omega
  have hW := balloc (Below.refl w.heap.size w) (.cells #[.bool false, .slice none 0 0, .slice none 0 0] 25)
  go_enter Tryd.func18, Tryd.ntmps18
  go_wp2_with fail
  exact bodyPost_ret (v := .tuple #[itW false none 0 0 none 0 0, .int .i64 0, .int .i64 3]) (by simp [results, Tryd.results18, go_sem]) rfl ⟨rfl, hW⟩
set_option maxRecDepth 100000 in
set_option maxHeartbeats 4000000 in
theorem rfirst_alone (B : Nat) (v : Value) (f : Nat) (r : List Nat) (w : World) (hv : Bt B w v (f :: r)) (hf : f < 128) (hl : (f :: r).length ≤ 4096) :
    Calls Tryd.prog 18 #[v] w fun e w' => ∃ x c, e = .returned (.tuple #[itB (.slice x 1 c), .int .i64 1, .int .i64 0]) ∧ Below w.heap.size w w' := by
  have hA := Blk.new w 25 #[.bool false, .slice none 0 0, .slice none 0 0]
  have hW := balloc (Below.refl w.heap.size w) (.cells #[.bool false, .slice none 0 0, .slice none 0 0] 25)
  have hC := Lib.hid (rread_alone B v f r _ (hv.new hW) hf)
  obtain ⟨_, x, c, rfl, _⟩ := hv
  have g : ¬ (4096 : Int) < ((f :: r).length : Int) := by omega
  have HX := Lib.hid (And.intro hA hW)
  obtain ⟨q, hq⟩ : ∃ q, (f :: r).length = q := ⟨_, rfl⟩
  rw [hq] at g hC ⊢
  clear hA hW hq hl
  go_enter Tryd.func18, Tryd.ntmps18
  go_wp2_with fail
  refine hC.out.mono ?_
  rintro e w1 ⟨x1, c1, rfl, h1⟩
  have hst := balloc (Below.refl w1.heap.size w1) (.cells #[.bool false, .slice x1 1 c1, .slice none 0 0] 25)
  have hT := Blk.new w1 25 #[.bool false, .slice x1 1 c1, .slice none 0 0]
  have hA1 := (HX.out.1.keep h1).keep hst
  have hW1 := bstep (bstep HX.out.2 h1) hst
  have a0 := cell_of_row _ _ 0 _ _ _ hA1
  have a1 := cell_of_row _ _ 1 _ _ _ hA1
  have a2 := cell_of_row _ _ 2 _ _ _ hA1
  have f0 := frozen_of_row _ _ 0 _ _ hA1
  have f1 := frozen_of_row _ _ 1 _ _ hA1
  have f2 := frozen_of_row _ _ 2 _ _ hA1
  have hG := grown_set' (grown_set' (grown_set' (grown_refl (w1.alloc (.cells #[.bool false, .slice x1 1 c1, .slice none 0 0] 25)) w.heap.size) 0 (.bool false)) 1 (.slice x1 1 c1)) 2 (.slice none 0 0)
  have HE := Lib.hid (step_world hW1 hG (Nat.le_refl _) (by omega))
  clear hst hT hA1 hW1 hG h1 HX hC
  go_wp2_with fail
  exact bodyPost_ret (v := .tuple #[itB (.slice x1 1 c1), .int .i64 1, .int .i64 0]) (by simp [results, Tryd.results18, go_sem, a0, a1, a2]) rfl ⟨_, _, rfl, HE.out⟩

set_option maxRecDepth 100000 in
set_option maxHeartbeats 4000000 in
theorem rdecode_not (no : Nat) (n : Nat) (y : Option Addr) (q e : Nat) (w : World) (hno : no ≠ 0 ∨ n ≠ q)
    (hF : ∀ X, Below w.heap.size w X → Calls Tryd.prog 18 #[.slice y q e] X fun e w' => ∃ b x1 m1 c1 x2 m2 c2, e = .returned (.tuple #[itW b x1 m1 c1 x2 m2 c2, .int .i64 n, .int .i64 no]) ∧ Below X.heap.size X w') :
    Calls Tryd.prog 17 #[.slice y q e] w fun e w' => e = .returned (.tuple #[itW false none 0 0 none 0 0, .int .i64 (if no = 0 then 160 else no : Nat)]) ∧ Below w.heap.size w w' := by
  have hA := Blk.new w 25 #[.bool false, .slice none 0 0, .slice none 0 0]
  have hW := balloc (Below.refl w.heap.size w) (.cells #[.bool false, .slice none 0 0, .slice none 0 0] 25)
  have hC := Lib.hid (hF _ hW)
  have HX := Lib.hid (And.intro hA hW)
  obtain ⟨nn, hnn⟩ : ∃ nn, (if no = 0 then 160 else no) = nn := ⟨_, rfl⟩
  have HN := Lib.hid hnn
  rw [hnn]
  clear hA hW hF hnn
  go_enter Tryd.func17, Tryd.ntmps17
  go_wp2_with fail
  refine hC.out.mono ?_
  rintro e w3 ⟨b, x1, m1, c1, x2, m2, c2, rfl, h1⟩
  have hst := balloc (Below.refl w3.heap.size w3) (.cells #[.bool b, .slice x1 m1 c1, .slice x2 m2 c2] 25)
  have hA3 := (HX.out.1.keep h1).keep hst
  have hW3 := bstep (bstep HX.out.2 h1) hst
  have a0 := cell_of_row _ _ 0 _ _ _ hA3
  have a1 := cell_of_row _ _ 1 _ _ _ hA3
  have a2 := cell_of_row _ _ 2 _ _ _ hA3
  have f0 := frozen_of_row _ _ 0 _ _ hA3
  have f1 := frozen_of_row _ _ 1 _ _ hA3
  have f2 := frozen_of_row _ _ 2 _ _ hA3
  have hG := grown_set' (grown_set' (grown_set' (grown_refl (w3.alloc (.cells #[.bool b, .slice x1 m1 c1, .slice x2 m2 c2] 25)) w.heap.size) 0 (.bool false)) 1 (.slice none 0 0)) 2 (.slice none 0 0)
  have HE := Lib.hid (step_world hW3 hG (Nat.le_refl _) (by omega))
  clear hst hA3 hW3 hG h1 HX hC
  by_cases h0 : no = 0
  · have hnq : ((n : Int) != (q : Int)) = true := by simp; omega
    have hnq' : ¬ n = q := by omega
    have hnn : nn = 160 := by rw [← HN.out, if_pos h0]
    have HNN := Lib.hid hnn
    subst h0
    clear hnn hno
    go_wp2_with fail
    exact bodyPost_ret (v := .tuple #[itW false none 0 0 none 0 0, .int .i64 160]) (by simp [results, Tryd.results17, go_sem, a0, a1, a2]) rfl ⟨by rw [HNN.out]; rfl, HE.out⟩
  · have hne : ((no : Int) == 0) = false := by simp; omega
    have hne2 : ((no : Int) != 0) = true := by simp; omega
    have hnn : nn = no := by rw [← HN.out, if_neg h0]
    have HNN := Lib.hid hnn
    clear hnn hno h0
    go_wp2_with fail
    exact bodyPost_ret (v := .tuple #[itW false none 0 0 none 0 0, .int .i64 (no : Nat)]) (by simp [results, Tryd.results17, go_sem, a0, a1, a2]) rfl ⟨by rw [HNN.out], HE.out⟩
end Go.Proofs.YtjmfnafbjfceoaaDoor
