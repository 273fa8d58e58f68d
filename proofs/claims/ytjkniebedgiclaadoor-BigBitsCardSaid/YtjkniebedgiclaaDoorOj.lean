/- big: texts; the law's own small functions. -/
import Derived.Test.YtjkniebedgiclaaDoorOi
namespace Go.Proofs.YtjkniebedgiclaaDoor
open Go.RowKit Go.Shelf

def toS (l : List Nat) : ByteArray := ⟨(l.map UInt8.ofNat).toArray⟩
theorem fold_toS (l : List Nat) : ∀ r : ByteArray, (l.map fun n : Nat => (n : Int)).foldl (fun r n => r.push (UInt8.ofNat n.toNat)) r = ⟨r.data ++ (l.map UInt8.ofNat).toArray⟩ := by
  induction l with
  | nil => intro r; simp
  | cons a l ih =>
    intro r
    simp only [List.map_cons, List.foldl_cons]
    rw [ih]
    cases r
    simp [ByteArray.push]
theorem toS_inj {l m : List Nat} (hl : ∀ x ∈ l, x < 256) (hm : ∀ x ∈ m, x < 256) (h : toS l = toS m) : l = m := by
  unfold toS at h
  injection h with h
  have h2 : l.map UInt8.ofNat = m.map UInt8.ofNat := by simpa using h
  have e : ∀ k : List Nat, (∀ x ∈ k, x < 256) → (k.map UInt8.ofNat).map UInt8.toNat = k := fun k hk => by
    rw [List.map_map]
    conv => rhs; rw [← List.map_id k]
    refine List.map_congr_left fun x hx => ?_
    have := hk x hx
    simp [Function.comp]; omega
  rw [← e l hl, ← e m hm, h2]
theorem toS_list (l : List Nat) : (toS l).toList = l.map UInt8.ofNat := by unfold toS; simp [go_sem]
theorem conv_byteso (B : Nat) (v : Value) (l : List Nat) (w : World) (h : Bto B w v l) (hl : l.length ≤ 100000) : (convert 22 9 v).run Tryd.prog w = .ok (.string (toS l)) w := by
  obtain ⟨h1, x, cap, rfl, h3, h4, h5⟩ := h
  rw [run_convert_bytes_string w _ _ 5 x _ _ (by kernel_rfl) (by kernel_rfl) (by kernel_rfl)]
  by_cases h0 : l = []
  · subst h0
    cases x with
    | none => rfl
    | some a =>
      exact run_bytesToString (P := Tryd.prog) w a 0 cap [] (run_loadCells_list (P := Tryd.prog) w a [] (fun j u hj => by simp at hj))
  · obtain ⟨b, o, rfl, _, _, hc⟩ := h5 h0
    have hload : (loadCells ⟨b, o, none⟩ l.length).run Tryd.prog w = .ok ((l.map fun n : Nat => (n : Int)).map (Value.int .u8)).toArray w := by
      have h := run_loadCells_list (P := Tryd.prog) w ⟨b, o, none⟩ (bvs l) (fun j u hj => by
        rw [bvs_get] at hj
        cases hmj : l[j]? with
        | none => rw [hmj] at hj; cases hj
        | some z =>
          rw [hmj] at hj
          cases hj
          rw [Go.WideShapes.add_plain]
          exact hc j z hmj)
      rw [bvs_len] at h
      rw [h, List.map_map]
      rfl
    rw [run_bytesToString w _ _ _ (l.map fun n : Nat => (n : Int)) hload, fold_toS]
    simp [toS]
set_option maxRecDepth 100000 in
theorem num_any (k : Int) (w : World) : Calls Tryd.prog 12 #[.int .i64 k] w fun e w' => e = .returned (.int .i64 k) ∧ w = w' := by
  go_enter Tryd.func12, Tryd.ntmps12
  go_wp2_with fail
  go_ret
  exact ⟨rfl, rfl⟩
set_option maxRecDepth 100000 in
set_option maxHeartbeats 4000000 in
theorem lpower_any (B : Nat) (av nv mv : Value) (al nl ml : List Nat) (w : World) (h1 : al.length ≤ 128) (h2 : nl.length ≤ 128) (h3 : ml.length ≤ 128) (ha : Bto B w av al) (hn : Bto B w nv nl) (hm : Bto B w mv ml) :
    Calls Tryd.prog 20 #[av, nv, mv] w fun e w' => e = .returned (.tuple #[.string (toS (tb (pwV al nl ml) ml.length)), .bool true]) ∧ Below w.heap.size w w' := by
  have HP := Lib.hid (power_any B av nv mv al nl ml w h1 h2 h3 ha hn hm)
  have hlen : (tb (pwV al nl ml) ml.length).length ≤ 100000 := by unfold tb; simp; omega
  clear ha hn hm h1 h2 h3
  go_enter Tryd.func20, Tryd.ntmps20
  go_upto_region 2 with (first | (go_at_call 9; refine HP.out.mono ?_; rintro e w1 ⟨⟨v, rfl, hv⟩, hb⟩) | fail)
  have hconv : ∀ k, (convert 22 9 v).run Tryd.prog (w1.drewN k) = .ok (.string (toS (tb (pwV al nl ml) ml.length))) (w1.drewN k) := fun k => conv_byteso w1.heap.size v _ (w1.drewN k) (hv.kept (by simp) (fun b _ _ => rfl)) hlen
  have hnum := fun k => num_any 0 (w1.drewN k)
  go_quiet ((go_at_call 12; exact Calls.quiet_of_same ((num_any 0 _).mono fun _ _ ⟨h, k⟩ => ⟨h, k.symm⟩)))
  clear hconv hnum
  go_wp2_with fail
  go_ret2
  exact ⟨rfl, hb.trans (Chg.below ((Chg.refl (fun _ => False) w1).drewN nq) hb.size (fun _ _ h => h))⟩
set_option maxRecDepth 100000 in
set_option maxHeartbeats 4000000 in
theorem few3_any (g n1 c1 n2 c2 n3 c3 : Nat) (x1 x2 x3 : Option Addr) (w : World) (hg : Blk w g 22 #[.slice x1 n1 c1, .slice x2 n2 c2, .slice x3 n3 c3]) :
    Calls Tryd.prog 7 #[.slice (some ⟨g, 0, none⟩) 3 3] w fun e w' => e = .returned (.bool (decide (n1 ≤ 20 ∧ n2 ≤ 20 ∧ n3 ≤ 20))) ∧ w = w' := by
  have k0 := cell_of_row _ _ 0 _ _ _ hg
  have k1 := cell_of_row _ _ 1 _ _ _ hg
  have k2 := cell_of_row _ _ 2 _ _ _ hg
  clear hg
  by_cases h1 : n1 ≤ 20
  · have g1 : ¬ (20 : Int) < (n1 : Int) := by omega
    by_cases h2 : n2 ≤ 20
    · have g2 : ¬ (20 : Int) < (n2 : Int) := by omega
      by_cases h3 : n3 ≤ 20
      · have g3 : ¬ (20 : Int) < (n3 : Int) := by omega
        rw [show decide (n1 ≤ 20 ∧ n2 ≤ 20 ∧ n3 ≤ 20) = true from decide_eq_true ⟨h1, h2, h3⟩]
        go_enter Tryd.func7, Tryd.ntmps7
        go_wp2_with fail
        refine wp_loop_rounds 4 ?_
        rw [rounds_succ]
        go_wp2_with fail
        rw [rounds_succ]
        go_wp2_with fail
        rw [rounds_succ]
        go_wp2_with fail
        rw [rounds_succ]
        go_wp2_with fail
        go_ret
        exact ⟨rfl, rfl⟩
      · have g3 : (20 : Int) < (n3 : Int) := by omega
        rw [show decide (n1 ≤ 20 ∧ n2 ≤ 20 ∧ n3 ≤ 20) = false from decide_eq_false (by omega)]
        go_enter Tryd.func7, Tryd.ntmps7
        go_wp2_with fail
        refine wp_loop_rounds 4 ?_
        rw [rounds_succ]
        go_wp2_with fail
        rw [rounds_succ]
        go_wp2_with fail
        rw [rounds_succ]
        go_wp2_with fail
        go_ret
        exact ⟨rfl, rfl⟩
    · have g2 : (20 : Int) < (n2 : Int) := by omega
      rw [show decide (n1 ≤ 20 ∧ n2 ≤ 20 ∧ n3 ≤ 20) = false from decide_eq_false (by omega)]
      go_enter Tryd.func7, Tryd.ntmps7
      go_wp2_with fail
      refine wp_loop_rounds 4 ?_
      rw [rounds_succ]
      go_wp2_with fail
      rw [rounds_succ]
      go_wp2_with fail
      go_ret
      exact ⟨rfl, rfl⟩
  · have g1 : (20 : Int) < (n1 : Int) := by omega
    rw [show decide (n1 ≤ 20 ∧ n2 ≤ 20 ∧ n3 ≤ 20) = false from decide_eq_false (by omega)]
    go_enter Tryd.func7, Tryd.ntmps7
    go_wp2_with fail
    refine wp_loop_rounds 4 ?_
    rw [rounds_succ]
    go_wp2_with fail
    go_ret
    exact ⟨rfl, rfl⟩
set_option maxRecDepth 100000 in
set_option maxHeartbeats 4000000 in
theorem few2_any (g n1 c1 n2 c2 : Nat) (x1 x2 : Option Addr) (w : World) (hg : Blk w g 22 #[.slice x1 n1 c1, .slice x2 n2 c2]) :
    Calls Tryd.prog 7 #[.slice (some ⟨g, 0, none⟩) 2 2] w fun e w' => e = .returned (.bool (decide (n1 ≤ 20 ∧ n2 ≤ 20))) ∧ w = w' := by
  have k0 := cell_of_row _ _ 0 _ _ _ hg
  have k1 := cell_of_row _ _ 1 _ _ _ hg
  clear hg
  by_cases h1 : n1 ≤ 20
  · have g1 : ¬ (20 : Int) < (n1 : Int) := by omega
    by_cases h2 : n2 ≤ 20
    · have g2 : ¬ (20 : Int) < (n2 : Int) := by omega
      rw [show decide (n1 ≤ 20 ∧ n2 ≤ 20) = true from decide_eq_true ⟨h1, h2⟩]
      go_enter Tryd.func7, Tryd.ntmps7
      go_wp2_with fail
      refine wp_loop_rounds 3 ?_
      rw [rounds_succ]
      go_wp2_with fail
      rw [rounds_succ]
      go_wp2_with fail
      rw [rounds_succ]
      go_wp2_with fail
      go_ret
      exact ⟨rfl, rfl⟩
    · have g2 : (20 : Int) < (n2 : Int) := by omega
      rw [show decide (n1 ≤ 20 ∧ n2 ≤ 20) = false from decide_eq_false (by omega)]
      go_enter Tryd.func7, Tryd.ntmps7
      go_wp2_with fail
      refine wp_loop_rounds 3 ?_
      rw [rounds_succ]
      go_wp2_with fail
      rw [rounds_succ]
      go_wp2_with fail
      go_ret
      exact ⟨rfl, rfl⟩
  · have g1 : (20 : Int) < (n1 : Int) := by omega
    rw [show decide (n1 ≤ 20 ∧ n2 ≤ 20) = false from decide_eq_false (by omega)]
    go_enter Tryd.func7, Tryd.ntmps7
    go_wp2_with fail
    refine wp_loop_rounds 3 ?_
    rw [rounds_succ]
    go_wp2_with fail
    go_ret
    exact ⟨rfl, rfl⟩
end Go.Proofs.YtjkniebedgiclaaDoor
