/- Texts laid into one: Qm. -/
import Derived.Test.YtjmfnafbjfceoaaDoorQl
import Derived.RegionTactic
import Derived.Test.YtjmfnafbjfceoaaDoorQi
import Derived.Test.YtjmfnafbjfceoaaDoorQj
/- item: the reference's length of a head. -/
namespace Go.Proofs.YtjmfnafbjfceoaaDoor
open Go.RowKit Go.Shelf
attribute [local irreducible] lb wdG byA byC heL
/-- What a head says, and how many bytes it has. -/
def lenR (s : Nat) (r : List Nat) : Option (Nat × Nat) := match leS s r with
  | none => none
  | some (n, r2) => if r2.length < n then none else some (n, 1 + r.length - r2.length)
theorem numB_le (f : Nat → Nat) (h : f 0 ≠ 0) : ∀ n, 256 ^ n ≤ numB f (n + 1)
  | 0 => by show 1 ≤ 0 * 256 + f 0; omega
  | n + 1 => by
    have := numB_le f h n
    show _ ≤ numB f (n + 1) * 256 + f (n + 1)
    rw [Nat.pow_succ]; omega
theorem lenR_short (s : Nat) (r : List Nat) (h : s ≤ 55) : lenR s r = if r.length < s then none else some (s, 1) := by
  unfold lenR leS
  rw [if_pos h]
  simp only
  rw [show 1 + r.length - r.length = 1 by omega]
theorem lenR_few (s : Nat) (r : List Nat) (h : 55 < s) (hr : r.length < s - 55) : lenR s r = none := by
  unfold lenR leS
  rw [if_neg (by omega), if_pos hr]
theorem lenR_wide (s : Nat) (r : List Nat) (h : 57 < s) (hr : r.length ≤ 4096) : lenR s r = none := by
  unfold lenR leS
  rw [if_neg (by omega)]
  by_cases h1 : r.length < s - 55
  · rw [if_pos h1]
  · rw [if_neg h1]
    by_cases h2 : (woS false (r.take (s - 55))).2 = 0 ∧ 55 < nuL (r.take (s - 55))
    · rw [if_pos h2]
      simp only
      rw [if_pos]
      obtain ⟨m, hm⟩ : ∃ m, s - 55 = m + 3 := ⟨s - 58, by omega⟩
      have hlen : (r.take (s - 55)).length = m + 3 := by rw [List.length_take]; omega
      have h0 : (r.take (s - 55)).getD 0 0 ≠ 0 := by
        intro e
        have hw := h2.1
        unfold woS at hw
        rw [if_pos] at hw
        · simp at hw
        · cases hr' : r.take (s - 55) with
          | nil => rw [hr'] at hlen; simp at hlen
          | cons a q =>
            rw [hr'] at e
            simp at e
            simp [e]
      have h3 : 256 ^ (m + 2) ≤ numB (fun k => (r.take (s - 55)).getD k 0) (m + 3) := numB_le (fun k => (r.take (s - 55)).getD k 0) h0 (m + 2)
      have h4 : nuL (r.take (s - 55)) = numB (fun k => (r.take (s - 55)).getD k 0) (m + 3) := by unfold nuL; rw [hlen]
      have h5 : 256 ^ 2 ≤ 256 ^ (m + 2) := Nat.pow_le_pow_right (by decide) (by omega)
      have h6 : (r.drop (s - 55)).length ≤ r.length := by simp
      rw [h4]
      have h7 : (256 : Nat) ^ 2 = 65536 := by decide
      omega
    · rw [if_neg h2]
theorem lenR_nought (s : Nat) (r : List Nat) (h : 55 < s) : lenR s (0 :: r) = none := by
  unfold lenR leS
  rw [if_neg (by omega)]
  by_cases hlen : (0 :: r).length < s - 55
  · rw [if_pos hlen]
  · rw [if_neg hlen, if_neg]
    rintro ⟨h1, _⟩
    unfold woS at h1
    obtain ⟨m, hm⟩ : ∃ m, s - 55 = m + 1 := ⟨s - 56, by omega⟩
    rw [hm, List.take_succ_cons] at h1
    simp at h1
theorem lenR_one (a : Nat) (r : List Nat) (ha : a ≠ 0) : lenR 56 (a :: r) = if 55 < a ∧ a ≤ r.length then some (a, 2) else none := by
  unfold lenR leS
  rw [if_neg (by omega), if_neg (by simp)]
  have e1 : (a :: r).take (56 - 55) = [a] := rfl
  have e2 : (a :: r).drop (56 - 55) = r := rfl
  have e3 : (woS false [a]).2 = 0 := by
    unfold woS; rw [if_neg (by simp; omega)]
  have e4 : nuL [a] = a := by unfold nuL; simp [numB]
  rw [e1, e2, e3, e4]
  by_cases h1 : 55 < a
  · rw [if_pos ⟨rfl, h1⟩]
    simp only [List.length_cons]
    by_cases h2 : r.length < a
    · rw [if_pos h2, if_neg (by omega)]
    · rw [if_neg h2, if_pos (by omega), show 1 + (r.length + 1) - r.length = 2 by omega]
  · rw [if_neg (by omega), if_neg (by omega)]
theorem lenR_two (a b : Nat) (r : List Nat) (ha : a ≠ 0) : lenR 57 (a :: b :: r) = if 55 < a * 256 + b ∧ a * 256 + b ≤ r.length then some (a * 256 + b, 3) else none := by
  unfold lenR leS
  rw [if_neg (by omega), if_neg (by simp)]
  have e1 : (a :: b :: r).take (57 - 55) = [a, b] := rfl
  have e2 : (a :: b :: r).drop (57 - 55) = r := rfl
  have e3 : (woS false [a, b]).2 = 0 := by
    unfold woS; rw [if_neg (by simp; omega)]
  have e4 : nuL [a, b] = a * 256 + b := by unfold nuL; simp [numB]
  rw [e1, e2, e3, e4]
  by_cases h1 : 55 < a * 256 + b
  · rw [if_pos ⟨rfl, h1⟩]
    simp only [List.length_cons]
    by_cases h2 : r.length < a * 256 + b
    · rw [if_pos h2, if_neg (by omega)]
    · rw [if_neg h2, if_pos (by omega), show 1 + (r.length + 1 + 1) - r.length = 3 by omega]
  · rw [if_neg (by omega), if_neg (by omega)]
attribute [local irreducible] nuL lenR
/-- What length owes. -/
def LnP (o : Option (Nat × Nat)) (w : World) (e : Ending) (w' : World) : Prop := Below w.heap.size w w' ∧ (match o with
  | some (n, k) => e = .returned (.tuple #[.int .i64 (n : Nat), .int .i64 (k : Nat), .bool true])
  | none => ∃ n k : Int, e = .returned (.tuple #[.int .i64 n, .int .i64 k, .bool false]))
set_option maxRecDepth 100000 in
set_option maxHeartbeats 4000000 in
theorem rlen_a (b o q c f h : Nat) (w : World) (c0 : w.cell? ⟨b, o, none⟩ = some (.int .u8 (f : Nat))) (_g0 : (0 : Int) < (q : Int)) (gf : IntKind.i64.wrap (f : Int) = (f : Int)) (s : Nat) (gs : IntKind.i64.wrap ((f : Int) - (h : Int)) = (s : Int)) (g1 : (s : Int) ≤ 55) (g2 : IntKind.i64.wrap (1 + (s : Int)) = 1 + (s : Int)) (g3 : 1 + (s : Int) ≤ (q : Int)) :
    Calls Tryd.prog 59 #[.slice (some ⟨b, o, none⟩) q c, .int .i64 h] w (fun e w' => Below w.heap.size w w' ∧ e = .returned (.tuple #[.int .i64 (s), .int .i64 1, .bool true])) := by
  go_enter Tryd.func59, Tryd.ntmps59
  go_wp2_with fail
  exact bodyPost_ret (v := .tuple #[.int .i64 s, .int .i64 1, .bool true]) (by simp [results, Tryd.results59, go_sem]) rfl ⟨Below.refl _ _, rfl⟩
set_option maxRecDepth 100000 in
set_option maxHeartbeats 4000000 in
theorem rlen_b (b o q c f h : Nat) (w : World) (c0 : w.cell? ⟨b, o, none⟩ = some (.int .u8 (f : Nat))) (_g0 : (0 : Int) < (q : Int)) (gf : IntKind.i64.wrap (f : Int) = (f : Int)) (s : Nat) (gs : IntKind.i64.wrap ((f : Int) - (h : Int)) = (s : Int)) (g1 : (s : Int) ≤ 55) (g2 : IntKind.i64.wrap (1 + (s : Int)) = 1 + (s : Int)) (g3 : ¬ 1 + (s : Int) ≤ (q : Int)) :
    Calls Tryd.prog 59 #[.slice (some ⟨b, o, none⟩) q c, .int .i64 h] w (fun e w' => Below w.heap.size w w' ∧ ∃ n k : Int, e = .returned (.tuple #[.int .i64 n, .int .i64 k, .bool false])) := by
  go_enter Tryd.func59, Tryd.ntmps59
  go_wp2_with fail
  exact bodyPost_ret (v := .tuple #[.int .i64 s, .int .i64 1, .bool false]) (by simp [results, Tryd.results59, go_sem]) rfl ⟨Below.refl _ _, _, _, rfl⟩
set_option maxRecDepth 100000 in
set_option maxHeartbeats 4000000 in
theorem rlen_c (b o q c f h : Nat) (w : World) (c0 : w.cell? ⟨b, o, none⟩ = some (.int .u8 (f : Nat))) (_g0 : (0 : Int) < (q : Int)) (gf : IntKind.i64.wrap (f : Int) = (f : Int)) (s wd : Nat) (gs : IntKind.i64.wrap ((f : Int) - (h : Int)) = (s : Int)) (g1 : ¬ (s : Int) ≤ 55) (g2 : IntKind.i64.wrap ((s : Int) - 55) = (wd : Int)) (g3 : IntKind.i64.wrap (1 + (wd : Int)) = 1 + (wd : Int)) (g4 : (q : Int) < 1 + (wd : Int)) :
    Calls Tryd.prog 59 #[.slice (some ⟨b, o, none⟩) q c, .int .i64 h] w (fun e w' => Below w.heap.size w w' ∧ ∃ n k : Int, e = .returned (.tuple #[.int .i64 n, .int .i64 k, .bool false])) := by
  go_enter Tryd.func59, Tryd.ntmps59
  go_wp2_with fail
  exact bodyPost_ret (v := .tuple #[.int .i64 0, .int .i64 0, .bool false]) (by simp [results, Tryd.results59, go_sem]) rfl ⟨Below.refl _ _, _, _, rfl⟩
set_option maxRecDepth 100000 in
set_option maxHeartbeats 4000000 in
theorem rlen_d (b o q c f h : Nat) (w : World) (c0 : w.cell? ⟨b, o, none⟩ = some (.int .u8 (f : Nat))) (_g0 : (0 : Int) < (q : Int)) (gf : IntKind.i64.wrap (f : Int) = (f : Int)) (s wd : Nat) (gs : IntKind.i64.wrap ((f : Int) - (h : Int)) = (s : Int)) (g1 : ¬ (s : Int) ≤ 55) (g2 : IntKind.i64.wrap ((s : Int) - 55) = (wd : Int)) (g3 : IntKind.i64.wrap (1 + (wd : Int)) = 1 + (wd : Int)) (g4 : ¬ (q : Int) < 1 + (wd : Int)) (g5 : (2 : Int) < (wd : Int)) :
    Calls Tryd.prog 59 #[.slice (some ⟨b, o, none⟩) q c, .int .i64 h] w (fun e w' => Below w.heap.size w w' ∧ ∃ n k : Int, e = .returned (.tuple #[.int .i64 n, .int .i64 k, .bool false])) := by
  go_enter Tryd.func59, Tryd.ntmps59
  go_wp2_with fail
  exact bodyPost_ret (v := .tuple #[.int .i64 0, .int .i64 0, .bool false]) (by simp [results, Tryd.results59, go_sem]) rfl ⟨Below.refl _ _, _, _, rfl⟩
set_option maxRecDepth 100000 in
set_option maxHeartbeats 4000000 in
theorem rlen_e (b o q c f h : Nat) (w : World) (c0 : w.cell? ⟨b, o, none⟩ = some (.int .u8 (f : Nat))) (_g0 : (0 : Int) < (q : Int)) (gf : IntKind.i64.wrap (f : Int) = (f : Int)) (s wd : Nat) (gs : IntKind.i64.wrap ((f : Int) - (h : Int)) = (s : Int)) (g1 : ¬ (s : Int) ≤ 55) (g2 : IntKind.i64.wrap ((s : Int) - 55) = (wd : Int)) (g3 : IntKind.i64.wrap (1 + (wd : Int)) = 1 + (wd : Int)) (g4 : ¬ (q : Int) < 1 + (wd : Int)) (g5 : ¬ (2 : Int) < (wd : Int)) (g6 : (1 : Int) < (q : Int)) (c1 : w.cell? ⟨b, o + 1, none⟩ = some (.int .u8 ((0 : Nat) : Int))) :
    Calls Tryd.prog 59 #[.slice (some ⟨b, o, none⟩) q c, .int .i64 h] w (fun e w' => Below w.heap.size w w' ∧ ∃ n k : Int, e = .returned (.tuple #[.int .i64 n, .int .i64 k, .bool false])) := by
  go_enter Tryd.func59, Tryd.ntmps59
  go_wp2_with fail
  exact bodyPost_ret (v := .tuple #[.int .i64 0, .int .i64 0, .bool false]) (by simp [results, Tryd.results59, go_sem]) rfl ⟨Below.refl _ _, _, _, rfl⟩
set_option maxRecDepth 100000 in
set_option maxHeartbeats 4000000 in
theorem rlen_f (b o q c f h : Nat) (w : World) (c0 : w.cell? ⟨b, o, none⟩ = some (.int .u8 (f : Nat))) (_g0 : (0 : Int) < (q : Int)) (gf : IntKind.i64.wrap (f : Int) = (f : Int)) (a : Nat) (g6 : (1 : Int) < (q : Int)) (c1 : w.cell? ⟨b, o + 1, none⟩ = some (.int .u8 (a : Nat))) (g7 : ((a : Int) == 0) = false) (ga : IntKind.i64.wrap (a : Int) = (a : Int)) (gs : IntKind.i64.wrap ((f : Int) - (h : Int)) = 56) (g4 : ¬ (q : Int) < 2) (g8 : IntKind.i64.wrap (2 + (a : Int)) = 2 + (a : Int)) (g9 : (55 : Int) < (a : Int)) (g10 : 2 + (a : Int) ≤ (q : Int)) :
    Calls Tryd.prog 59 #[.slice (some ⟨b, o, none⟩) q c, .int .i64 h] w (fun e w' => Below w.heap.size w w' ∧ e = .returned (.tuple #[.int .i64 (a), .int .i64 2, .bool true])) := by
  go_enter Tryd.func59, Tryd.ntmps59
  go_wp2_with fail
  refine wp_loop_rounds 2 ?_
  rw [rounds_succ]; go_wp2_with fail
  rw [rounds_succ]; go_wp2_with fail
  exact bodyPost_ret (v := .tuple #[.int .i64 a, .int .i64 2, .bool true]) (by simp [results, Tryd.results59, go_sem]) rfl ⟨Below.refl _ _, rfl⟩
set_option maxRecDepth 100000 in
set_option maxHeartbeats 4000000 in
theorem rlen_g (b o q c f h : Nat) (w : World) (c0 : w.cell? ⟨b, o, none⟩ = some (.int .u8 (f : Nat))) (_g0 : (0 : Int) < (q : Int)) (gf : IntKind.i64.wrap (f : Int) = (f : Int)) (a : Nat) (g6 : (1 : Int) < (q : Int)) (c1 : w.cell? ⟨b, o + 1, none⟩ = some (.int .u8 (a : Nat))) (g7 : ((a : Int) == 0) = false) (ga : IntKind.i64.wrap (a : Int) = (a : Int)) (gs : IntKind.i64.wrap ((f : Int) - (h : Int)) = 56) (g4 : ¬ (q : Int) < 2) (_g8 : IntKind.i64.wrap (2 + (a : Int)) = 2 + (a : Int)) (g9 : ¬ (55 : Int) < (a : Int)) :
    Calls Tryd.prog 59 #[.slice (some ⟨b, o, none⟩) q c, .int .i64 h] w (fun e w' => Below w.heap.size w w' ∧ ∃ n k : Int, e = .returned (.tuple #[.int .i64 n, .int .i64 k, .bool false])) := by
  go_enter Tryd.func59, Tryd.ntmps59
  go_wp2_with fail
  refine wp_loop_rounds 2 ?_
  rw [rounds_succ]; go_wp2_with fail
  rw [rounds_succ]; go_wp2_with fail
  exact bodyPost_ret (v := .tuple #[.int .i64 a, .int .i64 2, .bool false]) (by simp [results, Tryd.results59, go_sem]) rfl ⟨Below.refl _ _, _, _, rfl⟩
set_option maxRecDepth 100000 in
set_option maxHeartbeats 4000000 in
theorem rlen_h (b o q c f h : Nat) (w : World) (c0 : w.cell? ⟨b, o, none⟩ = some (.int .u8 (f : Nat))) (_g0 : (0 : Int) < (q : Int)) (gf : IntKind.i64.wrap (f : Int) = (f : Int)) (a : Nat) (g6 : (1 : Int) < (q : Int)) (c1 : w.cell? ⟨b, o + 1, none⟩ = some (.int .u8 (a : Nat))) (g7 : ((a : Int) == 0) = false) (ga : IntKind.i64.wrap (a : Int) = (a : Int)) (gs : IntKind.i64.wrap ((f : Int) - (h : Int)) = 56) (g4 : ¬ (q : Int) < 2) (g8 : IntKind.i64.wrap (2 + (a : Int)) = 2 + (a : Int)) (g9 : (55 : Int) < (a : Int)) (g10 : ¬ 2 + (a : Int) ≤ (q : Int)) :
    Calls Tryd.prog 59 #[.slice (some ⟨b, o, none⟩) q c, .int .i64 h] w (fun e w' => Below w.heap.size w w' ∧ ∃ n k : Int, e = .returned (.tuple #[.int .i64 n, .int .i64 k, .bool false])) := by
  go_enter Tryd.func59, Tryd.ntmps59
  go_wp2_with fail
  refine wp_loop_rounds 2 ?_
  rw [rounds_succ]; go_wp2_with fail
  rw [rounds_succ]; go_wp2_with fail
  exact bodyPost_ret (v := .tuple #[.int .i64 a, .int .i64 2, .bool false]) (by simp [results, Tryd.results59, go_sem]; omega) rfl ⟨Below.refl _ _, _, _, rfl⟩
set_option maxRecDepth 100000 in
set_option maxHeartbeats 4000000 in
theorem rlen_i (b o q c f h : Nat) (w : World) (c0 : w.cell? ⟨b, o, none⟩ = some (.int .u8 (f : Nat))) (_g0 : (0 : Int) < (q : Int)) (gf : IntKind.i64.wrap (f : Int) = (f : Int)) (a : Nat) (g6 : (1 : Int) < (q : Int)) (c1 : w.cell? ⟨b, o + 1, none⟩ = some (.int .u8 (a : Nat))) (g7 : ((a : Int) == 0) = false) (ga : IntKind.i64.wrap (a : Int) = (a : Int)) (a2 n : Nat) (g62 : (2 : Int) < (q : Int)) (c2 : w.cell? ⟨b, o + 2, none⟩ = some (.int .u8 (a2 : Nat))) (ga2 : IntKind.i64.wrap (a2 : Int) = (a2 : Int)) (gm : IntKind.i64.wrap (256 * (a : Int)) = 256 * (a : Int)) (gn : IntKind.i64.wrap (256 * (a : Int) + (a2 : Int)) = (n : Int)) (gs : IntKind.i64.wrap ((f : Int) - (h : Int)) = 57) (g4 : ¬ (q : Int) < 3) (g8 : IntKind.i64.wrap (3 + (n : Int)) = 3 + (n : Int)) (g9 : (55 : Int) < (n : Int)) (g10 : 3 + (n : Int) ≤ (q : Int)) :
    Calls Tryd.prog 59 #[.slice (some ⟨b, o, none⟩) q c, .int .i64 h] w (fun e w' => Below w.heap.size w w' ∧ e = .returned (.tuple #[.int .i64 (n), .int .i64 3, .bool true])) := by
  go_enter Tryd.func59, Tryd.ntmps59
  go_wp2_with fail
  refine wp_loop_rounds 3 ?_
  rw [rounds_succ]; go_wp2_with fail
  rw [rounds_succ]; go_wp2_with fail
  rw [rounds_succ]; go_wp2_with fail
  exact bodyPost_ret (v := .tuple #[.int .i64 n, .int .i64 3, .bool true]) (by simp [results, Tryd.results59, go_sem]) rfl ⟨Below.refl _ _, rfl⟩
set_option maxRecDepth 100000 in
set_option maxHeartbeats 4000000 in
theorem rlen_j (b o q c f h : Nat) (w : World) (c0 : w.cell? ⟨b, o, none⟩ = some (.int .u8 (f : Nat))) (_g0 : (0 : Int) < (q : Int)) (gf : IntKind.i64.wrap (f : Int) = (f : Int)) (a : Nat) (g6 : (1 : Int) < (q : Int)) (c1 : w.cell? ⟨b, o + 1, none⟩ = some (.int .u8 (a : Nat))) (g7 : ((a : Int) == 0) = false) (ga : IntKind.i64.wrap (a : Int) = (a : Int)) (a2 n : Nat) (g62 : (2 : Int) < (q : Int)) (c2 : w.cell? ⟨b, o + 2, none⟩ = some (.int .u8 (a2 : Nat))) (ga2 : IntKind.i64.wrap (a2 : Int) = (a2 : Int)) (gm : IntKind.i64.wrap (256 * (a : Int)) = 256 * (a : Int)) (gn : IntKind.i64.wrap (256 * (a : Int) + (a2 : Int)) = (n : Int)) (gs : IntKind.i64.wrap ((f : Int) - (h : Int)) = 57) (g4 : ¬ (q : Int) < 3) (_g8 : IntKind.i64.wrap (3 + (n : Int)) = 3 + (n : Int)) (g9 : ¬ (55 : Int) < (n : Int)) :
    Calls Tryd.prog 59 #[.slice (some ⟨b, o, none⟩) q c, .int .i64 h] w (fun e w' => Below w.heap.size w w' ∧ ∃ n k : Int, e = .returned (.tuple #[.int .i64 n, .int .i64 k, .bool false])) := by
  go_enter Tryd.func59, Tryd.ntmps59
  go_wp2_with fail
  refine wp_loop_rounds 3 ?_
  rw [rounds_succ]; go_wp2_with fail
  rw [rounds_succ]; go_wp2_with fail
  rw [rounds_succ]; go_wp2_with fail
  exact bodyPost_ret (v := .tuple #[.int .i64 n, .int .i64 3, .bool false]) (by simp [results, Tryd.results59, go_sem]) rfl ⟨Below.refl _ _, _, _, rfl⟩
set_option maxRecDepth 100000 in
set_option maxHeartbeats 4000000 in
theorem rlen_k (b o q c f h : Nat) (w : World) (c0 : w.cell? ⟨b, o, none⟩ = some (.int .u8 (f : Nat))) (_g0 : (0 : Int) < (q : Int)) (gf : IntKind.i64.wrap (f : Int) = (f : Int)) (a : Nat) (g6 : (1 : Int) < (q : Int)) (c1 : w.cell? ⟨b, o + 1, none⟩ = some (.int .u8 (a : Nat))) (g7 : ((a : Int) == 0) = false) (ga : IntKind.i64.wrap (a : Int) = (a : Int)) (a2 n : Nat) (g62 : (2 : Int) < (q : Int)) (c2 : w.cell? ⟨b, o + 2, none⟩ = some (.int .u8 (a2 : Nat))) (ga2 : IntKind.i64.wrap (a2 : Int) = (a2 : Int)) (gm : IntKind.i64.wrap (256 * (a : Int)) = 256 * (a : Int)) (gn : IntKind.i64.wrap (256 * (a : Int) + (a2 : Int)) = (n : Int)) (gs : IntKind.i64.wrap ((f : Int) - (h : Int)) = 57) (g4 : ¬ (q : Int) < 3) (g8 : IntKind.i64.wrap (3 + (n : Int)) = 3 + (n : Int)) (g9 : (55 : Int) < (n : Int)) (g10 : ¬ 3 + (n : Int) ≤ (q : Int)) :
    Calls Tryd.prog 59 #[.slice (some ⟨b, o, none⟩) q c, .int .i64 h] w (fun e w' => Below w.heap.size w w' ∧ ∃ n k : Int, e = .returned (.tuple #[.int .i64 n, .int .i64 k, .bool false])) := by
  go_enter Tryd.func59, Tryd.ntmps59
  go_wp2_with fail
  refine wp_loop_rounds 3 ?_
  rw [rounds_succ]; go_wp2_with fail
  rw [rounds_succ]; go_wp2_with fail
  rw [rounds_succ]; go_wp2_with fail
  exact bodyPost_ret (v := .tuple #[.int .i64 n, .int .i64 3, .bool false]) (by simp [results, Tryd.results59, go_sem]; omega) rfl ⟨Below.refl _ _, _, _, rfl⟩
theorem lnP_some {n k : Nat} {w : World} {e : Ending} {w' : World} (h : Below w.heap.size w w' ∧ e = .returned (.tuple #[.int .i64 (n : Nat), .int .i64 (k : Nat), .bool true])) : LnP (some (n, k)) w e w' := h
theorem lnP_none {w : World} {e : Ending} {w' : World} (h : Below w.heap.size w w' ∧ ∃ n k : Int, e = .returned (.tuple #[.int .i64 n, .int .i64 k, .bool false])) : LnP none w e w' := h
/-- The reference's length of a head. -/
theorem rlength_any (B : Nat) (v : Value) (f h : Nat) (r : List Nat) (w : World) (hv : Bt B w v (f :: r)) (hl : (f :: r).length ≤ 4096) (hh : h ≤ f) (hf : f < h + 64) :
    Calls Tryd.prog 59 #[v, .int .i64 h] w (LnP (lenR (f - h) r) w) := by
  obtain ⟨h256, x, c, rfl, _, _, h5⟩ := hv
  rcases h5 with ⟨_, h, _⟩ | ⟨b, o, rfl, hb, hc⟩
  · cases h
  have c0 : w.cell? ⟨b, o, none⟩ = some (.int .u8 (f : Nat)) := by have := hc 0 f rfl; simpa using this
  have hf256 : f < 256 := h256 f (by simp)
  obtain ⟨s, hs⟩ : ∃ s, f - h = s := ⟨_, rfl⟩
  have gs : IntKind.i64.wrap ((f : Int) - (h : Int)) = (s : Int) := (IntWalk.i64_in _ (by omega)).trans (by omega)
  have gf : IntKind.i64.wrap (f : Int) = (f : Int) := IntWalk.i64_in _ (by omega)
  rw [hs]
  obtain ⟨q, hq⟩ : ∃ q, (f :: r).length = q := ⟨_, rfl⟩
  have hqr : q = r.length + 1 := by rw [← hq]; rfl
  have g0 : (0 : Int) < (q : Int) := by omega
  rw [hq]
  rw [hq] at hl
  by_cases h55 : s ≤ 55
  · have g2 : IntKind.i64.wrap (1 + (s : Int)) = 1 + (s : Int) := IntWalk.i64_in _ (by omega)
    rw [lenR_short s r h55]
    by_cases h2 : r.length < s
    · rw [if_pos h2]
      exact (rlen_b b o q c f h w c0 g0 gf s gs (by omega) g2 (by omega)).mono fun e w' hx => lnP_none hx
    · rw [if_neg h2]
      exact (rlen_a b o q c f h w c0 g0 gf s gs (by omega) g2 (by omega)).mono fun e w' hx => lnP_some hx
  have g2 : IntKind.i64.wrap ((s : Int) - 55) = ((s - 55 : Nat) : Int) := (IntWalk.i64_in _ (by omega)).trans (by omega)
  have g3 : IntKind.i64.wrap (1 + ((s - 55 : Nat) : Int)) = 1 + ((s - 55 : Nat) : Int) := IntWalk.i64_in _ (by omega)
  by_cases hfew : r.length < s - 55
  · rw [lenR_few s r (by omega) hfew]
    exact (rlen_c b o q c f h w c0 g0 gf s (s - 55) gs (by omega) g2 g3 (by omega)).mono fun e w' hx => lnP_none hx
  by_cases hwide : 57 < s
  · rw [lenR_wide s r hwide (by omega)]
    exact (rlen_d b o q c f h w c0 g0 gf s (s - 55) gs (by omega) g2 g3 (by omega) (by omega)).mono fun e w' hx => lnP_none hx
  obtain ⟨a, r1, rfl⟩ : ∃ a r1, r = a :: r1 := by
    cases r with
    | nil => simp at hfew; omega
    | cons a r1 => exact ⟨a, r1, rfl⟩
  have c1 : w.cell? ⟨b, o + 1, none⟩ = some (.int .u8 (a : Nat)) := hc 1 a rfl
  rw [List.length_cons] at hqr
  have ha256 : a < 256 := h256 a (by simp)
  by_cases ha : a = 0
  · subst ha
    rw [lenR_nought s r1 (by omega)]
    rw [List.length_cons] at hfew
    exact (rlen_e b o q c f h w c0 g0 gf s (s - 55) gs (by omega) g2 g3 (by omega) (by omega) (by omega) c1).mono fun e w' hx => lnP_none hx
  have g7 : ((a : Int) == 0) = false := by simp; omega
  have ga : IntKind.i64.wrap (a : Int) = (a : Int) := IntWalk.i64_in _ (by omega)
  by_cases h56 : s = 56
  · subst h56
    have gs' : IntKind.i64.wrap ((f : Int) - (h : Int)) = 56 := gs
    have g8 : IntKind.i64.wrap (2 + (a : Int)) = 2 + (a : Int) := IntWalk.i64_in _ (by omega)
    rw [lenR_one a r1 ha]
    by_cases h2 : 55 < a ∧ a ≤ r1.length
    · rw [if_pos h2]
      exact (rlen_f b o q c f h w c0 g0 gf a (by omega) c1 g7 ga gs' (by omega) g8 (by omega) (by omega)).mono fun e w' hx => lnP_some hx
    · rw [if_neg h2]
      by_cases h3 : 55 < a
      · exact (rlen_h b o q c f h w c0 g0 gf a (by omega) c1 g7 ga gs' (by omega) g8 (by omega) (by omega)).mono fun e w' hx => lnP_none hx
      · exact (rlen_g b o q c f h w c0 g0 gf a (by omega) c1 g7 ga gs' (by omega) g8 (by omega)).mono fun e w' hx => lnP_none hx
  · obtain rfl : s = 57 := by omega
    obtain ⟨a2, r2, rfl⟩ : ∃ a2 r2, r1 = a2 :: r2 := by
      cases r1 with
      | nil => simp at hfew
      | cons a r1 => exact ⟨a, r1, rfl⟩
    have c2 : w.cell? ⟨b, o + 2, none⟩ = some (.int .u8 (a2 : Nat)) := hc 2 a2 rfl
    rw [List.length_cons] at hqr
    have ha2 : a2 < 256 := h256 a2 (by simp)
    have gs' : IntKind.i64.wrap ((f : Int) - (h : Int)) = 57 := gs
    have ga2 : IntKind.i64.wrap (a2 : Int) = (a2 : Int) := IntWalk.i64_in _ (by omega)
    have gm : IntKind.i64.wrap (256 * (a : Int)) = 256 * (a : Int) := IntWalk.i64_in _ (by omega)
    have gn : IntKind.i64.wrap (256 * (a : Int) + (a2 : Int)) = ((a * 256 + a2 : Nat) : Int) := (IntWalk.i64_in _ (by omega)).trans (by omega)
    have g8 : IntKind.i64.wrap (3 + ((a * 256 + a2 : Nat) : Int)) = 3 + ((a * 256 + a2 : Nat) : Int) := IntWalk.i64_in _ (by omega)
    rw [lenR_two a a2 r2 ha]
    by_cases h2 : 55 < a * 256 + a2 ∧ a * 256 + a2 ≤ r2.length
    · rw [if_pos h2]
      exact (rlen_i b o q c f h w c0 g0 gf a (by omega) c1 g7 ga a2 _ (by omega) c2 ga2 gm gn gs' (by omega) g8 (by omega) (by omega)).mono fun e w' hx => lnP_some hx
    · rw [if_neg h2]
      by_cases h3 : 55 < a * 256 + a2
      · exact (rlen_k b o q c f h w c0 g0 gf a (by omega) c1 g7 ga a2 _ (by omega) c2 ga2 gm gn gs' (by omega) g8 (by omega) (by omega)).mono fun e w' hx => lnP_none hx
      · exact (rlen_j b o q c f h w c0 g0 gf a (by omega) c1 g7 ga a2 _ (by omega) c2 ga2 gm gn gs' (by omega) g8 (by omega)).mono fun e w' hx => lnP_none hx
end Go.Proofs.YtjmfnafbjfceoaaDoor

/- item: the reference's read of what is no list. -/
namespace Go.Proofs.YtjmfnafbjfceoaaDoor
open Go.RowKit Go.Shelf
set_option linter.unusedSimpArgs false
attribute [local irreducible] lb wdG byA byC heL nuL
theorem Ow.emp (w : World) : Ow (w.alloc (.cells #[] 5)) w.heap.size (.slice (some ⟨w.heap.size, 0, none⟩) 0 0) [] :=
  ⟨by simp, rfl, .inr ⟨w.heap.size, 0, #[], rfl, Nat.le_refl _, heap_alloc_new w _, Nat.le_refl _, by unfold maxLen; omega, rfl, rfl⟩⟩
theorem leS_drop {s : Nat} {r r2 : List Nat} {n : Nat} (h : leS s r = some (n, r2)) : r2 = r.drop (r.length - r2.length) := by
  have key : ∀ j, r2 = r.drop j → r2 = r.drop (r.length - r2.length) := fun j e => by
    by_cases hj : j ≤ r.length
    · have : r2.length = r.length - j := by rw [e, List.length_drop]
      rw [this, show r.length - (r.length - j) = j by omega]; exact e
    · have h0 : r2 = [] := by rw [e]; exact List.drop_eq_nil_of_le (by omega)
      rw [h0]; simp
  unfold leS at h
  split at h
  · injection h with h; injection h with _ h
    exact key 0 (by rw [h]; rfl)
  · split at h
    · cases h
    · split at h
      · injection h with h; injection h with _ h
        exact key _ h.symm
      · cases h
theorem cut_none {f : Nat} {r : List Nat} (hf : ¬ f < 128) (h : lenR (f - hdN (kdN f)) r = none) : cutS (f :: r) = none := by
  rw [cutS_cons, if_neg hf]
  unfold lenR at h
  cases hl : leS (f - hdN (kdN f)) r with
  | none => rfl
  | some q =>
    obtain ⟨n, r2⟩ := q
    rw [hl] at h
    simp only at h ⊢
    split at h
    · rename_i hlt
      rw [if_pos hlt]
    · cases h
theorem cut_some {f : Nat} {r : List Nat} {n k : Nat} (hf : ¬ f < 128) (h : lenR (f - hdN (kdN f)) r = some (n, k)) : cutS (f :: r) = some (kdN f, ((f :: r).drop k).take n, (f :: r).drop (k + n)) ∧ 1 ≤ k ∧ k + n ≤ (f :: r).length := by
  rw [cutS_cons, if_neg hf]
  unfold lenR at h
  cases hl : leS (f - hdN (kdN f)) r with
  | none => rw [hl] at h; cases h
  | some q =>
    obtain ⟨n1, r2⟩ := q
    rw [hl] at h
    have hle := leS_len hl
    have hd := leS_drop hl
    simp only at h ⊢
    split at h
    · cases h
    · rename_i hlt
      injection h with h; injection h with h1 h2
      subst h1
      rw [if_neg hlt]
      have hk : k = (r.length - r2.length) + 1 := by omega
      subst hk
      have e1 : (f :: r).drop (r.length - r2.length + 1) = r2 := by rw [List.drop_succ_cons]; exact hd.symm
      refine ⟨?_, by omega, by simp; omega⟩
      have e2 : (f :: r).drop (r.length - r2.length + 1 + n1) = r2.drop n1 := by
        rw [← List.drop_drop, e1]
      rw [e1, e2]
/-- What read owes. -/
def RrP (o : Option (It × List Nat)) (l : List Nat) (w : World) (e : Ending) (w' : World) : Prop := Below w.heap.size w w' ∧ (match o with
  | some (t, r) => ∃ b x m c y n d, e = .returned (.tuple #[itW b x m c y n d, .int .i64 (l.length - r.length : Nat), .bool true]) ∧ ItP (fun b => w.heap.size ≤ b) w' t (itW b x m c y n d)
  | none => ∃ b x m c y n d, ∃ k : Int, e = .returned (.tuple #[itW b x m c y n d, .int .i64 k, .bool false]))
set_option maxRecDepth 100000 in
set_option maxHeartbeats 4000000 in
theorem rread_nil (x : Option Addr) (c : Nat) (d : Int) (w : World) :
    Calls Tryd.prog 38 #[.slice x 0 c, .int .i64 d] w (RrP none [] w) := by
  have hW := balloc (Below.refl w.heap.size w) (.cells #[.bool false, .slice none 0 0, .slice none 0 0] 25)
  go_enter Tryd.func38, Tryd.ntmps38
  go_wp2_with fail
  exact bodyPost_ret (v := .tuple #[itW false none 0 0 none 0 0, .int .i64 0, .bool false]) (by simp [results, Tryd.results38, go_sem]) rfl ⟨hW, _, _, _, _, _, _, _, _, rfl⟩
set_option maxRecDepth 100000 in
set_option maxHeartbeats 4000000 in
theorem rread_zero (x : Option Addr) (n c : Nat) (hn : 0 < n) (w : World) :
    Calls Tryd.prog 38 #[.slice x n c, .int .i64 0] w (RrP none [] w) := by
  have hW := balloc (Below.refl w.heap.size w) (.cells #[.bool false, .slice none 0 0, .slice none 0 0] 25)
  have g1 : ((n : Int) == 0) = false := by simp; omega
  go_enter Tryd.func38, Tryd.ntmps38
  go_wp2_with fail
  exact bodyPost_ret (v := .tuple #[itW false none 0 0 none 0 0, .int .i64 0, .bool false]) (by simp [results, Tryd.results38, go_sem]) rfl ⟨hW, _, _, _, _, _, _, _, _, rfl⟩
set_option maxRecDepth 100000 in
set_option maxHeartbeats 4000000 in
theorem rread_one (b o q c f : Nat) (d : Nat) (w : World) (hd : 1 ≤ d) (c0 : w.cell? ⟨b, o, none⟩ = some (.int .u8 (f : Nat))) (hb : b < w.heap.size) (hq : 0 < q) (hf : f < 128) :
    Calls Tryd.prog 38 #[.slice (some ⟨b, o, none⟩) q c, .int .i64 d] w fun e w' => ∃ x c, e = .returned (.tuple #[itB (.slice x 1 c), .int .i64 1, .bool true]) ∧ Ow w' w.heap.size (.slice x 1 c) [f] ∧ Below w.heap.size w w' := by
  have hW := balloc (Below.refl w.heap.size w) (.cells #[.bool false, .slice none 0 0, .slice none 0 0] 25)
  have c1 := (hW.cell (p := ⟨b, o, none⟩) hb).trans c0
  have g0 : (f : Int) < 128 := by omega
  have g1 : ((q : Int) == 0) = false := by simp; omega
  have g2 : (0 : Int) < (q : Int) := by omega
  have g3 : ¬ (d : Int) < 1 := by omega
  have HW := Lib.hid hW
  clear hW hq hb
  go_enter Tryd.func38, Tryd.ntmps38
  go_wp2_with fail
  exact bodyPost_ret (v := .tuple #[itB (.slice (some ⟨w.heap.size + 1, 0, none⟩) 1 1), .int .i64 1, .bool true]) (by simp [results, Tryd.results38, go_sem]) rfl ⟨_, _, rfl, Ow.one (by omega) (Nat.le_succ _) (Blk.newS w _ _ _), balloc (balloc (Below.refl _ _) _) _⟩
set_option maxRecDepth 100000 in
set_option maxHeartbeats 4000000 in
/-- .. where the head is none's. -/
theorem rread_not (b o q c f h : Nat) (d : Nat) (w : World) (hd : 1 ≤ d) (c0 : w.cell? ⟨b, o, none⟩ = some (.int .u8 (f : Nat))) (hb : b < w.heap.size) (hq : 0 < q) (hf : ¬ f < 128) (hh : h = if f < 192 then 128 else 192)
    (hL : ∀ X, Below w.heap.size w X → Calls Tryd.prog 59 #[.slice (some ⟨b, o, none⟩) q c, .int .i64 h] X (LnP none X)) :
    Calls Tryd.prog 38 #[.slice (some ⟨b, o, none⟩) q c, .int .i64 d] w (RrP none [] w) := by
  have hW := balloc (Below.refl w.heap.size w) (.cells #[.bool false, .slice none 0 0, .slice none 0 0] 25)
  have c1 := (hW.cell (p := ⟨b, o, none⟩) hb).trans c0
  have g0 : ¬ (f : Int) < 128 := by omega
  have g1 : ((q : Int) == 0) = false := by simp; omega
  have g2 : (0 : Int) < (q : Int) := by omega
  have g3 : ¬ (d : Int) < 1 := by omega
  have HC := Lib.hid (hL _ hW)
  have hI := Blk.new w 25 #[.bool false, .slice none 0 0, .slice none 0 0]
  have HW := Lib.hid (And.intro hW hI)
  clear hW hq hb hL hI
  by_cases h192 : f < 192
  · rw [if_pos h192] at hh
    subst hh
    have g4 : ¬ (192 : Int) ≤ (f : Int) := by omega
    go_enter Tryd.func38, Tryd.ntmps38
    go_wp2_with fail
    refine HC.out.mono ?_
    rintro e w1 ⟨h1, n, k, rfl⟩
    have hI1 := HW.out.2.keep h1
    have i0 := cell_of_row _ _ 0 _ _ _ hI1
    have i1 := cell_of_row _ _ 1 _ _ _ hI1
    have i2 := cell_of_row _ _ 2 _ _ _ hI1
    have f0 := frozen_of_row _ _ 0 _ _ hI1
    have f1 := frozen_of_row _ _ 1 _ _ hI1
    have f2 := frozen_of_row _ _ 2 _ _ hI1
    have hG := grown_set' (grown_set' (grown_set' (grown_refl w1 w.heap.size) 0 (.bool false)) 1 (.slice none 0 0)) 2 (.slice none 0 0)
    have H1 := Lib.hid (step_world (bstep HW.out.1 h1) hG (Nat.le_refl _) (Nat.le_refl _))
    clear h1 HC HW hI1 hG
    go_wp2_with fail
    exact bodyPost_ret (v := .tuple #[itW false none 0 0 none 0 0, .int .i64 0, .bool false]) (by simp [results, Tryd.results38, go_sem, i0, i1, i2]) rfl ⟨H1.out, _, _, _, _, _, _, _, _, rfl⟩
  · rw [if_neg h192] at hh
    subst hh
    have g4 : (192 : Int) ≤ (f : Int) := by omega
    go_enter Tryd.func38, Tryd.ntmps38
    go_wp2_with fail
    refine HC.out.mono ?_
    rintro e w1 ⟨h1, n, k, rfl⟩
    have hI1 := HW.out.2.keep h1
    have i0 := cell_of_row _ _ 0 _ _ _ hI1
    have i1 := cell_of_row _ _ 1 _ _ _ hI1
    have i2 := cell_of_row _ _ 2 _ _ _ hI1
    have f0 := frozen_of_row _ _ 0 _ _ hI1
    have f1 := frozen_of_row _ _ 1 _ _ hI1
    have f2 := frozen_of_row _ _ 2 _ _ hI1
    have hG := grown_set' (grown_set' (grown_set' (grown_refl w1 w.heap.size) 0 (.bool false)) 1 (.slice none 0 0)) 2 (.slice none 0 0)
    have H1 := Lib.hid (step_world (bstep HW.out.1 h1) hG (Nat.le_refl _) (Nat.le_refl _))
    clear h1 HC HW hI1 hG
    go_wp2_with fail
    exact bodyPost_ret (v := .tuple #[itW false none 0 0 none 0 0, .int .i64 0, .bool false]) (by simp [results, Tryd.results38, go_sem, i0, i1, i2]) rfl ⟨H1.out, _, _, _, _, _, _, _, _, rfl⟩
set_option maxRecDepth 100000 in
set_option maxHeartbeats 4000000 in
theorem rread_bytes_a (B b o q c f : Nat) (l : List Nat) (n k kn : Nat) (d : Nat) (w : World) (hd : 1 ≤ d) (hv : Bt B w (.slice (some ⟨b, o, none⟩) q c) l) (hq : l.length = q) (hl : q ≤ 4096) (c0 : w.cell? ⟨b, o, none⟩ = some (.int .u8 (f : Nat))) (hb : b < w.heap.size) (hf : ¬ f < 128) (h192 : f < 192) (hk : 1 ≤ k) (hkn : k + n = kn) (hknq : kn ≤ q) (hn : n ≠ 1) (hck : ¬ c = k)
    (hL : ∀ X, Below w.heap.size w X → Calls Tryd.prog 59 #[.slice (some ⟨b, o, none⟩) q c, .int .i64 (128 : Nat)] X (LnP (some (n, k)) X)) :
    Calls Tryd.prog 38 #[.slice (some ⟨b, o, none⟩) q c, .int .i64 d] w fun e w' => ∃ x m c, e = .returned (.tuple #[itB (.slice x m c), .int .i64 (kn : Nat), .bool true]) ∧ Ow w' w.heap.size (.slice x m c) ((l.drop k).take n) ∧ Below w.heap.size w w' := by
  have hcap : q ≤ c := by obtain ⟨_, _, _, e, h, _⟩ := id hv; cases e; omega
  have hW := balloc (Below.refl w.heap.size w) (.cells #[.bool false, .slice none 0 0, .slice none 0 0] 25)
  have c1 := (hW.cell (p := ⟨b, o, none⟩) hb).trans c0
  have g0 : ¬ (f : Int) < 128 := by omega
  have g1 : ((q : Int) == 0) = false := by simp; omega
  have g2 : (0 : Int) < (q : Int) := by omega
  have g3 : ¬ (d : Int) < 1 := by omega
  have HC := Lib.hid (hL _ hW)
  have hI := Blk.new w 25 #[.bool false, .slice none 0 0, .slice none 0 0]
  have hown : ∀ X, Bt B X (.slice (some ⟨b, o, none⟩) q c) l → Bt B X (.slice (some ⟨b, o + k, none⟩) n (c - k)) ((l.drop k).take n) := fun X h => by
    rw [← hq] at h
    have h1 := Bt.drop h k (by omega)
    rw [if_neg hck] at h1
    have h2 := Bt.take (l := l.drop k) (by rw [List.length_drop]; exact h1) n (by rw [List.length_drop]; omega)
    rw [Option.map_some, Go.WideShapes.add_plain] at h2; exact h2
  have hln : ((l.drop k).take n).length = n := by rw [List.length_take, List.length_drop]; omega
  obtain ⟨ml, hml⟩ : ∃ ml, (l.drop k).take n = ml := ⟨_, rfl⟩
  rw [hml] at hown hln
  rw [hml]
  have HW := Lib.hid (And.intro hW (And.intro hI (And.intro (hv.new hW) (And.intro hown hln))))
  have g4 : ¬ (192 : Int) ≤ (f : Int) := by omega
  have g5 : IntKind.i64.wrap ((k : Int) + (n : Int)) = (kn : Int) := (IntWalk.i64_in _ (by omega)).trans (by omega)
  have g6 : (k : Int) ≤ (kn : Int) := by omega
  have g7 : (kn : Int) ≤ (c : Int) := by omega
  have g8 : (kn : Int) ≤ (q : Int) := by omega
  have g9 : (0 : Int) ≤ (k : Int) := by omega
  have HKN := Lib.hid (show kn - k = n by omega)
  have g10 : ((n : Int) != 1) = true := by simp; omega
  have HB := Lib.hid hb
  clear hW hq hb hL hI hv hown hml hln hn
  go_enter Tryd.func38, Tryd.ntmps38
  go_wp2_with fail
  refine HC.out.mono ?_
  rintro e w1 ⟨h1, rfl⟩
  have hI1 := HW.out.2.1.keep h1
  have H1 := Lib.hid (And.intro (bstep HW.out.1 h1) (And.intro hI1 (HW.out.2.2.2.1 w1 (HW.out.2.2.1.new h1))))
  clear h1 HC hI1
  go_wp2_with fail
  rw [HKN.out]
  have hbw : b < w1.heap.size := Nat.lt_of_lt_of_le HB.out H1.out.1.size
  have hwl : w.heap.size < w1.heap.size := H1.out.2.1.lt
  have hbne : b ≠ w.heap.size := by have := HB.out; omega
  refine wp_region_held_drew (S := fun w' => w1.grownBy w' (some w.heap.size)) (by as_aux_lemma => kernel_rfl) (grown_of _ (Below.refl _ _).drew) (fun hHeld => ?_)
  simp only [List.size_toArray, List.length_cons, List.length_nil, Nat.reduceAdd, Array.replicate_succ, Array.replicate_zero, List.push_toArray, List.nil_append, List.cons_append]
  refine wpAnyH_take (i := 1) (oi := { dst := some 57, op := Op.move (Operand.tmp 11), type := 22, pos := "ref.go:108", after := #[], guard := none }) (v := ?vq0) rfl (by as_aux_lemma => kernel_rfl) (by as_aux_lemma => kernel_rfl) (by as_aux_lemma => kernel_rfl) (fun _ _ _ h => h) (Or.inl ⟨by rfl, ?yq0⟩) (by assumption) ?rq0
  case yq0 => (intro w' hSw; (try dsimp only at hSw); go_simp <;> with_reducible rfl)
  simp only [Act.put, List.setIfInBounds_toArray, List.set_cons_zero, List.set_cons_succ]
  refine wpAnyH_take (i := 4) (oi := { dst := some 60, op := Op.move (Operand.tmp 9), type := 3, pos := "ref.go:108", after := #[{ on := 15, ground := Ground.gcOnly Departure.lateStores }], guard := none }) (v := ?vq1) rfl (by as_aux_lemma => kernel_rfl) (by as_aux_lemma => kernel_rfl) (by as_aux_lemma => kernel_rfl) (fun _ _ _ h => h) (Or.inl ⟨by rfl, ?yq1⟩) (by assumption) ?rq1
  case yq1 => (intro w' hSw; (try dsimp only at hSw); go_simp <;> with_reducible rfl)
  simp only [Act.put, List.setIfInBounds_toArray, List.set_cons_zero, List.set_cons_succ]
  refine wpAnyH_take (i := 5) (oi := { dst := some 61, op := Op.move (Operand.tmp 8), type := 3, pos := "ref.go:108", after := #[{ on := 15, ground := Ground.gcOnly Departure.lateStores }], guard := none }) (v := ?vq2) rfl (by as_aux_lemma => kernel_rfl) (by as_aux_lemma => kernel_rfl) (by as_aux_lemma => kernel_rfl) (fun _ _ _ h => h) (Or.inl ⟨by rfl, ?yq2⟩) (by assumption) ?rq2
  case yq2 => (intro w' hSw; (try dsimp only at hSw); go_simp <;> with_reducible rfl)
  simp only [Act.put, List.setIfInBounds_toArray, List.set_cons_zero, List.set_cons_succ]
  refine wpAnyH_take (i := 6) (oi := { dst := some 62, op := Op.binOp BinOp.add 3 (Operand.tmp 60) (Operand.tmp 61) 3, type := 3, pos := "ref.go:108", after := #[{ on := 4, ground := Ground.data }, { on := 5, ground := Ground.data }, { on := 15, ground := Ground.gcOnly Departure.lateStores }], guard := none }) (v := ?vq3) rfl (by as_aux_lemma => kernel_rfl) (by as_aux_lemma => kernel_rfl) (by as_aux_lemma => kernel_rfl) (fun _ _ _ h => h) (Or.inl ⟨by rfl, ?yq3⟩) (by assumption) ?rq3
  case yq3 => (intro w' hSw; (try dsimp only at hSw); go_simp <;> with_reducible rfl)
  simp only [Act.put, List.setIfInBounds_toArray, List.set_cons_zero, List.set_cons_succ]
  refine wpAnyH_take (i := 7) (oi := { dst := some 63, op := Op.move (Operand.tmp 8), type := 3, pos := "ref.go:108", after := #[], guard := none }) (v := ?vq4) rfl (by as_aux_lemma => kernel_rfl) (by as_aux_lemma => kernel_rfl) (by as_aux_lemma => kernel_rfl) (fun _ _ _ h => h) (Or.inl ⟨by rfl, ?yq4⟩) (by assumption) ?rq4
  case yq4 => (intro w' hSw; (try dsimp only at hSw); go_simp <;> with_reducible rfl)
  simp only [Act.put, List.setIfInBounds_toArray, List.set_cons_zero, List.set_cons_succ]
  refine wpAnyH_take (i := 8) (oi := { dst := some 64, op := Op.binOp BinOp.neq 3 (Operand.tmp 63) (Operand.const (Value.int IntKind.i64 1)) 3, type := 4, pos := "ref.go:108", after := #[{ on := 7, ground := Ground.data }], guard := none }) (v := ?vq5) rfl (by as_aux_lemma => kernel_rfl) (by as_aux_lemma => kernel_rfl) (by as_aux_lemma => kernel_rfl) (fun _ _ _ h => h) (Or.inl ⟨by rfl, ?yq5⟩) (by assumption) ?rq5
  case yq5 => (intro w' hSw; (try dsimp only at hSw); go_simp <;> with_reducible rfl)
  simp only [Act.put, List.setIfInBounds_toArray, List.set_cons_zero, List.set_cons_succ]
  refine wpAnyH_ready (rs := [0]) (by as_aux_lemma => kernel_rfl) (by simp) ?_
  refine AllReadyH.cons (o := { dst := some 56, op := Op.buildSlice 22 0 #[], type := 22, pos := "ref.go:108", after := #[], guard := none }) rfl (fun K hK => ?_) (by exact AllReadyH.nil)
  rw [if_pos (by rfl)]
  go_simp
  refine hK.out _ _ (by (try dsimp only); exact grown_of _ (balloc (Below.refl _ _).drew _)) (fun hHeld => ?_)
  clear hK K
  simp only [List.setIfInBounds_toArray, List.set_cons_zero, List.set_cons_succ]
  refine wpAnyH_ready (rs := [2]) (by as_aux_lemma => kernel_rfl) (by simp) ?_
  refine AllReadyH.cons (o := { dst := some 58, op := Op.call { callee := Callee.builtin Builtin.append, args := #[Operand.tmp 56, Operand.tmp 57], argTypes := #[22, 22] }, type := 22, pos := "ref.go:108", after := #[{ on := 0, ground := Ground.data }, { on := 1, ground := Ground.data }], guard := none }) rfl (fun K hK => ?_) (by exact AllReadyH.nil)
  rw [if_pos (by rfl)]
  obtain ⟨X, hX⟩ : ∃ X, (w1.alloc (.cells #[] 5)).drew = X := ⟨_, rfl⟩
  have hOX : Ow X w1.heap.size (.slice (some ⟨w1.heap.size, 0, none⟩) 0 0) [] := by rw [← hX]; exact (Ow.emp w1).new (Below.refl _ _).drew
  have hbX : Below w1.heap.size w1 X := by rw [← hX]; exact (balloc (Below.refl _ _) _).drew
  rw [hX]
  have hown := (H1.out.2.2.new hbX).bto
  obtain ⟨y3, c3, w3, hrun, hO3, hg3⟩ := run_appq (w := X) w1.heap.size _ [] hOX B (.slice (some ⟨b, o + k, none⟩) n (c - k)) ml hown (fun n c e => by cases e) (by have := HW.out.2.2.2.2; simp; omega) hbX.size
  rw [List.nil_append, HW.out.2.2.2.2] at hrun
  rw [List.nil_append, HW.out.2.2.2.2] at hO3
  have hb3 : Below w1.heap.size w1 w3 := hbX.grown hg3 hbX.size (fun k e => by have := (hOX.2.lt k e).1; omega)
  refine wp_append_run (.tmp 56) (.tmp 57) 22 rfl (v := .slice (some ⟨w1.heap.size, 0, none⟩) 0 0) (u := .slice (some ⟨b, o + k, none⟩) n (c - k)) rfl rfl hrun ?_
  clear hrun hX
  refine hK.out _ _ (grown_of _ hb3) (fun hHeld => ?_)
  clear hK K
  simp only [List.setIfInBounds_toArray, List.set_cons_zero, List.set_cons_succ]
  refine wpAnyH_take (i := 3) (oi := { dst := some 59, op := Op.build 25 #[(1, Operand.tmp 58)], type := 25, pos := "ref.go:108", after := #[{ on := 2, ground := Ground.data }], guard := none }) (v := ?vq8) rfl (by as_aux_lemma => kernel_rfl) (by as_aux_lemma => kernel_rfl) (by as_aux_lemma => kernel_rfl) (fun _ _ _ h => h) (Or.inl ⟨by rfl, ?yq8⟩) (by assumption) ?rq8
  case yq8 => (intro w' hSw; (try dsimp only at hSw); go_simp <;> with_reducible rfl)
  simp only [Act.put, List.setIfInBounds_toArray, List.set_cons_zero, List.set_cons_succ]
  refine wpAnyH_take (i := 9) (oi := { dst := some 65, op := Op.move (Operand.tmp 64), type := 4, pos := "ref.go:108", after := #[{ on := 8, ground := Ground.data }, { on := 2, ground := Ground.chain }], guard := none }) (v := ?vq9) rfl (by as_aux_lemma => kernel_rfl) (by as_aux_lemma => kernel_rfl) (by as_aux_lemma => kernel_rfl) (fun _ _ _ h => h) (Or.inl ⟨by rfl, ?yq9⟩) (by assumption) ?rq9
  case yq9 => (intro w' hSw; (try dsimp only at hSw); go_simp <;> with_reducible rfl)
  simp only [Act.put, List.setIfInBounds_toArray, List.set_cons_zero, List.set_cons_succ]
  refine wpAnyH_take (i := 10) (oi := { dst := some 66, op := Op.move (Operand.tmp 11), type := 22, pos := "ref.go:108", after := #[{ on := 9, ground := Ground.guard }, { on := 16, ground := Ground.gcOnly Departure.lateStores }], guard := some (9, false) }) (v := undef) rfl (by as_aux_lemma => kernel_rfl) (by as_aux_lemma => kernel_rfl) (by as_aux_lemma => kernel_rfl) (fun _ _ _ h => h) (Or.inr ⟨by rfl, rfl⟩) (by assumption) ?_
  simp only [Act.put, List.setIfInBounds_toArray, List.set_cons_zero, List.set_cons_succ]
  refine wpAnyH_take (i := 11) (oi := { dst := some 67, op := Op.indexAddr 22 (Operand.tmp 66) (Operand.const (Value.int IntKind.i64 0)), type := 0, pos := "ref.go:108", after := #[{ on := 10, ground := Ground.data }, { on := 9, ground := Ground.guard }, { on := 16, ground := Ground.gcOnly Departure.lateStores }], guard := some (9, false) }) (v := undef) rfl (by as_aux_lemma => kernel_rfl) (by as_aux_lemma => kernel_rfl) (by as_aux_lemma => kernel_rfl) (fun _ _ _ h => h) (Or.inr ⟨by rfl, rfl⟩) (by assumption) ?_
  simp only [Act.put, List.setIfInBounds_toArray, List.set_cons_zero, List.set_cons_succ]
  refine wpAnyH_take (i := 12) (oi := { dst := some 68, op := Op.load 5 (Operand.tmp 67), type := 5, pos := "ref.go:108", after := #[{ on := 11, ground := Ground.data }, { on := 9, ground := Ground.guard }, { on := 16, ground := Ground.gcOnly Departure.lateStores }], guard := some (9, false) }) (v := undef) rfl (by as_aux_lemma => kernel_rfl) (by as_aux_lemma => kernel_rfl) (by as_aux_lemma => kernel_rfl) (fun _ _ _ h => h) (Or.inr ⟨by rfl, rfl⟩) (by assumption) ?_
  simp only [Act.put, List.setIfInBounds_toArray, List.set_cons_zero, List.set_cons_succ]
  refine wpAnyH_take (i := 13) (oi := { dst := some 69, op := Op.binOp BinOp.geq 5 (Operand.tmp 68) (Operand.const (Value.int IntKind.u8 128)) 5, type := 4, pos := "ref.go:108", after := #[{ on := 12, ground := Ground.data }, { on := 9, ground := Ground.guard }, { on := 16, ground := Ground.gcOnly Departure.lateStores }], guard := some (9, false) }) (v := undef) rfl (by as_aux_lemma => kernel_rfl) (by as_aux_lemma => kernel_rfl) (by as_aux_lemma => kernel_rfl) (fun _ _ _ h => h) (Or.inr ⟨by rfl, rfl⟩) (by assumption) ?_
  simp only [Act.put, List.setIfInBounds_toArray, List.set_cons_zero, List.set_cons_succ]
  refine wpAnyH_take (i := 14) (oi := { dst := some 70, op := Op.pick (Operand.tmp 65) (Operand.const (Value.bool true)) (Operand.tmp 69), type := 4, pos := "ref.go:108", after := #[{ on := 9, ground := Ground.data }, { on := 13, ground := Ground.data }, { on := 16, ground := Ground.gcOnly Departure.lateStores }], guard := none }) (v := ?vq14) rfl (by as_aux_lemma => kernel_rfl) (by as_aux_lemma => kernel_rfl) (by as_aux_lemma => kernel_rfl) (fun _ _ _ h => h) (Or.inl ⟨by rfl, ?yq14⟩) (by assumption) ?rq14
  case yq14 => (intro w' hSw; (try dsimp only at hSw); go_simp <;> with_reducible rfl)
  simp only [Act.put, List.setIfInBounds_toArray, List.set_cons_zero, List.set_cons_succ]
  have hI3 := H1.out.2.1.keep hb3
  have i0 := cell_of_row _ _ 0 _ _ _ hI3
  have i1 := cell_of_row _ _ 1 _ _ _ hI3
  have i2 := cell_of_row _ _ 2 _ _ _ hI3
  have f0 := frozen_of_row _ _ 0 _ _ hI3
  have f1 := frozen_of_row _ _ 1 _ _ hI3
  have f2 := frozen_of_row _ _ 2 _ _ hI3
  have hG := grown_set' (grown_set' (grown_set' (grown_refl w3 w.heap.size) 0 (.bool false)) 1 (.slice y3 n c3)) 2 (.slice none 0 0)
  have hGG := grown_then' (grown_of w.heap.size hb3) hG
  have HF := Lib.hid (And.intro ((hO3.kept hG (fun r e => by cases e; omega)).mono (show w.heap.size ≤ w1.heap.size by omega)) (step_world (bstep H1.out.1 hb3) hG (Nat.le_refl _) (Nat.le_refl _)))
  refine wpAnyH_ready (rs := [15]) (by as_aux_lemma => kernel_rfl) (by simp) ?_
  refine AllReadyH.cons (o := { dst := none, op := Op.store 25 (Operand.tmp 4) (Operand.tmp 59), type := 0, pos := "ref.go:108", after := #[{ on := 3, ground := Ground.data }, { on := 9, ground := Ground.chain }, { on := 0, ground := Ground.phase }, { on := 1, ground := Ground.phase }, { on := 2, ground := Ground.phase }, { on := 3, ground := Ground.phase }, { on := 4, ground := Ground.textOnly Departure.lateStores }, { on := 5, ground := Ground.textOnly Departure.lateStores }, { on := 6, ground := Ground.textOnly Departure.lateStores }, { on := 7, ground := Ground.textOnly Departure.lateStores }, { on := 8, ground := Ground.textOnly Departure.lateStores }, { on := 9, ground := Ground.textOnly Departure.lateStores }, { on := 10, ground := Ground.textOnly Departure.lateStores }, { on := 11, ground := Ground.textOnly Departure.lateStores }, { on := 12, ground := Ground.textOnly Departure.lateStores }, { on := 13, ground := Ground.textOnly Departure.lateStores }, { on := 14, ground := Ground.textOnly Departure.lateStores }], guard := none }) rfl (fun K hK => ?_) (by exact AllReadyH.nil)
  rw [if_pos (by rfl)]
  go_simp
  refine hK.out _ _ (by (try dsimp only); exact hGG) (fun hHeld => ?_)
  clear hK K
  simp only [List.setIfInBounds_toArray, List.set_cons_zero, List.set_cons_succ]
  refine wpAnyH_take (i := 16) (oi := { dst := some 5, op := Op.assign (Operand.tmp 62), type := 3, pos := "ref.go:108", after := #[{ on := 6, ground := Ground.data }, { on := 15, ground := Ground.chain }, { on := 0, ground := Ground.phase }, { on := 1, ground := Ground.phase }, { on := 2, ground := Ground.phase }, { on := 3, ground := Ground.phase }, { on := 4, ground := Ground.phase }, { on := 5, ground := Ground.phase }, { on := 6, ground := Ground.phase }, { on := 7, ground := Ground.textOnly Departure.lateStores }, { on := 8, ground := Ground.textOnly Departure.lateStores }, { on := 9, ground := Ground.textOnly Departure.lateStores }, { on := 10, ground := Ground.textOnly Departure.lateStores }, { on := 11, ground := Ground.textOnly Departure.lateStores }, { on := 12, ground := Ground.textOnly Departure.lateStores }, { on := 13, ground := Ground.textOnly Departure.lateStores }, { on := 14, ground := Ground.textOnly Departure.lateStores }, { on := 15, ground := Ground.phase }], guard := none }) (v := ?vq16) rfl (by as_aux_lemma => kernel_rfl) (by as_aux_lemma => kernel_rfl) (by as_aux_lemma => kernel_rfl) (fun _ _ _ h => h) (Or.inl ⟨by rfl, ?yq16⟩) (by assumption) ?rq16
  case yq16 => (intro w' hSw; (try dsimp only at hSw); go_simp <;> with_reducible rfl)
  simp only [Act.put, List.setIfInBounds_toArray, List.set_cons_zero, List.set_cons_succ]
  refine wpAnyH_take (i := 17) (oi := { dst := some 6, op := Op.assign (Operand.tmp 70), type := 4, pos := "ref.go:108", after := #[{ on := 14, ground := Ground.data }, { on := 16, ground := Ground.chain }, { on := 0, ground := Ground.phase }, { on := 1, ground := Ground.phase }, { on := 2, ground := Ground.phase }, { on := 3, ground := Ground.phase }, { on := 4, ground := Ground.phase }, { on := 5, ground := Ground.phase }, { on := 6, ground := Ground.phase }, { on := 7, ground := Ground.phase }, { on := 8, ground := Ground.phase }, { on := 9, ground := Ground.phase }, { on := 10, ground := Ground.phase }, { on := 11, ground := Ground.phase }, { on := 12, ground := Ground.phase }, { on := 13, ground := Ground.phase }, { on := 14, ground := Ground.phase }, { on := 15, ground := Ground.phase }, { on := 16, ground := Ground.phase }], guard := none }) (v := ?vq17) rfl (by as_aux_lemma => kernel_rfl) (by as_aux_lemma => kernel_rfl) (by as_aux_lemma => kernel_rfl) (fun _ _ _ h => h) (Or.inl ⟨by rfl, ?yq17⟩) (by assumption) ?rq17
  case yq17 => (intro w' hSw; (try dsimp only at hSw); go_simp <;> with_reducible rfl)
  simp only [Act.put, List.setIfInBounds_toArray, List.set_cons_zero, List.set_cons_succ]
  refine wpAnyH_done (by as_aux_lemma => kernel_rfl) ?_ _
  simp only [Exit.then]
  clear hG hGG hI3 hO3 hg3 hb3
  go_wp2_with fail
  exact bodyPost_ret (v := .tuple #[itB (.slice y3 n c3), .int .i64 (kn : Nat), .bool true]) (by simp [results, Tryd.results38, go_sem, i0, i1, i2]) rfl ⟨_, _, _, rfl, HF.out⟩
set_option maxRecDepth 100000 in
set_option maxHeartbeats 4000000 in
theorem rread_bytes_c (B b o q c f : Nat) (l : List Nat) (n k kn u : Nat) (d : Nat) (w : World) (hd : 1 ≤ d) (hv : Bt B w (.slice (some ⟨b, o, none⟩) q c) l) (hq : l.length = q) (hl : q ≤ 4096) (c0 : w.cell? ⟨b, o, none⟩ = some (.int .u8 (f : Nat))) (hb : b < w.heap.size) (hf : ¬ f < 128) (h192 : f < 192) (hk : 1 ≤ k) (hkn : k + n = kn) (hknq : kn ≤ q) (hn : n = 1) (cu : w.cell? ⟨b, o + k, none⟩ = some (.int .u8 (u : Nat))) (hck : ¬ c = k)
    (hL : ∀ X, Below w.heap.size w X → Calls Tryd.prog 59 #[.slice (some ⟨b, o, none⟩) q c, .int .i64 (128 : Nat)] X (LnP (some (n, k)) X)) :
    Calls Tryd.prog 38 #[.slice (some ⟨b, o, none⟩) q c, .int .i64 d] w fun e w' => ∃ x m c, e = .returned (.tuple #[itB (.slice x m c), .int .i64 (kn : Nat), .bool (decide ((128 : Int) ≤ (u : Int)))]) ∧ Ow w' w.heap.size (.slice x m c) ((l.drop k).take n) ∧ Below w.heap.size w w' := by
  have hcap : q ≤ c := by obtain ⟨_, _, _, e, h, _⟩ := id hv; cases e; omega
  have hW := balloc (Below.refl w.heap.size w) (.cells #[.bool false, .slice none 0 0, .slice none 0 0] 25)
  have c1 := (hW.cell (p := ⟨b, o, none⟩) hb).trans c0
  have g0 : ¬ (f : Int) < 128 := by omega
  have g1 : ((q : Int) == 0) = false := by simp; omega
  have g2 : (0 : Int) < (q : Int) := by omega
  have g3 : ¬ (d : Int) < 1 := by omega
  have HC := Lib.hid (hL _ hW)
  have hI := Blk.new w 25 #[.bool false, .slice none 0 0, .slice none 0 0]
  have hown : ∀ X, Bt B X (.slice (some ⟨b, o, none⟩) q c) l → Bt B X (.slice (some ⟨b, o + k, none⟩) n (c - k)) ((l.drop k).take n) := fun X h => by
    rw [← hq] at h
    have h1 := Bt.drop h k (by omega)
    rw [if_neg hck] at h1
    have h2 := Bt.take (l := l.drop k) (by rw [List.length_drop]; exact h1) n (by rw [List.length_drop]; omega)
    rw [Option.map_some, Go.WideShapes.add_plain] at h2; exact h2
  have hln : ((l.drop k).take n).length = n := by rw [List.length_take, List.length_drop]; omega
  obtain ⟨ml, hml⟩ : ∃ ml, (l.drop k).take n = ml := ⟨_, rfl⟩
  rw [hml] at hown hln
  rw [hml]
  have HW := Lib.hid (And.intro hW (And.intro hI (And.intro (hv.new hW) (And.intro hown hln))))
  have g4 : ¬ (192 : Int) ≤ (f : Int) := by omega
  have g5 : IntKind.i64.wrap ((k : Int) + (n : Int)) = (kn : Int) := (IntWalk.i64_in _ (by omega)).trans (by omega)
  have g6 : (k : Int) ≤ (kn : Int) := by omega
  have g7 : (kn : Int) ≤ (c : Int) := by omega
  have g8 : (kn : Int) ≤ (q : Int) := by omega
  have g9 : (0 : Int) ≤ (k : Int) := by omega
  have HKN := Lib.hid (show kn - k = n by omega)
  have cu1 := (hW.cell (p := ⟨b, o + k, none⟩) hb).trans cu
  have hn0 : (0 : Int) < (n : Int) := by omega
  have hn00 : 0 < n := by omega
  have HN := Lib.hid hn
  have g10 : ((n : Int) != 1) = false := by simp; omega
  have HB := Lib.hid hb
  clear hW hq hb hL hI hv hown hml hln hn
  go_enter Tryd.func38, Tryd.ntmps38
  go_wp2_with fail
  refine HC.out.mono ?_
  rintro e w1 ⟨h1, rfl⟩
  have hI1 := HW.out.2.1.keep h1
  have cu2 := (h1.cell (p := ⟨b, o + k, none⟩) (Nat.lt_of_lt_of_le HB.out HW.out.1.size)).trans cu1
  have H1 := Lib.hid (And.intro (bstep HW.out.1 h1) (And.intro hI1 (HW.out.2.2.2.1 w1 (HW.out.2.2.1.new h1))))
  clear h1 HC hI1
  go_wp2_with fail
  rw [HKN.out]
  have hbw : b < w1.heap.size := Nat.lt_of_lt_of_le HB.out H1.out.1.size
  have hwl : w.heap.size < w1.heap.size := H1.out.2.1.lt
  have hbne : b ≠ w.heap.size := by have := HB.out; omega
  have ku : ∀ w', w1.grownBy w' (some w.heap.size) → w'.cell? ⟨b, o + k, none⟩ = some (.int .u8 (u : Nat)) := fun w' h => (World.cell?_of_block (h.block b hbw (fun e => hbne (by injection e)))).trans cu2
  refine wp_region_held_drew (S := fun w' => w1.grownBy w' (some w.heap.size)) (by as_aux_lemma => kernel_rfl) (grown_of _ (Below.refl _ _).drew) (fun hHeld => ?_)
  simp only [List.size_toArray, List.length_cons, List.length_nil, Nat.reduceAdd, Array.replicate_succ, Array.replicate_zero, List.push_toArray, List.nil_append, List.cons_append]
  refine wpAnyH_take (i := 1) (oi := { dst := some 57, op := Op.move (Operand.tmp 11), type := 22, pos := "ref.go:108", after := #[], guard := none }) (v := ?vq0) rfl (by as_aux_lemma => kernel_rfl) (by as_aux_lemma => kernel_rfl) (by as_aux_lemma => kernel_rfl) (fun _ _ _ h => h) (Or.inl ⟨by rfl, ?yq0⟩) (by assumption) ?rq0
  case yq0 => (intro w' hSw; (try dsimp only at hSw); go_simp <;> with_reducible rfl)
  simp only [Act.put, List.setIfInBounds_toArray, List.set_cons_zero, List.set_cons_succ]
  refine wpAnyH_take (i := 4) (oi := { dst := some 60, op := Op.move (Operand.tmp 9), type := 3, pos := "ref.go:108", after := #[{ on := 15, ground := Ground.gcOnly Departure.lateStores }], guard := none }) (v := ?vq1) rfl (by as_aux_lemma => kernel_rfl) (by as_aux_lemma => kernel_rfl) (by as_aux_lemma => kernel_rfl) (fun _ _ _ h => h) (Or.inl ⟨by rfl, ?yq1⟩) (by assumption) ?rq1
  case yq1 => (intro w' hSw; (try dsimp only at hSw); go_simp <;> with_reducible rfl)
  simp only [Act.put, List.setIfInBounds_toArray, List.set_cons_zero, List.set_cons_succ]
  refine wpAnyH_take (i := 5) (oi := { dst := some 61, op := Op.move (Operand.tmp 8), type := 3, pos := "ref.go:108", after := #[{ on := 15, ground := Ground.gcOnly Departure.lateStores }], guard := none }) (v := ?vq2) rfl (by as_aux_lemma => kernel_rfl) (by as_aux_lemma => kernel_rfl) (by as_aux_lemma => kernel_rfl) (fun _ _ _ h => h) (Or.inl ⟨by rfl, ?yq2⟩) (by assumption) ?rq2
  case yq2 => (intro w' hSw; (try dsimp only at hSw); go_simp <;> with_reducible rfl)
  simp only [Act.put, List.setIfInBounds_toArray, List.set_cons_zero, List.set_cons_succ]
  refine wpAnyH_take (i := 6) (oi := { dst := some 62, op := Op.binOp BinOp.add 3 (Operand.tmp 60) (Operand.tmp 61) 3, type := 3, pos := "ref.go:108", after := #[{ on := 4, ground := Ground.data }, { on := 5, ground := Ground.data }, { on := 15, ground := Ground.gcOnly Departure.lateStores }], guard := none }) (v := ?vq3) rfl (by as_aux_lemma => kernel_rfl) (by as_aux_lemma => kernel_rfl) (by as_aux_lemma => kernel_rfl) (fun _ _ _ h => h) (Or.inl ⟨by rfl, ?yq3⟩) (by assumption) ?rq3
  case yq3 => (intro w' hSw; (try dsimp only at hSw); go_simp <;> with_reducible rfl)
  simp only [Act.put, List.setIfInBounds_toArray, List.set_cons_zero, List.set_cons_succ]
  refine wpAnyH_take (i := 7) (oi := { dst := some 63, op := Op.move (Operand.tmp 8), type := 3, pos := "ref.go:108", after := #[], guard := none }) (v := ?vq4) rfl (by as_aux_lemma => kernel_rfl) (by as_aux_lemma => kernel_rfl) (by as_aux_lemma => kernel_rfl) (fun _ _ _ h => h) (Or.inl ⟨by rfl, ?yq4⟩) (by assumption) ?rq4
  case yq4 => (intro w' hSw; (try dsimp only at hSw); go_simp <;> with_reducible rfl)
  simp only [Act.put, List.setIfInBounds_toArray, List.set_cons_zero, List.set_cons_succ]
  refine wpAnyH_take (i := 8) (oi := { dst := some 64, op := Op.binOp BinOp.neq 3 (Operand.tmp 63) (Operand.const (Value.int IntKind.i64 1)) 3, type := 4, pos := "ref.go:108", after := #[{ on := 7, ground := Ground.data }], guard := none }) (v := ?vq5) rfl (by as_aux_lemma => kernel_rfl) (by as_aux_lemma => kernel_rfl) (by as_aux_lemma => kernel_rfl) (fun _ _ _ h => h) (Or.inl ⟨by rfl, ?yq5⟩) (by assumption) ?rq5
  case yq5 => (intro w' hSw; (try dsimp only at hSw); go_simp <;> with_reducible rfl)
  simp only [Act.put, List.setIfInBounds_toArray, List.set_cons_zero, List.set_cons_succ]
  refine wpAnyH_ready (rs := [0]) (by as_aux_lemma => kernel_rfl) (by simp) ?_
  refine AllReadyH.cons (o := { dst := some 56, op := Op.buildSlice 22 0 #[], type := 22, pos := "ref.go:108", after := #[], guard := none }) rfl (fun K hK => ?_) (by exact AllReadyH.nil)
  rw [if_pos (by rfl)]
  go_simp
  refine hK.out _ _ (by (try dsimp only); exact grown_of _ (balloc (Below.refl _ _).drew _)) (fun hHeld => ?_)
  clear hK K
  simp only [List.setIfInBounds_toArray, List.set_cons_zero, List.set_cons_succ]
  refine wpAnyH_ready (rs := [2]) (by as_aux_lemma => kernel_rfl) (by simp) ?_
  refine AllReadyH.cons (o := { dst := some 58, op := Op.call { callee := Callee.builtin Builtin.append, args := #[Operand.tmp 56, Operand.tmp 57], argTypes := #[22, 22] }, type := 22, pos := "ref.go:108", after := #[{ on := 0, ground := Ground.data }, { on := 1, ground := Ground.data }], guard := none }) rfl (fun K hK => ?_) (by exact AllReadyH.nil)
  rw [if_pos (by rfl)]
  obtain ⟨X, hX⟩ : ∃ X, (w1.alloc (.cells #[] 5)).drew = X := ⟨_, rfl⟩
  have hOX : Ow X w1.heap.size (.slice (some ⟨w1.heap.size, 0, none⟩) 0 0) [] := by rw [← hX]; exact (Ow.emp w1).new (Below.refl _ _).drew
  have hbX : Below w1.heap.size w1 X := by rw [← hX]; exact (balloc (Below.refl _ _) _).drew
  rw [hX]
  have hown := (H1.out.2.2.new hbX).bto
  obtain ⟨y3, c3, w3, hrun, hO3, hg3⟩ := run_appq (w := X) w1.heap.size _ [] hOX B (.slice (some ⟨b, o + k, none⟩) n (c - k)) ml hown (fun n c e => by cases e) (by have := HW.out.2.2.2.2; simp; omega) hbX.size
  rw [List.nil_append, HW.out.2.2.2.2] at hrun
  rw [List.nil_append, HW.out.2.2.2.2] at hO3
  have hb3 : Below w1.heap.size w1 w3 := hbX.grown hg3 hbX.size (fun k e => by have := (hOX.2.lt k e).1; omega)
  refine wp_append_run (.tmp 56) (.tmp 57) 22 rfl (v := .slice (some ⟨w1.heap.size, 0, none⟩) 0 0) (u := .slice (some ⟨b, o + k, none⟩) n (c - k)) rfl rfl hrun ?_
  clear hrun hX
  refine hK.out _ _ (grown_of _ hb3) (fun hHeld => ?_)
  clear hK K
  simp only [List.setIfInBounds_toArray, List.set_cons_zero, List.set_cons_succ]
  refine wpAnyH_take (i := 3) (oi := { dst := some 59, op := Op.build 25 #[(1, Operand.tmp 58)], type := 25, pos := "ref.go:108", after := #[{ on := 2, ground := Ground.data }], guard := none }) (v := ?vq8) rfl (by as_aux_lemma => kernel_rfl) (by as_aux_lemma => kernel_rfl) (by as_aux_lemma => kernel_rfl) (fun _ _ _ h => h) (Or.inl ⟨by rfl, ?yq8⟩) (by assumption) ?rq8
  case yq8 => (intro w' hSw; (try dsimp only at hSw); go_simp <;> with_reducible rfl)
  simp only [Act.put, List.setIfInBounds_toArray, List.set_cons_zero, List.set_cons_succ]
  refine wpAnyH_take (i := 9) (oi := { dst := some 65, op := Op.move (Operand.tmp 64), type := 4, pos := "ref.go:108", after := #[{ on := 8, ground := Ground.data }, { on := 2, ground := Ground.chain }], guard := none }) (v := ?vq9) rfl (by as_aux_lemma => kernel_rfl) (by as_aux_lemma => kernel_rfl) (by as_aux_lemma => kernel_rfl) (fun _ _ _ h => h) (Or.inl ⟨by rfl, ?yq9⟩) (by assumption) ?rq9
  case yq9 => (intro w' hSw; (try dsimp only at hSw); go_simp <;> with_reducible rfl)
  simp only [Act.put, List.setIfInBounds_toArray, List.set_cons_zero, List.set_cons_succ]
  refine wpAnyH_take (i := 10) (oi := { dst := some 66, op := Op.move (Operand.tmp 11), type := 22, pos := "ref.go:108", after := #[{ on := 9, ground := Ground.guard }, { on := 16, ground := Ground.gcOnly Departure.lateStores }], guard := some (9, false) }) (v := ?vq10) rfl (by as_aux_lemma => kernel_rfl) (by as_aux_lemma => kernel_rfl) (by as_aux_lemma => kernel_rfl) (fun _ _ _ h => h) (Or.inl ⟨by rfl, ?yq10⟩) (by assumption) ?rq10
  case yq10 => (intro w' hSw; (try dsimp only at hSw); go_simp <;> with_reducible rfl)
  simp only [Act.put, List.setIfInBounds_toArray, List.set_cons_zero, List.set_cons_succ]
  refine wpAnyH_take (i := 11) (oi := { dst := some 67, op := Op.indexAddr 22 (Operand.tmp 66) (Operand.const (Value.int IntKind.i64 0)), type := 0, pos := "ref.go:108", after := #[{ on := 10, ground := Ground.data }, { on := 9, ground := Ground.guard }, { on := 16, ground := Ground.gcOnly Departure.lateStores }], guard := some (9, false) }) (v := ?vq11) rfl (by as_aux_lemma => kernel_rfl) (by as_aux_lemma => kernel_rfl) (by as_aux_lemma => kernel_rfl) (fun _ _ _ h => h) (Or.inl ⟨by rfl, ?yq11⟩) (by assumption) ?rq11
  case yq11 => (intro w' hSw; (try dsimp only at hSw); go_simp <;> with_reducible rfl)
  simp only [Act.put, List.setIfInBounds_toArray, List.set_cons_zero, List.set_cons_succ]
  refine wpAnyH_take (i := 12) (oi := { dst := some 68, op := Op.load 5 (Operand.tmp 67), type := 5, pos := "ref.go:108", after := #[{ on := 11, ground := Ground.data }, { on := 9, ground := Ground.guard }, { on := 16, ground := Ground.gcOnly Departure.lateStores }], guard := some (9, false) }) (v := ?vq12) rfl (by as_aux_lemma => kernel_rfl) (by as_aux_lemma => kernel_rfl) (by as_aux_lemma => kernel_rfl) (fun _ _ _ h => h) (Or.inl ⟨by rfl, ?yq12⟩) (by assumption) ?rq12
  case yq12 => (intro w' hSw; (try dsimp only at hSw); have z := ku _ hSw; go_simp <;> with_reducible rfl)
  simp only [Act.put, List.setIfInBounds_toArray, List.set_cons_zero, List.set_cons_succ]
  refine wpAnyH_take (i := 13) (oi := { dst := some 69, op := Op.binOp BinOp.geq 5 (Operand.tmp 68) (Operand.const (Value.int IntKind.u8 128)) 5, type := 4, pos := "ref.go:108", after := #[{ on := 12, ground := Ground.data }, { on := 9, ground := Ground.guard }, { on := 16, ground := Ground.gcOnly Departure.lateStores }], guard := some (9, false) }) (v := ?vq13) rfl (by as_aux_lemma => kernel_rfl) (by as_aux_lemma => kernel_rfl) (by as_aux_lemma => kernel_rfl) (fun _ _ _ h => h) (Or.inl ⟨by rfl, ?yq13⟩) (by assumption) ?rq13
  case yq13 => (intro w' hSw; (try dsimp only at hSw); go_simp <;> with_reducible rfl)
  simp only [Act.put, List.setIfInBounds_toArray, List.set_cons_zero, List.set_cons_succ]
  refine wpAnyH_take (i := 14) (oi := { dst := some 70, op := Op.pick (Operand.tmp 65) (Operand.const (Value.bool true)) (Operand.tmp 69), type := 4, pos := "ref.go:108", after := #[{ on := 9, ground := Ground.data }, { on := 13, ground := Ground.data }, { on := 16, ground := Ground.gcOnly Departure.lateStores }], guard := none }) (v := ?vq14) rfl (by as_aux_lemma => kernel_rfl) (by as_aux_lemma => kernel_rfl) (by as_aux_lemma => kernel_rfl) (fun _ _ _ h => h) (Or.inl ⟨by rfl, ?yq14⟩) (by assumption) ?rq14
  case yq14 => (intro w' hSw; (try dsimp only at hSw); go_simp <;> with_reducible rfl)
  simp only [Act.put, List.setIfInBounds_toArray, List.set_cons_zero, List.set_cons_succ]
  have hI3 := H1.out.2.1.keep hb3
  have i0 := cell_of_row _ _ 0 _ _ _ hI3
  have i1 := cell_of_row _ _ 1 _ _ _ hI3
  have i2 := cell_of_row _ _ 2 _ _ _ hI3
  have f0 := frozen_of_row _ _ 0 _ _ hI3
  have f1 := frozen_of_row _ _ 1 _ _ hI3
  have f2 := frozen_of_row _ _ 2 _ _ hI3
  have hG := grown_set' (grown_set' (grown_set' (grown_refl w3 w.heap.size) 0 (.bool false)) 1 (.slice y3 n c3)) 2 (.slice none 0 0)
  have hGG := grown_then' (grown_of w.heap.size hb3) hG
  have HF := Lib.hid (And.intro ((hO3.kept hG (fun r e => by cases e; omega)).mono (show w.heap.size ≤ w1.heap.size by omega)) (step_world (bstep H1.out.1 hb3) hG (Nat.le_refl _) (Nat.le_refl _)))
  refine wpAnyH_ready (rs := [15]) (by as_aux_lemma => kernel_rfl) (by simp) ?_
  refine AllReadyH.cons (o := { dst := none, op := Op.store 25 (Operand.tmp 4) (Operand.tmp 59), type := 0, pos := "ref.go:108", after := #[{ on := 3, ground := Ground.data }, { on := 9, ground := Ground.chain }, { on := 0, ground := Ground.phase }, { on := 1, ground := Ground.phase }, { on := 2, ground := Ground.phase }, { on := 3, ground := Ground.phase }, { on := 4, ground := Ground.textOnly Departure.lateStores }, { on := 5, ground := Ground.textOnly Departure.lateStores }, { on := 6, ground := Ground.textOnly Departure.lateStores }, { on := 7, ground := Ground.textOnly Departure.lateStores }, { on := 8, ground := Ground.textOnly Departure.lateStores }, { on := 9, ground := Ground.textOnly Departure.lateStores }, { on := 10, ground := Ground.textOnly Departure.lateStores }, { on := 11, ground := Ground.textOnly Departure.lateStores }, { on := 12, ground := Ground.textOnly Departure.lateStores }, { on := 13, ground := Ground.textOnly Departure.lateStores }, { on := 14, ground := Ground.textOnly Departure.lateStores }], guard := none }) rfl (fun K hK => ?_) (by exact AllReadyH.nil)
  rw [if_pos (by rfl)]
  go_simp
  refine hK.out _ _ (by (try dsimp only); exact hGG) (fun hHeld => ?_)
  clear hK K
  simp only [List.setIfInBounds_toArray, List.set_cons_zero, List.set_cons_succ]
  refine wpAnyH_take (i := 16) (oi := { dst := some 5, op := Op.assign (Operand.tmp 62), type := 3, pos := "ref.go:108", after := #[{ on := 6, ground := Ground.data }, { on := 15, ground := Ground.chain }, { on := 0, ground := Ground.phase }, { on := 1, ground := Ground.phase }, { on := 2, ground := Ground.phase }, { on := 3, ground := Ground.phase }, { on := 4, ground := Ground.phase }, { on := 5, ground := Ground.phase }, { on := 6, ground := Ground.phase }, { on := 7, ground := Ground.textOnly Departure.lateStores }, { on := 8, ground := Ground.textOnly Departure.lateStores }, { on := 9, ground := Ground.textOnly Departure.lateStores }, { on := 10, ground := Ground.textOnly Departure.lateStores }, { on := 11, ground := Ground.textOnly Departure.lateStores }, { on := 12, ground := Ground.textOnly Departure.lateStores }, { on := 13, ground := Ground.textOnly Departure.lateStores }, { on := 14, ground := Ground.textOnly Departure.lateStores }, { on := 15, ground := Ground.phase }], guard := none }) (v := ?vq16) rfl (by as_aux_lemma => kernel_rfl) (by as_aux_lemma => kernel_rfl) (by as_aux_lemma => kernel_rfl) (fun _ _ _ h => h) (Or.inl ⟨by rfl, ?yq16⟩) (by assumption) ?rq16
  case yq16 => (intro w' hSw; (try dsimp only at hSw); go_simp <;> with_reducible rfl)
  simp only [Act.put, List.setIfInBounds_toArray, List.set_cons_zero, List.set_cons_succ]
  refine wpAnyH_take (i := 17) (oi := { dst := some 6, op := Op.assign (Operand.tmp 70), type := 4, pos := "ref.go:108", after := #[{ on := 14, ground := Ground.data }, { on := 16, ground := Ground.chain }, { on := 0, ground := Ground.phase }, { on := 1, ground := Ground.phase }, { on := 2, ground := Ground.phase }, { on := 3, ground := Ground.phase }, { on := 4, ground := Ground.phase }, { on := 5, ground := Ground.phase }, { on := 6, ground := Ground.phase }, { on := 7, ground := Ground.phase }, { on := 8, ground := Ground.phase }, { on := 9, ground := Ground.phase }, { on := 10, ground := Ground.phase }, { on := 11, ground := Ground.phase }, { on := 12, ground := Ground.phase }, { on := 13, ground := Ground.phase }, { on := 14, ground := Ground.phase }, { on := 15, ground := Ground.phase }, { on := 16, ground := Ground.phase }], guard := none }) (v := ?vq17) rfl (by as_aux_lemma => kernel_rfl) (by as_aux_lemma => kernel_rfl) (by as_aux_lemma => kernel_rfl) (fun _ _ _ h => h) (Or.inl ⟨by rfl, ?yq17⟩) (by assumption) ?rq17
  case yq17 => (intro w' hSw; (try dsimp only at hSw); go_simp <;> with_reducible rfl)
  simp only [Act.put, List.setIfInBounds_toArray, List.set_cons_zero, List.set_cons_succ]
  refine wpAnyH_done (by as_aux_lemma => kernel_rfl) ?_ _
  simp only [Exit.then]
  clear hG hGG hI3 hO3 hg3 hb3
  go_wp2_with fail
  exact bodyPost_ret (v := .tuple #[itB (.slice y3 n c3), .int .i64 (kn : Nat), .bool (decide ((128 : Int) ≤ (u : Int)))]) (by simp [results, Tryd.results38, go_sem, i0, i1, i2]) rfl ⟨_, _, _, rfl, HF.out⟩
set_option maxRecDepth 100000 in
set_option maxHeartbeats 4000000 in
theorem rread_bytes_b (B b o f : Nat) (l : List Nat) (k : Nat) (d : Nat) (w : World) (hd : 1 ≤ d) (hv : Bt B w (.slice (some ⟨b, o, none⟩) k k) l) (hq : l.length = k) (hl : k ≤ 4096) (c0 : w.cell? ⟨b, o, none⟩ = some (.int .u8 (f : Nat))) (hb : b < w.heap.size) (hf : ¬ f < 128) (h192 : f < 192) (hk : 1 ≤ k)
    (hL : ∀ X, Below w.heap.size w X → Calls Tryd.prog 59 #[.slice (some ⟨b, o, none⟩) k k, .int .i64 (128 : Nat)] X (LnP (some (0, k)) X)) :
    Calls Tryd.prog 38 #[.slice (some ⟨b, o, none⟩) k k, .int .i64 d] w fun e w' => ∃ x m c, e = .returned (.tuple #[itB (.slice x m c), .int .i64 (k : Nat), .bool true]) ∧ Ow w' w.heap.size (.slice x m c) ((l.drop k).take 0) ∧ Below w.heap.size w w' := by
  have hW := balloc (Below.refl w.heap.size w) (.cells #[.bool false, .slice none 0 0, .slice none 0 0] 25)
  have c1 := (hW.cell (p := ⟨b, o, none⟩) hb).trans c0
  have g0 : ¬ (f : Int) < 128 := by omega
  have g1 : ((k : Int) == 0) = false := by simp; omega
  have g2 : (0 : Int) < (k : Int) := by omega
  have g3 : ¬ (d : Int) < 1 := by omega
  have HC := Lib.hid (hL _ hW)
  have hI := Blk.new w 25 #[.bool false, .slice none 0 0, .slice none 0 0]
  have hown : ∀ X, Bt B X (.slice (some ⟨b, o, none⟩) k k) l → Bt B X (.slice (some ⟨b, o, none⟩) 0 0) ((l.drop k).take 0) := fun X h => by
    rw [← hq] at h
    have h1 := Bt.drop h k (by omega)
    rw [if_pos hq] at h1
    have h2 := Bt.take (l := l.drop k) (by rw [List.length_drop]; exact h1) 0 (by rw [List.length_drop]; omega)
    rw [show l.length - k = 0 by omega] at h2; exact h2
  have hln : ((l.drop k).take 0).length = 0 := by rw [List.length_take, List.length_drop]; omega
  obtain ⟨ml, hml⟩ : ∃ ml, (l.drop k).take 0 = ml := ⟨_, rfl⟩
  rw [hml] at hown hln
  rw [hml]
  have HW := Lib.hid (And.intro hW (And.intro hI (And.intro (hv.new hW) (And.intro hown hln))))
  have g4 : ¬ (192 : Int) ≤ (f : Int) := by omega
  have g5 : IntKind.i64.wrap ((k : Int) + ((0 : Nat) : Int)) = (k : Int) := (IntWalk.i64_in _ (by omega)).trans (by omega)
  have g6 : (k : Int) ≤ (k : Int) := by omega
  have g7 : (k : Int) ≤ (k : Int) := by omega
  have g8 : (k : Int) ≤ (k : Int) := by omega
  have g9 : (0 : Int) ≤ (k : Int) := by omega
  have HKN := Lib.hid (show k - k = 0 by omega)
  have g10 : IntKind.i64.wrap (k : Int) = (k : Int) := IntWalk.i64_in _ (by omega)
  have HB := Lib.hid hb
  clear hW hq hb hL hI hv hown hml hln
  go_enter Tryd.func38, Tryd.ntmps38
  go_wp2_with fail
  refine HC.out.mono ?_
  rintro e w1 ⟨h1, rfl⟩
  have hI1 := HW.out.2.1.keep h1
  have H1 := Lib.hid (And.intro (bstep HW.out.1 h1) (And.intro hI1 (HW.out.2.2.2.1 w1 (HW.out.2.2.1.new h1))))
  clear h1 HC hI1
  go_wp2_with fail
  try rw [HKN.out]
  have hbw : b < w1.heap.size := Nat.lt_of_lt_of_le HB.out H1.out.1.size
  have hwl : w.heap.size < w1.heap.size := H1.out.2.1.lt
  have hbne : b ≠ w.heap.size := by have := HB.out; omega
  refine wp_region_held_drew (S := fun w' => w1.grownBy w' (some w.heap.size)) (by as_aux_lemma => kernel_rfl) (grown_of _ (Below.refl _ _).drew) (fun hHeld => ?_)
  simp only [List.size_toArray, List.length_cons, List.length_nil, Nat.reduceAdd, Array.replicate_succ, Array.replicate_zero, List.push_toArray, List.nil_append, List.cons_append]
  refine wpAnyH_take (i := 1) (oi := { dst := some 57, op := Op.move (Operand.tmp 11), type := 22, pos := "ref.go:108", after := #[], guard := none }) (v := ?vq0) rfl (by as_aux_lemma => kernel_rfl) (by as_aux_lemma => kernel_rfl) (by as_aux_lemma => kernel_rfl) (fun _ _ _ h => h) (Or.inl ⟨by rfl, ?yq0⟩) (by assumption) ?rq0
  case yq0 => (intro w' hSw; (try dsimp only at hSw); go_simp <;> with_reducible rfl)
  simp only [Act.put, List.setIfInBounds_toArray, List.set_cons_zero, List.set_cons_succ]
  refine wpAnyH_take (i := 4) (oi := { dst := some 60, op := Op.move (Operand.tmp 9), type := 3, pos := "ref.go:108", after := #[{ on := 15, ground := Ground.gcOnly Departure.lateStores }], guard := none }) (v := ?vq1) rfl (by as_aux_lemma => kernel_rfl) (by as_aux_lemma => kernel_rfl) (by as_aux_lemma => kernel_rfl) (fun _ _ _ h => h) (Or.inl ⟨by rfl, ?yq1⟩) (by assumption) ?rq1
  case yq1 => (intro w' hSw; (try dsimp only at hSw); go_simp <;> with_reducible rfl)
  simp only [Act.put, List.setIfInBounds_toArray, List.set_cons_zero, List.set_cons_succ]
  refine wpAnyH_take (i := 5) (oi := { dst := some 61, op := Op.move (Operand.tmp 8), type := 3, pos := "ref.go:108", after := #[{ on := 15, ground := Ground.gcOnly Departure.lateStores }], guard := none }) (v := ?vq2) rfl (by as_aux_lemma => kernel_rfl) (by as_aux_lemma => kernel_rfl) (by as_aux_lemma => kernel_rfl) (fun _ _ _ h => h) (Or.inl ⟨by rfl, ?yq2⟩) (by assumption) ?rq2
  case yq2 => (intro w' hSw; (try dsimp only at hSw); go_simp <;> with_reducible rfl)
  simp only [Act.put, List.setIfInBounds_toArray, List.set_cons_zero, List.set_cons_succ]
  refine wpAnyH_take (i := 6) (oi := { dst := some 62, op := Op.binOp BinOp.add 3 (Operand.tmp 60) (Operand.tmp 61) 3, type := 3, pos := "ref.go:108", after := #[{ on := 4, ground := Ground.data }, { on := 5, ground := Ground.data }, { on := 15, ground := Ground.gcOnly Departure.lateStores }], guard := none }) (v := ?vq3) rfl (by as_aux_lemma => kernel_rfl) (by as_aux_lemma => kernel_rfl) (by as_aux_lemma => kernel_rfl) (fun _ _ _ h => h) (Or.inl ⟨by rfl, ?yq3⟩) (by assumption) ?rq3
  case yq3 => (intro w' hSw; (try dsimp only at hSw); go_simp <;> with_reducible rfl)
  simp only [Act.put, List.setIfInBounds_toArray, List.set_cons_zero, List.set_cons_succ]
  refine wpAnyH_take (i := 7) (oi := { dst := some 63, op := Op.move (Operand.tmp 8), type := 3, pos := "ref.go:108", after := #[], guard := none }) (v := ?vq4) rfl (by as_aux_lemma => kernel_rfl) (by as_aux_lemma => kernel_rfl) (by as_aux_lemma => kernel_rfl) (fun _ _ _ h => h) (Or.inl ⟨by rfl, ?yq4⟩) (by assumption) ?rq4
  case yq4 => (intro w' hSw; (try dsimp only at hSw); go_simp <;> with_reducible rfl)
  simp only [Act.put, List.setIfInBounds_toArray, List.set_cons_zero, List.set_cons_succ]
  refine wpAnyH_take (i := 8) (oi := { dst := some 64, op := Op.binOp BinOp.neq 3 (Operand.tmp 63) (Operand.const (Value.int IntKind.i64 1)) 3, type := 4, pos := "ref.go:108", after := #[{ on := 7, ground := Ground.data }], guard := none }) (v := ?vq5) rfl (by as_aux_lemma => kernel_rfl) (by as_aux_lemma => kernel_rfl) (by as_aux_lemma => kernel_rfl) (fun _ _ _ h => h) (Or.inl ⟨by rfl, ?yq5⟩) (by assumption) ?rq5
  case yq5 => (intro w' hSw; (try dsimp only at hSw); go_simp <;> with_reducible rfl)
  simp only [Act.put, List.setIfInBounds_toArray, List.set_cons_zero, List.set_cons_succ]
  refine wpAnyH_ready (rs := [0]) (by as_aux_lemma => kernel_rfl) (by simp) ?_
  refine AllReadyH.cons (o := { dst := some 56, op := Op.buildSlice 22 0 #[], type := 22, pos := "ref.go:108", after := #[], guard := none }) rfl (fun K hK => ?_) (by exact AllReadyH.nil)
  rw [if_pos (by rfl)]
  go_simp
  refine hK.out _ _ (by (try dsimp only); exact grown_of _ (balloc (Below.refl _ _).drew _)) (fun hHeld => ?_)
  clear hK K
  simp only [List.setIfInBounds_toArray, List.set_cons_zero, List.set_cons_succ]
  refine wpAnyH_ready (rs := [2]) (by as_aux_lemma => kernel_rfl) (by simp) ?_
  refine AllReadyH.cons (o := { dst := some 58, op := Op.call { callee := Callee.builtin Builtin.append, args := #[Operand.tmp 56, Operand.tmp 57], argTypes := #[22, 22] }, type := 22, pos := "ref.go:108", after := #[{ on := 0, ground := Ground.data }, { on := 1, ground := Ground.data }], guard := none }) rfl (fun K hK => ?_) (by exact AllReadyH.nil)
  rw [if_pos (by rfl)]
  obtain ⟨X, hX⟩ : ∃ X, (w1.alloc (.cells #[] 5)).drew = X := ⟨_, rfl⟩
  have hOX : Ow X w1.heap.size (.slice (some ⟨w1.heap.size, 0, none⟩) 0 0) [] := by rw [← hX]; exact (Ow.emp w1).new (Below.refl _ _).drew
  have hbX : Below w1.heap.size w1 X := by rw [← hX]; exact (balloc (Below.refl _ _) _).drew
  rw [hX]
  have hown := (H1.out.2.2.new hbX).bto
  obtain ⟨y3, c3, w3, hrun, hO3, hg3⟩ := run_appq (w := X) w1.heap.size _ [] hOX B (.slice (some ⟨b, o, none⟩) 0 0) ml hown (fun n c e => by cases e) (by have := HW.out.2.2.2.2; simp; omega) hbX.size
  rw [List.nil_append, HW.out.2.2.2.2] at hrun
  rw [List.nil_append, HW.out.2.2.2.2] at hO3
  have hb3 : Below w1.heap.size w1 w3 := hbX.grown hg3 hbX.size (fun k e => by have := (hOX.2.lt k e).1; omega)
  refine wp_append_run (.tmp 56) (.tmp 57) 22 rfl (v := .slice (some ⟨w1.heap.size, 0, none⟩) 0 0) (u := .slice (some ⟨b, o, none⟩) 0 0) rfl rfl hrun ?_
  clear hrun hX
  refine hK.out _ _ (grown_of _ hb3) (fun hHeld => ?_)
  clear hK K
  simp only [List.setIfInBounds_toArray, List.set_cons_zero, List.set_cons_succ]
  refine wpAnyH_take (i := 3) (oi := { dst := some 59, op := Op.build 25 #[(1, Operand.tmp 58)], type := 25, pos := "ref.go:108", after := #[{ on := 2, ground := Ground.data }], guard := none }) (v := ?vq8) rfl (by as_aux_lemma => kernel_rfl) (by as_aux_lemma => kernel_rfl) (by as_aux_lemma => kernel_rfl) (fun _ _ _ h => h) (Or.inl ⟨by rfl, ?yq8⟩) (by assumption) ?rq8
  case yq8 => (intro w' hSw; (try dsimp only at hSw); go_simp <;> with_reducible rfl)
  simp only [Act.put, List.setIfInBounds_toArray, List.set_cons_zero, List.set_cons_succ]
  refine wpAnyH_take (i := 9) (oi := { dst := some 65, op := Op.move (Operand.tmp 64), type := 4, pos := "ref.go:108", after := #[{ on := 8, ground := Ground.data }, { on := 2, ground := Ground.chain }], guard := none }) (v := ?vq9) rfl (by as_aux_lemma => kernel_rfl) (by as_aux_lemma => kernel_rfl) (by as_aux_lemma => kernel_rfl) (fun _ _ _ h => h) (Or.inl ⟨by rfl, ?yq9⟩) (by assumption) ?rq9
  case yq9 => (intro w' hSw; (try dsimp only at hSw); go_simp <;> with_reducible rfl)
  simp only [Act.put, List.setIfInBounds_toArray, List.set_cons_zero, List.set_cons_succ]
  refine wpAnyH_take (i := 10) (oi := { dst := some 66, op := Op.move (Operand.tmp 11), type := 22, pos := "ref.go:108", after := #[{ on := 9, ground := Ground.guard }, { on := 16, ground := Ground.gcOnly Departure.lateStores }], guard := some (9, false) }) (v := undef) rfl (by as_aux_lemma => kernel_rfl) (by as_aux_lemma => kernel_rfl) (by as_aux_lemma => kernel_rfl) (fun _ _ _ h => h) (Or.inr ⟨by rfl, rfl⟩) (by assumption) ?_
  simp only [Act.put, List.setIfInBounds_toArray, List.set_cons_zero, List.set_cons_succ]
  refine wpAnyH_take (i := 11) (oi := { dst := some 67, op := Op.indexAddr 22 (Operand.tmp 66) (Operand.const (Value.int IntKind.i64 0)), type := 0, pos := "ref.go:108", after := #[{ on := 10, ground := Ground.data }, { on := 9, ground := Ground.guard }, { on := 16, ground := Ground.gcOnly Departure.lateStores }], guard := some (9, false) }) (v := undef) rfl (by as_aux_lemma => kernel_rfl) (by as_aux_lemma => kernel_rfl) (by as_aux_lemma => kernel_rfl) (fun _ _ _ h => h) (Or.inr ⟨by rfl, rfl⟩) (by assumption) ?_
  simp only [Act.put, List.setIfInBounds_toArray, List.set_cons_zero, List.set_cons_succ]
  refine wpAnyH_take (i := 12) (oi := { dst := some 68, op := Op.load 5 (Operand.tmp 67), type := 5, pos := "ref.go:108", after := #[{ on := 11, ground := Ground.data }, { on := 9, ground := Ground.guard }, { on := 16, ground := Ground.gcOnly Departure.lateStores }], guard := some (9, false) }) (v := undef) rfl (by as_aux_lemma => kernel_rfl) (by as_aux_lemma => kernel_rfl) (by as_aux_lemma => kernel_rfl) (fun _ _ _ h => h) (Or.inr ⟨by rfl, rfl⟩) (by assumption) ?_
  simp only [Act.put, List.setIfInBounds_toArray, List.set_cons_zero, List.set_cons_succ]
  refine wpAnyH_take (i := 13) (oi := { dst := some 69, op := Op.binOp BinOp.geq 5 (Operand.tmp 68) (Operand.const (Value.int IntKind.u8 128)) 5, type := 4, pos := "ref.go:108", after := #[{ on := 12, ground := Ground.data }, { on := 9, ground := Ground.guard }, { on := 16, ground := Ground.gcOnly Departure.lateStores }], guard := some (9, false) }) (v := undef) rfl (by as_aux_lemma => kernel_rfl) (by as_aux_lemma => kernel_rfl) (by as_aux_lemma => kernel_rfl) (fun _ _ _ h => h) (Or.inr ⟨by rfl, rfl⟩) (by assumption) ?_
  simp only [Act.put, List.setIfInBounds_toArray, List.set_cons_zero, List.set_cons_succ]
  refine wpAnyH_take (i := 14) (oi := { dst := some 70, op := Op.pick (Operand.tmp 65) (Operand.const (Value.bool true)) (Operand.tmp 69), type := 4, pos := "ref.go:108", after := #[{ on := 9, ground := Ground.data }, { on := 13, ground := Ground.data }, { on := 16, ground := Ground.gcOnly Departure.lateStores }], guard := none }) (v := ?vq14) rfl (by as_aux_lemma => kernel_rfl) (by as_aux_lemma => kernel_rfl) (by as_aux_lemma => kernel_rfl) (fun _ _ _ h => h) (Or.inl ⟨by rfl, ?yq14⟩) (by assumption) ?rq14
  case yq14 => (intro w' hSw; (try dsimp only at hSw); go_simp <;> with_reducible rfl)
  simp only [Act.put, List.setIfInBounds_toArray, List.set_cons_zero, List.set_cons_succ]
  have hI3 := H1.out.2.1.keep hb3
  have i0 := cell_of_row _ _ 0 _ _ _ hI3
  have i1 := cell_of_row _ _ 1 _ _ _ hI3
  have i2 := cell_of_row _ _ 2 _ _ _ hI3
  have f0 := frozen_of_row _ _ 0 _ _ hI3
  have f1 := frozen_of_row _ _ 1 _ _ hI3
  have f2 := frozen_of_row _ _ 2 _ _ hI3
  have hG := grown_set' (grown_set' (grown_set' (grown_refl w3 w.heap.size) 0 (.bool false)) 1 (.slice y3 0 c3)) 2 (.slice none 0 0)
  have hGG := grown_then' (grown_of w.heap.size hb3) hG
  have HF := Lib.hid (And.intro ((hO3.kept hG (fun r e => by cases e; omega)).mono (show w.heap.size ≤ w1.heap.size by omega)) (step_world (bstep H1.out.1 hb3) hG (Nat.le_refl _) (Nat.le_refl _)))
  refine wpAnyH_ready (rs := [15]) (by as_aux_lemma => kernel_rfl) (by simp) ?_
  refine AllReadyH.cons (o := { dst := none, op := Op.store 25 (Operand.tmp 4) (Operand.tmp 59), type := 0, pos := "ref.go:108", after := #[{ on := 3, ground := Ground.data }, { on := 9, ground := Ground.chain }, { on := 0, ground := Ground.phase }, { on := 1, ground := Ground.phase }, { on := 2, ground := Ground.phase }, { on := 3, ground := Ground.phase }, { on := 4, ground := Ground.textOnly Departure.lateStores }, { on := 5, ground := Ground.textOnly Departure.lateStores }, { on := 6, ground := Ground.textOnly Departure.lateStores }, { on := 7, ground := Ground.textOnly Departure.lateStores }, { on := 8, ground := Ground.textOnly Departure.lateStores }, { on := 9, ground := Ground.textOnly Departure.lateStores }, { on := 10, ground := Ground.textOnly Departure.lateStores }, { on := 11, ground := Ground.textOnly Departure.lateStores }, { on := 12, ground := Ground.textOnly Departure.lateStores }, { on := 13, ground := Ground.textOnly Departure.lateStores }, { on := 14, ground := Ground.textOnly Departure.lateStores }], guard := none }) rfl (fun K hK => ?_) (by exact AllReadyH.nil)
  rw [if_pos (by rfl)]
  go_simp
  refine hK.out _ _ (by (try dsimp only); exact hGG) (fun hHeld => ?_)
  clear hK K
  simp only [List.setIfInBounds_toArray, List.set_cons_zero, List.set_cons_succ]
  refine wpAnyH_take (i := 16) (oi := { dst := some 5, op := Op.assign (Operand.tmp 62), type := 3, pos := "ref.go:108", after := #[{ on := 6, ground := Ground.data }, { on := 15, ground := Ground.chain }, { on := 0, ground := Ground.phase }, { on := 1, ground := Ground.phase }, { on := 2, ground := Ground.phase }, { on := 3, ground := Ground.phase }, { on := 4, ground := Ground.phase }, { on := 5, ground := Ground.phase }, { on := 6, ground := Ground.phase }, { on := 7, ground := Ground.textOnly Departure.lateStores }, { on := 8, ground := Ground.textOnly Departure.lateStores }, { on := 9, ground := Ground.textOnly Departure.lateStores }, { on := 10, ground := Ground.textOnly Departure.lateStores }, { on := 11, ground := Ground.textOnly Departure.lateStores }, { on := 12, ground := Ground.textOnly Departure.lateStores }, { on := 13, ground := Ground.textOnly Departure.lateStores }, { on := 14, ground := Ground.textOnly Departure.lateStores }, { on := 15, ground := Ground.phase }], guard := none }) (v := ?vq16) rfl (by as_aux_lemma => kernel_rfl) (by as_aux_lemma => kernel_rfl) (by as_aux_lemma => kernel_rfl) (fun _ _ _ h => h) (Or.inl ⟨by rfl, ?yq16⟩) (by assumption) ?rq16
  case yq16 => (intro w' hSw; (try dsimp only at hSw); go_simp <;> with_reducible rfl)
  simp only [Act.put, List.setIfInBounds_toArray, List.set_cons_zero, List.set_cons_succ]
  refine wpAnyH_take (i := 17) (oi := { dst := some 6, op := Op.assign (Operand.tmp 70), type := 4, pos := "ref.go:108", after := #[{ on := 14, ground := Ground.data }, { on := 16, ground := Ground.chain }, { on := 0, ground := Ground.phase }, { on := 1, ground := Ground.phase }, { on := 2, ground := Ground.phase }, { on := 3, ground := Ground.phase }, { on := 4, ground := Ground.phase }, { on := 5, ground := Ground.phase }, { on := 6, ground := Ground.phase }, { on := 7, ground := Ground.phase }, { on := 8, ground := Ground.phase }, { on := 9, ground := Ground.phase }, { on := 10, ground := Ground.phase }, { on := 11, ground := Ground.phase }, { on := 12, ground := Ground.phase }, { on := 13, ground := Ground.phase }, { on := 14, ground := Ground.phase }, { on := 15, ground := Ground.phase }, { on := 16, ground := Ground.phase }], guard := none }) (v := ?vq17) rfl (by as_aux_lemma => kernel_rfl) (by as_aux_lemma => kernel_rfl) (by as_aux_lemma => kernel_rfl) (fun _ _ _ h => h) (Or.inl ⟨by rfl, ?yq17⟩) (by assumption) ?rq17
  case yq17 => (intro w' hSw; (try dsimp only at hSw); go_simp <;> with_reducible rfl)
  simp only [Act.put, List.setIfInBounds_toArray, List.set_cons_zero, List.set_cons_succ]
  refine wpAnyH_done (by as_aux_lemma => kernel_rfl) ?_ _
  simp only [Exit.then]
  clear hG hGG hI3 hO3 hg3 hb3
  go_wp2_with fail
  exact bodyPost_ret (v := .tuple #[itB (.slice y3 0 c3), .int .i64 (k : Nat), .bool true]) (by simp [results, Tryd.results38, go_sem, i0, i1, i2]) rfl ⟨_, _, _, rfl, HF.out⟩
end Go.Proofs.YtjmfnafbjfceoaaDoor

