/- item: Decode. -/
import Derived.Test.YtjmfnafbjfceoaaDoorJj
namespace Go.Proofs.YtjmfnafbjfceoaaDoor
open Go.RowKit Go.Shelf
attribute [local irreducible] lb wdG byA byC heL nuL
set_option maxRecDepth 100000 in
set_option maxHeartbeats 4000000 in
theorem decode_not (no n : Nat) (y : Option Addr) (q e : Nat) (w : World)
    (hno : no ≠ 0 ∨ n < q)
    (hF : ∀ X, Below w.heap.size w X → Calls Tryd.prog 16 #[.slice y q e] X fun e w' => ∃ b x1 m1 c1 x2 m2 c2, e = .returned (.tuple #[itW b x1 m1 c1 x2 m2 c2, .int .i64 n, .int .i64 no]) ∧ Below X.heap.size X w') :
    Calls Tryd.prog 13 #[.slice y q e] w fun e w' => e = .returned (.tuple #[itW false none 0 0 none 0 0, .int .i64 (if no = 0 then 160 else no : Nat)]) ∧ Below w.heap.size w w' := by
  have hA := Blk.new w 25 #[.bool false, .slice none 0 0, .slice none 0 0]
  have hW := balloc (Below.refl w.heap.size w) (.cells #[.bool false, .slice none 0 0, .slice none 0 0] 25)
  have hC := Lib.hid (hF _ hW)
  have HX := Lib.hid (And.intro hA hW)
  obtain ⟨nn, hnn⟩ : ∃ nn, (if no = 0 then 160 else no) = nn := ⟨_, rfl⟩
  have HN := Lib.hid hnn
  rw [hnn]
  clear hA hW hF hnn
  go_enter Tryd.func13, Tryd.ntmps13
  go_wp2_with fail
  refine hC.out.mono ?_
  rintro e w3 ⟨b, x1, m1, c1, x2, m2, c2, rfl, h1⟩
  have hst := balloc (Below.refl w3.heap.size w3) (.cells #[.bool b, .slice x1 m1 c1, .slice x2 m2 c2] 25)
  have hA3 := (HX.out.1.keep h1).keep hst
  have hW3 := bstep (bstep HX.out.2 h1) hst
  have a0 := cell_of_row _ _ 0 _ _ _ hA3
  have a1 := cell_of_row _ _ 1 _ _ _ hA3
  have a2 := cell_of_row _ _ 2 _ _ _ hA3
  have f0 := frozen_of_row _ _ 0 _ _ hA3
  have f1 := frozen_of_row _ _ 1 _ _ hA3
  have f2 := frozen_of_row _ _ 2 _ _ hA3
  have hG := grown_set' (grown_set' (grown_set' (grown_refl (w3.alloc (.cells #[.bool b, .slice x1 m1 c1, .slice x2 m2 c2] 25)) w.heap.size) 0 (.bool false)) 1 (.slice none 0 0)) 2 (.slice none 0 0)
  have HE := Lib.hid (step_world hW3 hG (Nat.le_refl _) (by omega))
  clear hst hA3 hW3 hG h1 HX hC
  by_cases h0 : no = 0
  · have hlt : (n : Int) < (q : Int) := by omega
    have hlt' : n < q := by omega
    have hnn : nn = 160 := by rw [← HN.out, if_pos h0]
    have HNN := Lib.hid hnn
    subst h0
    clear hnn hno
    go_wp2_with fail
    exact bodyPost_ret (v := .tuple #[itW false none 0 0 none 0 0, .int .i64 160]) (by simp [results, Tryd.results13, go_sem, a0, a1, a2]) rfl ⟨by rw [HNN.out]; rfl, HE.out⟩
  · have hne : ((no : Int) != 0) = true := by simp; omega
    have hnn : nn = no := by rw [← HN.out, if_neg h0]
    have HNN := Lib.hid hnn
    clear hnn hno h0
    go_wp2_with fail
    exact bodyPost_ret (v := .tuple #[itW false none 0 0 none 0 0, .int .i64 (no : Nat)]) (by simp [results, Tryd.results13, go_sem, a0, a1, a2]) rfl ⟨by rw [HNN.out], HE.out⟩

/-- Decode of bytes that begin with an item of bytes that is not all of them, or with none. -/
theorem decode_short (B : Nat) (v : Value) (l : List Nat) (k : Nat) (body r2 : List Nat) (w : World) (hv : Bt B w v l) (hB : B ≤ w.heap.size) (hH : HD w) (hl : l.length ≤ 4096) (hcs : cutS l = some (k, body, r2)) (hk : k = 0 ∨ k = 1) (hko : koL body = k) (hr : r2 ≠ []) :
    Calls Tryd.prog 13 #[v] w fun e w' => e = .returned (.tuple #[itW false none 0 0 none 0 0, .int .i64 160]) ∧ Below w.heap.size w w' := by
  obtain ⟨_, y, e, rfl, _⟩ := id hv
  have hr0 : 0 < r2.length := List.length_pos_iff.2 hr
  have hle := (cut_len hcs).2
  exact decode_not 0 (l.length - r2.length) y l.length e w (.inr (by omega)) (fun X hX => (first_ret B _ l k body r2 X (hv.new hX) (Nat.le_trans hB hX.size) (hH.keep hX) hl hcs hk hko).mono (by
    rintro e w' ⟨x, m, c, rfl, _, h⟩
    exact ⟨false, x, m, c, none, 0, 0, rfl, h⟩))
theorem decode_err (B : Nat) (v : Value) (l : List Nat) (w : World) (hv : Bt B w v l) (hB : B ≤ w.heap.size) (hH : HD w) (hl : l.length ≤ 4096)
    (hcs : cutS l = none ∨ ∃ k body r2, cutS l = some (k, body, r2) ∧ (k = 0 ∨ k = 1) ∧ koL body ≠ k) :
    Calls Tryd.prog 13 #[v] w fun e w' => e = .returned (.tuple #[itW false none 0 0 none 0 0, .int .i64 160]) ∧ Below w.heap.size w w' := by
  obtain ⟨_, y, e, rfl, _⟩ := id hv
  exact decode_not 160 0 y l.length e w (.inl (by omega)) (fun X hX => (first_err B _ l X (hv.new hX) (Nat.le_trans hB hX.size) (hH.keep hX) hl hcs).mono fun e w' h => ⟨_, _, _, _, _, _, _, h⟩)
theorem decode_long (B : Nat) (v : Value) (l : List Nat) (w : World) (hv : Bt B w v l) (hl : 4096 < l.length) :
    Calls Tryd.prog 13 #[v] w fun e w' => e = .returned (.tuple #[itW false none 0 0 none 0 0, .int .i64 3]) ∧ Below w.heap.size w w' := by
  obtain ⟨_, y, e, rfl, _⟩ := id hv
  exact decode_not 3 0 y l.length e w (.inl (by omega)) (fun X hX => (first_long B _ l X (hv.new hX) hl).mono fun e w' h => ⟨_, _, _, _, _, _, _, h⟩)
end Go.Proofs.YtjmfnafbjfceoaaDoor
