/- power: rising. -/
import Derived.Test.YtidpekcegocjfaaDoorEh
namespace Go.Proofs.YtidpekcegocjfaaDoor
open Go.RowKit Go.Shelf
attribute [local go_sem] ix0 ix1 ix2 ix3
attribute [local irreducible] lb
theorem rising_any (a : Nat) (w : World) :
    Calls Tryd.prog 24 #[W a] w fun e w' => e = .returned (.func (.func 36) #[] #[.pointer (some ⟨w.heap.size, 0, none⟩)]) ∧ w' = w.alloc (.cells (Wc a) 24) := by
  go_enter Tryd.func24, Tryd.ntmps24
  go_wp2
  go_ret
  exact ⟨rfl, rfl⟩
theorem powers_any (a : Nat) (m : Int) (w : World) :
    Calls Tryd.prog 11 #[W a, .int .i64 m] w fun e w' => e = .returned (.func (.func 23) #[] #[.pointer (some ⟨w.heap.size, 0, none⟩), .pointer (some ⟨w.heap.size + 1, 0, none⟩)]) ∧ w' = (w.alloc (.cells (Wc a) 24)).alloc (.cells #[.int .i64 m] 3) := by
  go_enter Tryd.func11, Tryd.ntmps11
  go_wp2
  go_ret
  exact ⟨rfl, rfl⟩

theorem blk8hi {X : World} {g : Nat} {t : TypeId} {a p : Nat} (h : Blk X g t (UP a p)) (q : Nat) :
    Blk ((((X.setCell ⟨g, 4, none⟩ (.int .u64 (lb q 0))).setCell ⟨g, 5, none⟩ (.int .u64 (lb q 1))).setCell ⟨g, 6, none⟩ (.int .u64 (lb q 2))).setCell ⟨g, 7, none⟩ (.int .u64 (lb q 3))) g t (UP a q) := by
  have h4 := heap_setCell_same _ g 4 _ _ (.int .u64 (lb q 0)) h
  have h5 := heap_setCell_same _ g 5 _ _ (.int .u64 (lb q 1)) h4
  have h6 := heap_setCell_same _ g 6 _ _ (.int .u64 (lb q 2)) h5
  exact heap_setCell_same _ g 7 _ _ (.int .u64 (lb q 3)) h6
set_option maxRecDepth 100000 in
set_option maxHeartbeats 4000000 in
theorem rising1_in (n : Nat) (hn : 1 ≤ n) (l A n₀ a M : Nat) (J Jx : List Nat → World → Prop) (w : World)
    (hA : Blk w A 24 (Wc a)) (hJ : Abide w.heap.size J)
    (hBd : ∀ pre X, J pre X → pre = List.range pre.length → pre.length ≤ M) (hM : M ≤ 1000000)
    (hY : ∀ pre (x : Nat) X, pre = List.range x → J pre X → YieldAt Fence.wide 0 Tryd.prog l #[.int .i64 (x : Nat), W (a ^ x)] X fun e Y => (e = .returned (.bool true) ∧ J (pre ++ [x]) Y ∧ Kept w.heap.size X Y ∧ Below n₀ X Y) ∨ (e = .returned (.bool false) ∧ Jx (pre ++ [x]) Y ∧ Kept w.heap.size X Y))
    (h0 : J [] w) :
    CallsIn Fence.wide n Tryd.prog 36 #[.func (.yield l) #[] #[], .pointer (some ⟨A, 0, none⟩)] w fun e Y => (∃ v, e = .returned v) ∧ ∃ m, Jx (List.range (m + 1)) Y := by
  refine callsIn_of_wp Tryd.func36 rfl trivial ?_ rfl
  simp only [Tryd.ntmps36, List.size_toArray, List.length_cons, List.length_nil, Nat.reduceAdd, Nat.reduceSub, Array.replicate_succ, Array.replicate_zero, List.push_toArray, List.append_toArray, List.nil_append, List.cons_append]
  have c0 := (cell_of_row _ _ 0 _ _ _ hA).trans (wc_get a 0 (by omega))
  have c1 := (cell_of_row _ _ 1 _ _ _ hA).trans (wc_get a 1 (by omega))
  have c2 := (cell_of_row _ _ 2 _ _ _ hA).trans (wc_get a 2 (by omega))
  have c3 := (cell_of_row _ _ 3 _ _ _ hA).trans (wc_get a 3 (by omega))
  gi_wp2_with fail
  refine ⟨trivial, ?_⟩
  refine (callsIn_wide.2 (begun_any a _)).mono ?_
  rintro e w1 ⟨rfl, h1⟩
  have hj1 := hJ.new h0 h1
  have hs1 := h1.size
  clear c0 c1 c2 c3 h0 hA
  rename_i K hK
  refine hK _ _ ?_
  clear hK K
  gi_wp2_with fail
  have hP := Blk.new w1 53 (UP a 1)
  have hj2 := hJ.alloc (.cells (UP a 1) 53) hj1
  obtain ⟨w2, hw2⟩ : ∃ w2, w1.alloc (.cells (UP a 1) 53) = w2 := ⟨_, rfl⟩
  rw [hw2] at hP hj2 ⊢
  generalize w1.heap.size = gp at hP hs1 ⊢
  clear hw2 hj1 h1
  gi_loopw [4] (fun i wr => ∃ k : Nat, i = .int .i64 (k : Int) ∧ k ≤ M + 1 ∧ J (List.range k) wr ∧ Blk wr gp 53 (UP a (a ^ k))) (fun i _ => M + 1 - (intOf i).toNat)
  case atStart => exact ⟨0, rfl, by omega, hj2, hP⟩
  case round =>
    clear hj2 hP
    obtain ⟨k, rfl, hk, hj, h1⟩ := hrel
    have hkM : k ≤ M := by have := hBd _ _ hj (by rw [List.length_range]); rwa [List.length_range] at this
    obtain ⟨fn, tmps, assign, body, hy, hR⟩ := YieldAt.wide (m' := n - 1) (hY _ k _ rfl hj)
    have hpw : a ^ (k + 1) = a ^ k * a := Nat.pow_succ a k
    obtain ⟨y, hyy⟩ : ∃ y, a ^ k = y := ⟨_, rfl⟩
    rw [hyy] at hpw h1 hy
    have g1 : IntKind.i64.wrap ((k : Int) + 1) = (k : Int) + 1 := IntWalk.i64_in _ (by omega)
    have HPW := Lib.hid hpw
    have HJ := Lib.hid hj
    have H1 := Lib.hid h1
    have u0 := cell_of_row _ _ 0 _ _ _ h1
    have u1 := cell_of_row _ _ 1 _ _ _ h1
    have u2 := cell_of_row _ _ 2 _ _ _ h1
    have u3 := cell_of_row _ _ 3 _ _ _ h1
    have u4 := cell_of_row _ _ 4 _ _ _ h1
    have u5 := cell_of_row _ _ 5 _ _ _ h1
    have u6 := cell_of_row _ _ 6 _ _ _ h1
    have u7 := cell_of_row _ _ 7 _ _ _ h1
    clear hj h1 hpw hyy
    gi_wp2_with fail
    refine hR.mono ?_
    clear u0 u1 u2 u3 u4 u5 u6 u7 hy hR HJ
    rintro e Y (⟨rfl, hj, hkp, _⟩ | ⟨rfl, hjx, _⟩)
    · have h1 : Blk Y gp 53 (UP a y) := (hkp.2 gp hs1 H1.out.lt).trans H1.out
      have HJ := Lib.hid hj
      have H2 := Lib.hid h1
      have u0 := cell_of_row _ _ 0 _ _ _ h1
      have u1 := cell_of_row _ _ 1 _ _ _ h1
      have u2 := cell_of_row _ _ 2 _ _ _ h1
      have u3 := cell_of_row _ _ 3 _ _ _ h1
      have u4 := cell_of_row _ _ 4 _ _ _ h1
      have u5 := cell_of_row _ _ 5 _ _ _ h1
      have u6 := cell_of_row _ _ 6 _ _ _ h1
      have u7 := cell_of_row _ _ 7 _ _ _ h1
      clear hj h1 hkp H1
      gi_wp2_with fail
      refine ⟨trivial, ?_⟩
      refine (callsIn_wide.2 (times_any a y _)).mono ?_
      clear u0 u1 u2 u3 u4 u5 u6 u7
      rintro e V ⟨rfl, hV⟩
      have hj := hJ.new HJ.out hV
      have h1 := H2.out.block_below hV
      clear HJ H2 hV
      have u0 := cell_of_row _ _ 0 _ _ _ h1
      have u1 := cell_of_row _ _ 1 _ _ _ h1
      have u2 := cell_of_row _ _ 2 _ _ _ h1
      have u3 := cell_of_row _ _ 3 _ _ _ h1
      have u4 := cell_of_row _ _ 4 _ _ _ h1
      have u5 := cell_of_row _ _ 5 _ _ _ h1
      have u6 := cell_of_row _ _ 6 _ _ _ h1
      have u7 := cell_of_row _ _ 7 _ _ _ h1
      have f4 := frozen_of_row _ _ 4 _ _ h1
      have f5 := frozen_of_row _ _ 5 _ _ h1
      have f6 := frozen_of_row _ _ 6 _ _ h1
      have f7 := frozen_of_row _ _ 7 _ _ h1
      have hG := grown_set' (grown_set' (grown_set' (grown_set' (grown_refl V gp) 4 (.int .u64 (lb (y * a) 0))) 5 (.int .u64 (lb (y * a) 1))) 6 (.int .u64 (lb (y * a) 2))) 7 (.int .u64 (lb (y * a) 3))
      have HJ := Lib.hid (hJ _ _ _ (some gp) hj hG (fun r e => by cases e; exact hs1))
      have HS := Lib.hid (show Blk ((((V.setCell ⟨gp, 4, none⟩ (.int .u64 (lb (y * a) 0))).setCell ⟨gp, 5, none⟩ (.int .u64 (lb (y * a) 1))).setCell ⟨gp, 6, none⟩ (.int .u64 (lb (y * a) 2))).setCell ⟨gp, 7, none⟩ (.int .u64 (lb (y * a) 3))) gp 53 (UP a (a ^ (k + 1))) by rw [HPW.out]; exact blk8hi h1 (y * a))
      clear hj h1 hG
      gi_wp2_with fail
      exact ⟨⟨k + 1, by go_num, by omega, by rw [List.range_succ]; exact HJ.out, HS.out⟩, by simp [intOf]; omega⟩
    · gi_wp2_with fail
      go_end0
      exact ⟨⟨_, rfl⟩, k, by rw [List.range_succ]; exact hjx⟩
/-- rising goes over the powers, till it is left. -/
theorem rising_seq (n n₀ A a M : Nat) (hn : 1 ≤ n) (hM : M ≤ 1000000) (w : World) (hA : Blk w A 24 (Wc a)) :
    SeqB n Tryd.prog 36 #[.pointer (some ⟨A, 0, none⟩)] (fun x : Nat => #[.int .i64 (x : Nat), W (a ^ x)]) n₀ (fun pre => pre = List.range pre.length → pre.length ≤ M) (fun pre x => pre = List.range x) (fun _ => False) (fun pre => ∃ m, pre = List.range (m + 1)) w := fun l J Jx W hW hJ _ hBd hY h0 =>
  (rising1_in n hn l A n₀ a M J Jx W (hA.block_below hW) hJ hBd hM hY h0).mono (fun _ _ h => ⟨h.1, .inr (by obtain ⟨m, hm⟩ := h.2; exact ⟨_, ⟨m, rfl⟩, hm⟩)⟩)
end Go.Proofs.YtidpekcegocjfaaDoor
