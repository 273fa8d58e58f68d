/- split: pairs. -/
import Derived.Test.YthdapmceafnhgaaTf
import Derived.Test.YthdapmceafnhgaaTg
import Derived.Sort.LoopGhostIn
import Derived.Deep.RegionHeld3
namespace Go.Proofs.Ythdapmceafnhgaa
open Go.RowKit Go.Shelf
attribute [local go_sem] ix0 ix1 ix2 ix3
attribute [local go_sem] Oper.semAt_some
/-- Euclid's way. -/
def eu (a b : Nat) : Nat → Nat
  | 0 => a
  | 1 => b
  | k + 2 => mdN (eu a b k) (eu a b (k + 1))
theorem mdN_lt (a b : Nat) (ha : a < MM) : mdN a b < MM := by
  unfold mdN; split
  · exact MM_pos
  · exact Nat.lt_of_le_of_lt (Nat.mod_le _ _) ha
theorem eu_lt (a b : Nat) (ha : a < MM) (hb : b < MM) : ∀ k, eu a b k < MM
  | 0 => ha
  | 1 => hb
  | k + 2 => mdN_lt _ _ (eu_lt a b ha hb k)
/-- Two of them, as cells. -/
abbrev Pc (x y : Nat) : Array Value := #[.int .u64 (lb x 0), .int .u64 (lb x 1), .int .u64 (lb x 2), .int .u64 (lb x 3), .int .u64 (lb y 0), .int .u64 (lb y 1), .int .u64 (lb y 2), .int .u64 (lb y 3)]
theorem Blk.set4 {X : World} {g : Nat} {t : TypeId} {x : Nat} (h : Blk X g t (Wc x)) (y : Nat) : Blk ((((X.setCell ⟨g, 0, none⟩ (.int .u64 (lb y 0))).setCell ⟨g, 1, none⟩ (.int .u64 (lb y 1))).setCell ⟨g, 2, none⟩ (.int .u64 (lb y 2))).setCell ⟨g, 3, none⟩ (.int .u64 (lb y 3))) g t (Wc y) := by
  have h0 := heap_setCell_same X g 0 _ _ (.int .u64 (lb y 0)) h
  have h1 := heap_setCell_same _ g 1 _ _ (.int .u64 (lb y 1)) h0
  have h2 := heap_setCell_same _ g 2 _ _ (.int .u64 (lb y 2)) h1
  exact heap_setCell_same _ g 3 _ _ (.int .u64 (lb y 3)) h2
theorem grown_set4 (X : World) (g : Nat) (v0 v1 v2 v3 : Value) : X.grownBy ((((X.setCell ⟨g, 0, none⟩ v0).setCell ⟨g, 1, none⟩ v1).setCell ⟨g, 2, none⟩ v2).setCell ⟨g, 3, none⟩ v3) (some g) :=
  grown_set' (grown_set' (grown_set' (grown_set' (grown_refl X g) 0 v0) 1 v1) 2 v2) 3 v3
attribute [local irreducible] lb mdN
set_option maxRecDepth 100000 in
set_option maxHeartbeats 4000000 in
theorem pairs1_in (n : Nat) (hn : 1 ≤ n) (l A B n₀ a b M : Nat) (ha : a < MM) (hb : b < MM) (J Jx : List Nat → World → Prop) (w : World)
    (hA : Blk w A 24 (Wc a)) (hB : Blk w B 24 (Wc b)) (hJ : Abide w.heap.size J) (hBd : ∀ pre X, J pre X → pre = List.range pre.length → pre.length ≤ M)
    (hY : ∀ pre (x : Nat) X, pre = List.range x → J pre X → YieldAt Fence.wide 0 Try.prog l #[.agg (Pc (eu a b (2 * x)) (eu a b (2 * x + 1)))] X fun e Y => (e = .returned (.bool true) ∧ J (pre ++ [x]) Y ∧ Kept w.heap.size X Y ∧ Below n₀ X Y) ∨ (e = .returned (.bool false) ∧ Jx (pre ++ [x]) Y ∧ Kept w.heap.size X Y))
    (h0 : J [] w) :
    CallsIn Fence.wide n Try.prog 22 #[.func (.yield l) #[] #[], .pointer (some ⟨A, 0, none⟩), .pointer (some ⟨B, 0, none⟩)] w fun e Y => (∃ v, e = .returned v) ∧ ∃ m, Jx (List.range (m + 1)) Y := by
  refine callsIn_of_wp Try.func22 rfl trivial ?_ rfl
  simp only [Try.ntmps22, List.size_toArray, List.length_cons, List.length_nil, Nat.reduceAdd, Nat.reduceSub, Array.replicate_succ, Array.replicate_zero, List.push_toArray, List.append_toArray, List.nil_append, List.cons_append]
  gi_wp2_with fail
  rename_i K hK
  have key : ∀ (g1 g2 : Nat) (X : World), w.heap.size ≤ g1 → w.heap.size ≤ g2 → g1 ≠ g2 → Blk X g1 24 (Wc a) → Blk X g2 24 (Wc b) → J [] X →
      K { tmps := #[.func (.yield l) #[] #[], .pointer (some ⟨A, 0, none⟩), .pointer (some ⟨B, 0, none⟩), undef, .pointer (some ⟨g1, 0, none⟩), .pointer (some ⟨g2, 0, none⟩), W a, W b, undef, undef, undef, undef, undef, undef, undef, undef, undef, undef, undef], defers := [] } X := by
    clear hA hB h0
    intro g1 g2 X hg1 hg2 hne h1 h2 hj
    refine hK _ _ ?_
    clear hK K
    gi_wp2_with fail
    gi_loopg [] (M + 1) (fun c wr => ∃ k, c + k = M + 1 ∧ J (List.range k) wr ∧ Blk wr g1 24 (Wc (eu a b (2 * k))) ∧ Blk wr g2 24 (Wc (eu a b (2 * k + 1))))
    case atStart => exact ⟨0, rfl, hj, h1, h2⟩
    case round =>
      clear h1 h2 hj
      obtain ⟨k, hk, hj, h1, h2⟩ := hrel
      have hkM : k ≤ M := by have := hBd _ _ hj (by rw [List.length_range]); rwa [List.length_range] at this
      have a0 := (cell_of_row wr _ 0 _ _ _ h1).trans (wc_get _ 0 (by omega))
      have a1 := (cell_of_row wr _ 1 _ _ _ h1).trans (wc_get _ 1 (by omega))
      have a2 := (cell_of_row wr _ 2 _ _ _ h1).trans (wc_get _ 2 (by omega))
      have a3 := (cell_of_row wr _ 3 _ _ _ h1).trans (wc_get _ 3 (by omega))
      have b0 := (cell_of_row wr _ 0 _ _ _ h2).trans (wc_get _ 0 (by omega))
      have b1 := (cell_of_row wr _ 1 _ _ _ h2).trans (wc_get _ 1 (by omega))
      have b2 := (cell_of_row wr _ 2 _ _ _ h2).trans (wc_get _ 2 (by omega))
      have b3 := (cell_of_row wr _ 3 _ _ _ h2).trans (wc_get _ 3 (by omega))
      obtain ⟨fn, tmps, assign, body, hy, hR⟩ := YieldAt.wide (m' := n - 1) (hY _ k _ rfl hj)
      have HJ := Lib.hid hj
      have H1 := Lib.hid h1
      have H2 := Lib.hid h2
      clear hj h1 h2
      gi_wp2_with fail
      refine hR.mono ?_
      clear a0 a1 a2 a3 b0 b1 b2 b3 hy hR HJ
      rintro e Y (⟨rfl, hj, hkp, _⟩ | ⟨rfl, hjx, _⟩)
      · have h1 : Blk Y g1 24 (Wc (eu a b (2 * k))) := (hkp.2 g1 hg1 H1.out.lt).trans H1.out
        have h2 : Blk Y g2 24 (Wc (eu a b (2 * k + 1))) := (hkp.2 g2 hg2 H2.out.lt).trans H2.out
        clear H1 H2 hkp
        have a0 := (cell_of_row Y _ 0 _ _ _ h1).trans (wc_get _ 0 (by omega))
        have a1 := (cell_of_row Y _ 1 _ _ _ h1).trans (wc_get _ 1 (by omega))
        have a2 := (cell_of_row Y _ 2 _ _ _ h1).trans (wc_get _ 2 (by omega))
        have a3 := (cell_of_row Y _ 3 _ _ _ h1).trans (wc_get _ 3 (by omega))
        have b0 := (cell_of_row Y _ 0 _ _ _ h2).trans (wc_get _ 0 (by omega))
        have b1 := (cell_of_row Y _ 1 _ _ _ h2).trans (wc_get _ 1 (by omega))
        have b2 := (cell_of_row Y _ 2 _ _ _ h2).trans (wc_get _ 2 (by omega))
        have b3 := (cell_of_row Y _ 3 _ _ _ h2).trans (wc_get _ 3 (by omega))
        have HJ := Lib.hid hj
        have H1 := Lib.hid h1
        have H2 := Lib.hid h2
        clear hj h1 h2
        gi_wp2_with fail
        refine ⟨trivial, ?_⟩
        refine (callsIn_wide.2 (mod_all (eu a b (2 * k)) (eu a b (2 * k + 1)) (eu_lt a b ha hb _) (eu_lt a b ha hb _) _)).mono ?_
        clear a0 a1 a2 a3 b0 b1 b2 b3
        rintro e V ⟨rfl, hV⟩
        have e2 : mdN (eu a b (2 * k)) (eu a b (2 * k + 1)) = eu a b (2 * k + 2) := rfl
        rw [e2]
        clear e2
        have hj := hJ.new HJ.out hV
        have h1 := H1.out.block_below hV
        have h2 := H2.out.block_below hV
        clear HJ H1 H2 hV
        have a0 := (cell_of_row V _ 0 _ _ _ h1).trans (wc_get _ 0 (by omega))
        have a1 := (cell_of_row V _ 1 _ _ _ h1).trans (wc_get _ 1 (by omega))
        have a2 := (cell_of_row V _ 2 _ _ _ h1).trans (wc_get _ 2 (by omega))
        have a3 := (cell_of_row V _ 3 _ _ _ h1).trans (wc_get _ 3 (by omega))
        have fa0 := frozen_of_row V _ 0 _ _ h1
        have fa1 := frozen_of_row V _ 1 _ _ h1
        have fa2 := frozen_of_row V _ 2 _ _ h1
        have fa3 := frozen_of_row V _ 3 _ _ h1
        have b0 := (cell_of_row V _ 0 _ _ _ h2).trans (wc_get _ 0 (by omega))
        have b1 := (cell_of_row V _ 1 _ _ _ h2).trans (wc_get _ 1 (by omega))
        have b2 := (cell_of_row V _ 2 _ _ _ h2).trans (wc_get _ 2 (by omega))
        have b3 := (cell_of_row V _ 3 _ _ _ h2).trans (wc_get _ 3 (by omega))
        have HJ := Lib.hid (hJ _ _ _ (some g1) hj (grown_set4 V g1 (.int .u64 (lb (eu a b (2 * k + 2)) 0)) (.int .u64 (lb (eu a b (2 * k + 2)) 1)) (.int .u64 (lb (eu a b (2 * k + 2)) 2)) (.int .u64 (lb (eu a b (2 * k + 2)) 3))) (fun r e => by cases e; exact hg1))
        have H1 := Lib.hid (h1.set4 (eu a b (2 * k + 2)))
        have H2 := Lib.hid (h2.kept (grown_set4 V g1 (.int .u64 (lb (eu a b (2 * k + 2)) 0)) (.int .u64 (lb (eu a b (2 * k + 2)) 1)) (.int .u64 (lb (eu a b (2 * k + 2)) 2)) (.int .u64 (lb (eu a b (2 * k + 2)) 3))) (fun e => hne (Option.some.inj e).symm))
        clear hj h1 h2
        gi_wp2_with fail
        refine ⟨trivial, ?_⟩
        refine (callsIn_wide.2 (mod_all (eu a b (2 * k + 1)) (eu a b (2 * k + 2)) (eu_lt a b ha hb _) (eu_lt a b ha hb _) _)).mono ?_
        clear a0 a1 a2 a3 b0 b1 b2 b3 fa0 fa1 fa2 fa3
        rintro e Z ⟨rfl, hZ⟩
        have e2 : mdN (eu a b (2 * k + 1)) (eu a b (2 * k + 2)) = eu a b (2 * k + 3) := rfl
        rw [e2]
        clear e2
        have hj := hJ.new HJ.out hZ
        have h1 := H1.out.block_below hZ
        have h2 := H2.out.block_below hZ
        clear HJ H1 H2 hZ
        have b0 := (cell_of_row Z _ 0 _ _ _ h2).trans (wc_get _ 0 (by omega))
        have b1 := (cell_of_row Z _ 1 _ _ _ h2).trans (wc_get _ 1 (by omega))
        have b2 := (cell_of_row Z _ 2 _ _ _ h2).trans (wc_get _ 2 (by omega))
        have b3 := (cell_of_row Z _ 3 _ _ _ h2).trans (wc_get _ 3 (by omega))
        have fb0 := frozen_of_row Z _ 0 _ _ h2
        have fb1 := frozen_of_row Z _ 1 _ _ h2
        have fb2 := frozen_of_row Z _ 2 _ _ h2
        have fb3 := frozen_of_row Z _ 3 _ _ h2
        have HJ := Lib.hid (hJ _ _ _ (some g2) hj (grown_set4 Z g2 (.int .u64 (lb (eu a b (2 * k + 3)) 0)) (.int .u64 (lb (eu a b (2 * k + 3)) 1)) (.int .u64 (lb (eu a b (2 * k + 3)) 2)) (.int .u64 (lb (eu a b (2 * k + 3)) 3))) (fun r e => by cases e; exact hg2))
        have H2 := Lib.hid (h2.set4 (eu a b (2 * k + 3)))
        have H1 := Lib.hid (h1.kept (grown_set4 Z g2 (.int .u64 (lb (eu a b (2 * k + 3)) 0)) (.int .u64 (lb (eu a b (2 * k + 3)) 1)) (.int .u64 (lb (eu a b (2 * k + 3)) 2)) (.int .u64 (lb (eu a b (2 * k + 3)) 3))) (fun e => hne (Option.some.inj e)))
        clear hj h1 h2
        gi_wp2_with fail
        gi_roundg (gk - 1)
        case measure => omega
        case rel => exact ⟨k + 1, by omega, by rw [List.range_succ]; exact HJ.out, H1.out, H2.out⟩
      · gi_wp2_with fail
        go_end0
        exact ⟨⟨_, rfl⟩, k, by rw [List.range_succ]; exact hjx⟩
  clear hK
  have cA0 : ∀ w', Below w.heap.size w w' → w'.cell? ⟨A, 0, none⟩ = some (.int .u64 (lb a 0)) := fun w' h => (h.cell (p := ⟨A, 0, none⟩) hA.lt).trans ((cell_of_row _ _ 0 _ _ _ hA).trans (wc_get a 0 (by omega)))
  have cB0 : ∀ w', Below w.heap.size w w' → w'.cell? ⟨B, 0, none⟩ = some (.int .u64 (lb b 0)) := fun w' h => (h.cell (p := ⟨B, 0, none⟩) hB.lt).trans ((cell_of_row _ _ 0 _ _ _ hB).trans (wc_get b 0 (by omega)))
  have cA1 : ∀ w', Below w.heap.size w w' → w'.cell? ⟨A, 1, none⟩ = some (.int .u64 (lb a 1)) := fun w' h => (h.cell (p := ⟨A, 1, none⟩) hA.lt).trans ((cell_of_row _ _ 1 _ _ _ hA).trans (wc_get a 1 (by omega)))
  have cB1 : ∀ w', Below w.heap.size w w' → w'.cell? ⟨B, 1, none⟩ = some (.int .u64 (lb b 1)) := fun w' h => (h.cell (p := ⟨B, 1, none⟩) hB.lt).trans ((cell_of_row _ _ 1 _ _ _ hB).trans (wc_get b 1 (by omega)))
  have cA2 : ∀ w', Below w.heap.size w w' → w'.cell? ⟨A, 2, none⟩ = some (.int .u64 (lb a 2)) := fun w' h => (h.cell (p := ⟨A, 2, none⟩) hA.lt).trans ((cell_of_row _ _ 2 _ _ _ hA).trans (wc_get a 2 (by omega)))
  have cB2 : ∀ w', Below w.heap.size w w' → w'.cell? ⟨B, 2, none⟩ = some (.int .u64 (lb b 2)) := fun w' h => (h.cell (p := ⟨B, 2, none⟩) hB.lt).trans ((cell_of_row _ _ 2 _ _ _ hB).trans (wc_get b 2 (by omega)))
  have cA3 : ∀ w', Below w.heap.size w w' → w'.cell? ⟨A, 3, none⟩ = some (.int .u64 (lb a 3)) := fun w' h => (h.cell (p := ⟨A, 3, none⟩) hA.lt).trans ((cell_of_row _ _ 3 _ _ _ hA).trans (wc_get a 3 (by omega)))
  have cB3 : ∀ w', Below w.heap.size w w' → w'.cell? ⟨B, 3, none⟩ = some (.int .u64 (lb b 3)) := fun w' h => (h.cell (p := ⟨B, 3, none⟩) hB.lt).trans ((cell_of_row _ _ 3 _ _ _ hB).trans (wc_get b 3 (by omega)))
  have hd : Below w.heap.size w w.drew := (Below.refl _ _).drew
  have HJ := Lib.hid hJ
  have H0 := Lib.hid h0
  clear hJ hBd hY hA hB h0
  refine (wpIn_wide (n := n)).2 ?_
  go_region_held3 (fun w' => Below w.heap.size w w') (first | assumption | exact (Below.refl _ _).drew | exact balloc (by assumption) _ | exact (balloc (balloc (Below.refl _ _) _) _).drew) (fail)
  · exact key w.heap.size (w.heap.size + 1) _ (Nat.le_refl _) (by omega) (by omega) ((Blk.new w 24 (Wc a)).alloc (.cells (Wc b) 24)) (Blk.newS w (.cells (Wc a) 24) 24 (Wc b)) (HJ.out.new H0.out (balloc (balloc (Below.refl _ _) _) _).drew)
  · exact key (w.heap.size + 1) w.heap.size _ (by omega) (Nat.le_refl _) (by omega) (Blk.newS w (.cells (Wc b) 24) 24 (Wc a)) ((Blk.new w 24 (Wc b)).alloc (.cells (Wc a) 24)) (HJ.out.new H0.out (balloc (balloc (Below.refl _ _) _) _).drew)
/-- pairs goes over Euclid's way by twos, till it is left. -/
theorem pairs_seq (n n₀ A B a b M : Nat) (hn : 1 ≤ n) (ha : a < MM) (hb : b < MM) (w : World) (hA : Blk w A 24 (Wc a)) (hB : Blk w B 24 (Wc b)) :
    SeqB n Try.prog 22 #[.pointer (some ⟨A, 0, none⟩), .pointer (some ⟨B, 0, none⟩)] (fun x : Nat => #[.agg (Pc (eu a b (2 * x)) (eu a b (2 * x + 1)))]) n₀ (fun pre => pre = List.range pre.length → pre.length ≤ M) (fun pre x => pre = List.range x) (fun _ => False) (fun pre => ∃ m, pre = List.range (m + 1)) w := fun l J Jx W hW hJ _ hBd hY h0 =>
  (pairs1_in n hn l A B n₀ a b M ha hb J Jx W (hA.block_below hW) (hB.block_below hW) hJ hBd hY h0).mono (fun _ _ h => ⟨h.1, .inr (by obtain ⟨m, hm⟩ := h.2; exact ⟨_, ⟨m, rfl⟩, hm⟩)⟩)
theorem pairs_any (a b : Nat) (w : World) :
    Calls Try.prog 9 #[W a, W b] w fun e w' => e = .returned (.func (.func 22) #[] #[.pointer (some ⟨w.heap.size, 0, none⟩), .pointer (some ⟨w.heap.size + 1, 0, none⟩)]) ∧ w' = (w.alloc (.cells (Wc a) 24)).alloc (.cells (Wc b) 24) := by
  go_enter Try.func9, Try.ntmps9
  go_wp2
  go_ret
  exact ⟨rfl, rfl⟩
theorem steps_any (a b : Nat) (w : World) :
    Calls Try.prog 5 #[W a, W b] w fun e w' => e = .returned (.func (.func 8) #[] #[.pointer (some ⟨w.heap.size, 0, none⟩), .pointer (some ⟨w.heap.size + 1, 0, none⟩)]) ∧ w' = (w.alloc (.cells (Wc a) 24)).alloc (.cells (Wc b) 24) := by
  go_enter Try.func5, Try.ntmps5
  go_wp2
  go_ret
  exact ⟨rfl, rfl⟩
end Go.Proofs.Ythdapmceafnhgaa
