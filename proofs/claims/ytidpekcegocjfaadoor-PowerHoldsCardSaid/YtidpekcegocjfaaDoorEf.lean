/- power: Exp. -/
import Derived.Test.YtidpekcegocjfaaDoorEe
namespace Go.Proofs.YtidpekcegocjfaaDoor
open Go.RowKit Go.Shelf
attribute [local go_sem] ix0 ix1 ix2 ix3
attribute [local go_sem] Oper.semAt_some
theorem blk4v {X : World} {g : Nat} {t : TypeId} {x0 x1 x2 x3 : Value} (h : Blk X g t #[x0, x1, x2, x3]) (v0 v1 v2 v3 : Value) :
    Blk ((((X.setCell ⟨g, 0, none⟩ v0).setCell ⟨g, 1, none⟩ v1).setCell ⟨g, 2, none⟩ v2).setCell ⟨g, 3, none⟩ v3) g t #[v0, v1, v2, v3] := by
  have h0 : Blk (X.setCell ⟨g, 0, none⟩ v0) g t #[v0, x1, x2, x3] := heap_setCell_same _ g 0 _ _ _ h
  have h1 : Blk ((X.setCell ⟨g, 0, none⟩ v0).setCell ⟨g, 1, none⟩ v1) g t #[v0, v1, x2, x3] := heap_setCell_same _ g 1 _ _ _ h0
  have h2 : Blk (((X.setCell ⟨g, 0, none⟩ v0).setCell ⟨g, 1, none⟩ v1).setCell ⟨g, 2, none⟩ v2) g t #[v0, v1, v2, x3] := heap_setCell_same _ g 2 _ _ _ h1
  exact heap_setCell_same _ g 3 _ _ _ h2
theorem undW : Tryd.prog.underlying 24 = some (.array 4 22) := by kernel_rfl
theorem infoW {z : Nat} : (Tryd.prog.info? 24).map (·.size) = some (Wc z).size := by kernel_rfl
theorem sqF_congr (a : Nat) {f g : Nat → Bool} (x : Nat) : ∀ k, (∀ j, j < k → f j = g j) → sqF a f x k = sqF a g x k
  | 0, _ => by rw [sqF_zero, sqF_zero]
  | k + 1, h => by rw [sqF_succ, sqF_succ, h k (by omega), sqF_congr a x k (fun j hj => h j (by omega))]
attribute [local irreducible] sqF sq1 lenN lb boolC
set_option maxRecDepth 100000 in
set_option maxHeartbeats 4000000 in
theorem exp_any (a n : Nat) (hn : n < MM) (w : World) (hT : TZ w) :
    Calls Tryd.prog 6 #[W a, W n] w fun e w' => e = .returned (W (sqF a (fun j => n.testBit (lenN n - 1 - j)) 1 (lenN n))) ∧ Below w.heap.size w w' := by
  have hL := (lenN_spec n hn).2
  have HBL := Lib.hid (fun x (h : n.testBit x = true) => bit_len n x hn h)
  have HLEN := Lib.hid (len_any n hn)
  have HTA := Lib.hid (fun j (hj : j < lenN n) => TL_all n (lenN n) j hL hj)
  obtain ⟨L, hLe⟩ : ∃ L, lenN n = L := ⟨_, rfl⟩
  rw [hLe] at hL HBL HLEN HTA ⊢
  have hmk := make_bools L hL
  have HT := Lib.hid hT
  clear hn hT hLe
  have k0 : Blk (((w.alloc (.cells (Wc a) 24)).alloc (.cells (Wc n) 24)).alloc (.cells Zc4 24)) w.heap.size 24 (Wc a) := ((Blk.new _ _ _).alloc _).alloc _
  have k1 : Blk (((w.alloc (.cells (Wc a) 24)).alloc (.cells (Wc n) 24)).alloc (.cells Zc4 24)) (w.heap.size + 1) 24 (Wc n) := (Blk.newS w _ _ _).alloc _
  have k2 : Blk (((w.alloc (.cells (Wc a) 24)).alloc (.cells (Wc n) 24)).alloc (.cells Zc4 24)) (w.heap.size + 1 + 1) 24 Zc4 := by
    have h := Blk.newS (w.alloc (.cells (Wc a) 24)) (.cells (Wc n) 24) 24 Zc4
    rwa [World.size_alloc] at h
  have hW : Below w.heap.size w (((w.alloc (.cells (Wc a) 24)).alloc (.cells (Wc n) 24)).alloc (.cells Zc4 24)) := balloc (balloc (balloc (Below.refl _ _) _) _) _
  have HX := Lib.hid (And.intro k0 (And.intro k1 (And.intro k2 hW)))
  clear k0 k1 k2 hW
  refine (callsIn_wide (n := 20)).1 ?_
  refine callsIn_of_wp_marks Tryd.func6 rfl trivial ?_ rfl
  simp only [Tryd.ntmps6, List.size_toArray, List.length_cons, List.length_nil, Nat.reduceAdd, Nat.reduceSub, Array.replicate_succ, Array.replicate_zero, List.push_toArray, List.append_toArray, List.nil_append, List.cons_append]
  refine (wpIn_wide (n := 20)).2 ?_
  go_wp2_with fail
  refine (HLEN.out _).mono ?_
  rintro e w1 ⟨rfl, h1⟩
  have HY := Lib.hid (And.intro (HX.out.1.keep h1) (And.intro (HX.out.2.1.keep h1) (And.intro (HX.out.2.2.1.keep h1) (bstep HX.out.2.2.2 h1))))
  clear HX h1
  go_upto_region 2 with fail
  obtain ⟨q0, q1, q2, qW⟩ := HY.out
  have k0 := (q0.alloc (.cells (boolC L (fun _ => false)) 4)).alloc (.cells #[.slice (some ⟨w1.heap.size, 0, none⟩) L L] 30)
  have k1 := (q1.alloc (.cells (boolC L (fun _ => false)) 4)).alloc (.cells #[.slice (some ⟨w1.heap.size, 0, none⟩) L L] 30)
  have k2 := (q2.alloc (.cells (boolC L (fun _ => false)) 4)).alloc (.cells #[.slice (some ⟨w1.heap.size, 0, none⟩) L L] 30)
  have k3 : Blk ((w1.alloc (.cells (boolC L (fun _ => false)) 4)).alloc (.cells #[.slice (some ⟨w1.heap.size, 0, none⟩) L L] 30)) w1.heap.size 4 (boolC L (fun _ => false)) := (Blk.new w1 _ _).alloc _
  have k4 := Blk.newS w1 (.cells (boolC L (fun _ => false)) 4) 30 #[.slice (some ⟨w1.heap.size, 0, none⟩) L L]
  have hW := balloc (balloc qW (.cells (boolC L (fun _ => false)) 4)) (.cells #[.slice (some ⟨w1.heap.size, 0, none⟩) L L] 30)
  have hgs : w.heap.size ≤ w1.heap.size := qW.size
  have hg2 : w.heap.size + 1 + 1 < w1.heap.size := q2.lt
  obtain ⟨W2, hW2⟩ : ∃ W2, ((w1.alloc (.cells (boolC L (fun _ => false)) 4)).alloc (.cells #[.slice (some ⟨w1.heap.size, 0, none⟩) L L] 30)) = W2 := ⟨_, rfl⟩
  rw [hW2] at k0 k1 k2 k3 k4 hW ⊢
  clear hW2 q0 q1 q2 qW HY
  generalize w1.heap.size = gs at k3 k4 hgs hg2 ⊢
  rw [← TL_nil] at k3
  have c0 := (cell_of_row _ _ 0 _ _ _ k1).trans (wc_get n 0 (by omega))
  have c1 := (cell_of_row _ _ 1 _ _ _ k1).trans (wc_get n 1 (by omega))
  have c2 := (cell_of_row _ _ 2 _ _ _ k1).trans (wc_get n 2 (by omega))
  have c3 := (cell_of_row _ _ 3 _ _ _ k1).trans (wc_get n 3 (by omega))
  have HX := Lib.hid (And.intro k0 (And.intro k2 (And.intro k3 (And.intro k4 hW))))
  clear k0 k1 k2 k3 k4 hW
  go_wp2_with fail
  refine (each_any n _).mono ?_
  rintro e V ⟨rfl, rfl⟩
  rename_i K1 hK1
  refine hK1 _ _ ?_
  clear hK1 K1 c0 c1 c2 c3 HLEN hmk
  have hA := Blk.new W2 24 (Wc n)
  have k0 := HX.out.1.alloc (.cells (Wc n) 24)
  have k2 := HX.out.2.1.alloc (.cells (Wc n) 24)
  have k3 := HX.out.2.2.1.alloc (.cells (Wc n) 24)
  have k4 := HX.out.2.2.2.1.alloc (.cells (Wc n) 24)
  have hW := balloc HX.out.2.2.2.2 (.cells (Wc n) 24)
  obtain ⟨W3, hW3⟩ : ∃ W3, W2.alloc (.cells (Wc n) 24) = W3 := ⟨_, rfl⟩
  rw [hW3] at hA k0 k2 k3 k4 hW ⊢
  clear hW3 HX
  generalize W2.heap.size = ga at hA ⊢
  have hT3 : TZ W3 := HT.out.keep hW
  have hgt := HT.out.lt
  have HX := Lib.hid (And.intro hA (And.intro k0 (And.intro k2 (And.intro k3 (And.intro k4 hW)))))
  clear hA k0 k2 k3 k4 hW
  refine wpList_nil ?_
  go_wp2_with fail
  obtain ⟨hA, k0, k2, k3, k4, hW⟩ := HX.out
  clear HX
  refine (wpIn_wide (n := 20)).1 ?_
  refine wpIn_rangeB (n := 20) (by omega) (gf := 33) (lb := #[.pointer (some ⟨ga, 0, none⟩)]) rfl (enters_of Tryd.func33 (by kernel_rfl) rfl)
    (each_seq (20 - 1) w.heap.size ga n (by omega) W3 hW.size hgt hT3 hA) (Below.refl _ _) hW.size (fun _ => rfl)
    (fun pre X => (((Blk X w.heap.size 24 (Wc a) ∧ Blk X (w.heap.size + 1 + 1) 24 Zc4) ∧ Blk X gs 4 (boolC L (TL L pre))) ∧ Blk X (gs + 1) 30 #[.slice (some ⟨gs, 0, none⟩) L L]) ∧ Below w.heap.size w X)
    (fun _ _ _ => False)
    (((((Abide.blk k0.lt _ (fun _ => _)).and (Abide.blk k2.lt _ (fun _ => _))).and (Abide.blk k3.lt _ (fun pre => boolC L (TL L pre)))).and (Abide.blk k4.lt _ (fun _ => _))).and (Abide.below (Nat.le_refl _) hW.size))
    (fun _ _ _ _ _ hs _ _ => hs) (fun _ _ _ => trivial)
    ⟨⟨⟨⟨k0, k2⟩, k3⟩, k4⟩, hW⟩
    (fun x a' _ => a' = { tmps := #[W a, W n, .pointer (some ⟨w.heap.size, 0, none⟩), .pointer (some ⟨w.heap.size + 1, 0, none⟩), .pointer (some ⟨w.heap.size + 1 + 1, 0, none⟩), .pointer (some ⟨gs + 1, 0, none⟩), .int .i64 x, W n, .int .i64 L, .slice (some ⟨gs, 0, none⟩) L L, W n, .func (.func 33) #[] #[.pointer (some ⟨ga, 0, none⟩)], .int .i64 x, undef, undef, undef, undef, undef, undef, undef, undef, undef, undef], defers := [] })
    (fun x a' _ _ _ _ hs _ _ => hs)
    ?assign ?body ?done ?stop
  case assign =>
    rintro l2 pre x X K _ hi hK
    gi_wp2
    exact hK _ _ (Kept.refl _ _) (Below.refl _ _) hi rfl
  case body =>
    rintro l2 pre x a' X hl2 ⟨hpre, hbit, hx⟩ hlo ⟨⟨⟨⟨h0, h2⟩, h3⟩, h4⟩, hB⟩ rfl
    clear hlo
    have hxL := HBL.out x hbit
    have g1 : IntKind.i64.wrap ((L : Int) - 1) = (L : Int) - 1 := IntWalk.i64_in _ (by omega)
    have g2 : IntKind.i64.wrap ((L : Int) - 1 - x) = (L : Int) - 1 - x := IntWalk.i64_in _ (by omega)
    have g3 : (0 : Int) ≤ (L : Int) - 1 - x := by omega
    have g4 : (L : Int) - 1 - x < (L : Int) := by omega
    have g5 : ((L : Int) - 1 - x).toNat = L - 1 - x := by omega
    have c0 := cell_of_row X _ 0 _ _ _ h4
    have c1 := (cell_of_row X _ (L - 1 - x) _ _ _ h3).trans (boolC_get L _ (L - 1 - x) (by omega))
    have f1 := frozen_of_row X _ (L - 1 - x) _ _ h3
    have hS := heap_setCell_same X gs (L - 1 - x) _ _ (.bool true) h3
    rw [TL_snoc L x pre hxL] at hS
    have hG := grown_set' (grown_refl X gs) (L - 1 - x) (.bool true)
    have HE := Lib.hid (show Kept W3.heap.size X (X.setCell ⟨gs, L - 1 - x, none⟩ (.bool true)) ∧ Below w.heap.size X (X.setCell ⟨gs, L - 1 - x, none⟩ (.bool true)) ∧ (((Blk (X.setCell ⟨gs, L - 1 - x, none⟩ (.bool true)) w.heap.size 24 (Wc a) ∧ Blk (X.setCell ⟨gs, L - 1 - x, none⟩ (.bool true)) (w.heap.size + 1 + 1) 24 Zc4) ∧ Blk (X.setCell ⟨gs, L - 1 - x, none⟩ (.bool true)) gs 4 (boolC L (TL L (pre ++ [x])))) ∧ Blk (X.setCell ⟨gs, L - 1 - x, none⟩ (.bool true)) (gs + 1) 30 #[.slice (some ⟨gs, 0, none⟩) L L]) ∧ Below w.heap.size w (X.setCell ⟨gs, L - 1 - x, none⟩ (.bool true)) from
      ⟨Kept.set X (p := ⟨gs, L - 1 - x, none⟩) k3.lt _, (Below.refl _ X).setCell (p := ⟨gs, L - 1 - x, none⟩) hgs _, ⟨⟨⟨h0.kept hG (fun e => by injection e; omega), h2.kept hG (fun e => by injection e; omega)⟩, hS⟩, h4.kept hG (fun e => by injection e; omega)⟩, hB.setCell (p := ⟨gs, L - 1 - x, none⟩) hgs _⟩)
    clear h0 h2 h3 h4 hB hS hG k0 k2 k3 k4 hW hA hpre hbit
    gi_wp2_with fail
    exact HE.out
  case done =>
    rintro D xs X hD rfl ⟨⟨⟨⟨h0, h2⟩, h3⟩, h4⟩, hB⟩ hK
    rename_i K1 hK1
    refine hK1 _ _ ?_
    have hWD : w.heap.size + 1 + 1 < D := Nat.lt_of_lt_of_le k2.lt hD
    have hsq := squares_any a gs 0 L L (TL L (eb n 256)) X (by omega) h3.lt (fun j hj => by rw [Nat.zero_add]; exact (cell_of_row X gs j _ _ _ h3).trans (boolC_get L _ j hj))
    have hEQ := Lib.hid (sqF_congr a 1 L HTA.out)
    have c9 := cell_of_row X _ 0 _ _ _ h4
    have c0 := (cell_of_row _ _ 0 _ _ _ h0).trans (wc_get a 0 (by omega))
    have c1 := (cell_of_row _ _ 1 _ _ _ h0).trans (wc_get a 1 (by omega))
    have c2 := (cell_of_row _ _ 2 _ _ _ h0).trans (wc_get a 2 (by omega))
    have c3 := (cell_of_row _ _ 3 _ _ _ h0).trans (wc_get a 3 (by omega))
    have HX := Lib.hid (And.intro h2 (And.intro hB hK))
    have HS := Lib.hid hsq
    clear hK1 K1 k0 k2 k3 k4 hW hA hK hB h0 h2 h3 h4 hsq
    go_wp2_with fail
    refine HS.out.mono ?_
    rintro e Y ⟨rfl, hY⟩
    obtain ⟨z, hz⟩ : ∃ z, sqF a (TL L (eb n 256)) 1 L = z := ⟨_, rfl⟩
    rw [hz] at hEQ ⊢
    have hR := HX.out.1.keep hY
    have hB := bstep HX.out.2.1 hY
    have hDl : D < X.heap.size := (Array.getElem?_eq_some_iff.1 HX.out.2.2).1
    have hK := (hY.block D hDl).trans HX.out.2.2
    clear hY hz HS HX c0 c1 c2 c3 c9
    have f0 := frozen_of_row _ _ 0 _ _ hR
    have f1 := frozen_of_row _ _ 1 _ _ hR
    have f2 := frozen_of_row _ _ 2 _ _ hR
    have f3 := frozen_of_row _ _ 3 _ _ hR
    have r0 := cell_of_row _ _ 0 _ _ _ hR
    have r1 := cell_of_row _ _ 1 _ _ _ hR
    have r2 := cell_of_row _ _ 2 _ _ _ hR
    have r3 := cell_of_row _ _ 3 _ _ _ hR
    have hG := grown_set4 Y (w.heap.size + 1 + 1) (.int .u64 (lb z 0)) (.int .u64 (lb z 1)) (.int .u64 (lb z 2)) (.int .u64 (lb z 3))
    have hS := blk4v hR (.int .u64 (lb z 0)) (.int .u64 (lb z 1)) (.int .u64 (lb z 2)) (.int .u64 (lb z 3))
    have hK2 := (hG.block D (Array.getElem?_eq_some_iff.1 hK).1 (by intro e; injection e; omega)).trans hK
    have HE := Lib.hid (And.intro hS (And.intro hK2 (step_world hB hG (Nat.le_refl _) (by omega))))
    clear hS hK hK2 hB hR hG
    go_wp2_with fail
    refine ⟨by simp, .inl ⟨_, _, rfl, run_takeDeferred HE.out.2.1, ?_⟩⟩
    exact ⟨_, results_cell_row rfl _ _ (w.heap.size + 1 + 1) 24 (Wc z) (0, 0) _ rfl (((below_put _ _ (Nat.le_refl D)).block _ hWD).trans HE.out.1) undW rfl infoW, by rw [hEQ.out], HE.out.2.2.trans (below_put _ _ (by omega))⟩
  case stop =>
    rintro D c pre X _ _ h _
    exact h.elim
end Go.Proofs.YtidpekcegocjfaaDoor
