/- slot: what the chapter's rows come to. -/
import Derived.Test.YtcfnhilcpfiocaaStm
import Derived.Test.YtcfnhilcpfiocaaWs
import Derived.Laws.CopyOwn
namespace Go.Proofs.Ytcfnhilcpfiocaa
open Go.RowKit Go.Shelf Go.ChangeMaps Go.MapKept

set_option maxRecDepth 100000 in
theorem snum_any (n : Int) (w : World) : Calls Try.prog 15 #[.int .i64 n] w fun e w' => e = .returned (.int .i64 n) ∧ w = w' := by
  go_enter Try.func15, Try.ntmps15
  go_wp2_with fail
  go_ret
  exact ⟨rfl, rfl⟩
theorem vA_one (n a : Nat) : (vA n a).all (·.oneCell') = true := by simp [Value.oneCell']
theorem join_p2 {G : Prop} {R T : Nat → Nat → World → Prop} (f : (∀ p q W, R p q W → T p q W) → G) (r : ∀ p q W, R p q W → T p q W) : G := f r
theorem fv1_put : upd (fun _ => none) 7 (putO (5, 1) (lk (fun _ => none) 7)) = upd (fun _ => none) 7 (some (5, 1)) := by
  rw [lk_none rfl]; unfold putO; rw [if_neg (by decide)]
theorem fv1_many : manyP 0 (5, 1) (lk2 (fun _ => none) (fun _ => none) 7) = 1 := by decide
theorem fv1_get : lk2 (upd (fun _ => none) 7 (some (5, 1))) (fun _ => none) 7 = (5, 1) := by decide
theorem fv1_was : lk (fun _ => none) 7 = (0, 0) := rfl
theorem fv1_ovr : ovr (upd (fun _ => none) 7 (some (5, 1))) (fun _ => none) = upd (fun _ => none) 7 (some (5, 1)) := by
  funext k
  unfold ovr
  by_cases h : k = 7
  · subst h; rw [upd_same]; rfl
  · rw [upd_other _ _ h]
theorem fw2_was : lk (upd (fun _ => none) 7 (some (5, 1))) 7 = (5, 1) := by decide
theorem fv2_get : lk2 (fun _ => none) (upd (fun _ => none) 7 (some (5, 1))) 7 = (5, 1) := by decide
theorem fv2_many : manyP 1 (0, 0) (lk2 (fun _ => none) (upd (fun _ => none) 7 (some (5, 1))) 7) = 0 := by decide
set_option maxRecDepth 100000 in
set_option maxHeartbeats 4000000 in
theorem sworks_any (w : World) : Calls Try.prog 6 #[] w fun e w' => e = .returned (.bool true) ∧ Below w.heap.size w w' := by
  have h7 : (7 : Nat) < MM := by decide
  have h5 : okP (5, 1) := ⟨by decide, by decide⟩
  go_enter Try.func6, Try.ntmps6
  go_upto_region 2 with (first | (go_at_call 7; refine (new_any _).mono ?_; rintro e w1 ⟨g, bv, bw, rfl, hs, hg, hgb1, hgb2, hB⟩; have H1 := Lib.hid (And.intro hs (And.intro hg (And.intro hgb1 (And.intro hgb2 hB)))); clear hs hg hgb1 hgb2 hB) | fail)
  go_upto_region 3 with (first
    | (go_at_call 23; refine (rof_any 7 (by decide) _).mono ?_; rintro e w2 ⟨rfl, hw2⟩; have H2 := Lib.hid hw2; clear hw2)
    | (go_at_call 23; refine (rof_any 5 (by decide) _).mono ?_; rintro e w3 ⟨rfl, hw3⟩; have H3 := Lib.hid hw3; clear hw3)
    | fail)
  obtain ⟨W4, hW4⟩ : ∃ W4, (w3.alloc (.cells (Wc 7) 25)).alloc (.cells #[.int .u64 (lb 5 0), .int .u64 (lb 5 1), .int .u64 (lb 5 2), .int .u64 (lb 5 3), .int .u64 1] 36) = W4 := ⟨_, rfl⟩
  have n2 : Blk W4 w3.heap.size 25 (Wc 7) := by rw [← hW4]; exact (Blk.new _ _ _).alloc _
  have n3 : Blk W4 (w3.heap.size + 1) 36 #[.int .u64 (lb 5 0), .int .u64 (lb 5 1), .int .u64 (lb 5 2), .int .u64 (lb 5 3), .int .u64 1] := by rw [← hW4]; exact Blk.newS _ _ _ _
  have hb13 := bstep H2.out H3.out
  have hb34 : Below w3.heap.size w3 W4 := by rw [← hW4]; exact balloc (balloc (Below.refl _ _) _) _
  have hb14 := bstep hb13 hb34
  have s4 := H1.out.1.keep hb14
  have i1 := H1.out.1.1.lt
  have i2 := H1.out.1.2.1.lt
  have i3 := H1.out.1.2.2.1.lt
  have i4 := hb13.size
  rw [hW4]
  have hbw := bstep H1.out.2.2.2.2 hb14
  obtain ⟨B2, hB2⟩ : ∃ B, w3.heap.size = B := ⟨_, rfl⟩
  rw [hB2] at n2 n3 i4 ⊢
  have HP := Lib.hid (sput_any g bv bw 0 _ _ 7 h7 (5, 1) h5 (by omega) (by decide) W4 s4)
  rw [fv1_put, fv1_many] at HP
  have H4 := Lib.hid (And.intro n2 (And.intro n3 (And.intro s4 (And.intro hbw (And.intro i1 (And.intro i2 (And.intro i3 i4)))))))
  clear hW4 hb13 hb34 hb14 s4 i1 i2 i3 i4 hbw H2 H3 hB2
  have q20 := cell_of_row _ _ 0 _ _ _ n2
  have q21 := cell_of_row _ _ 1 _ _ _ n2
  have q22 := cell_of_row _ _ 2 _ _ _ n2
  have q23 := cell_of_row _ _ 3 _ _ _ n2
  have q30 := cell_of_row _ _ 0 _ _ _ n3
  have q31 := cell_of_row _ _ 1 _ _ _ n3
  have q32 := cell_of_row _ _ 2 _ _ _ n3
  have q33 := cell_of_row _ _ 3 _ _ _ n3
  have q34 := cell_of_row _ _ 4 _ _ _ n3
  clear n2 n3
  go_upto_region 4 with (first
    | (go_at_call 16; refine (HP.out).mono ?_; rintro e w5 ⟨rfl, hs, hc⟩; have H5 := Lib.hid (And.intro hs hc); clear hs hc)
    | (go_at_call 15; refine (snum_any _ _).mono ?_; rintro e w6 ⟨rfl, rfl⟩)
    | fail)
  obtain ⟨n2, n3, s4, hbw, i1, i2, i3, i4⟩ := H4.out
  have n2' : Blk w5 B2 25 (Wc 7) := n2.chg H5.out.2 (by omega)
  have n3' : Blk w5 (B2 + 1) 36 (vA 5 1) := n3.chg H5.out.2 (by omega)
  have hbw5 : Below w.heap.size w w5 := hbw.trans (H5.out.2.below hbw.size (fun k hk e => by have h2 := H1.out.2.1; have h3 := H1.out.2.2.1; omega))
  have b0 : ∀ w', Below w5.heap.size w5 w' → w'.cell? ⟨B2, 0, none⟩ = some (.int .u64 (lb 7 0)) := fun w' k => cell_of_row _ _ 0 _ _ _ (n2'.keep k)
  have b1 : ∀ w', Below w5.heap.size w5 w' → w'.cell? ⟨B2, 1, none⟩ = some (.int .u64 (lb 7 1)) := fun w' k => cell_of_row _ _ 1 _ _ _ (n2'.keep k)
  have b2 : ∀ w', Below w5.heap.size w5 w' → w'.cell? ⟨B2, 2, none⟩ = some (.int .u64 (lb 7 2)) := fun w' k => cell_of_row _ _ 2 _ _ _ (n2'.keep k)
  have b3 : ∀ w', Below w5.heap.size w5 w' → w'.cell? ⟨B2, 3, none⟩ = some (.int .u64 (lb 7 3)) := fun w' k => cell_of_row _ _ 3 _ _ _ (n2'.keep k)
  have HGt := Lib.hid (fun X (k : Below w5.heap.size w5 X) => (by have h := get_any g bv bw 1 _ _ 7 h7 X (H5.out.1.keep k); rwa [fv1_get] at h : Calls Try.prog 10 #[.pointer (some ⟨g, 0, none⟩), W 7] X fun e w' => e = .returned (vP (5, 1)) ∧ Below X.heap.size X w'))
  have HWt := Lib.hid (fun X (k : Below w5.heap.size w5 X) => (by have h := was_any g bv bw 1 _ _ 7 h7 X (H5.out.1.keep k); rwa [fv1_was] at h : Calls Try.prog 12 #[.pointer (some ⟨g, 0, none⟩), W 7] X fun e w' => e = .returned (vP (0, 0)) ∧ Below X.heap.size X w'))
  have H6 := Lib.hid (And.intro n2' (And.intro n3' (And.intro hbw5 (And.intro i1 (And.intro i2 (And.intro i3 i4))))))
  clear H4 n2 n3 s4 hbw i1 i2 i3 i4 n2' n3' hbw5 q20 q21 q22 q23 q30 q31 q32 q33 q34 HP
  go_cut [5, 6] from 17 to 22 (fun p q wx => ∃ gp gq : Nat, p = .pointer (some ⟨gp, 0, none⟩) ∧ q = .pointer (some ⟨gq, 0, none⟩) ∧ Blk wx gp 36 (vA 5 1) ∧ Blk wx gq 36 (vA 0 0) ∧ w5.heap.size ≤ gp ∧ w5.heap.size ≤ gq ∧ Below w5.heap.size w5 wx)
  case first =>
    have hB0 : Below w5.heap.size w5 w5.drew := below_drew' (Below.refl _ _)
    have hHd := hB0
    refine wp_region_held_drew (S := fun w' => Below w5.heap.size w5 w') (by as_aux_lemma => kernel_rfl) hHd (fun hHeld => ?_)
    simp only [List.size_toArray, List.length_cons, List.length_nil, Nat.reduceAdd, Array.replicate_succ, Array.replicate_zero, List.push_toArray, List.nil_append, List.cons_append]
    obtain ⟨wd, hwd⟩ : ∃ X, w5.drew = X := ⟨_, rfl⟩
    rw [hwd] at hB0 hHeld ⊢
    clear hHd hwd
    refine join_p2 (R := fun p q W => Blk W p 36 #[.int .u64 0, .int .u64 0, .int .u64 0, .int .u64 0, .int .u64 0] ∧ Blk W q 36 #[.int .u64 0, .int .u64 0, .int .u64 0, .int .u64 0, .int .u64 0] ∧ p ≠ q ∧ w5.heap.size ≤ p ∧ w5.heap.size ≤ q ∧ Below w5.heap.size w5 W) (T := ?TK4) (fun key => ?ways4) ?rest4
    case ways4 =>
      refine wpAnyH_take (i := 0) (oi := { dst := some 17, op := Op.move (Operand.tmp 1), type := 27, pos := "law.go:19", after := #[], guard := none }) (v := ?vq0) rfl (by as_aux_lemma => kernel_rfl) (by as_aux_lemma => kernel_rfl) (by as_aux_lemma => kernel_rfl) (fun _ _ _ h => h) (Or.inl ⟨by rfl, ?yq0⟩) (by assumption) ?rq0
      case yq0 => (intro w hSw; (try dsimp only at hSw); go_simp <;> with_reducible rfl)
      simp only [Act.put, List.setIfInBounds_toArray, List.set_cons_zero, List.set_cons_succ]
      refine wpAnyH_take (i := 1) (oi := { dst := some 18, op := Op.load 25 (Operand.tmp 2), type := 25, pos := "law.go:19", after := #[], guard := none }) (v := ?vq1) rfl (by as_aux_lemma => kernel_rfl) (by as_aux_lemma => kernel_rfl) (by as_aux_lemma => kernel_rfl) (fun _ _ _ h => h) (Or.inl ⟨by rfl, ?yq1⟩) (by assumption) ?rq1
      case yq1 => (intro w hSw; (try dsimp only at hSw); go_simp <;> with_reducible rfl)
      simp only [Act.put, List.setIfInBounds_toArray, List.set_cons_zero, List.set_cons_succ]
      refine wpAnyH_take (i := 3) (oi := { dst := some 20, op := Op.move (Operand.tmp 1), type := 27, pos := "law.go:19", after := #[], guard := none }) (v := ?vq2) rfl (by as_aux_lemma => kernel_rfl) (by as_aux_lemma => kernel_rfl) (by as_aux_lemma => kernel_rfl) (fun _ _ _ h => h) (Or.inl ⟨by rfl, ?yq2⟩) (by assumption) ?rq2
      case yq2 => (intro w hSw; (try dsimp only at hSw); go_simp <;> with_reducible rfl)
      simp only [Act.put, List.setIfInBounds_toArray, List.set_cons_zero, List.set_cons_succ]
      refine wpAnyH_take (i := 4) (oi := { dst := some 21, op := Op.load 25 (Operand.tmp 2), type := 25, pos := "law.go:19", after := #[], guard := none }) (v := ?vq3) rfl (by as_aux_lemma => kernel_rfl) (by as_aux_lemma => kernel_rfl) (by as_aux_lemma => kernel_rfl) (fun _ _ _ h => h) (Or.inl ⟨by rfl, ?yq3⟩) (by assumption) ?rq3
      case yq3 => (intro w hSw; (try dsimp only at hSw); go_simp <;> with_reducible rfl)
      simp only [Act.put, List.setIfInBounds_toArray, List.set_cons_zero, List.set_cons_succ]
      refine wpAnyH_ready (rs := [2, 6, 7]) (by as_aux_lemma => kernel_rfl) (by simp) ?_
      refine AllReadyH.cons (o := { dst := some 19, op := Op.call { callee := Callee.value (Operand.func 10), args := #[Operand.tmp 17, Operand.tmp 18], argTypes := #[27, 25] }, type := 36, pos := "law.go:19", after := #[{ on := 0, ground := Ground.data }, { on := 1, ground := Ground.data }], guard := none }) rfl (fun K hK => ?_) ?_
      · rw [if_pos (by rfl)]
        go_simp
        (go_at_call 10; refine (HGt.out _ hB0).mono ?_; rintro e z4 ⟨rfl, hzz4⟩)
        have hBz4 := hB0.trans (hzz4.mono hB0.size)
        refine hK.out _ _ (by (try dsimp only); exact hBz4) (fun hHeld => ?_)
        clear hK K
        simp only [List.setIfInBounds_toArray, List.set_cons_zero, List.set_cons_succ]
        refine wpAnyH_ready (rs := [5, 6, 7]) (by as_aux_lemma => kernel_rfl) (by simp) ?_
        refine AllReadyH.cons (o := { dst := some 22, op := Op.call { callee := Callee.value (Operand.func 12), args := #[Operand.tmp 20, Operand.tmp 21], argTypes := #[27, 25] }, type := 36, pos := "law.go:19", after := #[{ on := 3, ground := Ground.data }, { on := 4, ground := Ground.data }, { on := 2, ground := Ground.chain }], guard := none }) rfl (fun K hK => ?_) ?_
        · rw [if_pos (by rfl)]
          go_simp
          (go_at_call 12; refine (HWt.out _ hBz4).mono ?_; rintro e z5 ⟨rfl, hzz5⟩)
          have hBz5 := hBz4.trans (hzz5.mono hBz4.size)
          refine hK.out _ _ (by (try dsimp only); exact hBz5) (fun hHeld => ?_)
          clear hK K
          simp only [List.setIfInBounds_toArray, List.set_cons_zero, List.set_cons_succ]
          refine wpAnyH_ready (rs := [6, 7]) (by as_aux_lemma => kernel_rfl) (by simp) ?_
          refine AllReadyH.cons (o := { dst := some 5, op := Op.alloc 36, type := 0, pos := "law.go:19", after := #[], guard := none }) rfl (fun K hK => ?_) ?_
          · rw [if_pos (by rfl)]
            go_simp
            obtain ⟨y6, hy6⟩ : ∃ y, (z5).alloc (.cells #[.int .u64 0, .int .u64 0, .int .u64 0, .int .u64 0, .int .u64 0] 36) = y := ⟨_, rfl⟩
            have hby6 : Blk y6 (z5).heap.size 36 #[.int .u64 0, .int .u64 0, .int .u64 0, .int .u64 0, .int .u64 0] := by rw [← hy6]; exact Blk.new _ _ _
            have hzy6 : Below (z5).heap.size (z5) y6 := by rw [← hy6]; exact balloc (Below.refl _ _) _
            obtain ⟨gy6, hgy6⟩ : ∃ g, (z5).heap.size = g := ⟨_, rfl⟩
            have hloy6 := hBz5.size
            rw [hgy6] at hloy6
            rw [hy6]
            rw [hgy6] at hby6 ⊢
            have hBy6 := hBz5.trans (hzy6.mono hBz5.size)
            refine hK.out _ _ (by (try dsimp only); exact hBy6) (fun hHeld => ?_)
            clear hK K
            simp only [List.setIfInBounds_toArray, List.set_cons_zero, List.set_cons_succ]
            refine wpAnyH_ready (rs := [7]) (by as_aux_lemma => kernel_rfl) (by simp) ?_
            refine AllReadyH.cons (o := { dst := some 6, op := Op.alloc 36, type := 0, pos := "law.go:19", after := #[], guard := none }) rfl (fun K hK => ?_) (by exact AllReadyH.nil)
            rw [if_pos (by rfl)]
            go_simp
            obtain ⟨y7, hy7⟩ : ∃ y, (y6).alloc (.cells #[.int .u64 0, .int .u64 0, .int .u64 0, .int .u64 0, .int .u64 0] 36) = y := ⟨_, rfl⟩
            have hby7 : Blk y7 (y6).heap.size 36 #[.int .u64 0, .int .u64 0, .int .u64 0, .int .u64 0, .int .u64 0] := by rw [← hy7]; exact Blk.new _ _ _
            have hzy7 : Below (y6).heap.size (y6) y7 := by rw [← hy7]; exact balloc (Below.refl _ _) _
            obtain ⟨gy7, hgy7⟩ : ∃ g, (y6).heap.size = g := ⟨_, rfl⟩
            have hloy7 := hBy6.size
            rw [hgy7] at hloy7
            rw [hy7]
            rw [hgy7] at hby7 ⊢
            have hBy7 := hBy6.trans (hzy7.mono hBy6.size)
            have hgy6_y7 := hby6.keep hzy7
            have hlt_gy6_y7 : gy6 < gy7 := by have := hby6.lt; omega
            refine hK.out _ _ (by (try dsimp only); exact hBy7) (fun hHeld => ?_)
            clear hK K
            simp only [List.setIfInBounds_toArray, List.set_cons_zero, List.set_cons_succ]
            exact key gy6 gy7 y7 ⟨hgy6_y7, hby7, by omega, by omega, by omega, hBy7⟩
          refine AllReadyH.cons (o := { dst := some 6, op := Op.alloc 36, type := 0, pos := "law.go:19", after := #[], guard := none }) rfl (fun K hK => ?_) (by exact AllReadyH.nil)
          rw [if_pos (by rfl)]
          go_simp
          obtain ⟨y8, hy8⟩ : ∃ y, (z5).alloc (.cells #[.int .u64 0, .int .u64 0, .int .u64 0, .int .u64 0, .int .u64 0] 36) = y := ⟨_, rfl⟩
          have hby8 : Blk y8 (z5).heap.size 36 #[.int .u64 0, .int .u64 0, .int .u64 0, .int .u64 0, .int .u64 0] := by rw [← hy8]; exact Blk.new _ _ _
          have hzy8 : Below (z5).heap.size (z5) y8 := by rw [← hy8]; exact balloc (Below.refl _ _) _
          obtain ⟨gy8, hgy8⟩ : ∃ g, (z5).heap.size = g := ⟨_, rfl⟩
          have hloy8 := hBz5.size
          rw [hgy8] at hloy8
          rw [hy8]
          rw [hgy8] at hby8 ⊢
          have hBy8 := hBz5.trans (hzy8.mono hBz5.size)
          refine hK.out _ _ (by (try dsimp only); exact hBy8) (fun hHeld => ?_)
          clear hK K
          simp only [List.setIfInBounds_toArray, List.set_cons_zero, List.set_cons_succ]
          refine wpAnyH_ready (rs := [6]) (by as_aux_lemma => kernel_rfl) (by simp) ?_
          refine AllReadyH.cons (o := { dst := some 5, op := Op.alloc 36, type := 0, pos := "law.go:19", after := #[], guard := none }) rfl (fun K hK => ?_) (by exact AllReadyH.nil)
          rw [if_pos (by rfl)]
          go_simp
          obtain ⟨y9, hy9⟩ : ∃ y, (y8).alloc (.cells #[.int .u64 0, .int .u64 0, .int .u64 0, .int .u64 0, .int .u64 0] 36) = y := ⟨_, rfl⟩
          have hby9 : Blk y9 (y8).heap.size 36 #[.int .u64 0, .int .u64 0, .int .u64 0, .int .u64 0, .int .u64 0] := by rw [← hy9]; exact Blk.new _ _ _
          have hzy9 : Below (y8).heap.size (y8) y9 := by rw [← hy9]; exact balloc (Below.refl _ _) _
          obtain ⟨gy9, hgy9⟩ : ∃ g, (y8).heap.size = g := ⟨_, rfl⟩
          have hloy9 := hBy8.size
          rw [hgy9] at hloy9
          rw [hy9]
          rw [hgy9] at hby9 ⊢
          have hBy9 := hBy8.trans (hzy9.mono hBy8.size)
          have hgy8_y9 := hby8.keep hzy9
          have hlt_gy8_y9 : gy8 < gy9 := by have := hby8.lt; omega
          refine hK.out _ _ (by (try dsimp only); exact hBy9) (fun hHeld => ?_)
          clear hK K
          simp only [List.setIfInBounds_toArray, List.set_cons_zero, List.set_cons_succ]
          exact key gy9 gy8 y9 ⟨hby9, hgy8_y9, by omega, by omega, by omega, hBy9⟩
        refine AllReadyH.cons (o := { dst := some 5, op := Op.alloc 36, type := 0, pos := "law.go:19", after := #[], guard := none }) rfl (fun K hK => ?_) ?_
        · rw [if_pos (by rfl)]
          go_simp
          obtain ⟨y10, hy10⟩ : ∃ y, (z4).alloc (.cells #[.int .u64 0, .int .u64 0, .int .u64 0, .int .u64 0, .int .u64 0] 36) = y := ⟨_, rfl⟩
          have hby10 : Blk y10 (z4).heap.size 36 #[.int .u64 0, .int .u64 0, .int .u64 0, .int .u64 0, .int .u64 0] := by rw [← hy10]; exact Blk.new _ _ _
          have hzy10 : Below (z4).heap.size (z4) y10 := by rw [← hy10]; exact balloc (Below.refl _ _) _
          obtain ⟨gy10, hgy10⟩ : ∃ g, (z4).heap.size = g := ⟨_, rfl⟩
          have hloy10 := hBz4.size
          rw [hgy10] at hloy10
          rw [hy10]
          rw [hgy10] at hby10 ⊢
          have hBy10 := hBz4.trans (hzy10.mono hBz4.size)
          refine hK.out _ _ (by (try dsimp only); exact hBy10) (fun hHeld => ?_)
          clear hK K
          simp only [List.setIfInBounds_toArray, List.set_cons_zero, List.set_cons_succ]
          refine wpAnyH_ready (rs := [5, 7]) (by as_aux_lemma => kernel_rfl) (by simp) ?_
          refine AllReadyH.cons (o := { dst := some 22, op := Op.call { callee := Callee.value (Operand.func 12), args := #[Operand.tmp 20, Operand.tmp 21], argTypes := #[27, 25] }, type := 36, pos := "law.go:19", after := #[{ on := 3, ground := Ground.data }, { on := 4, ground := Ground.data }, { on := 2, ground := Ground.chain }], guard := none }) rfl (fun K hK => ?_) ?_
          · rw [if_pos (by rfl)]
            go_simp
            (go_at_call 12; refine (HWt.out _ hBy10).mono ?_; rintro e z11 ⟨rfl, hzz11⟩)
            have hBz11 := hBy10.trans (hzz11.mono hBy10.size)
            have hgy10_z11 := hby10.keep hzz11
            refine hK.out _ _ (by (try dsimp only); exact hBz11) (fun hHeld => ?_)
            clear hK K
            simp only [List.setIfInBounds_toArray, List.set_cons_zero, List.set_cons_succ]
            refine wpAnyH_ready (rs := [7]) (by as_aux_lemma => kernel_rfl) (by simp) ?_
            refine AllReadyH.cons (o := { dst := some 6, op := Op.alloc 36, type := 0, pos := "law.go:19", after := #[], guard := none }) rfl (fun K hK => ?_) (by exact AllReadyH.nil)
            rw [if_pos (by rfl)]
            go_simp
            obtain ⟨y12, hy12⟩ : ∃ y, (z11).alloc (.cells #[.int .u64 0, .int .u64 0, .int .u64 0, .int .u64 0, .int .u64 0] 36) = y := ⟨_, rfl⟩
            have hby12 : Blk y12 (z11).heap.size 36 #[.int .u64 0, .int .u64 0, .int .u64 0, .int .u64 0, .int .u64 0] := by rw [← hy12]; exact Blk.new _ _ _
            have hzy12 : Below (z11).heap.size (z11) y12 := by rw [← hy12]; exact balloc (Below.refl _ _) _
            obtain ⟨gy12, hgy12⟩ : ∃ g, (z11).heap.size = g := ⟨_, rfl⟩
            have hloy12 := hBz11.size
            rw [hgy12] at hloy12
            rw [hy12]
            rw [hgy12] at hby12 ⊢
            have hBy12 := hBz11.trans (hzy12.mono hBz11.size)
            have hgy10_y12 := hgy10_z11.keep hzy12
            have hlt_gy10_y12 : gy10 < gy12 := by have := hgy10_z11.lt; omega
            refine hK.out _ _ (by (try dsimp only); exact hBy12) (fun hHeld => ?_)
            clear hK K
            simp only [List.setIfInBounds_toArray, List.set_cons_zero, List.set_cons_succ]
            exact key gy10 gy12 y12 ⟨hgy10_y12, hby12, by omega, by omega, by omega, hBy12⟩
          refine AllReadyH.cons (o := { dst := some 6, op := Op.alloc 36, type := 0, pos := "law.go:19", after := #[], guard := none }) rfl (fun K hK => ?_) (by exact AllReadyH.nil)
          rw [if_pos (by rfl)]
          go_simp
          obtain ⟨y13, hy13⟩ : ∃ y, (y10).alloc (.cells #[.int .u64 0, .int .u64 0, .int .u64 0, .int .u64 0, .int .u64 0] 36) = y := ⟨_, rfl⟩
          have hby13 : Blk y13 (y10).heap.size 36 #[.int .u64 0, .int .u64 0, .int .u64 0, .int .u64 0, .int .u64 0] := by rw [← hy13]; exact Blk.new _ _ _
          have hzy13 : Below (y10).heap.size (y10) y13 := by rw [← hy13]; exact balloc (Below.refl _ _) _
          obtain ⟨gy13, hgy13⟩ : ∃ g, (y10).heap.size = g := ⟨_, rfl⟩
          have hloy13 := hBy10.size
          rw [hgy13] at hloy13
          rw [hy13]
          rw [hgy13] at hby13 ⊢
          have hBy13 := hBy10.trans (hzy13.mono hBy10.size)
          have hgy10_y13 := hby10.keep hzy13
          have hlt_gy10_y13 : gy10 < gy13 := by have := hby10.lt; omega
          refine hK.out _ _ (by (try dsimp only); exact hBy13) (fun hHeld => ?_)
          clear hK K
          simp only [List.setIfInBounds_toArray, List.set_cons_zero, List.set_cons_succ]
          refine wpAnyH_ready (rs := [5]) (by as_aux_lemma => kernel_rfl) (by simp) ?_
          refine AllReadyH.cons (o := { dst := some 22, op := Op.call { callee := Callee.value (Operand.func 12), args := #[Operand.tmp 20, Operand.tmp 21], argTypes := #[27, 25] }, type := 36, pos := "law.go:19", after := #[{ on := 3, ground := Ground.data }, { on := 4, ground := Ground.data }, { on := 2, ground := Ground.chain }], guard := none }) rfl (fun K hK => ?_) (by exact AllReadyH.nil)
          rw [if_pos (by rfl)]
          go_simp
          (go_at_call 12; refine (HWt.out _ hBy13).mono ?_; rintro e z14 ⟨rfl, hzz14⟩)
          have hBz14 := hBy13.trans (hzz14.mono hBy13.size)
          have hgy10_z14 := hgy10_y13.keep hzz14
          have hgy13_z14 := hby13.keep hzz14
          refine hK.out _ _ (by (try dsimp only); exact hBz14) (fun hHeld => ?_)
          clear hK K
          simp only [List.setIfInBounds_toArray, List.set_cons_zero, List.set_cons_succ]
          exact key gy10 gy13 z14 ⟨hgy10_z14, hgy13_z14, by omega, by omega, by omega, hBz14⟩
        refine AllReadyH.cons (o := { dst := some 6, op := Op.alloc 36, type := 0, pos := "law.go:19", after := #[], guard := none }) rfl (fun K hK => ?_) (by exact AllReadyH.nil)
        rw [if_pos (by rfl)]
        go_simp
        obtain ⟨y15, hy15⟩ : ∃ y, (z4).alloc (.cells #[.int .u64 0, .int .u64 0, .int .u64 0, .int .u64 0, .int .u64 0] 36) = y := ⟨_, rfl⟩
        have hby15 : Blk y15 (z4).heap.size 36 #[.int .u64 0, .int .u64 0, .int .u64 0, .int .u64 0, .int .u64 0] := by rw [← hy15]; exact Blk.new _ _ _
        have hzy15 : Below (z4).heap.size (z4) y15 := by rw [← hy15]; exact balloc (Below.refl _ _) _
        obtain ⟨gy15, hgy15⟩ : ∃ g, (z4).heap.size = g := ⟨_, rfl⟩
        have hloy15 := hBz4.size
        rw [hgy15] at hloy15
        rw [hy15]
        rw [hgy15] at hby15 ⊢
        have hBy15 := hBz4.trans (hzy15.mono hBz4.size)
        refine hK.out _ _ (by (try dsimp only); exact hBy15) (fun hHeld => ?_)
        clear hK K
        simp only [List.setIfInBounds_toArray, List.set_cons_zero, List.set_cons_succ]
        refine wpAnyH_ready (rs := [5, 6]) (by as_aux_lemma => kernel_rfl) (by simp) ?_
        refine AllReadyH.cons (o := { dst := some 22, op := Op.call { callee := Callee.value (Operand.func 12), args := #[Operand.tmp 20, Operand.tmp 21], argTypes := #[27, 25] }, type := 36, pos := "law.go:19", after := #[{ on := 3, ground := Ground.data }, { on := 4, ground := Ground.data }, { on := 2, ground := Ground.chain }], guard := none }) rfl (fun K hK => ?_) ?_
        · rw [if_pos (by rfl)]
          go_simp
          (go_at_call 12; refine (HWt.out _ hBy15).mono ?_; rintro e z16 ⟨rfl, hzz16⟩)
          have hBz16 := hBy15.trans (hzz16.mono hBy15.size)
          have hgy15_z16 := hby15.keep hzz16
          refine hK.out _ _ (by (try dsimp only); exact hBz16) (fun hHeld => ?_)
          clear hK K
          simp only [List.setIfInBounds_toArray, List.set_cons_zero, List.set_cons_succ]
          refine wpAnyH_ready (rs := [6]) (by as_aux_lemma => kernel_rfl) (by simp) ?_
          refine AllReadyH.cons (o := { dst := some 5, op := Op.alloc 36, type := 0, pos := "law.go:19", after := #[], guard := none }) rfl (fun K hK => ?_) (by exact AllReadyH.nil)
          rw [if_pos (by rfl)]
          go_simp
          obtain ⟨y17, hy17⟩ : ∃ y, (z16).alloc (.cells #[.int .u64 0, .int .u64 0, .int .u64 0, .int .u64 0, .int .u64 0] 36) = y := ⟨_, rfl⟩
          have hby17 : Blk y17 (z16).heap.size 36 #[.int .u64 0, .int .u64 0, .int .u64 0, .int .u64 0, .int .u64 0] := by rw [← hy17]; exact Blk.new _ _ _
          have hzy17 : Below (z16).heap.size (z16) y17 := by rw [← hy17]; exact balloc (Below.refl _ _) _
          obtain ⟨gy17, hgy17⟩ : ∃ g, (z16).heap.size = g := ⟨_, rfl⟩
          have hloy17 := hBz16.size
          rw [hgy17] at hloy17
          rw [hy17]
          rw [hgy17] at hby17 ⊢
          have hBy17 := hBz16.trans (hzy17.mono hBz16.size)
          have hgy15_y17 := hgy15_z16.keep hzy17
          have hlt_gy15_y17 : gy15 < gy17 := by have := hgy15_z16.lt; omega
          refine hK.out _ _ (by (try dsimp only); exact hBy17) (fun hHeld => ?_)
          clear hK K
          simp only [List.setIfInBounds_toArray, List.set_cons_zero, List.set_cons_succ]
          exact key gy17 gy15 y17 ⟨hby17, hgy15_y17, by omega, by omega, by omega, hBy17⟩
        refine AllReadyH.cons (o := { dst := some 5, op := Op.alloc 36, type := 0, pos := "law.go:19", after := #[], guard := none }) rfl (fun K hK => ?_) (by exact AllReadyH.nil)
        rw [if_pos (by rfl)]
        go_simp
        obtain ⟨y18, hy18⟩ : ∃ y, (y15).alloc (.cells #[.int .u64 0, .int .u64 0, .int .u64 0, .int .u64 0, .int .u64 0] 36) = y := ⟨_, rfl⟩
        have hby18 : Blk y18 (y15).heap.size 36 #[.int .u64 0, .int .u64 0, .int .u64 0, .int .u64 0, .int .u64 0] := by rw [← hy18]; exact Blk.new _ _ _
        have hzy18 : Below (y15).heap.size (y15) y18 := by rw [← hy18]; exact balloc (Below.refl _ _) _
        obtain ⟨gy18, hgy18⟩ : ∃ g, (y15).heap.size = g := ⟨_, rfl⟩
        have hloy18 := hBy15.size
        rw [hgy18] at hloy18
        rw [hy18]
        rw [hgy18] at hby18 ⊢
        have hBy18 := hBy15.trans (hzy18.mono hBy15.size)
        have hgy15_y18 := hby15.keep hzy18
        have hlt_gy15_y18 : gy15 < gy18 := by have := hby15.lt; omega
        refine hK.out _ _ (by (try dsimp only); exact hBy18) (fun hHeld => ?_)
        clear hK K
        simp only [List.setIfInBounds_toArray, List.set_cons_zero, List.set_cons_succ]
        refine wpAnyH_ready (rs := [5]) (by as_aux_lemma => kernel_rfl) (by simp) ?_
        refine AllReadyH.cons (o := { dst := some 22, op := Op.call { callee := Callee.value (Operand.func 12), args := #[Operand.tmp 20, Operand.tmp 21], argTypes := #[27, 25] }, type := 36, pos := "law.go:19", after := #[{ on := 3, ground := Ground.data }, { on := 4, ground := Ground.data }, { on := 2, ground := Ground.chain }], guard := none }) rfl (fun K hK => ?_) (by exact AllReadyH.nil)
        rw [if_pos (by rfl)]
        go_simp
        (go_at_call 12; refine (HWt.out _ hBy18).mono ?_; rintro e z19 ⟨rfl, hzz19⟩)
        have hBz19 := hBy18.trans (hzz19.mono hBy18.size)
        have hgy15_z19 := hgy15_y18.keep hzz19
        have hgy18_z19 := hby18.keep hzz19
        refine hK.out _ _ (by (try dsimp only); exact hBz19) (fun hHeld => ?_)
        clear hK K
        simp only [List.setIfInBounds_toArray, List.set_cons_zero, List.set_cons_succ]
        exact key gy18 gy15 z19 ⟨hgy18_z19, hgy15_z19, by omega, by omega, by omega, hBz19⟩
      refine AllReadyH.cons (o := { dst := some 5, op := Op.alloc 36, type := 0, pos := "law.go:19", after := #[], guard := none }) rfl (fun K hK => ?_) ?_
      · rw [if_pos (by rfl)]
        go_simp
        obtain ⟨y20, hy20⟩ : ∃ y, (wd).alloc (.cells #[.int .u64 0, .int .u64 0, .int .u64 0, .int .u64 0, .int .u64 0] 36) = y := ⟨_, rfl⟩
        have hby20 : Blk y20 (wd).heap.size 36 #[.int .u64 0, .int .u64 0, .int .u64 0, .int .u64 0, .int .u64 0] := by rw [← hy20]; exact Blk.new _ _ _
        have hzy20 : Below (wd).heap.size (wd) y20 := by rw [← hy20]; exact balloc (Below.refl _ _) _
        obtain ⟨gy20, hgy20⟩ : ∃ g, (wd).heap.size = g := ⟨_, rfl⟩
        have hloy20 := hB0.size
        rw [hgy20] at hloy20
        rw [hy20]
        rw [hgy20] at hby20 ⊢
        have hBy20 := hB0.trans (hzy20.mono hB0.size)
        refine hK.out _ _ (by (try dsimp only); exact hBy20) (fun hHeld => ?_)
        clear hK K
        simp only [List.setIfInBounds_toArray, List.set_cons_zero, List.set_cons_succ]
        refine wpAnyH_ready (rs := [2, 7]) (by as_aux_lemma => kernel_rfl) (by simp) ?_
        refine AllReadyH.cons (o := { dst := some 19, op := Op.call { callee := Callee.value (Operand.func 10), args := #[Operand.tmp 17, Operand.tmp 18], argTypes := #[27, 25] }, type := 36, pos := "law.go:19", after := #[{ on := 0, ground := Ground.data }, { on := 1, ground := Ground.data }], guard := none }) rfl (fun K hK => ?_) ?_
        · rw [if_pos (by rfl)]
          go_simp
          (go_at_call 10; refine (HGt.out _ hBy20).mono ?_; rintro e z21 ⟨rfl, hzz21⟩)
          have hBz21 := hBy20.trans (hzz21.mono hBy20.size)
          have hgy20_z21 := hby20.keep hzz21
          refine hK.out _ _ (by (try dsimp only); exact hBz21) (fun hHeld => ?_)
          clear hK K
          simp only [List.setIfInBounds_toArray, List.set_cons_zero, List.set_cons_succ]
          refine wpAnyH_ready (rs := [5, 7]) (by as_aux_lemma => kernel_rfl) (by simp) ?_
          refine AllReadyH.cons (o := { dst := some 22, op := Op.call { callee := Callee.value (Operand.func 12), args := #[Operand.tmp 20, Operand.tmp 21], argTypes := #[27, 25] }, type := 36, pos := "law.go:19", after := #[{ on := 3, ground := Ground.data }, { on := 4, ground := Ground.data }, { on := 2, ground := Ground.chain }], guard := none }) rfl (fun K hK => ?_) ?_
          · rw [if_pos (by rfl)]
            go_simp
            (go_at_call 12; refine (HWt.out _ hBz21).mono ?_; rintro e z22 ⟨rfl, hzz22⟩)
            have hBz22 := hBz21.trans (hzz22.mono hBz21.size)
            have hgy20_z22 := hgy20_z21.keep hzz22
            refine hK.out _ _ (by (try dsimp only); exact hBz22) (fun hHeld => ?_)
            clear hK K
            simp only [List.setIfInBounds_toArray, List.set_cons_zero, List.set_cons_succ]
            refine wpAnyH_ready (rs := [7]) (by as_aux_lemma => kernel_rfl) (by simp) ?_
            refine AllReadyH.cons (o := { dst := some 6, op := Op.alloc 36, type := 0, pos := "law.go:19", after := #[], guard := none }) rfl (fun K hK => ?_) (by exact AllReadyH.nil)
            rw [if_pos (by rfl)]
            go_simp
            obtain ⟨y23, hy23⟩ : ∃ y, (z22).alloc (.cells #[.int .u64 0, .int .u64 0, .int .u64 0, .int .u64 0, .int .u64 0] 36) = y := ⟨_, rfl⟩
            have hby23 : Blk y23 (z22).heap.size 36 #[.int .u64 0, .int .u64 0, .int .u64 0, .int .u64 0, .int .u64 0] := by rw [← hy23]; exact Blk.new _ _ _
            have hzy23 : Below (z22).heap.size (z22) y23 := by rw [← hy23]; exact balloc (Below.refl _ _) _
            obtain ⟨gy23, hgy23⟩ : ∃ g, (z22).heap.size = g := ⟨_, rfl⟩
            have hloy23 := hBz22.size
            rw [hgy23] at hloy23
            rw [hy23]
            rw [hgy23] at hby23 ⊢
            have hBy23 := hBz22.trans (hzy23.mono hBz22.size)
            have hgy20_y23 := hgy20_z22.keep hzy23
            have hlt_gy20_y23 : gy20 < gy23 := by have := hgy20_z22.lt; omega
            refine hK.out _ _ (by (try dsimp only); exact hBy23) (fun hHeld => ?_)
            clear hK K
            simp only [List.setIfInBounds_toArray, List.set_cons_zero, List.set_cons_succ]
            exact key gy20 gy23 y23 ⟨hgy20_y23, hby23, by omega, by omega, by omega, hBy23⟩
          refine AllReadyH.cons (o := { dst := some 6, op := Op.alloc 36, type := 0, pos := "law.go:19", after := #[], guard := none }) rfl (fun K hK => ?_) (by exact AllReadyH.nil)
          rw [if_pos (by rfl)]
          go_simp
          obtain ⟨y24, hy24⟩ : ∃ y, (z21).alloc (.cells #[.int .u64 0, .int .u64 0, .int .u64 0, .int .u64 0, .int .u64 0] 36) = y := ⟨_, rfl⟩
          have hby24 : Blk y24 (z21).heap.size 36 #[.int .u64 0, .int .u64 0, .int .u64 0, .int .u64 0, .int .u64 0] := by rw [← hy24]; exact Blk.new _ _ _
          have hzy24 : Below (z21).heap.size (z21) y24 := by rw [← hy24]; exact balloc (Below.refl _ _) _
          obtain ⟨gy24, hgy24⟩ : ∃ g, (z21).heap.size = g := ⟨_, rfl⟩
          have hloy24 := hBz21.size
          rw [hgy24] at hloy24
          rw [hy24]
          rw [hgy24] at hby24 ⊢
          have hBy24 := hBz21.trans (hzy24.mono hBz21.size)
          have hgy20_y24 := hgy20_z21.keep hzy24
          have hlt_gy20_y24 : gy20 < gy24 := by have := hgy20_z21.lt; omega
          refine hK.out _ _ (by (try dsimp only); exact hBy24) (fun hHeld => ?_)
          clear hK K
          simp only [List.setIfInBounds_toArray, List.set_cons_zero, List.set_cons_succ]
          refine wpAnyH_ready (rs := [5]) (by as_aux_lemma => kernel_rfl) (by simp) ?_
          refine AllReadyH.cons (o := { dst := some 22, op := Op.call { callee := Callee.value (Operand.func 12), args := #[Operand.tmp 20, Operand.tmp 21], argTypes := #[27, 25] }, type := 36, pos := "law.go:19", after := #[{ on := 3, ground := Ground.data }, { on := 4, ground := Ground.data }, { on := 2, ground := Ground.chain }], guard := none }) rfl (fun K hK => ?_) (by exact AllReadyH.nil)
          rw [if_pos (by rfl)]
          go_simp
          (go_at_call 12; refine (HWt.out _ hBy24).mono ?_; rintro e z25 ⟨rfl, hzz25⟩)
          have hBz25 := hBy24.trans (hzz25.mono hBy24.size)
          have hgy20_z25 := hgy20_y24.keep hzz25
          have hgy24_z25 := hby24.keep hzz25
          refine hK.out _ _ (by (try dsimp only); exact hBz25) (fun hHeld => ?_)
          clear hK K
          simp only [List.setIfInBounds_toArray, List.set_cons_zero, List.set_cons_succ]
          exact key gy20 gy24 z25 ⟨hgy20_z25, hgy24_z25, by omega, by omega, by omega, hBz25⟩
        refine AllReadyH.cons (o := { dst := some 6, op := Op.alloc 36, type := 0, pos := "law.go:19", after := #[], guard := none }) rfl (fun K hK => ?_) (by exact AllReadyH.nil)
        rw [if_pos (by rfl)]
        go_simp
        obtain ⟨y26, hy26⟩ : ∃ y, (y20).alloc (.cells #[.int .u64 0, .int .u64 0, .int .u64 0, .int .u64 0, .int .u64 0] 36) = y := ⟨_, rfl⟩
        have hby26 : Blk y26 (y20).heap.size 36 #[.int .u64 0, .int .u64 0, .int .u64 0, .int .u64 0, .int .u64 0] := by rw [← hy26]; exact Blk.new _ _ _
        have hzy26 : Below (y20).heap.size (y20) y26 := by rw [← hy26]; exact balloc (Below.refl _ _) _
        obtain ⟨gy26, hgy26⟩ : ∃ g, (y20).heap.size = g := ⟨_, rfl⟩
        have hloy26 := hBy20.size
        rw [hgy26] at hloy26
        rw [hy26]
        rw [hgy26] at hby26 ⊢
        have hBy26 := hBy20.trans (hzy26.mono hBy20.size)
        have hgy20_y26 := hby20.keep hzy26
        have hlt_gy20_y26 : gy20 < gy26 := by have := hby20.lt; omega
        refine hK.out _ _ (by (try dsimp only); exact hBy26) (fun hHeld => ?_)
        clear hK K
        simp only [List.setIfInBounds_toArray, List.set_cons_zero, List.set_cons_succ]
        refine wpAnyH_ready (rs := [2]) (by as_aux_lemma => kernel_rfl) (by simp) ?_
        refine AllReadyH.cons (o := { dst := some 19, op := Op.call { callee := Callee.value (Operand.func 10), args := #[Operand.tmp 17, Operand.tmp 18], argTypes := #[27, 25] }, type := 36, pos := "law.go:19", after := #[{ on := 0, ground := Ground.data }, { on := 1, ground := Ground.data }], guard := none }) rfl (fun K hK => ?_) (by exact AllReadyH.nil)
        rw [if_pos (by rfl)]
        go_simp
        (go_at_call 10; refine (HGt.out _ hBy26).mono ?_; rintro e z27 ⟨rfl, hzz27⟩)
        have hBz27 := hBy26.trans (hzz27.mono hBy26.size)
        have hgy20_z27 := hgy20_y26.keep hzz27
        have hgy26_z27 := hby26.keep hzz27
        refine hK.out _ _ (by (try dsimp only); exact hBz27) (fun hHeld => ?_)
        clear hK K
        simp only [List.setIfInBounds_toArray, List.set_cons_zero, List.set_cons_succ]
        refine wpAnyH_ready (rs := [5]) (by as_aux_lemma => kernel_rfl) (by simp) ?_
        refine AllReadyH.cons (o := { dst := some 22, op := Op.call { callee := Callee.value (Operand.func 12), args := #[Operand.tmp 20, Operand.tmp 21], argTypes := #[27, 25] }, type := 36, pos := "law.go:19", after := #[{ on := 3, ground := Ground.data }, { on := 4, ground := Ground.data }, { on := 2, ground := Ground.chain }], guard := none }) rfl (fun K hK => ?_) (by exact AllReadyH.nil)
        rw [if_pos (by rfl)]
        go_simp
        (go_at_call 12; refine (HWt.out _ hBz27).mono ?_; rintro e z28 ⟨rfl, hzz28⟩)
        have hBz28 := hBz27.trans (hzz28.mono hBz27.size)
        have hgy20_z28 := hgy20_z27.keep hzz28
        have hgy26_z28 := hgy26_z27.keep hzz28
        refine hK.out _ _ (by (try dsimp only); exact hBz28) (fun hHeld => ?_)
        clear hK K
        simp only [List.setIfInBounds_toArray, List.set_cons_zero, List.set_cons_succ]
        exact key gy20 gy26 z28 ⟨hgy20_z28, hgy26_z28, by omega, by omega, by omega, hBz28⟩
      refine AllReadyH.cons (o := { dst := some 6, op := Op.alloc 36, type := 0, pos := "law.go:19", after := #[], guard := none }) rfl (fun K hK => ?_) (by exact AllReadyH.nil)
      rw [if_pos (by rfl)]
      go_simp
      obtain ⟨y29, hy29⟩ : ∃ y, (wd).alloc (.cells #[.int .u64 0, .int .u64 0, .int .u64 0, .int .u64 0, .int .u64 0] 36) = y := ⟨_, rfl⟩
      have hby29 : Blk y29 (wd).heap.size 36 #[.int .u64 0, .int .u64 0, .int .u64 0, .int .u64 0, .int .u64 0] := by rw [← hy29]; exact Blk.new _ _ _
      have hzy29 : Below (wd).heap.size (wd) y29 := by rw [← hy29]; exact balloc (Below.refl _ _) _
      obtain ⟨gy29, hgy29⟩ : ∃ g, (wd).heap.size = g := ⟨_, rfl⟩
      have hloy29 := hB0.size
      rw [hgy29] at hloy29
      rw [hy29]
      rw [hgy29] at hby29 ⊢
      have hBy29 := hB0.trans (hzy29.mono hB0.size)
      refine hK.out _ _ (by (try dsimp only); exact hBy29) (fun hHeld => ?_)
      clear hK K
      simp only [List.setIfInBounds_toArray, List.set_cons_zero, List.set_cons_succ]
      refine wpAnyH_ready (rs := [2, 6]) (by as_aux_lemma => kernel_rfl) (by simp) ?_
      refine AllReadyH.cons (o := { dst := some 19, op := Op.call { callee := Callee.value (Operand.func 10), args := #[Operand.tmp 17, Operand.tmp 18], argTypes := #[27, 25] }, type := 36, pos := "law.go:19", after := #[{ on := 0, ground := Ground.data }, { on := 1, ground := Ground.data }], guard := none }) rfl (fun K hK => ?_) ?_
      · rw [if_pos (by rfl)]
        go_simp
        (go_at_call 10; refine (HGt.out _ hBy29).mono ?_; rintro e z30 ⟨rfl, hzz30⟩)
        have hBz30 := hBy29.trans (hzz30.mono hBy29.size)
        have hgy29_z30 := hby29.keep hzz30
        refine hK.out _ _ (by (try dsimp only); exact hBz30) (fun hHeld => ?_)
        clear hK K
        simp only [List.setIfInBounds_toArray, List.set_cons_zero, List.set_cons_succ]
        refine wpAnyH_ready (rs := [5, 6]) (by as_aux_lemma => kernel_rfl) (by simp) ?_
        refine AllReadyH.cons (o := { dst := some 22, op := Op.call { callee := Callee.value (Operand.func 12), args := #[Operand.tmp 20, Operand.tmp 21], argTypes := #[27, 25] }, type := 36, pos := "law.go:19", after := #[{ on := 3, ground := Ground.data }, { on := 4, ground := Ground.data }, { on := 2, ground := Ground.chain }], guard := none }) rfl (fun K hK => ?_) ?_
        · rw [if_pos (by rfl)]
          go_simp
          (go_at_call 12; refine (HWt.out _ hBz30).mono ?_; rintro e z31 ⟨rfl, hzz31⟩)
          have hBz31 := hBz30.trans (hzz31.mono hBz30.size)
          have hgy29_z31 := hgy29_z30.keep hzz31
          refine hK.out _ _ (by (try dsimp only); exact hBz31) (fun hHeld => ?_)
          clear hK K
          simp only [List.setIfInBounds_toArray, List.set_cons_zero, List.set_cons_succ]
          refine wpAnyH_ready (rs := [6]) (by as_aux_lemma => kernel_rfl) (by simp) ?_
          refine AllReadyH.cons (o := { dst := some 5, op := Op.alloc 36, type := 0, pos := "law.go:19", after := #[], guard := none }) rfl (fun K hK => ?_) (by exact AllReadyH.nil)
          rw [if_pos (by rfl)]
          go_simp
          obtain ⟨y32, hy32⟩ : ∃ y, (z31).alloc (.cells #[.int .u64 0, .int .u64 0, .int .u64 0, .int .u64 0, .int .u64 0] 36) = y := ⟨_, rfl⟩
          have hby32 : Blk y32 (z31).heap.size 36 #[.int .u64 0, .int .u64 0, .int .u64 0, .int .u64 0, .int .u64 0] := by rw [← hy32]; exact Blk.new _ _ _
          have hzy32 : Below (z31).heap.size (z31) y32 := by rw [← hy32]; exact balloc (Below.refl _ _) _
          obtain ⟨gy32, hgy32⟩ : ∃ g, (z31).heap.size = g := ⟨_, rfl⟩
          have hloy32 := hBz31.size
          rw [hgy32] at hloy32
          rw [hy32]
          rw [hgy32] at hby32 ⊢
          have hBy32 := hBz31.trans (hzy32.mono hBz31.size)
          have hgy29_y32 := hgy29_z31.keep hzy32
          have hlt_gy29_y32 : gy29 < gy32 := by have := hgy29_z31.lt; omega
          refine hK.out _ _ (by (try dsimp only); exact hBy32) (fun hHeld => ?_)
          clear hK K
          simp only [List.setIfInBounds_toArray, List.set_cons_zero, List.set_cons_succ]
          exact key gy32 gy29 y32 ⟨hby32, hgy29_y32, by omega, by omega, by omega, hBy32⟩
        refine AllReadyH.cons (o := { dst := some 5, op := Op.alloc 36, type := 0, pos := "law.go:19", after := #[], guard := none }) rfl (fun K hK => ?_) (by exact AllReadyH.nil)
        rw [if_pos (by rfl)]
        go_simp
        obtain ⟨y33, hy33⟩ : ∃ y, (z30).alloc (.cells #[.int .u64 0, .int .u64 0, .int .u64 0, .int .u64 0, .int .u64 0] 36) = y := ⟨_, rfl⟩
        have hby33 : Blk y33 (z30).heap.size 36 #[.int .u64 0, .int .u64 0, .int .u64 0, .int .u64 0, .int .u64 0] := by rw [← hy33]; exact Blk.new _ _ _
        have hzy33 : Below (z30).heap.size (z30) y33 := by rw [← hy33]; exact balloc (Below.refl _ _) _
        obtain ⟨gy33, hgy33⟩ : ∃ g, (z30).heap.size = g := ⟨_, rfl⟩
        have hloy33 := hBz30.size
        rw [hgy33] at hloy33
        rw [hy33]
        rw [hgy33] at hby33 ⊢
        have hBy33 := hBz30.trans (hzy33.mono hBz30.size)
        have hgy29_y33 := hgy29_z30.keep hzy33
        have hlt_gy29_y33 : gy29 < gy33 := by have := hgy29_z30.lt; omega
        refine hK.out _ _ (by (try dsimp only); exact hBy33) (fun hHeld => ?_)
        clear hK K
        simp only [List.setIfInBounds_toArray, List.set_cons_zero, List.set_cons_succ]
        refine wpAnyH_ready (rs := [5]) (by as_aux_lemma => kernel_rfl) (by simp) ?_
        refine AllReadyH.cons (o := { dst := some 22, op := Op.call { callee := Callee.value (Operand.func 12), args := #[Operand.tmp 20, Operand.tmp 21], argTypes := #[27, 25] }, type := 36, pos := "law.go:19", after := #[{ on := 3, ground := Ground.data }, { on := 4, ground := Ground.data }, { on := 2, ground := Ground.chain }], guard := none }) rfl (fun K hK => ?_) (by exact AllReadyH.nil)
        rw [if_pos (by rfl)]
        go_simp
        (go_at_call 12; refine (HWt.out _ hBy33).mono ?_; rintro e z34 ⟨rfl, hzz34⟩)
        have hBz34 := hBy33.trans (hzz34.mono hBy33.size)
        have hgy29_z34 := hgy29_y33.keep hzz34
        have hgy33_z34 := hby33.keep hzz34
        refine hK.out _ _ (by (try dsimp only); exact hBz34) (fun hHeld => ?_)
        clear hK K
        simp only [List.setIfInBounds_toArray, List.set_cons_zero, List.set_cons_succ]
        exact key gy33 gy29 z34 ⟨hgy33_z34, hgy29_z34, by omega, by omega, by omega, hBz34⟩
      refine AllReadyH.cons (o := { dst := some 5, op := Op.alloc 36, type := 0, pos := "law.go:19", after := #[], guard := none }) rfl (fun K hK => ?_) (by exact AllReadyH.nil)
      rw [if_pos (by rfl)]
      go_simp
      obtain ⟨y35, hy35⟩ : ∃ y, (y29).alloc (.cells #[.int .u64 0, .int .u64 0, .int .u64 0, .int .u64 0, .int .u64 0] 36) = y := ⟨_, rfl⟩
      have hby35 : Blk y35 (y29).heap.size 36 #[.int .u64 0, .int .u64 0, .int .u64 0, .int .u64 0, .int .u64 0] := by rw [← hy35]; exact Blk.new _ _ _
      have hzy35 : Below (y29).heap.size (y29) y35 := by rw [← hy35]; exact balloc (Below.refl _ _) _
      obtain ⟨gy35, hgy35⟩ : ∃ g, (y29).heap.size = g := ⟨_, rfl⟩
      have hloy35 := hBy29.size
      rw [hgy35] at hloy35
      rw [hy35]
      rw [hgy35] at hby35 ⊢
      have hBy35 := hBy29.trans (hzy35.mono hBy29.size)
      have hgy29_y35 := hby29.keep hzy35
      have hlt_gy29_y35 : gy29 < gy35 := by have := hby29.lt; omega
      refine hK.out _ _ (by (try dsimp only); exact hBy35) (fun hHeld => ?_)
      clear hK K
      simp only [List.setIfInBounds_toArray, List.set_cons_zero, List.set_cons_succ]
      refine wpAnyH_ready (rs := [2]) (by as_aux_lemma => kernel_rfl) (by simp) ?_
      refine AllReadyH.cons (o := { dst := some 19, op := Op.call { callee := Callee.value (Operand.func 10), args := #[Operand.tmp 17, Operand.tmp 18], argTypes := #[27, 25] }, type := 36, pos := "law.go:19", after := #[{ on := 0, ground := Ground.data }, { on := 1, ground := Ground.data }], guard := none }) rfl (fun K hK => ?_) (by exact AllReadyH.nil)
      rw [if_pos (by rfl)]
      go_simp
      (go_at_call 10; refine (HGt.out _ hBy35).mono ?_; rintro e z36 ⟨rfl, hzz36⟩)
      have hBz36 := hBy35.trans (hzz36.mono hBy35.size)
      have hgy29_z36 := hgy29_y35.keep hzz36
      have hgy35_z36 := hby35.keep hzz36
      refine hK.out _ _ (by (try dsimp only); exact hBz36) (fun hHeld => ?_)
      clear hK K
      simp only [List.setIfInBounds_toArray, List.set_cons_zero, List.set_cons_succ]
      refine wpAnyH_ready (rs := [5]) (by as_aux_lemma => kernel_rfl) (by simp) ?_
      refine AllReadyH.cons (o := { dst := some 22, op := Op.call { callee := Callee.value (Operand.func 12), args := #[Operand.tmp 20, Operand.tmp 21], argTypes := #[27, 25] }, type := 36, pos := "law.go:19", after := #[{ on := 3, ground := Ground.data }, { on := 4, ground := Ground.data }, { on := 2, ground := Ground.chain }], guard := none }) rfl (fun K hK => ?_) (by exact AllReadyH.nil)
      rw [if_pos (by rfl)]
      go_simp
      (go_at_call 12; refine (HWt.out _ hBz36).mono ?_; rintro e z37 ⟨rfl, hzz37⟩)
      have hBz37 := hBz36.trans (hzz37.mono hBz36.size)
      have hgy29_z37 := hgy29_z36.keep hzz37
      have hgy35_z37 := hgy35_z36.keep hzz37
      refine hK.out _ _ (by (try dsimp only); exact hBz37) (fun hHeld => ?_)
      clear hK K
      simp only [List.setIfInBounds_toArray, List.set_cons_zero, List.set_cons_succ]
      exact key gy35 gy29 z37 ⟨hgy35_z37, hgy29_z37, by omega, by omega, by omega, hBz37⟩
    case rest4 =>
      rintro p q Z ⟨hp, hq, hne, hpl, hql, hB⟩
      refine wpAnyH_ready (rs := [8]) (by as_aux_lemma => kernel_rfl) (by simp) ?_
      refine AllReadyH.cons (o := { dst := none, op := Op.store 36 (Operand.tmp 5) (Operand.tmp 19), type := 0, pos := "law.go:19", after := #[{ on := 6, ground := Ground.data }, { on := 2, ground := Ground.data }, { on := 5, ground := Ground.chain }, { on := 0, ground := Ground.phase }, { on := 1, ground := Ground.phase }, { on := 2, ground := Ground.phase }, { on := 3, ground := Ground.textOnly Departure.lateStores }, { on := 4, ground := Ground.textOnly Departure.lateStores }, { on := 5, ground := Ground.textOnly Departure.lateStoresUnsure }, { on := 6, ground := Ground.phase }, { on := 7, ground := Ground.phase }], guard := none }) rfl (fun K hK => ?_) (by exact AllReadyH.nil)
      rw [if_pos (by rfl)]
      refine wp_store_row 36 (.tmp 5) (.tmp 19) rfl p (vA 5 1) rfl rfl 36 #[.int .u64 0, .int .u64 0, .int .u64 0, .int .u64 0, .int .u64 0] hp (by rw [info_val]; rfl) rfl (vA_one _ _) ?_
      have hp1 : Blk (Z.setRow p (vA 5 1)) p 36 (vA 5 1) := setRow_heap _ _ _ _ _ _ hp
      have hq1 : Blk (Z.setRow p (vA 5 1)) q 36 #[.int .u64 0, .int .u64 0, .int .u64 0, .int .u64 0, .int .u64 0] := (setRow_other _ _ _ _ (Ne.symm hne)).trans hq
      have hz1 : Below w5.heap.size w5 (Z.setRow p (vA 5 1)) := below_setRow hB hpl _
      obtain ⟨Z1, hZ1⟩ : ∃ Z1, Z.setRow p (vA 5 1) = Z1 := ⟨_, rfl⟩
      rw [hZ1] at hp1 hq1 hz1 ⊢
      clear hZ1
      refine hK.out _ _ (by (try dsimp only); exact hz1) (fun hHeld => ?_)
      clear hK K
      simp only [Act.put, List.setIfInBounds_toArray, List.set_cons_zero, List.set_cons_succ]
      refine wpAnyH_ready (rs := [9]) (by as_aux_lemma => kernel_rfl) (by simp) ?_
      refine AllReadyH.cons (o := { dst := none, op := Op.store 36 (Operand.tmp 6) (Operand.tmp 22), type := 0, pos := "law.go:19", after := #[{ on := 7, ground := Ground.data }, { on := 5, ground := Ground.data }, { on := 8, ground := Ground.chain }, { on := 0, ground := Ground.phase }, { on := 1, ground := Ground.phase }, { on := 2, ground := Ground.phase }, { on := 3, ground := Ground.phase }, { on := 4, ground := Ground.phase }, { on := 5, ground := Ground.phase }, { on := 6, ground := Ground.phase }, { on := 7, ground := Ground.phase }, { on := 8, ground := Ground.phase }], guard := none }) rfl (fun K hK => ?_) (by exact AllReadyH.nil)
      rw [if_pos (by rfl)]
      refine wp_store_row 36 (.tmp 6) (.tmp 22) rfl q (vA 0 0) rfl rfl 36 #[.int .u64 0, .int .u64 0, .int .u64 0, .int .u64 0, .int .u64 0] hq1 (by rw [info_val]; rfl) rfl (vA_one _ _) ?_
      have hq2 : Blk (Z1.setRow q (vA 0 0)) q 36 (vA 0 0) := setRow_heap _ _ _ _ _ _ hq1
      have hp2 : Blk (Z1.setRow q (vA 0 0)) p 36 (vA 5 1) := (setRow_other _ _ _ _ hne).trans hp1
      have hz2 : Below w5.heap.size w5 (Z1.setRow q (vA 0 0)) := below_setRow hz1 hql _
      obtain ⟨Z2, hZ2⟩ : ∃ Z2, Z1.setRow q (vA 0 0) = Z2 := ⟨_, rfl⟩
      rw [hZ2] at hp2 hq2 hz2 ⊢
      clear hZ2
      refine hK.out _ _ (by (try dsimp only); exact hz2) (fun hHeld => ?_)
      clear hK K
      simp only [Act.put, List.setIfInBounds_toArray, List.set_cons_zero, List.set_cons_succ]
      refine wpAnyH_done (by as_aux_lemma => kernel_rfl) ?_ _
      clear hHeld
      go_wp2_with fail
      go_meet
      exact ⟨p, q, rfl, rfl, hp2, hq2, hpl, hql, hz2⟩
  case rest =>
    obtain ⟨gp, gq, rfl, rfl, hp, hq, hpl, hql, hB⟩ := hcut
    obtain ⟨n2', n3', hbw5, i1, i2, i3, i4⟩ := H6.out
    have ks := H5.out.1.keep hB
    have j1 := ks.1.lt
    have j5 := H5.out.1.1.lt
    have HSe := Lib.hid (by have h := settle_any g bv bw 1 _ _ wc ks; rwa [fv1_ovr] at h : Calls Try.prog 17 #[.pointer (some ⟨g, 0, none⟩)] wc fun e w' => ∃ bv' bw', e = .returned (.int .i64 0) ∧ SlB w' g bv' bw' (fun _ => none) (upd (fun _ => none) 7 (some (5, 1))) 1 ∧ wc.heap.size ≤ bv' ∧ (bw' = bw ∨ wc.heap.size ≤ bw') ∧ Chg (fun k => k = g) wc w')
    have H7 := Lib.hid (And.intro (n2'.keep hB) (And.intro (n3'.keep hB) (And.intro (bstep hbw5 hB) (And.intro hp (And.intro hq (And.intro hpl (And.intro hql (And.intro i1 (And.intro i4 (And.intro j5 ks))))))))))
    clear n2' n3' hbw5 i1 i2 i3 i4 ks hp hq hpl hql hB b0 b1 b2 b3 HGt HWt H6 j1 j5
    go_upto_region 6 with (first
      | (go_at_call 17; refine (HSe.out).mono ?_; rintro e w7 ⟨bv2, bw2, rfl, hs, hb1, hb2, hc⟩; have H8 := Lib.hid (And.intro hs (And.intro hb1 (And.intro hb2 hc))); clear hs hb1 hb2 hc)
      | (go_at_call 15; refine (snum_any _ _).mono ?_; rintro e w6 ⟨rfl, rfl⟩)
      | fail)
    obtain ⟨n2, n3, hbw, hp, hq, hpl, hql, i1, i4, j5, ks⟩ := H7.out
    obtain ⟨s8, hb1, hb2, hc⟩ := H8.out
    have gv := blk_ne_map s8.1 s8.2.1
    have m2 := n2.chg hc (by omega)
    have m3 := n3.chg hc (by omega)
    have mp := hp.chg hc (by omega)
    have mq := hq.chg hc (by omega)
    have hbw7 : Below w.heap.size w w7 := hbw.trans (hc.below hbw.size (fun k hk e => by have h2 := H1.out.2.1; omega))
    have HWs := Lib.hid (by have h := was_any g bv2 bw2 1 _ _ 7 h7 w7 s8; rwa [fw2_was] at h : Calls Try.prog 12 #[.pointer (some ⟨g, 0, none⟩), W 7] w7 fun e w' => e = .returned (vP (5, 1)) ∧ Below w7.heap.size w7 w')
    have H9 := Lib.hid (And.intro m2 (And.intro m3 (And.intro mp (And.intro mq (And.intro hbw7 (And.intro s8 (And.intro hp.lt (And.intro hq.lt (And.intro i4 (And.intro i1 (And.intro hpl (And.intro hql (And.intro j5 (And.intro hb1 (And.intro n2.lt n3.lt)))))))))))))))
    have q20 := cell_of_row _ _ 0 _ _ _ m2
    have q21 := cell_of_row _ _ 1 _ _ _ m2
    have q22 := cell_of_row _ _ 2 _ _ _ m2
    have q23 := cell_of_row _ _ 3 _ _ _ m2
    clear n2 n3 hbw hp hq hpl hql i1 i4 j5 ks s8 hb1 hb2 hc gv m2 m3 mp mq hbw7 HSe
    go_upto_region 7 with (first
      | (go_at_call 12; refine (HWs.out).mono ?_; rintro e w9 ⟨rfl, hw9⟩; have H10 := Lib.hid hw9; clear hw9)
      | fail)
    clear q20 q21 q22 q23
    obtain ⟨W9, hW9⟩ : ∃ W9, w9.alloc (.cells #[.int .u64 (lb 5 0), .int .u64 (lb 5 1), .int .u64 (lb 5 2), .int .u64 (lb 5 3), .int .u64 1] 36) = W9 := ⟨_, rfl⟩
    have nd : Blk W9 w9.heap.size 36 #[.int .u64 (lb 5 0), .int .u64 (lb 5 1), .int .u64 (lb 5 2), .int .u64 (lb 5 3), .int .u64 1] := by rw [← hW9]; exact Blk.new _ _ _
    have hb9 : Below w9.heap.size w9 W9 := by rw [← hW9]; exact balloc (Below.refl _ _) _
    rw [hW9]
    clear hW9
    have hbb := bstep H10.out hb9
    obtain ⟨m2, m3, mp, mq, hbw7, s8, lp, lq, i4, i1, hpl, hql, j5, hb1, l2, l3⟩ := H9.out
    have s9 := s8.keep hbb
    have lv := s8.2.1.lt
    have lz := H10.out.size
    obtain ⟨gd, hgd⟩ : ∃ g, w9.heap.size = g := ⟨_, rfl⟩
    rw [hgd] at nd lz ⊢
    have HP2 := Lib.hid (sput_any g bv2 bw2 1 _ _ 7 h7 (0, 0) okP0 (by omega) (by decide) W9 s9)
    rw [fv2_many, vP0] at HP2
    have n2 := m2.keep hbb
    have n3 := m3.keep hbb
    have np := mp.keep hbb
    have nq := mq.keep hbb
    have hbw9 := bstep hbw7 hbb
    have H11 := Lib.hid (And.intro n2 (And.intro n3 (And.intro np (And.intro nq (And.intro nd (And.intro hbw9 (And.intro s9 (And.intro lp (And.intro lq (And.intro i4 (And.intro i1 (And.intro hpl (And.intro hql (And.intro j5 (And.intro hb1 (And.intro l2 (And.intro l3 (And.intro lv lz))))))))))))))))))
    have q20 := cell_of_row _ _ 0 _ _ _ n2
    have q21 := cell_of_row _ _ 1 _ _ _ n2
    have q22 := cell_of_row _ _ 2 _ _ _ n2
    have q23 := cell_of_row _ _ 3 _ _ _ n2
    clear nd hb9 hbb m2 m3 mp mq hbw7 s8 lp lq i4 i1 hpl hql j5 hb1 l2 l3 s9 lv lz n2 n3 np nq hbw9 hgd HWs H9 H10
    go_upto_region 8 with (first
      | (go_at_call 16; refine (HP2.out).mono ?_; rintro e w11 ⟨rfl, hs, hc⟩; have H12 := Lib.hid (And.intro hs hc); clear hs hc)
      | (go_at_call 15; refine (snum_any _ _).mono ?_; rintro e w6 ⟨rfl, rfl⟩)
      | fail)
    clear q20 q21 q22 q23
    obtain ⟨n2, n3, np, nq, nd, hbw9, s9, lp, lq, i4, i1, hpl, hql, j5, hb1, l2, l3, lv, lz⟩ := H11.out
    obtain ⟨s12, hc⟩ := H12.out
    have k2 := n2.chg hc (by omega)
    have k3 := n3.chg hc (by omega)
    have kp := np.chg hc (by omega)
    have kq := nq.chg hc (by omega)
    have kd := nd.chg hc (by omega)
    have hbF : Below w.heap.size w w11 := hbw9.trans (hc.below hbw9.size (fun k hk e => by have h2 := H1.out.2.1; have h3 := H1.out.2.2.1; have h4 := H1.out.2.2.2.2.size; omega))
    have HLn := Lib.hid (fun X (k : Below w11.heap.size w11 X) => len_any g bv2 bw2 0 _ _ X (s12.keep k))
    have HWz := Lib.hid (fun X (k : Below w11.heap.size w11 X) => (by have h := was_any g bv2 bw2 0 _ _ 7 h7 X (s12.keep k); rwa [fw2_was] at h : Calls Try.prog 12 #[.pointer (some ⟨g, 0, none⟩), W 7] X fun e w' => e = .returned (vP (5, 1)) ∧ Below X.heap.size X w'))
    have HBF := Lib.hid hbF
    have heq1 : ∀ X, (binOp .eql 36 (.agg #[.int .u64 (lb 5 0), .int .u64 (lb 5 1), .int .u64 (lb 5 2), .int .u64 (lb 5 3), .int .u64 1]) (.agg #[.int .u64 (lb 5 0), .int .u64 (lb 5 1), .int .u64 (lb 5 2), .int .u64 (lb 5 3), .int .u64 1])).run Try.prog X = .ok (.bool true) X := fun X => eqVal_any (5, 1) (5, 1) h5 h5 X
    have heq2 : ∀ X, (binOp .eql 36 (vP (5, 1)) (.agg #[.int .u64 (lb 5 0), .int .u64 (lb 5 1), .int .u64 (lb 5 2), .int .u64 (lb 5 3), .int .u64 1])).run Try.prog X = .ok (.bool true) X := fun X => eqVal_any (5, 1) (5, 1) h5 h5 X
    have heq0 : ∀ X, (binOp .eql 36 (.agg #[.int .u64 0, .int .u64 0, .int .u64 0, .int .u64 0, .int .u64 0]) (.agg #[.int .u64 0, .int .u64 0, .int .u64 0, .int .u64 0, .int .u64 0])).run Try.prog X = .ok (.bool true) X := fun X => by have h := eq0_any (0, 0) okP0 X; rw [vP0] at h; exact h
    have q20 : ∀ w', Below w11.heap.size w11 w' → w'.cell? ⟨B2, 0, none⟩ = some (.int .u64 (lb 7 0)) := fun w' k => cell_of_row _ _ 0 _ _ _ (k2.keep k)
    have q21 : ∀ w', Below w11.heap.size w11 w' → w'.cell? ⟨B2, 1, none⟩ = some (.int .u64 (lb 7 1)) := fun w' k => cell_of_row _ _ 1 _ _ _ (k2.keep k)
    have q22 : ∀ w', Below w11.heap.size w11 w' → w'.cell? ⟨B2, 2, none⟩ = some (.int .u64 (lb 7 2)) := fun w' k => cell_of_row _ _ 2 _ _ _ (k2.keep k)
    have q23 : ∀ w', Below w11.heap.size w11 w' → w'.cell? ⟨B2, 3, none⟩ = some (.int .u64 (lb 7 3)) := fun w' k => cell_of_row _ _ 3 _ _ _ (k2.keep k)
    have q30 : ∀ w', Below w11.heap.size w11 w' → w'.cell? ⟨(B2 + 1), 0, none⟩ = some (.int .u64 (lb 5 0)) := fun w' k => cell_of_row _ _ 0 _ _ _ (k3.keep k)
    have q31 : ∀ w', Below w11.heap.size w11 w' → w'.cell? ⟨(B2 + 1), 1, none⟩ = some (.int .u64 (lb 5 1)) := fun w' k => cell_of_row _ _ 1 _ _ _ (k3.keep k)
    have q32 : ∀ w', Below w11.heap.size w11 w' → w'.cell? ⟨(B2 + 1), 2, none⟩ = some (.int .u64 (lb 5 2)) := fun w' k => cell_of_row _ _ 2 _ _ _ (k3.keep k)
    have q33 : ∀ w', Below w11.heap.size w11 w' → w'.cell? ⟨(B2 + 1), 3, none⟩ = some (.int .u64 (lb 5 3)) := fun w' k => cell_of_row _ _ 3 _ _ _ (k3.keep k)
    have q34 : ∀ w', Below w11.heap.size w11 w' → w'.cell? ⟨(B2 + 1), 4, none⟩ = some (.int .u64 1) := fun w' k => cell_of_row _ _ 4 _ _ _ (k3.keep k)
    have qp0 : ∀ w', Below w11.heap.size w11 w' → w'.cell? ⟨gp, 0, none⟩ = some (.int .u64 (lb 5 0)) := fun w' k => cell_of_row _ _ 0 _ _ _ (kp.keep k)
    have qp1 : ∀ w', Below w11.heap.size w11 w' → w'.cell? ⟨gp, 1, none⟩ = some (.int .u64 (lb 5 1)) := fun w' k => cell_of_row _ _ 1 _ _ _ (kp.keep k)
    have qp2 : ∀ w', Below w11.heap.size w11 w' → w'.cell? ⟨gp, 2, none⟩ = some (.int .u64 (lb 5 2)) := fun w' k => cell_of_row _ _ 2 _ _ _ (kp.keep k)
    have qp3 : ∀ w', Below w11.heap.size w11 w' → w'.cell? ⟨gp, 3, none⟩ = some (.int .u64 (lb 5 3)) := fun w' k => cell_of_row _ _ 3 _ _ _ (kp.keep k)
    have qp4 : ∀ w', Below w11.heap.size w11 w' → w'.cell? ⟨gp, 4, none⟩ = some (.int .u64 1) := fun w' k => cell_of_row _ _ 4 _ _ _ (kp.keep k)
    have qq0 : ∀ w', Below w11.heap.size w11 w' → w'.cell? ⟨gq, 0, none⟩ = some (.int .u64 0) := fun w' k => (cell_of_row _ _ 0 _ _ _ (kq.keep k)).trans (by show some (Value.int .u64 (lb 0 0)) = _; rw [lb0])
    have qq1 : ∀ w', Below w11.heap.size w11 w' → w'.cell? ⟨gq, 1, none⟩ = some (.int .u64 0) := fun w' k => (cell_of_row _ _ 1 _ _ _ (kq.keep k)).trans (by show some (Value.int .u64 (lb 0 1)) = _; rw [lb0])
    have qq2 : ∀ w', Below w11.heap.size w11 w' → w'.cell? ⟨gq, 2, none⟩ = some (.int .u64 0) := fun w' k => (cell_of_row _ _ 2 _ _ _ (kq.keep k)).trans (by show some (Value.int .u64 (lb 0 2)) = _; rw [lb0])
    have qq3 : ∀ w', Below w11.heap.size w11 w' → w'.cell? ⟨gq, 3, none⟩ = some (.int .u64 0) := fun w' k => (cell_of_row _ _ 3 _ _ _ (kq.keep k)).trans (by show some (Value.int .u64 (lb 0 3)) = _; rw [lb0])
    have qq4 : ∀ w', Below w11.heap.size w11 w' → w'.cell? ⟨gq, 4, none⟩ = some (.int .u64 0) := fun w' k => cell_of_row _ _ 4 _ _ _ (kq.keep k)
    have qd0 : ∀ w', Below w11.heap.size w11 w' → w'.cell? ⟨gd, 0, none⟩ = some (.int .u64 (lb 5 0)) := fun w' k => cell_of_row _ _ 0 _ _ _ (kd.keep k)
    have qd1 : ∀ w', Below w11.heap.size w11 w' → w'.cell? ⟨gd, 1, none⟩ = some (.int .u64 (lb 5 1)) := fun w' k => cell_of_row _ _ 1 _ _ _ (kd.keep k)
    have qd2 : ∀ w', Below w11.heap.size w11 w' → w'.cell? ⟨gd, 2, none⟩ = some (.int .u64 (lb 5 2)) := fun w' k => cell_of_row _ _ 2 _ _ _ (kd.keep k)
    have qd3 : ∀ w', Below w11.heap.size w11 w' → w'.cell? ⟨gd, 3, none⟩ = some (.int .u64 (lb 5 3)) := fun w' k => cell_of_row _ _ 3 _ _ _ (kd.keep k)
    have qd4 : ∀ w', Below w11.heap.size w11 w' → w'.cell? ⟨gd, 4, none⟩ = some (.int .u64 1) := fun w' k => cell_of_row _ _ 4 _ _ _ (kd.keep k)
    clear n2 n3 np nq nd hbw9 s9 lp lq i4 i1 hpl hql j5 hb1 l2 l3 lv lz s12 hc k2 k3 kp kq kd hbF HP2
    have h0 : Below w11.heap.size w11 w11.drew := below_drew' (Below.refl _ _)
    refine wp_region_held_drew (S := fun w' => Below w11.heap.size w11 w') (by as_aux_lemma => kernel_rfl) h0 (fun hHeld => ?_)
    simp only [List.size_toArray, List.length_cons, List.length_nil, Nat.reduceAdd, Array.replicate_succ, Array.replicate_zero, List.push_toArray, List.nil_append, List.cons_append]
    refine wpAnyH_take (i := 0) (oi := { dst := some 38, op := Op.move (Operand.tmp 4), type := 3, pos := "law.go:23", after := #[], guard := none }) (v := ?vq0e) rfl (by as_aux_lemma => kernel_rfl) (by as_aux_lemma => kernel_rfl) (by as_aux_lemma => kernel_rfl) (fun _ _ _ h => h) (Or.inl ⟨by rfl, ?yq0e⟩) (by assumption) ?rq0e
    case yq0e => (intro w hSw; (try dsimp only at hSw); go_simp <;> with_reducible rfl)
    simp only [Act.put, List.setIfInBounds_toArray, List.set_cons_zero, List.set_cons_succ]
    refine wpAnyH_take (i := 1) (oi := { dst := some 39, op := Op.binOp BinOp.eql 3 (Operand.tmp 38) (Operand.const (Value.int IntKind.i64 0)) 3, type := 4, pos := "law.go:23", after := #[{ on := 0, ground := Ground.data }], guard := none }) (v := ?vq1e) rfl (by as_aux_lemma => kernel_rfl) (by as_aux_lemma => kernel_rfl) (by as_aux_lemma => kernel_rfl) (fun _ _ _ h => h) (Or.inl ⟨by rfl, ?yq1e⟩) (by assumption) ?rq1e
    case yq1e => (intro w hSw; (try dsimp only at hSw); go_simp <;> with_reducible rfl)
    simp only [Act.put, List.setIfInBounds_toArray, List.set_cons_zero, List.set_cons_succ]
    refine wpAnyH_take (i := 2) (oi := { dst := some 40, op := Op.move (Operand.tmp 39), type := 4, pos := "law.go:23", after := #[{ on := 1, ground := Ground.data }], guard := none }) (v := ?vq2e) rfl (by as_aux_lemma => kernel_rfl) (by as_aux_lemma => kernel_rfl) (by as_aux_lemma => kernel_rfl) (fun _ _ _ h => h) (Or.inl ⟨by rfl, ?yq2e⟩) (by assumption) ?rq2e
    case yq2e => (intro w hSw; (try dsimp only at hSw); go_simp <;> with_reducible rfl)
    simp only [Act.put, List.setIfInBounds_toArray, List.set_cons_zero, List.set_cons_succ]
    refine wpAnyH_take (i := 3) (oi := { dst := some 41, op := Op.load 36 (Operand.tmp 5), type := 36, pos := "law.go:23", after := #[{ on := 2, ground := Ground.guard }], guard := some (2, true) }) (v := ?vq3e) rfl (by as_aux_lemma => kernel_rfl) (by as_aux_lemma => kernel_rfl) (by as_aux_lemma => kernel_rfl) (fun _ _ _ h => h) (Or.inl ⟨by rfl, ?yq3e⟩) (by assumption) ?rq3e
    case yq3e => (intro w hSw; (try dsimp only at hSw); go_simp <;> with_reducible rfl)
    simp only [Act.put, List.setIfInBounds_toArray, List.set_cons_zero, List.set_cons_succ]
    refine wpAnyH_take (i := 4) (oi := { dst := some 42, op := Op.load 36 (Operand.tmp 3), type := 36, pos := "law.go:23", after := #[{ on := 2, ground := Ground.guard }], guard := some (2, true) }) (v := ?vq4e) rfl (by as_aux_lemma => kernel_rfl) (by as_aux_lemma => kernel_rfl) (by as_aux_lemma => kernel_rfl) (fun _ _ _ h => h) (Or.inl ⟨by rfl, ?yq4e⟩) (by assumption) ?rq4e
    case yq4e => (intro w hSw; (try dsimp only at hSw); go_simp <;> with_reducible rfl)
    simp only [Act.put, List.setIfInBounds_toArray, List.set_cons_zero, List.set_cons_succ]
    refine wpAnyH_take (i := 5) (oi := { dst := some 43, op := Op.binOp BinOp.eql 36 (Operand.tmp 41) (Operand.tmp 42) 36, type := 4, pos := "law.go:23", after := #[{ on := 3, ground := Ground.data }, { on := 4, ground := Ground.data }, { on := 2, ground := Ground.guard }], guard := some (2, true) }) (v := ?vq5e) rfl (by as_aux_lemma => kernel_rfl) (by as_aux_lemma => kernel_rfl) (by as_aux_lemma => kernel_rfl) (fun _ _ _ h => h) (Or.inl ⟨by rfl, ?yq5e⟩) (by assumption) ?rq5e
    case yq5e => (intro w hSw; (try dsimp only at hSw); go_simp <;> with_reducible rfl)
    simp only [Act.put, List.setIfInBounds_toArray, List.set_cons_zero, List.set_cons_succ]
    refine wpAnyH_take (i := 6) (oi := { dst := some 44, op := Op.pick (Operand.tmp 40) (Operand.tmp 43) (Operand.const (Value.bool false)), type := 4, pos := "law.go:23", after := #[{ on := 2, ground := Ground.data }, { on := 5, ground := Ground.data }], guard := none }) (v := ?vq6e) rfl (by as_aux_lemma => kernel_rfl) (by as_aux_lemma => kernel_rfl) (by as_aux_lemma => kernel_rfl) (fun _ _ _ h => h) (Or.inl ⟨by rfl, ?yq6e⟩) (by assumption) ?rq6e
    case yq6e => (intro w hSw; (try dsimp only at hSw); go_simp <;> with_reducible rfl)
    simp only [Act.put, List.setIfInBounds_toArray, List.set_cons_zero, List.set_cons_succ]
    refine wpAnyH_take (i := 7) (oi := { dst := some 45, op := Op.move (Operand.tmp 44), type := 4, pos := "law.go:23", after := #[{ on := 6, ground := Ground.data }, { on := 2, ground := Ground.chain }], guard := none }) (v := ?vq7e) rfl (by as_aux_lemma => kernel_rfl) (by as_aux_lemma => kernel_rfl) (by as_aux_lemma => kernel_rfl) (fun _ _ _ h => h) (Or.inl ⟨by rfl, ?yq7e⟩) (by assumption) ?rq7e
    case yq7e => (intro w hSw; (try dsimp only at hSw); go_simp <;> with_reducible rfl)
    simp only [Act.put, List.setIfInBounds_toArray, List.set_cons_zero, List.set_cons_succ]
    refine wpAnyH_take (i := 8) (oi := { dst := some 46, op := Op.load 36 (Operand.tmp 6), type := 36, pos := "law.go:23", after := #[{ on := 7, ground := Ground.guard }], guard := some (7, true) }) (v := ?vq8e) rfl (by as_aux_lemma => kernel_rfl) (by as_aux_lemma => kernel_rfl) (by as_aux_lemma => kernel_rfl) (fun _ _ _ h => h) (Or.inl ⟨by rfl, ?yq8e⟩) (by assumption) ?rq8e
    case yq8e => (intro w hSw; (try dsimp only at hSw); go_simp <;> with_reducible rfl)
    simp only [Act.put, List.setIfInBounds_toArray, List.set_cons_zero, List.set_cons_succ]
    refine wpAnyH_take (i := 9) (oi := { dst := some 47, op := Op.build 36 #[], type := 36, pos := "law.go:23", after := #[{ on := 7, ground := Ground.guard }], guard := some (7, true) }) (v := ?vq9e) rfl (by as_aux_lemma => kernel_rfl) (by as_aux_lemma => kernel_rfl) (by as_aux_lemma => kernel_rfl) (fun _ _ _ h => h) (Or.inl ⟨by rfl, ?yq9e⟩) (by assumption) ?rq9e
    case yq9e => (intro w hSw; (try dsimp only at hSw); go_simp <;> with_reducible rfl)
    simp only [Act.put, List.setIfInBounds_toArray, List.set_cons_zero, List.set_cons_succ]
    refine wpAnyH_take (i := 10) (oi := { dst := some 48, op := Op.binOp BinOp.eql 36 (Operand.tmp 46) (Operand.tmp 47) 36, type := 4, pos := "law.go:23", after := #[{ on := 8, ground := Ground.data }, { on := 9, ground := Ground.data }, { on := 7, ground := Ground.guard }], guard := some (7, true) }) (v := ?vq10e) rfl (by as_aux_lemma => kernel_rfl) (by as_aux_lemma => kernel_rfl) (by as_aux_lemma => kernel_rfl) (fun _ _ _ h => h) (Or.inl ⟨by rfl, ?yq10e⟩) (by assumption) ?rq10e
    case yq10e => (intro w hSw; (try dsimp only at hSw); go_simp <;> with_reducible rfl)
    simp only [Act.put, List.setIfInBounds_toArray, List.set_cons_zero, List.set_cons_succ]
    refine wpAnyH_take (i := 11) (oi := { dst := some 49, op := Op.pick (Operand.tmp 45) (Operand.tmp 48) (Operand.const (Value.bool false)), type := 4, pos := "law.go:23", after := #[{ on := 7, ground := Ground.data }, { on := 10, ground := Ground.data }], guard := none }) (v := ?vq11e) rfl (by as_aux_lemma => kernel_rfl) (by as_aux_lemma => kernel_rfl) (by as_aux_lemma => kernel_rfl) (fun _ _ _ h => h) (Or.inl ⟨by rfl, ?yq11e⟩) (by assumption) ?rq11e
    case yq11e => (intro w hSw; (try dsimp only at hSw); go_simp <;> with_reducible rfl)
    simp only [Act.put, List.setIfInBounds_toArray, List.set_cons_zero, List.set_cons_succ]
    refine wpAnyH_take (i := 12) (oi := { dst := some 50, op := Op.move (Operand.tmp 49), type := 4, pos := "law.go:23", after := #[{ on := 11, ground := Ground.data }, { on := 7, ground := Ground.chain }], guard := none }) (v := ?vq12e) rfl (by as_aux_lemma => kernel_rfl) (by as_aux_lemma => kernel_rfl) (by as_aux_lemma => kernel_rfl) (fun _ _ _ h => h) (Or.inl ⟨by rfl, ?yq12e⟩) (by assumption) ?rq12e
    case yq12e => (intro w hSw; (try dsimp only at hSw); go_simp <;> with_reducible rfl)
    simp only [Act.put, List.setIfInBounds_toArray, List.set_cons_zero, List.set_cons_succ]
    refine wpAnyH_take (i := 13) (oi := { dst := some 51, op := Op.load 36 (Operand.tmp 7), type := 36, pos := "law.go:23", after := #[{ on := 12, ground := Ground.guard }], guard := some (12, true) }) (v := ?vq13e) rfl (by as_aux_lemma => kernel_rfl) (by as_aux_lemma => kernel_rfl) (by as_aux_lemma => kernel_rfl) (fun _ _ _ h => h) (Or.inl ⟨by rfl, ?yq13e⟩) (by assumption) ?rq13e
    case yq13e => (intro w hSw; (try dsimp only at hSw); go_simp <;> with_reducible rfl)
    simp only [Act.put, List.setIfInBounds_toArray, List.set_cons_zero, List.set_cons_succ]
    refine wpAnyH_take (i := 14) (oi := { dst := some 52, op := Op.load 36 (Operand.tmp 3), type := 36, pos := "law.go:23", after := #[{ on := 12, ground := Ground.guard }], guard := some (12, true) }) (v := ?vq14e) rfl (by as_aux_lemma => kernel_rfl) (by as_aux_lemma => kernel_rfl) (by as_aux_lemma => kernel_rfl) (fun _ _ _ h => h) (Or.inl ⟨by rfl, ?yq14e⟩) (by assumption) ?rq14e
    case yq14e => (intro w hSw; (try dsimp only at hSw); go_simp <;> with_reducible rfl)
    simp only [Act.put, List.setIfInBounds_toArray, List.set_cons_zero, List.set_cons_succ]
    refine wpAnyH_take (i := 15) (oi := { dst := some 53, op := Op.binOp BinOp.eql 36 (Operand.tmp 51) (Operand.tmp 52) 36, type := 4, pos := "law.go:23", after := #[{ on := 13, ground := Ground.data }, { on := 14, ground := Ground.data }, { on := 12, ground := Ground.guard }], guard := some (12, true) }) (v := ?vq15e) rfl (by as_aux_lemma => kernel_rfl) (by as_aux_lemma => kernel_rfl) (by as_aux_lemma => kernel_rfl) (fun _ _ _ h => h) (Or.inl ⟨by rfl, ?yq15e⟩) (by assumption) ?rq15e
    case yq15e => (intro w hSw; (try dsimp only at hSw); go_simp <;> with_reducible rfl)
    simp only [Act.put, List.setIfInBounds_toArray, List.set_cons_zero, List.set_cons_succ]
    refine wpAnyH_take (i := 16) (oi := { dst := some 54, op := Op.pick (Operand.tmp 50) (Operand.tmp 53) (Operand.const (Value.bool false)), type := 4, pos := "law.go:23", after := #[{ on := 12, ground := Ground.data }, { on := 15, ground := Ground.data }], guard := none }) (v := ?vq16e) rfl (by as_aux_lemma => kernel_rfl) (by as_aux_lemma => kernel_rfl) (by as_aux_lemma => kernel_rfl) (fun _ _ _ h => h) (Or.inl ⟨by rfl, ?yq16e⟩) (by assumption) ?rq16e
    case yq16e => (intro w hSw; (try dsimp only at hSw); go_simp <;> with_reducible rfl)
    simp only [Act.put, List.setIfInBounds_toArray, List.set_cons_zero, List.set_cons_succ]
    refine wpAnyH_take (i := 17) (oi := { dst := some 55, op := Op.move (Operand.tmp 54), type := 4, pos := "law.go:23", after := #[{ on := 16, ground := Ground.data }, { on := 12, ground := Ground.chain }], guard := none }) (v := ?vq17e) rfl (by as_aux_lemma => kernel_rfl) (by as_aux_lemma => kernel_rfl) (by as_aux_lemma => kernel_rfl) (fun _ _ _ h => h) (Or.inl ⟨by rfl, ?yq17e⟩) (by assumption) ?rq17e
    case yq17e => (intro w hSw; (try dsimp only at hSw); go_simp <;> with_reducible rfl)
    simp only [Act.put, List.setIfInBounds_toArray, List.set_cons_zero, List.set_cons_succ]
    refine wpAnyH_take (i := 18) (oi := { dst := some 56, op := Op.move (Operand.tmp 1), type := 27, pos := "law.go:23", after := #[{ on := 17, ground := Ground.guard }], guard := some (17, true) }) (v := ?vq18e) rfl (by as_aux_lemma => kernel_rfl) (by as_aux_lemma => kernel_rfl) (by as_aux_lemma => kernel_rfl) (fun _ _ _ h => h) (Or.inl ⟨by rfl, ?yq18e⟩) (by assumption) ?rq18e
    case yq18e => (intro w hSw; (try dsimp only at hSw); go_simp <;> with_reducible rfl)
    simp only [Act.put, List.setIfInBounds_toArray, List.set_cons_zero, List.set_cons_succ]
    refine wpAnyH_ready (rs := [19]) (by as_aux_lemma => kernel_rfl) (by simp) ?_
    refine AllReadyH.cons (o := { dst := some 57, op := Op.call { callee := Callee.value (Operand.func 18), args := #[Operand.tmp 56], argTypes := #[27] }, type := 3, pos := "law.go:23", after := #[{ on := 18, ground := Ground.data }, { on := 17, ground := Ground.chain }, { on := 17, ground := Ground.guard }], guard := some (17, true) }) rfl (fun K hK => ?_) (by exact AllReadyH.nil)
    rw [if_pos (by rfl)]
    go_simp
    (go_at_call 18; refine (HLn.out _ hHeld).mono ?_; rintro e zz ⟨rfl, rfl⟩)
    refine hK.out _ _ (by (try dsimp only); (first | with_reducible assumption | exact hHeld)) (fun hHeld => ?_)
    clear hK K
    simp only [List.setIfInBounds_toArray, List.set_cons_zero, List.set_cons_succ]
    refine wpAnyH_take (i := 20) (oi := { dst := some 58, op := Op.binOp BinOp.eql 3 (Operand.tmp 57) (Operand.const (Value.int IntKind.i64 0)) 3, type := 4, pos := "law.go:23", after := #[{ on := 19, ground := Ground.data }, { on := 17, ground := Ground.guard }], guard := some (17, true) }) (v := ?vq20e) rfl (by as_aux_lemma => kernel_rfl) (by as_aux_lemma => kernel_rfl) (by as_aux_lemma => kernel_rfl) (fun _ _ _ h => h) (Or.inl ⟨by rfl, ?yq20e⟩) (by assumption) ?rq20e
    case yq20e => (intro w hSw; (try dsimp only at hSw); go_simp <;> with_reducible rfl)
    simp only [Act.put, List.setIfInBounds_toArray, List.set_cons_zero, List.set_cons_succ]
    refine wpAnyH_take (i := 21) (oi := { dst := some 59, op := Op.pick (Operand.tmp 55) (Operand.tmp 58) (Operand.const (Value.bool false)), type := 4, pos := "law.go:23", after := #[{ on := 17, ground := Ground.data }, { on := 20, ground := Ground.data }], guard := none }) (v := ?vq21e) rfl (by as_aux_lemma => kernel_rfl) (by as_aux_lemma => kernel_rfl) (by as_aux_lemma => kernel_rfl) (fun _ _ _ h => h) (Or.inl ⟨by rfl, ?yq21e⟩) (by assumption) ?rq21e
    case yq21e => (intro w hSw; (try dsimp only at hSw); go_simp <;> with_reducible rfl)
    simp only [Act.put, List.setIfInBounds_toArray, List.set_cons_zero, List.set_cons_succ]
    refine wpAnyH_take (i := 22) (oi := { dst := some 60, op := Op.move (Operand.tmp 59), type := 4, pos := "law.go:23", after := #[{ on := 21, ground := Ground.data }, { on := 19, ground := Ground.chain }], guard := none }) (v := ?vq22e) rfl (by as_aux_lemma => kernel_rfl) (by as_aux_lemma => kernel_rfl) (by as_aux_lemma => kernel_rfl) (fun _ _ _ h => h) (Or.inl ⟨by rfl, ?yq22e⟩) (by assumption) ?rq22e
    case yq22e => (intro w hSw; (try dsimp only at hSw); go_simp <;> with_reducible rfl)
    simp only [Act.put, List.setIfInBounds_toArray, List.set_cons_zero, List.set_cons_succ]
    refine wpAnyH_take (i := 23) (oi := { dst := some 61, op := Op.move (Operand.tmp 1), type := 27, pos := "law.go:23", after := #[{ on := 22, ground := Ground.guard }], guard := some (22, true) }) (v := ?vq23e) rfl (by as_aux_lemma => kernel_rfl) (by as_aux_lemma => kernel_rfl) (by as_aux_lemma => kernel_rfl) (fun _ _ _ h => h) (Or.inl ⟨by rfl, ?yq23e⟩) (by assumption) ?rq23e
    case yq23e => (intro w hSw; (try dsimp only at hSw); go_simp <;> with_reducible rfl)
    simp only [Act.put, List.setIfInBounds_toArray, List.set_cons_zero, List.set_cons_succ]
    refine wpAnyH_take (i := 24) (oi := { dst := some 62, op := Op.load 25 (Operand.tmp 2), type := 25, pos := "law.go:23", after := #[{ on := 22, ground := Ground.guard }], guard := some (22, true) }) (v := ?vq24e) rfl (by as_aux_lemma => kernel_rfl) (by as_aux_lemma => kernel_rfl) (by as_aux_lemma => kernel_rfl) (fun _ _ _ h => h) (Or.inl ⟨by rfl, ?yq24e⟩) (by assumption) ?rq24e
    case yq24e => (intro w hSw; (try dsimp only at hSw); go_simp <;> with_reducible rfl)
    simp only [Act.put, List.setIfInBounds_toArray, List.set_cons_zero, List.set_cons_succ]
    refine wpAnyH_take (i := 26) (oi := { dst := some 64, op := Op.load 36 (Operand.tmp 3), type := 36, pos := "law.go:23", after := #[{ on := 22, ground := Ground.guard }], guard := some (22, true) }) (v := ?vq25e) rfl (by as_aux_lemma => kernel_rfl) (by as_aux_lemma => kernel_rfl) (by as_aux_lemma => kernel_rfl) (fun _ _ _ h => h) (Or.inl ⟨by rfl, ?yq25e⟩) (by assumption) ?rq25e
    case yq25e => (intro w hSw; (try dsimp only at hSw); go_simp <;> with_reducible rfl)
    simp only [Act.put, List.setIfInBounds_toArray, List.set_cons_zero, List.set_cons_succ]
    refine wpAnyH_ready (rs := [25]) (by as_aux_lemma => kernel_rfl) (by simp) ?_
    refine AllReadyH.cons (o := { dst := some 63, op := Op.call { callee := Callee.value (Operand.func 12), args := #[Operand.tmp 61, Operand.tmp 62], argTypes := #[27, 25] }, type := 36, pos := "law.go:23", after := #[{ on := 23, ground := Ground.data }, { on := 24, ground := Ground.data }, { on := 22, ground := Ground.chain }, { on := 22, ground := Ground.guard }], guard := some (22, true) }) rfl (fun K hK => ?_) (by exact AllReadyH.nil)
    rw [if_pos (by rfl)]
    go_simp
    (go_at_call 12; refine (HWz.out _ hHeld).mono ?_; rintro e zz ⟨rfl, hz⟩)
    have hH2 := hHeld.trans (hz.mono hHeld.size)
    refine hK.out _ _ (by (try dsimp only); (first | with_reducible assumption | exact hHeld)) (fun hHeld => ?_)
    clear hK K
    simp only [List.setIfInBounds_toArray, List.set_cons_zero, List.set_cons_succ]
    refine wpAnyH_take (i := 27) (oi := { dst := some 65, op := Op.binOp BinOp.eql 36 (Operand.tmp 63) (Operand.tmp 64) 36, type := 4, pos := "law.go:23", after := #[{ on := 25, ground := Ground.data }, { on := 26, ground := Ground.data }, { on := 22, ground := Ground.guard }], guard := some (22, true) }) (v := ?vq27e) rfl (by as_aux_lemma => kernel_rfl) (by as_aux_lemma => kernel_rfl) (by as_aux_lemma => kernel_rfl) (fun _ _ _ h => h) (Or.inl ⟨by rfl, ?yq27e⟩) (by assumption) ?rq27e
    case yq27e => (intro w hSw; (try dsimp only at hSw); go_simp <;> with_reducible rfl)
    simp only [Act.put, List.setIfInBounds_toArray, List.set_cons_zero, List.set_cons_succ]
    refine wpAnyH_take (i := 28) (oi := { dst := some 66, op := Op.pick (Operand.tmp 60) (Operand.tmp 65) (Operand.const (Value.bool false)), type := 4, pos := "law.go:23", after := #[{ on := 22, ground := Ground.data }, { on := 27, ground := Ground.data }], guard := none }) (v := ?vq28e) rfl (by as_aux_lemma => kernel_rfl) (by as_aux_lemma => kernel_rfl) (by as_aux_lemma => kernel_rfl) (fun _ _ _ h => h) (Or.inl ⟨by rfl, ?yq28e⟩) (by assumption) ?rq28e
    case yq28e => (intro w hSw; (try dsimp only at hSw); go_simp <;> with_reducible rfl)
    simp only [Act.put, List.setIfInBounds_toArray, List.set_cons_zero, List.set_cons_succ]
    refine wpAnyH_take (i := 29) (oi := { dst := some 0, op := Op.assign (Operand.tmp 66), type := 4, pos := "law.go:23", after := #[{ on := 28, ground := Ground.data }, { on := 25, ground := Ground.chain }, { on := 0, ground := Ground.phase }, { on := 1, ground := Ground.phase }, { on := 2, ground := Ground.phase }, { on := 3, ground := Ground.phase }, { on := 4, ground := Ground.phase }, { on := 5, ground := Ground.phase }, { on := 6, ground := Ground.phase }, { on := 7, ground := Ground.phase }, { on := 8, ground := Ground.phase }, { on := 9, ground := Ground.phase }, { on := 10, ground := Ground.phase }, { on := 11, ground := Ground.phase }, { on := 12, ground := Ground.phase }, { on := 13, ground := Ground.phase }, { on := 14, ground := Ground.phase }, { on := 15, ground := Ground.phase }, { on := 16, ground := Ground.phase }, { on := 17, ground := Ground.phase }, { on := 18, ground := Ground.phase }, { on := 19, ground := Ground.phase }, { on := 20, ground := Ground.phase }, { on := 21, ground := Ground.phase }, { on := 22, ground := Ground.phase }, { on := 23, ground := Ground.phase }, { on := 24, ground := Ground.phase }, { on := 25, ground := Ground.phase }, { on := 26, ground := Ground.phase }, { on := 27, ground := Ground.phase }, { on := 28, ground := Ground.phase }], guard := none }) (v := ?vq29e) rfl (by as_aux_lemma => kernel_rfl) (by as_aux_lemma => kernel_rfl) (by as_aux_lemma => kernel_rfl) (fun _ _ _ h => h) (Or.inl ⟨by rfl, ?yq29e⟩) (by assumption) ?rq29e
    case yq29e => (intro w hSw; (try dsimp only at hSw); go_simp <;> with_reducible rfl)
    simp only [Act.put, List.setIfInBounds_toArray, List.set_cons_zero, List.set_cons_succ]
    refine wpAnyH_done (by as_aux_lemma => kernel_rfl) ?_ _
    clear hHeld
    go_wp2_with fail
    go_ret
    exact ⟨rfl, bstep HBF.out hH2⟩

end Go.Proofs.Ytcfnhilcpfiocaa
